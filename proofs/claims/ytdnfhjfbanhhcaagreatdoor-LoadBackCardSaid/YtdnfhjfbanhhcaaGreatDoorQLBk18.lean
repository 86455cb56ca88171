/-
  Steps.
-/
import Derived.Test.YtdnfhjfbanhhcaaGreatDoorProg
import Derived.Test.YtdnfhjfbanhhcaaGreatDoorQLBk13
import Derived.Lib.AppendStr
import Derived.Test.YtdnfhjfbanhhcaaGreatDoorQLBk17
namespace Go.Proofs.YtdnfhjfbanhhcaaGreatDoor
open Go Go.RowKit
def tpF (es:List En)(key v:ByteArray):Nat:=if okK key=false then 1 else if 2048<v.size then 5 else if isE es key=false∧4096≤es.length then 7 else 0
def tpL (es:List En)(key v:ByteArray):List En:=if tpF es key v=0 then rep es key [⟨key,v,[]⟩] else []
set_option maxRecDepth 100000 in
theorem y4y (a:Option Addr)(n c:Nat)(es:List En)(key:ByteArray)(w:World)(hn:es.length=n)(hs:ES entE w a es)(hl:n≤100000):
  Calls Tryz.prog 49 #[.slice a n c,.string key] w fun e w'=>e=.returned (.tuple #[.int .i64 (fE es key:Nat),.bool (isE es key)])∧Below w.heap.size w w':=by
 have hlt:=zh (fun i h=>q16 es key i h);have hat:=zh (q17 es key);have hle:=y18 es key;have hF:fE es key≤n:=by unfold z12 at hle;split at hle<;>omega
 have hie:=zh (y4f es key);rw[hn] at hie hat;have Hs:=zh hs;have Hn:=zh hn;clear hs hn hle;generalize isE es key=I at*;generalize fE es key=F at*
 go_enter Tryz.func49,Tryz.ntmps49
 go_wp2_with fail
 go_loopw [6] (fun i wr=>∃k:Nat,i=.int .i64 k∧k≤F∧w=wr) (fun i _=>n-(intOf i).toNat)
 case atStart=>exact⟨0,rfl,by omega,by first|trivial|rfl⟩
 case round=>
  obtain⟨k,rfl,hk,rfl⟩:=hrel
  by_cases hkF:k<F
  ·obtain⟨g,o,rfl,hcell⟩:=Hs.out.ents (by rw[Hn.out];omega);have q0:=(hcell k (by rw[Hn.out];omega)).1;have d1:Op.bytesLess (ea es k).k.toList key.toList=true:=hlt.out k hkF;have hkn:(k:Int)<(n:Int):=by omega
   generalize (ea es k).k=y at*;clear hcell;go_wp2
   go_roundw
   case rel=>exact⟨k+1,by go_num,by omega,by first|trivial|rfl⟩
   case measure=>simp[intOf];omega
  ·obtain rfl:k=F:=by omega
   obtain⟨W,hW⟩:∃W,w.drew=W:=⟨_,rfl⟩
   have hbd:Below w.heap.size w W:=by rw[←hW];exact(zbr _ _).drew
   have HW:=zh (zai hW hbd)
   by_cases hkn:k<n
   ·obtain⟨g,o,rfl,hcell⟩:=Hs.out.ents (by rw[Hn.out];omega);have q0:=(hcell k (by rw[Hn.out];omega)).1;have d1:Op.bytesLess (ea es k).k.toList key.toList=false:=hat.out hkn;have hI:Hid (I=((ea es k).k.toList==key.toList)):=by show _=_;rw[hie.out,zdt hkn,Bool.true_and]
    obtain⟨D,hD⟩:∃D,((ea es k).k.toList==key.toList)=D:=⟨_,rfl⟩
    rw[hD] at hI;have hknI:(k:Int)<(n:Int):=by omega
    have l0:=block_lt_of_cell q0;have q1:∀w',Ext W w'→w'.cell? ⟨g,o+k*2,none⟩=some (.string (ea es k).k):=fun w' hx=>by
     rw[(hbd.trans (hx.mono hbd.size)).cell (p:=⟨g,o+k*2,none⟩) l0];exact q0
    generalize (ea es k).k=y at*;have i1:(0:Int)≤(k:Int):=by omega
    have z0:IntKind.i64.wrap (k:Int)=(k:Int):=by rw[IntKind.wrap_i64];omega
    clear hcell hie hat hlt hW hbd l0;go_wp2_with fail;refine z0n [(0,true),(1,true),(2,true),(3,true),(4,true),(5,true),(6,true),(7,true),(8,true),(9,true),(10,true),(11,true),(12,true),(13,true),(14,true),(15,true)] (by kernel_rfl) (by kernel_rfl) (by kernel_rfl) (by kernel_rfl) (fun _ _ _ _ _ h=>h) ?_;rw[HW.out.1];iterate 16 (first|(refine grr (v:= ?_) rfl (by rfl) ?_ ?_;rotate_left;(intro w' hw';go_simp;with_reducible rfl);simp only[Act.put,zs0,zs1,zs2])|(refine z53 (o:=⟨_,_,_,_,_,_⟩) rfl (by rfl) ?_;simp only[Act.put,zs0,zs1,zs2]))
    refine z07 ?_;go_wp2_with fail
    go_ret2
    exact⟨by rw[hI.out];rfl,HW.out.2⟩
   ·have hI:Hid (I=false):=by show _=_;rw[hie.out,zdf hkn,Bool.false_and]
    have hknI:¬(k:Int)<(n:Int):=by omega
    clear hie hat hlt hW hbd;go_wp2_with fail;refine z0n [(0,true),(1,true),(2,true),(3,true),(4,true),(5,true),(6,true),(7,true),(8,true),(9,true),(10,true),(11,true),(12,true),(13,true),(14,true),(15,true)] (by kernel_rfl) (by kernel_rfl) (by kernel_rfl) (by kernel_rfl) (fun _ _ _ _ _ h=>h) ?_;rw[HW.out.1];iterate 16 (first|(refine grr (v:= ?_) rfl (by rfl) ?_ ?_;rotate_left;(intro w' hw';go_simp;with_reducible rfl);simp only[Act.put,zs0,zs1,zs2])|(refine z53 (o:=⟨_,_,_,_,_,_⟩) rfl (by rfl) ?_;simp only[Act.put,zs0,zs1,zs2]))
    refine z07 ?_;go_wp2_with fail
    go_ret2
    exact⟨by rw[hI.out];rfl,HW.out.2⟩
theorem y01 {w:World}{g o c n r:Nat}{es:List En}(hs:ES entE w (some ⟨g,o,none⟩) es)(hn:es.length=n)(hr:r≤n)(hnc:n≤c):
  ∃A3,(if c=r then some (⟨g,o,none⟩:Addr) else some ⟨g,o+r*2,none⟩)=A3∧ES entE w A3 (es.drop r)∧(A3=none→c-r=0):=by
 refine⟨_,rfl,?_,fun h=>by split at h<;>cases h⟩
 by_cases h:c=r
 ·rw[if_pos h,List.drop_of_length_le (by omega)];obtain⟨ht⟩:∃_:RT w g entE.ty,True:=by
   rcases hs with ⟨h,_⟩|⟨g',o',h,ht,_⟩
   ·cases h
   ·cases h;exact⟨ht,trivial⟩
  exact .inr ⟨g,o,rfl,ht,fun j u hu=>by simp[Elt.row] at hu⟩
 ·rw[if_neg h];exact hs.drop r _ (by omega) rfl
set_option maxRecDepth 100000 in
theorem x4w (a:Option Addr)(n c:Nat)(es:List En)(key v:ByteArray)(w:World)(h:okK key=false∨2048<v.size):
  Calls Tryz.prog 27 #[.slice a n c,.string key,.string v] w fun e w'=>e=.returned (.tuple #[nilS,.int .i64 (tpF es key v:Nat)])∧w=w':=by
 by_cases hk:okK key=false
 ·have ht:Hid (tpF es key v=1):=by show _=_;unfold tpF;rw[if_pos hk]
  have hk2:key.size<1∨40<key.size:=by
   unfold okK at hk;rw[decide_eq_false_iff_not] at hk;omega
  generalize tpF es key v=T at*
  by_cases h1:key.size<1
  ·have d1:decide ((key.size:Int)<1)=true:=zdt (by omega);clear hk hk2 h
   go_enter Tryz.func27,Tryz.ntmps27
   go_wp2
   go_ret2
   exact⟨by rw[ht.out];rfl,rfl⟩
  ·have d1:decide ((key.size:Int)<1)=false:=zdf (by omega);have d2:decide (40<(key.size:Int))=true:=zdt (by omega);clear hk hk2 h h1
   go_enter Tryz.func27,Tryz.ntmps27
   go_wp2
   go_ret2
   exact⟨by rw[ht.out];rfl,rfl⟩
 ·have hk2:1≤key.size∧key.size≤40:=z1a (by simpa using hk);have hv:2048<v.size:=by rcases h with h|h;exact absurd h hk;exact h
  have ht:Hid (tpF es key v=5):=by show _=_;unfold tpF;rw[if_neg hk,if_pos hv]
  generalize tpF es key v=T at*;have d1:decide ((key.size:Int)<1)=false:=zdf (by omega);have d2:decide (40<(key.size:Int))=false:=zdf (by omega);have d3:decide (2048<(v.size:Int))=true:=zdt (by omega);clear hk hk2 h hv
  go_enter Tryz.func27,Tryz.ntmps27
  go_wp2
  go_ret2
  exact⟨by rw[ht.out];rfl,rfl⟩
set_option maxRecDepth 100000 in
theorem y62 (a:Option Addr)(n c:Nat)(es:List En)(key v:ByteArray)(w:World)(hn:es.length=n)(hs:ES entE w a es)(hl:n≤100000)(hk:okK key=true)(hv:v.size≤2048)(hI:isE es key=false)(h4:4096≤n):
  Calls Tryz.prog 27 #[.slice a n c,.string key,.string v] w fun e w'=>e=.returned (.tuple #[nilS,.int .i64 (tpF es key v:Nat)])∧Below w.heap.size w w':=by
 have hk2:=z1a hk;have ht:Hid (tpF es key v=7):=by show _=_;unfold tpF;rw[if_neg (by rw[hk];decide),if_neg (by omega),if_pos ⟨hI,by omega⟩]
 have Hat:=zh (y4y a n c es key w hn hs hl);rw[hI] at Hat;generalize tpF es key v=T at*;have d1:decide ((key.size:Int)<1)=false:=zdf (by omega);have d2:decide (40<(key.size:Int))=false:=zdf (by omega);have d3:decide (2048<(v.size:Int))=false:=zdf (by omega);have d4:decide ((4096:Int)≤(n:Int))=true:=zdt (by omega);clear hk hk2 hv hI h4 hs hn
 go_enter Tryz.func27,Tryz.ntmps27
 go_wp2_with fail;refine Hat.out.mono ?_;rintro e w1 ⟨rfl,hb1⟩;have HB:=zh hb1;clear hb1 Hat;go_wp2
 go_ret2
 exact⟨by rw[ht.out];rfl,HB.out⟩
set_option maxRecDepth 100000 in
set_option maxHeartbeats 1000000 in
theorem x0w (a:Option Addr)(n c:Nat)(es:List En)(key v:ByteArray)(w:World)(hn:es.length=n)(hs:ES entE w a es)(hl:n≤100000)(hz:a=none→c=0)(hnc:n≤c)(hcm:c≤maxLen)(hk:okK key=true)(hv:v.size≤2048)(hno:isE es key=false→n<4096):
  Calls Tryz.prog 27 #[.slice a n c,.string key,.string v] w fun e w'=>∃u,e=.returned (.tuple #[u,.int .i64 0])∧EV entE w' u (rep es key [⟨key,v,[]⟩])∧Below w.heap.size w w':=by
 have hk2:=z1a hk;have Hat:=zh (y4y a n c es key w hn hs hl);have d1:decide ((key.size:Int)<1)=false:=zdf (by omega);have d2:decide (40<(key.size:Int))=false:=zdf (by omega);have d3:decide (2048<(v.size:Int))=false:=zdf (by omega);have hle:=y18 es key;have hgo:z12 es key=if isE es key=true then 1 else 0:=rfl
 have hcm':c≤9223372036854775807:=by unfold maxLen at hcm;omega
 --what stands behind the appends
 have key1:∀(w1:World) (A2 A3:Option Addr) (r:Nat),r=fE es key+z12 es key→Below w.heap.size w w1→ES entE w A2 (es.take (fE es key))→(A2=none→c=0)→ES entE w A3 (es.drop r)→(A3=none→c-r=0)→
   ∃v2 w2,(Builtin.append_ #[SRET,SRET] SRET #[nilS,.slice A2 (fE es key) c]).run Tryz.prog w1=.ok v2 w2∧∃v3 w3,(Builtin.append_ #[SRET,SRET] SRET #[v2,.slice (some ⟨w2.heap.size,0,none⟩) 1 1]).run Tryz.prog (w2.alloc (.cells #[.string key,.string v] RET))=.ok v3 w3∧
    ∃v4 w4,(Builtin.append_ #[SRET,SRET] SRET #[v3,.slice A3 (n-r) (c-r)]).run Tryz.prog w3=.ok v4 w4∧EV entE w4 v4 (rep es key [⟨key,v,[]⟩])∧Below w.heap.size w w4:=fun w1 A2 A3 r hr hb1 h2 hz2 h3 hz3=>by
  have hF:fE es key≤n:=by omega
  obtain⟨v2,w2,r2,hb2,ho2⟩:=z08 (P:=Tryz.prog) (w:=w1) (E:=entE) w.heap.size SRET SRET RET Tryz.underlying29 x4a nilS 0 [] (World.ownsRow_nil _ _ _ _) hb1.size A2 (fE es key) c (es.take (fE es key)) (by rw[zlk];omega) hz2 (h2.below hb1 (zlr _)) (by unfold maxLen;omega) (by show _*32≤_;omega);have hbw2:=hb1.trans hb2;have hba:Below w2.heap.size w2 (w2.alloc (.cells #[.string key,.string v] RET)):=(zbr _ _).alloc (zlr _) _;have hbwa:=hbw2.trans (hba.mono hbw2.size);have hlit:ES entE (w2.alloc (.cells #[.string key,.string v] RET)) (some ⟨w2.heap.size,0,none⟩) [⟨key,v,[]⟩]:=ES.lit (E:=entE) (l:=[⟨key,v,[]⟩]) (z0h w2 _ _);obtain⟨v3,w3,r3,hb3,ho3⟩:=z08 (P:=Tryz.prog) (w:=w2.alloc (.cells #[.string key,.string v] RET)) (E:=entE) w.heap.size SRET SRET RET Tryz.underlying29 x4a v2 (0+fE es key) ([]++es.take (fE es key)) (ho2.alloc _) hbwa.size (some ⟨w2.heap.size,0,none⟩) 1 1 [⟨key,v,[]⟩] rfl (fun h=>by cases h) hlit (by unfold maxLen;omega) (by show _*32≤_;omega);have hbw3:=hbwa.trans hb3;obtain⟨v4,w4,r4,hb4,ho4⟩:=z08 (P:=Tryz.prog) (w:=w3) (E:=entE) w.heap.size SRET SRET RET Tryz.underlying29 x4a v3 (0+fE es key+1) ([]++es.take (fE es key)++[⟨key,v,[]⟩]) ho3 hbw3.size A3 (n-r) (c-r) (es.drop r) (by rw[zld,hn]) hz3 (h3.below hbw3 (zlr _)) (by unfold maxLen;omega) (by show _*32≤_;omega);refine⟨v2,w2,r2,v3,w3,r3,v4,w4,r4,z1u (B:=w.heap.size) (T:=RET) ?_,hbw3.trans hb4⟩;have e1:rep es key [⟨key,v,[]⟩]=[]++es.take (fE es key)++[⟨key,v,[]⟩]++es.drop r:=by rw[hr];unfold rep;simp
  have e2:(rep es key [⟨key,v,[]⟩]).length=0+fE es key+1+(n-r):=by rw[e1];simp only[zla,zlk,zld,List.length_cons,List.length_nil];omega
  rw[e2,e1];exact ho4
 have Key1:=zh key1;clear key1 hk hk2 hv
 rcases hs with ⟨rfl,rfl⟩|⟨g,o,rfl,hc⟩
 ·obtain rfl:n=0:=hn.symm;obtain rfl:=hz rfl;have hI:isE ([]:List En) key=false:=rfl;have hF:fE ([]:List En) key=0:=rfl;rw[hI,hF] at Hat;have K1:Hid (∀w1,Below w.heap.size w w1→_):=fun w1 h1=>Key1.out w1 none none 0 rfl h1 (ES.nil _) (fun _=>rfl) (ES.nil _) (fun _=>rfl)
  rw[hF] at K1;have z00:IntKind.i64.wrap 0=0:=by decide
  clear Key1 hle hgo hnc hcm hcm' hl hz hno hn hI hF
  go_enter Tryz.func27,Tryz.ntmps27
  go_wp2_with fail;refine Hat.out.mono ?_;rintro e w1 ⟨rfl,hb1⟩;obtain⟨v2,w2,r2,v3,w3,r3,v4,w4,r4,hev,hb⟩:=K1.out w1 hb1;have Hev:=zh (zai hev hb);clear hev hb hb1 K1 Hat
  go_wp2_with (at_builtin;first|refine Lib.wpList_append_run _ rfl (.tmp 35) (.tmp 38) _ _ rfl _ _ (by rfl) (by rfl) _ _ r2 ?_|refine Lib.wpList_append_run _ rfl (.tmp 39) (.tmp 43) _ _ rfl _ _ (by rfl) (by rfl) _ _ r3 ?_|refine Lib.wpList_append_run _ rfl (.tmp 48) (.tmp 51) _ _ rfl _ _ (by rfl) (by rfl) _ _ r4 ?_)
  go_ret2
  exact⟨v4,rfl,Hev.out.1,Hev.out.2⟩
 ·have hs:ES entE w (some ⟨g,o,none⟩) es:=.inr ⟨g,o,rfl,hc⟩;have hF:fE es key≤n:=by omega
  have hs2:=hs.take (fE es key);have z0:IntKind.i64.wrap ((fE es key:Nat):Int)=((fE es key:Nat):Int):=by rw[IntKind.wrap_i64];omega
  cases hI:isE es key with
  | false=>
   rw[hI] at Hat;have hgo0:z12 es key=0:=by rw[hgo,hI];rfl
   obtain⟨A3,hA3,hs3,hz3⟩:=y01 hs hn hF hnc;have K1:=zh (fun w1 h1=>Key1.out w1 _ A3 (fE es key) (by omega) h1 hs2 (fun h=>by cases h) hs3 hz3);have d4:decide ((4096:Int)≤(n:Int))=false:=zdf (by have:=hno hI;omega);have i1:(0:Int)≤((fE es key:Nat):Int):=by omega
   have i2:((fE es key:Nat):Int)≤(c:Int):=by omega
   have i3:((fE es key:Nat):Int)≤(n:Int):=by omega
   have i5:(n:Int)≤(c:Int):=by omega
   have j2:fE es key≤c:=by omega
   clear Key1 hle hgo hcm hl hz hno hn hI hgo0 hs hs2 hs3 hz3 hc;generalize fE es key=F at*
   go_enter Tryz.func27,Tryz.ntmps27
   go_wp2_with fail;refine Hat.out.mono ?_;rintro e w1 ⟨rfl,hb1⟩;obtain⟨v2,w2,r2,v3,w3,r3,v4,w4,r4,hev,hb⟩:=K1.out w1 hb1;have Hev:=zh (zai hev hb);clear hev hb hb1 K1 Hat
   go_wp2_with (at_builtin;first|refine Lib.wpList_append_run _ rfl (.tmp 35) (.tmp 38) _ _ rfl _ _ (by rfl) (by rfl) _ _ r2 ?_|refine Lib.wpList_append_run _ rfl (.tmp 39) (.tmp 43) _ _ rfl _ _ (by rfl) (by rfl) _ _ r3 ?_|refine Lib.wpList_append_run _ rfl (.tmp 48) (.tmp 51) _ _ rfl _ _ (by rfl) (by rfl) _ _ r4 ?_)
   go_ret2
   exact⟨v4,rfl,Hev.out.1,Hev.out.2⟩
  | true=>
   rw[hI] at Hat;have hgo1:z12 es key=1:=by rw[hgo,hI];rfl
   obtain⟨r,hr⟩:∃r,r=fE es key+1:=⟨_,rfl⟩
   have hrn:r≤n:=by omega
   obtain⟨A3,hA3,hs3,hz3⟩:=y01 hs hn hrn hnc;have K1:=zh (fun w1 h1=>Key1.out w1 _ A3 r (by omega) h1 hs2 (fun h=>by cases h) hs3 hz3);have z1:IntKind.i64.wrap (((fE es key:Nat):Int)+1)=(r:Int):=by rw[IntKind.wrap_i64];omega
   have z2:IntKind.i64.wrap (r:Int)=(r:Int):=by rw[IntKind.wrap_i64];omega
   have z3:((fE es key:Nat):Int)+1=(r:Int):=by omega
   have i1:(0:Int)≤((fE es key:Nat):Int):=by omega
   have i2:((fE es key:Nat):Int)≤(c:Int):=by omega
   have i3:((fE es key:Nat):Int)≤(n:Int):=by omega
   have i5:(n:Int)≤(c:Int):=by omega
   have i6:(r:Int)≤(n:Int):=by omega
   have i7:(0:Int)≤(r:Int):=by omega
   have j2:fE es key≤c:=by omega
   clear Key1 hle hgo hcm hl hz hno hn hI hgo1 hs hs2 hs3 hz3 hc hr;generalize fE es key=F at*
   go_enter Tryz.func27,Tryz.ntmps27
   go_wp2_with fail;refine Hat.out.mono ?_;rintro e w1 ⟨rfl,hb1⟩;obtain⟨v2,w2,r2,v3,w3,r3,v4,w4,r4,hev,hb⟩:=K1.out w1 hb1;have Hev:=zh (zai hev hb);clear hev hb hb1 K1 Hat
   go_wp2_with (at_builtin;first|refine Lib.wpList_append_run _ rfl (.tmp 35) (.tmp 38) _ _ rfl _ _ (by rfl) (by rfl) _ _ r2 ?_|refine Lib.wpList_append_run _ rfl (.tmp 39) (.tmp 43) _ _ rfl _ _ (by rfl) (by rfl) _ _ r3 ?_|refine Lib.wpList_append_run _ rfl (.tmp 48) (.tmp 51) _ _ rfl _ _ (by rfl) (by rfl) _ _ r4 ?_)
   go_ret2
   exact⟨v4,rfl,Hev.out.1,Hev.out.2⟩
theorem x0x (a:Option Addr)(n c:Nat)(es:List En)(key v:ByteArray)(w:World)(hn:es.length=n)(hs:ES entE w a es)(hl:n≤100000)(hz:a=none→c=0)(hnc:n≤c)(hcm:c≤maxLen):
  Calls Tryz.prog 27 #[.slice a n c,.string key,.string v] w fun e w'=>∃u,e=.returned (.tuple #[u,.int .i64 (tpF es key v:Nat)])∧EV entE w' u (tpL es key v)∧Below w.heap.size w w':=by
 by_cases hk:okK key=false∨2048<v.size
 ·refine(x4w a n c es key v w hk).mono ?_;rintro e w' ⟨rfl,rfl⟩;refine⟨_,rfl,?_,zbr _ _⟩;have:tpL es key v=[]:=by
   unfold tpL tpF
   rcases hk with hk|hk
   ·rw[if_pos hk];rfl
   ·by_cases hk1:okK key=false
    ·rw[if_pos hk1];rfl
    ·rw[if_neg hk1,if_pos hk];rfl
  rw[this];exact EV.none _
 ·have hk1:okK key=true:=by simpa using fun h=>hk (.inl h)
  have hv1:v.size≤2048:=by
   rcases zng 2048 v.size with h|h
   ·exact absurd (.inr h) hk
   ·exact h
  by_cases hf:isE es key=false∧4096≤n
  ·refine(y62 a n c es key v w hn hs hl hk1 hv1 hf.1 hf.2).mono ?_;rintro e w' ⟨rfl,hb⟩;refine⟨_,rfl,?_,hb⟩;have h7:tpF es key v=7:=by unfold tpF;rw[if_neg (by rw[hk1];decide),if_neg (by omega),if_pos ⟨hf.1,by omega⟩]
   have:tpL es key v=[]:=by unfold tpL;rw[h7];rfl
   rw[this];exact EV.none _
  ·refine(x0w a n c es key v w hn hs hl hz hnc hcm hk1 hv1 (fun h=>by
    rcases zng n 4096 with h2|h2
    ·exact h2
    ·exact absurd ⟨h,h2⟩ hf)).mono ?_
   rintro e w' ⟨u,rfl,hev,hb⟩;have ht:tpF es key v=0:=by unfold tpF;rw[if_neg (by rw[hk1];decide),if_neg (by omega),if_neg (by rw[hn];exact hf)]
   exact⟨u,by rw[ht];rfl,by unfold tpL;rw[ht];exact hev,hb⟩
set_option maxRecDepth 100000 in
theorem x8h (a b:Option Addr)(n c d:Nat)(es:List En)(w:World)(hn:es.length=n)(h1:ES entE w a es)(h2:ES entE w b es)(hl:n≤100000):
  Calls Tryz.prog 24 #[.slice a n c,.slice b n d] w fun e w'=>e=.returned (.bool true)∧Below w.heap.size w w':=by
 have H1:=zh h1;have H2:=zh h2;have Hn:=zh hn;clear h1 h2 hn
 go_enter Tryz.func24,Tryz.ntmps24
 go_wp2_with fail
 go_loopw [5] (fun i wr=>∃k:Nat,i=.int .i64 k∧k≤n∧Hid (Below w.heap.size w wr)) (fun i _=>n-(intOf i).toNat)
 case atStart=>exact⟨0,rfl,by omega,zbr _ _⟩
 case round=>
  obtain⟨k,rfl,hk,hB⟩:=hrel
  by_cases hlt:k<n
  ·obtain⟨g,o,rfl,hcell⟩:=(H1.out.below hB.out (zlr _)).ents (by rw[Hn.out];omega);obtain⟨g2,o2,rfl,hcell2⟩:=(H2.out.below hB.out (zlr _)).ents (by rw[Hn.out];omega);obtain⟨p0,p1⟩:=hcell k (by rw[Hn.out];exact hlt);obtain⟨p2,p3⟩:=hcell2 k (by rw[Hn.out];exact hlt);obtain⟨W,hW⟩:∃W,wr.drew=W:=⟨_,rfl⟩
   have hbd:Below wr.heap.size wr W:=by rw[←hW];exact(zbr _ _).drew
   have l0:=block_lt_of_cell p0;have l1:=block_lt_of_cell p2;have q0:∀w',Ext W w'→w'.cell? ⟨g,o+k*2,none⟩=some (.string (ea es k).k):=fun w' hx=>by
    rw[(hbd.trans (hx.mono hbd.size)).cell (p:=⟨g,o+k*2,none⟩) l0];exact p0
   have q1:∀w',Ext W w'→w'.cell? ⟨g,o+k*2+1,none⟩=some (.string (ea es k).v):=fun w' hx=>by
    rw[(hbd.trans (hx.mono hbd.size)).cell (p:=⟨g,o+k*2+1,none⟩) l0];exact p1
   have q2:∀w',Ext W w'→w'.cell? ⟨g2,o2+k*2,none⟩=some (.string (ea es k).k):=fun w' hx=>by
    rw[(hbd.trans (hx.mono hbd.size)).cell (p:=⟨g2,o2+k*2,none⟩) l1];exact p2
   have q3:∀w',Ext W w'→w'.cell? ⟨g2,o2+k*2+1,none⟩=some (.string (ea es k).v):=fun w' hx=>by
    rw[(hbd.trans (hx.mono hbd.size)).cell (p:=⟨g2,o2+k*2+1,none⟩) l1];exact p3
   have HW:=zh hW;have HB2:=zh (hB.out.trans (hbd.mono hB.out.size));generalize ea es k=y at*;obtain⟨y0,y1⟩:=y;dsimp only at q0 q1 q2 q3;have i1:(0:Int)≤(k:Int):=by omega
   have i2:(k:Int)<(n:Int):=by omega
   have z0:IntKind.i64.wrap (k:Int)=(k:Int):=by rw[IntKind.wrap_i64];omega
   clear p0 p1 p2 p3 hcell hcell2 l0 l1 hbd hW hB;go_wp2_with fail;refine z0n [(0,true),(1,true),(2,true),(3,true),(4,true),(5,true),(6,true),(7,true),(8,true)] (by kernel_rfl) (by kernel_rfl) (by kernel_rfl) (by kernel_rfl) (fun _ _ _ _ _ h=>h) ?_;rw[HW.out];iterate 9 (refine grr (v:= ?_) rfl (by rfl) ?_ ?_;rotate_left;(intro w' hw';go_simp;with_reducible rfl);simp only[Act.put,zs0,zs1,zs2])
   refine z07 ?_;clear q0 q1 q2 q3;go_wp2_with fail
   go_roundw
   case rel=>exact⟨k+1,by go_num,by omega,HB2⟩
   case measure=>simp[intOf];omega
  ·obtain rfl:k=n:=by omega
   go_wp2;go_ret;exact⟨rfl,hB.out⟩
end Go.Proofs.YtdnfhjfbanhhcaaGreatDoor
namespace Go.Proofs.YtdnfhjfbanhhcaaGreatDoor
open Go.ChangeShapes Go.WideShapes Go.RowKit Go.Deep
theorem x8i:Tryz.prog.cellsOf 22=1:=by kernel_rfl
theorem x0y:Tryz.prog.cellsOf 23=2:=by kernel_rfl
theorem x8j (l:List Value)(h:l.length=2):∃a b,l=[a,b]:=by
 match l,h with
 | [a,b],_=>exact⟨a,b,rfl⟩
set_option maxRecDepth 100000 in
theorem x0z {H:Type}{enc:TypeId×Value→H}{W:World}{base:Nat}{v:Value}{d:DataW H}{p:List MemPlace}
  (hok:Value.okWide Tryz.prog W .any base 23 v) (hj:DataW.Trod enc Tryz.prog W 0 (fun _=>true) true 23 v d p):
  ∃x y:Nat,v=.agg #[.int .u16 x,.int .u16 y]∧x<65536∧y<65536:=by
 simp only[Value.okWide,Tryz.underlying23] at hok;obtain⟨cs,rfl,hsz,_⟩:=hok;rw[x0y] at hsz;obtain⟨fuel,hf⟩:=hj;obtain⟨u,t,hl⟩:=x8j cs.toList (by simpa using hsz);have hcs:(Value.agg cs).cells.toList=[u,t]:=hl;rw[hcs] at hf;obtain⟨xs,m,_,_,_,hxl,hx⟩:=DataW.trod_array Tryz.underlying23 hf;have h0:=hx 0 (by omega);have h1:=hx 1 (by omega);rw[x8i] at h0 h1;rw[List.getElem?_eq_getElem (by omega)] at h0 h1;obtain⟨a,ha,_,wa⟩:=DataW.trod_int Tryz.underlying22 h0;obtain⟨b,hb,_,wb⟩:=DataW.trod_int Tryz.underlying22 h1;simp at ha hb;subst ha;subst hb;have ba:=bounds_u16 wa;have bb:=bounds_u16 wb;refine⟨a.toNat,b.toNat,?_,by omega,by omega⟩;have:cs= #[.int .u16 a,.int .u16 b]:=Array.toList_inj.1 hl;rw[this]
 congr 3
 ·congr 1;omega
 ·congr 2;omega
end Go.Proofs.YtdnfhjfbanhhcaaGreatDoor
namespace Go.Proofs.YtdnfhjfbanhhcaaGreatDoor
open Go Go.RowKit
abbrev CU8:TypeId:=5
abbrev CBS:TypeId:=46
theorem y02 (p:Int)(w:World):Calls Tryz.prog 153 #[.int .i64 p] w fun e w'=>e=.returned (.bool (z6k p))∧w=w':=by
 unfold z6k
 by_cases h0:p=0
 ·subst h0
  go_enter Tryz.func153,Tryz.ntmps153
  go_wp2;go_ret;exact⟨rfl,rfl⟩
 ·have e0:(p==0)=false:=by simpa using h0
  have e1:decide (p=0)=false:=zdf h0
  by_cases h2:2≤p
  ·have e2:decide (2≤p)=true:=zdt h2
   by_cases h3:p<1024
   ·have e3:decide (p<1024)=true:=zdt h3;rw[e1,e2,e3];clear h0
    go_enter Tryz.func153,Tryz.ntmps153
    go_wp2;go_ret;exact⟨rfl,rfl⟩
   ·have e3:decide (p<1024)=false:=zdf h3;rw[e1,e2,e3];clear h0
    go_enter Tryz.func153,Tryz.ntmps153
    go_wp2;go_ret;exact⟨rfl,rfl⟩
  ·have e2:decide (2≤p)=false:=zdf h2;rw[e1,e2];clear h0
   go_enter Tryz.func153,Tryz.ntmps153
   go_wp2;go_ret;exact⟨rfl,rfl⟩
theorem z9n (p:Int)(w:World):Calls Tryz.prog 154 #[.int .i64 p] w fun e w'=>e=.returned (.bool (z6l p))∧w=w':=by
 unfold z6l
 by_cases h2:1≤p
 ·have e2:decide (1≤p)=true:=zdt h2
  by_cases h3:p≤502
  ·have e3:decide (p≤502)=true:=zdt h3;rw[e2,e3]
   go_enter Tryz.func154,Tryz.ntmps154
   go_wp2;go_ret;exact⟨rfl,rfl⟩
  ·have e3:decide (p≤502)=false:=zdf h3;rw[e2,e3]
   go_enter Tryz.func154,Tryz.ntmps154
   go_wp2;go_ret;exact⟨rfl,rfl⟩
 ·have e2:decide (1≤p)=false:=zdf h2;rw[e2]
  go_enter Tryz.func154,Tryz.ntmps154
  go_wp2;go_ret;exact⟨rfl,rfl⟩
theorem q2s (p:Nat)(w:World)(hp:p<1024):Calls Tryz.prog 155 #[.slice none 0 0,.int .u64 p,.int .i64 2] w fun e w'=>e=.returned (.slice (some ⟨w.heap.size,0,none⟩) 2 2)∧w'.ownsRow w.heap.size CU8 1 (.slice (some ⟨w.heap.size,0,none⟩) 2 2) 2 (bv (beL p 2))∧Below w.heap.size w w':=by
 refine(z83 none 0 [] p 2 w (by simp) (by omega) (by omega) (by omega) (Src.nil _ _)).mono ?_;rintro e w' ⟨rfl,hr,hb⟩;exact⟨rfl,y0j hr (zlr _) (by unfold maxLen;simp[z1b]),hb⟩
theorem y63 (V:ByteArray):Go.Lib.strCells V=bv (bn V):=by
 unfold Go.Lib.strCells bv bn;rw[List.map_map];show _=List.map _ (bl V)
 rfl
set_option maxRecDepth 100000 in
theorem x4x (p:Int)(V:ByteArray)(w:World)(hV:V.size≤1000000):
  Calls Tryz.prog 115 #[.int .i64 p,.string V] w fun e w'=>∃v,e=.returned (.tuple #[v,errC (chE p V)])∧w'.ownsRow w.heap.size CU8 1 v (chB p V).length (bv (chB p V))∧Below w.heap.size w w':=by
 have hN:=zh (y02 p);have hP:=zh (z9n V.size);have hE:Hid (chE p V=if (z6k p&&z6l V.size)=true then 0 else 1):=rfl;have hB:Hid (chB p V=if (z6k p&&z6l V.size)=true then beL p.toNat 2++bn V else []):=rfl;have hpr:Hid (z6k p=true→0≤p∧p<1024):=fun h=>by
  unfold z6k at h;simp at h;omega
 generalize chE p V=EE at*;generalize chB p V=EB at*;generalize z6k p=D1 at*;generalize z6l V.size=D2 at*
 cases D1 with
 | false=>
  have h1:Hid (EE=1∧EB=[]):=⟨hE.out,hB.out⟩
  clear hE hB hpr
  go_enter Tryz.func115,Tryz.ntmps115
  go_wp2_with fail;refine(hN.out w).mono ?_;rintro e w1 ⟨rfl,rfl⟩;clear hN;go_wp2
  go_ret2
  exact⟨.slice none 0 0,by rw[h1.out.1];rfl,by rw[h1.out.2];exact World.ownsRow_nil _ _ _ _,zbr _ _⟩
 | true=>
 cases D2 with
 | false=>
  have h1:Hid (EE=1∧EB=[]):=⟨hE.out,hB.out⟩
  clear hE hB hpr
  go_enter Tryz.func115,Tryz.ntmps115
  go_wp2_with fail;refine(hN.out w).mono ?_;rintro e w1 ⟨rfl,rfl⟩;clear hN;go_wp2_with fail;refine(hP.out w).mono ?_;rintro e w1 ⟨rfl,rfl⟩;clear hP;go_wp2
  go_ret2
  exact⟨.slice none 0 0,by rw[h1.out.1];rfl,by rw[h1.out.2];exact World.ownsRow_nil _ _ _ _,zbr _ _⟩
 | true=>
  have h1:Hid (EE=0∧EB=beL p.toNat 2++bn V):=⟨hE.out,hB.out⟩
  have hp0:=(hpr.out rfl).1;have hp1:=(hpr.out rfl).2;obtain⟨P,rfl⟩:=Int.eq_ofNat_of_zero_le hp0;have hp2:P<1024:=by omega
  have hput:=zh (q2s P w hp2);have z1:IntKind.u64.wrap (P:Int)=(P:Int):=by rw[IntKind.wrap_u64];omega
  obtain⟨i0,hi,hz0,hz1,hz2⟩:=info_parts q4a;have HI:=zh (zai hi (zai hz0 (zai hz1 hz2)));clear hE hB hpr hi hz0 hz1 hz2
  go_enter Tryz.func115,Tryz.ntmps115
  go_wp2_with fail;refine(hN.out w).mono ?_;rintro e w1 ⟨rfl,rfl⟩;clear hN;go_wp2_with fail;refine(hP.out w).mono ?_;rintro e w1 ⟨rfl,rfl⟩;clear hP;go_wp2_with fail;refine hput.out.mono ?_;rintro e w1 ⟨rfl,ho,hb⟩;have Ho:=zh ho;have Hb:=zh hb;clear hput ho hb
  go_wp2_with (show wpList _ _ _ (⟨some 20,_,_,_,_,_⟩::_) _ _;refine Go.Lib.wpList_append_own_string _ rfl (.tmp 18) (.tmp 19) CBS CST2 rfl w.heap.size CU8 i0 Tryz.underlying46 Tryz.underlying9 HI.out.1 HI.out.2.1 HI.out.2.2.1 HI.out.2.2.2 _ 2 (bv (beL P 2)) (by rfl) Ho.out V (by rfl) (by unfold maxLen;omega) (by omega) Hb.out.size ?_;intro v' w2 ho2 hg2 _;have Ho2:=zh ho2;have Hg2:=zh hg2;clear ho2 hg2)
  go_ret2
  refine⟨v',by rw[h1.out.1];rfl,?_,Hb.out.grown Hg2.out (Nat.le_trans (zlr _) Hb.out.size) ?_⟩
  ·rw[h1.out.2];have:=Ho2.out;rw[y63,←y3l] at this;rw[zla,z1b,z2h];exact this
  ·intro k hk
   cases hk;exact zlr _
theorem x4y (b o c:Nat)(l:List Nat)(w:World)(h:l.length=2)(hc:Cs w b o l)(hb:B8 l):
  Calls Tryz.prog 168 #[.slice (some ⟨b,o,none⟩) 2 c] w fun e w'=>e=.returned (.tuple #[.int .u64 (numL l),.nilIface])∧w=w':=by
 have:=y3p b o c l w (by omega) (by omega) hc hb;rw[h] at this;exact this
set_option maxRecDepth 100000 in
theorem y4z (a:Option Addr)(n c:Nat)(l:List Nat)(w:World)(hn:l.length=n)(hs:Src w a l)(hnc:n≤c)(hl:n≤1000000)(hc:c≤maxLen)(hb8:B8 l):
  Calls Tryz.prog 190 #[.slice a n c] w fun e w'=>e=.returned (.tuple #[.int .i64 (dcN l),.string (dcV l),errC (dcE l)])∧Below w.heap.size w w':=by
 have hP:=zh (z9n ((n:Int)-2));have hN:=zh (y02 (chP l:Nat));have hD:Hid (dcOk l=(z6l ((n:Int)-2)&&z6k (chP l:Nat))):=by show _=_;unfold dcOk;rw[hn]
 have hno:Hid (dcOk l=false→dcN l=0∧dcV l=ByteArray.empty∧dcE l=3):=fun h=>by unfold dcN dcV dcE;rw[h];exact⟨rfl,rfl,rfl⟩
 have hyes:Hid (dcOk l=true→dcN l=(chP l:Nat)∧dcV l=bstr (l.drop 2)∧dcE l=0):=fun h=>by unfold dcN dcV dcE;rw[h];exact⟨rfl,rfl,rfl⟩
 generalize dcN l=N at*;generalize dcV l=V at*;generalize dcE l=E at*;generalize dcOk l=D at*;have hszr:Hid (z6l ((n:Int)-2)=true→3≤n∧n≤504):=fun h=>by unfold z6l at h;simp at h;omega
 generalize z6l ((n:Int)-2)=D1 at*
 cases D1 with
 | false=>
  have h1:=zh (hno.out hD.out);clear hno hyes hD hN hs hszr
  go_enter Tryz.func190,Tryz.ntmps190
  go_wp2_with fail;refine(hP.out w).mono ?_;rintro e w1 ⟨rfl,rfl⟩;clear hP;go_wp2
  go_ret3
  exact⟨by rw[h1.out.1,h1.out.2.1,h1.out.2.2];rfl,zbr _ _⟩
 | true=>
 have hn3:=(hszr.out rfl).1;have hn5:=(hszr.out rfl).2;obtain⟨b,o,rfl,hcs⟩:=hs (by omega);have hpl:=q4m hb8;have hget:=zh (x4y b o c (l.take 2) w (by rw[zlk];omega) (hcs.start 2) (hb8.take 2));have hcv:=zh (fun(w':World) (hw:Ext w.drew w')=>z59 (P:=Tryz.prog) CBS CU8 CST2 Tryz.underlying46 Tryz.underlying5 Tryz.underlying9 (some ⟨b,o+2,none⟩) (n-2) (c-2) (l.drop 2) (by rw[zld];omega) w' ((hcs.rest 2).below ((zbr w.heap.size w).drew.trans hw) (hcs.lt (by omega))).src);rw[show numL (l.take 2)=chP l from rfl] at hget;have hc':c≤9223372036854775807:=by unfold maxLen at hc;omega
 have Hb:=zh hb8;generalize chP l=P at*;generalize bstr (l.drop 2)=X at*;have z1:IntKind.i64.wrap (P:Int)=(P:Int):=by rw[IntKind.wrap_i64];omega
 clear hcs hs hszr hb8 hc;generalize z6k (P:Nat)=D2 at*
 cases D2 with
 | false=>
  have h1:=zh (hno.out hD.out);clear hno hyes hD hcv
  go_enter Tryz.func190,Tryz.ntmps190
  go_wp2_with fail;refine(hP.out w).mono ?_;rintro e w1 ⟨rfl,rfl⟩;clear hP;go_wp2_with fail;refine hget.out.mono ?_;rintro e w1 ⟨rfl,rfl⟩;clear hget;go_wp2_with fail;refine(hN.out w).mono ?_;rintro e w1 ⟨rfl,rfl⟩;clear hN;go_wp2
  go_ret3
  exact⟨by rw[h1.out.1,h1.out.2.1,h1.out.2.2];rfl,zbr _ _⟩
 | true=>
  have h1:=zh (hyes.out hD.out);clear hno hyes hD
  go_enter Tryz.func190,Tryz.ntmps190
  go_wp2_with fail;refine(hP.out w).mono ?_;rintro e w1 ⟨rfl,rfl⟩;clear hP;go_wp2_with fail;refine hget.out.mono ?_;rintro e w1 ⟨rfl,rfl⟩;clear hget;go_wp2_with fail;refine(hN.out w).mono ?_;rintro e w1 ⟨rfl,rfl⟩;clear hN;have hcv':=hcv.out;have y1:(2:Int)≤(n:Int):=by omega
  have y2:¬c=2:=by omega
  go_wp2_with fail;refine z0n [(0,true),(1,true),(2,true),(3,true),(4,true),(5,true),(6,true),(7,true)] (by kernel_rfl) (by kernel_rfl) (by kernel_rfl) (by kernel_rfl) (fun _ _ _ _ _ h=>h) ?_;iterate 8 (refine grr (v:= ?_) rfl (by rfl) ?_ ?_;rotate_left;(intro w' hw';go_simp;with_reducible rfl);simp only[Act.put,zs0,zs1,zs2])
  refine z07 ?_;go_wp2_with fail
  go_ret3
  exact⟨by rw[h1.out.1,h1.out.2.1,h1.out.2.2];rfl,(zbr _ _).drew⟩
structure CAt (w:World) (g o:Nat) (c:Ce):Prop where
 c0:w.cell? ⟨g,o,none⟩=some (.string c.k)
 c1:w.cell? ⟨g,o+1,none⟩=some (.string c.v)
 c2:w.cell? ⟨g,o+2,none⟩=some (.int .i64 c.n)
 c3:w.cell? ⟨g,o+3,none⟩=some (.int .i64 c.p)
theorem CAt.lt {w:World}{g o:Nat}{c:Ce}(h:CAt w g o c):g<w.heap.size:=block_lt_of_cell h.c0
theorem CAt.below {w w':World}{g o B:Nat}{c:Ce}(h:CAt w g o c)(hb:Below B w w')(hB:g<B):CAt w' g o c:=
 ⟨by rw[hb.cell (p:=⟨g,o,none⟩) hB];exact h.c0,by rw[hb.cell (p:=⟨g,o+1,none⟩) hB];exact h.c1,by rw[hb.cell (p:=⟨g,o+2,none⟩) hB];exact h.c2,by rw[hb.cell (p:=⟨g,o+3,none⟩) hB];exact h.c3⟩
theorem CAt.ext {w w':World}{g o:Nat}{c:Ce}(h:CAt w g o c)(hb:Ext w.drew w'):CAt w' g o c:=
 h.below (B:=w.heap.size) ((zbr _ w).drew.trans hb) h.lt
def CSrc (w:World)(a:Option Addr)(cs:List Ce):Prop:=0<cs.length→∃g o,a=some ⟨g,o,none⟩∧∀i,i<cs.length→CAt w g (o+i*4) (ca cs i)
theorem CSrc.below {w w':World}{a:Option Addr}{cs:List Ce}{B:Nat}(h:CSrc w a cs)(hb:Below B w w')(hB:w.heap.size≤B):CSrc w' a cs:=fun h0=>by
 obtain⟨g,o,rfl,hc⟩:=h h0;exact⟨g,o,rfl,fun i hi=>(hc i hi).below hb (Nat.lt_of_lt_of_le (hc i hi).lt hB)⟩
theorem CSrc.nil (w:World)(a:Option Addr):CSrc w a []:=fun h=>by cases h
def cvs:List Ce→List Value
 | []=> []
 | c::r=> .string c.k:: .string c.v:: .int .i64 c.n:: .int .i64 c.p::cvs r
theorem x4z:∀cs:List Ce,(cvs cs).length=cs.length*4
 | []=>rfl
 | c::r=>by simp only[cvs,List.length_cons,x4z r];omega
theorem q2t (a b:List Ce):cvs (a++b)=cvs a++cvs b:=by
 induction a with
 | nil=>rfl
 | cons c r ih=>simp only[List.cons_append,cvs,ih]
theorem x40:∀cs:List Ce,∀u∈cvs cs,u.oneCell'=true
 | [],u,h=>by cases h
 | c::r,u,h=>by
  simp only[cvs,List.mem_cons] at h
  rcases h with rfl|rfl|rfl|rfl|h
  ·rfl
  ·rfl
  ·rfl
  ·rfl
  ·exact x40 r u h
theorem x41:∀(cs:List Ce) (i j:Nat),i<cs.length→j<4→(cvs cs)[i*4+j]? =[Value.string (ca cs i).k,.string (ca cs i).v,.int .i64 (ca cs i).n,.int .i64 (ca cs i).p][j]?
 | [],i,j,h,_=>by simp at h
 | c::r,0,j,_,hj=>by
  have e:ca (c::r) 0=c:=rfl;rw[e]
  rcases j with _|_|_|_|j
  ·rfl
  ·rfl
  ·rfl
  ·rfl
  ·omega
 | c::r,i+1,j,h,hj=>by
  have e:ca (c::r) (i+1)=ca r i:=rfl;rw[e,show(i+1)*4+j=(i*4+j)+4 by omega,cvs];simp only[List.getElem?_cons_succ];exact x41 r i j (by simpa using h) hj
theorem z9o {w:World}{B E:Nat}{v:Value}{cs:List Ce}(h:w.ownsRow B E 4 v cs.length (cvs cs)):
  ∃a c,v=.slice a cs.length c∧CSrc w a cs∧(a=none→c=0)∧cs.length≤c∧c≤maxLen:=by
 have h':=h;obtain⟨_,h2⟩:=h
 rcases h2 with ⟨rfl,h0⟩|⟨g,cap,cur,rfl,hb,hg,hnc,hcm,_⟩
 ·have:cs=[]:=List.eq_nil_of_length_eq_zero h0;subst this;exact⟨none,0,rfl,CSrc.nil _ _,fun _=>rfl,zlr _,by unfold maxLen;omega⟩
 ·refine⟨_,cap,rfl,fun _=>⟨g,0,rfl,fun i hi=> ?_⟩,(fun h=>by cases h),hnc,hcm⟩;have hcell:∀j,j<4→w.cell? ⟨g,0+i*4+j,none⟩=[Value.string (ca cs i).k,.string (ca cs i).v,.int .i64 (ca cs i).n,.int .i64 (ca cs i).p][j]? :=fun j hj=>by
   have:=h'.cellAt (i*4+j) (by omega);rw[x41 cs i j hi hj] at this;rw[Nat.zero_add];exact this
  exact⟨hcell 0 (by omega),hcell 1 (by omega),hcell 2 (by omega),hcell 3 (by omega)⟩
def Cl (w:World)(v:Value)(cs:List Ce):Prop:=∃a c,v=.slice a cs.length c∧CSrc w a cs∧(a=none→c=0)∧cs.length≤c∧c≤maxLen
theorem Cl.none (w:World):Cl w (.slice none 0 0) []:=⟨Option.none,0,rfl,CSrc.nil _ _,fun _=>rfl,zlr _,by unfold maxLen;omega⟩
theorem q4v:(Tryz.prog.info? CT).map (fun i=>(i.zero,i.size,i.bytes))=some (some (.agg #[.string ⟨#[]⟩,.string ⟨#[]⟩,.int .i64 0,.int .i64 0]),4,48):=by kernel_rfl
section
variable {P:Program} {w:World} {ops:Array Oper} {rest:List Oper} {o:Oper} {a:Act} {Q:Exit→Act→World→Prop}
theorem z3e (hgd:o.guard=none)(s x:Operand)(t:TypeId)
  (ho:o.op=.call {callee:=.builtin .append,args:= #[s,x],argTypes:= #[t,t]})
  (base:Nat) (e:TypeId) (ht:P.underlying t=some (.slice e)) (h2:(P.info? e).map (fun i=>(i.zero,i.size,i.bytes))=some (some (.agg #[.string ⟨#[]⟩,.string ⟨#[]⟩,.int .i64 0,.int .i64 0]),4,48))
  (v:Value) (cs:List Ce) (hs:a.eval s=v) (hown:Hid (w.ownsRow base e 4 v cs.length (cvs cs)))
  (g c:Nat) (y:Ce) (hx:a.eval x=.slice (some ⟨g,0,none⟩) 1 c) (hy:CAt w g 0 y)
  (hlen:(cs.length+1)*48≤140737488355328) (hbase:base≤w.heap.size)
  (h:∀v' w',Hid (w'.ownsRow base e 4 v' (cs++[y]).length (cvs (cs++[y])))→Hid (w.grownBy w' v.ownBlock)→wpList P ops Q rest (a.put o.dst v') w'):
  wpList P ops Q (o::rest) a w:=by
 obtain⟨i0,hi,hz0,hz1,hz2⟩:=info_parts h2;refine z2c hgd s x t ho base e i0 (.agg #[.string ⟨#[]⟩,.string ⟨#[]⟩,.int .i64 0,.int .i64 0]) 4 48 ht hi hz0 hz1 hz2 rfl (by decide) v cs.length (cvs cs) hs hown.out ⟨g,0,none⟩ 1 c (cvs [y]) hx (by simp[cvs]) ?_ (x40 [y]) (by unfold maxLen;omega) hlen hbase ?_
 ·intro j u hj;have hj4:j<4:=by
   rcases zng j 4 with h1|h1
   ·exact h1
   ·rw[List.getElem?_eq_none (by rw[x4z];simpa using h1)] at hj;cases hj
  rw[z2q,Nat.zero_add];have h0:=hy.c0;have h1:=hy.c1;have h2:=hy.c2;have h3:=hy.c3;rw[Nat.zero_add] at h1 h2 h3
  rcases j with _|_|_|_|j
  ·rw[h0,←hj];rfl
  ·rw[h1,←hj];rfl
  ·rw[h2,←hj];rfl
  ·rw[h3,←hj];rfl
  ·omega
 ·intro v' w' hown' hg _;refine h v' w' ?_ hg;show w'.ownsRow _ _ _ _ _ _;rw[q2t,zla];exact hown'
end
theorem x42 (w:World)(E:TypeId)(c:Ce):CAt (w.alloc (.cells #[.string c.k,.string c.v,.int .i64 c.n,.int .i64 c.p] E)) w.heap.size 0 c:=⟨by simp,by simp,by simp,by simp⟩
set_option maxRecDepth 100000 in
theorem y03 (a:Option Addr)(n c:Nat)(cs:List Ce)(w:World)(hn:cs.length=n)(hs:CSrc w a cs)(hl:n≤9223372036854775807):
  Calls Tryz.prog 119 #[.slice a n c] w fun e w'=>∃D,e=.returned (.bool D)∧(D=true↔asc cs)∧Below w.heap.size w w':=by
 have Hs:=zh hs;have Hn:=zh hn;clear hs hn
 go_enter Tryz.func119,Tryz.ntmps119
 go_wp2_with fail
 go_loopw [3] (fun i wr=>∃k:Nat,i=.int .i64 k∧1≤k∧(k≤n∨k=1)∧Hid (x0e cs k)∧Hid (Below w.heap.size w wr)) (fun i _=>n-(intOf i).toNat)
 case atStart=>exact⟨1,rfl,by omega,.inr rfl,fun i h0 hi=>by omega,zbr _ _⟩
 case round=>
  obtain⟨k,rfl,hk1,hkn,ht,hB⟩:=hrel
  by_cases hlt:k<n
  ·obtain⟨j,rfl⟩:∃j,k=j+1:=⟨k-1,by omega⟩
   obtain⟨g,o,rfl,hcell⟩:=Hs.out.below hB.out (zlr _) (by rw[Hn.out];omega);have hA:=hcell (j+1) (by rw[Hn.out];omega);have hC:=hcell j (by rw[Hn.out];omega);have hle:=x1k (ca cs (j+1)).k (ca cs j).k;have hyes:Hid (blt (ca cs j).k (ca cs (j+1)).k=true→x0e cs (j+1+1)):=fun h=>x0f ht.out (fun _=>by rw[Nat.add_sub_cancel];exact h)
   have hno:Hid (blt (ca cs j).k (ca cs (j+1)).k=false→¬asc cs):=fun h=>q1v (k:=j+1) (by omega) (by rw[Hn.out];exact hlt) (by rw[Nat.add_sub_cancel];exact h)
   have q1:∀w',Ext wr.drew w'→w'.cell? ⟨g,o+(j+1)*4,none⟩=some (.string (ca cs (j+1)).k):=fun w' hw=>(hA.ext hw).c0
   have q2:∀w',Ext wr.drew w'→w'.cell? ⟨g,o+j*4,none⟩=some (.string (ca cs j).k):=fun w' hw=>(hC.ext hw).c0
   generalize blt (ca cs j).k (ca cs (j+1)).k=D at*;have i1:(0:Int)≤(j:Int)+1:=by omega
   have i2:(j:Int)+1<(n:Int):=by omega
   have i3:(j:Int)<(n:Int):=by omega
   have i4:IntKind.i64.wrap (j:Int)=(j:Int):=by rw[IntKind.wrap_i64];omega
   clear hA hC hcell;go_wp2_with fail;refine z0n [(0,true),(1,true),(2,true),(3,true),(4,true),(5,true),(6,true),(7,true),(8,true),(9,true),(10,true),(11,true)] (by kernel_rfl) (by kernel_rfl) (by kernel_rfl) (by kernel_rfl) (fun _ _ _ _ _ h=>h) ?_;iterate 12 (refine grr (v:= ?_) rfl (by rfl) ?_ ?_;rotate_left;(intro w' hw';go_simp;with_reducible rfl);simp only[Act.put,zs0,zs1,zs2])
   refine z07 ?_;have hB2:Hid (Below w.heap.size w wr.drew):=hB.out.drew;clear q1 q2 hB ht
   cases D with
   | true=>
    have hy:=zh (hyes.out rfl);clear hyes hno;go_wp2_with fail
    go_roundw
    case rel=>exact⟨j+1+1,by go_num,by omega,.inl (by omega),hy,hB2⟩
    case measure=>simp[intOf];omega
   | false=>
    have hy:=zh (hno.out rfl);clear hyes hno;go_wp2_with fail;go_ret;exact⟨_,rfl,⟨(fun h=>by cases h),fun h=>absurd h hy.out⟩,hB2.out⟩
  ·have hasc:Hid (asc cs):=by
    show x0e cs cs.length;rw[Hn.out]
    rcases hkn with h|h
    ·obtain rfl:k=n:=by omega
     exact ht.out
    ·intro i h0 hi;omega
   clear ht hkn;go_wp2;go_ret;exact⟨_,rfl,⟨fun _=>hasc.out,fun _=>rfl⟩,hB.out⟩
end Go.Proofs.YtdnfhjfbanhhcaaGreatDoor
