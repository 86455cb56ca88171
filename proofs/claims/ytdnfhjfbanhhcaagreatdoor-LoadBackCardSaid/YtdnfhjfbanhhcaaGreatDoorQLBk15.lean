/-
  Steps.
-/
import Derived.Test.YtdnfhjfbanhhcaaGreatDoorProg
import Derived.Test.YtdnfhjfbanhhcaaGreatDoorQLBk14
import Derived.Test.YtdnfhjfbanhhcaaGreatDoorRows
import Derived.Test.YtdnfhjfbanhhcaaGreatDoorQLBk02
import Derived.Lib.LaidTab
import Derived.LaidLaws
import Derived.LaidHandle
import Derived.ChangeBears2
import Derived.Test.YtdnfhjfbanhhcaaGreatDoorQLBk10
namespace Go.Proofs.YtdnfhjfbanhhcaaGreatDoor
open Go.RowKit
def errV (f:Nat):Value:=if f=0 then .nilIface else .iface 94 (.int .i64 f)
theorem q0f:errV 3=.iface 94 (.int .i64 3):=rfl
def gotV (l:List Nat):Value:=.tuple #[.int .u64 ((gt l).1:Nat),.int .i64 ((gt l).2.1:Nat),errV (gt l).2.2]
theorem low7 (X:Nat)(h:X<256):bits .andNot .u8 (X:Int) 128=((X%128:Nat):Int):=by
 refine(u8_andNot_nat X 128 h (by omega)).trans ?_;rw[show 255-128=2^7-1 from rfl,Nat.and_two_pow_sub_one_eq_mod]
theorem q2k {k:Nat}(h:k≤9):(128:Nat)^k≤9223372036854775808:=by
 have:=Nat.pow_le_pow_right (n:=128) (by decide) h;omega
theorem q2l (k X V:Nat)(hk:k≤9)(hV:V<128^k)(h1:k=9→X≤1):X%128*128^k+V<18446744073709551616:=by
 rcases zng k 9 with h9|h9
 ·have hp:128^k≤128^8:=Nat.pow_le_pow_right (by decide) (by omega);have:X%128*128^k≤127*128^k:=Nat.mul_le_mul_right _ (by omega);omega
 ·obtain rfl:k=9:=by omega
  have:=h1 rfl;have:X%128*128^9≤1*128^9:=Nat.mul_le_mul_right _ (by omega);omega
theorem pow7 (k:Nat):(128:Nat)^k=2^(7*k):=by rw[Nat.pow_mul]
theorem x4j (k T Y V:Nat)(hT:T=7*k)(hf:Y*128^k+V<18446744073709551616):IntKind.u64.wrap ((Y:Int)*2^T)=((Y*128^k:Nat):Int):=by
 subst hT;have e:(2:Int)^(7*k)=((128^k:Nat):Int):=by rw[pow7];simp
 rw[e,←Int.natCast_mul];generalize Y*128^k=Z at*;rw[IntKind.wrap_u64];omega
theorem q4q (k Y V:Nat)(hV:V<128^k)(hf:Y*128^k+V<18446744073709551616):bits .or .u64 (V:Int) ((Y*128^k:Nat):Int)=((V+Y*128^k:Nat):Int):=by
 rw[bits_or_u64_nat _ _ (by omega) (by omega)];rw[pow7] at hV⊢
 rw[Nat.or_comm,Nat.mul_comm,←Nat.two_pow_add_eq_or_of_lt hV,Nat.add_comm]
set_option maxRecDepth 100000 in
theorem x79 (a:Option Addr)(c:Nat)(l:List Nat)(w:World)(hb:B8 l)(hl:l.length≤9223372036854775807)(hsrc:Src w a l):
  Calls Tryz.prog 187 #[.slice a l.length c] w fun e w'=>e=.returned (gotV l)∧w=w':=by
 have Hs:=zh hsrc;clear hsrc
 go_enter Tryz.func187,Tryz.ntmps187
 go_wp2
 go_loop [5,6,7,10] (fun v _ _ i=>∃k:Nat,k≤l.length∧k≤lead l∧k≤9∧i=.int .i64 k∧v=.int .u64 (valR (l.take k):Nat)) (fun _ _ _ i=>l.length-(intOf i).toNat)
 case atStart=>exact⟨0,Nat.zero_le _,Nat.zero_le _,by omega,rfl,rfl⟩
 case round=>
  obtain⟨k,hk,hkl,hk9,rfl,rfl⟩:=hrel;have HK:=zh hkl;clear hkl
  by_cases hlt:k<l.length
  ·obtain⟨b,o,rfl,hc⟩:=Hs.out (by omega);have hcell:=hc k hlt;have hx:=hb.get k;clear hc;have hstep:=zh (z5j l k hlt);have hv:=z7v l k;obtain⟨X,hX⟩:∃X,X=l.getD k 0:=⟨_,rfl⟩
   rw[←hX] at hcell hx hstep;have HX:=zh hX;clear hX;generalize valR (l.take k)=V at*;have hp:=q2k hk9;have hlow:=low7 X hx;obtain⟨Y,hY⟩:∃Y,Y=X%128:=⟨_,rfl⟩
   rw[←hY] at hlow hstep;obtain⟨T,hT⟩:∃T,T=7*k:=⟨_,rfl⟩
   have eT:(7:Int)*(k:Int)=(T:Int):=by omega
   have hT63:T≤63:=by omega
   by_cases hA:k=9∧1<X
   ·obtain⟨rfl,hX1⟩:=hA;have hg:Hid (gt l=(0,0,2)):=y8a HK.out (by rw[←HX.out];exact hX1);clear hY hT eT hT63 hv hp;go_wp2
    all_goals (go_ret3;exact⟨by unfold gotV;rw[hg.out];rfl,rfl⟩)
   have hf:=q2l k X V hk9 hv (by omega);rw[←hY] at hf;have hz:=x4j k T Y V hT hf;have ho:=q4q k Y V hv hf;rw[←hstep.out] at ho;have hY7:Y<128:=by omega
   have HY:=zh (zai hY hT);clear hY hT hv hp hf hstep;generalize Y*128^k=Z at*;have hB:(((k:Int)==9)=true∧decide (1<(X:Int))=false)∨((k:Int)==9)=false:=by
    rcases zng k 9 with h9|h9
    ·right;simp;omega
    ·left;exact⟨by simp;omega,by simp;omega⟩
   by_cases hC:128≤X
   ·have hk8:k<9:=by omega
    have hn:=x2g HK.out hlt (by rw[←HX.out];exact hC);obtain⟨R,hR⟩:∃R,R=valR (l.take (k+1)):=⟨_,rfl⟩
    rw[←hR] at ho;have HR:=zh hR;clear hR hB;go_wp2
    go_round
    case rel=>exact⟨k+1,by omega,hn,by omega,by go_num,by rw[HR.out]⟩
    case measure=>simp[intOf];omega
   ·have hX9:k=9→X≤1:=by omega
    by_cases hF:X=0∧0<k
    ·obtain⟨hX00,hk0⟩:=hF;have hg:Hid (gt l=(0,0,3)):=q1m HK.out hlt hk9 (HX.out.symm.trans hX00) hk0;have hX0:((X:Int)==0)=true:=by simp;omega
     clear hX9 hX00;generalize valR (l.take (k+1))=R at*
     rcases hB with ⟨hB,hD⟩|hB
     all_goals (go_wp2;go_ret3;exact⟨by unfold gotV;rw[hg.out];rfl,rfl⟩)
    ·have hg:Hid (gt l=(valR (l.take (k+1)),k+1,0)):=x2h HK.out hlt hk9 (by rw[←HX.out];omega) (by rw[←HX.out];exact hX9) (by rw[←HX.out];omega);generalize valR (l.take (k+1))=R at*
     by_cases h0:X=0
     ·have hX0:((X:Int)==0)=true:=by simp;omega
      have hk0:¬0<k:=by omega
      have hB':((k:Int)==9)=false:=by simp;omega
      clear h0 hF hB
      (go_wp2;go_ret3;exact⟨by unfold gotV;rw[hg.out];rfl,rfl⟩)
     ·have hX0:((X:Int)==0)=false:=by simp;omega
      clear h0 hF
      rcases hB with ⟨hB,hD⟩|hB
      all_goals (go_wp2;go_ret3;exact⟨by unfold gotV;rw[hg.out];rfl,rfl⟩)
  ·obtain rfl:k=l.length:=by omega
   have hg:Hid (gt l=(0,0,6)):=q1l HK.out rfl hk9;generalize valR (l.take l.length)=R at*;go_wp2
   all_goals (go_ret3;exact⟨by unfold gotV;rw[hg.out];rfl,rfl⟩)
end Go.Proofs.YtdnfhjfbanhhcaaGreatDoor
namespace Go.Proofs.YtdnfhjfbanhhcaaGreatDoor
open Go.RowKit
def vrow (l P:List Nat)(n:Nat):List Nat:=l++(P++List.replicate n 0)
theorem y6w (l P:List Nat)(n:Nat):(vrow l P n).length=l.length+(P.length+n):=by simp[vrow]
theorem y81 (l P:List Nat)(n x:Nat):(vrow l P (n+1)).set (l.length+P.length) x=vrow l (P++[x]) n:=by
 unfold vrow;rw[List.set_append_right _ _ (by omega),List.set_append_right _ _ (by omega),show l.length+P.length-l.length-P.length=0 by omega,List.replicate_succ,List.set_cons_zero,List.append_assoc];rfl
theorem or128 (V:Nat):bits .or .u8 ((V%256:Nat):Int) 128=((V%128+128:Nat):Int):=by
 rw[Lib.u8_or128_any _ (by omega) (by omega)];omega
set_option maxRecDepth 100000 in
theorem q2m (a:Option Addr)(c:Nat)(l:List Nat)(v:Nat)(w:World)(hl:l.length≤65536)(hv:v<18446744073709551616)(hsrc:Src w a l):
  Calls Tryz.prog 160 #[.slice a l.length c,.int .u64 v] w fun e w'=>e=.returned (.slice (some ⟨w.heap.size,0,none⟩) (l.length+vs v:Nat) (l.length+vs v:Nat))∧Row w' w.heap.size 5 (l++vb v)∧Below w.heap.size w w':=by
 have Hsrc:=zh hsrc;clear hsrc;have hsz:=z6n v w hv;have hs10:=z6a hv;obtain⟨s,hs⟩:∃s,s=vs v:=⟨_,rfl⟩
 rw[←hs] at hsz hs10⊢
 have HS:=zh hs;have HC:=zh hsz;clear hs hsz
 go_enter Tryz.func160,Tryz.ntmps160
 go_wp2_with fail;refine HC.out.mono ?_;rintro e w' ⟨rfl,rfl⟩
 go_wp2_with (first|(at_make;refine z06 rfl _ _ 46 rfl 5 Tryz.underlying46 z8g _ _ _ _ (l.length+s) rfl rfl (by omega) (by omega) (by omega) ?_;intro w1 hr1 hb1;have hs1':=zh (Hsrc.out.below hb1 (zlr _)))|(show wpList _ _ _ (⟨some 15,_,_,_,_,_⟩::_) _ _;refine z1x rfl (.tmp 13) (.tmp 14) 46 46 rfl 5 Tryz.underlying46 z41 w.heap.size 0 (l.length+s) (l.length+s) a c (List.replicate (l.length+s) 0) l (by rfl) (by rfl) hr1 hs1'.out (by simp) (by omega) w.heap.size w hb1 (zlr _) ?_;intro w2 hr2 hb2;clear hr1 hs1' hb1))
 have Hr2:Hid (Row w2 w.heap.size 5 (vrow l [] s)):=by
  have:=hr2.out;rw[z29] at this;have e:l++List.drop l.length (List.replicate (l.length+s) 0)=vrow l [] s:=by
   unfold vrow;rw[List.drop_replicate,Nat.add_sub_cancel_left];rfl
  rw[e] at this;exact this
 clear hr2
 go_loopw [1,6] (fun Vv I wr=>∃(P:List Nat) (V p:Nat),p=P.length∧p+vs V=s∧V<18446744073709551616∧Hid (P++vb V=vb v)∧I=.int .i64 ((l.length:Int)+p)∧Vv=.int .u64 (V:Nat)∧Hid (Row wr w.heap.size 5 (vrow l P (vs V)))∧Hid (Below w.heap.size w wr)) (fun Vv _ _=>(intOf Vv).toNat)
 case atStart=>exact⟨[],v,0,rfl,by rw[HS.out];omega,hv,rfl,by simp,rfl,by rw[←HS.out];exact Hr2,hb2⟩
 case round=>
  obtain⟨P,V,p,hp,hps,hV,hPv,rfl,rfl,hrow,hbel⟩:=hrel;have hpos:=z3n V;have hcell:=hrow.out.cell (l.length+p) (by rw[y6w];omega);have hfr:=hrow.out.frozen (l.length+p);generalize (vrow l P (vs V)).getD (l.length+p) 0=C at*;obtain⟨M,hM⟩:∃M,M=V%256:=⟨_,rfl⟩
  have eM:(V:Int)%256=(M:Int):=by omega
  obtain⟨q,hq⟩:∃q,q=l.length+p:=⟨_,rfl⟩
  have eq':(l.length:Int)+(p:Int)=(q:Int):=by omega
  rw[←hq] at hcell hfr;have hq1:q<l.length+s:=by omega
  by_cases h128:128≤V
  ·have hor:=or128 V;rw[←hM] at hor;have hset:=hrow.out.set q (V%128+128);rw[z21 h128,hq,hp,y81] at hset;obtain⟨X,hX⟩:∃X,X=V%128+128:=⟨_,rfl⟩
   obtain⟨D,hD⟩:∃D,D=V/128:=⟨_,rfl⟩
   have eD:(V:Int)/128=(D:Int):=by omega
   have hDV:D<V:=by omega
   have Hnext:Hid ((P++[X])++vb D=vb v):=by
    show _=_;rw[List.append_assoc,←hPv.out,z8x h128,hX,hD];rfl
   have hvs:Hid (vs V=vs D+1):=by show _=_;rw[z21 h128,hD]
   rw[←hX] at hor hset;rw[←hD,←hp,←hq] at hset;have Hset:=zh hset;have HX:=zh (zai hX (zai hD (zai hM (zai hq hp))));have hps':Hid (p+vs V=s):=hps;clear hset hX hD hM hrow hPv hps hp hq hpos;have hX8:X<256:=by have:=HX.out.1;omega
   go_wp2
   go_roundw
   case rel=>exact⟨P++[X],D,p+1,by rw[zla,←HX.out.2.2.2.2];rfl,by have:=hps'.out;have:=hvs.out;omega,by omega,Hnext,by rw[←eq'];exact congrArg (Value.int IntKind.i64) (by omega),rfl,Hset,hbel.out.setCell (zlr _) _⟩
   case measure=>simp[intOf];omega
  ·have hset:=hrow.out.set q V;rw[z1k (by omega),hq,hp,show(1:Nat)=0+1 from rfl,y81] at hset;have hlast:vrow l (P++[V]) 0=l++vb v:=by
    unfold vrow;rw[←hPv.out,z3b (by omega)];simp
   rw[hlast,←hp,←hq] at hset;have Hset:=zh hset;have hMV:M=V:=by omega
   subst hMV;clear hset hM hrow hPv hps hp hq hpos hlast;go_wp2;go_ret;exact⟨rfl,Hset.out,hbel.out.setCell (zlr _) _⟩
end Go.Proofs.YtdnfhjfbanhhcaaGreatDoor
namespace Go.Proofs.YtdnfhjfbanhhcaaGreatDoor
open Go Go.RowKit
theorem z5v (a:Option Addr)(n c:Nat)(l:List Nat)(hn:l.length=n)(v:Nat)(w:World)(hs:Src w a l)(hl:n≤65536)(hv:v<18446744073709551616):
  Calls Tryz.prog 121 #[.slice a n c,.int .u64 v] w fun e w'=>∃v',e=.returned v'∧Sl w' v' (l++vb v)∧Below w.heap.size w w':=by
 subst hn;have h:=q2m a c l v w hl hv hs;have h10:=z6a hv;have hlen:(l++vb v).length=l.length+vs v:=by rw[zla];rfl
 have Hl:=zh hlen;clear hlen
 go_enter Tryz.func121,Tryz.ntmps121
 go_wp2_with fail;refine h.mono ?_;rintro e w' ⟨rfl,hr,hb⟩;have hs:=Sl.row hr (by rw[Hl.out];unfold maxLen;omega);rw[Hl.out] at hs;go_wp2;go_ret;exact⟨_,rfl,hs,hb⟩
abbrev RDT:TypeId:=278
def z3t (w:World)(b:Nat):Prop:=∀j x,w.cell? ⟨b,j,none⟩≠some (.int .u8 x)
theorem Cs.turn {w w':World}{g o b:Nat}{l:List Nat}(h:Cs w g o l)(t:Turn (fun i=>i=b) w w')(hn:z3t w b):Cs w' g o l:=fun i hi=>by
 have hc:=h i hi;have hne:g≠b:=fun e=>by subst e;exact hn _ _ hc
 rw[t.cell (p:=⟨g,o+i,none⟩) (block_lt_of_cell hc) hne];exact hc
theorem Sl.turn {w w':World}{b:Nat}{v:Value}{l:List Nat}(h:Sl w v l)(t:Turn (fun i=>i=b) w w')(hn:z3t w b):Sl w' v l:=by
 rcases h with h|⟨g,o,c,rfl,hc,h1,h2⟩
 ·exact .inl h
 ·exact .inr ⟨g,o,c,rfl,hc.turn t hn,h1,h2⟩
def RSB (w:World)(b:Nat)(T:TypeId)(v:Value)(x:Bool):Prop:=w.heap[b]? =some (.cells #[v,.bool x] T (0,0))
theorem RSB.c0 {w:World}{b:Nat}{T:TypeId}{v:Value}{x:Bool}(h:RSB w b T v x):w.cell? ⟨b,0,none⟩=some v:=by
 have h':w.heap[b]? =_:=h;simp[World.cell?,h']
theorem RSB.c1 {w:World}{b:Nat}{T:TypeId}{v:Value}{x:Bool}(h:RSB w b T v x):w.cell? ⟨b,1,none⟩=some (.bool x):=by
 have h':w.heap[b]? =_:=h;simp[World.cell?,h']
theorem RSB.fz {w:World}{b:Nat}{T:TypeId}{v:Value}{x:Bool}(h:RSB w b T v x)(j:Nat):w.frozen? ⟨b,j,none⟩=false:=by
 have h':w.heap[b]? =_:=h;simp[World.frozen?,h']
theorem RSB.lt {w:World}{b:Nat}{T:TypeId}{v:Value}{x:Bool}(h:RSB w b T v x):b<w.heap.size:=(zag.1 h).1
theorem RSB.noByte {w:World}{b:Nat}{T:TypeId}{a:Option Addr}{n c:Nat}{x:Bool}(h:RSB w b T (.slice a n c) x):z3t w b:=fun j y hj=>by
 have h':w.heap[b]? =_:=h;simp only[World.cell?,h'] at hj
 rcases j with _|_|j<;>simp at hj
theorem RSB.set0 {w:World}{b:Nat}{T:TypeId}{v:Value}{x:Bool}(h:RSB w b T v x)(u:Value):RSB (w.setCell ⟨b,0,none⟩ u) b T u x:=heap_setCell_same w b 0 _ _ _ h
theorem RSB.set1 {w:World}{b:Nat}{T:TypeId}{v:Value}{x:Bool}(h:RSB w b T v x)(y:Bool):RSB (w.setCell ⟨b,1,none⟩ (.bool y)) b T v y:=heap_setCell_same w b 1 _ _ _ h
theorem RSB.new (w:World)(T:TypeId)(v:Value)(x:Bool):RSB (w.alloc (.cells #[v,.bool x] T)) w.heap.size T v x:=by
 show(w.heap.push _)[w.heap.size]? =_;rw[Array.getElem?_push_size]
theorem RSB.below {w w':World}{b B:Nat}{T:TypeId}{v:Value}{x:Bool}(h:RSB w b T v x)(hb:Below B w w')(hB:b<B):RSB w' b T v x:=(hb.block b hB).trans h
theorem RSB.turn {w w':World}{b:Nat}{F:Nat→Prop}{T:TypeId}{v:Value}{x:Bool}(h:RSB w b T v x)(t:Turn F w w')(hF:¬F b):RSB w' b T v x:=t.hg h hF
structure Rd (w:World) (b:Nat) (S:RS):Prop where
 ex:∃v,RSB w b RDT v S.wr∧Sl w v S.l
 b8:B8 S.l
 len:S.l.length≤65536
 inv:S.wr=true→S.l=[]
theorem Rd.lt {w:World}{b:Nat}{S:RS}(h:Rd w b S):b<w.heap.size:=by obtain⟨v,h1,_⟩:=h.ex;exact h1.lt
theorem Rd.noByte {w:World}{b:Nat}{S:RS}(h:Rd w b S):z3t w b:=by
 obtain⟨v,h1,h2⟩:=h.ex;obtain⟨a,c,rfl,_⟩:=h2.arg;exact h1.noByte
theorem x4k (a:Option Addr)(n c:Nat)(l:List Nat)(hn:l.length=n)(w:World)(hs:Src w a l)(hz:a=none→c=0)(hl:n≤65536)(hb8:B8 l):
  Calls Tryz.prog 134 #[.slice a n c] w fun e w'=>∃b,e=.returned (.pointer (some ⟨b,0,none⟩))∧w.heap.size≤b∧Rd w' b ⟨l,false⟩∧Below w.heap.size w w':=by
 have h:=y3w a n c l hn w hs hz (by omega);have Hn:=zh hn;clear hs hz hn
 go_enter Tryz.func134,Tryz.ntmps134
 go_wp2_with fail;refine h.mono ?_;rintro e w1 ⟨v,rfl,hv,hb⟩;obtain⟨a1,c1,rfl,_⟩:=hv.arg;have hv':=hv;rw[Hn.out] at hv'⊢
 have hb2:Below w1.heap.size w1 (w1.alloc (.cells #[.slice a1 n c1,.bool false] RDT)):=(zbr _ _).alloc (zlr _) _;have hr:Rd (w1.alloc (.cells #[.slice a1 n c1,.bool false] RDT)) w1.heap.size ⟨l,false⟩:=
  ⟨⟨_,RSB.new w1 RDT _ false,hv'.below hb2 (zlr _)⟩,hb8,by show l.length≤_;rw[Hn.out];exact hl,fun h=>by cases h⟩
 have Hr:=zh hr;have Hb:=zh (hb.trans (hb2.mono hb.size));have Hz:=zh hb.size;clear hv hv' hb hb2 hr h;go_wp2;go_ret;exact⟨_,rfl,Hz.out,Hr.out,Hb.out⟩
theorem z1e (w:World)(b j:Nat)(u:Value):Turn (fun i=>i=b) w (w.setCell ⟨b,j,none⟩ u):=Turn.setCell (p:=⟨b,j,none⟩) (Turn.refl _ w) u (fun _=>rfl)
theorem z9m (w:World)(b:Nat)(u v:Value):Turn (fun i=>i=b) w ((w.setCell ⟨b,0,none⟩ u).setCell ⟨b,1,none⟩ v):=Turn.setCell (p:=⟨b,1,none⟩) (z1e w b 0 u) v (fun _=>rfl)
end Go.Proofs.YtdnfhjfbanhhcaaGreatDoor
namespace Go.Proofs.YtdnfhjfbanhhcaaGreatDoor
open Go.RowKit
theorem q2n:ownKnob Tryz.prog.godebug=none:=by kernel_rfl
theorem q4r : Tryz.prog.globalNamed "errors.errorType" = some 0 := by kernel_rfl
theorem q4s : (Tryz.prog.cutTypes.find? (·.1 == "internal/reflectlite.rtype")).map (·.2) = some 182 := by kernel_rfl
theorem q2o:((List.range 329).filter fun t=>Tryz.prog.rowNamed t [101,114,114,111,114])=[34]:=by kernel_rfl
theorem x8a:Tryz.prog.types.size=329:=by kernel_rfl
abbrev z3c {H : Type} : List (String × DataW H) := [("math/bits.deBruijn64tab", Rows.laid_math_bits_deBruijn64tab), ("errors.errorType", Rows.laid_errors_errorType), ("warren/crc.worth", Rows.laid_warren_crc_worth)]
theorem z7j {W : World} (h : laidMetH Tryz.prog z3c W) : laidMet Tryz.prog [("math/bits.deBruijn64tab", Rows.laid_math_bits_deBruijn64tab), ("warren/crc.worth", Rows.laid_warren_crc_worth)] W ∧ handlesMet Tryz.prog [("errors.errorType", Rows.laid_errors_errorType)] W := h
theorem x0q {W:World}(h:laidMetH Tryz.prog z3c W):Hg W:=by
 obtain⟨name,u,ty,e1,e2,e3,e4,e5⟩:=(z7j h).2 _ (List.mem_singleton.2 rfl);have en:name=[101,114,114,111,114]:=(Option.some.inj e1).symm;subst en;obtain rfl:=Option.some.inj (q4s.symm.trans e2);have hm:ty∈(List.range 329).filter fun t=>Tryz.prog.rowNamed t [101,114,114,111,114]:=List.mem_filter.2 ⟨List.mem_range.2 (by rw[←x8a];exact e3),e4⟩
 rw[q2o] at hm;obtain rfl:=List.mem_singleton.1 hm;have hh:typeHandle Tryz.prog 34=.pointer (some ⟨3,34,none⟩):=by kernel_rfl
 rw[hh] at e5;have:=World.var?_cell q4r e5 0;unfold Hg
 simpa using this
theorem y4u {P:Program}{x:String×DataW Unit}{r:List (String×DataW Unit)}{W:World}(h:laidMet P (x::r) W):laidMet P r W:=by
 obtain⟨ps,⟨g,t,cs,fuel,p,q,_,_,_,_,hr,rfl⟩,hn,hc⟩:=h;exact⟨q,hr,(List.nodup_append.1 hn).2.1,fun b off hm=>hc b off (List.mem_append_right _ hm)⟩
theorem x4l:(z4l.map fun n:Nat=>(n:Int))=[0,274646895,549293790,820201905,1098587580,1361435347,1640403810,1905808397,2197175160,2460548119,2722870694,2987750089,3280807620,3553878443,3811616794,4084100981]:=by decide+kernel
theorem y6x {H:Type}:(Rows.laid_warren_crc_worth:DataW H)=Lib.tabData .u32 (z4l.map fun n:Nat=>(n:Int)):=by rw[x4l];rfl
theorem y2l {W:World}(h:laidMetH Tryz.prog z3c W):z0x W:=by
 have h1:=y4u (z7j h).1;rw[y6x] at h1;have ht:=Lib.tabIs_of_head (P:=Tryz.prog) (g:=2) (t:=301) (e:=51) (n:=16) (by kernel_rfl) (by kernel_rfl) Tryz.underlying301 Tryz.underlying51 (by kernel_rfl) (by kernel_rfl) h1;intro j hj;have:=ht.cell (g:=2) (by kernel_rfl) j (by simpa [z4l] using hj);rw[this]
 congr 2
 have hj':j<z4l.length:=by simpa [z4l] using hj
 simp[List.getD,hj']
theorem x4m {H:Type}:(Rows.laid_math_bits_deBruijn64tab:DataW H)=Lib.tabData .u8 (Lib.deBruijn64tab.map fun n:Nat=>(n:Int)):=rfl
theorem y6y {W:World}(h:laidMetH Tryz.prog z3c W):z56 W:=by
 have h1:=(z7j h).1;rw[x4m] at h1;have ht:=Lib.tabIs_of_head (P:=Tryz.prog) (g:=1) (t:=257) (e:=5) (n:=64) (by kernel_rfl) (by kernel_rfl) Tryz.underlying257 Tryz.underlying5 (by kernel_rfl) (by kernel_rfl) h1;intro j hj;have:=ht.cell (g:=1) (by kernel_rfl) j (by simpa using hj);rw[this]
 congr 2
 simp[List.getD,hj]
noncomputable def y4v (os:Os):World:=
 let w0:=World.holding Tryz.prog os ⟨#[],#[],[]⟩
 {w0 with heap:=((w0.heap.modify 0 fun
   | .cells _ t frozen=> .cells #[.iface 182 (.agg #[.pointer (some ⟨3,34,none⟩)])] t frozen
   | o=>o).modify 1 fun
   | .cells _ t frozen=> .cells (Lib.deBruijn64tab.map fun n:Nat=>Value.int .u8 (n:Int)).toArray t frozen
   | o=>o).modify 2 fun
   | .cells _ t frozen=> .cells (z4l.map fun n:Nat=>Value.int .u32 (n:Int)).toArray t frozen
   | o=>o}
theorem y2m (os:Os)(args:Array Value):laidMetH Tryz.prog z3c ((y4v os).forCall (fun _ _=>0) ⟨#[],args,[]⟩).memory:=
 laidMetH_of_parts (laidMet_of_run' 8 (by kernel_rfl) (by kernel_rfl)) (by kernel_rfl)
end Go.Proofs.YtdnfhjfbanhhcaaGreatDoor
namespace Go.Proofs.YtdnfhjfbanhhcaaGreatDoor
open Go Go.RowKit
abbrev ZT:TypeId:=3
abbrev SZT:TypeId:=76
theorem x4n (w:World)(T:TypeId)(y:Int):(w.alloc (.cells #[.int .i64 y] T)).cell? ⟨w.heap.size,0,none⟩=some (.int .i64 y):=by simp
theorem z56.below {w w':World}(h:z56 w)(hb:Below w.heap.size w w'):z56 w':=fun j hj=>by
 have hc:=h j hj;have hlt:1<w.heap.size:=by
  rcases zng 1 w.heap.size with h1|h1
  ·exact h1
  ·simp[World.cell?,Array.getElem?_eq_none h1] at hc
 rw[hb.cell (p:=⟨1,j,none⟩) hlt];exact hc
def eI (f:Nat→Bool)(k:Nat):List Int:=(els f k).map (fun n:Nat=>(n:Int))
theorem q0g (f:Nat→Bool)(k:Nat):(eI f k).length=cnt f k:=by rw[eI,List.length_map,z65]
theorem eI_ia (f:Nat→Bool)(i:Nat)(h:i<cnt f 1024):ia (eI f 1024) i=(el f i:Int):=by
 obtain⟨h1,_⟩:=x1z f i h;rw[ia,List.getD_eq_getElem?_getD,eI,List.getElem?_map,h1];rfl
section
variable {P:Program} {w:World} {ops:Array Oper} {rest:List Oper} {o:Oper} {a:Act} {Q:Exit→Act→World→Prop}
theorem z8f (hg:o.guard=none)(l c:Operand)(t:TypeId)(hop:o.op=Op.makeSlice t l c)
  (h1:P.underlying t=some (.slice ZT)) (h2:(P.info? ZT).map (fun i=>(i.zero,i.size,i.bytes))=some (some (.int .i64 0),1,8))
  (kl kc:IntKind) (n:Nat) (hl:a.eval l=.int kl 0) (hc:a.eval c=.int kc n) (b:n≤1024) (B:Nat) (hB:B≤w.heap.size)
  (hK:∀v w',w'.ownsRow B ZT 1 v ([]:List Int).length (iv [])→Below w.heap.size w w'→wpList P ops Q rest (a.put o.dst v) w'):
  wpList P ops Q (o::rest) a w:=by
 obtain⟨i0,hi,hz0,hz1,hz2⟩:=info_parts h2;refine wpList_make_own w hg l c t hop B ZT i0 (.int .i64 0) 1 h1 hi hz0 hz1 kl kc n n hl hc rfl (by rw[hz2];omega) (by unfold maxLen;omega) hB ?_;intro w1 hown hgrow;exact hK _ w1 hown ((zbr w.heap.size w).grown hgrow (zlr _) (by intro k hk;cases hk))
end
set_option maxRecDepth 100000 in
theorem x8b (f:Nat→Bool)(w:World)(hT:z56 w):Calls Tryz.prog 50 #[.agg (sc f)] w fun e w'=>∃v,e=.returned v∧w'.ownsRow w.heap.size ZT 1 v (eI f 1024).length (iv (eI f 1024))∧Below w.heap.size w w':=by
 have HT:=zh hT;clear hT
 go_enter Tryz.func50,Tryz.ntmps50
 go_wp2_with (first
  | (refine z0q rfl TS (.tmp 0) rfl (sc f) (by rfl) ?_;intro g1 w1 hg1 hk1 hb1)
  | (refine z0e rfl TS (.tmp 1) rfl g1 f TS (by rfl) z0i hk1 ?_))
 refine(y0v f w1).mono ?_;rintro e w2 ⟨rfl,hb2⟩;have hk2:=hk1.ext hb2;have Hb2:Hid (Below w.heap.size w w2):=hb1.trans (hb2.mono hb1.size);have hc4:cnt f 1024≤1024:=y70 f 1024;have Hg:Hid (w.heap.size≤g1):=hg1;clear hb1 hb2 hk1 hg1;generalize cnt f 1024=C at*
 go_wp2_with (first
  | (show wpList _ _ _ (⟨some 8,_,_,_,_,_⟩::_) _ _;refine z8f rfl _ _ SZT rfl Tryz.underlying76 z81 .i64 .i64 C rfl rfl hc4 w.heap.size Hb2.out.size ?_;intro v3 w3 ho3 hb3)
  | (show wpList _ _ _ (⟨some 9,_,_,_,_,_⟩::_) _ _;refine z0e rfl TS (.tmp 1) rfl g1 f TS (by rfl) z0i (hk2.ext hb3) ?_))
 have Hb3:Hid (Below w.heap.size w w3):=Hb2.out.trans (hb3.mono Hb2.out.size);have Ho3:=zh ho3;clear Hb2 hb3 ho3 hk2 hc4
 go_loopw [3,4,5,10] (fun lv _ _ i wr=>∃(k:Nat) (v:Value),v=lv∧i=.int .i64 k∧k≤16∧Hid (wr.ownsRow w.heap.size ZT 1 v (eI f (64*k)).length (iv (eI f (64*k))))∧Hid (Below w.heap.size w wr)) (fun _ _ _ i _=>16-(intOf i).toNat)
 case atStart=>exact⟨0,v3,rfl,rfl,by omega,Ho3,Hb3⟩
 case round=>
  obtain⟨k,v,rfl,rfl,hk,hown,hB⟩:=hrel;obtain⟨W0,hW0⟩:∃W0,W0=wr:=⟨_,rfl⟩
  subst hW0
  by_cases hlt:k<16
  ·have hlt2:(k:Int)<16:=by omega
   obtain⟨A,hA⟩:∃A,64*k=A:=⟨_,rfl⟩
   have q1:IntKind.i64.wrap ((k:Int)*64)=(A:Int):=by rw[IntKind.wrap_i64];omega
   have HA:=zh hA;have Hw0:=zh (q09 f k)
   go_wp2_with (first|(refine z4p rfl (.tmp 9) (.tmp 10) rfl f k (by rfl) (by rfl) hlt ?_))
   rw[←Hw0.out]
   go_loopw [3,5] (fun lv x wx=>∃(j:Nat) (v2:Value),v2=lv∧x=.int .u64 (wh f k j:Nat)∧j≤64∧Hid (wx.ownsRow w.heap.size ZT 1 v2 (eI f (64*k+j)).length (iv (eI f (64*k+j))))∧Hid (Below w.heap.size w wx)) (fun _ x _=>(intOf x).toNat)
   case atStart=>exact⟨0,v,rfl,rfl,by omega,hown,hB⟩
   case round=>
    obtain⟨j,v2,rfl,rfl,hj,hown2,hB2⟩:=hrel
    by_cases h0:wh f k j=0
    ·have hd:=q1a hj h0;have ho3:Hid (wr.ownsRow w.heap.size ZT 1 v2 (eI f (64*(k+1))).length (iv (eI f (64*(k+1))))):=by
      have:=hown2.out;rw[eI,hd] at this;exact this
     rw[h0];clear hown2 hd h0;go_wp2
     go_roundw
     case rel=>exact⟨k+1,v2,rfl,by go_num,by omega,ho3,hB2⟩
     case measure=>simp[intOf];omega
    ·obtain⟨t,ht,hjt,h64,hft,hels,hnext⟩:=q1b (f:=f) (k:=k) (j:=j) (by omega);have hlt3:=q3y f k j;have hlow:=y93 (wh f k j) wr (by omega) hlt3 (HT.out.below (hB2.out.mono (by exact zlr _)));rw[ht] at hlow;have hdec:wh f k (t+1)<wh f k j:=by
      rw[←hnext];have:=Nat.and_le_right (n:=wh f k j) (m:=wh f k j-1);omega
     have hand:bits .and .u64 (wh f k j:Nat) ((wh f k j-1:Nat):Int)=(wh f k (t+1):Nat):=by
      rw[u64_and_nat _ _ hlt3 (by omega),hnext]
     have hsub:IntKind.u64.wrap ((wh f k j:Nat)-1)=((wh f k j-1:Nat):Int):=by rw[IntKind.wrap_u64];omega
     have hne:(((wh f k j:Nat):Int)==0)=false:=by rw[beq_eq_false_iff_ne];omega
     have hln:Hid ((eI f (64*k+j)).length≤2048):=by
      show _≤_;rw[q0g];have:=y70 f (64*k+j);omega
     have hstep:Hid (eI f (64*k+j)++[((64*k+t:Nat):Int)]=eI f (64*k+(t+1))):=by
      show _=_;rw[eI,eI,hels,List.map_append];rfl
     obtain⟨Z,hZ⟩:∃Z,64*k+t=Z:=⟨_,rfl⟩
     have q2:IntKind.i64.wrap ((A:Int)+(t:Int))=(Z:Int):=by rw[IntKind.wrap_i64];have:=HA.out;omega
     rw[hZ] at hstep;obtain⟨V2,hV2⟩:∃V2,wh f k (t+1)=V2:=⟨_,rfl⟩
     rw[hV2] at hdec hand;have HV2:=zh hV2;generalize wh f k j-1=V1 at*;generalize wh f k j=V0 at*;have HL:=zh hlow;have Hdec:=zh hdec;have Ht:=zh h64;have hsz:=hB2.out.size;have hnew:=zh (x4n wr ZT (Z:Int));clear hZ hels hnext hft ht hjt hlow hdec h64 hV2 h0 hA hown;go_wp2_with fail;refine HL.out.mono ?_;rintro e w' ⟨rfl,rfl⟩
     go_wp2_with (at_builtin;refine z2g rfl (.tmp 16) (.tmp 22) SZT rfl w.heap.size ZT Tryz.underlying76 z81 _ (eI f (64*k+j)) (by rfl) (hown2.out.alloc _) wr.heap.size 1 (Z:Int) (by rfl) hnew.out (by have:=hln.out;omega) (by simp;omega) ?_;intro v4 w4 hown4 hgrow4)
     have hb4:Hid (Below w.heap.size w w4):=(hB2.out.alloc hsz _).grown hgrow4.out (by simp;omega) (fun j hj=>(hown2.out.lt j hj).1);have ho4:Hid (w4.ownsRow w.heap.size ZT 1 v4 (eI f (64*k+(t+1))).length (iv (eI f (64*k+(t+1))))):=by rw[←hstep.out];exact hown4
     clear hown4 hgrow4 hown2 hB2 hstep;go_wp2
     go_roundw
     case rel=>exact⟨t+1,v4,rfl,by rw[HV2.out],by have:=Ht.out;omega,ho4,hb4⟩
     case measure=>simp[intOf];exact Hdec.out
  ·obtain rfl:k=16:=by omega
   go_wp2;go_ret;exact⟨_,rfl,hown.out,hB.out⟩
theorem x4o {α:Type}(E:Elt α)(w:World)(T:TypeId):(w.alloc (.cells #[] T)).ownsRow w.heap.size T E.sz (.slice (some ⟨w.heap.size,0,none⟩) 0 0) 0 (E.row []):=by
 refine⟨by simp[Elt.row],.inr ⟨w.heap.size,0,#[],rfl,zlr _,?_,zlr _,by unfold maxLen;omega,by simp,by simp[Elt.row]⟩⟩;show(w.heap.push _)[w.heap.size]? =_;rw[Array.getElem?_push_size]
set_option maxRecDepth 100000 in
theorem x0r (v:Value)(l:List ByteArray)(w:World)(hv:EV strE w v l)(hl:l.length≤1000000):
  Calls Tryz.prog 89 #[v] w fun e w'=>∃u,e=.returned u∧w'.ownsRow w.heap.size 9 (strE).sz u l.length ((strE).row l)∧Below w.heap.size w w':=by
 obtain⟨a,c,rfl,hs,hz,hc,hm⟩:=hv;have q22:∀(w:World) (a:Option Addr) (n c n' c':Nat),(binOp .eql 80 (.slice a n c) (.slice none n' c')).run Tryz.prog w=.ok (.bool a.isNone) w:=fun w a n c n' c'=>Lib.run_eql_slice_nil w _ _ a n c n' c' Tryz.underlying80
 cases a with
 | none=>
  obtain rfl:l=[]:=by
   rcases hs with ⟨_,h⟩|⟨g,o,h,_⟩
   ·exact h
   ·cases h
  have hcz:=hz rfl;clear hs hz hc hm
  go_enter Tryz.func89,Tryz.ntmps89
  go_wp2;go_ret;exact⟨_,rfl,World.ownsRow_nil _ _ _ _,zbr _ _⟩
 | some ad=>
  have hb1:Below w.heap.size w (w.alloc (.cells #[] 9)):=(zbr _ _).alloc (zlr _) _;obtain⟨v1,w1,hrun,hb2,ho⟩:=z08 (P:=Tryz.prog) (w:=w.alloc (.cells #[] 9)) (E:=strE) w.heap.size 80 80 9 Tryz.underlying80 y4o _ 0 [] (x4o strE w 9) hb1.size (some ad) l.length c l rfl hz (hs.below hb1 (zlr _)) (by unfold maxLen;omega) (by show _*16≤_;omega);rw[List.nil_append,Nat.zero_add] at ho;have Ho:=zh ho;have HB:=zh (hb1.trans hb2);obtain⟨n,hn⟩:∃n,l.length=n:=⟨_,rfl⟩
  rw[hn] at hrun Ho⊢
  clear hs hz hc hm hb1 hb2 ho hn hl
  go_enter Tryz.func89,Tryz.ntmps89
  go_wp2_with (at_builtin;refine Lib.wpList_append_run _ rfl (.tmp 5) (.tmp 6) _ _ rfl _ _ (by rfl) (by rfl) _ _ hrun ?_)
  go_ret;exact⟨_,rfl,Ho.out,HB.out⟩
theorem y0z (v:Value)(l:List ByteArray)(w:World)(hv:EV strE w v l)(hl:l.length≤1000000):
  Calls Tryz.prog 89 #[v] w fun e w'=>∃u,e=.returned u∧EV strE w' u l∧Below w.heap.size w w':=by
 refine(x0r v l w hv hl).mono ?_;rintro e w' ⟨u,rfl,ho,hb⟩;exact⟨u,rfl,z1u ho,hb⟩
set_option maxRecDepth 100000 in
theorem x0s (v:Value)(l:List Rw)(w:World)(hv:EV celE w v l)(hl:l.length≤1000000):
  Calls Tryz.prog 124 #[v] w fun e w'=>∃u,e=.returned u∧w'.ownsRow w.heap.size 119 (celE).sz u l.length ((celE).row l)∧Below w.heap.size w w':=by
 obtain⟨a,c,rfl,hs,hz,hc,hm⟩:=hv;have q22:∀(w:World) (a:Option Addr) (n c n' c':Nat),(binOp .eql 79 (.slice a n c) (.slice none n' c')).run Tryz.prog w=.ok (.bool a.isNone) w:=fun w a n c n' c'=>Lib.run_eql_slice_nil w _ _ a n c n' c' Tryz.underlying79
 cases a with
 | none=>
  obtain rfl:l=[]:=by
   rcases hs with ⟨_,h⟩|⟨g,o,h,_⟩
   ·exact h
   ·cases h
  have hcz:=hz rfl;clear hs hz hc hm
  go_enter Tryz.func124,Tryz.ntmps124
  go_wp2;go_ret;exact⟨_,rfl,World.ownsRow_nil _ _ _ _,zbr _ _⟩
 | some ad=>
  have hb1:Below w.heap.size w (w.alloc (.cells #[] 119)):=(zbr _ _).alloc (zlr _) _;obtain⟨v1,w1,hrun,hb2,ho⟩:=z08 (P:=Tryz.prog) (w:=w.alloc (.cells #[] 119)) (E:=celE) w.heap.size 79 79 119 Tryz.underlying79 y0x _ 0 [] (x4o celE w 119) hb1.size (some ad) l.length c l rfl hz (hs.below hb1 (zlr _)) (by unfold maxLen;omega) (by show _*56≤_;omega);rw[List.nil_append,Nat.zero_add] at ho;have Ho:=zh ho;have HB:=zh (hb1.trans hb2);obtain⟨n,hn⟩:∃n,l.length=n:=⟨_,rfl⟩
  rw[hn] at hrun Ho⊢
  clear hs hz hc hm hb1 hb2 ho hn hl
  go_enter Tryz.func124,Tryz.ntmps124
  go_wp2_with (at_builtin;refine Lib.wpList_append_run _ rfl (.tmp 5) (.tmp 6) _ _ rfl _ _ (by rfl) (by rfl) _ _ hrun ?_)
  go_ret;exact⟨_,rfl,Ho.out,HB.out⟩
set_option maxRecDepth 100000 in
theorem x0t (v:Value)(l:List Nat)(w:World)(hv:EV pgE w v l)(hl:l.length≤1000000):
  Calls Tryz.prog 125 #[v] w fun e w'=>∃u,e=.returned u∧w'.ownsRow w.heap.size 3 (pgE).sz u l.length ((pgE).row l)∧Below w.heap.size w w':=by
 obtain⟨a,c,rfl,hs,hz,hc,hm⟩:=hv;have q22:∀(w:World) (a:Option Addr) (n c n' c':Nat),(binOp .eql 76 (.slice a n c) (.slice none n' c')).run Tryz.prog w=.ok (.bool a.isNone) w:=fun w a n c n' c'=>Lib.run_eql_slice_nil w _ _ a n c n' c' Tryz.underlying76
 cases a with
 | none=>
  obtain rfl:l=[]:=by
   rcases hs with ⟨_,h⟩|⟨g,o,h,_⟩
   ·exact h
   ·cases h
  have hcz:=hz rfl;clear hs hz hc hm
  go_enter Tryz.func125,Tryz.ntmps125
  go_wp2;go_ret;exact⟨_,rfl,World.ownsRow_nil _ _ _ _,zbr _ _⟩
 | some ad=>
  have hb1:Below w.heap.size w (w.alloc (.cells #[] 3)):=(zbr _ _).alloc (zlr _) _;obtain⟨v1,w1,hrun,hb2,ho⟩:=z08 (P:=Tryz.prog) (w:=w.alloc (.cells #[] 3)) (E:=pgE) w.heap.size 76 76 3 Tryz.underlying76 y0y _ 0 [] (x4o pgE w 3) hb1.size (some ad) l.length c l rfl hz (hs.below hb1 (zlr _)) (by unfold maxLen;omega) (by show _*8≤_;omega);rw[List.nil_append,Nat.zero_add] at ho;have Ho:=zh ho;have HB:=zh (hb1.trans hb2);obtain⟨n,hn⟩:∃n,l.length=n:=⟨_,rfl⟩
  rw[hn] at hrun Ho⊢
  clear hs hz hc hm hb1 hb2 ho hn hl
  go_enter Tryz.func125,Tryz.ntmps125
  go_wp2_with (at_builtin;refine Lib.wpList_append_run _ rfl (.tmp 5) (.tmp 6) _ _ rfl _ _ (by rfl) (by rfl) _ _ hrun ?_)
  go_ret;exact⟨_,rfl,Ho.out,HB.out⟩
end Go.Proofs.YtdnfhjfbanhhcaaGreatDoor
