/-
  Steps.
-/
import Derived.Test.YtdnfhjfbanhhcaaGreatDoorQLBk18
import Derived.Test.YtdnfhjfbanhhcaaGreatDoorProg
namespace Go.Proofs.YtdnfhjfbanhhcaaGreatDoor
open Go Go.RowKit
set_option maxRecDepth 100000 in
theorem y2p (a:Option Addr)(n c:Nat)(cs:List Ce)(w:World)(hn:cs.length=n)(hs:CSrc w a cs)(hl:n≤1000000)(hm:z2k cs):
  Calls Tryz.prog 120 #[.slice a n c] w fun e w'=>e=.returned (.int .i64 ((z10 cs).length:Nat))∧Below w.heap.size w w':=by
 have Hs:=zh hs;have Hn:=zh hn;have Hm:=zh hm;have hv:=z6a (show n<18446744073709551616 by omega);have hv2:=z6n n w (by omega);have hL:Hid ((z10 cs).length=vs n+(body cs).length):=by show _=_;rw[z6d,hn]
 clear hs hn hm;generalize (z10 cs).length=LL at*;generalize vs n=V at*
 go_enter Tryz.func120,Tryz.ntmps120
 go_wp2_with fail;refine hv2.mono ?_;rintro e w' ⟨rfl,rfl⟩;go_wp2_with fail
 go_loopw [3,12] (fun s i wr=>∃k t:Nat,s=.int .i64 t∧i=.int .i64 k∧k≤n∧t≤10+124*k∧Hid (t=V+sums cs k)∧Hid (Below w.heap.size w wr)) (fun _ i _=>n-(intOf i).toNat)
 case atStart=>exact⟨0,V,rfl,rfl,by omega,by omega,rfl,zbr _ _⟩
 case round=>
  obtain⟨k,t,rfl,rfl,hk,ht,hts,hB⟩:=hrel
  by_cases hlt:k<n
  ·obtain⟨g,o,rfl,hcell⟩:=Hs.out.below hB.out (zlr _) (by rw[Hn.out];omega);obtain⟨q0,q1,q2,q3⟩:=hcell k (by rw[Hn.out];exact hlt);have hmay:=Hm.out k (by rw[Hn.out];exact hlt);have h1:=x7c hmay;have h2:=y3y hmay;have h3:=x2q hmay;have h4:=x2t hmay;have h5:Hid (t+z32 (ca cs k).k (ca cs k).n=V+sums cs (k+1)):=by
    show _=_;rw[y30 cs k (by rw[Hn.out];exact hlt),y1v hmay,hts.out];omega
   generalize ca cs k=y at*;obtain⟨x0,x1,x2,x3⟩:=y;dsimp only at q0 q1 q2 q3 h1 h2 h3 h4 h5;obtain⟨N,rfl⟩:=Int.eq_ofNat_of_zero_le h2;have hN:N≤2048:=by omega
   have hsz:=fun w=>z71 x0 N w (by omega) (by omega)
   generalize z32 x0 (N:Int)=Z at*;have hB2:Hid (Below w.heap.size w (wr.alloc (.cells #[.string x0,.string x1,.int .i64 (N:Int),.int .i64 x3] CT))):=hB.out.alloc hB.out.size _;clear hcell hmay hts;go_wp2_with fail;refine(hsz _).mono ?_;rintro e w' ⟨rfl,rfl⟩;go_wp2
   go_roundw
   case rel=>exact⟨k+1,t+Z,by go_num,by go_num,by omega,by omega,h5,hB2⟩
   case measure=>simp[intOf];omega
  ·obtain rfl:k=n:=by omega
   have h5:Hid (t=LL):=by show _=_;rw[hts.out,y8e cs k (by rw[Hn.out];exact zlr _),hL.out]
   clear hts hL;go_wp2;go_ret;exact⟨by rw[←h5.out];rfl,hB.out⟩
def Lo (v:Value)(B:Nat):Prop:=∀g o n c,v=.slice (some ⟨g,o,none⟩) n c→0<n→g<B
structure Rb (w:World) (b B:Nat) (S:RS):Prop where
 ex:∃v,RSB w b RDT v S.wr∧Sl w v S.l∧Lo v B
 b8:B8 S.l
 len:S.l.length≤65536
 inv:S.wr=true→S.l=[]
theorem Rb.rd {w:World}{b B:Nat}{S:RS}(h:Rb w b B S):Rd w b S:=by
 obtain⟨v,h1,h2,_⟩:=h.ex;exact⟨⟨v,h1,h2⟩,h.b8,h.len,h.inv⟩
theorem Rd.rb {w:World}{b:Nat}{S:RS}(h:Rd w b S):Rb w b w.heap.size S:=by
 obtain⟨v,h1,h2⟩:=h.ex;refine⟨⟨v,h1,h2,fun g o n c e h0=> ?_⟩,h.b8,h.len,h.inv⟩;subst e
 rcases h2 with ⟨e,_⟩|⟨g',o',c',e,hc,_⟩
 ·cases e
 ·cases e
  exact hc.lt h0
theorem Rb.lt {w:World}{b B:Nat}{S:RS}(h:Rb w b B S):b<w.heap.size:=h.rd.lt
theorem Rb.noByte {w:World}{b B:Nat}{S:RS}(h:Rb w b B S):z3t w b:=h.rd.noByte
theorem Lo.none (B:Nat):Lo (.slice none 0 0) B:=fun _ _ _ _ e=>by cases e
theorem Lo.empty (a:Option Addr)(c B:Nat):Lo (.slice a 0 c) B:=fun _ _ _ _ e h0=>by
 simp only[Value.slice.injEq] at e;omega
theorem Lo.same {g o n c o' n' c' B:Nat}(h:Lo (.slice (some ⟨g,o,Option.none⟩) n c) B)(h1:n'≤n):Lo (.slice (some ⟨g,o',Option.none⟩) n' c') B:=fun g2 o2 n2 c2 e h0=>by
 cases e
 exact h g o n c rfl (by omega)
theorem Rb.below {w w':World}{b B:Nat}{S:RS}(h:Rb w b B S)(hb:Below w.heap.size w w'):Rb w' b B S:=by
 obtain⟨v,h1,h2,h3⟩:=h.ex;exact⟨⟨v,h1.below hb h1.lt,h2.below hb (zlr _),h3⟩,h.b8,h.len,h.inv⟩
theorem Rb.over {w w':World}{b g B:Nat}{S:RS}(h:Rb w b B S)(t:Turn (fun i=>i=g) w w')(hg:B≤g)(hb:b≠g):Rb w' b B S:=by
 obtain⟨v,h1,h2,h3⟩:=h.ex;refine⟨⟨v,h1.turn t hb,?_,h3⟩,h.b8,h.len,h.inv⟩
 rcases h2 with h4|⟨g',o',c',rfl,hc,h5,h6⟩
 ·exact .inl h4
 ·refine .inr ⟨g',o',c',rfl,fun i hi=> ?_,h5,h6⟩;have hlt:=h3 g' o' _ c' rfl (by omega);rw[t.cell (p:=⟨g',o'+i,Option.none⟩) (block_lt_of_cell (hc i hi)) (by show¬g'=g;omega)];exact hc i hi
theorem z7m (w:World)(b B:Nat)(S:RS)(h:Rb w b B S):
  Calls Tryz.prog 188 #[.pointer (some ⟨b,0,none⟩)] w fun e w'=>e=.returned (.tuple #[])∧Rb w' b B ⟨[],true⟩∧Turn (fun i=>i=b) w w':=by
 obtain⟨v,h1,h2,h3⟩:=h.ex;have H3:=zh h3;clear h3;have f0:=h1.fz 0;have f1:=h1.fz 1;have c0:=h1.c0;have c1:=h1.c1;have hr:Hid (Rb ((w.setCell ⟨b,0,none⟩ (.slice none 0 0)).setCell ⟨b,1,none⟩ (.bool true)) b B ⟨[],true⟩):=
  ⟨⟨_,(h1.set0 (.slice none 0 0)).set1 true,Sl.none _,Lo.none _⟩,B8.nil,by simp,fun _=>rfl⟩
 have ht:Hid (Turn (fun i=>i=b) w ((w.setCell ⟨b,0,none⟩ (.slice none 0 0)).setCell ⟨b,1,none⟩ (.bool true))):=
  z9m w b _ _
 clear h h1 h2
 go_enter Tryz.func188,Tryz.ntmps188
 go_wp2
 go_end0
 exact⟨rfl,hr.out,ht.out⟩
set_option maxRecDepth 100000 in
theorem z9p (w:World)(b B:Nat)(S:RS)(h:Rb w b B S)(k:Nat)(hk:k≤9223372036854775807):
  Calls Tryz.prog 175 #[.pointer (some ⟨b,0,none⟩),.int .i64 k] w fun e w'=>∃v,e=.returned v∧Sl w' v (z4t S k).1∧Rb w' b B (z4t S k).2∧Turn (fun i=>i=b) w w':=by
 obtain⟨v,h1,h2,h3⟩:=h.ex;have H3:=zh h3;clear h3;have f0:=h1.fz 0;have c0:=h1.c0;have H:=zh h;have Hlen:=zh h.len
 by_cases hlt:S.l.length<k
 ·have e:z4t S k=([],⟨[],true⟩):=by unfold z4t;rw[if_neg (by omega)]
  rw[e];have hsp:=zh (z7m w b B S h);obtain⟨a,c,rfl,_⟩:=h2.arg;generalize S.l.length=n at*;have d1:decide ((n:Int)<(k:Int))=true:=by simp;omega
  clear h h1 h2 e
  go_enter Tryz.func175,Tryz.ntmps175
  go_wp2_with fail;refine hsp.out.mono ?_;rintro e w' ⟨rfl,hr,ht⟩;go_wp2;go_ret;exact⟨_,rfl,Sl.none _,hr,ht⟩
 ·have e:z4t S k=(S.l.take k,⟨S.l.drop k,S.wr⟩):=by unfold z4t;rw[if_pos (by omega)]
  rw[e];have hb8:=h.b8.drop k;have hinv:S.wr=true→S.l.drop k=[]:=fun hw=>by rw[h.inv hw];exact List.drop_nil
  have hlen:(S.l.drop k).length≤65536:=by have:=h.len;rw[zld];omega
  have Hst:=zh (zai hb8 (zai hinv hlen));have H1:=zh h1;have H2:=zh h2;have Hnb:=zh h.noByte
  rcases h2 with ⟨rfl,h0⟩|⟨g,o,c,rfl,hc,hnc,hcm⟩
  ·have hl0:S.l.length=0:=by rw[h0];rfl
   obtain rfl:k=0:=by omega
   have e1:S.l.take 0=[]:=rfl;have e2:S.l.drop 0=[]:=h0;have hr:Hid (Rb (w.setCell ⟨b,0,none⟩ (.slice none 0 0)) b B ⟨S.l.drop 0,S.wr⟩):=⟨⟨_,H1.out.set0 _,by show Sl _ _ (S.l.drop 0);rw[e2];exact Sl.none _,Lo.none _⟩,Hst.out.1,Hst.out.2.2,Hst.out.2.1⟩
   have ht:=zh (z1e w b 0 (.slice none 0 0));rw[e1];clear h h1 e e1 e2 hb8 hinv hlen h0 hl0 hlt hk
   go_enter Tryz.func175,Tryz.ntmps175
   go_wp2;go_ret;exact⟨_,rfl,Sl.none _,hr.out,ht.out⟩
  ·have Hn:∃n,n=S.l.length:=⟨_,rfl⟩
   obtain⟨n,hn⟩:=Hn;rw[←hn] at c0 H1 H2 Hlen hnc hlt;have HN:=zh hn.symm;have hn64:=Hlen.out;have hkn:k≤n:=by omega
   have hcm2:c≤9223372036854775807:=by unfold maxLen at hcm;omega
   have Hcm:=zh hcm;have d1:decide ((n:Int)<(k:Int))=false:=by simp;omega
   have Htk:Hid (Sl w (.slice (some ⟨g,o,none⟩) k c) (S.l.take k)):=q2q hc hn.symm hkn hnc hcm
   rcases zng k c with hkc|hkc
   ·have ht:=zh (z1e w b 0 (.slice (some ⟨g,o+k,none⟩) (n-k) (c-k)));have hs:=zh ((q2r hc hn.symm hkn hnc hcm).turn ht.out Hnb.out);have hs2:=zh (Htk.out.turn ht.out Hnb.out);have hr:Hid (Rb (w.setCell ⟨b,0,none⟩ (.slice (some ⟨g,o+k,none⟩) (n-k) (c-k))) b B ⟨S.l.drop k,S.wr⟩):=⟨⟨_,H1.out.set0 _,hs.out,H3.out.same (by omega)⟩,Hst.out.1,Hst.out.2.2,Hst.out.2.1⟩
    have y1:¬(c=k):=by omega
    clear h h1 e hb8 hinv hlen hn hc Hcm hcm Htk hs
    go_enter Tryz.func175,Tryz.ntmps175
    go_wp2;go_ret;exact⟨_,rfl,hs2.out,hr.out,ht.out⟩
   ·obtain rfl:k=c:=by omega
    obtain rfl:k=n:=by omega
    have ht:=zh (z1e w b 0 (.slice (some ⟨g,o,none⟩) 0 0));have hs2:=zh (Htk.out.turn ht.out Hnb.out);have hr:Hid (Rb (w.setCell ⟨b,0,none⟩ (.slice (some ⟨g,o,none⟩) 0 0)) b B ⟨S.l.drop k,S.wr⟩):=⟨⟨_,H1.out.set0 _,q4u HN.out (zlr _),Lo.empty _ _ _⟩,Hst.out.1,Hst.out.2.2,Hst.out.2.1⟩
    clear h h1 e hb8 hinv hlen hn hc Hcm hcm Htk
    go_enter Tryz.func175,Tryz.ntmps175
    go_wp2;go_ret;exact⟨_,rfl,hs2.out,hr.out,ht.out⟩
theorem z7n (w:World)(b B:Nat)(S:RS)(h:Rb w b B S):
  Calls Tryz.prog 174 #[.pointer (some ⟨b,0,none⟩)] w fun e w'=>e=.returned (.int .u8 ((z1z S).1:Nat))∧Rb w' b B (z1z S).2∧Turn (fun i=>i=b) w w':=by
 have ht:=z9p w b B S h 1 (by omega);have ho:=x4u h.inv
 by_cases h0:S.l=[]
 ·rw[ho.1 h0] at ht;have e0:Hid ((z1z S).1=0):=by show _=_;rw[z4m h0]
  clear h ho;have Ht:=zh ht;clear ht
  go_enter Tryz.func174,Tryz.ntmps174
  go_wp2_with fail;refine Ht.out.mono ?_;rintro e w' ⟨v,rfl,hv,hr,htn⟩;obtain⟨a,c,rfl,_⟩:=hv.arg;rw[show([]:List Nat).length=0 from rfl];go_wp2;go_ret;exact⟨by rw[e0.out];rfl,hr,htn⟩
 ·rw[ho.2 h0] at ht;clear h ho;generalize (z1z S).1=X at*;have Ht:=zh ht;clear ht
  go_enter Tryz.func174,Tryz.ntmps174
  go_wp2_with fail;refine Ht.out.mono ?_;rintro e w' ⟨v,rfl,hv,hr,htn⟩
  rcases hv with ⟨_,hv⟩|⟨g,o,c,rfl,hc,_⟩
  ·cases hv
  have c0:=hc 0 (by simp);rw[show([X]:List Nat).getD 0 0=X from rfl,Nat.add_zero] at c0;rw[show([X]:List Nat).length=1 from rfl];clear hc;go_wp2;go_ret;exact⟨rfl,hr,htn⟩
set_option maxRecDepth 100000 in
theorem z4w (w:World)(b B:Nat)(S:RS)(h:Rb w b B S)(m:Nat):
  Calls Tryz.prog 170 #[.pointer (some ⟨b,0,none⟩),.int .u64 m] w fun e w'=>e=.returned (.int .u64 ((numS S m).1:Nat))∧Rb w' b B (numS S m).2∧Turn (fun i=>i=b) w w':=by
 obtain⟨v,h1,h2,_⟩:=h.ex;have c0:=h1.c0;obtain⟨a,c,rfl,hsrc,_⟩:=h2.arg;have hget:=x79 a c S.l w h.b8 (by have:=h.len;omega) hsrc;have H:=zh h;have Hget:=zh hget;have hlt:=x2i S.l;have hgl:=y8b S.l;have hS:S.l.length≤65536:=h.len;have hnd:∀k,z4t S k=if k≤S.l.length then (S.l.take k,⟨S.l.drop k,S.wr⟩) else ([],⟨[],true⟩):=fun _=>rfl
 have hwr:(gt S.l).2.2=0→S.wr=false:=fun he=>by
  cases hw:S.wr with
  | false=>rfl
  | true=>have:=h.inv hw;rw[this,x95] at he;cases he
 by_cases he:(gt S.l).2.2=0
 ·by_cases hm:(gt S.l).1≤m
  ·have hn:=z42 he hm;have hg:gotV S.l=.tuple #[.int .u64 ((gt S.l).1:Nat),.int .i64 ((gt S.l).2.1:Nat),.nilIface]:=by unfold gotV;rw[he];rfl
   have htk:z4t S (gt S.l).2.1=(S.l.take (gt S.l).2.1,⟨S.l.drop (gt S.l).2.1,false⟩):=by rw[hnd,if_pos (hgl he).2.1,hwr he]
   rw[hn];have ht:=z9p w b B S h (gt S.l).2.1 (by have:=(hgl he).2.1;omega);rw[htk] at ht;rw[hg] at Hget;have Ht:=zh ht;clear h h1 h2 hget hnd hwr hn hg htk ht hsrc hgl he H;generalize (gt S.l).1=V at*;generalize (gt S.l).2.1=N at*;have d1:decide ((m:Int)<(V:Int))=false:=by simp;omega
   generalize S.l.length=n at*
   go_enter Tryz.func170,Tryz.ntmps170
   go_wp2_with fail;refine Hget.out.mono ?_;rintro e w' ⟨rfl,rfl⟩;go_wp2_with fail;refine Ht.out.mono ?_;rintro e w' ⟨v,rfl,_,hr,htn⟩;go_wp2;go_ret;exact⟨rfl,hr,htn⟩
  ·have hn:=z3p (S:=S) (most:=m) (fun hx=>hm hx.2);have hg:gotV S.l=.tuple #[.int .u64 ((gt S.l).1:Nat),.int .i64 ((gt S.l).2.1:Nat),.nilIface]:=by unfold gotV;rw[he];rfl
   rw[hn];have ht:=z7m w b B S h;rw[hg] at Hget;have Ht:=zh ht;clear h h1 h2 hget hnd hwr hn hg ht hsrc hgl he H;generalize (gt S.l).1=V at*;generalize (gt S.l).2.1=N at*;have d1:decide ((m:Int)<(V:Int))=true:=by simp;omega
   generalize S.l.length=n at*
   go_enter Tryz.func170,Tryz.ntmps170
   go_wp2_with fail;refine Hget.out.mono ?_;rintro e w' ⟨rfl,rfl⟩;go_wp2_with fail;refine Ht.out.mono ?_;rintro e w' ⟨rfl,hr,htn⟩;go_wp2;go_ret;exact⟨rfl,hr,htn⟩
 ·have hn:=z3p (S:=S) (most:=m) (fun hx=>he hx.1);have hg:gotV S.l=.tuple #[.int .u64 ((gt S.l).1:Nat),.int .i64 ((gt S.l).2.1:Nat),.iface 94 (.int .i64 (gt S.l).2.2)]:=by unfold gotV errV;rw[if_neg he]
  rw[hn];have ht:=z7m w b B S h;rw[hg] at Hget;have Ht:=zh ht;clear h h1 h2 hget hnd hwr hn hg ht hsrc hgl he H;generalize (gt S.l).1=V at*;generalize (gt S.l).2.1=N at*;generalize (gt S.l).2.2=F at*;generalize S.l.length=n at*
  go_enter Tryz.func170,Tryz.ntmps170
  go_wp2_with fail;refine Hget.out.mono ?_;rintro e w' ⟨rfl,rfl⟩;go_wp2_with fail;refine Ht.out.mono ?_;rintro e w' ⟨rfl,hr,htn⟩;go_wp2;go_ret;exact⟨rfl,hr,htn⟩
set_option maxRecDepth 100000 in
theorem z5x (w:World)(b B:Nat)(S:RS)(h:Rb w b B S)(most:Int)(m:Nat)(hm:m=most.toNat)(h1: -9223372036854775808≤most)(h2:most≤9223372036854775807):
  Calls Tryz.prog 137 #[.pointer (some ⟨b,0,none⟩),.int .i64 most] w fun e w'=>∃v,e=.returned v∧Sl w' v (z0g S m).1∧Rb w' b B (z0g S m).2∧Turn (fun i=>i=b) w w':=by
 have hn:=zh (z4w w b B S h m);rw[y61];have hle:=z80 S m;have hlb:=h.lt;generalize (numS S m).2=S1 at*;generalize (numS S m).1=N at*;have hmx:max most 0=(m:Int):=by omega
 have hm2:m≤9223372036854775807:=by omega
 have z1:IntKind.u64.wrap (m:Int)=(m:Int):=by rw[IntKind.wrap_u64];omega
 clear h;clear hm
 go_enter Tryz.func137,Tryz.ntmps137
 go_wp2_with fail;refine hn.out.mono ?_;rintro e w1 ⟨rfl,hr1,ht1⟩;have hk:=zh (z9p w1 b B S1 hr1 N (by omega));have Ht1:=zh ht1;have hl1:=hr1.len;clear ht1 hr1;go_wp2_with fail;refine hk.out.mono ?_;rintro e w2 ⟨v,rfl,hv,hr2,ht2⟩;obtain⟨a,c,rfl,hsrc,hz,_⟩:=hv.arg;have hlen:(z4t S1 N).1.length≤1099511627776:=by have:=x4t S1 N;omega
 have hcl:=zh (y3w a _ c _ rfl w2 hsrc hz hlen);have Hr2:=zh hr2;have Ht2:=zh (Ht1.out.trans ht2);obtain⟨L,hL⟩:∃L,L=(z4t S1 N).1:=⟨_,rfl⟩
 rw[←hL] at hv hlen hcl⊢
 have HL:=zh hL;clear hL;obtain⟨n,hLn⟩:∃n,n=L.length:=⟨_,rfl⟩
 rw[←hLn] at hcl hlen⊢
 have HLn:=zh hLn;clear hv hr2 ht2 hsrc hz hk hLn;go_wp2_with fail;refine hcl.out.mono ?_;rintro e w3 ⟨v,rfl,hv,hb⟩;have hr3:=Hr2.out.below hb;have ht3:=Ht2.out.trans (q5w hb);go_wp2;go_ret;exact⟨_,rfl,by rw[←HL.out];exact hv,hr3,ht3⟩
theorem Sl.turnF {w w':World}{F:Nat→Prop}{v:Value}{l:List Nat}(h:Sl w v l)(t:Turn F w w')(hn:∀b,F b→z3t w b):Sl w' v l:=by
 rcases h with h|⟨g,o,c,rfl,hc,h1,h2⟩
 ·exact .inl h
 ·refine .inr ⟨g,o,c,rfl,fun i hi=> ?_,h1,h2⟩;have hx:=hc i hi;rw[t.cell (p:=⟨g,o+i,Option.none⟩) (block_lt_of_cell hx) (fun hF=>hn g hF _ _ hx)];exact hx
theorem z2s (w:World)(o:Obj)(F:Nat→Prop):Turn F w (w.alloc o):=(Turn.refl F w).alloc o
theorem nb1 {w:World}{b:Nat}(h:z3t w b):∀i,i=b→z3t w i:=fun _ e=>e▸h
theorem nb2 {w:World}{b p:Nat}(h:z3t w b)(h2:z3t w p):∀i,(i=b∨i=p)→z3t w i:=fun _ e=>e.elim (fun e=>e▸h) (fun e=>e▸h2)
theorem z6r {S:RS}(h:B8 S.l):(z1z S).1<256∧B8 (z1z S).2.l:=by
 by_cases h0:S.l=[]
 ·rw[z4m h0];exact⟨by decide,B8.nil⟩
 ·rw[z3o h0];exact⟨h.get 0,h.drop 1⟩
theorem z3y {w w':World}{row:Option Nat}(hg:w.grownBy w' row):Turn (fun i=>row=some i) w w':=
 ⟨hg.os,hg.tape,hg.output,hg.size,fun i hi hne=>hg.block i hi (fun e=>hne e.symm)⟩
theorem Rb.overF {w w':World}{b B:Nat}{S:RS}{F:Nat→Prop}(h:Rb w b B S)(t:Turn F w w')(hF:∀i,F i→B≤i∧i≠b):Rb w' b B S:=by
 obtain⟨v,h1,h2,h3⟩:=h.ex;refine⟨⟨v,h1.turn t (fun hb=>(hF b hb).2 rfl),?_,h3⟩,h.b8,h.len,h.inv⟩
 rcases h2 with h4|⟨g',o',c',rfl,hc,h5,h6⟩
 ·exact .inl h4
 ·refine .inr ⟨g',o',c',rfl,fun i hi=> ?_,h5,h6⟩;have hlt:=h3 g' o' _ c' rfl (by omega);rw[t.cell (p:=⟨g',o'+i,none⟩) (block_lt_of_cell (hc i hi)) (fun hx=>by have:=(hF g' hx).1;omega)];exact hc i hi
theorem y84 {S:RS}{l:List Nat}{b:Bool}(h1:S.l=l)(h2:S.wr=b):S=⟨l,b⟩:=by
 obtain⟨x,y⟩:=S;dsimp only at h1 h2;rw[h1,h2]
theorem z1q {w w':World}{B E sz n:Nat}{v:Value}{xs:List Value}{F:Nat→Prop}(h:w.ownsRow B E sz v n xs)(t:Turn F w w')(hF:∀i,v.ownBlock=some i→¬F i):w'.ownsRow B E sz v n xs:=by
 refine⟨h.1,?_⟩
 rcases h.2 with h1|⟨g,cap,cur,h1,h2,h3,h4⟩
 ·exact .inl h1
 ·exact .inr ⟨g,cap,cur,h1,h2,t.hg h3 (hF g (by rw[h1];rfl)),h4⟩
theorem q2u (v:Nat):beL v 2=[v/256%256,v%256]:=rfl
def z2j (S:RS)(n k:Nat):List Nat:=(z0w S k).1++List.replicate (n-k) 0
theorem z76 (S:RS)(n k:Nat)(h:k≤n):(z2j S n k).length=n:=by
 unfold z2j;rw[zla,z3r,List.length_replicate];omega
theorem y42 (S:RS)(n k:Nat)(h:k<n):(z2j S n k).set k (z1z (z0w S k).2).1=z2j S n (k+1):=by
 unfold z2j;have e:n-k=(n-(k+1))+1:=by omega
 rw[List.set_append_right _ _ (by rw[z3r];exact zlr _),z3r,Nat.sub_self,e,List.replicate_succ,List.set_cons_zero,z0w,List.append_assoc]
 rfl
theorem y43 (S:RS)(n:Nat):z2j S n n=(z0w S n).1:=by unfold z2j;simp
theorem Row.turn {w w':World}{g E:Nat}{l:List Nat}{F:Nat→Prop}(h:Row w g E l)(t:Turn F w w')(hg:¬F g):Row w' g E l:=t.hg h hg
set_option maxRecDepth 100000 in
theorem y44 (w:World)(b B:Nat)(S:RS)(h:Rb w b B S)(hB:B≤w.heap.size)(n:Nat)(hn:n≤65536):
  Calls Tryz.prog 189 #[.pointer (some ⟨b,0,none⟩),.int .i64 n] w fun e w'=>∃v,e=.returned v∧Sl w' v (z0w S n).1∧Rb w' b B (z0w S n).2∧Turn (fun i=>i=b) w w':=by
 have hblt:=h.lt;have Hrb:=zh h;clear h
 go_enter Tryz.func189,Tryz.ntmps189
 go_wp2_with (at_make;refine z06 rfl _ _ 46 rfl 5 Tryz.underlying46 x66 _ _ _ _ n rfl rfl (by omega) (by omega) (by omega) ?_;intro w1 hr1 hb1)
 have Hr1:Hid (Row w1 w.heap.size 5 (z2j S n 0)):=hr1;have Hb1:=zh hb1;have Hrb1:=zh (Hrb.out.below hb1);clear hr1 hb1 Hrb
 go_loopw [11] (fun i wr=>∃k:Nat,k≤n∧i=.int .i64 k∧Hid (Row wr w.heap.size 5 (z2j S n k))∧Hid (Rb wr b B (z0w S k).2)∧Hid (Turn (fun i=>i=b) w wr)) (fun i _=>n-(intOf i).toNat)
 case atStart=>exact⟨0,Nat.zero_le _,rfl,Hr1,Hrb1,q5w Hb1.out⟩
 case round=>
  obtain⟨k,hk,rfl,hrow,hrb,ht⟩:=hrel
  by_cases hlt:k<n
  ·have hset:=zh (y42 S n k hlt);have hpl:=zh (z76 S n k hk);have hS:Hid ((z0w S (k+1)).2=(z1z (z0w S k).2).2):=rfl;have hby:=zh (z7n wr b B (z0w S k).2 hrb.out);generalize (z1z (z0w S k).2).1=X at*;clear hrb;go_wp2_with fail;refine hby.out.mono ?_;rintro e w2 ⟨rfl,hrb2,ht2⟩;have hrow2:Row w2 w.heap.size 5 (z2j S n k):=hrow.out.turn ht2 (by show¬w.heap.size=b;omega);have hc:=hrow2.cell k (by rw[hpl.out];exact hlt);have hf:=hrow2.frozen k;have hrow3:=hrow2.set k X;rw[hset.out] at hrow3;have Hrow3:=zh hrow3;have Hrb3:Hid (Rb (w2.setCell ⟨w.heap.size,k,none⟩ (.int .u8 (X:Int))) b B (z0w S (k+1)).2):=by
    show Rb _ _ _ _;rw[hS.out];exact hrb2.over (z1e w2 w.heap.size k _) hB (by omega)
   have Ht3:Hid (Turn (fun i=>i=b) w (w2.setCell ⟨w.heap.size,k,none⟩ (.int .u8 (X:Int)))):=
    Turn.setCell (p:=⟨w.heap.size,k,none⟩) (ht.out.trans ht2) _ (fun hl=>by exact absurd hl (Nat.lt_irrefl _))
   generalize (z2j S n k).getD k 0=Y at*;clear hrow hrow2 hrow3 hrb2 ht2 ht hby hset;go_wp2
   go_roundw
   case rel=>exact⟨k+1,by omega,by go_num,Hrow3,Hrb3,Ht3⟩
   case measure=>simp[intOf];omega
  ·obtain rfl:k=n:=by omega
   have hrow2:=hrow.out;have hpl:=z76 S k k hk;rw[y43] at hrow2 hpl;have hsl:=Sl.row hrow2 (by rw[hpl];unfold maxLen;omega);rw[hpl] at hsl;have Hsl:=zh hsl;have Hrd:=zh hrb.out;clear hrow hrow2 hpl hsl hrb;go_wp2;go_ret;exact⟨_,rfl,Hsl.out,Hrd.out,ht.out⟩
theorem q2v (l:List Nat):(opS l).2.1.length≤504:=by
 unfold opS;split
 ·simp
 ·split
  ·simp
  ·split
   ·rename_i h
    show((l.drop 4).take _).length≤504;rw[zlk];have:=h.2.2.1;omega
   ·simp
theorem x8m (a:Option Addr)(n c:Nat)(l:List Nat)(hn:l.length=n)(w:World)(hb:B8 l)(hlc:n≤c)(hcm:c≤9223372036854775807)(hsrc:Src w a l)(hT:z0x w):
  Calls Tryz.prog 130 #[.slice a n c] w fun e w'=>∃v,e=.returned (.tuple #[.int .u8 ((opS l).1:Nat),v,errS (opS l).2.2])∧Sl w' v (opS l).2.1∧Below w.heap.size w w':=by
 subst hn
 by_cases h512:l.length=512
 ·obtain⟨b,o,rfl,hcs⟩:=hsrc (by omega)
  by_cases hs:numL (l.drop 508)=(more 0#32 (l.take 508)).toNat
  ·have hI:=q0e b o c l w h512 (by omega) (by omega) hcs hb hT;rw[zdt hs] at hI;have hG:=q2g b o c l w h512 hcs hb;have c0:=hcs 0 (by omega);have c1:=hcs 1 (by omega);rw[Nat.add_zero] at c0;have hK:=y0n (l.getD 0 0) w (hb.get 0);have hx1:=hb.get 1;have hN:l.getD 2 0*256+l.getD 3 0<65536:=by have:=hb.get 2;have:=hb.get 3;omega
   have hB:=fun(hN5:l.getD 2 0*256+l.getD 3 0≤504)=>x2n (some ⟨b,o+(4+(l.getD 2 0*256+l.getD 3 0)),none⟩) (508-(4+(l.getD 2 0*256+l.getD 3 0))) (c-(4+(l.getD 2 0*256+l.getD 3 0))) ((l.take 508).drop (4+(l.getD 2 0*256+l.getD 3 0))) (by rw[zld,zlk];omega) w (by omega) ((hcs.start 508).rest _).src
   rw[h512]
   by_cases hgood:(1≤l.getD 0 0∧l.getD 0 0≤5)∧l.getD 1 0=0∧l.getD 2 0*256+l.getD 3 0≤504∧z20 ((l.take 508).drop (4+(l.getD 2 0*256+l.getD 3 0)))=true
   ·rw[x72 h512 hs hgood];obtain⟨g1,g2,g3,g4⟩:=hgood;have hB:=hB g3;rw[g4] at hB;rw[zdt g1] at hK;rw[g2] at c1;have hLl:((l.drop 4).take (l.getD 2 0*256+l.getD 3 0)).length=l.getD 2 0*256+l.getD 3 0:=by rw[zlk,zld];omega
    refine(x38 b o c _ _ _ w (by omega) hcm hI hG hB hK c0 c1 g3 (hcs.cut 4 _).src hLl).mono ?_;rintro e w' ⟨rfl,hr,hbw⟩;refine⟨_,rfl,?_,hbw⟩;have h1:=Sl.row hr (by rw[hLl];unfold maxLen;omega);rw[hLl] at h1;exact h1
   ·rw[x71 h512 hs hgood];refine(x75 b o c _ _ _ _ _ w (by omega) hcm hI hG hB hK c0 c1 hx1 hN (fun h=>hgood ⟨of_decide_eq_true h.1,h.2.1,h.2.2.1,h.2.2.2⟩)).mono ?_;rintro e w' ⟨rfl,rfl⟩;exact⟨_,rfl,Sl.none _,zbr _ _⟩
  ·rw[q1h h512 hs];have:=x74 b o c l w h512 (by omega) (by omega) hcs hb hT hs;rw[h512];refine this.mono ?_;rintro e w' ⟨rfl,rfl⟩;exact⟨_,rfl,Sl.none _,zbr _ _⟩
 ·rw[q1g h512];refine(x73 a _ c w h512).mono ?_;rintro e w' ⟨rfl,rfl⟩;exact⟨_,rfl,Sl.none _,zbr _ _⟩
def PB (w:World)(b:Nat)(T:TypeId)(u v:Value):Prop:=w.heap[b]? =some (.cells #[u,v] T (0,0))
theorem PB.c0 {w:World}{b:Nat}{T:TypeId}{u v:Value}(h:PB w b T u v):w.cell? ⟨b,0,none⟩=some u:=by
 have h':w.heap[b]? =_:=h;simp[World.cell?,h']
theorem PB.c1 {w:World}{b:Nat}{T:TypeId}{u v:Value}(h:PB w b T u v):w.cell? ⟨b,1,none⟩=some v:=by
 have h':w.heap[b]? =_:=h;simp[World.cell?,h']
theorem PB.fz {w:World}{b:Nat}{T:TypeId}{u v:Value}(h:PB w b T u v)(j:Nat):w.frozen? ⟨b,j,none⟩=false:=by
 have h':w.heap[b]? =_:=h;simp[World.frozen?,h']
theorem PB.lt {w:World}{b:Nat}{T:TypeId}{u v:Value}(h:PB w b T u v):b<w.heap.size:=(zag.1 h).1
theorem PB.new (w:World)(T:TypeId)(u v:Value):PB (w.alloc (.cells #[u,v] T)) w.heap.size T u v:=by
 show(w.heap.push _)[w.heap.size]? =_;rw[Array.getElem?_push_size]
theorem PB.below {w w':World}{b B:Nat}{T:TypeId}{u v:Value}(h:PB w b T u v)(hb:Below B w w')(hB:b<B):PB w' b T u v:=(hb.block b hB).trans h
theorem PB.ext {w w':World}{b:Nat}{T:TypeId}{u v:Value}(h:PB w b T u v)(hb:Below w.heap.size w w'):PB w' b T u v:=h.below hb h.lt
theorem PB.extD {w w':World}{b:Nat}{T:TypeId}{u v:Value}(h:PB w b T u v)(hb:Ext w.drew w'):PB w' b T u v:=h.below (B:=w.heap.size) ((zbr _ w).drew.trans hb) h.lt
theorem PB.stay {w:World}{b:Nat}{T:TypeId}{u v:Value}(h:PB w b T u v)(o:Obj):PB (w.alloc o) b T u v:=h.ext ((zbr _ _).alloc (zlr _) o)
theorem PB.turn {w w':World}{b:Nat}{T:TypeId}{u v:Value}{F:Nat→Prop}(h:PB w b T u v)(t:Turn F w w')(hF:¬F b):PB w' b T u v:=t.hg h hF
theorem PB.set0 {w:World}{b:Nat}{T:TypeId}{u v:Value}(h:PB w b T u v)(x:Value):PB (w.setCell ⟨b,0,none⟩ x) b T x v:=heap_setCell_same w b 0 _ _ _ h
theorem PB.set1 {w:World}{b:Nat}{T:TypeId}{u v:Value}(h:PB w b T u v)(x:Value):PB (w.setCell ⟨b,1,none⟩ x) b T u x:=heap_setCell_same w b 1 _ _ _ h
abbrev FT:TypeId:=177
def chkF (b:Bool):Value:=if b=true then .nilIface else .iface 94 (.int .i64 1)
set_option maxRecDepth 100000 in
theorem y45 (a:Option Addr)(n c:Nat)(ks:List ByteArray)(w:World)(hn:ks.length=n)(hs:TxS w a ks)(hl:n≤9223372036854775807):
  Calls Tryz.prog 165 #[.slice a n c] w fun e w'=>∃D,e=.returned (.bool D)∧(D=true↔z3j ks)∧Below w.heap.size w w':=by
 have Hs:=zh hs;have Hn:=zh hn;clear hs hn
 go_enter Tryz.func165,Tryz.ntmps165
 go_wp2_with fail
 go_loopw [3,5,8] (fun lv _ i wr=>∃(k:Nat) (z:ByteArray),lv=.string z∧i=.int .i64 k∧k≤n∧Hid (z=y0a ks k)∧Hid (y0p ks k)∧Hid (Below w.heap.size w wr)) (fun _ _ i _=>n-(intOf i).toNat)
 case atStart=>exact⟨0,⟨#[]⟩,rfl,rfl,by omega,rfl,fun i hi=>by omega,zbr _ _⟩
 case round=>
  obtain⟨k,z,rfl,rfl,hk,hz,ht,hB⟩:=hrel
  by_cases hlt:k<n
  ·obtain⟨g,o,rfl,hcell⟩:=Hs.out.below hB.out (zlr _) (by rw[Hn.out];omega);have q0:=hcell k (by rw[Hn.out];exact hlt);have hyes:Hid (okK (sa ks k)=true→blt z (sa ks k)=true→y0p ks (k+1)):=fun h1 h2=>y6l ht.out h1 (by rw[←hz.out];exact h2)
   have hno:Hid (okK (sa ks k)=false∨blt z (sa ks k)=false→¬z3j ks):=fun h=>x7m (k:=k) (by rw[Hn.out];exact hlt) (by rw[←hz.out];exact h)
   have hle:=x1k (sa ks k) z;have hls:Hid (sa ks k=y0a ks (k+1)):=(x0i ks k).symm;have hc:=z54 (sa ks k) wr;unfold chkV at hc;generalize sa ks k=y at*;generalize okK y=K at*;generalize blt z y=D at*;have Hc:=zh hc;clear hcell ht hz hc
   cases K with
   | false=>
    have hy:=zh (hno.out (.inl rfl));clear hyes hno;simp only[Bool.false_eq_true,if_false] at Hc;go_wp2_with fail;refine Hc.out.mono ?_;rintro e w' ⟨rfl,rfl⟩;go_wp2;go_ret;exact⟨_,rfl,⟨(fun h=>by cases h),fun h=>absurd h hy.out⟩,hB.out⟩
   | true=>
    simp only[if_true] at Hc
    cases D with
    | false=>
     have hy:=zh (hno.out (.inr rfl));clear hyes hno;go_wp2_with fail;refine Hc.out.mono ?_;rintro e w' ⟨rfl,rfl⟩;go_wp2;go_ret;exact⟨_,rfl,⟨(fun h=>by cases h),fun h=>absurd h hy.out⟩,hB.out⟩
    | true=>
     have hy:=zh (hyes.out rfl rfl);clear hyes hno;go_wp2_with fail;refine Hc.out.mono ?_;rintro e w' ⟨rfl,rfl⟩;go_wp2
     go_roundw
     case rel=>exact⟨k+1,y,rfl,by go_num,by omega,hls,hy,hB⟩
     case measure=>simp[intOf];omega
  ·obtain rfl:k=n:=by omega
   have hall:Hid (z3j ks):=by show y0p ks ks.length;rw[Hn.out];exact ht.out
   clear ht;go_wp2;go_ret;exact⟨_,rfl,⟨fun _=>hall.out,fun _=>rfl⟩,hB.out⟩
set_option maxRecDepth 100000 in
theorem x00 (a:Option Addr)(n c:Nat)(ks:List ByteArray)(w:World)(hn:ks.length=n)(hs:TxS w a ks)(hl:n≤1000000)(hm:z3j ks):
  Calls Tryz.prog 127 #[.slice a n c] w fun e w'=>e=.returned (.int .i64 (z1c ks n:Nat))∧Below w.heap.size w w':=by
 have Hs:=zh hs;have Hn:=zh hn;have Hm:=zh hm;clear hs hn hm
 go_enter Tryz.func127,Tryz.ntmps127
 go_wp2_with fail
 go_loopw [3,5,8] (fun s _ i wr=>∃k t:Nat,s=.int .i64 t∧i=.int .i64 k∧k≤n∧t≤2+43*k∧Hid (t=z1c ks k)∧Hid (Below w.heap.size w wr)) (fun _ _ i _=>n-(intOf i).toNat)
 case atStart=>exact⟨0,2,rfl,rfl,by omega,by omega,rfl,zbr _ _⟩
 case round=>
  obtain⟨k,t,rfl,rfl,hk,ht,hts,hB⟩:=hrel
  by_cases hlt:k<n
  ·obtain⟨g,o,rfl,hcell⟩:=Hs.out.below hB.out (zlr _) (by rw[Hn.out];omega);have q0:=hcell k (by rw[Hn.out];exact hlt);have h1:=(z1a (Hm.out k (by rw[Hn.out];exact hlt)).1).2;have h5:Hid (t+(3+(sa ks k).size)=z1c ks (k+1)):=by show _=_;rw[z1c,←hts.out]
   generalize sa ks k=y at*;clear hcell hts;go_wp2
   go_roundw
   case rel=>exact⟨k+1,t+(3+y.size),by go_num,by go_num,by omega,by omega,h5,hB⟩
   case measure=>simp[intOf];omega
  ·obtain rfl:k=n:=by omega
   go_wp2;go_ret;exact⟨by rw[←hts.out];rfl,hB.out⟩
abbrev ST:TypeId:=101
def Seen (w:World)(b:Nat)(f:Nat→Bool):Prop:=∃A:Array Value,w.heap[b]? =some (.cells A ST (0,0))∧A.size=1024∧∀p,p<1024→A[p]? =some (.bool (f p))
theorem y46:(Tryz.zeroCells101).toList=List.replicate 1024 (Value.bool false):=by kernel_rfl
theorem x8n (w:World):Seen (w.alloc (.cells Tryz.zeroCells101 ST)) w.heap.size (fun _=>false):=by
 refine⟨Tryz.zeroCells101,?_,?_,fun p hp=> ?_⟩
 ·show(w.heap.push _)[w.heap.size]? =_;rw[Array.getElem?_push_size]
 ·rw[←Array.length_toList,y46,List.length_replicate]
 ·rw[←Array.getElem?_toList,y46,List.getElem?_replicate,if_pos hp]
theorem Seen.cell {w:World}{b:Nat}{f:Nat→Bool}(h:Seen w b f)(p:Nat)(hp:p<1024):w.cell? ⟨b,p,none⟩=some (.bool (f p)):=by
 obtain⟨A,h1,_,h3⟩:=h;simp[World.cell?,h1,h3 p hp]
theorem Seen.fz {w:World}{b:Nat}{f:Nat→Bool}(h:Seen w b f)(p:Nat):w.frozen? ⟨b,p,none⟩=false:=by
 obtain⟨A,h1,_⟩:=h;simp[World.frozen?,h1]
theorem Seen.set {w:World}{b:Nat}{f:Nat→Bool}(h:Seen w b f)(q:Nat)(hq:q<1024):Seen (w.setCell ⟨b,q,none⟩ (.bool true)) b (fun p=>if p=q then true else f p):=by
 obtain⟨A,h1,h2,h3⟩:=h;refine⟨A.setIfInBounds q (.bool true),heap_setCell_same w b q _ _ _ h1,by rw[Array.size_setIfInBounds];exact h2,fun p hp=> ?_⟩;rw[Array.getElem?_setIfInBounds]
 by_cases e:q=p
 ·subst e;rw[if_pos rfl,if_pos (by rw[h2];exact hq)];simp
 ·rw[if_neg e,h3 p hp];simp only;rw[if_neg (fun x=>e x.symm)]
def y47 (is:List Int)(k:Nat)(f:Nat→Bool):Prop:=∀p,p<1024→(f p=true↔∃j,j<k∧ia is j=(p:Int))
theorem y66 (is:List Int):y47 is 0 (fun _=>false):=fun p _=>⟨(fun h=>by cases h),fun⟨j,hj,_⟩=>by omega⟩
theorem y67 {is:List Int}{k:Nat}{f:Nat→Bool}(h:y47 is k f)(q:Nat)(hq:ia is k=(q:Int)):y47 is (k+1) (fun p=>if p=q then true else f p):=fun p hp=>by
 simp only
 by_cases e:p=q
 ·rw[if_pos e];exact⟨fun _=>⟨k,by omega,by rw[hq,e]⟩,fun _=>rfl⟩
 ·rw[if_neg e,h p hp];constructor
  ·rintro⟨j,hj,h2⟩;exact⟨j,by omega,h2⟩
  ·rintro⟨j,hj,h2⟩
   rcases zng j k with h3|h3
   ·exact⟨j,h3,h2⟩
   ·obtain rfl:j=k:=by omega
    rw[hq] at h2;exact absurd (by omega) e
theorem x01 {is:List Int}{k:Nat}{f:Nat→Bool}(h:y47 is k f)(q:Nat)(hq:ia is k=(q:Int))(hlt:q<1024):(f q=true→¬z5p is k)∧(f q=false→z5p is k):=by
 refine⟨fun h1 hf=> ?_,fun h1 j hj e=> ?_⟩
 ·obtain⟨j,hj,e⟩:=(h q hlt).1 h1;exact hf j hj (by rw[e,hq])
 ·have:=(h q hlt).2 ⟨j,hj,by rw[e,hq]⟩;rw[h1] at this;cases this
set_option maxRecDepth 100000 in
theorem y68 (a:Option Addr)(n c:Nat)(is:List Int)(w:World)(hn:is.length=n)(hs:PgS w a is)(hl:n≤9223372036854775807):
  Calls Tryz.prog 166 #[.slice a n c] w fun e w'=>∃D,e=.returned (.bool D)∧(D=true↔z88 is)∧Below w.heap.size w w':=by
 have Hs:=zh hs;have Hn:=zh hn;clear hs hn;obtain⟨wA,hwA⟩:∃wA,wA=w.alloc (.cells Tryz.zeroCells101 ST):=⟨_,rfl⟩
 have hbA:Hid (Below w.heap.size w wA):=by rw[hwA];exact(zbr _ _).alloc (zlr _) _
 have hsA:Hid (Seen wA w.heap.size (fun _=>false)):=by rw[hwA];exact x8n w
 have hwA':=zh hwA.symm;clear hwA
 go_enter Tryz.func166,Tryz.ntmps166
 go_wp2_with fail;rw[hwA'.out]
 go_loopw [5,8] (fun _ i wr=>∃(k:Nat) (f:Nat→Bool),i=.int .i64 k∧k≤n∧Hid (z69 is k)∧Hid (y47 is k f)∧Hid (Seen wr w.heap.size f)∧Hid (Below w.heap.size w wr)) (fun _ i _=>n-(intOf i).toNat)
 case atStart=>exact⟨0,fun _=>false,rfl,by omega,fun i hi=>by omega,y66 is,hsA,hbA⟩
 case round=>
  obtain⟨k,f,rfl,hk,ht,hsn,hS,hB⟩:=hrel
  by_cases hlt:k<n
  ·obtain⟨g,o,rfl,hcell⟩:=Hs.out.below hB.out (zlr _) (by rw[Hn.out];omega);have q0:=hcell k (by rw[Hn.out];exact hlt);have hno:Hid (¬(2≤ia is k∧ia is k≤1023)∨¬z5p is k→¬z88 is):=fun h=>x25 (k:=k) (by rw[Hn.out];exact hlt) h
   have hyes:Hid (2≤ia is k∧ia is k≤1023→z5p is k→z69 is (k+1)):=fun h1 h2=>y38 ht.out h1 h2
   have hfr:=zh (fun q h1 h2=>x01 (q:=q) hsn.out h1 h2);have hnx:=zh (fun q h1=>y67 (q:=q) hsn.out h1);generalize ia is k=x at*;clear hcell ht hsn
   by_cases h1:x<2
   ·have hy:=zh (hno.out (.inl (by omega)));have d1:decide (x<2)=true:=zdt h1;clear hno hyes hfr hnx h1;go_wp2;go_ret;exact⟨_,rfl,⟨(fun h=>by cases h),fun h=>absurd h hy.out⟩,hB.out⟩
   ·have d1:decide (x<2)=false:=zdf h1
    by_cases h2:1024≤x
    ·have hy:=zh (hno.out (.inl (by omega)));have d2:decide (1024≤x)=true:=zdt h2;clear hno hyes hfr hnx h1 h2;go_wp2;go_ret;exact⟨_,rfl,⟨(fun h=>by cases h),fun h=>absurd h hy.out⟩,hB.out⟩
    ·have d2:decide (1024≤x)=false:=zdf h2;obtain⟨q,rfl⟩:=Int.eq_ofNat_of_zero_le (show 0≤x by omega);have hq:q<1024:=by omega
     have hq':(q:Int)<1024:=by omega
     have c0:=hS.out.cell q hq;have f0:=hS.out.fz q;have hfr2:=zh (hfr.out q rfl hq);have hset:=zh (hS.out.set q hq);have hnx2:=zh (hnx.out q rfl);have hBs:Hid (Below w.heap.size w (wr.setCell ⟨w.heap.size,q,none⟩ (.bool true))):=hB.out.setCell (zlr _) _;obtain⟨D,hD⟩:∃D,D=f q:=⟨_,rfl⟩
     rw[←hD] at c0 hfr2;clear hD hfr hnx hS
     cases D with
     | true=>
      have hy:=zh (hno.out (.inr (hfr2.out.1 rfl)));clear hno hyes;go_wp2;go_ret;exact .inl ⟨rfl,hy.out,hB.out⟩
     | false=>
      have hy:=zh (hyes.out ⟨by omega,by omega⟩ (hfr2.out.2 rfl));clear hno hyes;go_wp2
      go_roundw
      case rel=>exact⟨k+1,_,by go_num,by omega,hy,hnx2,hset,hBs⟩
      case measure=>simp[intOf];omega
  ·obtain rfl:k=n:=by omega
   have hall:Hid (z88 is):=by show z69 is is.length;rw[Hn.out];exact ht.out
   clear ht;go_wp2;go_ret;exact⟨_,rfl,⟨fun _=>hall.out,fun _=>rfl⟩,hB.out⟩
theorem x43 (ks:List ByteArray)(is:List Int)(n m:Nat)(hn:ks.length=n)(hm:is.length=m):(n<1→¬mayF ks is)∧(m≠n+1→¬mayF ks is)∧(¬z3j ks→¬mayF ks is)∧(¬z88 is→¬mayF ks is)∧(¬n<1→m=n+1→z3j ks→z88 is→mayF ks is):=
 ⟨fun h h2=>by have:=h2.2.2.1;omega,fun h h2=>by have:=h2.2.2.2;omega,fun h h2=>h h2.1,fun h h2=>h h2.2.1,fun h1 h2 h3 h4=>⟨h3,h4,by omega,by omega⟩⟩
set_option maxRecDepth 100000 in
theorem z9q (a b:Option Addr)(n c m d:Nat)(ks:List ByteArray)(is:List Int)(w:World)(hn:ks.length=n)(hm:is.length=m)(hs:TxS w a ks)(hp:PgS w b is)(hl:n≤1099511627776)(hl2:m≤1099511627776):
  Calls Tryz.prog 126 #[.agg #[.slice a n c,.slice b m d]] w fun e w'=>∃D,e=.returned (chkF D)∧(D=true↔mayF ks is)∧Below w.heap.size w w':=by
 have Hn:=zh (zai hn hm);have Hs:=zh (zai hs hp);have hpt:=zh (x43 ks is n m hn hm);have hb0:Hid (Below w.heap.size w (w.alloc (.cells #[.slice a n c,.slice b m d] FT))):=(zbr _ _).alloc (zlr _) _;clear hs hp hn hm;have i4:IntKind.i64.wrap ((n:Int)+1)=(n:Int)+1:=by rw[IntKind.wrap_i64];omega
 by_cases h1:n<1
 ·have d1:decide ((n:Int)<1)=true:=zdt (by omega);have hy:=zh (hpt.out.1 h1);clear hpt h1
  go_enter Tryz.func126,Tryz.ntmps126
  go_wp2;go_ret;exact⟨false,rfl,⟨(fun h=>by cases h),fun h=>absurd h hy.out⟩,hb0.out⟩
 have d1:decide ((n:Int)<1)=false:=zdf (by omega)
 by_cases h2:m=n+1
 rotate_left
 ·have d2:((m:Int) !=(n:Int)+1)=true:=by simp;omega
  have hy:=zh (hpt.out.2.1 h2);clear hpt h1 h2
  go_enter Tryz.func126,Tryz.ntmps126
  go_wp2;go_ret;exact⟨false,rfl,⟨(fun h=>by cases h),fun h=>absurd h hy.out⟩,hb0.out⟩
 have d2:((m:Int) !=(n:Int)+1)=false:=by simp;omega
 have hpt2:=zh (hpt.out.2.2.2.2 h1 h2);have hpt3:=zh (zai hpt.out.2.2.1 hpt.out.2.2.2.1);clear hpt h1 h2;obtain⟨w0,hw0⟩:∃w0,w0=w.alloc (.cells #[.slice a n c,.slice b m d] FT):=⟨_,rfl⟩
 have hb0':Hid (Below w.heap.size w w0):=by rw[hw0];exact hb0.out
 have ha:=zh (y45 a n c ks w0 Hn.out.1 (Hs.out.1.below hb0'.out (zlr _)) (by omega));have hpb:Hid (PB w0 w.heap.size FT (.slice a n c) (.slice b m d)):=by rw[hw0];exact PB.new _ _ _ _
 have hw0':=zh hw0.symm;clear hw0 hb0
 go_enter Tryz.func126,Tryz.ntmps126
 go_wp2_with fail;rw[hw0'.out];refine ha.out.mono ?_;rintro e w1 ⟨D,rfl,hD,hb1⟩;have HD:=zh hD;have Hb1:=zh (hb0'.out.trans (hb1.mono hb0'.out.size));have c1:=(hpb.out.ext hb1).c1;clear ha hw0' hb0' hD hb1 hpb
 cases D with
 | false=>
  have hy:Hid (¬mayF ks is):=hpt3.out.1 (fun h=>by have:=HD.out.2 h;cases this);clear hpt2 hpt3 HD;go_wp2;go_ret;exact⟨false,rfl,⟨(fun h=>by cases h),fun h=>absurd h hy.out⟩,Hb1.out⟩
 | true=>
  have hkf:=zh (HD.out.1 rfl);have ha:=zh (y68 b m d is w1 Hn.out.2 (Hs.out.2.below Hb1.out (zlr _)) (by omega));clear HD;go_wp2_with fail;refine ha.out.mono ?_;rintro e w2 ⟨D,rfl,hD,hb2⟩;have HD:=zh hD;have Hb2:=zh (Hb1.out.trans (hb2.mono Hb1.out.size));clear ha hD hb2 Hb1 c1
  cases D with
  | false=>
   have hy:Hid (¬mayF ks is):=hpt3.out.2 (fun h=>by have:=HD.out.2 h;cases this);clear hpt2 hpt3 HD;go_wp2;go_ret;exact⟨false,rfl,⟨(fun h=>by cases h),fun h=>absurd h hy.out⟩,Hb2.out⟩
  | true=>
   have hy:Hid (mayF ks is):=hpt2.out hkf.out (HD.out.1 rfl);clear hpt2 hpt3 HD;go_wp2;go_ret;exact⟨true,rfl,⟨fun _=>hy.out,fun _=>rfl⟩,Hb2.out⟩
end Go.Proofs.YtdnfhjfbanhhcaaGreatDoor
