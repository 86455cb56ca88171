/-
  Steps.
-/
import Derived.Test.YtdgladhfibfdlaaGreatDoorQPSs07
import Derived.Test.YtdgladhfibfdlaaGreatDoorProg
import Derived.Lib.ConvBytes
namespace Go.Proofs.YtdgladhfibfdlaaGreatDoor
open Go Go.RowKit Tryz
set_option maxRecDepth 100000
def z13 (k:Nat):List Nat:=(List.replicate 512 0).set 0 k
def z6t (k n:Nat):List Nat:=splice (z13 k) 2 (beL n 2)
def KV (k n:Nat)(l:List Nat):List Nat:=splice (z6t k n) 4 l
theorem y4f (k:Nat):z13 k=k::0::0::0::List.replicate 508 0:=rfl
theorem y81 (n:Nat)(h:n≤504):beL n 2=[n/256,n%256]:=by
 show[n/256%256,n%256]=_;rw[Nat.mod_eq_of_lt (show n/256<256 by omega)]
theorem z4o (k n:Nat)(h:n≤504):z6t k n=k::0::n/256::n%256::List.replicate 508 0:=by
 unfold z6t;rw[y4f,y81 n h];rfl
theorem z4p (k n:Nat)(l:List Nat)(hn:l.length=n)(h:n≤504):KV k n l=Nw k l++[0,0,0,0]:=by
 unfold KV;rw[z4o k n h,QR,←hn];simp only[splice,List.take_succ_cons,List.take_zero,List.cons_append,List.nil_append,List.append_assoc]
 congr 5
 rw[show 4+l.length=l.length+1+1+1+1 by omega];simp only[List.drop_succ_cons,List.drop_replicate];rw[show[0,0,0,0]=List.replicate 4 0 from rfl,List.replicate_append_replicate]
 congr 1;omega
theorem Cx (k n:Nat)(l:List Nat)(hn:l.length=n)(h:n≤504):(KV k n l).length=512:=by
 rw[z4p k n l hn h,zla,Uu (by omega)];rfl
theorem QW (k n:Nat)(l:List Nat)(hn:l.length=n)(h:n≤504):(KV k n l).take 508=Nw k l:=by
 rw[z4p k n l hn h,←Uu (k:=k) (l:=l) (by omega),List.take_left]
theorem y4g (k n:Nat)(l:List Nat)(hn:l.length=n)(h:n≤504):splice (KV k n l) 508 (beL (YA 0#32 (Nw k l)).toNat 4)=V7 k l:=by
 unfold splice;rw[QW k n l hn h,List.drop_of_length_le (by rw[Cx k n l hn h,X5];exact zlr _),List.append_nil];rfl
theorem jC (k:Nat):(z13 k).length=512:=by unfold z13;rw[List.length_set,List.length_replicate]
theorem jD (k n:Nat)(h:n≤504):(z6t k n).length=512:=by rw[z4o k n h,List.length_cons,List.length_cons,List.length_cons,List.length_cons,List.length_replicate]
theorem y4h (w:World)(g:Nat)(L m:List Nat)(hm:L.take 508=m)(hl:L.length=512)(hb:B8 m)(hr:Row w g 5 L)(hT:Vz w):
  Calls prog 177 #[.slice (some ⟨g,0,none⟩) 508 512] w fun e w'=>e=.returned (.int .u32 ((YA 0#32 m).toNat:Nat))∧w=w':=by
 have h8:m.length=508:=by rw[←hm,zlk];omega
 have:=y8k (some ⟨g,0,none⟩) 512 m w hb (by omega) (by rw[←hm];exact(hr.cs.start 508).src) hT;rw[h8] at this;exact this
set_option maxHeartbeats 1000000 in
theorem y82 (k:Nat)(a:Option Addr)(n c:Nat)(l:List Nat)(hn:l.length=n)(w:World)(hk1:1≤k)(hk5:k≤5)(hl:n≤504)(hb:B8 l)(hsrc:Src w a l)(hT:Vz w):
  Calls prog 138 #[.int .u8 k,.slice a n c] w fun e w'=>e=.returned (.tuple #[.slice (some ⟨w.heap.size,0,none⟩) 512 512,.nilIface])∧Row w' w.heap.size 5 (V7 k l)∧zB w w':=by
 have hK:=z6o k w (by omega);rw[show decide (1≤k∧k≤5)=true by simp;omega] at hK;have d1:decide (504<(n:Int))=false:=by simp;omega
 have Hn:=zh hn;have Hs:=zh hsrc;have HT:=zh hT;have e1:=QW k n l hn hl;have e2:=y4g k n l hn hl;have e3:=Cx k n l hn hl;have hbb:=z4c (k:=k) (l:=l) (by omega) (by omega) hb;have HE:=zh (zai e1 (zai e2 (zai e3 hbb)));clear hn hsrc hT e1 e2 e3 hbb
 go_enter func138,ntmps138
 go_wp2_with (first
  | (go_at_call 176;refine hK.mono ?_;rintro e w' ⟨rfl,rfl⟩)
  | (at_make;refine V6 rfl _ _ 48 rfl 5 underlying48 KC _ _ _ _ 512 rfl rfl rfl rfl (by omega) ?_;intro w1 hr1 hb1;have hc1:=hr1.out.cell 0 (by rw[List.length_replicate];omega);have hf1:=hr1.out.frozen 0;have hx1:=zh (hr1.out.set 0 k)))
 have hr2:Row (w1.setCell ⟨w.heap.size,0,none⟩ (.int .u8 (k:Int))) w.heap.size 5 (z13 k):=hx1.out;have hb2:zB w (w1.setCell ⟨w.heap.size,0,none⟩ (.int .u8 (k:Int))):=hb1.setCell (zlr _) _;refine rgt (F:=fun i=>i=w.heap.size) [(0,true),(1,true),(2,true),(3,true),(4,true),(5,false),(6,false)] (h:= ?_);have hr3:=(z39 (w1.setCell ⟨w.heap.size,0,none⟩ (.int .u8 (k:Int))) w.heap.size 5 (z13 k)).mpr hr2;have hb3:=hb2.drew;clear hr1 hc1 hf1 hx1 hr2 hb1 hb2;generalize (w1.setCell ⟨w.heap.size,0,none⟩ (.int .u8 (k:Int))).drew=w3 at*;have z1:IntKind.u64.wrap (n:Int)=(n:Int):=by rw[IntKind.wrap_u64];omega
 iterate 5 (refine gtr (v:= ?_) rfl (by rfl) ?_ ?_;rotate_left;(intro w' hw';go_simp;with_reducible rfl);simp only[Act.put,zs0,zs1,zs2])
 refine gtc rfl (by rfl) (fun K hK=> ?_);go_simp;refine(z4n n 2 w3 (by decide) (by decide) (by omega)).mono ?_;rintro e w4 ⟨rfl,hr4,hb4⟩;refine hK _ _ (x3x hb4) ?_;clear hK K;refine gtc rfl (by rfl) (fun K hK=> ?_);refine Gw (.tmp 21) (.tmp 25) 48 48 rfl 5 underlying48 I4 w.heap.size 2 510 510 _ 2 2 (z13 k) (beL n 2) (X5 _ _) (by rfl) (by rfl) (hr3.below hb4 hr3.lt) (KN hr4) (by rw[jC];omega) (by omega) (by omega) ?_;intro w5 hr5 ht5;refine hK _ _ ht5 ?_;clear hK K;simp only[Act.put];refine Yj ?_;have hr5':Row w5 w.heap.size 5 (z6t k n):=hr5;have hb5:zB w w5:=(hb3.trans (hb4.mono hb3.size)).trans (ht5.below (znt hb3.size hb4.size) (fun i hi=>by rw[hi];exact zlr _));have hs5:=zh (Hs.out.below hb5 (zlr _));clear hr3 hb3 hr4 hb4 hr5 ht5
 go_wp2_with (show wpList _ _ _ (⟨some 30,_,_,_,_,_⟩::_) _ _;refine Tq rfl (.tmp 28) (.tmp 29) 48 48 rfl 5 underlying48 I4 w.heap.size 4 508 508 a c (z6t k n) l (by rfl) (by rw[Hn.out];rfl) hr5' hs5.out (by rw[jD k n hl,Hn.out];omega) (by rw[Hn.out];omega) w.heap.size w hb5 (zlr _) ?_;intro w6 hr6 hb6;clear hr5' hb5 hs5)
 refine(y4h w6 w.heap.size (KV k n l) (Nw k l) HE.out.1 HE.out.2.2.1 HE.out.2.2.2 hr6.out (HT.out.below hb6)).mono ?_;rintro e w' ⟨rfl,rfl⟩;have hr6':Row w6 w.heap.size 5 (KV k n l):=hr6.out;have hSl:(YA 0#32 (Nw k l)).toNat<4294967296:=by have:=(YA 0#32 (Nw k l)).isLt;omega
 have hE:=HE.out.2.1;have hEl:=HE.out.2.2.1;generalize (YA 0#32 (Nw k l)).toNat=S at*;have HE2:=zh (zai hE hEl);clear hE hEl hr6 HE;go_wp2_with fail;refine rgt (F:=fun i=>i=w.heap.size) [(0,true),(1,true),(2,true),(3,true),(4,false),(5,false)] (h:= ?_);have hr7:=(z39 w6 w.heap.size 5 (KV k n l)).mpr hr6';have hb7:=hb6.drew;clear hr6' hb6;generalize w6.drew=w7 at*;have z2:IntKind.u64.wrap (S:Int)=(S:Int):=by rw[IntKind.wrap_u64];omega
 iterate 4 (refine gtr (v:= ?_) rfl (by rfl) ?_ ?_;rotate_left;(intro w' hw';go_simp;with_reducible rfl);simp only[Act.put,zs0,zs1,zs2])
 refine gtc rfl (by rfl) (fun K hK=> ?_);go_simp;refine(z4n S 4 w7 (by decide) (by decide) (by omega)).mono ?_;rintro e w8 ⟨rfl,hr8,hb8⟩;refine hK _ _ (x3x hb8) ?_;clear hK K;refine gtc rfl (by rfl) (fun K hK=> ?_);refine Gw (.tmp 35) (.tmp 38) 48 48 rfl 5 underlying48 I4 w.heap.size 508 4 4 _ 4 4 (KV k n l) (beL S 4) (X5 _ _) (by rfl) (by rfl) (hr7.below hb8 hr7.lt) (KN hr8) (by rw[HE2.out.2];omega) (by omega) (by omega) ?_;intro w9 hr9 ht9;refine hK _ _ ht9 ?_;clear hK K;simp only[Act.put];refine Yj ?_;have hr9':Hid (Row w9 w.heap.size 5 (V7 k l)):=by
  have:=hr9
  rwa [HE2.out.1] at this
 have hb9:Hid (zB w w9):=(hb7.trans (hb8.mono hb7.size)).trans (ht9.below (znt hb7.size hb8.size) (fun i hi=>by rw[hi];exact zlr _));clear hr7 hb7 hr8 hb8 hr9 ht9;go_wp2
 go_ret2
 exact⟨rfl,hr9'.out,hb9.out⟩
theorem KX (w:World)(s:ByteArray)(hs:s.size≤1099511627776):∃g c w1,(convert 9 48 (.string s)).run prog w=.ok (.slice (some ⟨g,0,none⟩) s.size c) w1∧Src w1 (some ⟨g,0,none⟩) (bn s)∧s.size≤c∧c≤maxLen∧zB w w1:=by
 refine⟨w.heap.size,grownCap w s.size 0 5,Lib.bytesWorld w 5 s,?_,?_,?_,?_,⟨rfl,rfl,rfl,by rw[Lib.bytesWorld_size];omega,fun j hj=>Lib.bytesWorld_at_old w _ _ j hj⟩⟩
 ·exact Lib.run_convert_string_bytes w _ _ _ s underlying9 underlying48 underlying5
 ·have hcs:Cs (Lib.bytesWorld w 5 s) w.heap.size 0 (bn s):=fun i hi=>by
   rw[S8] at hi;rw[Nat.zero_add,Lib.bytesWorld_cell w 5 s i hi];unfold bn;have hi2:i<s.data.toList.length:=by simpa using hi
   congr 2
   rw[List.getD_eq_getElem?_getD,List.getD_eq_getElem?_getD,List.getElem?_map,show(bl s)=s.data.toList from rfl,List.getElem?_eq_getElem hi2]
   rfl
  exact hcs.src
 ·have:=grownCap_ge w s.size 0 5;omega
 ·exact grownCap_le_maxLen w s.size 0 5 (by unfold maxLen;omega)
def J1 (ks:List ByteArray)(k:Nat):ByteArray:=if k=0 then ByteArray.empty else sa ks (k-1)
def Jq (ks:List ByteArray)(k:Nat):Prop:=∀i,i<k→okK (sa ks i)=true∧blt (J1 ks i) (sa ks i)=true
def Qj (is:List Int)(i:Nat):Prop:=∀j,j<i→ia is j≠ia is i
def Q7 (is:List Int)(k:Nat):Prop:=∀i,i<k→(2≤ia is i∧ia is i≤1023)∧Qj is i
def Pw (ks:List ByteArray):Prop:=Jq ks ks.length
def Cz (is:List Int):Prop:=Q7 is is.length
def Gy (ks:List ByteArray)(is:List Int):Prop:=Pw ks∧Cz is∧1≤ks.length∧is.length=ks.length+1
theorem Xv {k:ByteArray}(h:okK k=true):1≤k.size∧k.size≤40:=by
 unfold okK at h;simp at h;exact h
theorem YO {k:ByteArray}(h:1≤k.size):blt ByteArray.empty k=true:=by
 rw[Jk];have e:=z10 k;show[]<bl k
 cases h2:bl k with
 | nil=>rw[h2] at e;simp at e;omega
 | cons x r=>exact List.nil_lt_cons x r
theorem YP {ks:List ByteArray}{k:Nat}(h:Jq ks k)(h1:okK (sa ks k)=true)(h2:blt (J1 ks k) (sa ks k)=true):Jq ks (k+1):=fun i hi=>by
 rcases zng i k with h3|h3
 ·exact h i h3
 ·obtain rfl:i=k:=by omega
  exact⟨h1,h2⟩
theorem Cj {is:List Int}{k:Nat}(h:Q7 is k)(h1:2≤ia is k∧ia is k≤1023)(h2:Qj is k):Q7 is (k+1):=fun i hi=>by
 rcases zng i k with h3|h3
 ·exact h i h3
 ·obtain rfl:i=k:=by omega
  exact⟨h1,h2⟩
theorem z4q {ks:List ByteArray}{k:Nat}(hk:k<ks.length)(h:okK (sa ks k)=false∨blt (J1 ks k) (sa ks k)=false):¬Pw ks:=fun ha=>by
 have:=ha k hk
 rcases h with h|h
 ·rw[h] at this;cases this.1
 ·rw[h] at this;cases this.2
theorem jE {is:List Int}{k:Nat}(hk:k<is.length)(h:¬(2≤ia is k∧ia is k≤1023)∨¬Qj is k):¬Cz is:=fun ha=>by
 have:=ha k hk
 rcases h with h|h
 ·exact h this.1
 ·exact h this.2
theorem z6u (ks:List ByteArray)(k:Nat):J1 ks (k+1)=sa ks k:=by
 unfold J1;rw[if_neg (by omega),Nat.add_sub_cancel]
theorem y4i {ks:List ByteArray}(h:Pw ks)(i:Nat)(h0:0<i)(hi:i<ks.length):blt (sa ks (i-1)) (sa ks i)=true:=by
 have:=(h i hi).2;unfold J1 at this;rwa [if_neg (by omega)] at this
theorem z9y {ks:List ByteArray}(h:Pw ks):∀(j i:Nat),i<j→j<ks.length→blt (sa ks i) (sa ks j)=true
 | 0,i,h1,_=>by omega
 | j+1,i,h1,hj=>by
  have h2:=y4i h (j+1) (by omega) hj;rw[Nat.add_sub_cancel] at h2
  rcases zng i j with h3|h3
  ·exact O6 (z9y h j i h3 (by omega)) h2
  ·obtain rfl:i=j:=by omega
   exact h2
def z14 (p:Int):List Nat:=[p.toNat/256%256,p.toNat%256]
def pcF (k:ByteArray)(p:Int):List Nat:=vb k.size++(bn k++z14 p)
def xU (ks:List ByteArray)(is:List Int):Nat→List Nat
 | 0=>z14 (ia is 0)
 | k+1=>xU ks is k++pcF (sa ks k) (ia is (k+1))
def Rj (ks:List ByteArray)(is:List Int):List Nat:=xU ks is ks.length
theorem z9z (p:Int):B8 (z14 p):=fun x hx=>by
 unfold z14 at hx;simp at hx;omega
theorem x1o (k:ByteArray)(p:Int):B8 (pcF k p):=(y32 _).append ((y37 _).append (z9z p))
theorem z90 (ks:List ByteArray)(is:List Int):∀k,B8 (xU ks is k)
 | 0=>z9z _
 | k+1=>(z90 ks is k).append (x1o _ _)
theorem y83 (k:ByteArray)(p:Int)(h:k.size≤127):(pcF k p).length=3+k.size:=by
 have e:(vb k.size).length=1:=Uj (by omega);unfold pcF;rw[zla,zla,S8,e];show 1+(k.size+2)=_;omega
def X7 (ks:List ByteArray):Nat→Nat
 | 0=>2
 | k+1=>X7 ks k+(3+(sa ks k).size)
theorem KZ {ks:List ByteArray}{is:List Int}(h:∀i,i<ks.length→(sa ks i).size≤127):∀k,k≤ks.length→(xU ks is k).length=X7 ks k
 | 0,_=>rfl
 | k+1,hk=>by
  rw[xU,zla,KZ h k (by omega),y83 _ _ (h k (by omega)),X7]
theorem QX {ks:List ByteArray}(h:Pw ks):∀i,i<ks.length→(sa ks i).size≤127:=fun i hi=>by
 have:=Xv (h i hi).1;omega
theorem zC {ks:List ByteArray}{is:List Int}(h:Pw ks):(Rj ks is).length=X7 ks ks.length:=KZ (QX h) _ (zlr _)
theorem jF {ks:List ByteArray}(h:Pw ks):∀k,k≤ks.length→X7 ks k≤2+43*k
 | 0,_=>by rw[X7];omega
 | k+1,hk=>by
  have:=Xv (h k (by omega)).1;have:=jF h k (by omega);rw[X7];omega
theorem YQ (ks:List ByteArray):∀(m k:Nat),k≤m→X7 ks k≤X7 ks m
 | 0,k,h=>by
  obtain rfl:k=0:=by omega
  exact zlr _
 | m+1,k,h=>by
  rcases zng k (m+1) with h1|h1
  ·have:=YQ ks m k (by omega);show _≤X7 ks m+_;omega
  ·obtain rfl:k=m+1:=by omega
   exact zlr _
open Classical in
/-- Encode's error and its bytes.-/
noncomputable def Ek (ks:List ByteArray) (is:List Int):Nat:=if Gy ks is then (if (Rj ks is).length≤504 then 0 else 5) else 1
noncomputable def zD (ks:List ByteArray) (is:List Int):List Nat:=if Ek ks is=0 then Rj ks is else []
theorem x1p {ks:List ByteArray}{is:List Int}(h:¬Gy ks is):Ek ks is=1∧zD ks is=[]:=by
 have:Ek ks is=1:=by unfold Ek;rw[if_neg h]
 exact⟨this,by unfold zD;rw[this];rfl⟩
theorem x1q {ks:List ByteArray}{is:List Int}(h:Gy ks is)(h3:504<(Rj ks is).length):Ek ks is=5∧zD ks is=[]:=by
 have:Ek ks is=5:=by unfold Ek;rw[if_pos h,if_neg (by omega)]
 exact⟨this,by unfold zD;rw[this];rfl⟩
theorem y69 {ks:List ByteArray}{is:List Int}(h:Gy ks is)(h3:(Rj ks is).length≤504):Ek ks is=0∧zD ks is=Rj ks is:=by
 have:Ek ks is=0:=by unfold Ek;rw[if_pos h,if_pos h3]
 exact⟨this,by unfold zD;rw[this];rfl⟩
def Q9 (l:List Nat):Option (ByteArray×Int×List Nat):=
 let B:=Z9 ⟨l,false⟩ 40
 if B.2.wr=true then none
 else if B.2.l.length<2 then none else some (Pj B.1,((B.2.l.getD 0 0*256+B.2.l.getD 1 0:Nat):Int),B.2.l.drop 2)
theorem zE {l:List Nat}(h:(Z9 ⟨l,false⟩ 40).2.wr=true):Q9 l=none:=by unfold Q9;simp only;rw[if_pos h]
theorem J2 {l:List Nat}(h:(Z9 ⟨l,false⟩ 40).2.l.length<2):Q9 l=none:=by
 unfold Q9;simp only
 by_cases hw:(Z9 ⟨l,false⟩ 40).2.wr=true
 ·rw[if_pos hw]
 ·rw[if_neg hw,if_pos h]
theorem Gu {l:List Nat}(h:(Z9 ⟨l,false⟩ 40).2.wr=false)(h2:2≤(Z9 ⟨l,false⟩ 40).2.l.length):
  Q9 l=some (Pj (Z9 ⟨l,false⟩ 40).1,(((Z9 ⟨l,false⟩ 40).2.l.getD 0 0*256+(Z9 ⟨l,false⟩ 40).2.l.getD 1 0:Nat):Int),(Z9 ⟨l,false⟩ 40).2.l.drop 2):=by
 unfold Q9;simp only;rw[if_neg (by rw[h];simp),if_neg (by omega)]
theorem J7 {S:RS}{m:Nat}(h:(Z9 S m).2.wr=false):(Z9 S m).2.l.length<S.l.length:=by
 obtain⟨h1,h2,e⟩:=jB h;obtain⟨e2,h3,_⟩:=z9b h1;have hl:=z4d S.l h3;rw[e];show(List.drop _ _).length<_;rw[zld,e2];show(List.drop _ _).length-_<_;rw[zld];omega
theorem zG {l r:List Nat}{k:ByteArray}{p:Int}(h:Q9 l=some (k,p,r)):r.length+2<l.length:=by
 cases hw:(Z9 ⟨l,false⟩ 40).2.wr with
 | true=>rw[zE hw] at h;cases h
 | false=>
  rcases Nat.lt_or_ge (Z9 ⟨l,false⟩ 40).2.l.length 2 with h2|h2
  ·rw[J2 h2] at h;cases h
  ·rw[Gu hw h2] at h
   cases h
   have:=J7 hw;rw[zld];show _<l.length;have h3:(Z9 ⟨l,false⟩ 40).2.l.length<l.length:=this;omega
theorem z91 {l r:List Nat}{k:ByteArray}{p:Int}(x:List Nat)(h:Q9 l=some (k,p,r)):Q9 (l++x)=some (k,p,r++x):=by
 cases hw:(Z9 ⟨l,false⟩ 40).2.wr with
 | true=>rw[zE hw] at h;cases h
 | false=>
  rcases Nat.lt_or_ge (Z9 ⟨l,false⟩ 40).2.l.length 2 with h2|h2
  ·rw[J2 h2] at h;cases h
  ·rw[Gu hw h2] at h;have e1:=z6s x false hw;simp only at e1;rw[Gu (by rw[e1]) (by rw[e1];show 2≤(_++x).length;rw[zla];omega),e1];simp only
   cases h
   rw[List.drop_append_of_le_length h2,z4m _ _ _ (by omega),z4m _ _ _ (by omega)]
theorem z92 {k:ByteArray}{p:Int}(hk:okK k=true)(hp:2≤p∧p≤1023)(r:List Nat):Q9 (pcF k p++r)=some (k,p,r):=by
 have h1:=Xv hk;have e:pcF k p++r=vb (bn k).length++(bn k++(z14 p++r)):=by
  unfold pcF;rw[S8];simp only[List.append_assoc]
 have e1:=QV (bn k) (z14 p++r) false 40 (by rw[S8];omega) (by rw[S8];omega);rw[e,Gu (by rw[e1]) (by rw[e1];show 2≤(z14 p++r).length;rw[zla];show 2≤2+_;omega),e1];simp only;have e3:((z14 p++r).getD 0 0*256+(z14 p++r).getD 1 0:Nat)=p.toNat:=by
  show p.toNat/256%256*256+p.toNat%256=_;omega
 have e4:((p.toNat:Nat):Int)=p:=by omega
 rw[e3,e4,YJ]
 rfl
def y4j:Nat→List Nat→Option (List ByteArray×List Int)
 | 0,l=>if l=[] then some ([],[]) else none
 | f+1,l=>if l=[] then some ([],[]) else match Q9 l with
  | none=>none
  | some (k,p,r)=>(y4j f r).map fun x=>(k::x.1,p::x.2)
theorem ZH (f:Nat):y4j f []=some ([],[]):=by cases f<;>rfl
theorem jG:∀(f g:Nat) (l:List Nat),l.length≤f→l.length≤g→y4j f l=y4j g l
 | 0,g,l,hf,_=>by
  obtain rfl:l=[]:=List.eq_nil_of_length_eq_zero (by omega);rw[ZH,ZH]
 | f+1,0,l,_,hg=>by
  obtain rfl:l=[]:=List.eq_nil_of_length_eq_zero (by omega);rw[ZH,ZH]
 | f+1,g+1,l,hf,hg=>by
  rw[y4j,y4j];split
  ·rfl
  ·cases h:Q9 l with
   | none=>rfl
   | some x=>
    obtain⟨k,p,r⟩:=x;have:=zG h;simp only;rw[jG f g r (by omega) (by omega)]
def Ev (l:List Nat):Option (List ByteArray×List Int):=y4j l.length l
theorem ZI:Ev []=some ([],[]):=rfl
theorem YR {l:List Nat}(h0:l≠[])(h:Q9 l=none):Ev l=none:=by
 unfold Ev
 cases hl:l.length with
 | zero=>exact absurd (List.eq_nil_of_length_eq_zero hl) h0
 | succ f=>rw[y4j,if_neg h0,h]
theorem G2 {l r:List Nat}{k:ByteArray}{p:Int}(h:Q9 l=some (k,p,r)):Ev l=(Ev r).map fun x=>(k::x.1,p::x.2):=by
 have hlt:=zG h;unfold Ev
 cases hl:l.length with
 | zero=>omega
 | succ f=>
  have h0:l≠[]:=fun e=>by rw[e] at hl;cases hl
  rw[y4j,if_neg h0,h];simp only;rw[jG f r.length r (by omega) (zlr _)]
theorem y4k (n:Nat):∀(l m:List Nat) (x:List ByteArray×List Int),l.length≤n→Ev l=some x→Ev (l++m)=(Ev m).map fun y=>(x.1++y.1,x.2++y.2):=by
 induction n with
 | zero=>
  intro l m x hl h;obtain rfl:l=[]:=List.eq_nil_of_length_eq_zero (by omega);rw[ZI] at h
  cases h
  rw[List.nil_append]
  cases Ev m<;>rfl
 | succ n ih=>
  intro l m x hl h
  by_cases h0:l=[]
  ·subst h0;rw[ZI] at h
   cases h
   rw[List.nil_append]
   cases Ev m<;>rfl
  ·cases hp:Q9 l with
   | none=>rw[YR h0 hp] at h;cases h
   | some y=>
    obtain⟨k,p,r⟩:=y;have hlt:=zG hp;rw[G2 hp] at h
    cases hr:Ev r with
    | none=>rw[hr] at h;cases h
    | some z=>
     rw[hr] at h
     cases h
     rw[G2 (z91 m hp),ih r m z (by omega) hr]
     cases Ev m<;>rfl
def Ck (l:List Nat):Int:=((l.getD 0 0*256+l.getD 1 0:Nat):Int)
open Classical in
/-- Decode's fork,if the bytes are a load.-/
noncomputable def S9 (l:List Nat):Option (List ByteArray×List Int):=
 if 504<l.length∨l.length<2 then none else match Ev (l.drop 2) with
  | none=>none
  | some (ks,ps)=>if Gy ks (Ck l::ps) then some (ks,Ck l::ps) else none
theorem jH {l:List Nat}(h:504<l.length∨l.length<2):S9 l=none:=by unfold S9;rw[if_pos h]
theorem QY {l:List Nat}(h:Ev (l.drop 2)=none):S9 l=none:=by
 unfold S9;rw[h];split<;>rfl
theorem z93 {l:List Nat}{ks:List ByteArray}{ps:List Int}(h:Ev (l.drop 2)=some (ks,ps))(hm:¬Gy ks (Ck l::ps)):S9 l=none:=by
 unfold S9;rw[h];simp only;rw[if_neg hm];split<;>rfl
theorem QZ {l:List Nat}{ks:List ByteArray}{ps:List Int}(h1:l.length≤504)(h2:2≤l.length)(h:Ev (l.drop 2)=some (ks,ps))(hm:Gy ks (Ck l::ps)):S9 l=some (ks,Ck l::ps):=by
 unfold S9;rw[if_neg (by omega),h];simp only;rw[if_pos hm]
theorem z94 {l:List Nat}{x:List ByteArray×List Int}(h:S9 l=some x):Gy x.1 x.2:=by
 unfold S9 at h;split at h
 ·cases h
 split at h
 ·cases h
 split at h
 ·rename_i hm
  cases h;exact hm
 ·cases h
noncomputable def jI (l:List Nat):List ByteArray:=match S9 l with
 | none=> []
 | some x=>x.1
noncomputable def jJ (l:List Nat):List Int:=match S9 l with
 | none=> []
 | some x=>x.2
noncomputable def z15 (l:List Nat):Nat:=match S9 l with
 | none=>3
 | some _=>0
theorem YS {l:List Nat}(h:S9 l=none):jI l=[]∧jJ l=[]∧z15 l=3:=by unfold jI jJ z15;rw[h];exact⟨rfl,rfl,rfl⟩
theorem z4r {l:List Nat}{ks:List ByteArray}{is:List Int}(h:S9 l=some (ks,is)):jI l=ks∧jJ l=is∧z15 l=0:=by unfold jI jJ z15;rw[h];exact⟨rfl,rfl,rfl⟩
theorem zH (ks:List ByteArray)(is:List Int):∀k,∃m,xU ks is k=z14 (ia is 0)++m
 | 0=>⟨[],by rw[List.append_nil];rfl⟩
 | k+1=>by
  obtain⟨m,hm⟩:=zH ks is k;exact⟨m++pcF (sa ks k) (ia is (k+1)),by rw[xU,hm,List.append_assoc]⟩
theorem z95 {p:Int}(h:2≤p∧p≤1023)(m:List Nat):Ck (z14 p++m)=p:=by
 show((p.toNat/256%256*256+p.toNat%256:Nat):Int)=p;omega
theorem jK {l m:List Nat}(h:2≤l.length):(l++m).drop 2=l.drop 2++m:=List.drop_append_of_le_length h
theorem z4s {ks:List ByteArray}{is:List Int}(h:Gy ks is):∀k,k≤ks.length→Ev ((xU ks is k).drop 2)=some (ks.take k,(is.drop 1).take k)
 | 0,_=>rfl
 | k+1,hk=>by
  obtain⟨hK,hP,h1,hl⟩:=h;have ih:=z4s ⟨hK,hP,h1,hl⟩ k (by omega);obtain⟨m,hm⟩:=zH ks is k;have e:=z92 (hK k (by omega)).1 (hP (k+1) (by omega)).1 [];rw[List.append_nil] at e;have e2:=G2 e;rw[ZI] at e2;rw[xU,jK (by rw[hm,zla];show 2≤2+_;omega),y4k _ _ _ _ (zlr _) ih,e2];have e3:(is.drop 1).take (k+1)=(is.drop 1).take k++[ia is (k+1)]:=by
   rw[List.take_succ_eq_append_getElem (by rw[zld];omega)];simp only[List.getElem_drop,ia,List.getD];rw[List.getElem?_eq_getElem (by omega)];simp[Nat.add_comm]
  rw[z1x ks k (by omega),e3]
  rfl
theorem y84 {is:List Int}(h:1≤is.length):ia is 0::is.drop 1=is:=by
 cases is with
 | nil=>simp at h
 | cons x r=>rfl
theorem z6v {ks:List ByteArray}{is:List Int}(h:Gy ks is)(hl:(Rj ks is).length≤504):S9 (Rj ks is)=some (ks,is):=by
 have e:=z4s h ks.length (zlr _);have h4:=h.2.2.2;rw[List.take_of_length_le (zlr _),List.take_of_length_le (by rw[zld];omega)] at e;obtain⟨m,hm⟩:=zH ks is ks.length;have hf:Ck (Rj ks is)=ia is 0:=by unfold Rj;rw[hm];exact z95 (h.2.1 0 (by omega)).1 m
 have h2:2≤(Rj ks is).length:=by unfold Rj;rw[hm,zla];show 2≤2+_;omega
 have hc:=y84 (is:=is) (by omega);have:=QZ hl h2 e (by rw[hf,hc];exact h);rw[hf,hc] at this;exact this
def Qk:List ByteArray→ByteArray→Nat
 | [],_=>0
 | c::r,key=>if blt key c=true then 0 else Qk r key+1
theorem YT:∀(cs:List ByteArray) (key:ByteArray),Qk cs key≤cs.length
 | [],_=>zlr _
 | c::r,key=>by
  have:=YT r key;unfold Qk;split
  ·exact Nat.zero_le _
  ·rw[List.length_cons];omega
theorem zI:∀(cs:List ByteArray) (key:ByteArray) (i:Nat),i<Qk cs key→blt key (sa cs i)=false
 | [],_,i,h=>by simp[Qk] at h
 | c::r,key,i,h=>by
  unfold Qk at h;split at h
  ·omega
  ·rename_i h1
   cases i with
   | zero=>show blt key c=false;simpa using h1
   | succ i=>exact zI r key i (by omega)
theorem zK:∀(cs:List ByteArray) (key:ByteArray),Qk cs key<cs.length→blt key (sa cs (Qk cs key))=true
 | [],_,h=>by simp at h
 | c::r,key,h=>by
  unfold Qk at h⊢
  split
  ·rename_i h1
   exact h1
  ·rename_i h1
   rw[if_neg h1,List.length_cons] at h;exact zK r key (by omega)
theorem y85 {cs:List ByteArray}(ha:Pw cs)(key:ByteArray)(i:Nat)(hi:Qk cs key≤i)(hl:i<cs.length):blt key (sa cs i)=true:=by
 have h1:=zK cs key (by omega)
 rcases Nat.lt_or_ge (Qk cs key) i with h2|h2
 ·exact O6 h1 (z9y ha i _ h2 hl)
 ·obtain rfl:i=Qk cs key:=by omega
  exact h1
end Go.Proofs.YtdgladhfibfdlaaGreatDoor
