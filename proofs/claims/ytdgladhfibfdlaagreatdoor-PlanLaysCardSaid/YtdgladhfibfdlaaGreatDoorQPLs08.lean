/-
  Steps.
-/
import Derived.Test.YtdgladhfibfdlaaGreatDoorProg
import Derived.Test.YtdgladhfibfdlaaGreatDoorQPLs07
import Derived.Lib.ConvBytes
namespace Go.Proofs.YtdgladhfibfdlaaGreatDoor
open Go Go.RowKit
theorem y6h (w:World)(g:Nat)(cs:Array Value):Turn (fun i=>i=g) w (w.setRow g cs):=
 ⟨rfl,rfl,rfl,by simp[World.setRow],fun i _ hne=>setRow_other w g i cs hne⟩
theorem z6i {P:Program}{w:World}{o:Oper}{a:Act}{K:Act→World→Prop}{Q:Exit→Act→World→Prop}(d s:Operand)(dT sT:TypeId)
  (ho:o.op=.call {callee:=.builtin .copy,args:= #[d,s],argTypes:= #[dT,sT]}) (e:TypeId) (hu:P.underlying dT=some (.slice e)) (hsz:(P.info? e).map (·.size)=some 1)
  (g off dLen dCap:Nat) (sp:Option Addr) (sLen sCap:Nat) (cur l:List Nat) (hl:l.length=sLen) (hd:a.eval d=.slice (some ⟨g,off,none⟩) dLen dCap) (hs:a.eval s=.slice sp sLen sCap)
  (hrow:Row w g e cur) (hsrc:Src w sp l) (hfit:off+sLen≤cur.length) (hlen:sLen≤dLen) (hpos:0<sLen)
  (h:∀w',Row w' g e (splice cur off l)→Turn (fun i=>i=g) w w'→K (a.put o.dst (goInt sLen)) w'):Oper.wp P o a w K Q:=by
 subst hl;obtain⟨ad,rfl,hcs⟩:=hsrc.cells hpos;have hmin:(bv l).length=Nat.min l.length dLen:=by rw[z1p];exact(Nat.min_eq_left hlen).symm
 have hrun:=run_copy_row (P:=P) w dT sT o.type e g off dLen dCap ad l.length sCap (bv cur).toArray e (bv l) hu hsz hrow hmin hcs (by simpa [z1p] using hfit) (x2o l);rw[z1p] at hrun;unfold Oper.wp;simp only[execOp,ho,resolve,invoke,builtin];simp[hd,hs,hrun,Result.andThen];refine h _ ?_ (y6h _ _ _);show _=_;have:=setRow_heap w g (bv cur).toArray ((bv cur).take off++(bv l++(bv cur).drop (off+l.length))).toArray e (0,0) hrow;rw[←y3w]
 simpa [splice,z1p] using this
theorem y8u (v s:Nat)(w:World)(hs1:1≤s)(hs:s≤64)(hv:v<18446744073709551616):
  Calls Tryz.prog 168 #[.slice none 0 0,.int .u64 v,.int .i64 s] w fun e w'=>e=.returned (.slice (some ⟨w.heap.size,0,none⟩) s s)∧Row w' w.heap.size 5 (beL v s)∧Below w.heap.size w w':=by
 have h:=q4k none 0 [] v s w (by simp) hs1 hs hv (Src.nil _ _)
 simpa using h
def y6i (k:Nat):List Nat:=(List.replicate 512 0).set 0 k
def x0t (k n:Nat):List Nat:=splice (y6i k) 2 (beL n 2)
def y1w (k n:Nat)(l:List Nat):List Nat:=splice (x0t k n) 4 l
theorem x7s (k:Nat):y6i k=k::0::0::0::List.replicate 508 0:=rfl
theorem q2a (n:Nat)(h:n≤504):beL n 2=[n/256,n%256]:=by
 show[n/256%256,n%256]=_;rw[Nat.mod_eq_of_lt (show n/256<256 by omega)]
theorem y8v (k n:Nat)(h:n≤504):x0t k n=k::0::n/256::n%256::List.replicate 508 0:=by
 unfold x0t;rw[x7s,q2a n h];rfl
theorem y8w (k n:Nat)(l:List Nat)(hn:l.length=n)(h:n≤504):y1w k n l=z4d k l++[0,0,0,0]:=by
 unfold y1w;rw[y8v k n h,y0m,←hn];simp only[splice,List.take_succ_cons,List.take_zero,List.cons_append,List.nil_append,List.append_assoc]
 congr 5
 rw[show 4+l.length=l.length+1+1+1+1 by omega];simp only[List.drop_succ_cons,List.drop_replicate];rw[show[0,0,0,0]=List.replicate 4 0 from rfl,List.replicate_append_replicate]
 congr 1;omega
theorem z7y (k n:Nat)(l:List Nat)(hn:l.length=n)(h:n≤504):(y1w k n l).length=512:=by
 rw[y8w k n l hn h,zla,z10 (by omega)];rfl
theorem y0o (k n:Nat)(l:List Nat)(hn:l.length=n)(h:n≤504):(y1w k n l).take 508=z4d k l:=by
 rw[y8w k n l hn h,←z10 (k:=k) (l:=l) (by omega),List.take_left]
theorem x7t (k n:Nat)(l:List Nat)(hn:l.length=n)(h:n≤504):splice (y1w k n l) 508 (beL (more 0#32 (z4d k l)).toNat 4)=z1t k l:=by
 unfold splice;rw[y0o k n l hn h,List.drop_of_length_le (by rw[z7y k n l hn h,z1j];exact zlr _),List.append_nil];rfl
theorem y4a (k:Nat):(y6i k).length=512:=by unfold y6i;rw[List.length_set,List.length_replicate]
theorem y4b (k n:Nat)(h:n≤504):(x0t k n).length=512:=by rw[y8v k n h,List.length_cons,List.length_cons,List.length_cons,List.length_cons,List.length_replicate]
theorem x7u (w:World)(g:Nat)(L m:List Nat)(hm:L.take 508=m)(hl:L.length=512)(hb:B8 m)(hr:Row w g 5 L)(hT:z1m w):
  Calls Tryz.prog 177 #[.slice (some ⟨g,0,none⟩) 508 512] w fun e w'=>e=.returned (.int .u32 ((more 0#32 m).toNat:Nat))∧w=w':=by
 have h8:m.length=508:=by rw[←hm,zlk];omega
 have:=q1t (some ⟨g,0,none⟩) 512 m w hb (by omega) (by rw[←hm];exact(hr.cs.start 508).src) hT;rw[h8] at this;exact this
set_option maxRecDepth 100000 in
set_option maxHeartbeats 1000000 in
theorem q2b (k:Nat)(a:Option Addr)(n c:Nat)(l:List Nat)(hn:l.length=n)(w:World)(hk1:1≤k)(hk5:k≤5)(hl:n≤504)(hb:B8 l)(hsrc:Src w a l)(hT:z1m w):
  Calls Tryz.prog 138 #[.int .u8 k,.slice a n c] w fun e w'=>e=.returned (.tuple #[.slice (some ⟨w.heap.size,0,none⟩) 512 512,.nilIface])∧Row w' w.heap.size 5 (z1t k l)∧Below w.heap.size w w':=by
 have hK:=x0o k w (by omega);rw[show decide (1≤k∧k≤5)=true by simp;omega] at hK;have d1:decide (504<(n:Int))=false:=by simp;omega
 have Hn:=zh hn;have Hs:=zh hsrc;have HT:=zh hT;have e1:=y0o k n l hn hl;have e2:=x7t k n l hn hl;have e3:=z7y k n l hn hl;have hbb:=y8k (k:=k) (l:=l) (by omega) (by omega) hb;have HE:=zh (zai e1 (zai e2 (zai e3 hbb)));clear hn hsrc hT e1 e2 e3 hbb
 go_enter Tryz.func138,Tryz.ntmps138
 go_wp2_with (first
  | (go_at_call 176;refine hK.mono ?_;rintro e w' ⟨rfl,rfl⟩)
  | (at_make;refine z1s rfl _ _ 48 rfl 5 Tryz.underlying48 y1i _ _ _ _ 512 rfl rfl rfl rfl (by omega) ?_;intro w1 hr1 hb1;have hc1:=hr1.out.cell 0 (by rw[List.length_replicate];omega);have hf1:=hr1.out.frozen 0;have hx1:=zh (hr1.out.set 0 k)))
 have hr2:Row (w1.setCell ⟨w.heap.size,0,none⟩ (.int .u8 (k:Int))) w.heap.size 5 (y6i k):=hx1.out;have hb2:Below w.heap.size w (w1.setCell ⟨w.heap.size,0,none⟩ (.int .u8 (k:Int))):=hb1.setCell (zlr _) _;refine z0i (F:=fun i=>i=w.heap.size) [(0,true),(1,true),(2,true),(3,true),(4,true),(5,false),(6,false)] (by kernel_rfl) (by kernel_rfl) (by kernel_rfl) (by kernel_rfl) (fun _ _ _ _ _ h=>h) ?_;have hr3:=(y8h (w1.setCell ⟨w.heap.size,0,none⟩ (.int .u8 (k:Int))) w.heap.size 5 (y6i k)).mpr hr2;have hb3:=hb2.drew;clear hr1 hc1 hf1 hx1 hr2 hb1 hb2;generalize (w1.setCell ⟨w.heap.size,0,none⟩ (.int .u8 (k:Int))).drew=w3 at*;have z1:IntKind.u64.wrap (n:Int)=(n:Int):=by rw[IntKind.wrap_u64];omega
 iterate 5 (refine gtr (v:= ?_) rfl (by rfl) ?_ ?_;rotate_left;(intro w' hw';go_simp;with_reducible rfl);simp only[Act.put,zs0,zs1,zs2])
 refine gtc rfl (by rfl) (fun K hK=> ?_);go_simp;refine(y8u n 2 w3 (by decide) (by decide) (by omega)).mono ?_;rintro e w4 ⟨rfl,hr4,hb4⟩;refine hK _ _ (q50 hb4) ?_;clear hK K;refine gtc rfl (by rfl) (fun K hK=> ?_);refine z6i (.tmp 21) (.tmp 25) 48 48 rfl 5 Tryz.underlying48 z55 w.heap.size 2 510 510 _ 2 2 (y6i k) (beL n 2) (z1j _ _) (by rfl) (by rfl) (hr3.below hb4 hr3.lt) (y1q hr4) (by rw[y4a];omega) (by omega) (by omega) ?_;intro w5 hr5 ht5;refine hK _ _ ht5 ?_;clear hK K;simp only[Act.put];refine z0o ?_;have hr5':Row w5 w.heap.size 5 (x0t k n):=hr5;have hb5:Below w.heap.size w w5:=(hb3.trans (hb4.mono hb3.size)).trans (ht5.below (znt hb3.size hb4.size) (fun i hi=>by rw[hi];exact zlr _));have hs5:=zh (Hs.out.below hb5 (zlr _));clear hr3 hb3 hr4 hb4 hr5 ht5
 go_wp2_with (show wpList _ _ _ (⟨some 30,_,_,_,_,_⟩::_) _ _;refine z19 rfl (.tmp 28) (.tmp 29) 48 48 rfl 5 Tryz.underlying48 z55 w.heap.size 4 508 508 a c (x0t k n) l (by rfl) (by rw[Hn.out];rfl) hr5' hs5.out (by rw[y4b k n hl,Hn.out];omega) (by rw[Hn.out];omega) w.heap.size w hb5 (zlr _) ?_;intro w6 hr6 hb6;clear hr5' hb5 hs5)
 refine(x7u w6 w.heap.size (y1w k n l) (z4d k l) HE.out.1 HE.out.2.2.1 HE.out.2.2.2 hr6.out (HT.out.below hb6)).mono ?_;rintro e w' ⟨rfl,rfl⟩;have hr6':Row w6 w.heap.size 5 (y1w k n l):=hr6.out;have hSl:(more 0#32 (z4d k l)).toNat<4294967296:=by have:=(more 0#32 (z4d k l)).isLt;omega
 have hE:=HE.out.2.1;have hEl:=HE.out.2.2.1;generalize (more 0#32 (z4d k l)).toNat=S at*;have HE2:=zh (zai hE hEl);clear hE hEl hr6 HE;go_wp2_with fail;refine z0i (F:=fun i=>i=w.heap.size) [(0,true),(1,true),(2,true),(3,true),(4,false),(5,false)] (by kernel_rfl) (by kernel_rfl) (by kernel_rfl) (by kernel_rfl) (fun _ _ _ _ _ h=>h) ?_;have hr7:=(y8h w6 w.heap.size 5 (y1w k n l)).mpr hr6';have hb7:=hb6.drew;clear hr6' hb6;generalize w6.drew=w7 at*;have z2:IntKind.u64.wrap (S:Int)=(S:Int):=by rw[IntKind.wrap_u64];omega
 iterate 4 (refine gtr (v:= ?_) rfl (by rfl) ?_ ?_;rotate_left;(intro w' hw';go_simp;with_reducible rfl);simp only[Act.put,zs0,zs1,zs2])
 refine gtc rfl (by rfl) (fun K hK=> ?_);go_simp;refine(y8u S 4 w7 (by decide) (by decide) (by omega)).mono ?_;rintro e w8 ⟨rfl,hr8,hb8⟩;refine hK _ _ (q50 hb8) ?_;clear hK K;refine gtc rfl (by rfl) (fun K hK=> ?_);refine z6i (.tmp 35) (.tmp 38) 48 48 rfl 5 Tryz.underlying48 z55 w.heap.size 508 4 4 _ 4 4 (y1w k n l) (beL S 4) (z1j _ _) (by rfl) (by rfl) (hr7.below hb8 hr7.lt) (y1q hr8) (by rw[HE2.out.2];omega) (by omega) (by omega) ?_;intro w9 hr9 ht9;refine hK _ _ ht9 ?_;clear hK K;simp only[Act.put];refine z0o ?_;have hr9':Hid (Row w9 w.heap.size 5 (z1t k l)):=by
  have:=hr9
  rwa [HE2.out.1] at this
 have hb9:Hid (Below w.heap.size w w9):=(hb7.trans (hb8.mono hb7.size)).trans (ht9.below (znt hb7.size hb8.size) (fun i hi=>by rw[hi];exact zlr _));clear hr7 hb7 hr8 hb8 hr9 ht9;go_wp2
 go_ret2
 exact⟨rfl,hr9'.out,hb9.out⟩
theorem y1x (w:World)(s:ByteArray)(hs:s.size≤1099511627776):∃g c w1,(convert 9 48 (.string s)).run Tryz.prog w=.ok (.slice (some ⟨g,0,none⟩) s.size c) w1∧Src w1 (some ⟨g,0,none⟩) (bn s)∧s.size≤c∧c≤maxLen∧Below w.heap.size w w1:=by
 refine⟨w.heap.size,grownCap w s.size 0 5,Lib.bytesWorld w 5 s,?_,?_,?_,?_,⟨rfl,rfl,rfl,by rw[Lib.bytesWorld_size];omega,fun j hj=>Lib.bytesWorld_at_old w _ _ j hj⟩⟩
 ·exact Lib.run_convert_string_bytes w _ _ _ s Tryz.underlying9 Tryz.underlying48 Tryz.underlying5
 ·have hcs:Cs (Lib.bytesWorld w 5 s) w.heap.size 0 (bn s):=fun i hi=>by
   rw[z2q] at hi;rw[Nat.zero_add,Lib.bytesWorld_cell w 5 s i hi];unfold bn;have hi2:i<s.data.toList.length:=by simpa using hi
   congr 2
   rw[List.getD_eq_getElem?_getD,List.getD_eq_getElem?_getD,List.getElem?_map,show(bl s)=s.data.toList from rfl,List.getElem?_eq_getElem hi2]
   rfl
  exact hcs.src
 ·have:=grownCap_ge w s.size 0 5;omega
 ·exact grownCap_le_maxLen w s.size 0 5 (by unfold maxLen;omega)
def z5s (ks:List ByteArray)(k:Nat):ByteArray:=if k=0 then ByteArray.empty else sa ks (k-1)
def z5k (ks:List ByteArray)(k:Nat):Prop:=∀i,i<k→okK (sa ks i)=true∧blt (z5s ks i) (sa ks i)=true
def z29 (is:List Int)(i:Nat):Prop:=∀j,j<i→ia is j≠ia is i
def z3g (is:List Int)(k:Nat):Prop:=∀i,i<k→(2≤ia is i∧ia is i≤1023)∧z29 is i
def z3l (ks:List ByteArray):Prop:=z5k ks ks.length
def z7z (is:List Int):Prop:=z3g is is.length
def mayF (ks:List ByteArray)(is:List Int):Prop:=z3l ks∧z7z is∧1≤ks.length∧is.length=ks.length+1
theorem z08 {k:ByteArray}(h:okK k=true):1≤k.size∧k.size≤40:=by
 unfold okK at h;simp at h;exact h
theorem z9a {k:ByteArray}(h:1≤k.size):blt ByteArray.empty k=true:=by
 rw[z5m];have e:=y6f k;show[]<bl k
 cases h2:bl k with
 | nil=>rw[h2] at e;simp at e;omega
 | cons x r=>exact List.nil_lt_cons x r
theorem z9b {ks:List ByteArray}{k:Nat}(h:z5k ks k)(h1:okK (sa ks k)=true)(h2:blt (z5s ks k) (sa ks k)=true):z5k ks (k+1):=fun i hi=>by
 rcases zng i k with h3|h3
 ·exact h i h3
 ·obtain rfl:i=k:=by omega
  exact⟨h1,h2⟩
theorem z70 {is:List Int}{k:Nat}(h:z3g is k)(h1:2≤ia is k∧ia is k≤1023)(h2:z29 is k):z3g is (k+1):=fun i hi=>by
 rcases zng i k with h3|h3
 ·exact h i h3
 ·obtain rfl:i=k:=by omega
  exact⟨h1,h2⟩
theorem y8x {ks:List ByteArray}{k:Nat}(hk:k<ks.length)(h:okK (sa ks k)=false∨blt (z5s ks k) (sa ks k)=false):¬z3l ks:=fun ha=>by
 have:=ha k hk
 rcases h with h|h
 ·rw[h] at this;cases this.1
 ·rw[h] at this;cases this.2
theorem y4c {is:List Int}{k:Nat}(hk:k<is.length)(h:¬(2≤ia is k∧ia is k≤1023)∨¬z29 is k):¬z7z is:=fun ha=>by
 have:=ha k hk
 rcases h with h|h
 ·exact h this.1
 ·exact h this.2
theorem x0u (ks:List ByteArray)(k:Nat):z5s ks (k+1)=sa ks k:=by
 unfold z5s;rw[if_neg (by omega),Nat.add_sub_cancel]
theorem x7v {ks:List ByteArray}(h:z3l ks)(i:Nat)(h0:0<i)(hi:i<ks.length):blt (sa ks (i-1)) (sa ks i)=true:=by
 have:=(h i hi).2;unfold z5s at this;rwa [if_neg (by omega)] at this
theorem x3o {ks:List ByteArray}(h:z3l ks):∀(j i:Nat),i<j→j<ks.length→blt (sa ks i) (sa ks j)=true
 | 0,i,h1,_=>by omega
 | j+1,i,h1,hj=>by
  have h2:=x7v h (j+1) (by omega) hj;rw[Nat.add_sub_cancel] at h2
  rcases zng i j with h3|h3
  ·exact z34 (x3o h j i h3 (by omega)) h2
  ·obtain rfl:i=j:=by omega
   exact h2
def twoP (p:Int):List Nat:=[p.toNat/256%256,p.toNat%256]
def pcF (k:ByteArray)(p:Int):List Nat:=vb k.size++(bn k++twoP p)
def putF (ks:List ByteArray)(is:List Int):Nat→List Nat
 | 0=>twoP (ia is 0)
 | k+1=>putF ks is k++pcF (sa ks k) (ia is (k+1))
def z2z (ks:List ByteArray)(is:List Int):List Nat:=putF ks is ks.length
theorem x3p (p:Int):B8 (twoP p):=fun x hx=>by
 unfold twoP at hx;simp at hx;omega
theorem q4s (k:ByteArray)(p:Int):B8 (pcF k p):=(x7g _).append ((x7l _).append (x3p p))
theorem x3q (ks:List ByteArray)(is:List Int):∀k,B8 (putF ks is k)
 | 0=>x3p _
 | k+1=>(x3q ks is k).append (q4s _ _)
theorem q2c (k:ByteArray)(p:Int)(h:k.size≤127):(pcF k p).length=3+k.size:=by
 have e:(vb k.size).length=1:=z1z (by omega);unfold pcF;rw[zla,zla,z2q,e];show 1+(k.size+2)=_;omega
def z1k (ks:List ByteArray):Nat→Nat
 | 0=>2
 | k+1=>z1k ks k+(3+(sa ks k).size)
theorem y1y {ks:List ByteArray}{is:List Int}(h:∀i,i<ks.length→(sa ks i).size≤127):∀k,k≤ks.length→(putF ks is k).length=z1k ks k
 | 0,_=>rfl
 | k+1,hk=>by
  rw[putF,zla,y1y h k (by omega),q2c _ _ (h k (by omega)),z1k]
theorem y0p {ks:List ByteArray}(h:z3l ks):∀i,i<ks.length→(sa ks i).size≤127:=fun i hi=>by
 have:=z08 (h i hi).1;omega
theorem y1z {ks:List ByteArray}{is:List Int}(h:z3l ks):(z2z ks is).length=z1k ks ks.length:=y1y (y0p h) _ (zlr _)
theorem y4d {ks:List ByteArray}(h:z3l ks):∀k,k≤ks.length→z1k ks k≤2+43*k
 | 0,_=>by rw[z1k];omega
 | k+1,hk=>by
  have:=z08 (h k (by omega)).1;have:=y4d h k (by omega);rw[z1k];omega
theorem z9c (ks:List ByteArray):∀(m k:Nat),k≤m→z1k ks k≤z1k ks m
 | 0,k,h=>by
  obtain rfl:k=0:=by omega
  exact zlr _
 | m+1,k,h=>by
  rcases zng k (m+1) with h1|h1
  ·have:=z9c ks m k (by omega);show _≤z1k ks m+_;omega
  ·obtain rfl:k=m+1:=by omega
   exact zlr _
open Classical in
/-- Encode's error and its bytes.-/
noncomputable def z69 (ks:List ByteArray) (is:List Int):Nat:=if mayF ks is then (if (z2z ks is).length≤504 then 0 else 5) else 1
noncomputable def y10 (ks:List ByteArray) (is:List Int):List Nat:=if z69 ks is=0 then z2z ks is else []
theorem q4t {ks:List ByteArray}{is:List Int}(h:¬mayF ks is):z69 ks is=1∧y10 ks is=[]:=by
 have:z69 ks is=1:=by unfold z69;rw[if_neg h]
 exact⟨this,by unfold y10;rw[this];rfl⟩
theorem q4u {ks:List ByteArray}{is:List Int}(h:mayF ks is)(h3:504<(z2z ks is).length):z69 ks is=5∧y10 ks is=[]:=by
 have:z69 ks is=5:=by unfold z69;rw[if_pos h,if_neg (by omega)]
 exact⟨this,by unfold y10;rw[this];rfl⟩
theorem q0j {ks:List ByteArray}{is:List Int}(h:mayF ks is)(h3:(z2z ks is).length≤504):z69 ks is=0∧y10 ks is=z2z ks is:=by
 have:z69 ks is=0:=by unfold z69;rw[if_pos h,if_pos h3]
 exact⟨this,by unfold y10;rw[this];rfl⟩
def z3h (l:List Nat):Option (ByteArray×Int×List Nat):=
 let B:=z0k ⟨l,false⟩ 40
 if B.2.wr=true then none
 else if B.2.l.length<2 then none else some (bstr B.1,((B.2.l.getD 0 0*256+B.2.l.getD 1 0:Nat):Int),B.2.l.drop 2)
theorem y11 {l:List Nat}(h:(z0k ⟨l,false⟩ 40).2.wr=true):z3h l=none:=by unfold z3h;simp only;rw[if_pos h]
theorem z5t {l:List Nat}(h:(z0k ⟨l,false⟩ 40).2.l.length<2):z3h l=none:=by
 unfold z3h;simp only
 by_cases hw:(z0k ⟨l,false⟩ 40).2.wr=true
 ·rw[if_pos hw]
 ·rw[if_neg hw,if_pos h]
theorem z6j {l:List Nat}(h:(z0k ⟨l,false⟩ 40).2.wr=false)(h2:2≤(z0k ⟨l,false⟩ 40).2.l.length):
  z3h l=some (bstr (z0k ⟨l,false⟩ 40).1,(((z0k ⟨l,false⟩ 40).2.l.getD 0 0*256+(z0k ⟨l,false⟩ 40).2.l.getD 1 0:Nat):Int),(z0k ⟨l,false⟩ 40).2.l.drop 2):=by
 unfold z3h;simp only;rw[if_neg (by rw[h];simp),if_neg (by omega)]
theorem z5u {S:RS}{m:Nat}(h:(z0k S m).2.wr=false):(z0k S m).2.l.length<S.l.length:=by
 obtain⟨h1,h2,e⟩:=y39 h;obtain⟨e2,h3,_⟩:=x23 h1;have hl:=y8l S.l h3;rw[e];show(List.drop _ _).length<_;rw[zld,e2];show(List.drop _ _).length-_<_;rw[zld];omega
theorem y12 {l r:List Nat}{k:ByteArray}{p:Int}(h:z3h l=some (k,p,r)):r.length+2<l.length:=by
 cases hw:(z0k ⟨l,false⟩ 40).2.wr with
 | true=>rw[y11 hw] at h;cases h
 | false=>
  rcases Nat.lt_or_ge (z0k ⟨l,false⟩ 40).2.l.length 2 with h2|h2
  ·rw[z5t h2] at h;cases h
  ·rw[z6j hw h2] at h
   cases h
   have:=z5u hw;rw[zld];show _<l.length;have h3:(z0k ⟨l,false⟩ 40).2.l.length<l.length:=this;omega
theorem x3r {l r:List Nat}{k:ByteArray}{p:Int}(x:List Nat)(h:z3h l=some (k,p,r)):z3h (l++x)=some (k,p,r++x):=by
 cases hw:(z0k ⟨l,false⟩ 40).2.wr with
 | true=>rw[y11 hw] at h;cases h
 | false=>
  rcases Nat.lt_or_ge (z0k ⟨l,false⟩ 40).2.l.length 2 with h2|h2
  ·rw[z5t h2] at h;cases h
  ·rw[z6j hw h2] at h;have e1:=x0s x false hw;simp only at e1;rw[z6j (by rw[e1]) (by rw[e1];show 2≤(_++x).length;rw[zla];omega),e1];simp only
   cases h
   rw[List.drop_append_of_le_length h2,y8t _ _ _ (by omega),y8t _ _ _ (by omega)]
theorem x3s {k:ByteArray}{p:Int}(hk:okK k=true)(hp:2≤p∧p≤1023)(r:List Nat):z3h (pcF k p++r)=some (k,p,r):=by
 have h1:=z08 hk;have e:pcF k p++r=vb (bn k).length++(bn k++(twoP p++r)):=by
  unfold pcF;rw[z2q];simp only[List.append_assoc]
 have e1:=y0n (bn k) (twoP p++r) false 40 (by rw[z2q];omega) (by rw[z2q];omega);rw[e,z6j (by rw[e1]) (by rw[e1];show 2≤(twoP p++r).length;rw[zla];show 2≤2+_;omega),e1];simp only;have e3:((twoP p++r).getD 0 0*256+(twoP p++r).getD 1 0:Nat)=p.toNat:=by
  show p.toNat/256%256*256+p.toNat%256=_;omega
 have e4:((p.toNat:Nat):Int)=p:=by omega
 rw[e3,e4,z85]
 rfl
def decF:Nat→List Nat→Option (List ByteArray×List Int)
 | 0,l=>if l=[] then some ([],[]) else none
 | f+1,l=>if l=[] then some ([],[]) else match z3h l with
  | none=>none
  | some (k,p,r)=>(decF f r).map fun x=>(k::x.1,p::x.2)
theorem z8k (f:Nat):decF f []=some ([],[]):=by cases f<;>rfl
theorem y4e:∀(f g:Nat) (l:List Nat),l.length≤f→l.length≤g→decF f l=decF g l
 | 0,g,l,hf,_=>by
  obtain rfl:l=[]:=List.eq_nil_of_length_eq_zero (by omega);rw[z8k,z8k]
 | f+1,0,l,_,hg=>by
  obtain rfl:l=[]:=List.eq_nil_of_length_eq_zero (by omega);rw[z8k,z8k]
 | f+1,g+1,l,hf,hg=>by
  rw[decF,decF];split
  ·rfl
  ·cases h:z3h l with
   | none=>rfl
   | some x=>
    obtain⟨k,p,r⟩:=x;have:=y12 h;simp only;rw[y4e f g r (by omega) (by omega)]
def decR (l:List Nat):Option (List ByteArray×List Int):=decF l.length l
theorem z8l:decR []=some ([],[]):=rfl
theorem z9d {l:List Nat}(h0:l≠[])(h:z3h l=none):decR l=none:=by
 unfold decR
 cases hl:l.length with
 | zero=>exact absurd (List.eq_nil_of_length_eq_zero hl) h0
 | succ f=>rw[decF,if_neg h0,h]
theorem z6k {l r:List Nat}{k:ByteArray}{p:Int}(h:z3h l=some (k,p,r)):decR l=(decR r).map fun x=>(k::x.1,p::x.2):=by
 have hlt:=y12 h;unfold decR
 cases hl:l.length with
 | zero=>omega
 | succ f=>
  have h0:l≠[]:=fun e=>by rw[e] at hl;cases hl
  rw[decF,if_neg h0,h];simp only;rw[y4e f r.length r (by omega) (zlr _)]
theorem x7w (n:Nat):∀(l m:List Nat) (x:List ByteArray×List Int),l.length≤n→decR l=some x→decR (l++m)=(decR m).map fun y=>(x.1++y.1,x.2++y.2):=by
 induction n with
 | zero=>
  intro l m x hl h;obtain rfl:l=[]:=List.eq_nil_of_length_eq_zero (by omega);rw[z8l] at h
  cases h
  rw[List.nil_append]
  cases decR m<;>rfl
 | succ n ih=>
  intro l m x hl h
  by_cases h0:l=[]
  ·subst h0;rw[z8l] at h
   cases h
   rw[List.nil_append]
   cases decR m<;>rfl
  ·cases hp:z3h l with
   | none=>rw[z9d h0 hp] at h;cases h
   | some y=>
    obtain⟨k,p,r⟩:=y;have hlt:=y12 hp;rw[z6k hp] at h
    cases hr:decR r with
    | none=>rw[hr] at h;cases h
    | some z=>
     rw[hr] at h
     cases h
     rw[z6k (x3r m hp),ih r m z (by omega) hr]
     cases decR m<;>rfl
def z71 (l:List Nat):Int:=((l.getD 0 0*256+l.getD 1 0:Nat):Int)
open Classical in
/-- Decode's fork,if the bytes are a load.-/
noncomputable def z2r (l:List Nat):Option (List ByteArray×List Int):=
 if 504<l.length∨l.length<2 then none else match decR (l.drop 2) with
  | none=>none
  | some (ks,ps)=>if mayF ks (z71 l::ps) then some (ks,z71 l::ps) else none
theorem y4f {l:List Nat}(h:504<l.length∨l.length<2):z2r l=none:=by unfold z2r;rw[if_pos h]
theorem y0q {l:List Nat}(h:decR (l.drop 2)=none):z2r l=none:=by
 unfold z2r;rw[h];split<;>rfl
theorem x3t {l:List Nat}{ks:List ByteArray}{ps:List Int}(h:decR (l.drop 2)=some (ks,ps))(hm:¬mayF ks (z71 l::ps)):z2r l=none:=by
 unfold z2r;rw[h];simp only;rw[if_neg hm];split<;>rfl
theorem y0r {l:List Nat}{ks:List ByteArray}{ps:List Int}(h1:l.length≤504)(h2:2≤l.length)(h:decR (l.drop 2)=some (ks,ps))(hm:mayF ks (z71 l::ps)):z2r l=some (ks,z71 l::ps):=by
 unfold z2r;rw[if_neg (by omega),h];simp only;rw[if_pos hm]
theorem x3u {l:List Nat}{x:List ByteArray×List Int}(h:z2r l=some x):mayF x.1 x.2:=by
 unfold z2r at h;split at h
 ·cases h
 split at h
 ·cases h
 split at h
 ·rename_i hm
  cases h;exact hm
 ·cases h
noncomputable def y4g (l:List Nat):List ByteArray:=match z2r l with
 | none=> []
 | some x=>x.1
noncomputable def y4h (l:List Nat):List Int:=match z2r l with
 | none=> []
 | some x=>x.2
noncomputable def y6j (l:List Nat):Nat:=match z2r l with
 | none=>3
 | some _=>0
theorem z9e {l:List Nat}(h:z2r l=none):y4g l=[]∧y4h l=[]∧y6j l=3:=by unfold y4g y4h y6j;rw[h];exact⟨rfl,rfl,rfl⟩
theorem y8y {l:List Nat}{ks:List ByteArray}{is:List Int}(h:z2r l=some (ks,is)):y4g l=ks∧y4h l=is∧y6j l=0:=by unfold y4g y4h y6j;rw[h];exact⟨rfl,rfl,rfl⟩
theorem y13 (ks:List ByteArray)(is:List Int):∀k,∃m,putF ks is k=twoP (ia is 0)++m
 | 0=>⟨[],by rw[List.append_nil];rfl⟩
 | k+1=>by
  obtain⟨m,hm⟩:=y13 ks is k;exact⟨m++pcF (sa ks k) (ia is (k+1)),by rw[putF,hm,List.append_assoc]⟩
theorem x3v {p:Int}(h:2≤p∧p≤1023)(m:List Nat):z71 (twoP p++m)=p:=by
 show((p.toNat/256%256*256+p.toNat%256:Nat):Int)=p;omega
theorem y4i {l m:List Nat}(h:2≤l.length):(l++m).drop 2=l.drop 2++m:=List.drop_append_of_le_length h
theorem y8z {ks:List ByteArray}{is:List Int}(h:mayF ks is):∀k,k≤ks.length→decR ((putF ks is k).drop 2)=some (ks.take k,(is.drop 1).take k)
 | 0,_=>rfl
 | k+1,hk=>by
  obtain⟨hK,hP,h1,hl⟩:=h;have ih:=y8z ⟨hK,hP,h1,hl⟩ k (by omega);obtain⟨m,hm⟩:=y13 ks is k;have e:=x3s (hK k (by omega)).1 (hP (k+1) (by omega)).1 [];rw[List.append_nil] at e;have e2:=z6k e;rw[z8l] at e2;rw[putF,y4i (by rw[hm,zla];show 2≤2+_;omega),x7w _ _ _ _ (zlr _) ih,e2];have e3:(is.drop 1).take (k+1)=(is.drop 1).take k++[ia is (k+1)]:=by
   rw[List.take_succ_eq_append_getElem (by rw[zld];omega)];simp only[List.getElem_drop,ia,List.getD];rw[List.getElem?_eq_getElem (by omega)];simp[Nat.add_comm]
  rw[y6c ks k (by omega),e3]
  rfl
theorem q2d {is:List Int}(h:1≤is.length):ia is 0::is.drop 1=is:=by
 cases is with
 | nil=>simp at h
 | cons x r=>rfl
theorem x0v {ks:List ByteArray}{is:List Int}(h:mayF ks is)(hl:(z2z ks is).length≤504):z2r (z2z ks is)=some (ks,is):=by
 have e:=y8z h ks.length (zlr _);have h4:=h.2.2.2;rw[List.take_of_length_le (zlr _),List.take_of_length_le (by rw[zld];omega)] at e;obtain⟨m,hm⟩:=y13 ks is ks.length;have hf:z71 (z2z ks is)=ia is 0:=by unfold z2z;rw[hm];exact x3v (h.2.1 0 (by omega)).1 m
 have h2:2≤(z2z ks is).length:=by unfold z2z;rw[hm,zla];show 2≤2+_;omega
 have hc:=q2d (is:=is) (by omega);have:=y0r hl h2 e (by rw[hf,hc];exact h);rw[hf,hc] at this;exact this
def wayS:List ByteArray→ByteArray→Nat
 | [],_=>0
 | c::r,key=>if blt key c=true then 0 else wayS r key+1
theorem z9f:∀(cs:List ByteArray) (key:ByteArray),wayS cs key≤cs.length
 | [],_=>zlr _
 | c::r,key=>by
  have:=z9f r key;unfold wayS;split
  ·exact Nat.zero_le _
  ·rw[List.length_cons];omega
theorem y14:∀(cs:List ByteArray) (key:ByteArray) (i:Nat),i<wayS cs key→blt key (sa cs i)=false
 | [],_,i,h=>by simp[wayS] at h
 | c::r,key,i,h=>by
  unfold wayS at h;split at h
  ·omega
  ·rename_i h1
   cases i with
   | zero=>show blt key c=false;simpa using h1
   | succ i=>exact y14 r key i (by omega)
theorem y15:∀(cs:List ByteArray) (key:ByteArray),wayS cs key<cs.length→blt key (sa cs (wayS cs key))=true
 | [],_,h=>by simp at h
 | c::r,key,h=>by
  unfold wayS at h⊢
  split
  ·rename_i h1
   exact h1
  ·rename_i h1
   rw[if_neg h1,List.length_cons] at h;exact y15 r key (by omega)
theorem q2e {cs:List ByteArray}(ha:z3l cs)(key:ByteArray)(i:Nat)(hi:wayS cs key≤i)(hl:i<cs.length):blt key (sa cs i)=true:=by
 have h1:=y15 cs key (by omega)
 rcases Nat.lt_or_ge (wayS cs key) i with h2|h2
 ·exact z34 h1 (x3o ha i _ h2 hl)
 ·obtain rfl:i=wayS cs key:=by omega
  exact h1
end Go.Proofs.YtdgladhfibfdlaaGreatDoor
