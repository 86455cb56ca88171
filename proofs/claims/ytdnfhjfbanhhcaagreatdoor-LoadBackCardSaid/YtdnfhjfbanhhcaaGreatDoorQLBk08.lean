/-
  Steps.
-/
import Derived.Test.YtdnfhjfbanhhcaaGreatDoorQLBk07
import Derived.Test.YtdnfhjfbanhhcaaGreatDoorProg
import Derived.Lib.ConvBytes
namespace Go.Proofs.YtdnfhjfbanhhcaaGreatDoor
open Go Go.RowKit
theorem y6j (w:World)(g:Nat)(cs:Array Value):Turn (fun i=>i=g) w (w.setRow g cs):=
 ⟨rfl,rfl,rfl,by simp[World.setRow],fun i _ hne=>setRow_other w g i cs hne⟩
theorem z6e {P:Program}{w:World}{o:Oper}{a:Act}{K:Act→World→Prop}{Q:Exit→Act→World→Prop}(d s:Operand)(dT sT:TypeId)
  (ho:o.op=.call {callee:=.builtin .copy,args:= #[d,s],argTypes:= #[dT,sT]}) (e:TypeId) (hu:P.underlying dT=some (.slice e)) (hsz:(P.info? e).map (·.size)=some 1)
  (g off dLen dCap:Nat) (sp:Option Addr) (sLen sCap:Nat) (cur l:List Nat) (hl:l.length=sLen) (hd:a.eval d=.slice (some ⟨g,off,none⟩) dLen dCap) (hs:a.eval s=.slice sp sLen sCap)
  (hrow:Row w g e cur) (hsrc:Src w sp l) (hfit:off+sLen≤cur.length) (hlen:sLen≤dLen) (hpos:0<sLen)
  (h:∀w',Row w' g e (splice cur off l)→Turn (fun i=>i=g) w w'→K (a.put o.dst (goInt sLen)) w'):Oper.wp P o a w K Q:=by
 subst hl;obtain⟨ad,rfl,hcs⟩:=hsrc.cells hpos;have hmin:(bv l).length=Nat.min l.length dLen:=by rw[z02];exact(Nat.min_eq_left hlen).symm
 have hrun:=run_copy_row (P:=P) w dT sT o.type e g off dLen dCap ad l.length sCap (bv cur).toArray e (bv l) hu hsz hrow hmin hcs (by simpa [z02] using hfit) (y76 l);rw[z02] at hrun;unfold Oper.wp;simp only[execOp,ho,resolve,invoke,builtin];simp[hd,hs,hrun,Result.andThen];refine h _ ?_ (y6j _ _ _);show _=_;have:=setRow_heap w g (bv cur).toArray ((bv cur).take off++(bv l++(bv cur).drop (off+l.length))).toArray e (0,0) hrow;rw[←z8v]
 simpa [splice,z02] using this
theorem y8i (v s:Nat)(w:World)(hs1:1≤s)(hs:s≤64)(hv:v<18446744073709551616):
  Calls Tryz.prog 155 #[.slice none 0 0,.int .u64 v,.int .i64 s] w fun e w'=>e=.returned (.slice (some ⟨w.heap.size,0,none⟩) s s)∧Row w' w.heap.size 5 (beL v s)∧Below w.heap.size w w':=by
 have h:=q39 none 0 [] v s w (by simp) hs1 hs hv (Src.nil _ _)
 simpa using h
def y6k (k:Nat):List Nat:=(List.replicate 512 0).set 0 k
def x0h (k n:Nat):List Nat:=splice (y6k k) 2 (beL n 2)
def y1w (k n:Nat)(l:List Nat):List Nat:=splice (x0h k n) 4 l
theorem x7j (k:Nat):y6k k=k::0::0::0::List.replicate 508 0:=rfl
theorem q1y (n:Nat)(h:n≤504):beL n 2=[n/256,n%256]:=by
 show[n/256%256,n%256]=_;rw[Nat.mod_eq_of_lt (show n/256<256 by omega)]
theorem y8j (k n:Nat)(h:n≤504):x0h k n=k::0::n/256::n%256::List.replicate 508 0:=by
 unfold x0h;rw[x7j,q1y n h];rfl
theorem y8k (k n:Nat)(l:List Nat)(hn:l.length=n)(h:n≤504):y1w k n l=z31 k l++[0,0,0,0]:=by
 unfold y1w;rw[y8j k n h,y0l,←hn];simp only[splice,List.take_succ_cons,List.take_zero,List.cons_append,List.nil_append,List.append_assoc]
 congr 5
 rw[show 4+l.length=l.length+1+1+1+1 by omega];simp only[List.drop_succ_cons,List.drop_replicate];rw[show[0,0,0,0]=List.replicate 4 0 from rfl,List.replicate_append_replicate]
 congr 1;omega
theorem z7y (k n:Nat)(l:List Nat)(hn:l.length=n)(h:n≤504):(y1w k n l).length=512:=by
 rw[y8k k n l hn h,zla,z1t (by omega)];rfl
theorem y0o (k n:Nat)(l:List Nat)(hn:l.length=n)(h:n≤504):(y1w k n l).take 508=z31 k l:=by
 rw[y8k k n l hn h,←z1t (k:=k) (l:=l) (by omega),List.take_left]
theorem x7k (k n:Nat)(l:List Nat)(hn:l.length=n)(h:n≤504):splice (y1w k n l) 508 (beL (more 0#32 (z31 k l)).toNat 4)=z1l k l:=by
 unfold splice;rw[y0o k n l hn h,List.drop_of_length_le (by rw[z7y k n l hn h,z1b];exact zlr _),List.append_nil];rfl
theorem y35 (k:Nat):(y6k k).length=512:=by unfold y6k;rw[List.length_set,List.length_replicate]
theorem y36 (k n:Nat)(h:n≤504):(x0h k n).length=512:=by rw[y8j k n h,List.length_cons,List.length_cons,List.length_cons,List.length_cons,List.length_replicate]
theorem x7l (w:World)(g:Nat)(L m:List Nat)(hm:L.take 508=m)(hl:L.length=512)(hb:B8 m)(hr:Row w g 5 L)(hT:z0x w):
  Calls Tryz.prog 164 #[.slice (some ⟨g,0,none⟩) 508 512] w fun e w'=>e=.returned (.int .u32 ((more 0#32 m).toNat:Nat))∧w=w':=by
 have h8:m.length=508:=by rw[←hm,zlk];omega
 have:=x2c (some ⟨g,0,none⟩) 512 m w hb (by omega) (by rw[←hm];exact(hr.cs.start 508).src) hT;rw[h8] at this;exact this
set_option maxRecDepth 100000 in
set_option maxHeartbeats 1000000 in
theorem q1z (k:Nat)(a:Option Addr)(n c:Nat)(l:List Nat)(hn:l.length=n)(w:World)(hk1:1≤k)(hk5:k≤5)(hl:n≤504)(hb:B8 l)(hsrc:Src w a l)(hT:z0x w):
  Calls Tryz.prog 123 #[.int .u8 k,.slice a n c] w fun e w'=>e=.returned (.tuple #[.slice (some ⟨w.heap.size,0,none⟩) 512 512,.nilIface])∧Row w' w.heap.size 5 (z1l k l)∧Below w.heap.size w w':=by
 have hK:=y0n k w (by omega);rw[show decide (1≤k∧k≤5)=true by simp;omega] at hK;have d1:decide (504<(n:Int))=false:=by simp;omega
 have Hn:=zh hn;have Hs:=zh hsrc;have HT:=zh hT;have e1:=y0o k n l hn hl;have e2:=x7k k n l hn hl;have e3:=z7y k n l hn hl;have hbb:=y79 (k:=k) (l:=l) (by omega) (by omega) hb;have HE:=zh (zai e1 (zai e2 (zai e3 hbb)));clear hn hsrc hT e1 e2 e3 hbb
 go_enter Tryz.func123,Tryz.ntmps123
 go_wp2_with (first
  | (go_at_call 163;refine hK.mono ?_;rintro e w' ⟨rfl,rfl⟩)
  | (at_make;refine z06 rfl _ _ 46 rfl 5 Tryz.underlying46 z8g _ _ _ _ 512 rfl rfl rfl rfl (by omega) ?_;intro w1 hr1 hb1;have hc1:=hr1.out.cell 0 (by rw[List.length_replicate];omega);have hf1:=hr1.out.frozen 0;have hx1:=zh (hr1.out.set 0 k)))
 have hr2:Row (w1.setCell ⟨w.heap.size,0,none⟩ (.int .u8 (k:Int))) w.heap.size 5 (y6k k):=hx1.out;have hb2:Below w.heap.size w (w1.setCell ⟨w.heap.size,0,none⟩ (.int .u8 (k:Int))):=hb1.setCell (zlr _) _;refine z0k (F:=fun i=>i=w.heap.size) [(0,true),(1,true),(2,true),(3,true),(4,true),(5,false),(6,false)] (by kernel_rfl) (by kernel_rfl) (by kernel_rfl) (by kernel_rfl) (fun _ _ _ _ _ h=>h) ?_;have hr3:=(y78 (w1.setCell ⟨w.heap.size,0,none⟩ (.int .u8 (k:Int))) w.heap.size 5 (y6k k)).mpr hr2;have hb3:=hb2.drew;clear hr1 hc1 hf1 hx1 hr2 hb1 hb2;generalize (w1.setCell ⟨w.heap.size,0,none⟩ (.int .u8 (k:Int))).drew=w3 at*;have z1:IntKind.u64.wrap (n:Int)=(n:Int):=by rw[IntKind.wrap_u64];omega
 iterate 5 (refine gtr (v:= ?_) rfl (by rfl) ?_ ?_;rotate_left;(intro w' hw';go_simp;with_reducible rfl);simp only[Act.put,zs0,zs1,zs2])
 refine gtc rfl (by rfl) (fun K hK=> ?_);go_simp;refine(y8i n 2 w3 (by decide) (by decide) (by omega)).mono ?_;rintro e w4 ⟨rfl,hr4,hb4⟩;refine hK _ _ (q5w hb4) ?_;clear hK K;refine gtc rfl (by rfl) (fun K hK=> ?_);refine z6e (.tmp 21) (.tmp 25) 46 46 rfl 5 Tryz.underlying46 z41 w.heap.size 2 510 510 _ 2 2 (y6k k) (beL n 2) (z1b _ _) (by rfl) (by rfl) (hr3.below hb4 hr3.lt) (z8w hr4) (by rw[y35];omega) (by omega) (by omega) ?_;intro w5 hr5 ht5;refine hK _ _ ht5 ?_;clear hK K;simp only[Act.put];refine z0z ?_;have hr5':Row w5 w.heap.size 5 (x0h k n):=hr5;have hb5:Below w.heap.size w w5:=(hb3.trans (hb4.mono hb3.size)).trans (ht5.below (znt hb3.size hb4.size) (fun i hi=>by rw[hi];exact zlr _));have hs5:=zh (Hs.out.below hb5 (zlr _));clear hr3 hb3 hr4 hb4 hr5 ht5
 go_wp2_with (show wpList _ _ _ (⟨some 30,_,_,_,_,_⟩::_) _ _;refine z1x rfl (.tmp 28) (.tmp 29) 46 46 rfl 5 Tryz.underlying46 z41 w.heap.size 4 508 508 a c (x0h k n) l (by rfl) (by rw[Hn.out];rfl) hr5' hs5.out (by rw[y36 k n hl,Hn.out];omega) (by rw[Hn.out];omega) w.heap.size w hb5 (zlr _) ?_;intro w6 hr6 hb6;clear hr5' hb5 hs5)
 refine(x7l w6 w.heap.size (y1w k n l) (z31 k l) HE.out.1 HE.out.2.2.1 HE.out.2.2.2 hr6.out (HT.out.below hb6)).mono ?_;rintro e w' ⟨rfl,rfl⟩;have hr6':Row w6 w.heap.size 5 (y1w k n l):=hr6.out;have hSl:(more 0#32 (z31 k l)).toNat<4294967296:=by have:=(more 0#32 (z31 k l)).isLt;omega
 have hE:=HE.out.2.1;have hEl:=HE.out.2.2.1;generalize (more 0#32 (z31 k l)).toNat=S at*;have HE2:=zh (zai hE hEl);clear hE hEl hr6 HE;go_wp2_with fail;refine z0k (F:=fun i=>i=w.heap.size) [(0,true),(1,true),(2,true),(3,true),(4,false),(5,false)] (by kernel_rfl) (by kernel_rfl) (by kernel_rfl) (by kernel_rfl) (fun _ _ _ _ _ h=>h) ?_;have hr7:=(y78 w6 w.heap.size 5 (y1w k n l)).mpr hr6';have hb7:=hb6.drew;clear hr6' hb6;generalize w6.drew=w7 at*;have z2:IntKind.u64.wrap (S:Int)=(S:Int):=by rw[IntKind.wrap_u64];omega
 iterate 4 (refine gtr (v:= ?_) rfl (by rfl) ?_ ?_;rotate_left;(intro w' hw';go_simp;with_reducible rfl);simp only[Act.put,zs0,zs1,zs2])
 refine gtc rfl (by rfl) (fun K hK=> ?_);go_simp;refine(y8i S 4 w7 (by decide) (by decide) (by omega)).mono ?_;rintro e w8 ⟨rfl,hr8,hb8⟩;refine hK _ _ (q5w hb8) ?_;clear hK K;refine gtc rfl (by rfl) (fun K hK=> ?_);refine z6e (.tmp 35) (.tmp 38) 46 46 rfl 5 Tryz.underlying46 z41 w.heap.size 508 4 4 _ 4 4 (y1w k n l) (beL S 4) (z1b _ _) (by rfl) (by rfl) (hr7.below hb8 hr7.lt) (z8w hr8) (by rw[HE2.out.2];omega) (by omega) (by omega) ?_;intro w9 hr9 ht9;refine hK _ _ ht9 ?_;clear hK K;simp only[Act.put];refine z0z ?_;have hr9':Hid (Row w9 w.heap.size 5 (z1l k l)):=by
  have:=hr9
  rwa [HE2.out.1] at this
 have hb9:Hid (Below w.heap.size w w9):=(hb7.trans (hb8.mono hb7.size)).trans (ht9.below (znt hb7.size hb8.size) (fun i hi=>by rw[hi];exact zlr _));clear hr7 hb7 hr8 hb8 hr9 ht9;go_wp2
 go_ret2
 exact⟨rfl,hr9'.out,hb9.out⟩
def TyF (w:World)(F:Nat→Prop)(T:TypeId):Prop:=∀b,F b→∃A fz,w.heap[b]? =some (.cells A T fz)
section
variable {w w':World} {F:Nat→Prop} {T:TypeId}
theorem TyF.one {g:Nat}{A:Array Value}{fz:Nat×Nat}(h:w.heap[g]? =some (.cells A T fz)):TyF w (fun i=>i=g) T:=fun _ e=>⟨A,fz,e▸h⟩
theorem TyF.own {B E sz n:Nat}{v:Value}{xs:List Value}(h:w.ownsRow B E sz v n xs):TyF w (fun i=>v.ownBlock=some i) E:=fun b hb=>by
 rcases h.2 with ⟨rfl,_⟩|⟨g,cap,cur,rfl,_,hg,_⟩
 ·cases hb
 ·injection hb with hb
  subst hb;exact⟨cur,_,hg⟩
theorem TyF.not {b T2:Nat}{A:Array Value}{fz:Nat×Nat}(hF:TyF w F T)(h:w.heap[b]? =some (.cells A T2 fz))(hT:T≠T2):¬F b:=fun hb=>by
 obtain⟨A',fz',h2⟩:=hF b hb;rw[h] at h2;injection h2 with h2
 injection h2 with _ h2 _
 exact hT h2.symm
theorem ES.tur {α:Type}{E:Elt α}{a:Option Addr}{l:List α}(h:ES E w a l)(ht:Turn F w w')(hF:TyF w F T)(hT:E.ty T=false):ES E w' a l:=by
 rcases h with h|⟨b,o,rfl,⟨A2,T2,fz2,h2,h3⟩,hc⟩
 ·exact .inl h
 ·have hne:¬F b:=hF.not h2 (fun e=>by rw[e,h3] at hT;cases hT);refine .inr ⟨b,o,rfl,⟨A2,T2,fz2,ht.hg h2 hne,h3⟩,fun j2 u hu=> ?_⟩;have h4:=hc j2 u hu;rw[ht.cell (p:=⟨b,o+j2,none⟩) (block_lt_of_cell h4) hne];exact h4
theorem EV.tur {α:Type}{E:Elt α}{v:Value}{l:List α}(h:EV E w v l)(ht:Turn F w w')(hF:TyF w F T)(hT:E.ty T=false):EV E w' v l:=by
 obtain⟨a,c,rfl,hs,h1⟩:=h;exact⟨a,c,rfl,hs.tur ht hF hT,h1⟩
theorem z17 {B E sz n:Nat}{v:Value}{xs:List Value}(h:w.ownsRow B E sz v n xs)(ht:Turn F w w')(hF:TyF w F T)(hT:T≠E):w'.ownsRow B E sz v n xs:=by
 refine⟨h.1,?_⟩
 rcases h.2 with h2|⟨b,cap,cur,rfl,hb,hgb,h3⟩
 ·exact .inl h2
 ·exact .inr ⟨b,cap,cur,rfl,hb,ht.hg hgb (hF.not hgb hT),h3⟩
end
theorem z2a {α:Type}{E:Elt α}{P:Program}{w:World}(B:Nat)(t ty e:TypeId)(ht:P.underlying t=some (.slice e))(h2:(P.info? e).map (fun i=>(i.zero,i.size,i.bytes))=some (some E.zero,E.sz,E.by_))
  (v:Value) (n:Nat) (l:List α) (hs:w.ownsRow B e E.sz v n (E.row l)) (hB:B≤w.heap.size) (a2:Option Addr) (n2 c2:Nat) (m:List α) (hn2:m.length=n2) (h0:0<n2) (hm:ES E w a2 m)
  (h63:n+n2≤maxLen) (hby:(n+n2)*E.by_≤140737488355328):
  ∃v' w',(Builtin.append_ #[t,t] ty #[v,.slice a2 n2 c2]).run P w=.ok v' w'∧Below B w w'∧Turn (fun i=>v.ownBlock=some i) w w'∧w'.ownsRow B e E.sz v' (n+n2) (E.row (l++m)):=by
 obtain⟨i0,hi,hz,hs0,hb0⟩:=info_parts h2;obtain⟨g,o,rfl,hc⟩:=hm.at (by omega);obtain⟨v',w',hr,h3,h4,_⟩:=run_append_own (P:=P) w B t ty e i0 E.zero E.sz E.by_ ht hi hz hs0 hb0 E.zc E.pos v n (E.row l) hs ⟨g,o,none⟩ n2 c2 (E.row m) (by rw[E.row_len,hn2]) (fun j u hu=>by rw[z2q];exact hc j u hu) (E.row_one m) h63 hby hB;refine⟨v',w',hr,(zbr B w).grown h4 hB (fun k hk=>(hs.lt k hk).1),⟨h4.os,h4.tape,h4.output,h4.size,fun i hi hne=>h4.block i hi (fun e=>hne e.symm)⟩,?_⟩;rw[q5x];exact h3
theorem y1x (w:World)(s:ByteArray)(hs:s.size≤1099511627776):∃g c w1,(convert 9 46 (.string s)).run Tryz.prog w=.ok (.slice (some ⟨g,0,none⟩) s.size c) w1∧Src w1 (some ⟨g,0,none⟩) (bn s)∧s.size≤c∧c≤maxLen∧Below w.heap.size w w1:=by
 refine⟨w.heap.size,grownCap w s.size 0 5,Lib.bytesWorld w 5 s,?_,?_,?_,?_,⟨rfl,rfl,rfl,by rw[Lib.bytesWorld_size];omega,fun j hj=>Lib.bytesWorld_at_old w _ _ j hj⟩⟩
 ·exact Lib.run_convert_string_bytes w _ _ _ s Tryz.underlying9 Tryz.underlying46 Tryz.underlying5
 ·have hcs:Cs (Lib.bytesWorld w 5 s) w.heap.size 0 (bn s):=fun i hi=>by
   rw[z2h] at hi;rw[Nat.zero_add,Lib.bytesWorld_cell w 5 s i hi];unfold bn;have hi2:i<s.data.toList.length:=by simpa using hi
   congr 2
   rw[List.getD_eq_getElem?_getD,List.getD_eq_getElem?_getD,List.getElem?_map,show(bl s)=s.data.toList from rfl,List.getElem?_eq_getElem hi2]
   rfl
  exact hcs.src
 ·have:=grownCap_ge w s.size 0 5;omega
 ·exact grownCap_le_maxLen w s.size 0 5 (by unfold maxLen;omega)
def y0a (ks:List ByteArray)(k:Nat):ByteArray:=if k=0 then ByteArray.empty else sa ks (k-1)
def y0p (ks:List ByteArray)(k:Nat):Prop:=∀i,i<k→okK (sa ks i)=true∧blt (y0a ks i) (sa ks i)=true
def z5p (is:List Int)(i:Nat):Prop:=∀j,j<i→ia is j≠ia is i
def z69 (is:List Int)(k:Nat):Prop:=∀i,i<k→(2≤ia is i∧ia is i≤1023)∧z5p is i
def z3j (ks:List ByteArray):Prop:=y0p ks ks.length
def z88 (is:List Int):Prop:=z69 is is.length
def mayF (ks:List ByteArray)(is:List Int):Prop:=z3j ks∧z88 is∧1≤ks.length∧is.length=ks.length+1
theorem z1a {k:ByteArray}(h:okK k=true):1≤k.size∧k.size≤40:=by
 unfold okK at h;simp at h;exact h
theorem y37 {k:ByteArray}(h:1≤k.size):blt ByteArray.empty k=true:=by
 rw[z4h];have e:=y6h k;show[]<bl k
 cases h2:bl k with
 | nil=>rw[h2] at e;simp at e;omega
 | cons x r=>exact List.nil_lt_cons x r
theorem y6l {ks:List ByteArray}{k:Nat}(h:y0p ks k)(h1:okK (sa ks k)=true)(h2:blt (y0a ks k) (sa ks k)=true):y0p ks (k+1):=fun i hi=>by
 rcases zng i k with h3|h3
 ·exact h i h3
 ·obtain rfl:i=k:=by omega
  exact⟨h1,h2⟩
theorem y38 {is:List Int}{k:Nat}(h:z69 is k)(h1:2≤ia is k∧ia is k≤1023)(h2:z5p is k):z69 is (k+1):=fun i hi=>by
 rcases zng i k with h3|h3
 ·exact h i h3
 ·obtain rfl:i=k:=by omega
  exact⟨h1,h2⟩
theorem x7m {ks:List ByteArray}{k:Nat}(hk:k<ks.length)(h:okK (sa ks k)=false∨blt (y0a ks k) (sa ks k)=false):¬z3j ks:=fun ha=>by
 have:=ha k hk
 rcases h with h|h
 ·rw[h] at this;cases this.1
 ·rw[h] at this;cases this.2
theorem x25 {is:List Int}{k:Nat}(hk:k<is.length)(h:¬(2≤ia is k∧ia is k≤1023)∨¬z5p is k):¬z88 is:=fun ha=>by
 have:=ha k hk
 rcases h with h|h
 ·exact h this.1
 ·exact h this.2
theorem x0i (ks:List ByteArray)(k:Nat):y0a ks (k+1)=sa ks k:=by
 unfold y0a;rw[if_neg (by omega),Nat.add_sub_cancel]
theorem x7n {ks:List ByteArray}(h:z3j ks)(i:Nat)(h0:0<i)(hi:i<ks.length):blt (sa ks (i-1)) (sa ks i)=true:=by
 have:=(h i hi).2;unfold y0a at this;rwa [if_neg (by omega)] at this
theorem x26 {ks:List ByteArray}(h:z3j ks):∀(j i:Nat),i<j→j<ks.length→blt (sa ks i) (sa ks j)=true
 | 0,i,h1,_=>by omega
 | j+1,i,h1,hj=>by
  have h2:=x7n h (j+1) (by omega) hj;rw[Nat.add_sub_cancel] at h2
  rcases zng i j with h3|h3
  ·exact z3q (x26 h j i h3 (by omega)) h2
  ·obtain rfl:i=j:=by omega
   exact h2
def twoP (p:Int):List Nat:=[p.toNat/256%256,p.toNat%256]
def pcF (k:ByteArray)(p:Int):List Nat:=vb k.size++(bn k++twoP p)
def putF (ks:List ByteArray)(is:List Int):Nat→List Nat
 | 0=>twoP (ia is 0)
 | k+1=>putF ks is k++pcF (sa ks k) (ia is (k+1))
def z2n (ks:List ByteArray)(is:List Int):List Nat:=putF ks is ks.length
theorem x27 (p:Int):B8 (twoP p):=fun x hx=>by
 unfold twoP at hx;simp at hx;omega
theorem q4g (k:ByteArray)(p:Int):B8 (pcF k p):=(x67 _).append ((x7b _).append (x27 p))
theorem x28 (ks:List ByteArray)(is:List Int):∀k,B8 (putF ks is k)
 | 0=>x27 _
 | k+1=>(x28 ks is k).append (q4g _ _)
theorem q10 (k:ByteArray)(p:Int)(h:k.size≤127):(pcF k p).length=3+k.size:=by
 have e:(vb k.size).length=1:=z1k (by omega);unfold pcF;rw[zla,zla,z2h,e];show 1+(k.size+2)=_;omega
def z1c (ks:List ByteArray):Nat→Nat
 | 0=>2
 | k+1=>z1c ks k+(3+(sa ks k).size)
theorem y1y {ks:List ByteArray}{is:List Int}(h:∀i,i<ks.length→(sa ks i).size≤127):∀k,k≤ks.length→(putF ks is k).length=z1c ks k
 | 0,_=>rfl
 | k+1,hk=>by
  rw[putF,zla,y1y h k (by omega),q10 _ _ (h k (by omega)),z1c]
theorem y0q {ks:List ByteArray}(h:z3j ks):∀i,i<ks.length→(sa ks i).size≤127:=fun i hi=>by
 have:=z1a (h i hi).1;omega
theorem y1z {ks:List ByteArray}{is:List Int}(h:z3j ks):(z2n ks is).length=z1c ks ks.length:=y1y (y0q h) _ (zlr _)
theorem y39 {ks:List ByteArray}(h:z3j ks):∀k,k≤ks.length→z1c ks k≤2+43*k
 | 0,_=>by rw[z1c];omega
 | k+1,hk=>by
  have:=z1a (h k (by omega)).1;have:=y39 h k (by omega);rw[z1c];omega
theorem z89 (ks:List ByteArray):∀(m k:Nat),k≤m→z1c ks k≤z1c ks m
 | 0,k,h=>by
  obtain rfl:k=0:=by omega
  exact zlr _
 | m+1,k,h=>by
  rcases zng k (m+1) with h1|h1
  ·have:=z89 ks m k (by omega);show _≤z1c ks m+_;omega
  ·obtain rfl:k=m+1:=by omega
   exact zlr _
open Classical in
/-- Encode's error and its bytes.-/
noncomputable def z7a (ks:List ByteArray) (is:List Int):Nat:=if mayF ks is then (if (z2n ks is).length≤504 then 0 else 5) else 1
noncomputable def y10 (ks:List ByteArray) (is:List Int):List Nat:=if z7a ks is=0 then z2n ks is else []
theorem q4h {ks:List ByteArray}{is:List Int}(h:¬mayF ks is):z7a ks is=1∧y10 ks is=[]:=by
 have:z7a ks is=1:=by unfold z7a;rw[if_neg h]
 exact⟨this,by unfold y10;rw[this];rfl⟩
theorem q4i {ks:List ByteArray}{is:List Int}(h:mayF ks is)(h3:504<(z2n ks is).length):z7a ks is=5∧y10 ks is=[]:=by
 have:z7a ks is=5:=by unfold z7a;rw[if_pos h,if_neg (by omega)]
 exact⟨this,by unfold y10;rw[this];rfl⟩
theorem q0a {ks:List ByteArray}{is:List Int}(h:mayF ks is)(h3:(z2n ks is).length≤504):z7a ks is=0∧y10 ks is=z2n ks is:=by
 have:z7a ks is=0:=by unfold z7a;rw[if_pos h,if_pos h3]
 exact⟨this,by unfold y10;rw[this];rfl⟩
def z2t (l:List Nat):Option (ByteArray×Int×List Nat):=
 let B:=z0g ⟨l,false⟩ 40
 if B.2.wr=true then none
 else if B.2.l.length<2 then none else some (bstr B.1,((B.2.l.getD 0 0*256+B.2.l.getD 1 0:Nat):Int),B.2.l.drop 2)
theorem y11 {l:List Nat}(h:(z0g ⟨l,false⟩ 40).2.wr=true):z2t l=none:=by unfold z2t;simp only;rw[if_pos h]
theorem z5q {l:List Nat}(h:(z0g ⟨l,false⟩ 40).2.l.length<2):z2t l=none:=by
 unfold z2t;simp only
 by_cases hw:(z0g ⟨l,false⟩ 40).2.wr=true
 ·rw[if_pos hw]
 ·rw[if_neg hw,if_pos h]
theorem z6f {l:List Nat}(h:(z0g ⟨l,false⟩ 40).2.wr=false)(h2:2≤(z0g ⟨l,false⟩ 40).2.l.length):
  z2t l=some (bstr (z0g ⟨l,false⟩ 40).1,(((z0g ⟨l,false⟩ 40).2.l.getD 0 0*256+(z0g ⟨l,false⟩ 40).2.l.getD 1 0:Nat):Int),(z0g ⟨l,false⟩ 40).2.l.drop 2):=by
 unfold z2t;simp only;rw[if_neg (by rw[h];simp),if_neg (by omega)]
theorem z9a {S:RS}{m:Nat}(h:(z0g S m).2.wr=false):(z0g S m).2.l.length<S.l.length:=by
 obtain⟨h1,h2,e⟩:=y33 h;obtain⟨e2,h3,_⟩:=y6c h1;have hl:=y8b S.l h3;rw[e];show(List.drop _ _).length<_;rw[zld,e2];show(List.drop _ _).length-_<_;rw[zld];omega
theorem y12 {l r:List Nat}{k:ByteArray}{p:Int}(h:z2t l=some (k,p,r)):r.length+2<l.length:=by
 cases hw:(z0g ⟨l,false⟩ 40).2.wr with
 | true=>rw[y11 hw] at h;cases h
 | false=>
  rcases Nat.lt_or_ge (z0g ⟨l,false⟩ 40).2.l.length 2 with h2|h2
  ·rw[z5q h2] at h;cases h
  ·rw[z6f hw h2] at h
   cases h
   have:=z9a hw;rw[zld];show _<l.length;have h3:(z0g ⟨l,false⟩ 40).2.l.length<l.length:=this;omega
theorem x29 {l r:List Nat}{k:ByteArray}{p:Int}(x:List Nat)(h:z2t l=some (k,p,r)):z2t (l++x)=some (k,p,r++x):=by
 cases hw:(z0g ⟨l,false⟩ 40).2.wr with
 | true=>rw[y11 hw] at h;cases h
 | false=>
  rcases Nat.lt_or_ge (z0g ⟨l,false⟩ 40).2.l.length 2 with h2|h2
  ·rw[z5q h2] at h;cases h
  ·rw[z6f hw h2] at h;have e1:=x0g x false hw;simp only at e1;rw[z6f (by rw[e1]) (by rw[e1];show 2≤(_++x).length;rw[zla];omega),e1];simp only
   cases h
   rw[List.drop_append_of_le_length h2,y8h _ _ _ (by omega),y8h _ _ _ (by omega)]
theorem x3a {k:ByteArray}{p:Int}(hk:okK k=true)(hp:2≤p∧p≤1023)(r:List Nat):z2t (pcF k p++r)=some (k,p,r):=by
 have h1:=z1a hk;have e:pcF k p++r=vb (bn k).length++(bn k++(twoP p++r)):=by
  unfold pcF;rw[z2h];simp only[List.append_assoc]
 have e1:=y0m (bn k) (twoP p++r) false 40 (by rw[z2h];omega) (by rw[z2h];omega);rw[e,z6f (by rw[e1]) (by rw[e1];show 2≤(twoP p++r).length;rw[zla];show 2≤2+_;omega),e1];simp only;have e3:((twoP p++r).getD 0 0*256+(twoP p++r).getD 1 0:Nat)=p.toNat:=by
  show p.toNat/256%256*256+p.toNat%256=_;omega
 have e4:((p.toNat:Nat):Int)=p:=by omega
 rw[e3,e4,z85]
 rfl
def decF:Nat→List Nat→Option (List ByteArray×List Int)
 | 0,l=>if l=[] then some ([],[]) else none
 | f+1,l=>if l=[] then some ([],[]) else match z2t l with
  | none=>none
  | some (k,p,r)=>(decF f r).map fun x=>(k::x.1,p::x.2)
theorem z8i (f:Nat):decF f []=some ([],[]):=by cases f<;>rfl
theorem y4a:∀(f g:Nat) (l:List Nat),l.length≤f→l.length≤g→decF f l=decF g l
 | 0,g,l,hf,_=>by
  obtain rfl:l=[]:=List.eq_nil_of_length_eq_zero (by omega);rw[z8i,z8i]
 | f+1,0,l,_,hg=>by
  obtain rfl:l=[]:=List.eq_nil_of_length_eq_zero (by omega);rw[z8i,z8i]
 | f+1,g+1,l,hf,hg=>by
  rw[decF,decF];split
  ·rfl
  ·cases h:z2t l with
   | none=>rfl
   | some x=>
    obtain⟨k,p,r⟩:=x;have:=y12 h;simp only;rw[y4a f g r (by omega) (by omega)]
def decR (l:List Nat):Option (List ByteArray×List Int):=decF l.length l
theorem z8j:decR []=some ([],[]):=rfl
theorem z9b {l:List Nat}(h0:l≠[])(h:z2t l=none):decR l=none:=by
 unfold decR
 cases hl:l.length with
 | zero=>exact absurd (List.eq_nil_of_length_eq_zero hl) h0
 | succ f=>rw[decF,if_neg h0,h]
theorem z6g {l r:List Nat}{k:ByteArray}{p:Int}(h:z2t l=some (k,p,r)):decR l=(decR r).map fun x=>(k::x.1,p::x.2):=by
 have hlt:=y12 h;unfold decR
 cases hl:l.length with
 | zero=>omega
 | succ f=>
  have h0:l≠[]:=fun e=>by rw[e] at hl;cases hl
  rw[decF,if_neg h0,h];simp only;rw[y4a f r.length r (by omega) (zlr _)]
theorem x7o (n:Nat):∀(l m:List Nat) (x:List ByteArray×List Int),l.length≤n→decR l=some x→decR (l++m)=(decR m).map fun y=>(x.1++y.1,x.2++y.2):=by
 induction n with
 | zero=>
  intro l m x hl h;obtain rfl:l=[]:=List.eq_nil_of_length_eq_zero (by omega);rw[z8j] at h
  cases h
  rw[List.nil_append]
  cases decR m<;>rfl
 | succ n ih=>
  intro l m x hl h
  by_cases h0:l=[]
  ·subst h0;rw[z8j] at h
   cases h
   rw[List.nil_append]
   cases decR m<;>rfl
  ·cases hp:z2t l with
   | none=>rw[z9b h0 hp] at h;cases h
   | some y=>
    obtain⟨k,p,r⟩:=y;have hlt:=y12 hp;rw[z6g hp] at h
    cases hr:decR r with
    | none=>rw[hr] at h;cases h
    | some z=>
     rw[hr] at h
     cases h
     rw[z6g (x29 m hp),ih r m z (by omega) hr]
     cases decR m<;>rfl
def z7z (l:List Nat):Int:=((l.getD 0 0*256+l.getD 1 0:Nat):Int)
open Classical in
/-- Decode's fork,if the bytes are a load.-/
noncomputable def z22 (l:List Nat):Option (List ByteArray×List Int):=
 if 504<l.length∨l.length<2 then none else match decR (l.drop 2) with
  | none=>none
  | some (ks,ps)=>if mayF ks (z7z l::ps) then some (ks,z7z l::ps) else none
theorem y4b {l:List Nat}(h:504<l.length∨l.length<2):z22 l=none:=by unfold z22;rw[if_pos h]
theorem y0r {l:List Nat}(h:decR (l.drop 2)=none):z22 l=none:=by
 unfold z22;rw[h];split<;>rfl
theorem x3b {l:List Nat}{ks:List ByteArray}{ps:List Int}(h:decR (l.drop 2)=some (ks,ps))(hm:¬mayF ks (z7z l::ps)):z22 l=none:=by
 unfold z22;rw[h];simp only;rw[if_neg hm];split<;>rfl
theorem y0s {l:List Nat}{ks:List ByteArray}{ps:List Int}(h1:l.length≤504)(h2:2≤l.length)(h:decR (l.drop 2)=some (ks,ps))(hm:mayF ks (z7z l::ps)):z22 l=some (ks,z7z l::ps):=by
 unfold z22;rw[if_neg (by omega),h];simp only;rw[if_pos hm]
noncomputable def y6m (l:List Nat):List ByteArray:=match z22 l with
 | none=> []
 | some x=>x.1
noncomputable def y6n (l:List Nat):List Int:=match z22 l with
 | none=> []
 | some x=>x.2
noncomputable def x0j (l:List Nat):Nat:=match z22 l with
 | none=>3
 | some _=>0
theorem y13 {l:List Nat}(h:z22 l=none):y6m l=[]∧y6n l=[]∧x0j l=3:=by unfold y6m y6n x0j;rw[h];exact⟨rfl,rfl,rfl⟩
theorem y8l {l:List Nat}{ks:List ByteArray}{is:List Int}(h:z22 l=some (ks,is)):y6m l=ks∧y6n l=is∧x0j l=0:=by unfold y6m y6n x0j;rw[h];exact⟨rfl,rfl,rfl⟩
theorem y14 (ks:List ByteArray)(is:List Int):∀k,∃m,putF ks is k=twoP (ia is 0)++m
 | 0=>⟨[],by rw[List.append_nil];rfl⟩
 | k+1=>by
  obtain⟨m,hm⟩:=y14 ks is k;exact⟨m++pcF (sa ks k) (ia is (k+1)),by rw[putF,hm,List.append_assoc]⟩
theorem x3c {p:Int}(h:2≤p∧p≤1023)(m:List Nat):z7z (twoP p++m)=p:=by
 show((p.toNat/256%256*256+p.toNat%256:Nat):Int)=p;omega
theorem y4c {l m:List Nat}(h:2≤l.length):(l++m).drop 2=l.drop 2++m:=List.drop_append_of_le_length h
theorem y8m {ks:List ByteArray}{is:List Int}(h:mayF ks is):∀k,k≤ks.length→decR ((putF ks is k).drop 2)=some (ks.take k,(is.drop 1).take k)
 | 0,_=>rfl
 | k+1,hk=>by
  obtain⟨hK,hP,h1,hl⟩:=h;have ih:=y8m ⟨hK,hP,h1,hl⟩ k (by omega);obtain⟨m,hm⟩:=y14 ks is k;have e:=x3a (hK k (by omega)).1 (hP (k+1) (by omega)).1 [];rw[List.append_nil] at e;have e2:=z6g e;rw[z8j] at e2;rw[putF,y4c (by rw[hm,zla];show 2≤2+_;omega),x7o _ _ _ _ (zlr _) ih,e2];have e3:(is.drop 1).take (k+1)=(is.drop 1).take k++[ia is (k+1)]:=by
   rw[List.take_succ_eq_append_getElem (by rw[zld];omega)];simp only[List.getElem_drop,ia,List.getD];rw[List.getElem?_eq_getElem (by omega)];simp[Nat.add_comm]
  rw[y6d ks k (by omega),e3]
  rfl
theorem q11 {is:List Int}(h:1≤is.length):ia is 0::is.drop 1=is:=by
 cases is with
 | nil=>simp at h
 | cons x r=>rfl
theorem x0k {ks:List ByteArray}{is:List Int}(h:mayF ks is)(hl:(z2n ks is).length≤504):z22 (z2n ks is)=some (ks,is):=by
 have e:=y8m h ks.length (zlr _);have h4:=h.2.2.2;rw[List.take_of_length_le (zlr _),List.take_of_length_le (by rw[zld];omega)] at e;obtain⟨m,hm⟩:=y14 ks is ks.length;have hf:z7z (z2n ks is)=ia is 0:=by unfold z2n;rw[hm];exact x3c (h.2.1 0 (by omega)).1 m
 have h2:2≤(z2n ks is).length:=by unfold z2n;rw[hm,zla];show 2≤2+_;omega
 have hc:=q11 (is:=is) (by omega);have:=y0s hl h2 e (by rw[hf,hc];exact h);rw[hf,hc] at this;exact this
def wayS:List ByteArray→ByteArray→Nat
 | [],_=>0
 | c::r,key=>if blt key c=true then 0 else wayS r key+1
theorem z9c:∀(cs:List ByteArray) (key:ByteArray),wayS cs key≤cs.length
 | [],_=>zlr _
 | c::r,key=>by
  have:=z9c r key;unfold wayS;split
  ·exact Nat.zero_le _
  ·rw[List.length_cons];omega
theorem y15:∀(cs:List ByteArray) (key:ByteArray) (i:Nat),i<wayS cs key→blt key (sa cs i)=false
 | [],_,i,h=>by simp[wayS] at h
 | c::r,key,i,h=>by
  unfold wayS at h;split at h
  ·omega
  ·rename_i h1
   cases i with
   | zero=>show blt key c=false;simpa using h1
   | succ i=>exact y15 r key i (by omega)
theorem y16:∀(cs:List ByteArray) (key:ByteArray),wayS cs key<cs.length→blt key (sa cs (wayS cs key))=true
 | [],_,h=>by simp at h
 | c::r,key,h=>by
  unfold wayS at h⊢
  split
  ·rename_i h1
   exact h1
  ·rename_i h1
   rw[if_neg h1,List.length_cons] at h;exact y16 r key (by omega)
theorem q12 {cs:List ByteArray}(ha:z3j cs)(key:ByteArray)(i:Nat)(hi:wayS cs key≤i)(hl:i<cs.length):blt key (sa cs i)=true:=by
 have h1:=y16 cs key (by omega)
 rcases Nat.lt_or_ge (wayS cs key) i with h2|h2
 ·exact z3q h1 (x26 ha i _ h2 hl)
 ·obtain rfl:i=wayS cs key:=by omega
  exact h1
end Go.Proofs.YtdnfhjfbanhhcaaGreatDoor
