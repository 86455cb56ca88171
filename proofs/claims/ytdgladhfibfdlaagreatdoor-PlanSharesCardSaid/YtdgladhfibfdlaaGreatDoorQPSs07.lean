/-
  Steps.
-/
import Derived.Test.YtdgladhfibfdlaaGreatDoorProg
import Derived.Lib.SliceRun
import Derived.Lib.AppendZerosOnto
import Derived.Test.YtdgladhfibfdlaaGreatDoorQPSs06
import Derived.Deep.Upon
namespace Go.Proofs.YtdgladhfibfdlaaGreatDoor
open Go Go.RowKit Tryz
set_option maxRecDepth 100000
theorem y36 (n:Nat)(w:World)(hn:n≤1099511627776):
  Calls prog 196 #[.slice none 0 0,.int .i64 n] w fun e w'=>∃v,e=.returned v∧w'.ownsRow w.heap.size 5 1 v 0 (bv [])∧zB w w':=by
 rcases Nat.eq_zero_or_pos n with h0|h0
 ·subst h0
  go_enter func196,ntmps196
  go_wp2;go_ret;exact⟨_,rfl,y8h _ _ _,zbr _ _⟩
 ·obtain⟨i0,hi,hz0,hz1,hz2⟩:=info_parts x08;have hold:(Builtin.firstCells i0.size 0 (.slice none 0 0)).run prog w.drew=.ok ([]:List Value).toArray w.drew:=run_firstCells_none w.drew i0.size 0 0 0;have hrun:=fun ty=>Lib.run_append_grow_zeros w 48 3 ty 5 i0 (.int .u8 0) .i64 .i64 underlying48 underlying3 hi hz0 none 0 0 [] hold n h0 (by omega) (by omega) (by omega)
   (by rw[hz2];omega) (growslice_fits (by omega) (by rw[hz2];omega))
  have hG1:n≤grownCap w (0+n) 0 5:=by have:=grownCap_ge w (0+n) 0 5;omega
  have hG2:=grownCap_le_maxLen w (0+n) 0 5 (by unfold maxLen;omega);generalize grownCap w (0+n) 0 5=G at*;have hG3:G≤9223372036854775807:=by unfold maxLen at hG2;omega
  rw[Nat.zero_add] at hrun;obtain⟨w1,hw1⟩:∃w1,w1=w.drew.alloc (.cells (([]:List Value).toArray++Builtin.zeroCells (Value.int .u8 0).cells n++Builtin.zeroCells (Value.int .u8 0).cells (G-n)) 5):=⟨_,rfl⟩
  have hown:w1.ownsRow w.heap.size 5 1 (.slice (some ⟨w.heap.size,0,none⟩) 0 G) 0 (bv []):=by
   rw[hw1];exact World.ownsRow_made w.drew _ G (zlr _) hG2 (by
    rw[Array.size_append,Array.size_append,size_zeroCells,size_zeroCells];show 0+n*1+(G-n)*1=G*1;omega)
  have hb:zB w w1:=by rw[hw1];exact(zbr _ _).drew.alloc (zlr _) _
  rw[←hw1] at hrun;have Hown:=zh hown;have Hb:=zh hb;clear hold hw1 hown hb hG2 hi hz0 hz1 hz2
  go_enter func196,ntmps196
  go_wp2_with (at_builtin;refine Lib.wpList_append_run _ rfl _ _ _ _ rfl _ _ rfl rfl _ _ (hrun _) ?_)
  all_goals (go_ret;exact⟨_,rfl,Hown.out,Hb.out⟩)
def z9f (w:World)(g:Nat)(es:List (List Nat)):Prop:=∀i,i<es.length→∃a c,w.cell? ⟨g,i,none⟩=some (.slice a (es.getD i []).length c)∧Src w a (es.getD i [])∧(a=none→c=0)
theorem z9f.below {w w':World}{g B:Nat}{es:List (List Nat)}(h:z9f w g es)(hb:Below B w w')(hB:w.heap.size≤B):z9f w' g es:=fun i hi=>by
 obtain⟨a,c,hc,hs,hz⟩:=h i hi;exact⟨a,c,by rw[hb.cell (p:=⟨g,i,none⟩) (Nat.lt_of_lt_of_le (block_lt_of_cell hc) hB)];exact hc,hs.below hb hB,hz⟩
def K9 (es:List (List Nat))(k:Nat):Nat:=(es.take k).flatten.length
theorem z4e (es:List (List Nat))(k:Nat)(h:k<es.length):(es.take (k+1)).flatten=(es.take k).flatten++es.getD k []:=by
 rw[List.take_succ_eq_append_getElem h,List.flatten_append];simp[List.getD,h]
theorem YI (es:List (List Nat))(k:Nat)(h:k<es.length):K9 es (k+1)=K9 es k+(es.getD k []).length:=by
 unfold K9;rw[z4e es k h,zla]
theorem z6p (es:List (List Nat))(k:Nat)(h:es.length≤k):K9 es k=es.flatten.length:=by unfold K9;rw[zlw h]
theorem qW (es:List (List Nat))(k:Nat):K9 es k≤es.flatten.length:=by
 unfold K9;have h:=congrArg List.length (congrArg List.flatten (List.take_append_drop k es));rw[List.flatten_append,zla] at h;omega
theorem z6q (g n c:Nat)(es:List (List Nat))(hn:es.length=n)(w:World)(hp:z9f w g es)(hl:es.flatten.length≤1099511627776)(hk:n≤65536):
  Calls prog 175 #[.slice (some ⟨g,0,none⟩) n c] w fun e w'=>∃v,e=.returned v∧Sl w' v es.flatten∧zB w w':=by
 have Hp:=zh hp;have Hn:=zh hn;have Hl:=zh hl;clear hp hn hl
 go_enter func175,ntmps175
 go_wp2_with fail
 go_loop [3,5,11] (fun s _ i=>∃k t:Nat,k≤n∧i=.int .i64 k∧s=.int .i64 t∧Hid (t=K9 es k)∧t≤1099511627776) (fun _ _ i=>n-(intOf i).toNat)
 case atStart=>exact⟨0,0,Nat.zero_le _,rfl,rfl,rfl,by omega⟩
 case round=>
  obtain⟨k,t,hkn,rfl,rfl,ht,ht1⟩:=hrel
  by_cases hlt:k<n
  ·obtain⟨a,c1,hc,_,_⟩:=Hp.out k (by rw[Hn.out];exact hlt);have hs:=YI es k (by rw[Hn.out];exact hlt);have hle:=qW es (k+1);have hll:=Hl.out;generalize (es.getD k []).length=m at*;have hm:t+m≤1099511627776:=by have:=ht.out;omega
   have ht2:Hid (t+m=K9 es (k+1)):=by show _=_;rw[hs,ht.out]
   have hd:decide ((t:Int)+(m:Int)<0)=false:=by simp;omega
   clear hs hle hll ht;go_wp2
   go_round
   case rel=>exact⟨k+1,t+m,by omega,by go_num,by go_num,ht2,hm⟩
   case measure=>simp[intOf];omega
  ·obtain rfl:k=n:=by omega
   have ht2:Hid (t=es.flatten.length):=by show _=_;rw[ht.out,z6p es k (by rw[Hn.out];exact zlr _)]
   clear ht hlt;go_wp2_with fail;refine(y36 t w ht1).mono ?_;rintro e w1 ⟨v1,rfl,hown1,hb1⟩;have Ho1:=zh hown1;have Hb1:=zh hb1;clear hown1 hb1;go_wp2_with fail
   go_loopw [6,8,27] (fun o _ i wr=>∃(k2:Nat) (ov:Value),k2≤k∧o=ov∧i=.int .i64 k2∧Hid (wr.ownsRow w.heap.size 5 1 ov (es.take k2).flatten.length (bv (es.take k2).flatten))∧Hid (zB w wr)) (fun _ _ i _=>k-(intOf i).toNat)
   case atStart=>exact⟨0,v1,Nat.zero_le _,rfl,rfl,by rw[List.take_zero];exact Ho1,Hb1⟩
   case round=>
    obtain⟨j,ov,hj,rfl,rfl,hown,hbel⟩:=hrel
    by_cases hlt:j<k
    ·obtain⟨a,c1,hc,hs,hz⟩:=(Hp.out.below hbel.out (zlr _)) j (by rw[Hn.out];exact hlt);have hcat:=z4e es j (by rw[Hn.out];exact hlt);have hlen:(es.take j).flatten.length+(es.getD j []).length≤140737488355328:=by
      have h1:=qW es (j+1);rw[YI es j (by rw[Hn.out];exact hlt)] at h1;have h2:=Hl.out;unfold K9 at h1;omega
     have Hs:=zh hs;have Hz:=zh hz;have Hcat:=zh hcat;clear hs hz hcat;have hsz:=hbel.out.size;generalize es.getD j []=M at*
     go_wp2_with (at_builtin;refine Jw rfl (.tmp 31) (.tmp 32) 48 rfl w.heap.size 5 underlying48 x08 _ (es.take j).flatten (by rfl) hown a c1 M (by rfl) Hz.out Hs.out hlen hsz ?_;intro v' w2 hown2 hgrow2 hnear2)
     have hb2:Hid (zB w w2):=hbel.out.grown hgrow2.out hsz (fun j hj=>(hown.out.lt j hj).1);have ho2:Hid (w2.ownsRow w.heap.size 5 1 v' (es.take (j+1)).flatten.length (bv (es.take (j+1)).flatten)):=by rw[Hcat.out];exact hown2
     clear hown2 hgrow2 hnear2 hown hbel;go_wp2
     go_roundw
     case rel=>exact⟨j+1,v',by omega,rfl,by go_num,ho2,hb2⟩
     case measure=>simp[intOf];omega
    ·obtain rfl:j=k:=by omega
     have ho:=Sl.own hown.out;rw[List.take_of_length_le (by rw[Hn.out];exact zlr _)] at ho;have ho:=zh ho;clear hown;go_wp2;go_ret;exact⟨_,rfl,ho.out,hbel.out⟩
def bn (s:ByteArray):List Nat:=(bl s).map UInt8.toNat
theorem z10 (s:ByteArray):(bl s).length=s.size:=by
 show s.data.toList.length=s.data.size;simp
theorem S8 (s:ByteArray):(bn s).length=s.size:=by unfold bn;rw[List.length_map,z10]
theorem y37 (s:ByteArray):B8 (bn s):=fun x hx=>by
 unfold bn at hx;obtain⟨y,_,rfl⟩:=List.mem_map.1 hx;exact UInt8.toNat_lt y
theorem z9g (l:List Nat):bl (Pj l)=l.map fun x=>UInt8.ofNat x:=by
 unfold Pj;rw[show bl (strOfNums (l.map fun x:Nat=>(x:Int)))=(strOfNums (l.map fun x:Nat=>(x:Int))).data.toList from rfl,strOfNums_data,List.map_map];apply List.map_congr_left;intro x _;simp
theorem YJ (s:ByteArray):Pj (bn s)=s:=by
 apply z3x;rw[z9g];unfold bn;rw[List.map_map]
 conv=>rhs;rw[←List.map_id (bl s)]
 apply List.map_congr_left;intro x _;simp
structure Ce where
 k:ByteArray
 v:ByteArray
 n:Int
 p:Int
instance :Inhabited Ce:=⟨⟨ByteArray.empty,ByteArray.empty,0,0⟩⟩
def ca (cs:List Ce)(i:Nat):Ce:=cs.getD i default
def plB (c:Ce):Bool:=if c.n≤64 then decide ((c.v.size:Int)=c.n∧c.p=0) else decide (c.v.size=0∧2≤c.p∧c.p≤1023)
def Nk (c:Ce):Bool:=okK c.k&&(decide (c.n≤2048)&&plB c)
theorem z4f {c:Ce}(h:Nk c=true):0≤c.n:=by
 unfold Nk plB at h
 by_cases h1:c.n≤64
 ·simp[h1] at h;omega
 ·omega
theorem z9h {c:Ce}(h:Nk c=true):c.n≤2048:=by
 unfold Nk at h;simp at h;exact h.2.1
theorem z9i {c:Ce}(h:Nk c=true):1≤c.k.size∧c.k.size≤40:=by
 unfold Nk okK at h;simp at h;exact h.1
theorem z9j {c:Ce}(h:Nk c=true)(h1:c.n≤64):(c.v.size:Int)=c.n∧c.p=0:=by
 unfold Nk plB at h;simp[h1] at h;exact h.2.2
theorem z9k {c:Ce}(h:Nk c=true)(h1:¬c.n≤64):c.v.size=0∧2≤c.p∧c.p≤1023:=by
 unfold Nk plB at h;simp[h1] at h;exact⟨by rw[h.2.2.1];rfl,h.2.2.2⟩
def Gz (c:Ce):List Nat:=if c.n≤64 then bn c.v else [c.p.toNat/256%256,c.p.toNat%256]
def qX (c:Ce):List Nat:=vb c.k.size++(bn c.k++(vb c.n.toNat++Gz c))
def Ej (k:ByteArray)(n:Int):Nat:=vs k.size+k.size+vs n.toNat+(if n≤64 then n.toNat else 2)
theorem KS {c:Ce}(h:Nk c=true):(qX c).length=Ej c.k c.n:=by
 have e1:(vb c.k.size).length=vs c.k.size:=rfl;have e2:(vb c.n.toNat).length=vs c.n.toNat:=rfl;unfold qX Ej Gz;rw[zla,zla,zla,S8,e1,e2]
 by_cases h1:c.n≤64
 ·have:=z9j h h1;rw[if_pos h1,if_pos h1,S8];omega
 ·rw[if_neg h1,if_neg h1];simp;omega
theorem y8v (c:Ce):B8 (Gz c):=by
 unfold Gz;split
 ·exact y37 _
 ·intro x hx;simp at hx;omega
theorem x1i (c:Ce):B8 (qX c):=(y32 _).append ((y37 _).append ((y32 _).append (y8v c)))
theorem y8w (c:Ce):1≤(qX c).length:=by
 have e1:(vb c.k.size).length=vs c.k.size:=rfl;have:=O1 c.k.size;unfold qX;rw[zla];omega
theorem z9l {c:Ce}(h:Nk c=true):Ej c.k c.n≤124:=by
 have:=z9i h;have:=z9h h;have h0:=z4f h;have h1:vs c.k.size≤10:=I9 (by omega);have h2:vs c.n.toNat≤10:=I9 (by omega);unfold Ej;split<;>omega
def Q6:List Ce→List Nat
 | []=> []
 | c::r=>qX c++Q6 r
theorem z9m (cs:List Ce)(c:Ce):Q6 (cs++[c])=Q6 cs++qX c:=by
 induction cs with
 | nil=>simp[Q6]
 | cons x r ih=>rw[List.cons_append,Q6,ih,Q6,List.append_assoc]
theorem z9n:∀cs:List Ce,B8 (Q6 cs)
 | []=>B8.nil
 | c::r=>(x1i c).append (z9n r)
theorem z4g:∀cs:List Ce,cs.length≤(Q6 cs).length
 | []=>zlr _
 | c::r=>by
  have:=y8w c;have:=z4g r;rw[Q6,zla,List.length_cons];omega
def Tj (cs:List Ce):List Nat:=vb cs.length++Q6 cs
theorem y8x (cs:List Ce):B8 (Tj cs):=(y32 _).append (z9n cs)
theorem Gj (cs:List Ce):(Tj cs).length=vs cs.length+(Q6 cs).length:=by
 unfold Tj;rw[zla];rfl
def z9o (cs:List Ce)(k:Nat):Nat:=(Q6 (cs.take k)).length
theorem z9p (cs:List Ce)(k:Nat)(h:k<cs.length):cs.take (k+1)=cs.take k++[ca cs k]:=by
 rw[List.take_succ_eq_append_getElem h];simp[ca,List.getD,h]
theorem qY (cs:List Ce)(k:Nat)(h:k<cs.length):Q6 (cs.take (k+1))=Q6 (cs.take k)++qX (ca cs k):=by
 rw[z9p cs k h,z9m]
theorem qZ (cs:List Ce)(k:Nat)(h:k<cs.length):z9o cs (k+1)=z9o cs k+(qX (ca cs k)).length:=by
 unfold z9o;rw[qY cs k h,zla]
theorem z4h (cs:List Ce)(k:Nat)(h:cs.length≤k):z9o cs k=(Q6 cs).length:=by unfold z9o;rw[zlw h]
theorem x1j (cs:List Ce)(i:Nat)(h:i<cs.length):ca cs i∈cs:=by
 unfold ca;simp[List.getD,h]
def Rz (cs:List Ce):Prop:=∀i,i<cs.length→Nk (ca cs i)=true
def YK (cs:List Ce)(k:Nat):Prop:=∀i,0<i→i<k→blt (ca cs (i-1)).k (ca cs i).k=true
def asc (cs:List Ce):Prop:=YK cs cs.length
theorem z6r {cs:List Ce}{k:Nat}(h:YK cs k)(h1:0<k→blt (ca cs (k-1)).k (ca cs k).k=true):YK cs (k+1):=fun i h0 hi=>by
 rcases zng i k with h2|h2
 ·exact h i h0 h2
 ·obtain rfl:i=k:=by omega
  exact h1 h0
theorem z9q {cs:List Ce}{k:Nat}(h0:0<k)(hk:k<cs.length)(h:blt (ca cs (k-1)).k (ca cs k).k=false):¬asc cs:=fun ha=>by
 have:=ha k h0 hk;rw[h] at this;cases this
theorem y8y {cs:List Ce}(h:Rz cs)(k:Nat)(hk:k≤cs.length):z9o cs k≤124*k:=by
 induction k with
 | zero=>show(Q6 (cs.take 0)).length≤_;simp[Q6]
 | succ k ih=>
  have h1:=KS (h k (by omega));have h2:=z9l (h k (by omega));rw[qZ cs k (by omega)];have:=ih (by omega);omega
theorem z9r (cs:List Ce)(k:Nat):z9o cs k≤(Q6 cs).length:=by
 unfold z9o;have h:=congrArg List.length (congrArg Q6 (List.take_append_drop k cs));have:∀a b:List Ce,Q6 (a++b)=Q6 a++Q6 b:=fun a b=>by
  induction a with
  | nil=>rfl
  | cons x r ih=>rw[List.cons_append,Q6,ih,Q6,List.append_assoc]
 rw[this,zla] at h;omega
open Classical in
/-- Encode's error.-/
noncomputable def z4i (cs:List Ce):Nat:=if Rz cs then (if asc cs then (if (Tj cs).length≤504 then 0 else 5) else 14) else 1
noncomputable def y38 (cs:List Ce):List Nat:=if z4i cs=0 then Tj cs else []
theorem x3f {cs:List Ce}(h:¬Rz cs):z4i cs=1∧y38 cs=[]:=by
 have:z4i cs=1:=by unfold z4i;rw[if_neg h]
 exact⟨this,by unfold y38;rw[this];rfl⟩
theorem x1k {cs:List Ce}(h:Rz cs)(h2:¬asc cs):z4i cs=14∧y38 cs=[]:=by
 have:z4i cs=14:=by unfold z4i;rw[if_pos h,if_neg h2]
 exact⟨this,by unfold y38;rw[this];rfl⟩
theorem x3g {cs:List Ce}(h:Rz cs)(h2:asc cs)(h3:504<(Tj cs).length):z4i cs=5∧y38 cs=[]:=by
 have:z4i cs=5:=by unfold z4i;rw[if_pos h,if_pos h2,if_neg (by omega)]
 exact⟨this,by unfold y38;rw[this];rfl⟩
theorem x1l {cs:List Ce}(h:Rz cs)(h2:asc cs)(h3:(Tj cs).length≤504):z4i cs=0∧y38 cs=Tj cs:=by
 have:z4i cs=0:=by unfold z4i;rw[if_pos h,if_pos h2,if_pos h3]
 exact⟨this,by unfold y38;rw[this];rfl⟩
def O5 (l:List Nat):Option (Ce×List Nat):=
 let B:=Z9 ⟨l,false⟩ 40
 let N:=X6 B.2 2048
 if N.2.wr=true then none
 else if N.1≤64 then (if N.1≤N.2.l.length then some (⟨Pj B.1,Pj (N.2.l.take N.1),N.1,0⟩,N.2.l.drop N.1) else none)
 else if 2≤N.2.l.length then some (⟨Pj B.1,ByteArray.empty,N.1,(N.2.l.getD 0 0*256+N.2.l.getD 1 0:Nat)⟩,N.2.l.drop 2) else none
def Mv:Nat→List Nat→Option (List Ce×List Nat)
 | 0,l=>some ([],l)
 | n+1,l=>match Mv n l with
  | none=>none
  | some (cs,r)=>match O5 r with
   | none=>none
   | some (c,r2)=>if Nk c=true then some (cs++[c],r2) else none
theorem z9s {n m:Nat}{l:List Nat}(h:Mv n l=none)(hm:n≤m):Mv m l=none:=by
 induction m with
 | zero=>
  obtain rfl:n=0:=by omega
  exact h
 | succ m ih=>
  rcases zng n (m+1) with h1|h1
  ·rw[Mv,ih (by omega)]
  ·obtain rfl:n=m+1:=by omega
   exact h
theorem ZG {n:Nat}{l r:List Nat}{cs:List Ce}(h:Mv n l=some (cs,r)):cs.length=n:=by
 induction n generalizing cs r with
 | zero=>rw[Mv] at h;cases h;rfl
 | succ n ih=>
  rw[Mv] at h;split at h
  ·cases h
  ·rename_i cs1 r1 h1
   split at h
   ·cases h
   ·split at h
    ·cases h
     rw[zla,ih h1];rfl
    ·cases h
theorem jA {n:Nat}{l r r2:List Nat}{cs:List Ce}{c:Ce}(h:Mv n l=some (cs,r))(hc:O5 r=some (c,r2))(hm:Nk c=true):Mv (n+1) l=some (cs++[c],r2):=by
 rw[Mv,h];simp only[hc,hm,if_true]
theorem YL {n:Nat}{l r:List Nat}{cs:List Ce}(h:Mv n l=some (cs,r))(hc:O5 r=none):Mv (n+1) l=none:=by
 rw[Mv,h];simp only[hc]
theorem z4j {n:Nat}{l r r2:List Nat}{cs:List Ce}{c:Ce}(h:Mv n l=some (cs,r))(hc:O5 r=some (c,r2))(hm:Nk c=false):Mv (n+1) l=none:=by
 rw[Mv,h];simp only[hc,hm];rfl
theorem z9t {n m:Nat}{l r r2:List Nat}{cs cs2:List Ce}(h:Mv n l=some (cs,r))(h2:Mv m l=some (cs2,r2))(hm:n≤m):cs2.take n=cs:=by
 induction m generalizing cs2 r2 with
 | zero=>
  obtain rfl:n=0:=by omega
  rw[Mv] at h;cases h;rfl
 | succ m ih=>
  rcases zng n (m+1) with h1|h1
  ·rw[Mv] at h2;split at h2
   ·cases h2
   ·rename_i cs1 r1 h3
    split at h2
    ·cases h2
    ·split at h2
     ·cases h2
      have hl:=ZG h3;rw[List.take_append_of_le_length (by omega)];exact ih h3 (by omega)
     ·cases h2
  ·obtain rfl:n=m+1:=by omega
   rw[h] at h2
   cases h2
   have hl:=ZG h;rw[List.take_of_length_le (by omega)]
theorem y39 {n:Nat}{l r:List Nat}{cs:List Ce}(h:Mv n l=some (cs,r)):∀c,c∈cs→Nk c=true:=by
 induction n generalizing cs r with
 | zero=>rw[Mv] at h;cases h;intro c hc;cases hc
 | succ n ih=>
  rw[Mv] at h;split at h
  ·cases h
  ·rename_i cs1 r1 h1
   split at h
   ·cases h
   ·split at h
    ·rename_i hm
     cases h
     intro c hc
     rcases List.mem_append.1 hc with h2|h2
     ·exact ih h1 c h2
     ·simp at h2;subst h2;exact hm
    ·cases h
open Classical in
/-- Decode's cells,if the bytes are a load.-/
noncomputable def L9 (l:List Nat):Option (List Ce):=
 if 504<l.length then none else if (X6 ⟨l,false⟩ 504).2.wr=true then none else match Mv (X6 ⟨l,false⟩ 504).1 (X6 ⟨l,false⟩ 504).2.l with
  | none=>none
  | some (cs,r)=>if r=[]∧asc cs then some cs else none
theorem z9u {l:List Nat}(h:504<l.length):L9 l=none:=by unfold L9;rw[if_pos h]
theorem y8z {l:List Nat}(h:(X6 ⟨l,false⟩ 504).2.wr=true):L9 l=none:=by
 unfold L9
 by_cases h1:504<l.length
 ·rw[if_pos h1]
 ·rw[if_neg h1,if_pos h]
theorem YM {l:List Nat}{k:Nat}(h:Mv k (X6 ⟨l,false⟩ 504).2.l=none)(hk:k≤(X6 ⟨l,false⟩ 504).1):L9 l=none:=by
 have:=z9s h hk;unfold L9;rw[this];split
 ·rfl
 ·split<;>rfl
theorem y4a {l r:List Nat}{cs:List Ce}{k:Nat}(h:Mv k (X6 ⟨l,false⟩ 504).2.l=some (cs,r))(hk:k≤(X6 ⟨l,false⟩ 504).1)(hn:¬asc cs):L9 l=none:=by
 unfold L9;split
 ·rfl
 split
 ·rfl
 cases hd:Mv (X6 ⟨l,false⟩ 504).1 (X6 ⟨l,false⟩ 504).2.l with
 | none=>rfl
 | some x=>
  obtain⟨cs2,r2⟩:=x;have e:=z9t h hd hk;have hl:=ZG h;simp only;rw[if_neg];rintro⟨_,ha⟩;refine hn fun i h0 hi=> ?_
  have hl2:=ZG hd;have e1:∀j,j<k→ca cs j=ca cs2 j:=fun j hj=>by
   unfold ca;rw[←e];simp[List.getD,hj]
  rw[e1 i (by omega),e1 (i-1) (by omega)];exact ha i h0 (by omega)
theorem z4k {l r:List Nat}{cs:List Ce}(h1:l.length≤504)(h2:(X6 ⟨l,false⟩ 504).2.wr=false)(h:Mv (X6 ⟨l,false⟩ 504).1 (X6 ⟨l,false⟩ 504).2.l=some (cs,r)):
  (r=[]→asc cs→L9 l=some cs)∧(r≠[]→L9 l=none)∧(¬asc cs→L9 l=none):=by
 unfold L9;rw[if_neg (by omega),if_neg (by rw[h2];simp),h];simp only;refine⟨fun h3 h4=>by rw[if_pos ⟨h3,h4⟩],fun h3=>by rw[if_neg (fun h=>h3 h.1)],fun h3=>by rw[if_neg (fun h=>h3 h.2)]⟩
theorem z4l:∀(l x:List Nat),T6 l≤T6 (l++x)
 | [],_=>Nat.zero_le _
 | y::r,x=>by
  have:=z4l r x;rw[List.cons_append];unfold T6;split<;>omega
theorem x1m {l:List Nat}(x:List Nat)(h:(gt l).2.2=0):gt (l++x)=gt l:=by
 have hl:=z4d l h;have hc:¬(9≤T6 l∧1<l.getD 9 0):=fun hx=>by rw[ZE hx.1 hx.2] at h;cases h
 have h2:¬l.length≤T6 l:=fun hx=>by
  have h3:(gt l).2.2=6:=by unfold gt;rw[if_neg hc,if_pos hx]
  omega
 have h3:¬(0<T6 l∧l.getD (T6 l) 0=0):=fun hx=>by
  have h3:(gt l).2.2=3:=by unfold gt;rw[if_neg hc,if_neg h2,if_pos hx]
  omega
 have e:gt l=(Ny (l.take (T6 l+1)),T6 l+1,0):=by unfold gt;rw[if_neg hc,if_neg h2,if_neg h3]
 have h9:T6 l≤9:=by
  rcases zng 9 (T6 l) with h4|h4
  ·have:=Jy l 9 h4;omega
  ·exact h4
 rw[e];have g:=YD l x (T6 l) (by omega);have:=KP l (by omega);have e2:=z89 (l:=l++x) (k:=T6 l) (z4l l x) (by rw[zla];omega) h9 (by rw[g];exact this) (fun hk=>by rw[g];rw[hk] at hc⊢;omega) (fun h0=>by rw[g];omega);rw[e2,List.take_append_of_le_length (by omega)]
theorem y4b {S:RS}{m:Nat}(x:List Nat)(b:Bool)(h:(X6 S m).2.wr=false):X6 ⟨S.l++x,b⟩ m=((X6 S m).1,⟨(X6 S m).2.l++x,false⟩):=by
 obtain⟨e,h1,h2⟩:=z9b h;have e2:=x1m x h1;have hl:=z4d _ h1;rw[Nu (by show(gt (S.l++x)).2.2=0;rw[e2];exact h1) (by show(gt (S.l++x)).1≤m;rw[e2];exact h2),e];show((gt (S.l++x)).1,RS.mk ((S.l++x).drop (gt (S.l++x)).2.1) false)=_;rw[e2,List.drop_append_of_le_length hl.2.1]
theorem jB {S:RS}{m:Nat}(h:(Z9 S m).2.wr=false):(X6 S m).2.wr=false∧(X6 S m).1≤(X6 S m).2.l.length∧Z9 S m=((X6 S m).2.l.take (X6 S m).1,⟨(X6 S m).2.l.drop (X6 S m).1,false⟩):=by
 by_cases hc:(X6 S m).2.wr=false∧(X6 S m).1≤(X6 S m).2.l.length
 ·exact⟨hc.1,hc.2,O3 hc.1 hc.2⟩
 ·rw[Ju hc] at h;cases h
theorem Gk {S:RS}{m:Nat}(h:(Z9 S m).2.wr=true):Z9 S m=([],⟨[],true⟩):=by
 by_cases hc:(X6 S m).2.wr=false∧(X6 S m).1≤(X6 S m).2.l.length
 ·rw[O3 hc.1 hc.2] at h;cases h
 ·exact Ju hc
theorem z6s {S:RS}{m:Nat}(x:List Nat)(b:Bool)(h:(Z9 S m).2.wr=false):Z9 ⟨S.l++x,b⟩ m=((Z9 S m).1,⟨(Z9 S m).2.l++x,false⟩):=by
 obtain⟨h1,h2,e⟩:=jB h;have e2:=y4b x b h1;rw[O3 (by rw[e2]) (by rw[e2];show _≤(_++x).length;rw[zla];omega),e,e2];show((_++x).take _,RS.mk ((_++x).drop _) false)=_;rw[List.take_append_of_le_length h2,List.drop_append_of_le_length h2]
theorem z11 {l r:List Nat}{c:Ce}(h:O5 l=some (c,r)):(Z9 ⟨l,false⟩ 40).2.wr=false∧(X6 (Z9 ⟨l,false⟩ 40).2 2048).2.wr=false:=by
 have h2:(X6 (Z9 ⟨l,false⟩ 40).2 2048).2.wr=false:=by
  cases hw:(X6 (Z9 ⟨l,false⟩ 40).2 2048).2.wr with
  | false=>rfl
  | true=>unfold O5 at h;simp only[hw,if_true] at h;cases h
 refine⟨?_,h2⟩
 cases hw:(Z9 ⟨l,false⟩ 40).2.wr with
 | false=>rfl
 | true=>
  rw[Gk hw] at h2;have:=y34 2048 (S:=⟨[],true⟩) rfl;rw[this] at h2
  cases h2
theorem z4m (l x:List Nat)(i:Nat)(h:i<l.length):(l++x).getD i 0=l.getD i 0:=YD l x i h
theorem y4c (s:ByteArray)(h:s.size=0):s=ByteArray.empty:=by
 apply z3x;have:=z10 s;rw[h] at this;rw[List.eq_nil_of_length_eq_zero this];rfl
theorem z9v {c:Ce}(h:Nk c=true)(r:List Nat):O5 (qX c++r)=some (c,r):=by
 obtain⟨k,v,n,p⟩:=c;have hk:=z9i h;have hn0:=z4f h;have hn:=z9h h;have e:qX ⟨k,v,n,p⟩++r=vb (bn k).length++(bn k++(vb n.toNat++(Gz ⟨k,v,n,p⟩++r))):=by
  unfold qX;rw[S8];simp only[List.append_assoc]
 have e1:=QV (bn k) (vb n.toNat++(Gz ⟨k,v,n,p⟩++r)) false 40 (by rw[S8];simp only at hk;omega) (by rw[S8];simp only at hk;omega);have e2:=KR n.toNat 2048 (Gz ⟨k,v,n,p⟩++r) false (by simp only at hn;omega) (by simp only at hn;omega);rw[e];unfold O5;simp only[e1,e2,Bool.false_eq_true,if_false];simp only at hn0 hn
 by_cases h1:n≤64
 ·have h2:=z9j h h1;simp only at h2;have et:Gz ⟨k,v,n,p⟩=bn v:=by unfold Gz;rw[if_pos h1]
  have el:(bn v).length=n.toNat:=by rw[S8];omega
  rw[et,if_pos (by omega),if_pos (by rw[zla];omega),←el,List.take_left,List.drop_left,YJ,YJ];have e3:(((bn v).length:Nat):Int)=n:=by rw[el];omega
  rw[e3,h2.2]
 ·have h2:=z9k h h1;simp only at h2;have et:Gz ⟨k,v,n,p⟩=[p.toNat/256%256,p.toNat%256]:=by unfold Gz;rw[if_neg h1]
  rw[et,if_neg (by omega),if_pos (by simp),YJ,y4c v h2.1];have e3:(([p.toNat/256%256,p.toNat%256]++r).getD 0 0*256+([p.toNat/256%256,p.toNat%256]++r).getD 1 0:Nat)=p.toNat:=by
   show p.toNat/256%256*256+p.toNat%256=_;omega
  have e4:((p.toNat:Nat):Int)=p:=by omega
  have e5:((n.toNat:Nat):Int)=n:=by omega
  rw[e3,e4,e5]
  rfl
theorem z9w (cs:List Ce)(k:Nat)(h:k<cs.length):cs.drop k=ca cs k::cs.drop (k+1):=by
 rw[List.drop_eq_getElem_cons h];simp[ca,List.getD,h]
theorem y4d {cs:List Ce}(h:Rz cs)(r:List Nat)(k:Nat)(hk:k≤cs.length):Mv k (Q6 cs++r)=some (cs.take k,Q6 (cs.drop k)++r):=by
 induction k with
 | zero=>rw[Mv];rfl
 | succ k ih=>
  have h1:=ih (by omega);have e:Q6 (cs.drop k)++r=qX (ca cs k)++(Q6 (cs.drop (k+1))++r):=by rw[z9w cs k (by omega),Q6,List.append_assoc]
  rw[z9p cs k (by omega)];exact jA h1 (by rw[e];exact z9v (h k (by omega)) _) (h k (by omega))
theorem z9x {cs:List Ce}(h:Rz cs)(ha:asc cs)(hl:(Tj cs).length≤504):L9 (Tj cs)=some cs:=by
 have hb:=z4g cs;have hll:=Gj cs;have e:=KR cs.length 504 (Q6 cs) false (by omega) (by omega);have e2:=y4d h [] cs.length (zlr _);rw[List.append_nil,List.append_nil,List.take_of_length_le (zlr _),List.drop_of_length_le (zlr _)] at e2;have:=z4k (l:=Tj cs) (r:=[]) (cs:=cs) hl (by unfold Tj;rw[e]) (by unfold Tj;rw[e];exact e2);exact this.1 rfl ha
theorem O6 {a b c:ByteArray}(h:blt a b=true)(k:blt b c=true):blt a c=true:=by
 rw[Jk] at*;grind
theorem y4e (a:ByteArray):blt a a=false:=by rw[Jv];grind
def Gv (S:RS):Nat→List Nat×RS
 | 0=>([],S)
 | n+1=>((Gv S n).1++[(KQ (Gv S n).2).1],(KQ (Gv S n).2).2)
theorem YN (l:List Nat):∀n,n≤l.length→Gv ⟨l,false⟩ n=(l.take n,⟨l.drop n,false⟩)
 | 0,_=>rfl
 | n+1,h=>by
  have h1:=YN l n (by omega);have hne:l.drop n≠[]:=fun hx=>by have:=congrArg List.length hx;rw[zld] at this;simp at this;omega
  rw[Gv,h1,z6n hne];simp only;rw[List.drop_drop,List.take_succ_eq_append_getElem (by omega:n<l.length)];simp[List.getD,List.getElem?_drop,show n<l.length by omega]
def tkS (S:RS):Ce×RS:=
 let B:=Z9 S 40
 let N:=X6 B.2 2048
 if N.1≤64 then (⟨Pj B.1,Pj (Gv N.2 N.1).1,N.1,0⟩,(Gv N.2 N.1).2)
 else (⟨Pj B.1,ByteArray.empty,N.1,(XZ (Gv N.2 2).1:Nat)⟩,(Gv N.2 2).2)
theorem y80 {l r:List Nat}{c:Ce}(h:O5 l=some (c,r)):tkS ⟨l,false⟩=(c,⟨r,false⟩):=by
 obtain⟨_,h2⟩:=z11 h;unfold O5 at h;unfold tkS;simp only at h⊢
 rw[h2] at h;have rs:∀x:RS,x.wr=false→x=⟨x.l,false⟩:=by rintro⟨a,b⟩ h;cases h;rfl
 have e:=rs _ h2;rw[e];generalize (X6 (Z9 ⟨l,false⟩ 40).2 2048).1=n at*;generalize (X6 (Z9 ⟨l,false⟩ 40).2 2048).2.l=q at*;simp only[Bool.false_eq_true,if_false] at h
 by_cases hn:n≤64
 ·rw[if_pos hn] at h⊢
  by_cases hq:n≤q.length
  ·rw[if_pos hq] at h
   cases h
   rw[YN q n hq]
  ·rw[if_neg hq] at h;cases h
 ·rw[if_neg hn] at h⊢
  by_cases hq:2≤q.length
  ·rw[if_pos hq] at h
   cases h
   rw[YN q 2 hq];have:XZ (q.take 2)=q.getD 0 0*256+q.getD 1 0:=by
    match q,hq with
    | a::b::t,_=>show(0*256+a)*256+b=_;simp
   rw[this]
  ·rw[if_neg hq] at h;cases h
structure Elt (α:Type) where
 sz:Nat
 by_:Nat
 zero:Value
 enc:α→List Value
 len:∀a,(enc a).length=sz
 one:∀a,∀u∈enc a,u.oneCell'=true
 pos:0<sz
 zc:zero.cells.size=sz
 ty:TypeId→Bool
def RT (w:World)(g:Nat)(ty:TypeId→Bool):Prop:=∃A T fz,w.heap[g]? =some (.cells A T fz)∧ty T=true
theorem RT.ext {w w':World}{g B:Nat}{ty:TypeId→Bool}(h:RT w g ty)(hb:Below B w w')(hB:w.heap.size≤B):RT w' g ty:=by
 obtain⟨A,T,fz,h1,h2⟩:=h;exact⟨A,T,fz,(hb.block g (Nat.lt_of_lt_of_le (zag.1 h1).1 hB)).trans h1,h2⟩
section
variable {α:Type} (E:Elt α)
def Elt.row:List α→List Value
 | []=> []
 | x::r=>E.enc x++Elt.row r
theorem Elt.row_app:∀(a b:List α),E.row (a++b)=E.row a++E.row b
 | [],_=>rfl
 | x::r,b=>by rw[List.cons_append,Elt.row,Elt.row,Elt.row_app r b,List.append_assoc]
theorem Elt.row_len:∀(l:List α),(E.row l).length=l.length*E.sz
 | []=>by simp[Elt.row]
 | x::r=>by rw[Elt.row,zla,E.len,Elt.row_len r,List.length_cons,Nat.add_mul,Nat.one_mul,Nat.add_comm]
theorem Elt.row_one:∀(l:List α),∀u∈E.row l,u.oneCell'=true
 | [],u,h=>by cases h
 | x::r,u,h=>by
  rw[Elt.row,List.mem_append] at h
  rcases h with h|h
  ·exact E.one x u h
  ·exact Elt.row_one r u h
theorem Elt.row_take (l:List α)(k j:Nat)(u:Value)(h:(E.row (l.take k))[j]? =some u):(E.row l)[j]? =some u:=by
 have e:E.row l=E.row (l.take k)++E.row (l.drop k):=by rw[←Elt.row_app,List.take_append_drop]
 rw[e,List.getElem?_append_left (List.getElem?_eq_some_iff.1 h).1];exact h
theorem Elt.row_drop (l:List α)(k j:Nat)(hk:k≤l.length)(u:Value)(h:(E.row (l.drop k))[j]? =some u):(E.row l)[k*E.sz+j]? =some u:=by
 have e:E.row l=E.row (l.take k)++E.row (l.drop k):=by rw[←Elt.row_app,List.take_append_drop]
 have e2:(E.row (l.take k)).length=k*E.sz:=by rw[Elt.row_len,zlk,Nat.min_eq_left hk]
 rw[e,List.getElem?_append_right (by omega),e2,Nat.add_sub_cancel_left];exact h
theorem Elt.row_at (l:List α)(i j:Nat)(x:α)(hi:l[i]? =some x)(hj:j<E.sz):(E.row l)[i*E.sz+j]? =(E.enc x)[j]? :=by
 have hl:i<l.length:=(List.getElem?_eq_some_iff.1 hi).1;have e:E.row l=E.row (l.take i)++(E.enc x++E.row (l.drop (i+1))):=by
  have h1:l=l.take i++x::l.drop (i+1):=by
   have h2:=List.getElem?_eq_some_iff.1 hi;obtain⟨_,rfl⟩:=h2;rw[←List.drop_eq_getElem_cons hl,List.take_append_drop]
  conv=>lhs;rw[h1]
  rw[Elt.row_app,Elt.row]
 have e2:(E.row (l.take i)).length=i*E.sz:=by rw[Elt.row_len,zlk,Nat.min_eq_left (by omega)]
 rw[e,List.getElem?_append_right (by omega),e2,Nat.add_sub_cancel_left,List.getElem?_append_left (by rw[E.len];exact hj)]
def ES (w:World)(a:Option Addr)(l:List α):Prop:=(a=none∧l=[])∨∃g o,a=some ⟨g,o,none⟩∧RT w g E.ty∧∀j u,(E.row l)[j]? =some u→w.cell? ⟨g,o+j,none⟩=some u
variable {E}
theorem ES.nil (w:World):ES E w none []:=.inl ⟨rfl,rfl⟩
theorem ES.at {w:World}{a:Option Addr}{l:List α}(h:ES E w a l)(h0:0<l.length):∃g o,a=some ⟨g,o,none⟩∧∀j u,(E.row l)[j]? =some u→w.cell? ⟨g,o+j,none⟩=some u:=by
 rcases h with ⟨_,rfl⟩|⟨g,o,h,_,hc⟩
 ·simp at h0
 ·exact⟨g,o,h,hc⟩
theorem ES.below {w w':World}{a:Option Addr}{l:List α}{B:Nat}(h:ES E w a l)(hb:Below B w w')(hB:w.heap.size≤B):ES E w' a l:=by
 rcases h with h|⟨g,o,rfl,ht,hc⟩
 ·exact .inl h
 ·exact .inr ⟨g,o,rfl,ht.ext hb hB,fun j u hu=>by have:=hc j u hu;rw[hb.cell (p:=⟨g,o+j,none⟩) (Nat.lt_of_lt_of_le (block_lt_of_cell this) hB)];exact this⟩
theorem ES.take {w:World}{a:Option Addr}{l:List α}(h:ES E w a l)(k:Nat):ES E w a (l.take k):=by
 rcases h with ⟨h,rfl⟩|⟨g,o,rfl,ht,hc⟩
 ·exact .inl ⟨h,by simp⟩
 ·exact .inr ⟨g,o,rfl,ht,fun j u hu=>hc j u (E.row_take l k j u hu)⟩
theorem ES.drop {w:World}{g o:Nat}{l:List α}(h:ES E w (some ⟨g,o,none⟩) l)(k q:Nat)(hk:k≤l.length)(hq:q=o+k*E.sz):ES E w (some ⟨g,q,none⟩) (l.drop k):=by
 rcases h with ⟨h,_⟩|⟨g',o',h,ht,hc⟩
 ·cases h
 ·cases h
  subst hq;exact .inr ⟨g,_,rfl,ht,fun j u hu=>by rw[Nat.add_assoc];exact hc _ u (E.row_drop l k j hk u hu)⟩
def EV (E:Elt α)(w:World)(v:Value)(l:List α):Prop:=∃a c,v=.slice a l.length c∧ES E w a l∧(a=none→c=0)∧l.length≤c∧c≤maxLen
theorem EV.below {w w':World}{v:Value}{l:List α}{B:Nat}(h:EV E w v l)(hb:Below B w w')(hB:w.heap.size≤B):EV E w' v l:=by
 obtain⟨a,c,rfl,hs,h1⟩:=h;exact⟨a,c,rfl,hs.below hb hB,h1⟩
theorem EV.ext {w w':World}{v:Value}{l:List α}(h:EV E w v l)(hb:zB w w'):EV E w' v l:=h.below hb (zlr _)
theorem EV.none (w:World):EV E w (.slice none 0 0) []:=⟨Option.none,0,rfl,ES.nil _,fun _=>rfl,zlr _,by unfold maxLen;omega⟩
theorem U3 {w:World}{B T:Nat}{v:Value}{l:List α}(h:w.ownsRow B T E.sz v l.length (E.row l))(hT:E.ty T=true:=by decide):EV E w v l:=by
 have h':=h;obtain⟨_,h2⟩:=h
 rcases h2 with ⟨rfl,h0⟩|⟨g,cap,cur,rfl,hb,hg,hnc,hcm,_⟩
 ·have:l=[]:=List.eq_nil_of_length_eq_zero h0;subst this;exact EV.none w
 ·refine⟨_,cap,rfl,.inr ⟨g,0,rfl,⟨_,_,_,hg,hT⟩,fun j u hu=> ?_⟩,(fun h=>by cases h),hnc,hcm⟩;have hj:j<l.length*E.sz:=by have:=(List.getElem?_eq_some_iff.1 hu).1;rwa [E.row_len] at this
  have:=h'.cellAt j hj;rw[Nat.zero_add,this];exact hu
theorem ES.lit {w:World}{g T:Nat}{l:List α}{m:Nat×Nat}(h:w.heap[g]? =some (.cells (E.row l).toArray T m))(hT:E.ty T=true:=by decide):ES E w (some ⟨g,0,Option.none⟩) l:=
 .inr ⟨g,0,rfl,⟨_,_,_,h,hT⟩,fun j u hu=>by simp[World.cell?,h,hu]⟩
theorem x1n {w:World}{g T:Nat}{l:List α}{m:Nat×Nat}(h:w.heap[g]? =some (.cells (E.row l).toArray T m))(hm:l.length≤maxLen)(hT:E.ty T=true:=by decide):EV E w (.slice (some ⟨g,0,Option.none⟩) l.length l.length) l:=
 ⟨_,_,rfl,.inr ⟨g,0,rfl,⟨_,_,_,h,hT⟩,fun j u hu=>by simp[World.cell?,h,hu]⟩,(fun h=>by cases h),zlr _,hm⟩
section
variable {P:Program} {w:World}
theorem y68 {t e:TypeId}(ht:P.underlying t=some (.slice e)){a:Option Addr}{n c:Nat}{l:List α}(hn:l.length=n)(hz:a=none→c=0∧n=0)(h:ES E w a l):Go.Src P E.sz t (.slice a n c) n (E.row l) w:=by
 rcases Nat.eq_zero_or_pos n with h0|h0
 ·obtain rfl:l=[]:=List.eq_nil_of_length_eq_zero (by omega);subst h0
  cases a with
  | none=>exact Go.Src.ofNil w ht c
  | some ad=>exact Go.Src.ofSlice w ht ad 0 c [] (by simp) (fun j u hu=>by simp at hu) (fun u hu=>by cases hu)
 ·obtain⟨g,o,rfl,hc⟩:=h.at (by omega);exact Go.Src.ofSlice w ht ⟨g,o,none⟩ n c (E.row l) (by rw[E.row_len,hn]) (fun j u hu=>by rw[U9];exact hc j u hu) (E.row_one l)
theorem Cq (t ty e:TypeId)(ht:P.underlying t=some (.slice e))(h2:(P.info? e).map (fun i=>(i.zero,i.size,i.bytes))=some (some E.zero,E.sz,E.by_))
  (a:Option Addr) (n:Nat) (l:List α) (hn:l.length=n) (hs:ES E w a l) (a2:Option Addr) (n2 c2:Nat) (m:List α) (hn2:m.length=n2) (hz2:a2=none→c2=0) (hm:ES E w a2 m)
  (h63:n+n2≤maxLen) (hby:(n+n2)*E.by_≤140737488355328):
  ∃v' w',(Builtin.append_ #[t,t] ty #[.slice a n n,.slice a2 n2 c2]).run P w=.ok v' w'∧zB w w'∧
   ((m=[]∧v'=.slice a n n∧w'=w)∨w'.ownsRow w.heap.size e E.sz v' (n+n2) (E.row (l++m))):=by
 obtain⟨i0,hi,hz,hs0,hb0⟩:=info_parts h2;have hzz:a2=none→c2=0∧n2=0:=fun h=>⟨hz2 h,by
  rcases Nat.eq_zero_or_pos n2 with h0|h0
  ·exact h0
  ·obtain⟨g,o,h3,_⟩:=hm.at (by omega);rw[h] at h3;cases h3⟩
 have hsrc:=y68 (P:=P) (w:=w) ht hn2 hzz hm;have hsmall:n+n2≤9223372036854775807:=by simp only[maxLen] at h63;omega
 rcases Nat.eq_zero_or_pos n2 with h0|h0
 ·obtain rfl:m=[]:=List.eq_nil_of_length_eq_zero (by omega);subst h0;exact⟨_,_,run_append_nothing w t t ty e i0 ht hi a n n (zlr _) _ (by rw[hs0];exact hsrc),zbr _ _,.inl ⟨rfl,rfl,rfl⟩⟩
 ·have hold:(Builtin.firstCells i0.size n (.slice a n n)).run P w.drew=.ok (E.row l).toArray w.drew:=by
   rcases Nat.eq_zero_or_pos n with h3|h3
   ·obtain rfl:l=[]:=List.eq_nil_of_length_eq_zero (by omega);subst h3
    cases a with
    | none=>exact run_firstCells_none w.drew i0.size 0 0 0
    | some ad=>exact run_firstCells_some w.drew i0.size 0 ad 0 0 [] (by simp) (fun j u hu=>by simp at hu)
   ·obtain⟨g,o,rfl,hc⟩:=hs.at (by omega);exact run_firstCells_some w.drew i0.size n ⟨g,o,none⟩ n n (E.row l) (by rw[E.row_len,hn,hs0]) (fun j u hu=>by rw[U9];exact hc j u hu)
  have hrun:=run_append_grow_src (P:=P) w t t ty e i0 E.zero ht hi hz a n n (E.row l) hold _ n2 (E.row m) (by rw[hs0];exact hsrc) (by omega) (by omega) (growslice_fits (by omega) (by rw[hb0];exact hby));have hG1:n+n2≤grownCap w (n+n2) n e:=grownCap_ge w (n+n2) n e;have hG2:=grownCap_le_maxLen w (n+n2) n e h63;refine⟨_,_,hrun,(zbr _ _).drew.alloc (zlr _) _,.inr ?_⟩;have hL:(E.row l++E.row m).length=(n+n2)*E.sz:=by rw[←Elt.row_app,Elt.row_len,zla,hn,hn2]
  rw[Elt.row_app];refine⟨hL,.inr ⟨w.heap.size,grownCap w (n+n2) n e,(E.row l++E.row m).toArray++Builtin.zeroCells E.zero.cells (grownCap w (n+n2) n e-(n+n2)),rfl,zlr _,?_,hG1,hG2,?_,?_⟩⟩
  ·show(w.drew.heap.push _)[w.heap.size]? =_;rw[show w.heap.size=w.drew.heap.size from rfl,Array.getElem?_push_size]
  ·rw[Array.size_append,List.size_toArray,hL,size_zeroCells,E.zc,←Nat.add_mul]
   congr 1
   omega
  ·rw[Array.toList_append,List.take_append_of_le_length (by rw[List.toList_toArray];omega),List.toList_toArray,List.take_of_length_le (by omega)]
theorem Xu (B:Nat)(t ty e:TypeId)(ht:P.underlying t=some (.slice e))(h2:(P.info? e).map (fun i=>(i.zero,i.size,i.bytes))=some (some E.zero,E.sz,E.by_))
  (v:Value) (n:Nat) (l:List α) (hs:w.ownsRow B e E.sz v n (E.row l)) (hB:B≤w.heap.size) (a2:Option Addr) (n2 c2:Nat) (m:List α) (hn2:m.length=n2) (hz2:a2=none→c2=0) (hm:ES E w a2 m)
  (h63:n+n2≤maxLen) (hby:(n+n2)*E.by_≤140737488355328):
  ∃v' w',(Builtin.append_ #[t,t] ty #[v,.slice a2 n2 c2]).run P w=.ok v' w'∧Below B w w'∧w'.ownsRow B e E.sz v' (n+n2) (E.row (l++m)):=by
 obtain⟨i0,hi,hz,hs0,hb0⟩:=info_parts h2
 rcases Nat.eq_zero_or_pos n2 with h0|h0
 ·obtain rfl:m=[]:=List.eq_nil_of_length_eq_zero (by omega);subst h0;have hzz:a2=none→c2=0∧(0:Nat)=0:=fun h=>⟨hz2 h,rfl⟩
  have hsrc:=y68 (P:=P) (w:=w) ht (show([]:List α).length=0 from rfl) hzz hm;rw[List.append_nil,Nat.add_zero];refine⟨v,w,?_,zbr _ _,hs⟩
  rcases hs.2 with ⟨rfl,h3⟩|⟨g,cap,cur,rfl,_,_,hnc,_⟩
  ·exact run_append_nothing w t t ty e i0 ht hi none 0 0 (zlr _) _ (by rw[hs0];exact hsrc)
  ·exact run_append_nothing w t t ty e i0 ht hi _ n cap hnc _ (by rw[hs0];exact hsrc)
 ·obtain⟨g,o,rfl,hc⟩:=hm.at (by omega);obtain⟨v',w',hr,h3,h4,_⟩:=run_append_own (P:=P) w B t ty e i0 E.zero E.sz E.by_ ht hi hz hs0 hb0 E.zc E.pos v n (E.row l) hs ⟨g,o,none⟩ n2 c2 (E.row m) (by rw[E.row_len,hn2]) (fun j u hu=>by rw[U9];exact hc j u hu) (E.row_one m) h63 hby hB;refine⟨v',w',hr,(zbr B w).grown h4 hB (fun k hk=>(hs.lt k hk).1),?_⟩;rw[Elt.row_app];exact h3
theorem Y8 {o:Oper}{ac:Act}{K:Act→World→Prop}{Q:Exit→Act→World→Prop}(s x:Operand)(t:TypeId)(ho:o.op=.call {callee:=.builtin .append,args:= #[s,x],argTypes:= #[t,t]})
  {v xv v':Value} {w':World} (hs:ac.eval s=v) (hx:ac.eval x=xv) (hr:(Builtin.append_ #[t,t] o.type #[v,xv]).run P w=.ok v' w') (h:K (ac.put o.dst v') w'):Oper.wp P o ac w K Q:=by
 unfold Oper.wp;simp[execOp,ho,resolve,invoke,builtin,hs,hx,hr,Result.andThen];exact h
theorem T7 (t ty ty2 e:TypeId)(ht:P.underlying t=some (.slice e))(h2:(P.info? e).map (fun i=>(i.zero,i.size,i.bytes))=some (some E.zero,E.sz,E.by_))
  (a:Option Addr) (n:Nat) (l:List α) (hn:l.length=n) (hs:ES E w a l) (a2:Option Addr) (n2 c2:Nat) (m:List α) (hn2:m.length=n2) (hz2:a2=none→c2=0) (hm:ES E w a2 m)
  (a3:Option Addr) (n3 c3:Nat) (r:List α) (hn3:r.length=n3) (hz3:a3=none→c3=0) (hr:ES E w a3 r)
  (h63:n+n2+n3≤maxLen) (hby:(n+n2+n3)*E.by_≤140737488355328) (he:E.ty e=true:=by decide):
  ∃v1 w1 v2 w2,(Builtin.append_ #[t,t] ty #[.slice a n n,.slice a2 n2 c2]).run P w=.ok v1 w1∧zB w w1∧
   (Builtin.append_ #[t,t] ty2 #[v1,.slice a3 n3 c3]).run P w1=.ok v2 w2∧Below w.heap.size w1 w2∧zB w w2∧EV E w2 v2 (l++(m++r)):=by
 have hmul:(n+n2)*E.by_≤(n+n2+n3)*E.by_:=Nat.mul_le_mul_right _ (by omega);obtain⟨v1,w1,h1,hb1,h4⟩:=Cq (P:=P) (w:=w) t ty e ht h2 a n l hn hs a2 n2 c2 m hn2 hz2 hm (by omega) (by omega)
 rcases h4 with ⟨rfl,rfl,rfl⟩|hown
 ·obtain rfl:n2=0:=hn2.symm;obtain⟨v2,w2,h5,hb2,h6⟩:=Cq (P:=P) (w:=w1) t ty2 e ht h2 a n l hn hs a3 n3 c3 r hn3 hz3 hr (by omega) (by simpa using hby);refine⟨_,_,v2,w2,h1,hb1,h5,hb2,hb2,?_⟩;rw[List.nil_append]
  rcases h6 with ⟨rfl,rfl,rfl⟩|h6
  ·refine⟨a,n,by rw[List.append_nil,hn],by rw[List.append_nil];exact hs,fun h=> ?_,by rw[List.append_nil];omega,by omega⟩
   rcases Nat.eq_zero_or_pos n with h0|h0
   ·exact h0
   ·obtain⟨g,o,h3,_⟩:=hs.at (by omega);rw[h] at h3;cases h3
  ·refine U3 (B:=w1.heap.size) (T:=e) ?_ he;rw[zla,hn,hn3];exact h6
 ·obtain⟨v2,w2,h5,hb2,h6⟩:=Xu (P:=P) (w:=w1) w.heap.size t ty2 e ht h2 v1 (n+n2) (l++m) hown hb1.size a3 n3 c3 r hn3 hz3 (hr.below hb1 (zlr _)) (by omega) hby;refine⟨v1,w1,v2,w2,h1,hb1,h5,hb2,hb1.trans hb2,?_⟩;refine U3 (B:=w.heap.size) (T:=e) ?_ he;rw[←List.append_assoc,zla,zla,hn,hn2,hn3];exact h6
end
end
theorem Y1 (W:World)(T:TypeId)(vs:Array Value):∃g W',W.heap.size=g∧W.alloc (.cells vs T)=W'∧W'.heap[g]? =some (.cells vs T (0,0))∧zB W W':=
 ⟨_,_,rfl,rfl,by show(W.heap.push _)[W.heap.size]? =_;rw[Array.getElem?_push_size],(zbr _ _).alloc (zlr _) _⟩
theorem Y7 (W:World)(T:TypeId)(vs:Array Value):(W.alloc (.cells vs T)).heap[W.heap.size]? =some (.cells vs T (0,0)):=by
 show(W.heap.push _)[W.heap.size]? =_;rw[Array.getElem?_push_size]
theorem z12 (w:World)(g:Nat)(cs:Array Value):Zx (fun i=>i=g) w (w.setRow g cs):=
 ⟨rfl,rfl,rfl,by simp[World.setRow],fun i _ hne=>setRow_other w g i cs hne⟩
theorem Gw {P:Program}{w:World}{o:Oper}{a:Act}{K:Act→World→Prop}{Q:Exit→Act→World→Prop}(d s:Operand)(dT sT:TypeId)
  (ho:o.op=.call {callee:=.builtin .copy,args:= #[d,s],argTypes:= #[dT,sT]}) (e:TypeId) (hu:P.underlying dT=some (.slice e)) (hsz:(P.info? e).map (·.size)=some 1)
  (g off dLen dCap:Nat) (sp:Option Addr) (sLen sCap:Nat) (cur l:List Nat) (hl:l.length=sLen) (hd:a.eval d=.slice (some ⟨g,off,none⟩) dLen dCap) (hs:a.eval s=.slice sp sLen sCap)
  (hrow:Row w g e cur) (hsrc:Src w sp l) (hfit:off+sLen≤cur.length) (hlen:sLen≤dLen) (hpos:0<sLen)
  (h:∀w',Row w' g e (splice cur off l)→Zx (fun i=>i=g) w w'→K (a.put o.dst (goInt sLen)) w'):Oper.wp P o a w K Q:=by
 subst hl;obtain⟨ad,rfl,hcs⟩:=hsrc.cells hpos;have hmin:(bv l).length=Nat.min l.length dLen:=by rw[Vy];exact(Nat.min_eq_left hlen).symm
 have hrun:=run_copy_row (P:=P) w dT sT o.type e g off dLen dCap ad l.length sCap (bv cur).toArray e (bv l) hu hsz hrow hmin hcs (by simpa [Vy] using hfit) (z8w l);rw[Vy] at hrun;unfold Oper.wp;simp only[execOp,ho,resolve,invoke,builtin];simp[hd,hs,hrun,Result.andThen];refine h _ ?_ (z12 _ _ _);show _=_;have:=setRow_heap w g (bv cur).toArray ((bv cur).take off++(bv l++(bv cur).drop (off+l.length))).toArray e (0,0) hrow;rw[←qM]
 simpa [splice,Vy] using this
theorem z4n (v s:Nat)(w:World)(hs1:1≤s)(hs:s≤64)(hv:v<18446744073709551616):
  Calls prog 168 #[.slice none 0 0,.int .u64 v,.int .i64 s] w fun e w'=>e=.returned (.slice (some ⟨w.heap.size,0,none⟩) s s)∧Row w' w.heap.size 5 (beL v s)∧zB w w':=by
 have h:=x1g none 0 [] v s w (by simp) hs1 hs hv (Src.nil _ _)
 simpa using h
end Go.Proofs.YtdgladhfibfdlaaGreatDoor
