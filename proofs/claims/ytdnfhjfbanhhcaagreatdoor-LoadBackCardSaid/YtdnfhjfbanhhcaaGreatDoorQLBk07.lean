/-
  Steps.
-/
import Derived.Test.YtdnfhjfbanhhcaaGreatDoorProg
import Derived.Test.YtdnfhjfbanhhcaaGreatDoorQLBk06
import Derived.Lib.AppendZerosOnto
import Derived.Deep.Upon
namespace Go.Proofs.YtdnfhjfbanhhcaaGreatDoor
open Go Go.RowKit
set_option maxRecDepth 100000 in
theorem x7a (n:Nat)(w:World)(hn:n≤1099511627776):
  Calls Tryz.prog 183 #[.slice none 0 0,.int .i64 n] w fun e w'=>∃v,e=.returned v∧w'.ownsRow w.heap.size 5 1 v 0 (bv [])∧Below w.heap.size w w':=by
 rcases Nat.eq_zero_or_pos n with h0|h0
 ·subst h0
  go_enter Tryz.func183,Tryz.ntmps183
  go_wp2;go_ret;exact⟨_,rfl,q1i _ _ _,zbr _ _⟩
 ·obtain⟨i0,hi,hz0,hz1,hz2⟩:=info_parts x66;have hold:(Builtin.firstCells i0.size 0 (.slice none 0 0)).run Tryz.prog w.drew=.ok ([]:List Value).toArray w.drew:=run_firstCells_none w.drew i0.size 0 0 0;have hrun:=fun ty=>Lib.run_append_grow_zeros w 46 3 ty 5 i0 (.int .u8 0) .i64 .i64 Tryz.underlying46 Tryz.underlying3 hi hz0 none 0 0 [] hold n h0 (by omega) (by omega) (by omega)
   (by rw[hz2];omega) (growslice_fits (by omega) (by rw[hz2];omega))
  have hG1:n≤grownCap w (0+n) 0 5:=by have:=grownCap_ge w (0+n) 0 5;omega
  have hG2:=grownCap_le_maxLen w (0+n) 0 5 (by unfold maxLen;omega);generalize grownCap w (0+n) 0 5=G at*;have hG3:G≤9223372036854775807:=by unfold maxLen at hG2;omega
  rw[Nat.zero_add] at hrun;obtain⟨w1,hw1⟩:∃w1,w1=w.drew.alloc (.cells (([]:List Value).toArray++Builtin.zeroCells (Value.int .u8 0).cells n++Builtin.zeroCells (Value.int .u8 0).cells (G-n)) 5):=⟨_,rfl⟩
  have hown:w1.ownsRow w.heap.size 5 1 (.slice (some ⟨w.heap.size,0,none⟩) 0 G) 0 (bv []):=by
   rw[hw1];exact World.ownsRow_made w.drew _ G (zlr _) hG2 (by
    rw[Array.size_append,Array.size_append,size_zeroCells,size_zeroCells];show 0+n*1+(G-n)*1=G*1;omega)
  have hb:Below w.heap.size w w1:=by rw[hw1];exact(zbr _ _).drew.alloc (zlr _) _
  rw[←hw1] at hrun;have Hown:=zh hown;have Hb:=zh hb;clear hold hw1 hown hb hG2 hi hz0 hz1 hz2
  go_enter Tryz.func183,Tryz.ntmps183
  go_wp2_with (at_builtin;refine Lib.wpList_append_run _ rfl _ _ _ _ rfl _ _ rfl rfl _ _ (hrun _) ?_)
  all_goals (go_ret;exact⟨_,rfl,Hown.out,Hb.out⟩)
def x2o (w:World)(g:Nat)(es:List (List Nat)):Prop:=∀i,i<es.length→∃a c,w.cell? ⟨g,i,none⟩=some (.slice a (es.getD i []).length c)∧Src w a (es.getD i [])∧(a=none→c=0)
theorem x2o.below {w w':World}{g B:Nat}{es:List (List Nat)}(h:x2o w g es)(hb:Below B w w')(hB:w.heap.size≤B):x2o w' g es:=fun i hi=>by
 obtain⟨a,c,hc,hs,hz⟩:=h i hi;exact⟨a,c,by rw[hb.cell (p:=⟨g,i,none⟩) (Nat.lt_of_lt_of_le (block_lt_of_cell hc) hB)];exact hc,hs.below hb hB,hz⟩
def z5l (es:List (List Nat))(k:Nat):Nat:=(es.take k).flatten.length
theorem y8c (es:List (List Nat))(k:Nat)(h:k<es.length):(es.take (k+1)).flatten=(es.take k).flatten++es.getD k []:=by
 rw[List.take_succ_eq_append_getElem h,List.flatten_append];simp[List.getD,h]
theorem z84 (es:List (List Nat))(k:Nat)(h:k<es.length):z5l es (k+1)=z5l es k+(es.getD k []).length:=by
 unfold z5l;rw[y8c es k h,zla]
theorem x0c (es:List (List Nat))(k:Nat)(h:es.length≤k):z5l es k=es.flatten.length:=by unfold z5l;rw[zlw h]
theorem y3x (es:List (List Nat))(k:Nat):z5l es k≤es.flatten.length:=by
 unfold z5l;have h:=congrArg List.length (congrArg List.flatten (List.take_append_drop k es));rw[List.flatten_append,zla] at h;omega
set_option maxRecDepth 100000 in
theorem x0d (g n c:Nat)(es:List (List Nat))(hn:es.length=n)(w:World)(hp:x2o w g es)(hl:es.flatten.length≤1099511627776)(hk:n≤65536):
  Calls Tryz.prog 162 #[.slice (some ⟨g,0,none⟩) n c] w fun e w'=>∃v,e=.returned v∧Sl w' v es.flatten∧Below w.heap.size w w':=by
 have Hp:=zh hp;have Hn:=zh hn;have Hl:=zh hl;clear hp hn hl
 go_enter Tryz.func162,Tryz.ntmps162
 go_wp2_with fail
 go_loop [3,5,11] (fun s _ i=>∃k t:Nat,k≤n∧i=.int .i64 k∧s=.int .i64 t∧Hid (t=z5l es k)∧t≤1099511627776) (fun _ _ i=>n-(intOf i).toNat)
 case atStart=>exact⟨0,0,Nat.zero_le _,rfl,rfl,rfl,by omega⟩
 case round=>
  obtain⟨k,t,hkn,rfl,rfl,ht,ht1⟩:=hrel
  by_cases hlt:k<n
  ·obtain⟨a,c1,hc,_,_⟩:=Hp.out k (by rw[Hn.out];exact hlt);have hs:=z84 es k (by rw[Hn.out];exact hlt);have hle:=y3x es (k+1);have hll:=Hl.out;generalize (es.getD k []).length=m at*;have hm:t+m≤1099511627776:=by have:=ht.out;omega
   have ht2:Hid (t+m=z5l es (k+1)):=by show _=_;rw[hs,ht.out]
   have hd:decide ((t:Int)+(m:Int)<0)=false:=by simp;omega
   clear hs hle hll ht;go_wp2
   go_round
   case rel=>exact⟨k+1,t+m,by omega,by go_num,by go_num,ht2,hm⟩
   case measure=>simp[intOf];omega
  ·obtain rfl:k=n:=by omega
   have ht2:Hid (t=es.flatten.length):=by show _=_;rw[ht.out,x0c es k (by rw[Hn.out];exact zlr _)]
   clear ht hlt;go_wp2_with fail;refine(x7a t w ht1).mono ?_;rintro e w1 ⟨v1,rfl,hown1,hb1⟩;have Ho1:=zh hown1;have Hb1:=zh hb1;clear hown1 hb1;go_wp2_with fail
   go_loopw [6,8,27] (fun o _ i wr=>∃(k2:Nat) (ov:Value),k2≤k∧o=ov∧i=.int .i64 k2∧Hid (wr.ownsRow w.heap.size 5 1 ov (es.take k2).flatten.length (bv (es.take k2).flatten))∧Hid (Below w.heap.size w wr)) (fun _ _ i _=>k-(intOf i).toNat)
   case atStart=>exact⟨0,v1,Nat.zero_le _,rfl,rfl,by rw[List.take_zero];exact Ho1,Hb1⟩
   case round=>
    obtain⟨j,ov,hj,rfl,rfl,hown,hbel⟩:=hrel
    by_cases hlt:j<k
    ·obtain⟨a,c1,hc,hs,hz⟩:=(Hp.out.below hbel.out (zlr _)) j (by rw[Hn.out];exact hlt);have hcat:=y8c es j (by rw[Hn.out];exact hlt);have hlen:(es.take j).flatten.length+(es.getD j []).length≤140737488355328:=by
      have h1:=y3x es (j+1);rw[z84 es j (by rw[Hn.out];exact hlt)] at h1;have h2:=Hl.out;unfold z5l at h1;omega
     have Hs:=zh hs;have Hz:=zh hz;have Hcat:=zh hcat;clear hs hz hcat;have hsz:=hbel.out.size;generalize es.getD j []=M at*
     go_wp2_with (at_builtin;refine z2z rfl (.tmp 31) (.tmp 32) 46 rfl w.heap.size 5 Tryz.underlying46 x66 _ (es.take j).flatten (by rfl) hown a c1 M (by rfl) Hz.out Hs.out hlen hsz ?_;intro v' w2 hown2 hgrow2 hnear2)
     have hb2:Hid (Below w.heap.size w w2):=hbel.out.grown hgrow2.out hsz (fun j hj=>(hown.out.lt j hj).1);have ho2:Hid (w2.ownsRow w.heap.size 5 1 v' (es.take (j+1)).flatten.length (bv (es.take (j+1)).flatten)):=by rw[Hcat.out];exact hown2
     clear hown2 hgrow2 hnear2 hown hbel;go_wp2
     go_roundw
     case rel=>exact⟨j+1,v',by omega,rfl,by go_num,ho2,hb2⟩
     case measure=>simp[intOf];omega
    ·obtain rfl:j=k:=by omega
     have ho:=Sl.own hown.out;rw[List.take_of_length_le (by rw[Hn.out];exact zlr _)] at ho;have ho:=zh ho;clear hown;go_wp2;go_ret;exact⟨_,rfl,ho.out,hbel.out⟩
def bn (s:ByteArray):List Nat:=(bl s).map UInt8.toNat
theorem y6h (s:ByteArray):(bl s).length=s.size:=by
 show s.data.toList.length=s.data.size;simp
theorem z2h (s:ByteArray):(bn s).length=s.size:=by unfold bn;rw[List.length_map,y6h]
theorem x7b (s:ByteArray):B8 (bn s):=fun x hx=>by
 unfold bn at hx;obtain⟨y,_,rfl⟩:=List.mem_map.1 hx;exact UInt8.toNat_lt y
theorem x2p (l:List Nat):bl (bstr l)=l.map fun x=>UInt8.ofNat x:=by
 unfold bstr;rw[show bl (strOfNums (l.map fun x:Nat=>(x:Int)))=(strOfNums (l.map fun x:Nat=>(x:Int))).data.toList from rfl,strOfNums_data,List.map_map];apply List.map_congr_left;intro x _;simp
theorem z85 (s:ByteArray):bstr (bn s)=s:=by
 apply y7w;rw[x2p];unfold bn;rw[List.map_map]
 conv=>rhs;rw[←List.map_id (bl s)]
 apply List.map_congr_left;intro x _;simp
structure Ce where
 k:ByteArray
 v:ByteArray
 n:Int
 p:Int
instance :Inhabited Ce:=⟨⟨ByteArray.empty,ByteArray.empty,0,0⟩⟩
def ca (cs:List Ce)(i:Nat):Ce:=cs.getD i default
def plB (c:Ce):Bool:=if c.n≤64 then decide ((c.v.size:Int)=c.n∧c.p=0) else decide (c.v.size=0∧2≤c.p∧c.p≤1023)
def mayB (c:Ce):Bool:=okK c.k&&(decide (c.n≤2048)&&plB c)
theorem y3y {c:Ce}(h:mayB c=true):0≤c.n:=by
 unfold mayB plB at h
 by_cases h1:c.n≤64
 ·simp[h1] at h;omega
 ·omega
theorem x2q {c:Ce}(h:mayB c=true):c.n≤2048:=by
 unfold mayB at h;simp at h;exact h.2.1
theorem x7c {c:Ce}(h:mayB c=true):1≤c.k.size∧c.k.size≤40:=by
 unfold mayB okK at h;simp at h;exact h.1
theorem x2r {c:Ce}(h:mayB c=true)(h1:c.n≤64):(c.v.size:Int)=c.n∧c.p=0:=by
 unfold mayB plB at h;simp[h1] at h;exact h.2.2
theorem x2s {c:Ce}(h:mayB c=true)(h1:¬c.n≤64):c.v.size=0∧2≤c.p∧c.p≤1023:=by
 unfold mayB plB at h;simp[h1] at h;exact⟨by rw[h.2.2.1];rfl,h.2.2.2⟩
def z6c (c:Ce):List Nat:=if c.n≤64 then bn c.v else [c.p.toNat/256%256,c.p.toNat%256]
def oneS (c:Ce):List Nat:=vb c.k.size++(bn c.k++(vb c.n.toNat++z6c c))
def z32 (k:ByteArray)(n:Int):Nat:=vs k.size+k.size+vs n.toNat+(if n≤64 then n.toNat else 2)
theorem y1v {c:Ce}(h:mayB c=true):(oneS c).length=z32 c.k c.n:=by
 have e1:(vb c.k.size).length=vs c.k.size:=rfl;have e2:(vb c.n.toNat).length=vs c.n.toNat:=rfl;unfold oneS z32 z6c;rw[zla,zla,zla,z2h,e1,e2]
 by_cases h1:c.n≤64
 ·have:=x2r h h1;rw[if_pos h1,if_pos h1,z2h];omega
 ·rw[if_neg h1,if_neg h1];simp;omega
theorem q1s (c:Ce):B8 (z6c c):=by
 unfold z6c;split
 ·exact x7b _
 ·intro x hx;simp at hx;omega
theorem q4b (c:Ce):B8 (oneS c):=(x67 _).append ((x7b _).append ((x67 _).append (q1s c)))
theorem q1t (c:Ce):1≤(oneS c).length:=by
 have e1:(vb c.k.size).length=vs c.k.size:=rfl;have:=z3n c.k.size;unfold oneS;rw[zla];omega
theorem x2t {c:Ce}(h:mayB c=true):z32 c.k c.n≤124:=by
 have:=x7c h;have:=x2q h;have h0:=y3y h;have h1:vs c.k.size≤10:=z6a (by omega);have h2:vs c.n.toNat≤10:=z6a (by omega);unfold z32;split<;>omega
def body:List Ce→List Nat
 | []=> []
 | c::r=>oneS c++body r
theorem x2u (cs:List Ce)(c:Ce):body (cs++[c])=body cs++oneS c:=by
 induction cs with
 | nil=>simp[body]
 | cons x r ih=>rw[List.cons_append,body,ih,body,List.append_assoc]
theorem x2v:∀cs:List Ce,B8 (body cs)
 | []=>B8.nil
 | c::r=>(q4b c).append (x2v r)
theorem y8d:∀cs:List Ce,cs.length≤(body cs).length
 | []=>zlr _
 | c::r=>by
  have:=q1t c;have:=y8d r;rw[body,zla,List.length_cons];omega
def z10 (cs:List Ce):List Nat:=vb cs.length++body cs
theorem q1u (cs:List Ce):B8 (z10 cs):=(x67 _).append (x2v cs)
theorem z6d (cs:List Ce):(z10 cs).length=vs cs.length+(body cs).length:=by
 unfold z10;rw[zla];rfl
def sums (cs:List Ce)(k:Nat):Nat:=(body (cs.take k)).length
theorem x2w (cs:List Ce)(k:Nat)(h:k<cs.length):cs.take (k+1)=cs.take k++[ca cs k]:=by
 rw[List.take_succ_eq_append_getElem h];simp[ca,List.getD,h]
theorem y3z (cs:List Ce)(k:Nat)(h:k<cs.length):body (cs.take (k+1))=body (cs.take k)++oneS (ca cs k):=by
 rw[x2w cs k h,x2u]
theorem y30 (cs:List Ce)(k:Nat)(h:k<cs.length):sums cs (k+1)=sums cs k+(oneS (ca cs k)).length:=by
 unfold sums;rw[y3z cs k h,zla]
theorem y8e (cs:List Ce)(k:Nat)(h:cs.length≤k):sums cs k=(body cs).length:=by unfold sums;rw[zlw h]
theorem x98 (cs:List Ce)(i:Nat)(h:i<cs.length):ca cs i∈cs:=by
 unfold ca;simp[List.getD,h]
def z2k (cs:List Ce):Prop:=∀i,i<cs.length→mayB (ca cs i)=true
def x0e (cs:List Ce)(k:Nat):Prop:=∀i,0<i→i<k→blt (ca cs (i-1)).k (ca cs i).k=true
def asc (cs:List Ce):Prop:=x0e cs cs.length
theorem x0f {cs:List Ce}{k:Nat}(h:x0e cs k)(h1:0<k→blt (ca cs (k-1)).k (ca cs k).k=true):x0e cs (k+1):=fun i h0 hi=>by
 rcases zng i k with h2|h2
 ·exact h i h0 h2
 ·obtain rfl:i=k:=by omega
  exact h1 h0
theorem q1v {cs:List Ce}{k:Nat}(h0:0<k)(hk:k<cs.length)(h:blt (ca cs (k-1)).k (ca cs k).k=false):¬asc cs:=fun ha=>by
 have:=ha k h0 hk;rw[h] at this;cases this
theorem q1w {cs:List Ce}(h:z2k cs)(k:Nat)(hk:k≤cs.length):sums cs k≤124*k:=by
 induction k with
 | zero=>show(body (cs.take 0)).length≤_;simp[body]
 | succ k ih=>
  have h1:=y1v (h k (by omega));have h2:=x2t (h k (by omega));rw[y30 cs k (by omega)];have:=ih (by omega);omega
theorem x2x (cs:List Ce)(k:Nat):sums cs k≤(body cs).length:=by
 unfold sums;have h:=congrArg List.length (congrArg body (List.take_append_drop k cs));have:∀a b:List Ce,body (a++b)=body a++body b:=fun a b=>by
  induction a with
  | nil=>rfl
  | cons x r ih=>rw[List.cons_append,body,ih,body,List.append_assoc]
 rw[this,zla] at h;omega
open Classical in
/-- Encode's error.-/
noncomputable def encE (cs:List Ce):Nat:=if z2k cs then (if asc cs then (if (z10 cs).length≤504 then 0 else 5) else 14) else 1
noncomputable def encB (cs:List Ce):List Nat:=if encE cs=0 then z10 cs else []
theorem enc_1 {cs:List Ce}(h:¬z2k cs):encE cs=1∧encB cs=[]:=by
 have:encE cs=1:=by unfold encE;rw[if_neg h]
 exact⟨this,by unfold encB;rw[this];rfl⟩
theorem q4c {cs:List Ce}(h:z2k cs)(h2:¬asc cs):encE cs=14∧encB cs=[]:=by
 have:encE cs=14:=by unfold encE;rw[if_pos h,if_neg h2]
 exact⟨this,by unfold encB;rw[this];rfl⟩
theorem enc_5 {cs:List Ce}(h:z2k cs)(h2:asc cs)(h3:504<(z10 cs).length):encE cs=5∧encB cs=[]:=by
 have:encE cs=5:=by unfold encE;rw[if_pos h,if_pos h2,if_neg (by omega)]
 exact⟨this,by unfold encB;rw[this];rfl⟩
theorem q4d {cs:List Ce}(h:z2k cs)(h2:asc cs)(h3:(z10 cs).length≤504):encE cs=0∧encB cs=z10 cs:=by
 have:encE cs=0:=by unfold encE;rw[if_pos h,if_pos h2,if_pos h3]
 exact⟨this,by unfold encB;rw[this];rfl⟩
def z5f (l:List Nat):Option (Ce×List Nat):=
 let B:=z0g ⟨l,false⟩ 40
 let N:=numS B.2 2048
 if N.2.wr=true then none
 else if N.1≤64 then (if N.1≤N.2.l.length then some (⟨bstr B.1,bstr (N.2.l.take N.1),N.1,0⟩,N.2.l.drop N.1) else none)
 else if 2≤N.2.l.length then some (⟨bstr B.1,ByteArray.empty,N.1,(N.2.l.getD 0 0*256+N.2.l.getD 1 0:Nat)⟩,N.2.l.drop 2) else none
def decN:Nat→List Nat→Option (List Ce×List Nat)
 | 0,l=>some ([],l)
 | n+1,l=>match decN n l with
  | none=>none
  | some (cs,r)=>match z5f r with
   | none=>none
   | some (c,r2)=>if mayB c=true then some (cs++[c],r2) else none
theorem x2y {n m:Nat}{l:List Nat}(h:decN n l=none)(hm:n≤m):decN m l=none:=by
 induction m with
 | zero=>
  obtain rfl:n=0:=by omega
  exact h
 | succ m ih=>
  rcases zng n (m+1) with h1|h1
  ·rw[decN,ih (by omega)]
  ·obtain rfl:n=m+1:=by omega
   exact h
theorem y31 {n:Nat}{l r r2:List Nat}{cs:List Ce}{c:Ce}(h:decN n l=some (cs,r))(hc:z5f r=some (c,r2))(hm:mayB c=true):decN (n+1) l=some (cs++[c],r2):=by
 rw[decN,h];simp only[hc,hm,if_true]
theorem y32 {n:Nat}{l r:List Nat}{cs:List Ce}(h:decN n l=some (cs,r))(hc:z5f r=none):decN (n+1) l=none:=by
 rw[decN,h];simp only[hc]
theorem x7d {n:Nat}{l r r2:List Nat}{cs:List Ce}{c:Ce}(h:decN n l=some (cs,r))(hc:z5f r=some (c,r2))(hm:mayB c=false):decN (n+1) l=none:=by
 rw[decN,h];simp only[hc,hm];rfl
theorem x7e {n:Nat}{l r:List Nat}{cs:List Ce}(h:decN n l=some (cs,r)):∀c,c∈cs→mayB c=true:=by
 induction n generalizing cs r with
 | zero=>rw[decN] at h;cases h;intro c hc;cases hc
 | succ n ih=>
  rw[decN] at h;split at h
  ·cases h
  ·rename_i cs1 r1 h1
   split at h
   ·cases h
   ·split at h
    ·rename_i hm
     cases h
     intro c hc
     rcases List.mem_append.1 hc with h2|h2
     ·exact ih h1 c h2
     ·simp at h2;subst h2;exact hm
    ·cases h
open Classical in
/-- Decode's cells,if the bytes are a load.-/
noncomputable def decS (l:List Nat):Option (List Ce):=
 if 504<l.length then none else if (numS ⟨l,false⟩ 504).2.wr=true then none else match decN (numS ⟨l,false⟩ 504).1 (numS ⟨l,false⟩ 504).2.l with
  | none=>none
  | some (cs,r)=>if r=[]∧asc cs then some cs else none
theorem x2z {l:List Nat}(h:504<l.length):decS l=none:=by unfold decS;rw[if_pos h]
theorem q1x {l:List Nat}(h:(numS ⟨l,false⟩ 504).2.wr=true):decS l=none:=by
 unfold decS
 by_cases h1:504<l.length
 ·rw[if_pos h1]
 ·rw[if_neg h1,if_pos h]
theorem z86 {l:List Nat}{k:Nat}(h:decN k (numS ⟨l,false⟩ 504).2.l=none)(hk:k≤(numS ⟨l,false⟩ 504).1):decS l=none:=by
 have:=x2y h hk;unfold decS;rw[this];split
 ·rfl
 ·split<;>rfl
theorem y8f {l r:List Nat}{cs:List Ce}(h1:l.length≤504)(h2:(numS ⟨l,false⟩ 504).2.wr=false)(h:decN (numS ⟨l,false⟩ 504).1 (numS ⟨l,false⟩ 504).2.l=some (cs,r)):
  (r=[]→asc cs→decS l=some cs)∧(r≠[]→decS l=none)∧(¬asc cs→decS l=none):=by
 unfold decS;rw[if_neg (by omega),if_neg (by rw[h2];simp),h];simp only;refine⟨fun h3 h4=>by rw[if_pos ⟨h3,h4⟩],fun h3=>by rw[if_neg (fun h=>h3 h.1)],fun h3=>by rw[if_neg (fun h=>h3 h.2)]⟩
theorem y8g:∀(l x:List Nat),lead l≤lead (l++x)
 | [],_=>Nat.zero_le _
 | y::r,x=>by
  have:=y8g r x;rw[List.cons_append];unfold lead;split<;>omega
theorem q4e {l:List Nat}(x:List Nat)(h:(gt l).2.2=0):gt (l++x)=gt l:=by
 have hl:=y8b l h;have hc:¬(9≤lead l∧1<l.getD 9 0):=fun hx=>by rw[y8a hx.1 hx.2] at h;cases h
 have h2:¬l.length≤lead l:=fun hx=>by
  have h3:(gt l).2.2=6:=by unfold gt;rw[if_neg hc,if_pos hx]
  omega
 have h3:¬(0<lead l∧l.getD (lead l) 0=0):=fun hx=>by
  have h3:(gt l).2.2=3:=by unfold gt;rw[if_neg hc,if_neg h2,if_pos hx]
  omega
 have e:gt l=(valR (l.take (lead l+1)),lead l+1,0):=by unfold gt;rw[if_neg hc,if_neg h2,if_neg h3]
 have h9:lead l≤9:=by
  rcases zng 9 (lead l) with h4|h4
  ·have:=z8y l 9 h4;omega
  ·exact h4
 rw[e];have g:=z8z l x (lead l) (by omega);have:=y1s l (by omega);have e2:=x2h (l:=l++x) (k:=lead l) (y8g l x) (by rw[zla];omega) h9 (by rw[g];exact this) (fun hk=>by rw[g];rw[hk] at hc⊢;omega) (fun h0=>by rw[g];omega);rw[e2,List.take_append_of_le_length (by omega)]
theorem x7f {S:RS}{m:Nat}(x:List Nat)(b:Bool)(h:(numS S m).2.wr=false):numS ⟨S.l++x,b⟩ m=((numS S m).1,⟨(numS S m).2.l++x,false⟩):=by
 obtain⟨e,h1,h2⟩:=y6c h;have e2:=q4e x h1;have hl:=y8b _ h1;rw[z42 (by show(gt (S.l++x)).2.2=0;rw[e2];exact h1) (by show(gt (S.l++x)).1≤m;rw[e2];exact h2),e];show((gt (S.l++x)).1,RS.mk ((S.l++x).drop (gt (S.l++x)).2.1) false)=_;rw[e2,List.drop_append_of_le_length hl.2.1]
theorem y33 {S:RS}{m:Nat}(h:(z0g S m).2.wr=false):(numS S m).2.wr=false∧(numS S m).1≤(numS S m).2.l.length∧z0g S m=((numS S m).2.l.take (numS S m).1,⟨(numS S m).2.l.drop (numS S m).1,false⟩):=by
 by_cases hc:(numS S m).2.wr=false∧(numS S m).1≤(numS S m).2.l.length
 ·exact⟨hc.1,hc.2,z2l hc.1 hc.2⟩
 ·rw[z16 hc] at h;cases h
theorem y34 {S:RS}{m:Nat}(h:(z0g S m).2.wr=true):z0g S m=([],⟨[],true⟩):=by
 by_cases hc:(numS S m).2.wr=false∧(numS S m).1≤(numS S m).2.l.length
 ·rw[z2l hc.1 hc.2] at h;cases h
 ·exact z16 hc
theorem x0g {S:RS}{m:Nat}(x:List Nat)(b:Bool)(h:(z0g S m).2.wr=false):z0g ⟨S.l++x,b⟩ m=((z0g S m).1,⟨(z0g S m).2.l++x,false⟩):=by
 obtain⟨h1,h2,e⟩:=y33 h;have e2:=x7f x b h1;rw[z2l (by rw[e2]) (by rw[e2];show _≤(_++x).length;rw[zla];omega),e,e2];show((_++x).take _,RS.mk ((_++x).drop _) false)=_;rw[List.take_append_of_le_length h2,List.drop_append_of_le_length h2]
theorem y6i {l r:List Nat}{c:Ce}(h:z5f l=some (c,r)):(z0g ⟨l,false⟩ 40).2.wr=false∧(numS (z0g ⟨l,false⟩ 40).2 2048).2.wr=false:=by
 have h2:(numS (z0g ⟨l,false⟩ 40).2 2048).2.wr=false:=by
  cases hw:(numS (z0g ⟨l,false⟩ 40).2 2048).2.wr with
  | false=>rfl
  | true=>unfold z5f at h;simp only[hw,if_true] at h;cases h
 refine⟨?_,h2⟩
 cases hw:(z0g ⟨l,false⟩ 40).2.wr with
 | false=>rfl
 | true=>
  rw[y34 hw] at h2;have:=y1t 2048 (S:=⟨[],true⟩) rfl;rw[this] at h2
  cases h2
theorem y8h (l x:List Nat)(i:Nat)(h:i<l.length):(l++x).getD i 0=l.getD i 0:=z8z l x i h
theorem x7g (s:ByteArray)(h:s.size=0):s=ByteArray.empty:=by
 apply y7w;have:=y6h s;rw[h] at this;rw[List.eq_nil_of_length_eq_zero this];rfl
theorem x20 {c:Ce}(h:mayB c=true)(r:List Nat):z5f (oneS c++r)=some (c,r):=by
 obtain⟨k,v,n,p⟩:=c;have hk:=x7c h;have hn0:=y3y h;have hn:=x2q h;have e:oneS ⟨k,v,n,p⟩++r=vb (bn k).length++(bn k++(vb n.toNat++(z6c ⟨k,v,n,p⟩++r))):=by
  unfold oneS;rw[z2h];simp only[List.append_assoc]
 have e1:=y0m (bn k) (vb n.toNat++(z6c ⟨k,v,n,p⟩++r)) false 40 (by rw[z2h];simp only at hk;omega) (by rw[z2h];simp only at hk;omega);have e2:=y1u n.toNat 2048 (z6c ⟨k,v,n,p⟩++r) false (by simp only at hn;omega) (by simp only at hn;omega);rw[e];unfold z5f;simp only[e1,e2,Bool.false_eq_true,if_false];simp only at hn0 hn
 by_cases h1:n≤64
 ·have h2:=x2r h h1;simp only at h2;have et:z6c ⟨k,v,n,p⟩=bn v:=by unfold z6c;rw[if_pos h1]
  have el:(bn v).length=n.toNat:=by rw[z2h];omega
  rw[et,if_pos (by omega),if_pos (by rw[zla];omega),←el,List.take_left,List.drop_left,z85,z85];have e3:(((bn v).length:Nat):Int)=n:=by rw[el];omega
  rw[e3,h2.2]
 ·have h2:=x2s h h1;simp only at h2;have et:z6c ⟨k,v,n,p⟩=[p.toNat/256%256,p.toNat%256]:=by unfold z6c;rw[if_neg h1]
  rw[et,if_neg (by omega),if_pos (by simp),z85,x7g v h2.1];have e3:(([p.toNat/256%256,p.toNat%256]++r).getD 0 0*256+([p.toNat/256%256,p.toNat%256]++r).getD 1 0:Nat)=p.toNat:=by
   show p.toNat/256%256*256+p.toNat%256=_;omega
  have e4:((p.toNat:Nat):Int)=p:=by omega
  have e5:((n.toNat:Nat):Int)=n:=by omega
  rw[e3,e4,e5]
  rfl
theorem x21 (cs:List Ce)(k:Nat)(h:k<cs.length):cs.drop k=ca cs k::cs.drop (k+1):=by
 rw[List.drop_eq_getElem_cons h];simp[ca,List.getD,h]
theorem x7h {cs:List Ce}(h:z2k cs)(r:List Nat)(k:Nat)(hk:k≤cs.length):decN k (body cs++r)=some (cs.take k,body (cs.drop k)++r):=by
 induction k with
 | zero=>rw[decN];rfl
 | succ k ih=>
  have h1:=ih (by omega);have e:body (cs.drop k)++r=oneS (ca cs k)++(body (cs.drop (k+1))++r):=by rw[x21 cs k (by omega),body,List.append_assoc]
  rw[x2w cs k (by omega)];exact y31 h1 (by rw[e];exact x20 (h k (by omega)) _) (h k (by omega))
theorem x22 {cs:List Ce}(h:z2k cs)(ha:asc cs)(hl:(z10 cs).length≤504):decS (z10 cs)=some cs:=by
 have hb:=y8d cs;have hll:=z6d cs;have e:=y1u cs.length 504 (body cs) false (by omega) (by omega);have e2:=x7h h [] cs.length (zlr _);rw[List.append_nil,List.append_nil,List.take_of_length_le (zlr _),List.drop_of_length_le (zlr _)] at e2;have:=y8f (l:=z10 cs) (r:=[]) (cs:=cs) hl (by unfold z10;rw[e]) (by unfold z10;rw[e];exact e2);exact this.1 rfl ha
theorem z3q {a b c:ByteArray}(h:blt a b=true)(k:blt b c=true):blt a c=true:=by
 rw[z4h] at*;grind
theorem x7i (a:ByteArray):blt a a=false:=by rw[z5m];grind
def z0w (S:RS):Nat→List Nat×RS
 | 0=>([],S)
 | n+1=>((z0w S n).1++[(z1z (z0w S n).2).1],(z1z (z0w S n).2).2)
theorem z3r (S:RS):∀n,(z0w S n).1.length=n
 | 0=>rfl
 | n+1=>by rw[z0w,zla,z3r S n];rfl
theorem z87 (l:List Nat):∀n,n≤l.length→z0w ⟨l,false⟩ n=(l.take n,⟨l.drop n,false⟩)
 | 0,_=>rfl
 | n+1,h=>by
  have h1:=z87 l n (by omega);have hne:l.drop n≠[]:=fun hx=>by have:=congrArg List.length hx;rw[zld] at this;simp at this;omega
  rw[z0w,h1,z3o hne];simp only;rw[List.drop_drop,List.take_succ_eq_append_getElem (by omega:n<l.length)];simp[List.getD,List.getElem?_drop,show n<l.length by omega]
theorem z7w (S:RS):∀n,S.l.length<n→(z0w S n).2=⟨[],true⟩
 | 0,h=>by omega
 | n+1,h=>by
  have key:∀m,S.l.length≤m→(z0w S m).2.l=[]:=by
   intro m
   induction m with
   | zero=>intro hm;show S.l=[];exact List.eq_nil_of_length_eq_zero (by omega)
   | succ m ih=>
    intro hm;rw[z0w]
    by_cases h0:(z0w S m).2.l=[]
    ·rw[z4m h0]
    ·rw[z3o h0];show(z0w S m).2.l.drop 1=[]
     have hd:∀m,m≤S.l.length→(z0w S m).2.l=S.l.drop m:=by
      intro m
      induction m with
      | zero=>intro _;rfl
      | succ m ih2=>
       intro hm;rw[z0w];have h3:=ih2 (by omega);have hne:(z0w S m).2.l≠[]:=fun hx=>by rw[h3] at hx;have:=congrArg List.length hx;rw[zld] at this;simp at this;omega
       rw[z3o hne];show(z0w S m).2.l.drop 1=_;rw[h3,List.drop_drop]
     rcases zng m S.l.length with h4|h4
     ·rw[hd m (by omega),List.drop_drop];exact List.drop_of_length_le (by omega)
     ·exact absurd (ih h4) h0
  rw[z0w,z4m (key n (by omega))]
def tkS (S:RS):Ce×RS:=
 let B:=z0g S 40
 let N:=numS B.2 2048
 if N.1≤64 then (⟨bstr B.1,bstr (z0w N.2 N.1).1,N.1,0⟩,(z0w N.2 N.1).2)
 else (⟨bstr B.1,ByteArray.empty,N.1,(numL (z0w N.2 2).1:Nat)⟩,(z0w N.2 2).2)
theorem x23 {l r:List Nat}{c:Ce}(h:z5f l=some (c,r)):tkS ⟨l,false⟩=(c,⟨r,false⟩):=by
 obtain⟨_,h2⟩:=y6i h;unfold z5f at h;unfold tkS;simp only at h⊢
 rw[h2] at h;have rs:∀x:RS,x.wr=false→x=⟨x.l,false⟩:=by rintro⟨a,b⟩ h;cases h;rfl
 have e:=rs _ h2;rw[e];generalize (numS (z0g ⟨l,false⟩ 40).2 2048).1=n at*;generalize (numS (z0g ⟨l,false⟩ 40).2 2048).2.l=q at*;simp only[Bool.false_eq_true,if_false] at h
 by_cases hn:n≤64
 ·rw[if_pos hn] at h⊢
  by_cases hq:n≤q.length
  ·rw[if_pos hq] at h
   cases h
   rw[z87 q n hq]
  ·rw[if_neg hq] at h;cases h
 ·rw[if_neg hn] at h⊢
  by_cases hq:2≤q.length
  ·rw[if_pos hq] at h
   cases h
   rw[z87 q 2 hq];have:numL (q.take 2)=q.getD 0 0*256+q.getD 1 0:=by
    match q,hq with
    | a::b::t,_=>show(0*256+a)*256+b=_;simp
   rw[this]
  ·rw[if_neg hq] at h;cases h
theorem x24 {l:List Nat}(h:z5f l=none):(tkS ⟨l,false⟩).2.wr=true:=by
 unfold z5f at h;unfold tkS;simp only at h⊢
 cases hw:(numS (z0g ⟨l,false⟩ 40).2 2048).2.wr with
 | true=>
  rw[x2j hw]
  rfl
 | false=>
  rw[hw] at h;simp only[Bool.false_eq_true,if_false] at h
  by_cases hn:(numS (z0g ⟨l,false⟩ 40).2 2048).1≤64
  ·rw[if_pos hn] at h⊢
   by_cases hq:(numS (z0g ⟨l,false⟩ 40).2 2048).1≤(numS (z0g ⟨l,false⟩ 40).2 2048).2.l.length
   ·rw[if_pos hq] at h;cases h
   ·simp only;rw[z7w _ _ (by omega)]
  ·rw[if_neg hn] at h⊢
   by_cases hq:2≤(numS (z0g ⟨l,false⟩ 40).2 2048).2.l.length
   ·rw[if_pos hq] at h;cases h
   ·simp only;rw[z7w _ _ (by omega)]
theorem tk_wr (b:Bool):mayB (tkS ⟨[],b⟩).1=false:=by
 have e:z0g ⟨[],b⟩ 40=([],⟨[],true⟩):=z16 (fun h=>by rw[y1t 40 (S:=⟨[],b⟩) rfl] at h;cases h.1);unfold tkS mayB;simp only[e];have:∀c:Ce,c.k=bstr []→okK c.k=false:=fun c h=>by rw[h];rfl
 split<;>rw[this _ rfl]<;>rfl
structure Elt (α:Type) where
 sz:Nat
 by_:Nat
 zero:Value
 enc:α→List Value
 len:∀a,(enc a).length=sz
 one:∀a,∀u∈enc a,u.oneCell'=true
 pos:0<sz
 zc:zero.cells.size=sz
 ty:TypeId→Bool
def RT (w:World)(g:Nat)(ty:TypeId→Bool):Prop:=∃A T fz,w.heap[g]? =some (.cells A T fz)∧ty T=true
theorem RT.ext {w w':World}{g B:Nat}{ty:TypeId→Bool}(h:RT w g ty)(hb:Below B w w')(hB:w.heap.size≤B):RT w' g ty:=by
 obtain⟨A,T,fz,h1,h2⟩:=h;exact⟨A,T,fz,(hb.block g (Nat.lt_of_lt_of_le (zag.1 h1).1 hB)).trans h1,h2⟩
section
variable {α:Type} (E:Elt α)
def Elt.row:List α→List Value
 | []=> []
 | x::r=>E.enc x++Elt.row r
theorem q5x:∀(a b:List α),E.row (a++b)=E.row a++E.row b
 | [],_=>rfl
 | x::r,b=>by rw[List.cons_append,Elt.row,Elt.row,q5x r b,List.append_assoc]
theorem Elt.row_len:∀(l:List α),(E.row l).length=l.length*E.sz
 | []=>by simp[Elt.row]
 | x::r=>by rw[Elt.row,zla,E.len,Elt.row_len r,List.length_cons,Nat.add_mul,Nat.one_mul,Nat.add_comm]
theorem Elt.row_one:∀(l:List α),∀u∈E.row l,u.oneCell'=true
 | [],u,h=>by cases h
 | x::r,u,h=>by
  rw[Elt.row,List.mem_append] at h
  rcases h with h|h
  ·exact E.one x u h
  ·exact Elt.row_one r u h
theorem Elt.row_take (l:List α)(k j:Nat)(u:Value)(h:(E.row (l.take k))[j]? =some u):(E.row l)[j]? =some u:=by
 have e:E.row l=E.row (l.take k)++E.row (l.drop k):=by rw[←q5x,List.take_append_drop]
 rw[e,List.getElem?_append_left (List.getElem?_eq_some_iff.1 h).1];exact h
theorem Elt.row_drop (l:List α)(k j:Nat)(hk:k≤l.length)(u:Value)(h:(E.row (l.drop k))[j]? =some u):(E.row l)[k*E.sz+j]? =some u:=by
 have e:E.row l=E.row (l.take k)++E.row (l.drop k):=by rw[←q5x,List.take_append_drop]
 have e2:(E.row (l.take k)).length=k*E.sz:=by rw[Elt.row_len,zlk,Nat.min_eq_left hk]
 rw[e,List.getElem?_append_right (by omega),e2,Nat.add_sub_cancel_left];exact h
theorem Elt.row_at (l:List α)(i j:Nat)(x:α)(hi:l[i]? =some x)(hj:j<E.sz):(E.row l)[i*E.sz+j]? =(E.enc x)[j]? :=by
 have hl:i<l.length:=(List.getElem?_eq_some_iff.1 hi).1;have e:E.row l=E.row (l.take i)++(E.enc x++E.row (l.drop (i+1))):=by
  have h1:l=l.take i++x::l.drop (i+1):=by
   have h2:=List.getElem?_eq_some_iff.1 hi;obtain⟨_,rfl⟩:=h2;rw[←List.drop_eq_getElem_cons hl,List.take_append_drop]
  conv=>lhs;rw[h1]
  rw[q5x,Elt.row]
 have e2:(E.row (l.take i)).length=i*E.sz:=by rw[Elt.row_len,zlk,Nat.min_eq_left (by omega)]
 rw[e,List.getElem?_append_right (by omega),e2,Nat.add_sub_cancel_left,List.getElem?_append_left (by rw[E.len];exact hj)]
def ES (w:World)(a:Option Addr)(l:List α):Prop:=(a=none∧l=[])∨∃g o,a=some ⟨g,o,none⟩∧RT w g E.ty∧∀j u,(E.row l)[j]? =some u→w.cell? ⟨g,o+j,none⟩=some u
variable {E}
theorem ES.nil (w:World):ES E w none []:=.inl ⟨rfl,rfl⟩
theorem ES.at {w:World}{a:Option Addr}{l:List α}(h:ES E w a l)(h0:0<l.length):∃g o,a=some ⟨g,o,none⟩∧∀j u,(E.row l)[j]? =some u→w.cell? ⟨g,o+j,none⟩=some u:=by
 rcases h with ⟨_,rfl⟩|⟨g,o,h,_,hc⟩
 ·simp at h0
 ·exact⟨g,o,h,hc⟩
theorem ES.below {w w':World}{a:Option Addr}{l:List α}{B:Nat}(h:ES E w a l)(hb:Below B w w')(hB:w.heap.size≤B):ES E w' a l:=by
 rcases h with h|⟨g,o,rfl,ht,hc⟩
 ·exact .inl h
 ·exact .inr ⟨g,o,rfl,ht.ext hb hB,fun j u hu=>by have:=hc j u hu;rw[hb.cell (p:=⟨g,o+j,none⟩) (Nat.lt_of_lt_of_le (block_lt_of_cell this) hB)];exact this⟩
theorem ES.take {w:World}{a:Option Addr}{l:List α}(h:ES E w a l)(k:Nat):ES E w a (l.take k):=by
 rcases h with ⟨h,rfl⟩|⟨g,o,rfl,ht,hc⟩
 ·exact .inl ⟨h,by simp⟩
 ·exact .inr ⟨g,o,rfl,ht,fun j u hu=>hc j u (E.row_take l k j u hu)⟩
theorem ES.drop {w:World}{g o:Nat}{l:List α}(h:ES E w (some ⟨g,o,none⟩) l)(k q:Nat)(hk:k≤l.length)(hq:q=o+k*E.sz):ES E w (some ⟨g,q,none⟩) (l.drop k):=by
 rcases h with ⟨h,_⟩|⟨g',o',h,ht,hc⟩
 ·cases h
 ·cases h
  subst hq;exact .inr ⟨g,_,rfl,ht,fun j u hu=>by rw[Nat.add_assoc];exact hc _ u (E.row_drop l k j hk u hu)⟩
def EV (E:Elt α)(w:World)(v:Value)(l:List α):Prop:=∃a c,v=.slice a l.length c∧ES E w a l∧(a=none→c=0)∧l.length≤c∧c≤maxLen
theorem EV.below {w w':World}{v:Value}{l:List α}{B:Nat}(h:EV E w v l)(hb:Below B w w')(hB:w.heap.size≤B):EV E w' v l:=by
 obtain⟨a,c,rfl,hs,h1⟩:=h;exact⟨a,c,rfl,hs.below hb hB,h1⟩
theorem EV.ext {w w':World}{v:Value}{l:List α}(h:EV E w v l)(hb:Below w.heap.size w w'):EV E w' v l:=h.below hb (zlr _)
theorem EV.none (w:World):EV E w (.slice none 0 0) []:=⟨Option.none,0,rfl,ES.nil _,fun _=>rfl,zlr _,by unfold maxLen;omega⟩
theorem z1u {w:World}{B T:Nat}{v:Value}{l:List α}(h:w.ownsRow B T E.sz v l.length (E.row l))(hT:E.ty T=true:=by decide):EV E w v l:=by
 have h':=h;obtain⟨_,h2⟩:=h
 rcases h2 with ⟨rfl,h0⟩|⟨g,cap,cur,rfl,hb,hg,hnc,hcm,_⟩
 ·have:l=[]:=List.eq_nil_of_length_eq_zero h0;subst this;exact EV.none w
 ·refine⟨_,cap,rfl,.inr ⟨g,0,rfl,⟨_,_,_,hg,hT⟩,fun j u hu=> ?_⟩,(fun h=>by cases h),hnc,hcm⟩;have hj:j<l.length*E.sz:=by have:=(List.getElem?_eq_some_iff.1 hu).1;rwa [E.row_len] at this
  have:=h'.cellAt j hj;rw[Nat.zero_add,this];exact hu
theorem ES.lit {w:World}{g T:Nat}{l:List α}{m:Nat×Nat}(h:w.heap[g]? =some (.cells (E.row l).toArray T m))(hT:E.ty T=true:=by decide):ES E w (some ⟨g,0,Option.none⟩) l:=
 .inr ⟨g,0,rfl,⟨_,_,_,h,hT⟩,fun j u hu=>by simp[World.cell?,h,hu]⟩
theorem q4f {w:World}{g T:Nat}{l:List α}{m:Nat×Nat}(h:w.heap[g]? =some (.cells (E.row l).toArray T m))(hm:l.length≤maxLen)(hT:E.ty T=true:=by decide):EV E w (.slice (some ⟨g,0,Option.none⟩) l.length l.length) l:=
 ⟨_,_,rfl,.inr ⟨g,0,rfl,⟨_,_,_,h,hT⟩,fun j u hu=>by simp[World.cell?,h,hu]⟩,(fun h=>by cases h),zlr _,hm⟩
section
variable {P:Program} {w:World}
theorem x99 {t e:TypeId}(ht:P.underlying t=some (.slice e)){a:Option Addr}{n c:Nat}{l:List α}(hn:l.length=n)(hz:a=none→c=0∧n=0)(h:ES E w a l):Go.Src P E.sz t (.slice a n c) n (E.row l) w:=by
 rcases Nat.eq_zero_or_pos n with h0|h0
 ·obtain rfl:l=[]:=List.eq_nil_of_length_eq_zero (by omega);subst h0
  cases a with
  | none=>exact Go.Src.ofNil w ht c
  | some ad=>exact Go.Src.ofSlice w ht ad 0 c [] (by simp) (fun j u hu=>by simp at hu) (fun u hu=>by cases hu)
 ·obtain⟨g,o,rfl,hc⟩:=h.at (by omega);exact Go.Src.ofSlice w ht ⟨g,o,none⟩ n c (E.row l) (by rw[E.row_len,hn]) (fun j u hu=>by rw[z2q];exact hc j u hu) (E.row_one l)
theorem z7x (t ty e:TypeId)(ht:P.underlying t=some (.slice e))(h2:(P.info? e).map (fun i=>(i.zero,i.size,i.bytes))=some (some E.zero,E.sz,E.by_))
  (a:Option Addr) (n:Nat) (l:List α) (hn:l.length=n) (hs:ES E w a l) (a2:Option Addr) (n2 c2:Nat) (m:List α) (hn2:m.length=n2) (hz2:a2=none→c2=0) (hm:ES E w a2 m)
  (h63:n+n2≤maxLen) (hby:(n+n2)*E.by_≤140737488355328):
  ∃v' w',(Builtin.append_ #[t,t] ty #[.slice a n n,.slice a2 n2 c2]).run P w=.ok v' w'∧Below w.heap.size w w'∧
   ((m=[]∧v'=.slice a n n∧w'=w)∨w'.ownsRow w.heap.size e E.sz v' (n+n2) (E.row (l++m))):=by
 obtain⟨i0,hi,hz,hs0,hb0⟩:=info_parts h2;have hzz:a2=none→c2=0∧n2=0:=fun h=>⟨hz2 h,by
  rcases Nat.eq_zero_or_pos n2 with h0|h0
  ·exact h0
  ·obtain⟨g,o,h3,_⟩:=hm.at (by omega);rw[h] at h3;cases h3⟩
 have hsrc:=x99 (P:=P) (w:=w) ht hn2 hzz hm;have hsmall:n+n2≤9223372036854775807:=by simp only[maxLen] at h63;omega
 rcases Nat.eq_zero_or_pos n2 with h0|h0
 ·obtain rfl:m=[]:=List.eq_nil_of_length_eq_zero (by omega);subst h0;exact⟨_,_,run_append_nothing w t t ty e i0 ht hi a n n (zlr _) _ (by rw[hs0];exact hsrc),zbr _ _,.inl ⟨rfl,rfl,rfl⟩⟩
 ·have hold:(Builtin.firstCells i0.size n (.slice a n n)).run P w.drew=.ok (E.row l).toArray w.drew:=by
   rcases Nat.eq_zero_or_pos n with h3|h3
   ·obtain rfl:l=[]:=List.eq_nil_of_length_eq_zero (by omega);subst h3
    cases a with
    | none=>exact run_firstCells_none w.drew i0.size 0 0 0
    | some ad=>exact run_firstCells_some w.drew i0.size 0 ad 0 0 [] (by simp) (fun j u hu=>by simp at hu)
   ·obtain⟨g,o,rfl,hc⟩:=hs.at (by omega);exact run_firstCells_some w.drew i0.size n ⟨g,o,none⟩ n n (E.row l) (by rw[E.row_len,hn,hs0]) (fun j u hu=>by rw[z2q];exact hc j u hu)
  have hrun:=run_append_grow_src (P:=P) w t t ty e i0 E.zero ht hi hz a n n (E.row l) hold _ n2 (E.row m) (by rw[hs0];exact hsrc) (by omega) (by omega) (growslice_fits (by omega) (by rw[hb0];exact hby));have hG1:n+n2≤grownCap w (n+n2) n e:=grownCap_ge w (n+n2) n e;have hG2:=grownCap_le_maxLen w (n+n2) n e h63;refine⟨_,_,hrun,(zbr _ _).drew.alloc (zlr _) _,.inr ?_⟩;have hL:(E.row l++E.row m).length=(n+n2)*E.sz:=by rw[←q5x,Elt.row_len,zla,hn,hn2]
  rw[q5x];refine⟨hL,.inr ⟨w.heap.size,grownCap w (n+n2) n e,(E.row l++E.row m).toArray++Builtin.zeroCells E.zero.cells (grownCap w (n+n2) n e-(n+n2)),rfl,zlr _,?_,hG1,hG2,?_,?_⟩⟩
  ·show(w.drew.heap.push _)[w.heap.size]? =_;rw[show w.heap.size=w.drew.heap.size from rfl,Array.getElem?_push_size]
  ·rw[Array.size_append,List.size_toArray,hL,size_zeroCells,E.zc,←Nat.add_mul]
   congr 1
   omega
  ·rw[Array.toList_append,List.take_append_of_le_length (by rw[List.toList_toArray];omega),List.toList_toArray,List.take_of_length_le (by omega)]
theorem z08 (B:Nat)(t ty e:TypeId)(ht:P.underlying t=some (.slice e))(h2:(P.info? e).map (fun i=>(i.zero,i.size,i.bytes))=some (some E.zero,E.sz,E.by_))
  (v:Value) (n:Nat) (l:List α) (hs:w.ownsRow B e E.sz v n (E.row l)) (hB:B≤w.heap.size) (a2:Option Addr) (n2 c2:Nat) (m:List α) (hn2:m.length=n2) (hz2:a2=none→c2=0) (hm:ES E w a2 m)
  (h63:n+n2≤maxLen) (hby:(n+n2)*E.by_≤140737488355328):
  ∃v' w',(Builtin.append_ #[t,t] ty #[v,.slice a2 n2 c2]).run P w=.ok v' w'∧Below B w w'∧w'.ownsRow B e E.sz v' (n+n2) (E.row (l++m)):=by
 obtain⟨i0,hi,hz,hs0,hb0⟩:=info_parts h2
 rcases Nat.eq_zero_or_pos n2 with h0|h0
 ·obtain rfl:m=[]:=List.eq_nil_of_length_eq_zero (by omega);subst h0;have hzz:a2=none→c2=0∧(0:Nat)=0:=fun h=>⟨hz2 h,rfl⟩
  have hsrc:=x99 (P:=P) (w:=w) ht (show([]:List α).length=0 from rfl) hzz hm;rw[List.append_nil,Nat.add_zero];refine⟨v,w,?_,zbr _ _,hs⟩
  rcases hs.2 with ⟨rfl,h3⟩|⟨g,cap,cur,rfl,_,_,hnc,_⟩
  ·exact run_append_nothing w t t ty e i0 ht hi none 0 0 (zlr _) _ (by rw[hs0];exact hsrc)
  ·exact run_append_nothing w t t ty e i0 ht hi _ n cap hnc _ (by rw[hs0];exact hsrc)
 ·obtain⟨g,o,rfl,hc⟩:=hm.at (by omega);obtain⟨v',w',hr,h3,h4,_⟩:=run_append_own (P:=P) w B t ty e i0 E.zero E.sz E.by_ ht hi hz hs0 hb0 E.zc E.pos v n (E.row l) hs ⟨g,o,none⟩ n2 c2 (E.row m) (by rw[E.row_len,hn2]) (fun j u hu=>by rw[z2q];exact hc j u hu) (E.row_one m) h63 hby hB;refine⟨v',w',hr,(zbr B w).grown h4 hB (fun k hk=>(hs.lt k hk).1),?_⟩;rw[q5x];exact h3
theorem z1g {o:Oper}{ac:Act}{K:Act→World→Prop}{Q:Exit→Act→World→Prop}(s x:Operand)(t:TypeId)(ho:o.op=.call {callee:=.builtin .append,args:= #[s,x],argTypes:= #[t,t]})
  {v xv v':Value} {w':World} (hs:ac.eval s=v) (hx:ac.eval x=xv) (hr:(Builtin.append_ #[t,t] o.type #[v,xv]).run P w=.ok v' w') (h:K (ac.put o.dst v') w'):Oper.wp P o ac w K Q:=by
 unfold Oper.wp;simp[execOp,ho,resolve,invoke,builtin,hs,hx,hr,Result.andThen];exact h
theorem z2m (t ty ty2 e:TypeId)(ht:P.underlying t=some (.slice e))(h2:(P.info? e).map (fun i=>(i.zero,i.size,i.bytes))=some (some E.zero,E.sz,E.by_))
  (a:Option Addr) (n:Nat) (l:List α) (hn:l.length=n) (hs:ES E w a l) (a2:Option Addr) (n2 c2:Nat) (m:List α) (hn2:m.length=n2) (hz2:a2=none→c2=0) (hm:ES E w a2 m)
  (a3:Option Addr) (n3 c3:Nat) (r:List α) (hn3:r.length=n3) (hz3:a3=none→c3=0) (hr:ES E w a3 r)
  (h63:n+n2+n3≤maxLen) (hby:(n+n2+n3)*E.by_≤140737488355328) (he:E.ty e=true:=by decide):
  ∃v1 w1 v2 w2,(Builtin.append_ #[t,t] ty #[.slice a n n,.slice a2 n2 c2]).run P w=.ok v1 w1∧Below w.heap.size w w1∧
   (Builtin.append_ #[t,t] ty2 #[v1,.slice a3 n3 c3]).run P w1=.ok v2 w2∧Below w.heap.size w1 w2∧Below w.heap.size w w2∧EV E w2 v2 (l++(m++r)):=by
 have hmul:(n+n2)*E.by_≤(n+n2+n3)*E.by_:=Nat.mul_le_mul_right _ (by omega);obtain⟨v1,w1,h1,hb1,h4⟩:=z7x (P:=P) (w:=w) t ty e ht h2 a n l hn hs a2 n2 c2 m hn2 hz2 hm (by omega) (by omega)
 rcases h4 with ⟨rfl,rfl,rfl⟩|hown
 ·obtain rfl:n2=0:=hn2.symm;obtain⟨v2,w2,h5,hb2,h6⟩:=z7x (P:=P) (w:=w1) t ty2 e ht h2 a n l hn hs a3 n3 c3 r hn3 hz3 hr (by omega) (by simpa using hby);refine⟨_,_,v2,w2,h1,hb1,h5,hb2,hb2,?_⟩;rw[List.nil_append]
  rcases h6 with ⟨rfl,rfl,rfl⟩|h6
  ·refine⟨a,n,by rw[List.append_nil,hn],by rw[List.append_nil];exact hs,fun h=> ?_,by rw[List.append_nil];omega,by omega⟩
   rcases Nat.eq_zero_or_pos n with h0|h0
   ·exact h0
   ·obtain⟨g,o,h3,_⟩:=hs.at (by omega);rw[h] at h3;cases h3
  ·refine z1u (B:=w1.heap.size) (T:=e) ?_ he;rw[zla,hn,hn3];exact h6
 ·obtain⟨v2,w2,h5,hb2,h6⟩:=z08 (P:=P) (w:=w1) w.heap.size t ty2 e ht h2 v1 (n+n2) (l++m) hown hb1.size a3 n3 c3 r hn3 hz3 (hr.below hb1 (zlr _)) (by omega) hby;refine⟨v1,w1,v2,w2,h1,hb1,h5,hb2,hb1.trans hb2,?_⟩;refine z1u (B:=w.heap.size) (T:=e) ?_ he;rw[←List.append_assoc,zla,zla,hn,hn2,hn3];exact h6
end
end
theorem z0t (W:World)(T:TypeId)(vs:Array Value):∃g W',W.heap.size=g∧W.alloc (.cells vs T)=W'∧W'.heap[g]? =some (.cells vs T (0,0))∧Below W.heap.size W W':=
 ⟨_,_,rfl,rfl,by show(W.heap.push _)[W.heap.size]? =_;rw[Array.getElem?_push_size],(zbr _ _).alloc (zlr _) _⟩
theorem z0h (W:World)(T:TypeId)(vs:Array Value):(W.alloc (.cells vs T)).heap[W.heap.size]? =some (.cells vs T (0,0)):=by
 show(W.heap.push _)[W.heap.size]? =_;rw[Array.getElem?_push_size]
end Go.Proofs.YtdnfhjfbanhhcaaGreatDoor
