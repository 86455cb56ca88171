/-
  Steps.
-/
import Derived.Test.YtifmepiahlodhaaGreatDoorProg
import Derived.Test.YtifmepiahlodhaaGreatDoorQLTd06
import Derived.Lib.SliceRun
import Derived.Lib.AppendZerosOnto
namespace Go.Proofs.YtifmepiahlodhaaGreatDoor
open Go.RowKit
theorem q4i:(Tryz.prog.info? 5).map (fun i=>(i.zero,i.size,i.bytes))=some (some (.int .u8 0),1,1):=by kernel_rfl
theorem sizeI:(Tryz.prog.info? 5).map (·.size)=some 1:=by kernel_rfl
theorem z80 (a:Option Addr)(c:Nat)(l:List Nat)(v s:Nat)(w:World)(hl:l.length≤65536)(hs1:1≤s)(hs:s≤64)(hv:v<18446744073709551616)(hsrc:Src w a l):
  Calls Tryz.prog 157 #[.slice a l.length c,.int .u64 v,.int .i64 s] w fun e w'=>e=.returned (.slice (some ⟨w.heap.size,0,none⟩) (l.length+s:Nat) (l.length+s:Nat))∧Row w' w.heap.size 5 (l++beL v s)∧Below w.heap.size w w':=by
 have Hsrc:=zh hsrc;clear hsrc;have d1:decide ((s:Int)<1)=false:=by simp;omega
 have d2:decide (64<(s:Int))=false:=by simp;omega
 go_enter Tryz.func157,Tryz.ntmps157
 go_wp2_with (first|(at_make;refine z06 rfl _ _ 46 rfl 5 Tryz.underlying46 q4i _ _ _ _ (l.length+s) rfl rfl (by omega) (by omega) (by omega) ?_;intro w1 hr1 hb1;have hs1':=zh (Hsrc.out.below hb1 (zlr _)))|(show wpList _ _ _ (⟨some 22,_,_,_,_,_⟩::_) _ _;refine z1w rfl (.tmp 20) (.tmp 21) 46 46 rfl 5 Tryz.underlying46 sizeI w.heap.size 0 (l.length+s) (l.length+s) a c (List.replicate (l.length+s) 0) l (by rfl) (by rfl) hr1 hs1'.out (by simp) (by omega) w.heap.size w hb1 (zlr _) ?_;intro w2 hr2 hb2;clear hr1 hs1' hb1))
 have Hr2:Hid (Row w2 w.heap.size 5 (z2f l v s 0)):=by
  have:=hr2.out;rw[z28] at this;have e:l++List.drop l.length (List.replicate (l.length+s) 0)=z2f l v s 0:=by
   unfold z2f;rw[List.drop_replicate,Nat.add_sub_cancel_left];simp[beL]
  rw[e] at this;exact this
 clear hr2
 go_loopw [1,8] (fun V I wr=>∃(k:Nat) (i:Int),k≤s∧I=.int .i64 i∧i+k+1≤l.length+s∧(l.length:Int)+s≤i+k+1∧V=.int .u64 (v/256^k:Nat)∧Hid (Row wr w.heap.size 5 (z2f l v s k))∧Below w.heap.size w wr) (fun _ I _=>(intOf I+1).toNat)
 case atStart=>exact⟨0,(l.length:Int)+s-1,Nat.zero_le _,rfl,by omega,by omega,by rw[Nat.pow_zero,Nat.div_one],Hr2,hb2⟩
 case round=>
  obtain⟨k,i,hk,rfl,hi1,hi2,rfl,hrow,hbel⟩:=hrel
  by_cases hlt:k<s
  ·obtain⟨j,rfl⟩:=Int.eq_ofNat_of_zero_le (show 0≤i by omega);have hj:j+k+1=l.length+s:=by omega
   have hcell:=hrow.out.cell j (by rw[z5z _ _ _ _ hk];omega);have hfr:=hrow.out.frozen j;have hset:=zh ((hrow.out.set j (v/256^k%256)));rw[y0h l v s k j hlt hj] at hset;have hV:v/256^k<18446744073709551616:=Nat.lt_of_le_of_lt (Nat.div_le_self _ _) hv;have hnext:=zh (show v/256^(k+1)=v/256^k/256 by rw[Nat.pow_succ,Nat.div_div_eq_div_mul]);have Hj:=zh hj;clear hj hrow;generalize v/256^k=V at*;generalize (z2f l v s k).getD j 0=X at*;go_wp2
   go_roundw
   case rel=>exact⟨k+1,(j:Int)-1,by omega,rfl,by omega,by omega,by rw[hnext.out];rfl,hset,hbel.setCell (zlr _) _⟩
   case measure=>simp[intOf]
  ·obtain rfl:k=s:=by omega
   have hlast:=hrow.out;have e:z2f l v k k=l++beL v k:=by unfold z2f;simp
   rw[e] at hlast;have Hlast:=zh hlast;clear hlast hrow e;generalize v/256^k=V at*;go_wp2;go_ret;exact⟨rfl,Hlast.out,hbel⟩
end Go.Proofs.YtifmepiahlodhaaGreatDoor
namespace Go.Proofs.YtifmepiahlodhaaGreatDoor
open Go Go.RowKit
set_option maxRecDepth 100000 in
theorem y3t (a:Option Addr)(n c:Nat)(l:List Nat)(hn:l.length=n)(w:World)(hsrc:Src w a l)(hz:a=none→c=0)(hl:n≤1099511627776):
  Calls Tryz.prog 175 #[.slice a n c] w fun e w'=>∃v,e=.returned v∧Sl w' v l∧Below w.heap.size w w':=by
 have Hs:=zh hsrc;have Hn:=zh hn;have q22:∀(w:World) (a:Option Addr) (n c n' c':Nat),(binOp .eql 46 (.slice a n c) (.slice none n' c')).run Tryz.prog w=.ok (.bool a.isNone) w:=fun w a n c n' c'=>Lib.run_eql_slice_nil w _ _ a n c n' c' Tryz.underlying46
 cases a with
 | none=>
  obtain rfl:l=[]:=by
   cases l with
   | nil=>rfl
   | cons x r=>obtain⟨_,_,h0,_⟩:=hsrc (by simp);cases h0
  obtain rfl:=hz rfl;obtain rfl:n=0:=hn.symm;clear hsrc
  go_enter Tryz.func175,Tryz.ntmps175
  go_wp2;go_ret;exact⟨_,rfl,.inl ⟨rfl,rfl⟩,zbr _ _⟩
 | some ad=>
  clear hsrc hn;have hb1:Below w.heap.size w (w.alloc (.cells #[] 5)):=(zbr _ _).alloc (zlr _) _
  go_enter Tryz.func175,Tryz.ntmps175
  go_wp2_with (at_builtin;refine z16 rfl (.tmp 5) (.tmp 6) 46 rfl w.heap.size 5 Tryz.underlying46 x2m _ [] (by rfl) (y3j w 5) (some ad) c l (by rw[Hn.out];rfl) (fun h=>by cases h) (Hs.out.below hb1 (zlr _)) (by rw[Hn.out];simp only[List.length_nil];omega) hb1.size ?_;intro v' w2 hown2 hgrow2 hnear2)
  have hbn:Below w.heap.size w w2:=hb1.grown hgrow2.out hb1.size (by intro k hk;cases hk;exact zlr _);have ho:Sl w2 v' l:=Sl.own hown2.out;go_ret;exact⟨_,rfl,ho,hbn⟩
set_option maxRecDepth 100000 in
theorem x7h (n:Nat)(w:World)(hn:n≤1099511627776):
  Calls Tryz.prog 185 #[.slice none 0 0,.int .i64 n] w fun e w'=>∃v,e=.returned v∧w'.ownsRow w.heap.size 5 1 v 0 (bv [])∧Below w.heap.size w w':=by
 rcases Nat.eq_zero_or_pos n with h0|h0
 ·subst h0
  go_enter Tryz.func185,Tryz.ntmps185
  go_wp2;go_ret;exact⟨_,rfl,q1m _ _ _,zbr _ _⟩
 ·obtain⟨i0,hi,hz0,hz1,hz2⟩:=info_parts x2m;have hold:(Builtin.firstCells i0.size 0 (.slice none 0 0)).run Tryz.prog w.drew=.ok ([]:List Value).toArray w.drew:=run_firstCells_none w.drew i0.size 0 0 0;have hrun:=fun ty=>Lib.run_append_grow_zeros w 46 3 ty 5 i0 (.int .u8 0) .i64 .i64 Tryz.underlying46 Tryz.underlying3 hi hz0 none 0 0 [] hold n h0 (by omega) (by omega) (by omega)
   (by rw[hz2];omega) (growslice_fits (by omega) (by rw[hz2];omega))
  have hG1:n≤grownCap w (0+n) 0 5:=by have:=grownCap_ge w (0+n) 0 5;omega
  have hG2:=grownCap_le_maxLen w (0+n) 0 5 (by unfold maxLen;omega);generalize grownCap w (0+n) 0 5=G at*;have hG3:G≤9223372036854775807:=by unfold maxLen at hG2;omega
  rw[Nat.zero_add] at hrun;obtain⟨w1,hw1⟩:∃w1,w1=w.drew.alloc (.cells (([]:List Value).toArray++Builtin.zeroCells (Value.int .u8 0).cells n++Builtin.zeroCells (Value.int .u8 0).cells (G-n)) 5):=⟨_,rfl⟩
  have hown:w1.ownsRow w.heap.size 5 1 (.slice (some ⟨w.heap.size,0,none⟩) 0 G) 0 (bv []):=by
   rw[hw1];exact World.ownsRow_made w.drew _ G (zlr _) hG2 (by
    rw[Array.size_append,Array.size_append,size_zeroCells,size_zeroCells];show 0+n*1+(G-n)*1=G*1;omega)
  have hb:Below w.heap.size w w1:=by rw[hw1];exact(zbr _ _).drew.alloc (zlr _) _
  rw[←hw1] at hrun;have Hown:=zh hown;have Hb:=zh hb;clear hold hw1 hown hb hG2 hi hz0 hz1 hz2
  go_enter Tryz.func185,Tryz.ntmps185
  go_wp2_with (at_builtin;refine Lib.wpList_append_run _ rfl _ _ _ _ rfl _ _ rfl rfl _ _ (hrun _) ?_)
  all_goals (go_ret;exact⟨_,rfl,Hown.out,Hb.out⟩)
def x2y (w:World)(g:Nat)(es:List (List Nat)):Prop:=∀i,i<es.length→∃a c,w.cell? ⟨g,i,none⟩=some (.slice a (es.getD i []).length c)∧Src w a (es.getD i [])∧(a=none→c=0)
theorem x2y.below {w w':World}{g B:Nat}{es:List (List Nat)}(h:x2y w g es)(hb:Below B w w')(hB:w.heap.size≤B):x2y w' g es:=fun i hi=>by
 obtain⟨a,c,hc,hs,hz⟩:=h i hi;exact⟨a,c,by rw[hb.cell (p:=⟨g,i,none⟩) (Nat.lt_of_lt_of_le (block_lt_of_cell hc) hB)];exact hc,hs.below hb hB,hz⟩
def z5g (es:List (List Nat))(k:Nat):Nat:=(es.take k).flatten.length
theorem y8i (es:List (List Nat))(k:Nat)(h:k<es.length):(es.take (k+1)).flatten=(es.take k).flatten++es.getD k []:=by
 rw[List.take_succ_eq_append_getElem h,List.flatten_append];simp[List.getD,h]
theorem z81 (es:List (List Nat))(k:Nat)(h:k<es.length):z5g es (k+1)=z5g es k+(es.getD k []).length:=by
 unfold z5g;rw[y8i es k h,zla]
theorem x0j (es:List (List Nat))(k:Nat)(h:es.length≤k):z5g es k=es.flatten.length:=by unfold z5g;rw[zlw h]
theorem y3u (es:List (List Nat))(k:Nat):z5g es k≤es.flatten.length:=by
 unfold z5g;have h:=congrArg List.length (congrArg List.flatten (List.take_append_drop k es));rw[List.flatten_append,zla] at h;omega
set_option maxRecDepth 100000 in
theorem x0k (g n c:Nat)(es:List (List Nat))(hn:es.length=n)(w:World)(hp:x2y w g es)(hl:es.flatten.length≤1099511627776)(hk:n≤65536):
  Calls Tryz.prog 164 #[.slice (some ⟨g,0,none⟩) n c] w fun e w'=>∃v,e=.returned v∧Sl w' v es.flatten∧Below w.heap.size w w':=by
 have Hp:=zh hp;have Hn:=zh hn;have Hl:=zh hl;clear hp hn hl
 go_enter Tryz.func164,Tryz.ntmps164
 go_wp2_with fail
 go_loop [3,5,11] (fun s _ i=>∃k t:Nat,k≤n∧i=.int .i64 k∧s=.int .i64 t∧Hid (t=z5g es k)∧t≤1099511627776) (fun _ _ i=>n-(intOf i).toNat)
 case atStart=>exact⟨0,0,Nat.zero_le _,rfl,rfl,rfl,by omega⟩
 case round=>
  obtain⟨k,t,hkn,rfl,rfl,ht,ht1⟩:=hrel
  by_cases hlt:k<n
  ·obtain⟨a,c1,hc,_,_⟩:=Hp.out k (by rw[Hn.out];exact hlt);have hs:=z81 es k (by rw[Hn.out];exact hlt);have hle:=y3u es (k+1);have hll:=Hl.out;generalize (es.getD k []).length=m at*;have hm:t+m≤1099511627776:=by have:=ht.out;omega
   have ht2:Hid (t+m=z5g es (k+1)):=by show _=_;rw[hs,ht.out]
   have hd:decide ((t:Int)+(m:Int)<0)=false:=by simp;omega
   clear hs hle hll ht;go_wp2
   go_round
   case rel=>exact⟨k+1,t+m,by omega,by go_num,by go_num,ht2,hm⟩
   case measure=>simp[intOf];omega
  ·obtain rfl:k=n:=by omega
   have ht2:Hid (t=es.flatten.length):=by show _=_;rw[ht.out,x0j es k (by rw[Hn.out];exact zlr _)]
   clear ht hlt;go_wp2_with fail;refine(x7h t w ht1).mono ?_;rintro e w1 ⟨v1,rfl,hown1,hb1⟩;have Ho1:=zh hown1;have Hb1:=zh hb1;clear hown1 hb1;go_wp2_with fail
   go_loopw [6,8,27] (fun o _ i wr=>∃(k2:Nat) (ov:Value),k2≤k∧o=ov∧i=.int .i64 k2∧Hid (wr.ownsRow w.heap.size 5 1 ov (es.take k2).flatten.length (bv (es.take k2).flatten))∧Hid (Below w.heap.size w wr)) (fun _ _ i _=>k-(intOf i).toNat)
   case atStart=>exact⟨0,v1,Nat.zero_le _,rfl,rfl,by rw[List.take_zero];exact Ho1,Hb1⟩
   case round=>
    obtain⟨j,ov,hj,rfl,rfl,hown,hbel⟩:=hrel
    by_cases hlt:j<k
    ·obtain⟨a,c1,hc,hs,hz⟩:=(Hp.out.below hbel.out (zlr _)) j (by rw[Hn.out];exact hlt);have hcat:=y8i es j (by rw[Hn.out];exact hlt);have hlen:(es.take j).flatten.length+(es.getD j []).length≤140737488355328:=by
      have h1:=y3u es (j+1);rw[z81 es j (by rw[Hn.out];exact hlt)] at h1;have h2:=Hl.out;unfold z5g at h1;omega
     have Hs:=zh hs;have Hz:=zh hz;have Hcat:=zh hcat;clear hs hz hcat;have hsz:=hbel.out.size;generalize es.getD j []=M at*
     go_wp2_with (at_builtin;refine z16 rfl (.tmp 31) (.tmp 32) 46 rfl w.heap.size 5 Tryz.underlying46 x2m _ (es.take j).flatten (by rfl) hown a c1 M (by rfl) Hz.out Hs.out hlen hsz ?_;intro v' w2 hown2 hgrow2 hnear2)
     have hb2:Hid (Below w.heap.size w w2):=hbel.out.grown hgrow2.out hsz (fun j hj=>(hown.out.lt j hj).1);have ho2:Hid (w2.ownsRow w.heap.size 5 1 v' (es.take (j+1)).flatten.length (bv (es.take (j+1)).flatten)):=by rw[Hcat.out];exact hown2
     clear hown2 hgrow2 hnear2 hown hbel;go_wp2
     go_roundw
     case rel=>exact⟨j+1,v',by omega,rfl,by go_num,ho2,hb2⟩
     case measure=>simp[intOf];omega
    ·obtain rfl:j=k:=by omega
     have ho:=Sl.own hown.out;rw[List.take_of_length_le (by rw[Hn.out];exact zlr _)] at ho;have ho:=zh ho;clear hown;go_wp2;go_ret;exact⟨_,rfl,ho.out,hbel.out⟩
def bn (s:ByteArray):List Nat:=(bl s).map UInt8.toNat
theorem y6g (s:ByteArray):(bl s).length=s.size:=by
 show s.data.toList.length=s.data.size;simp
theorem z2h (s:ByteArray):(bn s).length=s.size:=by unfold bn;rw[List.length_map,y6g]
theorem x7i (s:ByteArray):B8 (bn s):=fun x hx=>by
 unfold bn at hx;obtain⟨y,_,rfl⟩:=List.mem_map.1 hx;exact UInt8.toNat_lt y
theorem x2z (l:List Nat):bl (bstr l)=l.map fun x=>UInt8.ofNat x:=by
 unfold bstr;rw[show bl (strOfNums (l.map fun x:Nat=>(x:Int)))=(strOfNums (l.map fun x:Nat=>(x:Int))).data.toList from rfl,strOfNums_data,List.map_map];apply List.map_congr_left;intro x _;simp
theorem z82 (s:ByteArray):bstr (bn s)=s:=by
 apply y71;rw[x2z];unfold bn;rw[List.map_map]
 conv=>rhs;rw[←List.map_id (bl s)]
 apply List.map_congr_left;intro x _;simp
structure Ce where
 k:ByteArray
 v:ByteArray
 n:Int
 p:Int
instance :Inhabited Ce:=⟨⟨ByteArray.empty,ByteArray.empty,0,0⟩⟩
def ca (cs:List Ce)(i:Nat):Ce:=cs.getD i default
def plB (c:Ce):Bool:=if c.n≤64 then decide ((c.v.size:Int)=c.n∧c.p=0) else decide (c.v.size=0∧2≤c.p∧c.p≤1023)
def mayB (c:Ce):Bool:=okK c.k&&(decide (c.n≤2048)&&plB c)
theorem y3v {c:Ce}(h:mayB c=true):0≤c.n:=by
 unfold mayB plB at h
 by_cases h1:c.n≤64
 ·simp[h1] at h;omega
 ·omega
theorem x20 {c:Ce}(h:mayB c=true):c.n≤2048:=by
 unfold mayB at h;simp at h;exact h.2.1
theorem x7j {c:Ce}(h:mayB c=true):1≤c.k.size∧c.k.size≤40:=by
 unfold mayB okK at h;simp at h;exact h.1
theorem x21 {c:Ce}(h:mayB c=true)(h1:c.n≤64):(c.v.size:Int)=c.n∧c.p=0:=by
 unfold mayB plB at h;simp[h1] at h;exact h.2.2
theorem x22 {c:Ce}(h:mayB c=true)(h1:¬c.n≤64):c.v.size=0∧2≤c.p∧c.p≤1023:=by
 unfold mayB plB at h;simp[h1] at h;exact⟨by rw[h.2.2.1];rfl,h.2.2.2⟩
def z54 (c:Ce):List Nat:=if c.n≤64 then bn c.v else [c.p.toNat/256%256,c.p.toNat%256]
def oneS (c:Ce):List Nat:=vb c.k.size++(bn c.k++(vb c.n.toNat++z54 c))
def z32 (k:ByteArray)(n:Int):Nat:=vs k.size+k.size+vs n.toNat+(if n≤64 then n.toNat else 2)
theorem y1u {c:Ce}(h:mayB c=true):(oneS c).length=z32 c.k c.n:=by
 have e1:(vb c.k.size).length=vs c.k.size:=rfl;have e2:(vb c.n.toNat).length=vs c.n.toNat:=rfl;unfold oneS z32 z54;rw[zla,zla,zla,z2h,e1,e2]
 by_cases h1:c.n≤64
 ·have:=x21 h h1;rw[if_pos h1,if_pos h1,z2h];omega
 ·rw[if_neg h1,if_neg h1];simp;omega
theorem q1w (c:Ce):B8 (z54 c):=by
 unfold z54;split
 ·exact x7i _
 ·intro x hx;simp at hx;omega
theorem q4j (c:Ce):B8 (oneS c):=(x7e _).append ((x7i _).append ((x7e _).append (q1w c)))
theorem q1x (c:Ce):1≤(oneS c).length:=by
 have e1:(vb c.k.size).length=vs c.k.size:=rfl;have:=z3n c.k.size;unfold oneS;rw[zla];omega
theorem x23 {c:Ce}(h:mayB c=true):z32 c.k c.n≤124:=by
 have:=x7j h;have:=x20 h;have h0:=y3v h;have h1:vs c.k.size≤10:=z52 (by omega);have h2:vs c.n.toNat≤10:=z52 (by omega);unfold z32;split<;>omega
def body:List Ce→List Nat
 | []=> []
 | c::r=>oneS c++body r
theorem x24 (cs:List Ce)(c:Ce):body (cs++[c])=body cs++oneS c:=by
 induction cs with
 | nil=>simp[body]
 | cons x r ih=>rw[List.cons_append,body,ih,body,List.append_assoc]
theorem x25:∀cs:List Ce,B8 (body cs)
 | []=>B8.nil
 | c::r=>(q4j c).append (x25 r)
theorem y8j:∀cs:List Ce,cs.length≤(body cs).length
 | []=>zlr _
 | c::r=>by
  have:=q1x c;have:=y8j r;rw[body,zla,List.length_cons];omega
def z1z (cs:List Ce):List Nat:=vb cs.length++body cs
theorem q1y (cs:List Ce):B8 (z1z cs):=(x7e _).append (x25 cs)
theorem z55 (cs:List Ce):(z1z cs).length=vs cs.length+(body cs).length:=by
 unfold z1z;rw[zla];rfl
def sums (cs:List Ce)(k:Nat):Nat:=(body (cs.take k)).length
theorem x26 (cs:List Ce)(k:Nat)(h:k<cs.length):cs.take (k+1)=cs.take k++[ca cs k]:=by
 rw[List.take_succ_eq_append_getElem h];simp[ca,List.getD,h]
theorem y3w (cs:List Ce)(k:Nat)(h:k<cs.length):body (cs.take (k+1))=body (cs.take k)++oneS (ca cs k):=by
 rw[x26 cs k h,x24]
theorem y3x (cs:List Ce)(k:Nat)(h:k<cs.length):sums cs (k+1)=sums cs k+(oneS (ca cs k)).length:=by
 unfold sums;rw[y3w cs k h,zla]
theorem y8k (cs:List Ce)(k:Nat)(h:cs.length≤k):sums cs k=(body cs).length:=by unfold sums;rw[zlw h]
theorem q0e (cs:List Ce)(i:Nat)(h:i<cs.length):ca cs i∈cs:=by
 unfold ca;simp[List.getD,h]
def z2m (cs:List Ce):Prop:=∀i,i<cs.length→mayB (ca cs i)=true
def x0l (cs:List Ce)(k:Nat):Prop:=∀i,0<i→i<k→blt (ca cs (i-1)).k (ca cs i).k=true
def asc (cs:List Ce):Prop:=x0l cs cs.length
theorem x0m {cs:List Ce}{k:Nat}(h:x0l cs k)(h1:0<k→blt (ca cs (k-1)).k (ca cs k).k=true):x0l cs (k+1):=fun i h0 hi=>by
 rcases zng i k with h2|h2
 ·exact h i h0 h2
 ·obtain rfl:i=k:=by omega
  exact h1 h0
theorem q1z {cs:List Ce}{k:Nat}(h0:0<k)(hk:k<cs.length)(h:blt (ca cs (k-1)).k (ca cs k).k=false):¬asc cs:=fun ha=>by
 have:=ha k h0 hk;rw[h] at this;cases this
theorem q10 {cs:List Ce}(h:z2m cs)(k:Nat)(hk:k≤cs.length):sums cs k≤124*k:=by
 induction k with
 | zero=>show(body (cs.take 0)).length≤_;simp[body]
 | succ k ih=>
  have h1:=y1u (h k (by omega));have h2:=x23 (h k (by omega));rw[y3x cs k (by omega)];have:=ih (by omega);omega
theorem x27 (cs:List Ce)(k:Nat):sums cs k≤(body cs).length:=by
 unfold sums;have h:=congrArg List.length (congrArg body (List.take_append_drop k cs));have:∀a b:List Ce,body (a++b)=body a++body b:=fun a b=>by
  induction a with
  | nil=>rfl
  | cons x r ih=>rw[List.cons_append,body,ih,body,List.append_assoc]
 rw[this,zla] at h;omega
open Classical in
/-- Encode's error.-/
noncomputable def encE (cs:List Ce):Nat:=if z2m cs then (if asc cs then (if (z1z cs).length≤504 then 0 else 5) else 14) else 1
noncomputable def encB (cs:List Ce):List Nat:=if encE cs=0 then z1z cs else []
theorem enc_1 {cs:List Ce}(h:¬z2m cs):encE cs=1∧encB cs=[]:=by
 have:encE cs=1:=by unfold encE;rw[if_neg h]
 exact⟨this,by unfold encB;rw[this];rfl⟩
theorem q4k {cs:List Ce}(h:z2m cs)(h2:¬asc cs):encE cs=14∧encB cs=[]:=by
 have:encE cs=14:=by unfold encE;rw[if_pos h,if_neg h2]
 exact⟨this,by unfold encB;rw[this];rfl⟩
theorem enc_5 {cs:List Ce}(h:z2m cs)(h2:asc cs)(h3:504<(z1z cs).length):encE cs=5∧encB cs=[]:=by
 have:encE cs=5:=by unfold encE;rw[if_pos h,if_pos h2,if_neg (by omega)]
 exact⟨this,by unfold encB;rw[this];rfl⟩
theorem q4l {cs:List Ce}(h:z2m cs)(h2:asc cs)(h3:(z1z cs).length≤504):encE cs=0∧encB cs=z1z cs:=by
 have:encE cs=0:=by unfold encE;rw[if_pos h,if_pos h2,if_pos h3]
 exact⟨this,by unfold encB;rw[this];rfl⟩
def z5b (l:List Nat):Option (Ce×List Nat):=
 let B:=z0g ⟨l,false⟩ 40
 let N:=numS B.2 2048
 if N.2.wr=true then none
 else if N.1≤64 then (if N.1≤N.2.l.length then some (⟨bstr B.1,bstr (N.2.l.take N.1),N.1,0⟩,N.2.l.drop N.1) else none)
 else if 2≤N.2.l.length then some (⟨bstr B.1,ByteArray.empty,N.1,(N.2.l.getD 0 0*256+N.2.l.getD 1 0:Nat)⟩,N.2.l.drop 2) else none
def decN:Nat→List Nat→Option (List Ce×List Nat)
 | 0,l=>some ([],l)
 | n+1,l=>match decN n l with
  | none=>none
  | some (cs,r)=>match z5b r with
   | none=>none
   | some (c,r2)=>if mayB c=true then some (cs++[c],r2) else none
theorem x28 {n m:Nat}{l:List Nat}(h:decN n l=none)(hm:n≤m):decN m l=none:=by
 induction m with
 | zero=>
  obtain rfl:n=0:=by omega
  exact h
 | succ m ih=>
  rcases zng n (m+1) with h1|h1
  ·rw[decN,ih (by omega)]
  ·obtain rfl:n=m+1:=by omega
   exact h
theorem y3y {n:Nat}{l r r2:List Nat}{cs:List Ce}{c:Ce}(h:decN n l=some (cs,r))(hc:z5b r=some (c,r2))(hm:mayB c=true):decN (n+1) l=some (cs++[c],r2):=by
 rw[decN,h];simp only[hc,hm,if_true]
theorem y3z {n:Nat}{l r:List Nat}{cs:List Ce}(h:decN n l=some (cs,r))(hc:z5b r=none):decN (n+1) l=none:=by
 rw[decN,h];simp only[hc]
theorem x7k {n:Nat}{l r r2:List Nat}{cs:List Ce}{c:Ce}(h:decN n l=some (cs,r))(hc:z5b r=some (c,r2))(hm:mayB c=false):decN (n+1) l=none:=by
 rw[decN,h];simp only[hc,hm];rfl
theorem x7l {n:Nat}{l r:List Nat}{cs:List Ce}(h:decN n l=some (cs,r)):∀c,c∈cs→mayB c=true:=by
 induction n generalizing cs r with
 | zero=>rw[decN] at h;cases h;intro c hc;cases hc
 | succ n ih=>
  rw[decN] at h;split at h
  ·cases h
  ·rename_i cs1 r1 h1
   split at h
   ·cases h
   ·split at h
    ·rename_i hm
     cases h
     intro c hc
     rcases List.mem_append.1 hc with h2|h2
     ·exact ih h1 c h2
     ·simp at h2;subst h2;exact hm
    ·cases h
open Classical in
/-- Decode's cells,if the bytes are a load.-/
noncomputable def decS (l:List Nat):Option (List Ce):=
 if 504<l.length then none else if (numS ⟨l,false⟩ 504).2.wr=true then none else match decN (numS ⟨l,false⟩ 504).1 (numS ⟨l,false⟩ 504).2.l with
  | none=>none
  | some (cs,r)=>if r=[]∧asc cs then some cs else none
theorem x29 {l:List Nat}(h:504<l.length):decS l=none:=by unfold decS;rw[if_pos h]
theorem q11 {l:List Nat}(h:(numS ⟨l,false⟩ 504).2.wr=true):decS l=none:=by
 unfold decS
 by_cases h1:504<l.length
 ·rw[if_pos h1]
 ·rw[if_neg h1,if_pos h]
theorem z83 {l:List Nat}{k:Nat}(h:decN k (numS ⟨l,false⟩ 504).2.l=none)(hk:k≤(numS ⟨l,false⟩ 504).1):decS l=none:=by
 have:=x28 h hk;unfold decS;rw[this];split
 ·rfl
 ·split<;>rfl
theorem y8l {l r:List Nat}{cs:List Ce}(h1:l.length≤504)(h2:(numS ⟨l,false⟩ 504).2.wr=false)(h:decN (numS ⟨l,false⟩ 504).1 (numS ⟨l,false⟩ 504).2.l=some (cs,r)):
  (r=[]→asc cs→decS l=some cs)∧(r≠[]→decS l=none)∧(¬asc cs→decS l=none):=by
 unfold decS;rw[if_neg (by omega),if_neg (by rw[h2];simp),h];simp only;refine⟨fun h3 h4=>by rw[if_pos ⟨h3,h4⟩],fun h3=>by rw[if_neg (fun h=>h3 h.1)],fun h3=>by rw[if_neg (fun h=>h3 h.2)]⟩
theorem y8m:∀(l x:List Nat),lead l≤lead (l++x)
 | [],_=>Nat.zero_le _
 | y::r,x=>by
  have:=y8m r x;rw[List.cons_append];unfold lead;split<;>omega
theorem q4m {l:List Nat}(x:List Nat)(h:(gt l).2.2=0):gt (l++x)=gt l:=by
 have hl:=y8h l h;have hc:¬(9≤lead l∧1<l.getD 9 0):=fun hx=>by rw[y8g hx.1 hx.2] at h;cases h
 have h2:¬l.length≤lead l:=fun hx=>by
  have h3:(gt l).2.2=6:=by unfold gt;rw[if_neg hc,if_pos hx]
  omega
 have h3:¬(0<lead l∧l.getD (lead l) 0=0):=fun hx=>by
  have h3:(gt l).2.2=3:=by unfold gt;rw[if_neg hc,if_neg h2,if_pos hx]
  omega
 have e:gt l=(valR (l.take (lead l+1)),lead l+1,0):=by unfold gt;rw[if_neg hc,if_neg h2,if_neg h3]
 have h9:lead l≤9:=by
  rcases zng 9 (lead l) with h4|h4
  ·have:=z8v l 9 h4;omega
  ·exact h4
 rw[e];have g:=z8w l x (lead l) (by omega);have:=y1r l (by omega);have e2:=x2r (l:=l++x) (k:=lead l) (y8m l x) (by rw[zla];omega) h9 (by rw[g];exact this) (fun hk=>by rw[g];rw[hk] at hc⊢;omega) (fun h0=>by rw[g];omega);rw[e2,List.take_append_of_le_length (by omega)]
theorem x7m {S:RS}{m:Nat}(x:List Nat)(b:Bool)(h:(numS S m).2.wr=false):numS ⟨S.l++x,b⟩ m=((numS S m).1,⟨(numS S m).2.l++x,false⟩):=by
 obtain⟨e,h1,h2⟩:=y6b h;have e2:=q4m x h1;have hl:=y8h _ h1;rw[z40 (by show(gt (S.l++x)).2.2=0;rw[e2];exact h1) (by show(gt (S.l++x)).1≤m;rw[e2];exact h2),e];show((gt (S.l++x)).1,RS.mk ((S.l++x).drop (gt (S.l++x)).2.1) false)=_;rw[e2,List.drop_append_of_le_length hl.2.1]
theorem y30 {S:RS}{m:Nat}(h:(z0g S m).2.wr=false):(numS S m).2.wr=false∧(numS S m).1≤(numS S m).2.l.length∧z0g S m=((numS S m).2.l.take (numS S m).1,⟨(numS S m).2.l.drop (numS S m).1,false⟩):=by
 by_cases hc:(numS S m).2.wr=false∧(numS S m).1≤(numS S m).2.l.length
 ·exact⟨hc.1,hc.2,z2n hc.1 hc.2⟩
 ·rw[z17 hc] at h;cases h
theorem y31 {S:RS}{m:Nat}(h:(z0g S m).2.wr=true):z0g S m=([],⟨[],true⟩):=by
 by_cases hc:(numS S m).2.wr=false∧(numS S m).1≤(numS S m).2.l.length
 ·rw[z2n hc.1 hc.2] at h;cases h
 ·exact z17 hc
theorem x0n {S:RS}{m:Nat}(x:List Nat)(b:Bool)(h:(z0g S m).2.wr=false):z0g ⟨S.l++x,b⟩ m=((z0g S m).1,⟨(z0g S m).2.l++x,false⟩):=by
 obtain⟨h1,h2,e⟩:=y30 h;have e2:=x7m x b h1;rw[z2n (by rw[e2]) (by rw[e2];show _≤(_++x).length;rw[zla];omega),e,e2];show((_++x).take _,RS.mk ((_++x).drop _) false)=_;rw[List.take_append_of_le_length h2,List.drop_append_of_le_length h2]
theorem y6h {l r:List Nat}{c:Ce}(h:z5b l=some (c,r)):(z0g ⟨l,false⟩ 40).2.wr=false∧(numS (z0g ⟨l,false⟩ 40).2 2048).2.wr=false:=by
 have h2:(numS (z0g ⟨l,false⟩ 40).2 2048).2.wr=false:=by
  cases hw:(numS (z0g ⟨l,false⟩ 40).2 2048).2.wr with
  | false=>rfl
  | true=>unfold z5b at h;simp only[hw,if_true] at h;cases h
 refine⟨?_,h2⟩
 cases hw:(z0g ⟨l,false⟩ 40).2.wr with
 | false=>rfl
 | true=>
  rw[y31 hw] at h2;have:=y1s 2048 (S:=⟨[],true⟩) rfl;rw[this] at h2
  cases h2
theorem y8n (l x:List Nat)(i:Nat)(h:i<l.length):(l++x).getD i 0=l.getD i 0:=z8w l x i h
theorem x7n (s:ByteArray)(h:s.size=0):s=ByteArray.empty:=by
 apply y71;have:=y6g s;rw[h] at this;rw[List.eq_nil_of_length_eq_zero this];rfl
theorem x3a {c:Ce}(h:mayB c=true)(r:List Nat):z5b (oneS c++r)=some (c,r):=by
 obtain⟨k,v,n,p⟩:=c;have hk:=x7j h;have hn0:=y3v h;have hn:=x20 h;have e:oneS ⟨k,v,n,p⟩++r=vb (bn k).length++(bn k++(vb n.toNat++(z54 ⟨k,v,n,p⟩++r))):=by
  unfold oneS;rw[z2h];simp only[List.append_assoc]
 have e1:=y0l (bn k) (vb n.toNat++(z54 ⟨k,v,n,p⟩++r)) false 40 (by rw[z2h];simp only at hk;omega) (by rw[z2h];simp only at hk;omega);have e2:=y1t n.toNat 2048 (z54 ⟨k,v,n,p⟩++r) false (by simp only at hn;omega) (by simp only at hn;omega);rw[e];unfold z5b;simp only[e1,e2,Bool.false_eq_true,if_false];simp only at hn0 hn
 by_cases h1:n≤64
 ·have h2:=x21 h h1;simp only at h2;have et:z54 ⟨k,v,n,p⟩=bn v:=by unfold z54;rw[if_pos h1]
  have el:(bn v).length=n.toNat:=by rw[z2h];omega
  rw[et,if_pos (by omega),if_pos (by rw[zla];omega),←el,List.take_left,List.drop_left,z82,z82];have e3:(((bn v).length:Nat):Int)=n:=by rw[el];omega
  rw[e3,h2.2]
 ·have h2:=x22 h h1;simp only at h2;have et:z54 ⟨k,v,n,p⟩=[p.toNat/256%256,p.toNat%256]:=by unfold z54;rw[if_neg h1]
  rw[et,if_neg (by omega),if_pos (by simp),z82,x7n v h2.1];have e3:(([p.toNat/256%256,p.toNat%256]++r).getD 0 0*256+([p.toNat/256%256,p.toNat%256]++r).getD 1 0:Nat)=p.toNat:=by
   show p.toNat/256%256*256+p.toNat%256=_;omega
  have e4:((p.toNat:Nat):Int)=p:=by omega
  have e5:((n.toNat:Nat):Int)=n:=by omega
  rw[e3,e4,e5]
  rfl
theorem x3b (cs:List Ce)(k:Nat)(h:k<cs.length):cs.drop k=ca cs k::cs.drop (k+1):=by
 rw[List.drop_eq_getElem_cons h];simp[ca,List.getD,h]
theorem x7o {cs:List Ce}(h:z2m cs)(r:List Nat)(k:Nat)(hk:k≤cs.length):decN k (body cs++r)=some (cs.take k,body (cs.drop k)++r):=by
 induction k with
 | zero=>rw[decN];rfl
 | succ k ih=>
  have h1:=ih (by omega);have e:body (cs.drop k)++r=oneS (ca cs k)++(body (cs.drop (k+1))++r):=by rw[x3b cs k (by omega),body,List.append_assoc]
  rw[x26 cs k (by omega)];exact y3y h1 (by rw[e];exact x3a (h k (by omega)) _) (h k (by omega))
theorem x3c {cs:List Ce}(h:z2m cs)(ha:asc cs)(hl:(z1z cs).length≤504):decS (z1z cs)=some cs:=by
 have hb:=y8j cs;have hll:=z55 cs;have e:=y1t cs.length 504 (body cs) false (by omega) (by omega);have e2:=x7o h [] cs.length (zlr _);rw[List.append_nil,List.append_nil,List.take_of_length_le (zlr _),List.drop_of_length_le (zlr _)] at e2;have:=y8l (l:=z1z cs) (r:=[]) (cs:=cs) hl (by unfold z1z;rw[e]) (by unfold z1z;rw[e];exact e2);exact this.1 rfl ha
theorem z3q {a b c:ByteArray}(h:blt a b=true)(k:blt b c=true):blt a c=true:=by
 rw[z4g] at*;grind
theorem x7p (a:ByteArray):blt a a=false:=by rw[z5h];grind
def z0w (S:RS):Nat→List Nat×RS
 | 0=>([],S)
 | n+1=>((z0w S n).1++[(z1y (z0w S n).2).1],(z1y (z0w S n).2).2)
theorem z3r (S:RS):∀n,(z0w S n).1.length=n
 | 0=>rfl
 | n+1=>by rw[z0w,zla,z3r S n];rfl
theorem z84 (l:List Nat):∀n,n≤l.length→z0w ⟨l,false⟩ n=(l.take n,⟨l.drop n,false⟩)
 | 0,_=>rfl
 | n+1,h=>by
  have h1:=z84 l n (by omega);have hne:l.drop n≠[]:=fun hx=>by have:=congrArg List.length hx;rw[zld] at this;simp at this;omega
  rw[z0w,h1,z3o hne];simp only;rw[List.drop_drop,List.take_succ_eq_append_getElem (by omega:n<l.length)];simp[List.getD,List.getElem?_drop,show n<l.length by omega]
theorem z7r (S:RS):∀n,S.l.length<n→(z0w S n).2=⟨[],true⟩
 | 0,h=>by omega
 | n+1,h=>by
  have key:∀m,S.l.length≤m→(z0w S m).2.l=[]:=by
   intro m
   induction m with
   | zero=>intro hm;show S.l=[];exact List.eq_nil_of_length_eq_zero (by omega)
   | succ m ih=>
    intro hm;rw[z0w]
    by_cases h0:(z0w S m).2.l=[]
    ·rw[z4n h0]
    ·rw[z3o h0];show(z0w S m).2.l.drop 1=[]
     have hd:∀m,m≤S.l.length→(z0w S m).2.l=S.l.drop m:=by
      intro m
      induction m with
      | zero=>intro _;rfl
      | succ m ih2=>
       intro hm;rw[z0w];have h3:=ih2 (by omega);have hne:(z0w S m).2.l≠[]:=fun hx=>by rw[h3] at hx;have:=congrArg List.length hx;rw[zld] at this;simp at this;omega
       rw[z3o hne];show(z0w S m).2.l.drop 1=_;rw[h3,List.drop_drop]
     rcases zng m S.l.length with h4|h4
     ·rw[hd m (by omega),List.drop_drop];exact List.drop_of_length_le (by omega)
     ·exact absurd (ih h4) h0
  rw[z0w,z4n (key n (by omega))]
def tkS (S:RS):Ce×RS:=
 let B:=z0g S 40
 let N:=numS B.2 2048
 if N.1≤64 then (⟨bstr B.1,bstr (z0w N.2 N.1).1,N.1,0⟩,(z0w N.2 N.1).2)
 else (⟨bstr B.1,ByteArray.empty,N.1,(numL (z0w N.2 2).1:Nat)⟩,(z0w N.2 2).2)
theorem x3d {l r:List Nat}{c:Ce}(h:z5b l=some (c,r)):tkS ⟨l,false⟩=(c,⟨r,false⟩):=by
 obtain⟨_,h2⟩:=y6h h;unfold z5b at h;unfold tkS;simp only at h⊢
 rw[h2] at h;have rs:∀x:RS,x.wr=false→x=⟨x.l,false⟩:=by rintro⟨a,b⟩ h;cases h;rfl
 have e:=rs _ h2;rw[e];generalize (numS (z0g ⟨l,false⟩ 40).2 2048).1=n at*;generalize (numS (z0g ⟨l,false⟩ 40).2 2048).2.l=q at*;simp only[Bool.false_eq_true,if_false] at h
 by_cases hn:n≤64
 ·rw[if_pos hn] at h⊢
  by_cases hq:n≤q.length
  ·rw[if_pos hq] at h
   cases h
   rw[z84 q n hq]
  ·rw[if_neg hq] at h;cases h
 ·rw[if_neg hn] at h⊢
  by_cases hq:2≤q.length
  ·rw[if_pos hq] at h
   cases h
   rw[z84 q 2 hq];have:numL (q.take 2)=q.getD 0 0*256+q.getD 1 0:=by
    match q,hq with
    | a::b::t,_=>show(0*256+a)*256+b=_;simp
   rw[this]
  ·rw[if_neg hq] at h;cases h
theorem x3e {l:List Nat}(h:z5b l=none):(tkS ⟨l,false⟩).2.wr=true:=by
 unfold z5b at h;unfold tkS;simp only at h⊢
 cases hw:(numS (z0g ⟨l,false⟩ 40).2 2048).2.wr with
 | true=>
  rw[x2t hw]
  rfl
 | false=>
  rw[hw] at h;simp only[Bool.false_eq_true,if_false] at h
  by_cases hn:(numS (z0g ⟨l,false⟩ 40).2 2048).1≤64
  ·rw[if_pos hn] at h⊢
   by_cases hq:(numS (z0g ⟨l,false⟩ 40).2 2048).1≤(numS (z0g ⟨l,false⟩ 40).2 2048).2.l.length
   ·rw[if_pos hq] at h;cases h
   ·simp only;rw[z7r _ _ (by omega)]
  ·rw[if_neg hn] at h⊢
   by_cases hq:2≤(numS (z0g ⟨l,false⟩ 40).2 2048).2.l.length
   ·rw[if_pos hq] at h;cases h
   ·simp only;rw[z7r _ _ (by omega)]
theorem tk_wr (b:Bool):mayB (tkS ⟨[],b⟩).1=false:=by
 have e:z0g ⟨[],b⟩ 40=([],⟨[],true⟩):=z17 (fun h=>by rw[y1s 40 (S:=⟨[],b⟩) rfl] at h;cases h.1);unfold tkS mayB;simp only[e];have:∀c:Ce,c.k=bstr []→okK c.k=false:=fun c h=>by rw[h];rfl
 split<;>rw[this _ rfl]<;>rfl
end Go.Proofs.YtifmepiahlodhaaGreatDoor
