/-
  Steps.
-/
import Derived.Test.YtdnfhjfbanhhcaaGreatDoorQLBk14
namespace Go.Proofs.YtdnfhjfbanhhcaaGreatDoor
open Go Go.RowKit
def z3d {α:Type}(E:Elt α)(w:World)(g:Nat)(es:List (List α)):Prop:=∀i,i<es.length→∃a c,w.cell? ⟨g,i,none⟩=some (.slice a (es.getD i []).length c)∧ES E w a (es.getD i [])∧(a=none→c=0)
section
variable {α:Type} {E:Elt α}
theorem z3d.below {w w':World}{g B:Nat}{es:List (List α)}(h:z3d E w g es)(hb:Below B w w')(hB:w.heap.size≤B):z3d E w' g es:=fun i hi=>by
 obtain⟨a,c,hc,hs,hz⟩:=h i hi;exact⟨a,c,by rw[hb.cell (p:=⟨g,i,none⟩) (Nat.lt_of_lt_of_le (block_lt_of_cell hc) hB)];exact hc,hs.below hb hB,hz⟩
def catE (es:List (List α))(k:Nat):Nat:=(es.take k).flatten.length
theorem z6o (es:List (List α))(k:Nat)(h:k<es.length):(es.take (k+1)).flatten=(es.take k).flatten++es.getD k []:=by
 rw[List.take_succ_eq_append_getElem h,List.flatten_append];simp[List.getD,h]
theorem z3u (es:List (List α))(k:Nat)(h:k<es.length):catE es (k+1)=catE es k+(es.getD k []).length:=by
 unfold catE;rw[z6o es k h,zla]
theorem y2n (es:List (List α))(k:Nat)(h:es.length≤k):catE es k=es.flatten.length:=by unfold catE;rw[zlw h]
theorem z7k (es:List (List α))(k:Nat):catE es k≤es.flatten.length:=by
 unfold catE;have h:=congrArg List.length (congrArg List.flatten (List.take_append_drop k es));rw[List.flatten_append,zla] at h;omega
end
set_option maxRecDepth 100000 in
theorem x4p (n:Nat)(w:World)(hn:n≤1099511627776):
  Calls Tryz.prog 193 #[.slice none 0 0,.int .i64 n] w fun e w'=>∃v,e=.returned v∧w'.ownsRow w.heap.size 119 (celE).sz v 0 ((celE).row [])∧Below w.heap.size w w':=by
 rcases Nat.eq_zero_or_pos n with h0|h0
 ·subst h0
  go_enter Tryz.func193,Tryz.ntmps193
  go_wp2;go_ret;exact⟨_,rfl,World.ownsRow_nil _ _ _ _,zbr _ _⟩
 ·obtain⟨i0,hi,hz0,hz1,hz2⟩:=info_parts y0x;have hold:(Builtin.firstCells i0.size 0 (.slice none 0 0)).run Tryz.prog w.drew=.ok ([]:List Value).toArray w.drew:=run_firstCells_none w.drew i0.size 0 0 0;have hrun:=fun ty=>Lib.run_append_grow_zeros w 79 3 ty 119 i0 (celE).zero .i64 .i64 Tryz.underlying79 Tryz.underlying3 hi hz0 none 0 0 [] hold n h0 (by rw[hz1];exact(celE).pos) (by omega) (by omega)
   (by rw[hz2];show n*56≤_;omega) (growslice_fits (by omega) (by rw[hz2];show _*56≤_;omega))
  have hG1:n≤grownCap w (0+n) 0 119:=by have:=grownCap_ge w (0+n) 0 119;omega
  have hG2:=grownCap_le_maxLen w (0+n) 0 119 (by unfold maxLen;omega);generalize grownCap w (0+n) 0 119=G at*;have hG3:G≤9223372036854775807:=by unfold maxLen at hG2;omega
  rw[Nat.zero_add] at hrun;obtain⟨w1,hw1⟩:∃w1,w1=w.drew.alloc (.cells (([]:List Value).toArray++Builtin.zeroCells (celE).zero.cells n++Builtin.zeroCells (celE).zero.cells (G-n)) 119):=⟨_,rfl⟩
  have hown:w1.ownsRow w.heap.size 119 (celE).sz (.slice (some ⟨w.heap.size,0,none⟩) 0 G) 0 ((celE).row []):=by
   rw[hw1];exact World.ownsRow_made w.drew _ G (zlr _) hG2 (by
    rw[Array.size_append,Array.size_append,size_zeroCells,size_zeroCells,(celE).zc];show 0+n*3+(G-n)*3=G*3;omega)
  have hb:Below w.heap.size w w1:=by rw[hw1];exact(zbr _ _).drew.alloc (zlr _) _
  rw[←hw1] at hrun;have Hown:=zh hown;have Hb:=zh hb;clear hold hw1 hown hb hG2 hi hz0 hz1 hz2
  go_enter Tryz.func193,Tryz.ntmps193
  go_wp2_with (at_builtin;refine Lib.wpList_append_run _ rfl _ _ _ _ rfl _ _ rfl rfl _ _ (hrun _) ?_)
  all_goals (go_ret;exact⟨_,rfl,Hown.out,Hb.out⟩)
set_option maxRecDepth 100000 in
theorem y6z (g n c:Nat)(es:List (List Rw))(hn:es.length=n)(w:World)(hp:z3d celE w g es)(hl:es.flatten.length≤1000000)(hk:n≤65536):
  Calls Tryz.prog 178 #[.slice (some ⟨g,0,none⟩) n c] w fun e w'=>∃v,e=.returned v∧EV celE w' v es.flatten∧Below w.heap.size w w':=by
 have Hp:=zh hp;have Hn:=zh hn;have Hl:=zh hl;clear hp hn hl
 go_enter Tryz.func178,Tryz.ntmps178
 go_wp2_with fail
 go_loop [3,5,11] (fun s _ i=>∃k t:Nat,k≤n∧i=.int .i64 k∧s=.int .i64 t∧Hid (t=catE es k)∧t≤1000000) (fun _ _ i=>n-(intOf i).toNat)
 case atStart=>exact⟨0,0,Nat.zero_le _,rfl,rfl,rfl,by omega⟩
 case round=>
  obtain⟨k,t,hkn,rfl,rfl,ht,ht1⟩:=hrel
  by_cases hlt:k<n
  ·obtain⟨a,c1,hc,_,_⟩:=Hp.out k (by rw[Hn.out];exact hlt);have hs:=z3u es k (by rw[Hn.out];exact hlt);have hle:=z7k es (k+1);have hll:=Hl.out;generalize (es.getD k []).length=m at*;have hm:t+m≤1000000:=by have:=ht.out;omega
   have ht2:Hid (t+m=catE es (k+1)):=by show _=_;rw[hs,ht.out]
   have hd:decide ((t:Int)+(m:Int)<0)=false:=by simp;omega
   clear hs hle hll ht;go_wp2
   go_round
   case rel=>exact⟨k+1,t+m,by omega,by go_num,by go_num,ht2,hm⟩
   case measure=>simp[intOf];omega
  ·obtain rfl:k=n:=by omega
   have ht2:Hid (t=es.flatten.length):=by show _=_;rw[ht.out,y2n es k (by rw[Hn.out];exact zlr _)]
   clear ht hlt;go_wp2_with fail;refine(x4p t w (by omega)).mono ?_;rintro e w1 ⟨v1,rfl,hown1,hb1⟩;have Ho1:=zh hown1;have Hb1:=zh hb1;clear hown1 hb1;go_wp2_with fail
   go_loopw [6,8,27] (fun o _ i wr=>∃(k2:Nat) (ov:Value),k2≤k∧o=ov∧i=.int .i64 k2∧Hid (wr.ownsRow w.heap.size 119 (celE).sz ov (es.take k2).flatten.length ((celE).row (es.take k2).flatten))∧Hid (Below w.heap.size w wr)) (fun _ _ i _=>k-(intOf i).toNat)
   case atStart=>exact⟨0,v1,Nat.zero_le _,rfl,rfl,by rw[List.take_zero];exact Ho1,Hb1⟩
   case round=>
    obtain⟨j,ov,hj,rfl,rfl,hown,hbel⟩:=hrel
    by_cases hlt:j<k
    ·obtain⟨a,c1,hc,hs,hz⟩:=(Hp.out.below hbel.out (zlr _)) j (by rw[Hn.out];exact hlt);have hcat:=z6o es j (by rw[Hn.out];exact hlt);have hlen:(es.take j).flatten.length+(es.getD j []).length≤1000000:=by
      have h1:=z7k es (j+1);rw[z3u es j (by rw[Hn.out];exact hlt)] at h1;have h2:=Hl.out;unfold catE at h1;omega
     have hsz:=hbel.out.size;obtain⟨v',w2,hrun,hb2,ho2⟩:=z08 (P:=Tryz.prog) (E:=celE) w.heap.size 79 79 119 Tryz.underlying79 y0x _ (es.take j).flatten.length (es.take j).flatten hown.out hsz a (es.getD j []).length c1 (es.getD j []) rfl hz hs (by unfold maxLen;omega) (by show _*56≤_;omega);have Hb2:=zh (hbel.out.trans hb2);have Ho2:Hid (w2.ownsRow w.heap.size 119 (celE).sz v' (es.take (j+1)).flatten.length ((celE).row (es.take (j+1)).flatten)):=by rw[hcat,zla];exact ho2
     clear hs hz hcat hlen hsz hb2 ho2 hown hbel;generalize (es.getD j []).length=M at*
     go_wp2_with (at_builtin;refine Lib.wpList_append_run _ rfl (.tmp 31) (.tmp 32) _ _ rfl _ _ (by rfl) (by rfl) _ _ hrun ?_)
     go_wp2
     go_roundw
     case rel=>exact⟨j+1,v',by omega,rfl,by go_num,Ho2,Hb2⟩
     case measure=>simp[intOf];omega
    ·obtain rfl:j=k:=by omega
     have ho:=z1u hown.out;rw[List.take_of_length_le (by rw[Hn.out];exact zlr _)] at ho;have ho:=zh ho;clear hown;go_wp2;go_ret;exact⟨_,rfl,ho.out,hbel.out⟩
set_option maxRecDepth 100000 in
theorem x4q (n:Nat)(w:World)(hn:n≤1099511627776):
  Calls Tryz.prog 195 #[.slice none 0 0,.int .i64 n] w fun e w'=>∃v,e=.returned v∧w'.ownsRow w.heap.size 26 (ptrE).sz v 0 ((ptrE).row [])∧Below w.heap.size w w':=by
 rcases Nat.eq_zero_or_pos n with h0|h0
 ·subst h0
  go_enter Tryz.func195,Tryz.ntmps195
  go_wp2;go_ret;exact⟨_,rfl,World.ownsRow_nil _ _ _ _,zbr _ _⟩
 ·obtain⟨i0,hi,hz0,hz1,hz2⟩:=info_parts x4b;have hold:(Builtin.firstCells i0.size 0 (.slice none 0 0)).run Tryz.prog w.drew=.ok ([]:List Value).toArray w.drew:=run_firstCells_none w.drew i0.size 0 0 0;have hrun:=fun ty=>Lib.run_append_grow_zeros w 81 3 ty 26 i0 (ptrE).zero .i64 .i64 Tryz.underlying81 Tryz.underlying3 hi hz0 none 0 0 [] hold n h0 (by rw[hz1];exact(ptrE).pos) (by omega) (by omega)
   (by rw[hz2];show n*8≤_;omega) (growslice_fits (by omega) (by rw[hz2];show _*8≤_;omega))
  have hG1:n≤grownCap w (0+n) 0 26:=by have:=grownCap_ge w (0+n) 0 26;omega
  have hG2:=grownCap_le_maxLen w (0+n) 0 26 (by unfold maxLen;omega);generalize grownCap w (0+n) 0 26=G at*;have hG3:G≤9223372036854775807:=by unfold maxLen at hG2;omega
  rw[Nat.zero_add] at hrun;obtain⟨w1,hw1⟩:∃w1,w1=w.drew.alloc (.cells (([]:List Value).toArray++Builtin.zeroCells (ptrE).zero.cells n++Builtin.zeroCells (ptrE).zero.cells (G-n)) 26):=⟨_,rfl⟩
  have hown:w1.ownsRow w.heap.size 26 (ptrE).sz (.slice (some ⟨w.heap.size,0,none⟩) 0 G) 0 ((ptrE).row []):=by
   rw[hw1];exact World.ownsRow_made w.drew _ G (zlr _) hG2 (by
    rw[Array.size_append,Array.size_append,size_zeroCells,size_zeroCells,(ptrE).zc];show 0+n*1+(G-n)*1=G*1;omega)
  have hb:Below w.heap.size w w1:=by rw[hw1];exact(zbr _ _).drew.alloc (zlr _) _
  rw[←hw1] at hrun;have Hown:=zh hown;have Hb:=zh hb;clear hold hw1 hown hb hG2 hi hz0 hz1 hz2
  go_enter Tryz.func195,Tryz.ntmps195
  go_wp2_with (at_builtin;refine Lib.wpList_append_run _ rfl _ _ _ _ rfl _ _ rfl rfl _ _ (hrun _) ?_)
  all_goals (go_ret;exact⟨_,rfl,Hown.out,Hb.out⟩)
set_option maxRecDepth 100000 in
theorem z35 (g n c:Nat)(es:List (List Nat))(hn:es.length=n)(w:World)(hp:z3d ptrE w g es)(hl:es.flatten.length≤1000000)(hk:n≤65536):
  Calls Tryz.prog 180 #[.slice (some ⟨g,0,none⟩) n c] w fun e w'=>∃v,e=.returned v∧EV ptrE w' v es.flatten∧Below w.heap.size w w':=by
 have Hp:=zh hp;have Hn:=zh hn;have Hl:=zh hl;clear hp hn hl
 go_enter Tryz.func180,Tryz.ntmps180
 go_wp2_with fail
 go_loop [3,5,11] (fun s _ i=>∃k t:Nat,k≤n∧i=.int .i64 k∧s=.int .i64 t∧Hid (t=catE es k)∧t≤1000000) (fun _ _ i=>n-(intOf i).toNat)
 case atStart=>exact⟨0,0,Nat.zero_le _,rfl,rfl,rfl,by omega⟩
 case round=>
  obtain⟨k,t,hkn,rfl,rfl,ht,ht1⟩:=hrel
  by_cases hlt:k<n
  ·obtain⟨a,c1,hc,_,_⟩:=Hp.out k (by rw[Hn.out];exact hlt);have hs:=z3u es k (by rw[Hn.out];exact hlt);have hle:=z7k es (k+1);have hll:=Hl.out;generalize (es.getD k []).length=m at*;have hm:t+m≤1000000:=by have:=ht.out;omega
   have ht2:Hid (t+m=catE es (k+1)):=by show _=_;rw[hs,ht.out]
   have hd:decide ((t:Int)+(m:Int)<0)=false:=by simp;omega
   clear hs hle hll ht;go_wp2
   go_round
   case rel=>exact⟨k+1,t+m,by omega,by go_num,by go_num,ht2,hm⟩
   case measure=>simp[intOf];omega
  ·obtain rfl:k=n:=by omega
   have ht2:Hid (t=es.flatten.length):=by show _=_;rw[ht.out,y2n es k (by rw[Hn.out];exact zlr _)]
   clear ht hlt;go_wp2_with fail;refine(x4q t w (by omega)).mono ?_;rintro e w1 ⟨v1,rfl,hown1,hb1⟩;have Ho1:=zh hown1;have Hb1:=zh hb1;clear hown1 hb1;go_wp2_with fail
   go_loopw [6,8,27] (fun o _ i wr=>∃(k2:Nat) (ov:Value),k2≤k∧o=ov∧i=.int .i64 k2∧Hid (wr.ownsRow w.heap.size 26 (ptrE).sz ov (es.take k2).flatten.length ((ptrE).row (es.take k2).flatten))∧Hid (Below w.heap.size w wr)) (fun _ _ i _=>k-(intOf i).toNat)
   case atStart=>exact⟨0,v1,Nat.zero_le _,rfl,rfl,by rw[List.take_zero];exact Ho1,Hb1⟩
   case round=>
    obtain⟨j,ov,hj,rfl,rfl,hown,hbel⟩:=hrel
    by_cases hlt:j<k
    ·obtain⟨a,c1,hc,hs,hz⟩:=(Hp.out.below hbel.out (zlr _)) j (by rw[Hn.out];exact hlt);have hcat:=z6o es j (by rw[Hn.out];exact hlt);have hlen:(es.take j).flatten.length+(es.getD j []).length≤1000000:=by
      have h1:=z7k es (j+1);rw[z3u es j (by rw[Hn.out];exact hlt)] at h1;have h2:=Hl.out;unfold catE at h1;omega
     have hsz:=hbel.out.size;obtain⟨v',w2,hrun,hb2,ho2⟩:=z08 (P:=Tryz.prog) (E:=ptrE) w.heap.size 81 81 26 Tryz.underlying81 x4b _ (es.take j).flatten.length (es.take j).flatten hown.out hsz a (es.getD j []).length c1 (es.getD j []) rfl hz hs (by unfold maxLen;omega) (by show _*8≤_;omega);have Hb2:=zh (hbel.out.trans hb2);have Ho2:Hid (w2.ownsRow w.heap.size 26 (ptrE).sz v' (es.take (j+1)).flatten.length ((ptrE).row (es.take (j+1)).flatten)):=by rw[hcat,zla];exact ho2
     clear hs hz hcat hlen hsz hb2 ho2 hown hbel;generalize (es.getD j []).length=M at*
     go_wp2_with (at_builtin;refine Lib.wpList_append_run _ rfl (.tmp 31) (.tmp 32) _ _ rfl _ _ (by rfl) (by rfl) _ _ hrun ?_)
     go_wp2
     go_roundw
     case rel=>exact⟨j+1,v',by omega,rfl,by go_num,Ho2,Hb2⟩
     case measure=>simp[intOf];omega
    ·obtain rfl:j=k:=by omega
     have ho:=z1u hown.out;rw[List.take_of_length_le (by rw[Hn.out];exact zlr _)] at ho;have ho:=zh ho;clear hown;go_wp2;go_ret;exact⟨_,rfl,ho.out,hbel.out⟩
set_option maxRecDepth 100000 in
theorem x4r (n:Nat)(w:World)(hn:n≤1099511627776):
  Calls Tryz.prog 194 #[.slice none 0 0,.int .i64 n] w fun e w'=>∃v,e=.returned v∧w'.ownsRow w.heap.size 9 (strE).sz v 0 ((strE).row [])∧Below w.heap.size w w':=by
 rcases Nat.eq_zero_or_pos n with h0|h0
 ·subst h0
  go_enter Tryz.func194,Tryz.ntmps194
  go_wp2;go_ret;exact⟨_,rfl,World.ownsRow_nil _ _ _ _,zbr _ _⟩
 ·obtain⟨i0,hi,hz0,hz1,hz2⟩:=info_parts y4o;have hold:(Builtin.firstCells i0.size 0 (.slice none 0 0)).run Tryz.prog w.drew=.ok ([]:List Value).toArray w.drew:=run_firstCells_none w.drew i0.size 0 0 0;have hrun:=fun ty=>Lib.run_append_grow_zeros w 80 3 ty 9 i0 (strE).zero .i64 .i64 Tryz.underlying80 Tryz.underlying3 hi hz0 none 0 0 [] hold n h0 (by rw[hz1];exact(strE).pos) (by omega) (by omega)
   (by rw[hz2];show n*16≤_;omega) (growslice_fits (by omega) (by rw[hz2];show _*16≤_;omega))
  have hG1:n≤grownCap w (0+n) 0 9:=by have:=grownCap_ge w (0+n) 0 9;omega
  have hG2:=grownCap_le_maxLen w (0+n) 0 9 (by unfold maxLen;omega);generalize grownCap w (0+n) 0 9=G at*;have hG3:G≤9223372036854775807:=by unfold maxLen at hG2;omega
  rw[Nat.zero_add] at hrun;obtain⟨w1,hw1⟩:∃w1,w1=w.drew.alloc (.cells (([]:List Value).toArray++Builtin.zeroCells (strE).zero.cells n++Builtin.zeroCells (strE).zero.cells (G-n)) 9):=⟨_,rfl⟩
  have hown:w1.ownsRow w.heap.size 9 (strE).sz (.slice (some ⟨w.heap.size,0,none⟩) 0 G) 0 ((strE).row []):=by
   rw[hw1];exact World.ownsRow_made w.drew _ G (zlr _) hG2 (by
    rw[Array.size_append,Array.size_append,size_zeroCells,size_zeroCells,(strE).zc];show 0+n*1+(G-n)*1=G*1;omega)
  have hb:Below w.heap.size w w1:=by rw[hw1];exact(zbr _ _).drew.alloc (zlr _) _
  rw[←hw1] at hrun;have Hown:=zh hown;have Hb:=zh hb;clear hold hw1 hown hb hG2 hi hz0 hz1 hz2
  go_enter Tryz.func194,Tryz.ntmps194
  go_wp2_with (at_builtin;refine Lib.wpList_append_run _ rfl _ _ _ _ rfl _ _ rfl rfl _ _ (hrun _) ?_)
  all_goals (go_ret;exact⟨_,rfl,Hown.out,Hb.out⟩)
set_option maxRecDepth 100000 in
theorem z36 (g n c:Nat)(es:List (List ByteArray))(hn:es.length=n)(w:World)(hp:z3d strE w g es)(hl:es.flatten.length≤1000000)(hk:n≤65536):
  Calls Tryz.prog 179 #[.slice (some ⟨g,0,none⟩) n c] w fun e w'=>∃v,e=.returned v∧EV strE w' v es.flatten∧Below w.heap.size w w':=by
 have Hp:=zh hp;have Hn:=zh hn;have Hl:=zh hl;clear hp hn hl
 go_enter Tryz.func179,Tryz.ntmps179
 go_wp2_with fail
 go_loop [3,5,11] (fun s _ i=>∃k t:Nat,k≤n∧i=.int .i64 k∧s=.int .i64 t∧Hid (t=catE es k)∧t≤1000000) (fun _ _ i=>n-(intOf i).toNat)
 case atStart=>exact⟨0,0,Nat.zero_le _,rfl,rfl,rfl,by omega⟩
 case round=>
  obtain⟨k,t,hkn,rfl,rfl,ht,ht1⟩:=hrel
  by_cases hlt:k<n
  ·obtain⟨a,c1,hc,_,_⟩:=Hp.out k (by rw[Hn.out];exact hlt);have hs:=z3u es k (by rw[Hn.out];exact hlt);have hle:=z7k es (k+1);have hll:=Hl.out;generalize (es.getD k []).length=m at*;have hm:t+m≤1000000:=by have:=ht.out;omega
   have ht2:Hid (t+m=catE es (k+1)):=by show _=_;rw[hs,ht.out]
   have hd:decide ((t:Int)+(m:Int)<0)=false:=by simp;omega
   clear hs hle hll ht;go_wp2
   go_round
   case rel=>exact⟨k+1,t+m,by omega,by go_num,by go_num,ht2,hm⟩
   case measure=>simp[intOf];omega
  ·obtain rfl:k=n:=by omega
   have ht2:Hid (t=es.flatten.length):=by show _=_;rw[ht.out,y2n es k (by rw[Hn.out];exact zlr _)]
   clear ht hlt;go_wp2_with fail;refine(x4r t w (by omega)).mono ?_;rintro e w1 ⟨v1,rfl,hown1,hb1⟩;have Ho1:=zh hown1;have Hb1:=zh hb1;clear hown1 hb1;go_wp2_with fail
   go_loopw [6,8,27] (fun o _ i wr=>∃(k2:Nat) (ov:Value),k2≤k∧o=ov∧i=.int .i64 k2∧Hid (wr.ownsRow w.heap.size 9 (strE).sz ov (es.take k2).flatten.length ((strE).row (es.take k2).flatten))∧Hid (Below w.heap.size w wr)) (fun _ _ i _=>k-(intOf i).toNat)
   case atStart=>exact⟨0,v1,Nat.zero_le _,rfl,rfl,by rw[List.take_zero];exact Ho1,Hb1⟩
   case round=>
    obtain⟨j,ov,hj,rfl,rfl,hown,hbel⟩:=hrel
    by_cases hlt:j<k
    ·obtain⟨a,c1,hc,hs,hz⟩:=(Hp.out.below hbel.out (zlr _)) j (by rw[Hn.out];exact hlt);have hcat:=z6o es j (by rw[Hn.out];exact hlt);have hlen:(es.take j).flatten.length+(es.getD j []).length≤1000000:=by
      have h1:=z7k es (j+1);rw[z3u es j (by rw[Hn.out];exact hlt)] at h1;have h2:=Hl.out;unfold catE at h1;omega
     have hsz:=hbel.out.size;obtain⟨v',w2,hrun,hb2,ho2⟩:=z08 (P:=Tryz.prog) (E:=strE) w.heap.size 80 80 9 Tryz.underlying80 y4o _ (es.take j).flatten.length (es.take j).flatten hown.out hsz a (es.getD j []).length c1 (es.getD j []) rfl hz hs (by unfold maxLen;omega) (by show _*16≤_;omega);have Hb2:=zh (hbel.out.trans hb2);have Ho2:Hid (w2.ownsRow w.heap.size 9 (strE).sz v' (es.take (j+1)).flatten.length ((strE).row (es.take (j+1)).flatten)):=by rw[hcat,zla];exact ho2
     clear hs hz hcat hlen hsz hb2 ho2 hown hbel;generalize (es.getD j []).length=M at*
     go_wp2_with (at_builtin;refine Lib.wpList_append_run _ rfl (.tmp 31) (.tmp 32) _ _ rfl _ _ (by rfl) (by rfl) _ _ hrun ?_)
     go_wp2
     go_roundw
     case rel=>exact⟨j+1,v',by omega,rfl,by go_num,Ho2,Hb2⟩
     case measure=>simp[intOf];omega
    ·obtain rfl:j=k:=by omega
     have ho:=z1u hown.out;rw[List.take_of_length_le (by rw[Hn.out];exact zlr _)] at ho;have ho:=zh ho;clear hown;go_wp2;go_ret;exact⟨_,rfl,ho.out,hbel.out⟩
theorem z0v {B:Nat}{a b:World}(h:Below B a b):Turn (fun i=>B≤i) a b:=⟨h.os,h.tape,h.output,h.size,fun i _ hF=>h.block i (by omega)⟩
set_option maxRecDepth 100000 in
theorem x8c (a:Option Addr)(n c:Nat)(l:List Rw)(p q:Nat)(a2:Option Addr)(n2 c2:Nat)(m:List Rw)(w:World)(hn:l.length=n)(hs:ES celE w a l)(hnc:n≤c)(hcm:c≤maxLen)(hz:a=none→c=0)
  (hpq:p+q≤n) (hn2:m.length=n2) (hz2:a2=none→c2=0) (hm:ES celE w a2 m) (hl:n≤1000000) (hl2:n2≤1000000):
  Calls Tryz.prog 111 #[.slice a n c,.int .i64 p,.int .i64 q,.slice a2 n2 c2] w fun e w'=>∃v,e=.returned v∧EV celE w' v (l.take p++(m++l.drop (p+q)))∧Below w.heap.size w w':=by
 have hbd:Below w.heap.size w w.drew:=(zbr _ _).drew;have hcm':c≤9223372036854775807:=by unfold maxLen at hcm;omega
 have z00:IntKind.i64.wrap 0=0:=by decide
 rcases hs with ⟨rfl,rfl⟩|⟨g,o,rfl,hc⟩
 ·obtain rfl:n=0:=hn.symm;obtain rfl:=hz rfl;obtain rfl:p=0:=by omega
  obtain rfl:q=0:=by omega
  obtain⟨v1,w1,v2,w2,h1,hb1,h2,hb12,hb2,hev⟩:=z2m (P:=Tryz.prog) (w:=w.drew) (E:=celE) 79 79 79 119 Tryz.underlying79 y0x none 0 [] rfl (ES.nil _) a2 n2 c2 m hn2 hz2 (hm.below hbd (zlr _)) none 0 0 [] rfl (fun _=>rfl) (ES.nil _) (by unfold maxLen;omega) (by show(0+n2+0)*56≤_;omega);have Hev:=zh hev;have Hb:=zh (hbd.trans hb2);have e1:=zh (z0v hb1);have e2:=zh (z0v hb12);clear hev hb1 hb2 hb12 hbd hm hn2 hz2 hl2 hn
  go_enter Tryz.func111,Tryz.ntmps111
  go_wp2_with fail;refine z0k (F:=fun i=>w.heap.size≤i) [(0,true),(1,true),(2,true),(3,true),(4,true),(6,true),(7,true),(8,true),(9,true),(10,true),(5,false),(11,false),(12,true)] (by kernel_rfl) (by kernel_rfl) (by kernel_rfl) (by kernel_rfl) (fun _ _ _ _ _ h=>h) ?_;iterate 10 (refine gtr (v:= ?_) rfl (by rfl) ?_ ?_;rotate_left;(intro w' hw';go_simp;with_reducible rfl);simp only[Act.put,zs0,zs1,zs2])
  refine gtc rfl (by rfl) (fun K hK=> ?_);refine z1g (.tmp 12) (.tmp 13) 79 rfl (by rfl) (by rfl) h1 ?_;refine hK _ _ e1.out ?_;simp only[Act.put,zs0,zs1,zs2];clear hK K h1;refine gtc rfl (by rfl) (fun K hK=> ?_);refine z1g (.tmp 14) (.tmp 19) 79 rfl (by rfl) (by rfl) h2 ?_;refine hK _ _ e2.out ?_;simp only[Act.put,zs0,zs1,zs2];clear hK K h2
  (refine gtr (v:= ?_) rfl (by rfl) ?_ ?_;rotate_left;(intro w' hw';go_simp;with_reducible rfl);simp only[Act.put,zs0,zs1,zs2])
  refine z0z ?_;go_wp2_with fail;go_ret;exact⟨_,rfl,Hev.out,Hb.out⟩
 ·have z1:IntKind.i64.wrap ((p:Int)+(q:Int))=((p+q:Nat):Int):=by rw[IntKind.wrap_i64];omega
  have z0:IntKind.i64.wrap (p:Int)=(p:Int):=by rw[IntKind.wrap_i64];omega
  obtain⟨r,hr⟩:∃r,r=p+q:=⟨_,rfl⟩
  rw[←hr] at z1⊢
  have z2:IntKind.i64.wrap (r:Int)=(r:Int):=by rw[IntKind.wrap_i64];omega
  have hs:ES celE w (some ⟨g,o,none⟩) l:=.inr ⟨g,o,rfl,hc⟩;obtain⟨A3,hA3⟩:∃A3,(if c=r then some (⟨g,o,none⟩:Addr) else some ⟨g,o+r*3,none⟩)=A3:=⟨_,rfl⟩
  have hs3:ES celE w A3 (l.drop r):=by
   rw[←hA3]
   by_cases h:c=r
   ·rw[if_pos h,List.drop_of_length_le (by omega)];exact .inr ⟨g,o,rfl,hc.1,fun j u hu=>by simp[Elt.row] at hu⟩
   ·rw[if_neg h];exact hs.drop r _ (by omega) (by show _=o+r*3;omega)
  have hz3:A3=none→c-r=0:=fun h=>by rw[←hA3] at h;split at h<;>cases h
  obtain⟨v1,w1,v2,w2,h1,hb1,h2,hb12,hb2,hev⟩:=z2m (P:=Tryz.prog) (w:=w.drew) (E:=celE) 79 79 79 119 Tryz.underlying79 y0x (some ⟨g,o,none⟩) p (l.take p) (by rw[zlk];omega) ((hs.take p).below hbd (zlr _)) a2 n2 c2 m hn2 hz2 (hm.below hbd (zlr _))
   A3 (n-r) (c-r) (l.drop r) (by rw[zld];omega) hz3 (hs3.below hbd (zlr _)) (by unfold maxLen;omega) (by show(p+n2+(n-r))*56≤_;omega)
  have Hev:=zh hev;have Hb:=zh (hbd.trans hb2);have e1:=zh (z0v hb1);have e2:=zh (z0v hb12);have i1:(0:Int)≤(p:Int):=by omega
  have i2:(p:Int)≤(c:Int):=by omega
  have i3:(r:Int)≤(n:Int):=by omega
  have i4:(0:Int)≤(r:Int):=by omega
  have i5:(n:Int)≤(c:Int):=by omega
  have j2:p≤c:=by omega
  have j3:r≤n:=by omega
  clear hev hb1 hb2 hb12 hbd hm hn2 hz2 hl2 hn hs hc hz hpq hr hs3 hz3
  go_enter Tryz.func111,Tryz.ntmps111
  go_wp2_with fail;refine z0k (F:=fun i=>w.heap.size≤i) [(0,true),(1,true),(2,true),(3,true),(4,true),(6,true),(7,true),(8,true),(9,true),(10,true),(5,false),(11,false),(12,true)] (by kernel_rfl) (by kernel_rfl) (by kernel_rfl) (by kernel_rfl) (fun _ _ _ _ _ h=>h) ?_;iterate 10 (refine gtr (v:= ?_) rfl (by rfl) ?_ ?_;rotate_left;(intro w' hw';go_simp;with_reducible rfl);simp only[Act.put,zs0,zs1,zs2])
  refine gtc rfl (by rfl) (fun K hK=> ?_);refine z1g (.tmp 12) (.tmp 13) 79 rfl (by rfl) (by rfl) h1 ?_;refine hK _ _ e1.out ?_;simp only[Act.put,zs0,zs1,zs2];clear hK K h1;refine gtc rfl (by rfl) (fun K hK=> ?_);refine z1g (.tmp 14) (.tmp 19) 79 rfl (by rfl) (by rfl) h2 ?_;refine hK _ _ e2.out ?_;simp only[Act.put,zs0,zs1,zs2];clear hK K h2
  (refine gtr (v:= ?_) rfl (by rfl) ?_ ?_;rotate_left;(intro w' hw';go_simp;with_reducible rfl);simp only[Act.put,zs0,zs1,zs2])
  refine z0z ?_;go_wp2_with fail;go_ret;exact⟨_,rfl,Hev.out,Hb.out⟩
set_option maxRecDepth 100000 in
theorem z49 (a:Option Addr)(n c:Nat)(l:List Nat)(p q:Nat)(a2:Option Addr)(n2 c2:Nat)(m:List Nat)(w:World)(hn:l.length=n)(hs:ES ptrE w a l)(hnc:n≤c)(hcm:c≤maxLen)(hz:a=none→c=0)
  (hpq:p+q≤n) (hn2:m.length=n2) (hz2:a2=none→c2=0) (hm:ES ptrE w a2 m) (hl:n≤1000000) (hl2:n2≤1000000):
  Calls Tryz.prog 148 #[.slice a n c,.int .i64 p,.int .i64 q,.slice a2 n2 c2] w fun e w'=>∃v,e=.returned v∧EV ptrE w' v (l.take p++(m++l.drop (p+q)))∧Below w.heap.size w w':=by
 have hbd:Below w.heap.size w w.drew:=(zbr _ _).drew;have hcm':c≤9223372036854775807:=by unfold maxLen at hcm;omega
 have z00:IntKind.i64.wrap 0=0:=by decide
 rcases hs with ⟨rfl,rfl⟩|⟨g,o,rfl,hc⟩
 ·obtain rfl:n=0:=hn.symm;obtain rfl:=hz rfl;obtain rfl:p=0:=by omega
  obtain rfl:q=0:=by omega
  obtain⟨v1,w1,v2,w2,h1,hb1,h2,hb12,hb2,hev⟩:=z2m (P:=Tryz.prog) (w:=w.drew) (E:=ptrE) 81 81 81 26 Tryz.underlying81 x4b none 0 [] rfl (ES.nil _) a2 n2 c2 m hn2 hz2 (hm.below hbd (zlr _)) none 0 0 [] rfl (fun _=>rfl) (ES.nil _) (by unfold maxLen;omega) (by show(0+n2+0)*8≤_;omega);have Hev:=zh hev;have Hb:=zh (hbd.trans hb2);have e1:=zh (z0v hb1);have e2:=zh (z0v hb12);clear hev hb1 hb2 hb12 hbd hm hn2 hz2 hl2 hn
  go_enter Tryz.func148,Tryz.ntmps148
  go_wp2_with fail;refine z0k (F:=fun i=>w.heap.size≤i) [(0,true),(1,true),(2,true),(3,true),(4,true),(6,true),(7,true),(8,true),(9,true),(10,true),(5,false),(11,false),(12,true)] (by kernel_rfl) (by kernel_rfl) (by kernel_rfl) (by kernel_rfl) (fun _ _ _ _ _ h=>h) ?_;iterate 10 (refine gtr (v:= ?_) rfl (by rfl) ?_ ?_;rotate_left;(intro w' hw';go_simp;with_reducible rfl);simp only[Act.put,zs0,zs1,zs2])
  refine gtc rfl (by rfl) (fun K hK=> ?_);refine z1g (.tmp 12) (.tmp 13) 81 rfl (by rfl) (by rfl) h1 ?_;refine hK _ _ e1.out ?_;simp only[Act.put,zs0,zs1,zs2];clear hK K h1;refine gtc rfl (by rfl) (fun K hK=> ?_);refine z1g (.tmp 14) (.tmp 19) 81 rfl (by rfl) (by rfl) h2 ?_;refine hK _ _ e2.out ?_;simp only[Act.put,zs0,zs1,zs2];clear hK K h2
  (refine gtr (v:= ?_) rfl (by rfl) ?_ ?_;rotate_left;(intro w' hw';go_simp;with_reducible rfl);simp only[Act.put,zs0,zs1,zs2])
  refine z0z ?_;go_wp2_with fail;go_ret;exact⟨_,rfl,Hev.out,Hb.out⟩
 ·have z1:IntKind.i64.wrap ((p:Int)+(q:Int))=((p+q:Nat):Int):=by rw[IntKind.wrap_i64];omega
  have z0:IntKind.i64.wrap (p:Int)=(p:Int):=by rw[IntKind.wrap_i64];omega
  obtain⟨r,hr⟩:∃r,r=p+q:=⟨_,rfl⟩
  rw[←hr] at z1⊢
  have z2:IntKind.i64.wrap (r:Int)=(r:Int):=by rw[IntKind.wrap_i64];omega
  have hs:ES ptrE w (some ⟨g,o,none⟩) l:=.inr ⟨g,o,rfl,hc⟩;obtain⟨A3,hA3⟩:∃A3,(if c=r then some (⟨g,o,none⟩:Addr) else some ⟨g,o+r,none⟩)=A3:=⟨_,rfl⟩
  have hs3:ES ptrE w A3 (l.drop r):=by
   rw[←hA3]
   by_cases h:c=r
   ·rw[if_pos h,List.drop_of_length_le (by omega)];exact .inr ⟨g,o,rfl,hc.1,fun j u hu=>by simp[Elt.row] at hu⟩
   ·rw[if_neg h];exact hs.drop r _ (by omega) (by show _=o+r*1;omega)
  have hz3:A3=none→c-r=0:=fun h=>by rw[←hA3] at h;split at h<;>cases h
  obtain⟨v1,w1,v2,w2,h1,hb1,h2,hb12,hb2,hev⟩:=z2m (P:=Tryz.prog) (w:=w.drew) (E:=ptrE) 81 81 81 26 Tryz.underlying81 x4b (some ⟨g,o,none⟩) p (l.take p) (by rw[zlk];omega) ((hs.take p).below hbd (zlr _)) a2 n2 c2 m hn2 hz2 (hm.below hbd (zlr _))
   A3 (n-r) (c-r) (l.drop r) (by rw[zld];omega) hz3 (hs3.below hbd (zlr _)) (by unfold maxLen;omega) (by show(p+n2+(n-r))*8≤_;omega)
  have Hev:=zh hev;have Hb:=zh (hbd.trans hb2);have e1:=zh (z0v hb1);have e2:=zh (z0v hb12);have i1:(0:Int)≤(p:Int):=by omega
  have i2:(p:Int)≤(c:Int):=by omega
  have i3:(r:Int)≤(n:Int):=by omega
  have i4:(0:Int)≤(r:Int):=by omega
  have i5:(n:Int)≤(c:Int):=by omega
  have j2:p≤c:=by omega
  have j3:r≤n:=by omega
  clear hev hb1 hb2 hb12 hbd hm hn2 hz2 hl2 hn hs hc hz hpq hr hs3 hz3
  go_enter Tryz.func148,Tryz.ntmps148
  go_wp2_with fail;refine z0k (F:=fun i=>w.heap.size≤i) [(0,true),(1,true),(2,true),(3,true),(4,true),(6,true),(7,true),(8,true),(9,true),(10,true),(5,false),(11,false),(12,true)] (by kernel_rfl) (by kernel_rfl) (by kernel_rfl) (by kernel_rfl) (fun _ _ _ _ _ h=>h) ?_;iterate 10 (refine gtr (v:= ?_) rfl (by rfl) ?_ ?_;rotate_left;(intro w' hw';go_simp;with_reducible rfl);simp only[Act.put,zs0,zs1,zs2])
  refine gtc rfl (by rfl) (fun K hK=> ?_);refine z1g (.tmp 12) (.tmp 13) 81 rfl (by rfl) (by rfl) h1 ?_;refine hK _ _ e1.out ?_;simp only[Act.put,zs0,zs1,zs2];clear hK K h1;refine gtc rfl (by rfl) (fun K hK=> ?_);refine z1g (.tmp 14) (.tmp 19) 81 rfl (by rfl) (by rfl) h2 ?_;refine hK _ _ e2.out ?_;simp only[Act.put,zs0,zs1,zs2];clear hK K h2
  (refine gtr (v:= ?_) rfl (by rfl) ?_ ?_;rotate_left;(intro w' hw';go_simp;with_reducible rfl);simp only[Act.put,zs0,zs1,zs2])
  refine z0z ?_;go_wp2_with fail;go_ret;exact⟨_,rfl,Hev.out,Hb.out⟩
set_option maxRecDepth 100000 in
theorem y2o (a:Option Addr)(n c:Nat)(l:List ByteArray)(p q:Nat)(a2:Option Addr)(n2 c2:Nat)(m:List ByteArray)(w:World)(hn:l.length=n)(hs:ES strE w a l)(hnc:n≤c)(hcm:c≤maxLen)(hz:a=none→c=0)
  (hpq:p+q≤n) (hn2:m.length=n2) (hz2:a2=none→c2=0) (hm:ES strE w a2 m) (hl:n≤1000000) (hl2:n2≤1000000):
  Calls Tryz.prog 150 #[.slice a n c,.int .i64 p,.int .i64 q,.slice a2 n2 c2] w fun e w'=>∃v,e=.returned v∧EV strE w' v (l.take p++(m++l.drop (p+q)))∧Below w.heap.size w w':=by
 have hbd:Below w.heap.size w w.drew:=(zbr _ _).drew;have hcm':c≤9223372036854775807:=by unfold maxLen at hcm;omega
 have z00:IntKind.i64.wrap 0=0:=by decide
 rcases hs with ⟨rfl,rfl⟩|⟨g,o,rfl,hc⟩
 ·obtain rfl:n=0:=hn.symm;obtain rfl:=hz rfl;obtain rfl:p=0:=by omega
  obtain rfl:q=0:=by omega
  obtain⟨v1,w1,v2,w2,h1,hb1,h2,hb12,hb2,hev⟩:=z2m (P:=Tryz.prog) (w:=w.drew) (E:=strE) 80 80 80 9 Tryz.underlying80 y4o none 0 [] rfl (ES.nil _) a2 n2 c2 m hn2 hz2 (hm.below hbd (zlr _)) none 0 0 [] rfl (fun _=>rfl) (ES.nil _) (by unfold maxLen;omega) (by show(0+n2+0)*16≤_;omega);have Hev:=zh hev;have Hb:=zh (hbd.trans hb2);have e1:=zh (z0v hb1);have e2:=zh (z0v hb12);clear hev hb1 hb2 hb12 hbd hm hn2 hz2 hl2 hn
  go_enter Tryz.func150,Tryz.ntmps150
  go_wp2_with fail;refine z0k (F:=fun i=>w.heap.size≤i) [(0,true),(1,true),(2,true),(3,true),(4,true),(6,true),(7,true),(8,true),(9,true),(10,true),(5,false),(11,false),(12,true)] (by kernel_rfl) (by kernel_rfl) (by kernel_rfl) (by kernel_rfl) (fun _ _ _ _ _ h=>h) ?_;iterate 10 (refine gtr (v:= ?_) rfl (by rfl) ?_ ?_;rotate_left;(intro w' hw';go_simp;with_reducible rfl);simp only[Act.put,zs0,zs1,zs2])
  refine gtc rfl (by rfl) (fun K hK=> ?_);refine z1g (.tmp 12) (.tmp 13) 80 rfl (by rfl) (by rfl) h1 ?_;refine hK _ _ e1.out ?_;simp only[Act.put,zs0,zs1,zs2];clear hK K h1;refine gtc rfl (by rfl) (fun K hK=> ?_);refine z1g (.tmp 14) (.tmp 19) 80 rfl (by rfl) (by rfl) h2 ?_;refine hK _ _ e2.out ?_;simp only[Act.put,zs0,zs1,zs2];clear hK K h2
  (refine gtr (v:= ?_) rfl (by rfl) ?_ ?_;rotate_left;(intro w' hw';go_simp;with_reducible rfl);simp only[Act.put,zs0,zs1,zs2])
  refine z0z ?_;go_wp2_with fail;go_ret;exact⟨_,rfl,Hev.out,Hb.out⟩
 ·have z1:IntKind.i64.wrap ((p:Int)+(q:Int))=((p+q:Nat):Int):=by rw[IntKind.wrap_i64];omega
  have z0:IntKind.i64.wrap (p:Int)=(p:Int):=by rw[IntKind.wrap_i64];omega
  obtain⟨r,hr⟩:∃r,r=p+q:=⟨_,rfl⟩
  rw[←hr] at z1⊢
  have z2:IntKind.i64.wrap (r:Int)=(r:Int):=by rw[IntKind.wrap_i64];omega
  have hs:ES strE w (some ⟨g,o,none⟩) l:=.inr ⟨g,o,rfl,hc⟩;obtain⟨A3,hA3⟩:∃A3,(if c=r then some (⟨g,o,none⟩:Addr) else some ⟨g,o+r,none⟩)=A3:=⟨_,rfl⟩
  have hs3:ES strE w A3 (l.drop r):=by
   rw[←hA3]
   by_cases h:c=r
   ·rw[if_pos h,List.drop_of_length_le (by omega)];exact .inr ⟨g,o,rfl,hc.1,fun j u hu=>by simp[Elt.row] at hu⟩
   ·rw[if_neg h];exact hs.drop r _ (by omega) (by show _=o+r*1;omega)
  have hz3:A3=none→c-r=0:=fun h=>by rw[←hA3] at h;split at h<;>cases h
  obtain⟨v1,w1,v2,w2,h1,hb1,h2,hb12,hb2,hev⟩:=z2m (P:=Tryz.prog) (w:=w.drew) (E:=strE) 80 80 80 9 Tryz.underlying80 y4o (some ⟨g,o,none⟩) p (l.take p) (by rw[zlk];omega) ((hs.take p).below hbd (zlr _)) a2 n2 c2 m hn2 hz2 (hm.below hbd (zlr _))
   A3 (n-r) (c-r) (l.drop r) (by rw[zld];omega) hz3 (hs3.below hbd (zlr _)) (by unfold maxLen;omega) (by show(p+n2+(n-r))*16≤_;omega)
  have Hev:=zh hev;have Hb:=zh (hbd.trans hb2);have e1:=zh (z0v hb1);have e2:=zh (z0v hb12);have i1:(0:Int)≤(p:Int):=by omega
  have i2:(p:Int)≤(c:Int):=by omega
  have i3:(r:Int)≤(n:Int):=by omega
  have i4:(0:Int)≤(r:Int):=by omega
  have i5:(n:Int)≤(c:Int):=by omega
  have j2:p≤c:=by omega
  have j3:r≤n:=by omega
  clear hev hb1 hb2 hb12 hbd hm hn2 hz2 hl2 hn hs hc hz hpq hr hs3 hz3
  go_enter Tryz.func150,Tryz.ntmps150
  go_wp2_with fail;refine z0k (F:=fun i=>w.heap.size≤i) [(0,true),(1,true),(2,true),(3,true),(4,true),(6,true),(7,true),(8,true),(9,true),(10,true),(5,false),(11,false),(12,true)] (by kernel_rfl) (by kernel_rfl) (by kernel_rfl) (by kernel_rfl) (fun _ _ _ _ _ h=>h) ?_;iterate 10 (refine gtr (v:= ?_) rfl (by rfl) ?_ ?_;rotate_left;(intro w' hw';go_simp;with_reducible rfl);simp only[Act.put,zs0,zs1,zs2])
  refine gtc rfl (by rfl) (fun K hK=> ?_);refine z1g (.tmp 12) (.tmp 13) 80 rfl (by rfl) (by rfl) h1 ?_;refine hK _ _ e1.out ?_;simp only[Act.put,zs0,zs1,zs2];clear hK K h1;refine gtc rfl (by rfl) (fun K hK=> ?_);refine z1g (.tmp 14) (.tmp 19) 80 rfl (by rfl) (by rfl) h2 ?_;refine hK _ _ e2.out ?_;simp only[Act.put,zs0,zs1,zs2];clear hK K h2
  (refine gtr (v:= ?_) rfl (by rfl) ?_ ?_;rotate_left;(intro w' hw';go_simp;with_reducible rfl);simp only[Act.put,zs0,zs1,zs2])
  refine z0z ?_;go_wp2_with fail;go_ret;exact⟨_,rfl,Hev.out,Hb.out⟩
theorem x8d (a:Option Addr)(n c:Nat)(l:List En)(p q:Nat)(a2:Option Addr)(n2 c2:Nat)(m:List En)(w:World)(hn:l.length=n)(hs:CS w a l)(hnc:n≤c)(hcm:c≤maxLen)(hz:a=none→c=0)
  (hpq:p+q≤n) (hn2:m.length=n2) (hz2:a2=none→c2=0) (hm:CS w a2 m) (hl:n≤1000000) (hl2:n2≤1000000):
  Calls Tryz.prog 111 #[.slice a n c,.int .i64 p,.int .i64 q,.slice a2 n2 c2] w fun e w'=>∃v,e=.returned v∧CV w' v (l.take p++(m++l.drop (p+q)))∧Below w.heap.size w w':=by
 obtain⟨xs,h1,h2⟩:=hs;obtain⟨ys,k1,k2⟩:=hm;refine(x8c a n c xs p q a2 n2 c2 ys w (by rw[h2.len];exact hn) h1 hnc hcm hz hpq (by rw[k2.len];exact hn2) hz2 k1 hl hl2).mono ?_;rintro e w' ⟨v,rfl,hev,hb⟩;exact⟨v,rfl,q6n hev (((h2.take p).app (k2.app (h2.drop _))).below hb (zlr _)),hb⟩
end Go.Proofs.YtdnfhjfbanhhcaaGreatDoor
