/-
  Steps.
-/
import Derived.RangeFuncNested
import Derived.RangeFuncBox
import Derived.RangeFuncBound
import Derived.RangeFuncLeaves
import Derived.Shelf.Abstract
import Derived.OwnWalkIn
import Derived.TacticsInMore
import Derived.LoopNIn
import Derived.LoopIn
import Derived.Maps.AppendAt
import Derived.Test.YtdnfhjfbanhhcaaGreatDoorQLBk20
namespace Go.Proofs.YtdnfhjfbanhhcaaGreatDoor
open Go Go.RowKit Go.Shelf
attribute [local go_sem] Oper.semAt_some
abbrev CST:TypeId:=9
abbrev CSS:TypeId:=80
set_option maxRecDepth 100000 in
set_option maxHeartbeats 2000000 in
/-- The iterator's closure:for every loop body that keeps the value's box.-/
theorem x02 (F:Fence)(n:Nat)(h21:F.fn 181)(hro:F.round=none)(hn:1≤n)(l Bv:Nat)(V:ByteArray)(hV:V.size≤1000000)(J Jx:List ByteArray→World→Prop)
  (hY:∀pre x W,J pre W→pre.length<nP V.size→YieldAt F (n-1) Tryz.prog l #[.string x] W fun e W'=>
   (e=.returned (.bool true)∧J (pre++[x]) W'∧(Boxed W Bv CST (.string V)→Boxed W' Bv CST (.string V)))∨(e=.returned (.bool false)∧Jx (pre++[x]) W'))
  (W:World) (hb:Boxed W Bv CST (.string V)) (h0:J [] W):
  CallsIn F n Tryz.prog 181 #[.func (.yield l) #[] #[],.pointer (some ⟨Bv,0,none⟩)] W fun e W'=>(∃v,e=.returned v)∧
   ((∃ys,ys=chs V∧J ys W')∨(∃pre,pre<+:chs V∧Jx pre W')):=by
 have HY:=zh hY;have Hb:=zh hb;have H0:=zh h0;clear hY hb h0;refine callsIn_of_wp Tryz.func181 rfl h21 ?_ hro;simp only[Tryz.ntmps181,List.size_toArray,List.length_cons,List.length_nil,Nat.reduceAdd,Nat.reduceSub,Array.replicate_succ,Array.replicate_zero,List.push_toArray,List.append_toArray,List.nil_append,List.cons_append]
 gi_wp2
 gi_loopw [3] (fun i wr=>∃k A:Nat,i=.int .i64 A∧Hid (A=502*k∧k≤nP V.size)∧Hid (J (pcT V k) wr)∧Hid (Boxed wr Bv CST (.string V)))
  (fun i _=>V.size-(intOf i).toNat)
 case atStart=>exact⟨0,0,rfl,⟨rfl,Nat.zero_le _⟩,H0.out,Hb.out⟩
 case round=>
  obtain⟨k,A,rfl,hk,hJ,hB⟩:=hrel;have c0:=hB.out.cell
  by_cases hlt:A<V.size
  ·obtain⟨E,hE⟩:∃E,E=min (A+502) V.size:=⟨_,rfl⟩
   have hkn:Hid (k<nP V.size):=y6o.2 (by have:=hk.out.1;omega);have hcut:Hid (V.extract A E=cutS V k):=by show _=_;unfold cutS;rw[hE,hk.out.1]
   have e1:min ((A:Int)+502) (V.size:Int)=(E:Int):=by omega
   have z1:A≤E:=by omega
   have z2:E≤V.size:=by omega
   have hm:Hid (V.size-(A+502)<V.size-A):=by show _<_;omega
   have HE:=zh hE;clear hE;obtain⟨fn,tmps,assign,body,hy,hR⟩:=HY.out (pcT V k) (V.extract A E) wr hJ.out (by rw[x3s];exact hkn.out)
   gi_wp2
   refine hR.mono ?_;rintro e W3 (⟨rfl,hJ3,hk3⟩|⟨rfl,hJx3⟩)
   ·have HJ3:=zh hJ3;have HB3:=zh (hk3 hB.out);clear hJ3 hk3
    gi_wp2
    go_roundw
    case rel=>exact⟨k+1,A+502,by go_num,⟨by rw[hk.out.1];omega,hkn.out⟩,by rw[y8s,←hcut.out];exact HJ3.out,HB3.out⟩
    case measure=>simp[intOf];omega
   ·have HJx:=zh hJx3;clear hJx3
    gi_wp2
    refine bodyPost_ret (results_none rfl _ _ _) rfl ?_;refine⟨⟨_,rfl⟩,.inr ⟨_,?_,HJx.out⟩⟩;rw[hcut.out,←y8s];refine⟨((List.range (nP V.size)).drop (k+1)).map (cutS V),?_⟩;unfold chs pcT;have e2:List.range (k+1)=(List.range (nP V.size)).take (k+1):=by rw[List.take_range,Nat.min_eq_left hkn.out]
    rw[e2,←List.map_append,List.take_append_drop]
  ·have hkk:Hid (k=nP V.size):=by
    have h1:=hk.out;have h2:= @y6o V.size k;show _=_;omega
   gi_wp2
   go_end0
   exact⟨⟨_,rfl⟩,.inl ⟨_,rfl,by have:=hJ.out;rw[hkk.out] at this;exact this⟩⟩
set_option maxHeartbeats 1000000 in
/-- parted:the value is boxed;the function value captures the box.-/
theorem x44 (F:Fence)(n:Nat)(h15:F.fn 151)(hro:F.round=none)(V:ByteArray)(w:World):
  CallsIn F n Tryz.prog 151 #[.string V] w fun e w'=>e=.returned (.func (.func 181) #[] #[.pointer (some ⟨w.heap.size,0,none⟩)])∧w'=w.alloc (.cells #[.string V] CST):=by
 refine callsIn_of_wp Tryz.func151 rfl h15 ?_ hro;simp only[Tryz.ntmps151,List.size_toArray,List.length_cons,List.length_nil,Nat.reduceAdd,Nat.reduceSub,Array.replicate_succ,Array.replicate_zero,List.push_toArray,List.append_toArray,List.nil_append,List.cons_append]
 gi_wp2
 go_ret;exact⟨rfl,rfl⟩
theorem y48 (F:Fence)(n:Nat)(h21:F.fn 181)(hro:F.round=none)(hn:1≤n)(Bv:Nat)(V:ByteArray)(hV:V.size≤1000000)(w:World)(hb:Boxed w Bv CST (.string V)):
  SeqStopsK F n Tryz.prog 181 #[.pointer (some ⟨Bv,0,none⟩)] (fun x:ByteArray=> #[Value.string x]) (fun A B=>Boxed A Bv CST (.string V)→Boxed B Bv CST (.string V)) (fun ys=>ys=chs V) (fun pre=>pre<+:chs V) (nP V.size) w:=fun l J Jx W hW _ _ hY h0=>
 x02 F n h21 hro hn l Bv V hV J Jx hY W ((hW.block Bv hb.lt).trans hb) h0
theorem y69 {w:World}{B B' E sz n:Nat}{v:Value}{xs:List Value}(h:w.ownsRow B E sz v n xs)(hb:B'≤B):w.ownsRow B' E sz v n xs:=by
 obtain⟨h1,h2⟩:=h;refine⟨h1,?_⟩
 rcases h2 with h3|⟨g,cap,cur,e1,e2,h3⟩
 ·exact .inl h3
 ·exact .inr ⟨g,cap,cur,e1,znt hb e2,h3⟩
set_option maxRecDepth 100000 in
set_option maxHeartbeats 2000000 in
theorem x45 (F:Fence)(n:Nat)(h7:F.fn 113)(h15:F.fn 151)(h21:F.fn 181)(hro:F.round=none)(hn:3≤n)(V:ByteArray)(hV:V.size≤1000000)(w:World):
  CallsIn F n Tryz.prog 113 #[.string V] w fun e W'=>∃v,e=.returned v∧W'.ownsRow w.heap.size CST 1 v (chs V).length (sv (chs V))∧Below w.heap.size w W':=by
 have h1:1≤n:=by omega
 have hN:Hid (nP V.size≤2000):=by show _≤_;unfold nP;omega
 obtain⟨i0,hi,hz0,hz1,hz2⟩:=info_parts x2k;refine callsIn_of_wp_marks Tryz.func113 rfl h7 ?_ hro;simp only[Tryz.ntmps113,List.size_toArray,List.length_cons,List.length_nil,Nat.reduceAdd,Nat.reduceSub,Array.replicate_succ,Array.replicate_zero,List.push_toArray,List.append_toArray,List.nil_append,List.cons_append]
 gi_wp2_with (gi_at_call 151;refine(x44 F (n-1) h15 hro _ _).mono ?_;rintro e w' ⟨rfl,rfl⟩)
 have bO:=Boxed.new w CSS (.slice none 0 0);have bN:=Boxed.new (w.alloc (.cells #[.slice none 0 0] CSS)) CST (.string V);rw[World.size_alloc] at bN;have hB0:Below w.heap.size w ((w.alloc (.cells #[.slice none 0 0] CSS)).alloc (.cells #[.string V] CST)):=((zbr _ w).alloc (zlr _) _).alloc (by simp) _;refine wpIn_rangeFunc_ownG hro h1 (gf:=181) (lb:= #[.pointer (some ⟨w.heap.size+1,0,none⟩)]) rfl h21 (enters_of Tryz.func181 (by kernel_rfl) rfl)
  (y48 F (n-1) h21 hro (by omega) (w.heap.size+1) V hV _ bN) (fun h k a=>k (h a)) (fun W l o o' _ hl ho _ hbx=>Boxed.kept hbx (grownBy_putObj' W l o') (fun e=>by
   cases e
   rw[show W.heap[w.heap.size+1]? =_ from hbx] at hl
   cases hl;cases ho)) (zbr _ _) (fun _=>rfl)
  (fun pre W=>(∃v,Boxed W w.heap.size CSS v∧W.ownsRow (w.heap.size+2) CST 1 v pre.length (sv pre)∧True)∧Below w.heap.size w W∧w.heap.size+2≤W.heap.size)
  (fun _ _ _=>False)
  (OwnFrom.and (Own.from (holdsRow_own (w.heap.size+2) w.heap.size CSS CST 1 (fun pre=>pre.length) (fun pre=>sv pre) (fun _ _=>True)) _) (OwnFrom.and (ownFrom_below (zlr _) (by simp;omega)) (fun _ _ _ _ hs hg _=>znt hs hg.size)))
  (fun _ _ _ _ _ hs _ _=>hs)
  ⟨⟨_,bO.alloc _,World.ownsRow_nil _ _ _ _,trivial⟩,hB0,by simp⟩
  (fun x=>{tmps:= #[.string V,undef,.slice none 0 0,.pointer (some ⟨w.heap.size,0,none⟩),.string x,.string V,.func (.func 181) #[] #[.pointer (some ⟨w.heap.size+1,0,none⟩)],.string x,undef,undef,undef,undef,undef],defers:=[]}) ?assign ?body ?done ?stop
 case assign=>
  intro l x W K hK
  gi_wp2
  exact hK
 case body=>
  rintro l pre x W ⟨⟨v,hv,hrow,_⟩,hB,hsz⟩ hlt;have hc:=hv.cell;have hlt2:=Nat.lt_of_lt_of_le hlt hN.out
  gi_wp2_with (gi_at_builtin;refine wpListIn_append_own _ rfl _ _ CSS rfl (w.heap.size+2) CST i0 (.string ⟨#[]⟩) 1 16 Tryz.underlying80 hi hz0 hz1 hz2 rfl (by decide) _ _ _ rfl (hrow.alloc _) ⟨W.heap.size,0,none⟩ 1 1 [.string x] rfl rfl (cell_one_new _ _ _) (by simp[Value.oneCell']) (by unfold maxLen;omega) (by omega) (by simp;omega) ?_;intro v' w1 hown' hgrow _;obtain⟨g',cap',rfl⟩:=ownsRow_succ hown';obtain⟨hv1,hv2,_,hk2,hb2⟩:=hv.appended (by decide) (y69 hrow (by omega)) hB.size (zlr _) (y69 hown' (by omega)) hgrow;have hc1:=hv1.cell;have hf1:=hv1.frozen)
  refine⟨hk2.from _,fun hbx=> ?_,⟨_,hv2,?_,trivial⟩,hB.trans hb2,znt hsz hb2.size⟩
  ·have h3:Boxed w1 (w.heap.size+1) CST (.string V):=(hbx.alloc _).kept hgrow (fun e=>by
    have:=(hrow.lt _ e.symm).1;omega)
   exact h3.other (by omega) _
  ·have:=hown'.kept (grownBy_setCell' w1 w.heap.size (.slice (some ⟨g',0,none⟩) (pre.length+1) cap')) (.inr (hv1.not_row (by decide) hown').symm);rw[zla,show sv (pre++[x])=sv pre++[.string x] from List.map_append];exact this
 case done=>
  rintro D ys W hD rfl ⟨⟨v,hv,hrow,_⟩,hB,_⟩ hK;have hc:=hv.cell
  gi_wp2
  refine⟨by simp,.inl ⟨_,_,rfl,run_takeDeferred hK,?_⟩⟩;exact⟨_,results_tmp rfl _ _ _,v,rfl,y69 (ownsRow_putObj hrow _ hK rfl) (by omega),hB.trans (belowK_b (w:=w) (zlr _) W D _ _ (by simp at hD;omega) hK rfl rfl)⟩
 case stop=>
  rintro D c pre W _ _ h _;exact h.elim
end Go.Proofs.YtdnfhjfbanhhcaaGreatDoor
namespace Go.Proofs.YtdnfhjfbanhhcaaGreatDoor
open Go Go.RowKit
def CIn (w:World)(b:Nat)(T:TypeId)(c:Ce):Prop:=w.heap[b]? =some (.cells #[.string c.k,.string c.v,.int .i64 c.n,.int .i64 c.p] T (0,0))
theorem CIn.c0 {w:World}{b:Nat}{T:TypeId}{c:Ce}(h:CIn w b T c):w.cell? ⟨b,0,none⟩=some (.string c.k):=by
 have h':w.heap[b]? =_:=h;simp[World.cell?,h']
theorem CIn.c1 {w:World}{b:Nat}{T:TypeId}{c:Ce}(h:CIn w b T c):w.cell? ⟨b,1,none⟩=some (.string c.v):=by
 have h':w.heap[b]? =_:=h;simp[World.cell?,h']
theorem CIn.c2 {w:World}{b:Nat}{T:TypeId}{c:Ce}(h:CIn w b T c):w.cell? ⟨b,2,none⟩=some (.int .i64 c.n):=by
 have h':w.heap[b]? =_:=h;simp[World.cell?,h']
theorem CIn.c3 {w:World}{b:Nat}{T:TypeId}{c:Ce}(h:CIn w b T c):w.cell? ⟨b,3,none⟩=some (.int .i64 c.p):=by
 have h':w.heap[b]? =_:=h;simp[World.cell?,h']
theorem CIn.fz {w:World}{b:Nat}{T:TypeId}{c:Ce}(h:CIn w b T c)(j:Nat):w.frozen? ⟨b,j,none⟩=false:=by
 have h':w.heap[b]? =_:=h;simp[World.frozen?,h']
theorem CIn.lt {w:World}{b:Nat}{T:TypeId}{c:Ce}(h:CIn w b T c):b<w.heap.size:=(zag.1 h).1
theorem CIn.new (w:World)(T:TypeId)(c:Ce):CIn (w.alloc (.cells #[.string c.k,.string c.v,.int .i64 c.n,.int .i64 c.p] T)) w.heap.size T c:=by
 show(w.heap.push _)[w.heap.size]? =_;rw[Array.getElem?_push_size]
theorem CIn.ext {w w':World}{b:Nat}{T:TypeId}{c:Ce}(h:CIn w b T c)(hb:Below w.heap.size w w'):CIn w' b T c:=(hb.block b h.lt).trans h
theorem CIn.stay {w:World}{b:Nat}{T:TypeId}{c:Ce}(h:CIn w b T c)(o:Obj):CIn (w.alloc o) b T c:=h.ext ((zbr _ _).alloc (zlr _) o)
theorem CIn.turn {w w':World}{b:Nat}{T:TypeId}{c:Ce}{F:Nat→Prop}(h:CIn w b T c)(t:Turn F w w')(hF:¬F b):CIn w' b T c:=t.hg h hF
theorem CIn.noByte {w:World}{b:Nat}{T:TypeId}{c:Ce}(h:CIn w b T c):z3t w b:=fun j y hj=>by
 have h':w.heap[b]? =_:=h;simp only[World.cell?,h'] at hj
 rcases j with _|_|_|_|j<;>simp at hj
theorem CIn.set0 {w:World}{b:Nat}{T:TypeId}{c:Ce}(h:CIn w b T c)(x:ByteArray):CIn (w.setCell ⟨b,0,none⟩ (.string x)) b T ⟨x,c.v,c.n,c.p⟩:=heap_setCell_same w b 0 _ _ _ h
theorem CIn.set1 {w:World}{b:Nat}{T:TypeId}{c:Ce}(h:CIn w b T c)(x:ByteArray):CIn (w.setCell ⟨b,1,none⟩ (.string x)) b T ⟨c.k,x,c.n,c.p⟩:=heap_setCell_same w b 1 _ _ _ h
theorem CIn.set2 {w:World}{b:Nat}{T:TypeId}{c:Ce}(h:CIn w b T c)(x:Int):CIn (w.setCell ⟨b,2,none⟩ (.int .i64 x)) b T ⟨c.k,c.v,x,c.p⟩:=heap_setCell_same w b 2 _ _ _ h
theorem CIn.set3 {w:World}{b:Nat}{T:TypeId}{c:Ce}(h:CIn w b T c)(x:Int):CIn (w.setCell ⟨b,3,none⟩ (.int .i64 x)) b T ⟨c.k,c.v,c.n,x⟩:=heap_setCell_same w b 3 _ _ _ h
def z6s (w:World)(b:Nat)(c:Ce):World:=(((w.setCell ⟨b,0,none⟩ (.string c.k)).setCell ⟨b,1,none⟩ (.string c.v)).setCell ⟨b,2,none⟩ (.int .i64 c.n)).setCell ⟨b,3,none⟩ (.int .i64 c.p)
theorem CIn.fill {w:World}{b:Nat}{T:TypeId}{c:Ce}(h:CIn w b T c)(d:Ce):CIn (z6s w b d) b T d:=(((h.set0 d.k).set1 d.v).set2 d.n).set3 d.p
theorem z03 (w:World)(b:Nat)(c:Ce):Turn (fun i=>i=b) w (z6s w b c):=
 ((((Turn.refl (fun i=>i=b) w).setCell (p:=⟨b,0,none⟩) _ (fun _=>rfl)).setCell (p:=⟨b,1,none⟩) _ (fun _=>rfl)).setCell (p:=⟨b,2,none⟩) _ (fun _=>rfl)).setCell (p:=⟨b,3,none⟩) _ (fun _=>rfl)
abbrev zC:Obj:=.cells #[.string ⟨#[]⟩,.string ⟨#[]⟩,.int .i64 0,.int .i64 0] CT
def c0:Ce:=⟨⟨#[]⟩,⟨#[]⟩,0,0⟩
theorem y85 (w:World):CIn (w.alloc zC) w.heap.size CT c0:=CIn.new w CT c0
theorem y49 {S:RS}(h:B8 S.l):∀n,B8 (z0w S n).1∧B8 (z0w S n).2.l
 | 0=>⟨B8.nil,h⟩
 | n+1=>by
  obtain⟨h1,h2⟩:=y49 h n;obtain⟨h3,h4⟩:=z6r h2;exact⟨h1.append (B8.one h3),h4⟩
set_option maxRecDepth 100000 in
set_option maxHeartbeats 1000000 in
theorem y5a (w:World)(b B:Nat)(S:RS)(h:Rb w b B S)(hB:B≤w.heap.size):
  Calls Tryz.prog 171 #[.pointer (some ⟨b,0,none⟩)] w fun e w'=>e=.returned (tkS S).1.val∧Rb w' b B (tkS S).2∧Turn (fun i=>i=b) w w':=by
 have hbl:=zh h.lt;obtain⟨w0,hw0⟩:∃w0,w0=(w.alloc zC).drew:=⟨_,rfl⟩
 have hq:Hid (CIn w0 w.heap.size CT c0):=by rw[hw0];exact y85 w
 have hb0:Hid (Below w.heap.size w w0):=by rw[hw0];exact((zbr _ _).alloc (zlr _) _).drew
 have hr0:=zh (h.below hb0.out);have HB:=zh hB;clear hB;obtain⟨BS,hBS⟩:∃B,z0g S 40=B:=⟨_,rfl⟩
 obtain⟨KL,S1⟩:=BS;obtain⟨M,hM⟩:∃M,numS S1 2048=M:=⟨_,rfl⟩
 obtain⟨N,S2⟩:=M;have hN:N≤2048:=by have:=z80 S1 2048;rw[hM] at this;exact this
 have htk:Hid (tkS S=if N≤64 then (⟨bstr KL,bstr (z0w S2 N).1,N,0⟩,(z0w S2 N).2) else (⟨bstr KL,ByteArray.empty,N,(numL (z0w S2 2).1:Nat)⟩,(z0w S2 2).2)):=by
  show _=_;unfold tkS;rw[hBS];simp only;rw[hM]
 have HS:=zh (zai hBS hM);have i4:IntKind.i64.wrap (N:Int)=(N:Int):=by rw[IntKind.wrap_i64];omega
 have HI:Hid ((-9223372036854775808:Int)≤40∧(40:Int)≤9223372036854775807):=by constructor<;>decide
 generalize tkS S=T at*;clear hBS hM h
 go_enter Tryz.func171,Tryz.ntmps171
 go_wp2_with fail;refine z4i (fun i=>i=b) (.rd 0 (.rd 3 (.two 1 (.rd 2 (.two 4 (.rd 5 (.rd 6 (.call 7 (.call 8 .done)))) 7 (.call 4 (.rd 5 (.rd 6 (.call 8 .done)))))) 7 (.call 1 (.rd 2 (.call 4 (.rd 5 (.rd 6 (.call 8 .done))))))))) (by kernel_rfl) (by kernel_rfl) (by kernel_rfl) (by kernel_rfl) (fun _ _ _ _ _ h=>h) ?_;rw[←hw0];clear hw0;iterate 2 (refine z11 (o:=⟨_,_,_,_,_,_⟩) (v:= ?_) rfl (by rfl) ?_ ?_;rotate_left;(intro w' hw';go_simp;with_reducible rfl);simp only[Act.put,zs0,zs1,zs2])
 have Dq:Hid (w.heap.size≠b):=Ne.symm (Nat.ne_of_lt hbl.out);apply q0x
 case h=>
  intro share_k;have Rx:=hr0;have Hq:=hq;have Tw:Hid (Turn (fun i=>i=b) w w0):=q5w hb0.out;refine⟨?_,?_⟩
  ·refine z0d (o:=⟨_,_,_,_,_,_⟩) rfl (by rfl) (fun K hK=> ?_);go_simp;refine(z5x w0 b B S Rx.out 40 40 rfl HI.out.1 HI.out.2).mono ?_;rintro e w1 ⟨v,rfl,hv,hr1,ht1⟩;rw[HS.out.1] at hv hr1;refine hK (fun i=>i=b) (fun _ h _=>h) _ _ ht1 ?_;clear hK K;replace Rx:=zh hr1;have Hv:=zh hv;replace Hq:=zh (Hq.out.turn ht1 Dq.out);replace Tw:=zh (Tw.out.trans ht1);have cv:∀w',Turn (fun i=>i=b) w1 w'→(convert 46 9 v).run Tryz.prog w'=.ok (.string (bstr KL)) w':=fun w' t=>(Hv.out.turnF t (nb1 Rx.out.noByte)).conv
   clear hr1 hv ht1;iterate 1 (refine z11 (o:=⟨_,_,_,_,_,_⟩) (v:= ?_) rfl (by rfl) ?_ ?_;rotate_left;(intro w' hw';go_simp;with_reducible rfl);simp only[Act.put,zs0,zs1,zs2])
   clear cv Hv;refine⟨?_,?_⟩
   ·refine z0d (o:=⟨_,_,_,_,_,_⟩) rfl (by rfl) (fun K hK=> ?_);go_simp;refine(z4w w1 b B S1 Rx.out 2048).mono ?_;rintro e w2 ⟨rfl,hr1,ht1⟩;rw[HS.out.2] at hr1⊢
    refine hK (fun i=>i=b) (fun _ h _=>h) _ _ ht1 ?_;clear hK K;replace Rx:=zh hr1;replace Hq:=zh (Hq.out.turn ht1 Dq.out);replace Tw:=zh (Tw.out.trans ht1);clear hr1 ht1;iterate 2 (refine z11 (o:=⟨_,_,_,_,_,_⟩) (v:= ?_) rfl (by rfl) ?_ ?_;rotate_left;(intro w' hw';go_simp;with_reducible rfl);simp only[Act.put,zs0,zs1,zs2])
    refine z0d (o:=⟨_,_,_,_,_,_⟩) rfl (by rfl) (fun K hK=> ?_);go_simp;refine hK (fun i=>i=b∨i=w2.heap.size) (fun j h hj=>h.elim id (fun h=>absurd (h▸hj) (Nat.lt_irrefl _))) _ _ (z2s w2 zC _) ?_;clear hK K;obtain⟨w3,hwo⟩:∃x,x=w2.alloc zC:=⟨_,rfl⟩
    have Np:Hid (CIn w3 w2.heap.size CT c0):=by rw[hwo];exact y85 w2
    have Rx':Hid (Rb w3 b B S2):=by rw[hwo];exact Rx.out.below ((zbr _ _).alloc (zlr _) _)
    have Hq':Hid (CIn w3 w.heap.size CT c0):=by rw[hwo];exact Hq.out.stay _
    have Tw':Hid (Turn (fun i=>i=b) w w3):=by rw[hwo];exact Tw.out.alloc _
    have Dp:Hid (w2.heap.size≠b):=Ne.symm (Nat.ne_of_lt Rx.out.lt);have Dpq:Hid (w2.heap.size≠w.heap.size):=Ne.symm (Nat.ne_of_lt Hq.out.lt);have Np2:Hid (w.heap.size≤w2.heap.size):=Tw.out.size;rw[←hwo];clear hwo Rx Hq Tw;have Rx:=Rx';have Hq:=Hq';have Tw:=Tw';clear Rx' Hq' Tw';obtain⟨p,hp⟩:∃p,p=w2.heap.size:=⟨_,rfl⟩
    rw[←hp] at Np Dp Dpq Np2⊢
    clear hp;refine z0d (o:=⟨_,_,_,_,_,_⟩) rfl (by rfl) (fun K hK=> ?_);have z0:=Np.out.c0;have z1:=Np.out.c1;have z2:=Np.out.c2;have z3:=Np.out.c3;have y0:=Np.out.fz 0;have y1:=Np.out.fz 1;have y2:=Np.out.fz 2;have y3:=Np.out.fz 3;go_simp;clear z0 z1 z2 z3 y0 y1 y2 y3;refine hK (fun i=>i=b∨i=p) (fun _ h _=>h) _ _ ((z03 w3 p ⟨bstr KL,⟨#[]⟩,N,0⟩).mono (fun _ h _=> .inr h)) ?_;clear hK K;obtain⟨wz,hwz⟩:∃x,x=z6s w3 p ⟨bstr KL,⟨#[]⟩,N,0⟩:=⟨_,rfl⟩
    have Nz:Hid (CIn wz p CT ⟨bstr KL,⟨#[]⟩,N,0⟩):=by rw[hwz];exact Np.out.fill _
    have Rz:Hid (Rb wz b B S2):=by rw[hwz];exact Rx.out.over (z03 _ _ _) (znt HB.out Np2.out) (Ne.symm Dp.out)
    have Qz:Hid (CIn wz w.heap.size CT c0):=by rw[hwz];exact Hq.out.turn (z03 _ _ _) (Ne.symm Dpq.out)
    have Tz:Hid (Turn (fun i=>i=b) w wz):=by
     rw[hwz];exact Tw.out.step (z03 _ _ _) (fun i h hi=>absurd (h▸hi) (Nat.not_lt.2 Np2.out))
    have Dz:Hid (p≠b∧p≠w.heap.size∧w.heap.size≤p):=⟨Dp.out,Dpq.out,Np2.out⟩
    show wpGx _ _ _ _ _ _ (z6s w3 p ⟨bstr KL,⟨#[]⟩,N,0⟩);rw[←hwz];clear hwz Np Rx Hq Tw Dp Dpq Np2;refine z4j ?_
    revert Nz Rz Qz Tz Dz
    revert wz
    revert p
    revert v
    exact share_k
   ·refine z0d (o:=⟨_,_,_,_,_,_⟩) rfl (by rfl) (fun K hK=> ?_);go_simp;refine hK (fun i=>i=b∨i=w1.heap.size) (fun j h hj=>h.elim id (fun h=>absurd (h▸hj) (Nat.lt_irrefl _))) _ _ (z2s w1 zC _) ?_;clear hK K;obtain⟨w2,hwo⟩:∃x,x=w1.alloc zC:=⟨_,rfl⟩
    have Np:Hid (CIn w2 w1.heap.size CT c0):=by rw[hwo];exact y85 w1
    have Rx':Hid (Rb w2 b B S1):=by rw[hwo];exact Rx.out.below ((zbr _ _).alloc (zlr _) _)
    have Hq':Hid (CIn w2 w.heap.size CT c0):=by rw[hwo];exact Hq.out.stay _
    have Tw':Hid (Turn (fun i=>i=b) w w2):=by rw[hwo];exact Tw.out.alloc _
    have Dp:Hid (w1.heap.size≠b):=Ne.symm (Nat.ne_of_lt Rx.out.lt);have Dpq:Hid (w1.heap.size≠w.heap.size):=Ne.symm (Nat.ne_of_lt Hq.out.lt);have Np2:Hid (w.heap.size≤w1.heap.size):=Tw.out.size;rw[←hwo];clear hwo Rx Hq Tw;have Rx:=Rx';have Hq:=Hq';have Tw:=Tw';clear Rx' Hq' Tw';obtain⟨p,hp⟩:∃p,p=w1.heap.size:=⟨_,rfl⟩
    rw[←hp] at Np Dp Dpq Np2⊢
    clear hp;refine z0d (o:=⟨_,_,_,_,_,_⟩) rfl (by rfl) (fun K hK=> ?_);go_simp;refine(z4w w2 b B S1 Rx.out 2048).mono ?_;rintro e w3 ⟨rfl,hr1,ht1⟩;rw[HS.out.2] at hr1⊢
    refine hK (fun i=>i=b∨i=p) (fun _ h _=>h) _ _ (ht1.mono (fun _ h _=> .inl h)) ?_;clear hK K;replace Rx:=zh hr1;replace Np:=zh (Np.out.turn ht1 Dp.out);replace Hq:=zh (Hq.out.turn ht1 Dq.out);replace Tw:=zh (Tw.out.trans ht1);clear hr1 ht1;iterate 2 (refine z11 (o:=⟨_,_,_,_,_,_⟩) (v:= ?_) rfl (by rfl) ?_ ?_;rotate_left;(intro w' hw';go_simp;with_reducible rfl);simp only[Act.put,zs0,zs1,zs2])
    refine z0d (o:=⟨_,_,_,_,_,_⟩) rfl (by rfl) (fun K hK=> ?_);have z0:=Np.out.c0;have z1:=Np.out.c1;have z2:=Np.out.c2;have z3:=Np.out.c3;have y0:=Np.out.fz 0;have y1:=Np.out.fz 1;have y2:=Np.out.fz 2;have y3:=Np.out.fz 3;go_simp;clear z0 z1 z2 z3 y0 y1 y2 y3;refine hK (fun i=>i=b∨i=p) (fun _ h _=>h) _ _ ((z03 w3 p ⟨bstr KL,⟨#[]⟩,N,0⟩).mono (fun _ h _=> .inr h)) ?_;clear hK K;obtain⟨wz,hwz⟩:∃x,x=z6s w3 p ⟨bstr KL,⟨#[]⟩,N,0⟩:=⟨_,rfl⟩
    have Nz:Hid (CIn wz p CT ⟨bstr KL,⟨#[]⟩,N,0⟩):=by rw[hwz];exact Np.out.fill _
    have Rz:Hid (Rb wz b B S2):=by rw[hwz];exact Rx.out.over (z03 _ _ _) (znt HB.out Np2.out) (Ne.symm Dp.out)
    have Qz:Hid (CIn wz w.heap.size CT c0):=by rw[hwz];exact Hq.out.turn (z03 _ _ _) (Ne.symm Dpq.out)
    have Tz:Hid (Turn (fun i=>i=b) w wz):=by
     rw[hwz];exact Tw.out.step (z03 _ _ _) (fun i h hi=>absurd (h▸hi) (Nat.not_lt.2 Np2.out))
    have Dz:Hid (p≠b∧p≠w.heap.size∧w.heap.size≤p):=⟨Dp.out,Dpq.out,Np2.out⟩
    show wpGx _ _ _ _ _ _ (z6s w3 p ⟨bstr KL,⟨#[]⟩,N,0⟩);rw[←hwz];clear hwz Np Rx Hq Tw Dp Dpq Np2;refine z4j ?_
    revert Nz Rz Qz Tz Dz
    revert wz
    revert p
    revert v
    exact share_k
  ·refine z0d (o:=⟨_,_,_,_,_,_⟩) rfl (by rfl) (fun K hK=> ?_);go_simp;refine hK (fun i=>i=b∨i=w0.heap.size) (fun j h hj=>h.elim id (fun h=>absurd (h▸hj) (Nat.lt_irrefl _))) _ _ (z2s w0 zC _) ?_;clear hK K;obtain⟨w1,hwo⟩:∃x,x=w0.alloc zC:=⟨_,rfl⟩
   have Np:Hid (CIn w1 w0.heap.size CT c0):=by rw[hwo];exact y85 w0
   have Rx':Hid (Rb w1 b B S):=by rw[hwo];exact Rx.out.below ((zbr _ _).alloc (zlr _) _)
   have Hq':Hid (CIn w1 w.heap.size CT c0):=by rw[hwo];exact Hq.out.stay _
   have Tw':Hid (Turn (fun i=>i=b) w w1):=by rw[hwo];exact Tw.out.alloc _
   have Dp:Hid (w0.heap.size≠b):=Ne.symm (Nat.ne_of_lt Rx.out.lt);have Dpq:Hid (w0.heap.size≠w.heap.size):=Ne.symm (Nat.ne_of_lt Hq.out.lt);have Np2:Hid (w.heap.size≤w0.heap.size):=Tw.out.size;rw[←hwo];clear hwo Rx Hq Tw;have Rx:=Rx';have Hq:=Hq';have Tw:=Tw';clear Rx' Hq' Tw';obtain⟨p,hp⟩:∃p,p=w0.heap.size:=⟨_,rfl⟩
   rw[←hp] at Np Dp Dpq Np2⊢
   clear hp;refine z0d (o:=⟨_,_,_,_,_,_⟩) rfl (by rfl) (fun K hK=> ?_);go_simp;refine(z5x w1 b B S Rx.out 40 40 rfl HI.out.1 HI.out.2).mono ?_;rintro e w2 ⟨v,rfl,hv,hr1,ht1⟩;rw[HS.out.1] at hv hr1;refine hK (fun i=>i=b∨i=p) (fun _ h _=>h) _ _ (ht1.mono (fun _ h _=> .inl h)) ?_;clear hK K;replace Rx:=zh hr1;have Hv:=zh hv;replace Np:=zh (Np.out.turn ht1 Dp.out);replace Hq:=zh (Hq.out.turn ht1 Dq.out);replace Tw:=zh (Tw.out.trans ht1);have cv:∀w',Turn (fun i=>i=b∨i=p) w2 w'→(convert 46 9 v).run Tryz.prog w'=.ok (.string (bstr KL)) w':=fun w' t=>(Hv.out.turnF t (nb2 Rx.out.noByte Np.out.noByte)).conv
   clear hr1 hv ht1;iterate 1 (refine z11 (o:=⟨_,_,_,_,_,_⟩) (v:= ?_) rfl (by rfl) ?_ ?_;rotate_left;(intro w' hw';go_simp;with_reducible rfl);simp only[Act.put,zs0,zs1,zs2])
   clear cv Hv;refine z0d (o:=⟨_,_,_,_,_,_⟩) rfl (by rfl) (fun K hK=> ?_);go_simp;refine(z4w w2 b B S1 Rx.out 2048).mono ?_;rintro e w3 ⟨rfl,hr1,ht1⟩;rw[HS.out.2] at hr1⊢
   refine hK (fun i=>i=b∨i=p) (fun _ h _=>h) _ _ (ht1.mono (fun _ h _=> .inl h)) ?_;clear hK K;replace Rx:=zh hr1;replace Np:=zh (Np.out.turn ht1 Dp.out);replace Hq:=zh (Hq.out.turn ht1 Dq.out);replace Tw:=zh (Tw.out.trans ht1);clear hr1 ht1;iterate 2 (refine z11 (o:=⟨_,_,_,_,_,_⟩) (v:= ?_) rfl (by rfl) ?_ ?_;rotate_left;(intro w' hw';go_simp;with_reducible rfl);simp only[Act.put,zs0,zs1,zs2])
   refine z0d (o:=⟨_,_,_,_,_,_⟩) rfl (by rfl) (fun K hK=> ?_);have z0:=Np.out.c0;have z1:=Np.out.c1;have z2:=Np.out.c2;have z3:=Np.out.c3;have y0:=Np.out.fz 0;have y1:=Np.out.fz 1;have y2:=Np.out.fz 2;have y3:=Np.out.fz 3;go_simp;clear z0 z1 z2 z3 y0 y1 y2 y3;refine hK (fun i=>i=b∨i=p) (fun _ h _=>h) _ _ ((z03 w3 p ⟨bstr KL,⟨#[]⟩,N,0⟩).mono (fun _ h _=> .inr h)) ?_;clear hK K;obtain⟨wz,hwz⟩:∃x,x=z6s w3 p ⟨bstr KL,⟨#[]⟩,N,0⟩:=⟨_,rfl⟩
   have Nz:Hid (CIn wz p CT ⟨bstr KL,⟨#[]⟩,N,0⟩):=by rw[hwz];exact Np.out.fill _
   have Rz:Hid (Rb wz b B S2):=by rw[hwz];exact Rx.out.over (z03 _ _ _) (znt HB.out Np2.out) (Ne.symm Dp.out)
   have Qz:Hid (CIn wz w.heap.size CT c0):=by rw[hwz];exact Hq.out.turn (z03 _ _ _) (Ne.symm Dpq.out)
   have Tz:Hid (Turn (fun i=>i=b) w wz):=by
    rw[hwz];exact Tw.out.step (z03 _ _ _) (fun i h hi=>absurd (h▸hi) (Nat.not_lt.2 Np2.out))
   have Dz:Hid (p≠b∧p≠w.heap.size∧w.heap.size≤p):=⟨Dp.out,Dpq.out,Np2.out⟩
   show wpGx _ _ _ _ _ _ (z6s w3 p ⟨bstr KL,⟨#[]⟩,N,0⟩);rw[←hwz];clear hwz Np Rx Hq Tw Dp Dpq Np2;refine z4j ?_
   revert Nz Rz Qz Tz Dz
   revert wz
   revert p
   revert v
   exact share_k
 case k=>
  intro v p wz Nz Rz Qz Tz Dz;clear hr0 hq hb0 HS HI;have hi:=fun w=>z8n (N:Int) w
  have z2:=Nz.out.c2
  by_cases h64:N≤64
  ·have hT:Hid (T=(⟨bstr KL,bstr (z0w S2 N).1,N,0⟩,(z0w S2 N).2)):=by show _=_;rw[htk.out,if_pos h64]
   have d1:decide ((N:Int)≤64)=true:=by simp;omega
   rw[d1] at hi;clear htk d1;have hpl:=zh (y44 wz b B S2 Rz.out (znt HB.out Tz.out.size) N (by omega));generalize z0w S2 N=PL at*;obtain⟨L,S3⟩:=PL;dsimp only at hT hpl;go_wp2_with fail;refine(hi _).mono ?_;rintro e w' ⟨rfl,rfl⟩;go_wp2_with fail;refine hpl.out.mono ?_;rintro e w2 ⟨v2,rfl,hv2,hr2,ht2⟩;have cv:=hv2.conv;have N2:=zh (Nz.out.turn ht2 Dz.out.1);have Q2:=zh (Qz.out.turn ht2 Dq.out);have T2:=zh (Tz.out.trans ht2);have R2:=zh hr2;generalize bstr L=s at*;have N3:Hid (CIn (w2.setCell ⟨p,1,none⟩ (.string s)) p CT ⟨bstr KL,s,N,0⟩):=N2.out.set1 s;have Q3:Hid (CIn (w2.setCell ⟨p,1,none⟩ (.string s)) w.heap.size CT c0):=Q2.out.turn (z1e w2 p 1 _) (Ne.symm Dz.out.2.1);have Q4:=zh (Q3.out.fill ⟨bstr KL,s,N,0⟩);have R4:Hid (Rb (z6s (w2.setCell ⟨p,1,none⟩ (.string s)) w.heap.size ⟨bstr KL,s,N,0⟩) b B S3):=
    (R2.out.over (z1e w2 p 1 _) (znt HB.out Dz.out.2.2) (Ne.symm Dz.out.1)).over (z03 _ _ _) HB.out (Ne.symm Dq.out)
   have T4:Hid (Turn (fun i=>i=b) w (z6s (w2.setCell ⟨p,1,none⟩ (.string s)) w.heap.size ⟨bstr KL,s,N,0⟩)):=
    (T2.out.step (z1e w2 p 1 _) (fun i h hi=>by subst h;exact absurd hi (Nat.not_lt.2 Dz.out.2.2))).step (z03 _ _ _) (fun i h hi=>by subst h;exact absurd hi (Nat.lt_irrefl _))
   have n0:=N3.out.c0;have n1:=N3.out.c1;have n2:=N3.out.c2;have n3:=N3.out.c3;have nf:=N2.out.fz 1;have m1:=N2.out.c1;have q0:=Q3.out.c0;have q1:=Q3.out.c1;have q2:=Q3.out.c2;have q3:=Q3.out.c3;have f0:=Q3.out.fz 0;have f1:=Q3.out.fz 1;have f2:=Q3.out.fz 2;have f3:=Q3.out.fz 3;have y0:=Q4.out.c0;have y1:=Q4.out.c1;have y2:=Q4.out.c2;have y3:=Q4.out.c3;unfold z6s at y0 y1 y2 y3;dsimp only at n0 n1 n2 n3 m1 y0 y1 y2 y3;clear z2 hv2 hr2 ht2 hpl hi Nz Rz Qz Tz N2 Q2 T2 R2 N3 Q3 Q4 h64 hN;go_wp2;refine bodyPost_ret (v:=.agg #[.string (bstr KL),.string s,.int .i64 N,.int .i64 0]) (by rw[z0c rfl];go_simp) rfl ⟨by rw[hT.out];rfl,by rw[hT.out];exact R4.out,T4.out⟩
  ·have hT:Hid (T=(⟨bstr KL,ByteArray.empty,N,(numL (z0w S2 2).1:Nat)⟩,(z0w S2 2).2)):=by show _=_;rw[htk.out,if_neg h64]
   have d1:decide ((N:Int)≤64)=false:=by simp;omega
   rw[d1] at hi;clear htk d1;have hpl:=zh (y44 wz b B S2 Rz.out (znt HB.out Tz.out.size) 2 (by omega));have hL2:=z3r S2 2;have h8:=(y49 Rz.out.b8 2).1;generalize z0w S2 2=PL at*;obtain⟨L,S3⟩:=PL;dsimp only at hT hpl hL2 h8;go_wp2_with fail;refine(hi _).mono ?_;rintro e w' ⟨rfl,rfl⟩;go_wp2_with fail;refine hpl.out.mono ?_;rintro e w2 ⟨v2,rfl,hv2,hr2,ht2⟩
   rcases hv2 with ⟨_,h0⟩|⟨g,o,c,rfl,hc,_⟩
   ·rw[h0] at hL2;cases hL2
   have hget:=y3p g o c L w2 (by omega) (by omega) hc h8;have hX:=y1p h8;rw[hL2] at hget hX;rw[hL2];generalize numL L=X at*;have hget':=zh hget;have hX2:X<65536:=by omega
   have N2:=zh (Nz.out.turn ht2 Dz.out.1);have Q2:=zh (Qz.out.turn ht2 Dq.out);have T2:=zh (Tz.out.trans ht2);have R2:=zh hr2;have N3:Hid (CIn (w2.setCell ⟨p,3,none⟩ (.int .i64 (X:Int))) p CT ⟨bstr KL,⟨#[]⟩,N,X⟩):=N2.out.set3 X;have Q3:Hid (CIn (w2.setCell ⟨p,3,none⟩ (.int .i64 (X:Int))) w.heap.size CT c0):=Q2.out.turn (z1e w2 p 3 _) (Ne.symm Dz.out.2.1);have Q4:=zh (Q3.out.fill ⟨bstr KL,⟨#[]⟩,N,X⟩);have R4:Hid (Rb (z6s (w2.setCell ⟨p,3,none⟩ (.int .i64 (X:Int))) w.heap.size ⟨bstr KL,⟨#[]⟩,N,X⟩) b B S3):=
    (R2.out.over (z1e w2 p 3 _) (znt HB.out Dz.out.2.2) (Ne.symm Dz.out.1)).over (z03 _ _ _) HB.out (Ne.symm Dq.out)
   have T4:Hid (Turn (fun i=>i=b) w (z6s (w2.setCell ⟨p,3,none⟩ (.int .i64 (X:Int))) w.heap.size ⟨bstr KL,⟨#[]⟩,N,X⟩)):=
    (T2.out.step (z1e w2 p 3 _) (fun i h hi=>by subst h;exact absurd hi (Nat.not_lt.2 Dz.out.2.2))).step (z03 _ _ _) (fun i h hi=>by subst h;exact absurd hi (Nat.lt_irrefl _))
   have n0:=N3.out.c0;have n1:=N3.out.c1;have n2:=N3.out.c2;have n3:=N3.out.c3;have nf:=N2.out.fz 3;have m1:=N2.out.c3;have q0:=Q3.out.c0;have q1:=Q3.out.c1;have q2:=Q3.out.c2;have q3:=Q3.out.c3;have f0:=Q3.out.fz 0;have f1:=Q3.out.fz 1;have f2:=Q3.out.fz 2;have f3:=Q3.out.fz 3;have y0:=Q4.out.c0;have y1:=Q4.out.c1;have y2:=Q4.out.c2;have y3:=Q4.out.c3;unfold z6s at y0 y1 y2 y3;dsimp only at n0 n1 n2 n3 m1 y0 y1 y2 y3;clear z2 hr2 ht2 hpl hi Nz Rz Qz Tz N2 Q2 T2 R2 N3 Q3 Q4 h64 hN hget hX hL2 h8 hc;go_wp2_with fail;refine hget'.out.mono ?_;rintro e w' ⟨rfl,rfl⟩;go_wp2;refine bodyPost_ret (v:=.agg #[.string (bstr KL),.string ⟨#[]⟩,.int .i64 N,.int .i64 X]) (by rw[z0c rfl];go_simp) rfl ⟨by rw[hT.out];rfl,by rw[hT.out];exact R4.out,T4.out⟩
end Go.Proofs.YtdnfhjfbanhhcaaGreatDoor
