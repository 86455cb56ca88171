/-
  Steps.
-/
import Derived.Test.YtdnfhjfbanhhcaaGreatDoorQLBk10
namespace Go.Proofs.YtdnfhjfbanhhcaaGreatDoor
open Go Go.RowKit
set_option maxRecDepth 100000 in
theorem z47 (f g:Nat→Bool)(w:World):Calls Tryz.prog 28 #[.agg (sc f),.agg (sc g)] w fun e w'=>e=.returned (.agg (sc (fun m=>f m||g m)))∧Below w.heap.size w w':=by
 have H:=zh (x10 (fun a b=>a||b) f g)
 go_enter Tryz.func28,Tryz.ntmps28
 go_wp2_with (first
  | (show wpList _ _ _ (⟨some 2,_,_,_,_,_⟩::_) _ _;refine z0q rfl TS (.tmp 0) rfl (sc f) (by rfl) ?_;intro g1 w1 hg1 hk1 hb1)
  | (show wpList _ _ _ (⟨some 3,_,_,_,_,_⟩::_) _ _;refine z0q rfl TS (.tmp 1) rfl (sc g) (by rfl) ?_;intro g2 w2 hg2 hk2 hb2)
  | (refine z0o rfl TS rfl z18 ?_;intro g3 w3 hg3 hk3 hb3))
 have Hg:Hid (w.heap.size≤g1∧w.heap.size≤g3∧g2≠g1∧g3≠g1):=⟨hg1,by have:=hb1.size;have:=hb2.size;omega,by have:=hk1.lt;omega,by have:=hk1.lt;have:=hb2.size;omega⟩
 have Hb:Hid (Below w.heap.size w w3):=(hb1.trans (hb2.mono hb1.size)).trans (hb3.mono (hb1.trans (hb2.mono hb1.size)).size);have Hk:Hid (Blk w3 g1 TS (sc f)∧Blk w3 g2 TS (sc g)∧Blk w3 g3 TS (sc (fun _=>false))):=⟨(hk1.ext hb2).ext hb3,hk2.ext hb3,hk3⟩
 clear hg1 hg2 hg3 hk1 hk2 hk3 hb1 hb2 hb3
 go_loopw [5,6] (fun _ i wr=>∃k:Nat,i=.int .i64 k∧k≤16∧Hid (Blk wr g1 TS (sc (mixR (fun a b=>a||b) f g k))∧Blk wr g2 TS (sc g)∧Blk wr g3 TS (sc (fun _=>false)))∧Hid (Below w.heap.size w wr)) (fun _ i _=>16-(intOf i).toNat)
 case atStart=>exact⟨0,rfl,by omega,by rw[y72];exact Hk,Hb⟩
 case round=>
  obtain⟨k,rfl,hk,HK,HB⟩:=hrel
  by_cases hlt:k<16
  ·have hlt2:(k:Int)<16:=by omega
   have k0:(0:Int)≤(k:Int):=by omega
   have qw:IntKind.i64.wrap (k:Int)=(k:Int):=by rw[IntKind.wrap_i64];omega
   have hstep:=y74 (fun a b=>a||b) f g k _ hlt (wd_or f g k);have hword:=y73 (fun a b=>a||b) f g k;obtain⟨F2,hF2⟩:∃F2,mixR (fun a b=>a||b) f g (k+1)=F2:=⟨_,rfl⟩
   rw[hF2] at hstep;have HF2:=zh hF2;clear hF2;generalize mixR (fun a b=>a||b) f g k=F1 at*;obtain⟨R,hR⟩:∃R,wd f k|||wd g k=R:=⟨_,rfl⟩
   have e2:bits .or .u64 (wd f k:Nat) (wd g k:Nat)=(R:Int):=by rw[u64_or_nat _ _ (z5e f k) (z5e g k),hR]
   have hc1:=fun(w1:World) (h:Blk w1 g1 TS (sc F1))=>h.word k hlt
   have hc2:=fun(w1:World) (h:Blk w1 g2 TS (sc g))=>h.word k hlt
   rw[hword] at hc1;rw[hR] at hstep;generalize wd f k=v1 at*;generalize wd g k=v2 at*;have Hc:=zh (zai hc1 hc2);have Hs:=zh hstep;clear hstep hword hR hc1 hc2 H;go_wp2_with fail;refine z0k (F:=fun i=>i=g1) [(0,true),(1,true),(3,true),(4,true),(5,true),(2,false),(6,true),(7,true),(8,false)] (by kernel_rfl) (by kernel_rfl) (by kernel_rfl) (by kernel_rfl) (fun _ _ _ _ _ h=>h) ?_;have HB2:Hid (Below w.heap.size w wr.drew):=HB.out.drew;have HK2:Hid (Blk wr.drew g1 TS (sc F1)∧Blk wr.drew g2 TS (sc g)∧Blk wr.drew g3 TS (sc (fun _=>false))):=HK.out;clear HB HK;generalize wr.drew=w3 at*;have c0:=Hc.out.1 w3 HK2.out.1;have f0:=HK2.out.1.fz k;have c1:∀w',Turn (fun i=>i=g1) w3 w'→w'.cell? ⟨g2,k,none⟩=some (.int .u64 v2):=fun w' ht=>Hc.out.2 w' (HK2.out.2.1.turn ht Hg.out.2.2.1)
   have HT:Hid (Turn (fun i=>i=g1) w3 (w3.setCell ⟨g1,k,none⟩ (.int .u64 R))):=(Turn.refl _ _).setCell _ (fun _=>rfl);have HK3:Hid (Blk (w3.setCell ⟨g1,k,none⟩ (.int .u64 R)) g1 TS (sc F2)∧Blk (w3.setCell ⟨g1,k,none⟩ (.int .u64 R)) g2 TS (sc g)∧Blk (w3.setCell ⟨g1,k,none⟩ (.int .u64 R)) g3 TS (sc (fun _=>false))):=⟨by rw[←Hs.out];exact HK2.out.1.set k _,HK2.out.2.1.turn HT.out Hg.out.2.2.1,HK2.out.2.2.turn HT.out Hg.out.2.2.2⟩
   have HB3:Hid (Below w.heap.size w (w3.setCell ⟨g1,k,none⟩ (.int .u64 R))):=HB2.out.setCell Hg.out.1 _;clear HK2 HB2;iterate 5 (refine gtr (v:= ?_) rfl (by rfl) ?_ ?_;rotate_left;(intro w' hw';go_simp;with_reducible rfl);simp only[Act.put,zs0,zs1,zs2])
   refine gtc rfl (by rfl) (fun K hK=> ?_);go_simp;refine hK _ _ (Turn.refl _ _) ?_;clear hK K;iterate 2 (refine gtr (v:= ?_) rfl (by rfl) ?_ ?_;rotate_left;(intro w' hw';go_simp;with_reducible rfl);simp only[Act.put,zs0,zs1,zs2])
   refine gtc rfl (by rfl) (fun K hK=> ?_);go_simp;refine hK _ _ HT.out ?_;clear hK K c0 f0 HT c1;generalize w3.setCell ⟨g1,k,none⟩ (.int .u64 R)=w4 at*;refine z0z ?_;go_wp2
   go_roundw
   case rel=>exact⟨k+1,by go_num,by omega,by rw[HF2.out];exact HK3,HB3⟩
   case measure=>simp[intOf];omega
  ·obtain rfl:k=16:=by omega
   have HK2:=zh HK.out;rw[H.out] at HK2;clear HK
   go_wp2_with (first|(refine z0e rfl TS (.tmp 2) rfl g1 _ TS (by rfl) z0i HK2.out.1 ?_)|(refine z0j rfl TS (.tmp 4) (.tmp 18) rfl g3 _ _ TS (by rfl) (by rfl) z0i HK2.out.2.2 ?_;intro w5 hk5 ht5 _))
   refine bodyPost_ret (v:=.agg (sc (fun m=>f m||g m))) ?_ rfl ?_
   ·exact z1h z0i rfl _ _ g3 _ (by rfl) hk5
   ·exact⟨rfl,HB.out.trans (ht5.below HB.out.size (fun i hi=>by subst hi;exact Hg.out.2.1))⟩
end Go.Proofs.YtdnfhjfbanhhcaaGreatDoor
