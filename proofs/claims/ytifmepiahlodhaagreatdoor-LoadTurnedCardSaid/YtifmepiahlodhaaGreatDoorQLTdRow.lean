/-
  The law LoadTurned: for every input it answers true, and its arguments read as before. No conditions but the rows' own (what the listed package-level variables hold at the start).
-/
import Derived.Test.YtifmepiahlodhaaGreatDoorRows
import Derived.Test.YtifmepiahlodhaaGreatDoorCards
import Derived.Test.YtifmepiahlodhaaGreatDoorTie
import Derived.Test.YtifmepiahlodhaaGreatDoorProg
import Derived.Test.YtifmepiahlodhaaGreatDoorQLTd48
import Derived.ChangeSame
import Derived.ChangeVars
import Derived.JoinedOf
import Derived.Stop.Joined
import Derived.Carry
import Derived.SevenTiedAt
import Derived.SizedLaws
namespace Go.Proofs.YtifmepiahlodhaaGreatDoor
open Go.ChangeShapes Go.WideShapes Go.RowKit
open Go.ChangeMaps (open_string shut_string)
namespace LoadTurnedRowProof
set_option maxRecDepth 100000 in
theorem lifted (os:Os)(started:os.Started)(H:Type)(enc:TypeId×Value→H):
  ReturnsInHanded {} Tryz.checked os 5 .any (fun w args=>(Rows.loadTurnedSpec.pre enc Tryz.prog Tryz.f5 [] false w args∧laidMetH Tryz.prog z3b w)∧sizedMet enc Tryz.prog Tryz.f5 (OpenSpec.ofChange Rows.loadTurnedSpec) false w args)
   (Rows.loadTurnedSpec.post enc Tryz.prog Tryz.f5 false true false false):=by
 refine returnsInHanded_of_change_and (C:=Tryz.checked) (X:=fun w _=>laidMetH Tryz.prog z3b w) (fun _ _ _ hh h=>h.of_heap hh) q2v started (by kernel_rfl) Tryz.func5
  (ChangeSpec.witness_at (enc:=enc) (C:=Tryz.checked) (os:=os) (X:=fun w _=>laidMetH Tryz.prog z3b w) false (y4r os) #[.agg #[.int .u16 0,.int .u16 0],.int .u16 0,.int .u16 0] 8 rfl (by kernel_rfl) (by kernel_rfl) (by kernel_rfl) (by kernel_rfl) (by kernel_rfl) (y2m os _)) ?_
 intro W base args ds gs before hval0 hW _ hszr hL _;have hval:∀(j:Nat) t v,Tryz.f5.params[j]? =some t→args[j]? =some v→Value.okWide Tryz.prog W .any base t v:=hval0;have hW':=hW;obtain⟨p,q,hA0,hV0,rfl,hfz,hnd⟩:=hW;have hA:DataW.TrodAll enc Tryz.prog W 0 (fun _=>true) true Tryz.f5.params.toList args.toList ds p:=hA0;have hV:DataW.TrodVars enc Tryz.prog W (fun _=>true) [] gs q:=hV0;rw[Tryz.params5] at hA hval;obtain⟨v0,vs0,d0,ds0,p0,q0,hargs,rfl,rfl,h0,r0⟩:=trodAll_cons hA;obtain⟨v1,vs1,d1,ds1,p1,q1,rfl,rfl,rfl,h1,r1⟩:=trodAll_cons r0;obtain⟨v2,vs2,d2,ds2,p2,q2,rfl,rfl,rfl,h2,r2⟩:=trodAll_cons r1;obtain⟨rfl,rfl,rfl⟩:=trodAll_nil r2;obtain rfl:args= #[v0,v1,v2]:=by cases args;simp_all
 have hk0:=h0;have lt0:∀x∈p0,x.block<W.heap.size:=by obtain⟨m,hm⟩:=hk0;exact DataW.trod_lt m _ _ _ hm
 obtain⟨n0,m0,rfl,b0,bb0⟩:=x05 (hval 0 23 v0 rfl rfl) h0;obtain⟨x1,rfl,rfl,rfl,wx1⟩:=open_int Tryz.underlying22 (hval 1 22 v1 rfl rfl) h1;have b1:=bounds_u16 wx1;obtain⟨n1,rfl⟩:=Int.eq_ofNat_of_zero_le b1.1;obtain⟨x2,rfl,rfl,rfl,wx2⟩:=open_int Tryz.underlying22 (hval 2 22 v2 rfl rfl) h2;have b2:=bounds_u16 wx2;obtain⟨n2,rfl⟩:=Int.eq_ofNat_of_zero_le b2.1;have hg:Hg W:=x0w hL;have hT:z5y W:=y62 hL;have hwo:z0x W:=y2l hL;obtain⟨rfl,rfl⟩:gs=[]∧q=[]:=by
  cases gs with
  | nil=>exact⟨rfl,hV⟩
  | cons g r=>exact absurd hV (by intro h;cases h)
 refine(x1n n0 m0 n1 n2 W (by omega) (by omega) (by omega) (by omega) hg hwo hT).mono fun e W' ⟨he,hb⟩=> ?_
 subst he;exact⟨_,rfl,_,_,_,[],_,[],hW',trodAll_mk1 (shut_bool Tryz.underlying4 true),(trodAll_cons_mk (Below.trod q04 (by kernel_rfl) (of_decide_eq_true (by kernel_rfl)) hk0 hb lt0) (trodAll_cons_mk (shut_int Tryz.underlying22 wx1) (trodAll_cons_mk (shut_int Tryz.underlying22 wx2) trodAll_mk0))),rfl,hb.frame _,fun h=>by cases h⟩
theorem row_holds:Rows.LoadTurnedSaid:=
 OpenClaim.holds_of_wide 5 Tryz.f5 rfl rfl rfl rfl rfl rfl rfl ⟨rfl,rfl,rfl,rfl,rfl⟩ rfl rfl rfl rfl rfl (by kernel_rfl) Tryz.func5 (by kernel_rfl)
  (of_decide_eq_true (by kernel_rfl)) (by unfold Func.isWrapper;rw[if_neg (of_decide_eq_false (by kernel_rfl))];exact⟨rfl,rfl⟩)
  (fun os started H enc _=>lifted os started H enc)
theorem card_holds:Rows.LoadTurnedCardSaid:=
 Claim7.holds_tied_plain_at .later [] [.data, .handle, .data] true (true, "cf39963e91f43d1dda6636abc2eefeb62365e5695c7d43ac76d51abb409bce73") true
  row_holds (fun _ h=>by cases h) (by kernel_rfl) (fun _ h=>by cases h) loadTurned_row_tie rfl ⟨rfl,rfl⟩ (by kernel_rfl) rfl
  (fun f fn hf hfn=>by
   obtain rfl : f = 5 := Option.some.inj ((show Tryz.prog.funcNamed "warren/warrenlaw21.LoadTurned" = some 5 by kernel_rfl).symm.trans hf) |>.symm
   obtain rfl:fn=Tryz.f5:=(Option.some.inj (Tryz.func5.symm.trans hfn)).symm;exact⟨by kernel_rfl,fun j t ht=>by
    rw[Tryz.params5] at ht;have hc:t=23∨t=22:=by
     rcases j with _|_|_|j
     ·left;simpa using ht.symm
     ·right;simpa using ht.symm
     ·right;simpa using ht.symm
     ·simp at ht
    rcases hc with rfl|rfl
    ·exact(show Tryz.prog.wantsStandIn 23=false by kernel_rfl)
    ·exact(show Tryz.prog.wantsStandIn 22=false by kernel_rfl)⟩)
  (by kernel_rfl)
end LoadTurnedRowProof
end Go.Proofs.YtifmepiahlodhaaGreatDoor
