/-
  The law PlanShares: for every input it answers true, and its arguments read as before. No conditions but the rows' own (what the listed package-level variables hold at the start).
-/
import Derived.Test.YtdgladhfibfdlaaGreatDoorRows
import Derived.Test.YtdgladhfibfdlaaGreatDoorCards
import Derived.Test.YtdgladhfibfdlaaGreatDoorTie
import Derived.Test.YtdgladhfibfdlaaGreatDoorQPSs47
import Derived.ChangeSame
import Derived.ChangeVars
import Derived.JoinedOf
import Derived.Stop.Joined
import Derived.Carry
import Derived.SevenTiedAt
import Derived.SizedLaws
namespace Go.Proofs.YtdgladhfibfdlaaGreatDoor
open Go.ChangeShapes Go.WideShapes Go.RowKit Go.Proofs.Tryz
open Go.ChangeMaps (open_string shut_string)
namespace PlanSharesRowProof
set_option maxRecDepth 100000 in
theorem lifted (os:Os)(started:os.Started)(H:Type)(enc:TypeId×Value→H):
  ReturnsInHanded {} checked os 4 .any (fun w args=>(Rows.planSharesSpec.pre enc prog f4 [] false w args∧laidMetH prog Oz w)∧sizedMet enc prog f4 (OpenSpec.ofChange Rows.planSharesSpec) false w args)
   (Rows.planSharesSpec.post enc prog f4 false true false false):=by
 refine returnsInHanded_of_change_and (C:=checked) (X:=fun w _=>laidMetH prog Oz w) (fun _ _ _ hh h=>h.of_heap hh) y9r started (by kernel_rfl) func4
  (ChangeSpec.witness_at (enc:=enc) (C:=checked) (os:=os) (X:=fun w _=>laidMetH prog Oz w) false (z0j os) #[.agg #[.int .u16 0,.int .u16 0],.slice none 0 0] 8 rfl (by kernel_rfl) (by kernel_rfl) (by kernel_rfl) (by kernel_rfl) (by kernel_rfl) (zZ os _)) ?_
 intro W base args ds gs before hval0 hW _ hszr hL _;have hval:∀(j:Nat) t v,f4.params[j]? =some t→args[j]? =some v→Value.okWide prog W .any base t v:=hval0;have hW':=hW;obtain⟨p,q,hA0,hV0,rfl,hfz,hnd⟩:=hW;have hA:DataW.TrodAll enc prog W 0 (fun _=>true) true f4.params.toList args.toList ds p:=hA0;have hV:DataW.TrodVars enc prog W (fun _=>true) [] gs q:=hV0;rw[params4] at hA hval;obtain⟨v0,vs0,d0,ds0,p0,q0,hargs,rfl,rfl,h0,r0⟩:=trodAll_cons hA;obtain⟨v1,vs1,d1,ds1,p1,q1,rfl,rfl,rfl,h1,r1⟩:=trodAll_cons r0;obtain⟨rfl,rfl,rfl⟩:=trodAll_nil r1;obtain rfl:args= #[v0,v1]:=by cases args;simp_all
 have hk0:=h0;have lt0:∀x∈p0,x.block<W.heap.size:=by obtain⟨m,hm⟩:=hk0;exact DataW.trod_lt m _ _ _ hm
 obtain⟨n0,m0,rfl,b0,bb0⟩:=z7a (hval 0 23 v0 rfl rfl) h0;have hk1:=h1;have lt1:∀x∈p1,x.block<W.heap.size:=by obtain⟨m,hm⟩:=hk1;exact DataW.trod_lt m _ _ _ hm
 obtain⟨a1,l1,c1,rfl,hs1,hlc1,hcm1⟩:=y5c (hval 1 62 v1 rfl rfl) h1;have hg:Hg W:=z60 hL;have hT:I7 W:=z2n hL;have hwo:Vz W:=zY hL;obtain⟨rfl,rfl⟩:gs=[]∧q=[]:=by
  cases gs with
  | nil=>exact⟨rfl,hV⟩
  | cons g r=>exact absurd hV (by intro h;cases h)
 refine(z71 n0 m0 a1 _ c1 l1 W (by omega) (by omega) rfl hs1 (by unfold maxLen at hcm1;omega) hg hwo hT).mono fun e W' ⟨he,hb⟩=> ?_
 subst he;exact⟨_,rfl,_,_,_,[],_,[],hW',trodAll_mk1 (shut_bool underlying4 true),(trodAll_cons_mk (Below.trod z9e (by kernel_rfl) (of_decide_eq_true (by kernel_rfl)) hk0 hb lt0) (trodAll_cons_mk (Below.trod z9e (by kernel_rfl) (of_decide_eq_true (by kernel_rfl)) hk1 hb lt1) trodAll_mk0)),rfl,hb.frame _,fun h=>by cases h⟩
theorem row_holds:Rows.PlanSharesSaid:=
 OpenClaim.holds_of_wide 4 f4 rfl rfl rfl rfl rfl rfl rfl ⟨rfl,rfl,rfl,rfl,rfl⟩ rfl rfl rfl rfl rfl (by kernel_rfl) func4 (by kernel_rfl)
  (of_decide_eq_true (by kernel_rfl)) (by unfold Func.isWrapper;rw[if_neg (of_decide_eq_false (by kernel_rfl))];exact⟨rfl,rfl⟩)
  (fun os started H enc _=>lifted os started H enc)
theorem card_holds:Rows.PlanSharesCardSaid:=
 Claim7.holds_tied_plain_at .later [] [.data, .handle, .data] true (true, "12533425b16c575b9f8870d9dfa91f0e7f5fa9e7d4a2522390fc494d6830eb14") true
  row_holds (fun _ h=>by cases h) (by kernel_rfl) (fun _ h=>by cases h) planShares_row_tie rfl ⟨rfl,rfl⟩ (by kernel_rfl) rfl
  (fun f fn hf hfn=>by
   obtain rfl : f = 4 := Option.some.inj ((show prog.funcNamed "warren/warrenlaw20.PlanShares" = some 4 by kernel_rfl).symm.trans hf) |>.symm
   obtain rfl:fn=f4:=(Option.some.inj (func4.symm.trans hfn)).symm;exact⟨by kernel_rfl,fun j t ht=>by
    rw[params4] at ht;have hc:t=23∨t=62:=by
     rcases j with _|_|j
     ·left;simpa using ht.symm
     ·right;simpa using ht.symm
     ·simp at ht
    rcases hc with rfl|rfl
    ·exact(show prog.wantsStandIn 23=false by kernel_rfl)
    ·exact(show prog.wantsStandIn 62=false by kernel_rfl)⟩)
  (by kernel_rfl)
end PlanSharesRowProof
end Go.Proofs.YtdgladhfibfdlaaGreatDoor
