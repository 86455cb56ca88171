/-
  The law LoadBack: for every input it answers true, and its arguments read as before. No conditions but the rows' own (what the listed package-level variables hold at the start).
-/
import Derived.Test.YtdnfhjfbanhhcaaGreatDoorRows
import Derived.Test.YtdnfhjfbanhhcaaGreatDoorCards
import Derived.Test.YtdnfhjfbanhhcaaGreatDoorTie
import Derived.Test.YtdnfhjfbanhhcaaGreatDoorProg
import Derived.Test.YtdnfhjfbanhhcaaGreatDoorQLBk46
import Derived.ChangeSame
import Derived.ChangeVars
import Derived.JoinedOf
import Derived.Stop.Joined
import Derived.Carry
import Derived.SevenTiedAt
import Derived.SizedLaws
namespace Go.Proofs.YtdnfhjfbanhhcaaGreatDoor
open Go.ChangeShapes Go.WideShapes Go.RowKit
open Go.ChangeMaps (open_string shut_string)
namespace LoadBackRowProof
set_option maxRecDepth 100000 in
theorem lifted (os:Os)(started:os.Started)(H:Type)(enc:TypeId×Value→H):
  ReturnsInHanded {} Tryz.checked os 4 .any (fun w args=>(Rows.loadBackSpec.pre enc Tryz.prog Tryz.f4 [] false w args∧laidMetH Tryz.prog z3c w)∧sizedMet enc Tryz.prog Tryz.f4 (OpenSpec.ofChange Rows.loadBackSpec) false w args)
   (Rows.loadBackSpec.post enc Tryz.prog Tryz.f4 false true false false):=by
 refine returnsInHanded_of_change_and (C:=Tryz.checked) (X:=fun w _=>laidMetH Tryz.prog z3c w) (fun _ _ _ hh h=>h.of_heap hh) q2n started (by kernel_rfl) Tryz.func4
  (ChangeSpec.witness_at (enc:=enc) (C:=Tryz.checked) (os:=os) (X:=fun w _=>laidMetH Tryz.prog z3c w) false (y4v os) #[.agg #[.int .u16 0,.int .u16 0],.string ByteArray.empty,.string ByteArray.empty] 8 rfl (by kernel_rfl) (by kernel_rfl) (by kernel_rfl) (by kernel_rfl) (by kernel_rfl) (y2m os _)) ?_
 intro W base args ds gs before hval0 hW _ hszr hL _;have hval:∀(j:Nat) t v,Tryz.f4.params[j]? =some t→args[j]? =some v→Value.okWide Tryz.prog W .any base t v:=hval0;have hW':=hW;obtain⟨p,q,hA0,hV0,rfl,hfz,hnd⟩:=hW;have hA:DataW.TrodAll enc Tryz.prog W 0 (fun _=>true) true Tryz.f4.params.toList args.toList ds p:=hA0;have hV:DataW.TrodVars enc Tryz.prog W (fun _=>true) [] gs q:=hV0;rw[Tryz.params4] at hA hval;obtain⟨v0,vs0,d0,ds0,p0,q0,hargs,rfl,rfl,h0,r0⟩:=trodAll_cons hA;obtain⟨v1,vs1,d1,ds1,p1,q1,rfl,rfl,rfl,h1,r1⟩:=trodAll_cons r0;obtain⟨v2,vs2,d2,ds2,p2,q2,rfl,rfl,rfl,h2,r2⟩:=trodAll_cons r1;obtain⟨rfl,rfl,rfl⟩:=trodAll_nil r2;obtain rfl:args= #[v0,v1,v2]:=by cases args;simp_all
 have hk0:=h0;have lt0:∀x∈p0,x.block<W.heap.size:=by obtain⟨m,hm⟩:=hk0;exact DataW.trod_lt m _ _ _ hm
 obtain⟨n0,m0,rfl,b0,bb0⟩:=x0z (hval 0 23 v0 rfl rfl) h0;obtain⟨s1,rfl,rfl,rfl,hs1⟩:=open_string Tryz.underlying9 (hval 1 9 v1 rfl rfl) h1;obtain⟨s2,rfl,rfl,rfl,hs2⟩:=open_string Tryz.underlying9 (hval 2 9 v2 rfl rfl) h2;have hg:Hg W:=x0q hL;have hT:z56 W:=y6y hL;have hwo:z0x W:=y2l hL;obtain⟨rfl,rfl⟩:gs=[]∧q=[]:=by
  cases gs with
  | nil=>exact⟨rfl,hV⟩
  | cons g r=>exact absurd hV (by intro h;cases h)
 refine(x90 n0 m0 s1 s2 W (by omega) (by omega) hg hwo hT).mono fun e W' ⟨he,hb⟩=> ?_
 subst he;exact⟨_,rfl,_,_,_,[],_,[],hW',trodAll_mk1 (shut_bool Tryz.underlying4 true),(trodAll_cons_mk (Below.trod q01 (by kernel_rfl) (of_decide_eq_true (by kernel_rfl)) hk0 hb lt0) (trodAll_cons_mk (shut_string Tryz.underlying9 hs1) (trodAll_cons_mk (shut_string Tryz.underlying9 hs2) trodAll_mk0))),rfl,hb.frame _,fun h=>by cases h⟩
theorem row_holds:Rows.LoadBackSaid:=
 OpenClaim.holds_of_wide 4 Tryz.f4 rfl rfl rfl rfl rfl rfl rfl ⟨rfl,rfl,rfl,rfl,rfl⟩ rfl rfl rfl rfl rfl (by kernel_rfl) Tryz.func4 (by kernel_rfl)
  (of_decide_eq_true (by kernel_rfl)) (by unfold Func.isWrapper;rw[if_neg (of_decide_eq_false (by kernel_rfl))];exact⟨rfl,rfl⟩)
  (fun os started H enc _=>lifted os started H enc)
theorem card_holds:Rows.LoadBackCardSaid:=
 Claim7.holds_tied_plain_at .later [] [.data, .handle, .data] true (true, "8fa4c6a90d10d1b5cd91c765516f224e92975edc696730d5763ca461f70ff267") true
  row_holds (fun _ h=>by cases h) (by kernel_rfl) (fun _ h=>by cases h) loadBack_row_tie rfl ⟨rfl,rfl⟩ (by kernel_rfl) rfl
  (fun f fn hf hfn=>by
   obtain rfl : f = 4 := Option.some.inj ((show Tryz.prog.funcNamed "warren/warrenlaw21.LoadBack" = some 4 by kernel_rfl).symm.trans hf) |>.symm
   obtain rfl:fn=Tryz.f4:=(Option.some.inj (Tryz.func4.symm.trans hfn)).symm;exact⟨by kernel_rfl,fun j t ht=>by
    rw[Tryz.params4] at ht;have hc:t=23∨t=9:=by
     rcases j with _|_|_|j
     ·left;simpa using ht.symm
     ·right;simpa using ht.symm
     ·right;simpa using ht.symm
     ·simp at ht
    rcases hc with rfl|rfl
    ·exact(show Tryz.prog.wantsStandIn 23=false by kernel_rfl)
    ·exact(show Tryz.prog.wantsStandIn 9=false by kernel_rfl)⟩)
  (by kernel_rfl)
end LoadBackRowProof
end Go.Proofs.YtdnfhjfbanhhcaaGreatDoor
