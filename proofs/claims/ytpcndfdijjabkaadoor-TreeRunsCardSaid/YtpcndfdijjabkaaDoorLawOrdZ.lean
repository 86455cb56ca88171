/-
  The law TreeOrders.
-/
import Derived.Test.YtpcndfdijjabkaaDoorGrownZ
import Derived.Test.YtpcndfdijjabkaaDoorSure12Z
import Derived.Test.YtpcndfdijjabkaaDoorRefTreeZ
import Derived.Test.YtpcndfdijjabkaaDoorGsZ
import Derived.Deep.CutBlock
import Derived.Deep.DeepCutAuto
namespace Go.Proofs.YtpcndfdijjabkaaDoor
open Go Go.RowKit

/-- What stands between the rounds: the list, the first tree's variable, the second one's, which is stored anew. -/
structure Or (w wr : World) (b5 b8 : Nat) (l es : List En) (lv : Value) (p5 p : Option Addr) (H : Nat) : Prop where
  ls : EV entE wr lv l
  t5 : TB wr b5 p5 l.length
  t8 : TB wr b8 p es.length
  tr : TreeP wr p es H
  b : Below w.heap.size w wr
  lo : w.heap.size ≤ b8
  ne : b5 ≠ b8
  g0 : ∀ {w'}, Below w.heap.size w w' → Hg w'
theorem Or.ls_at {w wr : World} {b5 b8 : Nat} {l es : List En} {a : Option Addr} {c : Nat} {p5 p : Option Addr} {H : Nat} (h : Or w wr b5 b8 l es (.slice a l.length c) p5 p H) (h0 : 0 < l.length) : ∃ g o, a = some ⟨g, o, none⟩ ∧ ∀ i, i < l.length → wr.cell? ⟨g, o + i * 2, none⟩ = some (.string (ea l i).k) ∧ wr.cell? ⟨g, o + i * 2 + 1, none⟩ = some (.string (ea l i).v) := by
  obtain ⟨a9, c9, e, hs, _⟩ := h.ls
  cases e
  exact hs.ents h0
theorem Or.ext {w wr w6 : World} {b5 b8 : Nat} {l es : List En} {lv : Value} {p5 p : Option Addr} {H : Nat} (h : Or w wr b5 b8 l es lv p5 p H) (hb : Below wr.heap.size wr w6) : Or w w6 b5 b8 l es lv p5 p H :=
  ⟨h.ls.ext hb, h.t5.ext hb, h.t8.ext hb, h.tr.ext hb, h.b.trans (hb.mono h.b.size), h.lo, h.ne, fun x => h.g0 x⟩
theorem Or.next {w wr w6 : World} {b5 b8 : Nat} {l es es2 : List En} {lv : Value} {p5 p p2 : Option Addr} {H H2 : Nat} (h : Or w wr b5 b8 l es lv p5 p H) (hb : Below wr.heap.size wr w6) (ht : TreeP w6 p2 es2 H2) :
    Or w ((w6.setCell ⟨b8, 0, none⟩ (.pointer p2)).setCell ⟨b8, 1, none⟩ (.int .i64 es2.length)) b5 b8 l es2 lv p5 p2 H2 := by
  have h6 := h.ext hb
  have t := turn_put w6 b8 (.pointer p2) (.int .i64 es2.length)
  have hF : TF w6 (fun i => i = b8) := TF.one h6.t8
  exact ⟨h6.ls.turn entE_str t hF, h6.t5.turn t h.ne, h6.t8.put p2 _, ht.turn t hF, below_put h6.b h.lo, h.lo, h.ne, fun x => h.g0 x⟩
/-- A tree's two cells in a new block, in one store. -/
theorem alloc_tree (W : World) : ∃ b W', W.heap.size = b ∧ W.alloc (.cells #[.pointer none, .int .i64 0] TT) = W' ∧ TB W' b none 0 ∧ Below W.heap.size W W' ∧ b < W'.heap.size :=
  ⟨_, _, rfl, rfl, by show (W.heap.push _)[W.heap.size]? = _; rw [Array.getElem?_push_size], (Below.refl _ _).alloc (Nat.le_refl _) _, by simp⟩
def PutIn (l : List En) (n t i : Nat) (es : List En) : Prop := srt es ∧ es.length ≤ i ∧ ∀ x, x ∈ es ↔ ∃ j, j < i ∧ x = ea l (putAt n t j)
def DelIn (l : List En) (n t i : Nat) (es : List En) : Prop := srt es ∧ es.length + i = n ∧ ∀ x, x ∈ es ↔ x ∈ l ∧ ∀ j, j < i → x ≠ ea l (delAt n t j)
theorem putAt_lt {n t i : Nat} (h : 0 < n) : putAt n t i < n := by unfold putAt; split <;> exact Nat.mod_lt _ h
theorem ea_own {l : List En} (h : bare l = l) (i : Nat) : [ea l i] = [⟨(ea l i).k, (ea l i).v, []⟩] := by
  have h1 := ea_bare l i
  rw [h] at h1
  exact congrArg (fun x => [x]) h1
theorem NewP.own {w : World} {p : Option Addr} {es : List En} {H : Nat} (h : NewP w p es H) : bare es = es := by
  obtain ⟨_, _, _, h2, _⟩ := h
  exact bare_own (fun e he => (h2 e he).1)
theorem putIn_next {l es : List En} {n t i : Nat} (hbl : bare l = l) (hl : srt l) (hn : l.length = n) (hi : i < n) (h : PutIn l n t i es) : PutIn l n t (i + 1) (rep es (ea l (putAt n t i)).k [ea l (putAt n t i)]) := by
  obtain ⟨h1, h2, h3⟩ := h
  have hlt := putAt_lt (n := n) (t := t) (i := i) (by omega)
  have hm : ea l (putAt n t i) ∈ l := ea_mem (by omega)
  refine ⟨srt_rep h1 (.inr ⟨(ea l (putAt n t i)).v, ea_own hbl _⟩), by have := rep_len es (ea l (putAt n t i)).k [ea l (putAt n t i)]; simp at this; omega, fun x => ?_⟩
  rw [mem_rep_iff h1, h3, List.mem_singleton]
  constructor
  · rintro (h4 | ⟨⟨j, hj, h4⟩, _⟩)
    · exact ⟨i, by omega, h4⟩
    · exact ⟨j, by omega, h4⟩
  · rintro ⟨j, hj, h4⟩
    by_cases hx : x = ea l (putAt n t i)
    · exact .inl hx
    · have hji : j < i := by
        rcases Nat.lt_or_ge j i with h5 | h5
        · exact h5
        · obtain rfl : j = i := by omega
          exact absurd h4 hx
      refine .inr ⟨⟨j, hji, h4⟩, fun hk => hx (srt_key hl ?_ hm hk)⟩
      rw [h4]; exact ea_mem (by rw [hn]; exact putAt_lt (by omega))
theorem putIn_all {l es : List En} {n t : Nat} (hl : srt l) (hn : l.length = n) (h : PutIn l n t n es) : es = l := by
  refine srt_ext h.1 hl (fun x => ?_)
  rw [h.2.2]
  constructor
  · rintro ⟨j, hj, rfl⟩
    exact ea_mem (by rw [hn]; exact putAt_lt (by omega))
  · intro hx
    obtain ⟨m, hm, rfl⟩ := ea_of_mem hx
    obtain ⟨i, hi, he⟩ := putAt_all (n := n) (t := t) (m := m) (by omega)
    exact ⟨i, hi, by rw [he]⟩
theorem delIn_next {l es : List En} {n t i : Nat} (hl : srt l) (hn : l.length = n) (hi : i < n) (h : DelIn l n t i es) : isE es (ea l (delAt n t i)).k = true ∧ DelIn l n t (i + 1) (tdL es (ea l (delAt n t i)).k) := by
  obtain ⟨h1, h2, h3⟩ := h
  have hlt : delAt n t i < n := Nat.mod_lt _ (by omega)
  have hm : ea l (delAt n t i) ∈ l := ea_mem (by omega)
  have hin : ea l (delAt n t i) ∈ es := (h3 _).2 ⟨hm, fun j hj he => by
    have hjl : delAt n t j < n := Nat.mod_lt _ (by omega)
    have := srt_ea hl (by omega) (by omega) (congrArg En.k he)
    exact delAt_inj hi hj this⟩
  have hI : isE es (ea l (delAt n t i)).k = true := (isE_iff h1 _).2 ⟨_, hin, rfl⟩
  have hg : goneE es (ea l (delAt n t i)).k = 1 := by unfold goneE; rw [hI]; rfl
  have hd : tdL es (ea l (delAt n t i)).k = rep es (ea l (delAt n t i)).k [] := by unfold tdL; rw [if_pos hI]
  refine ⟨hI, srt_tdL h1 _, ?_, fun x => ?_⟩
  · have := rep_len es (ea l (delAt n t i)).k []
    rw [hd]
    rw [hg] at this
    simp at this; omega
  · rw [hd, mem_rep_iff h1, h3]
    constructor
    · rintro (h4 | ⟨⟨h4, h5⟩, h6⟩)
      · cases h4
      · refine ⟨h4, fun j hj he => ?_⟩
        rcases Nat.lt_or_ge j i with h7 | h7
        · exact h5 j h7 he
        · obtain rfl : j = i := by omega
          exact h6 (by rw [he])
    · rintro ⟨h4, h5⟩
      exact .inr ⟨⟨h4, fun j hj => h5 j (by omega)⟩, fun hk => h5 i (by omega) (srt_key hl h4 hm hk)⟩
theorem putIn_zero (l : List En) (n t : Nat) : PutIn l n t 0 [] := ⟨List.Pairwise.nil, by simp, fun x => ⟨fun h => (by cases h), fun h => (by obtain ⟨j, hj, _⟩ := h; omega)⟩⟩
theorem delIn_zero {l : List En} {n t : Nat} (hl : srt l) (hn : l.length = n) : DelIn l n t 0 l := ⟨hl, by omega, fun x => ⟨fun h => ⟨h, fun j hj => absurd hj (by omega)⟩, fun h => h.1⟩⟩
set_option maxHeartbeats 4000000 in
set_option maxRecDepth 100000 in
theorem orders_any (A S T : Nat) (w : World) (hA : A < 65536) (hS : S < 65536) (hT : T < 65536) (hg : Hg w) :
    Calls Tryd.prog 6 #[.agg #[.int .u16 A, .int .u16 S], .int .u16 T] w fun e w' => e = .returned (.bool true) ∧ Below w.heap.size w w' := by
  obtain ⟨W, hW, _, hb⟩ := alloc_own w 23 #[.int .u16 A, .int .u16 S]
  obtain ⟨N, hN⟩ : ∃ N, N = A % 120 := ⟨_, rfl⟩
  have eN : (A : Int).tmod 120 = (N : Int) := by rw [Int.tmod_eq_emod_of_nonneg (by omega)]; omega
  have hN9 : N ≤ 119 := by omega
  have Hgr := Lib.hid (grown_any N S W (by omega) (by omega) (hg.below hb))
  have HW := Lib.hid hW
  have HB := Lib.hid hb
  have Hg0 : Hid (∀ {w'}, Below w.heap.size w w' → Hg w') := fun x => hg.below x
  clear hW hb hg hN
  go_enter Tryd.func6, Tryd.ntmps6
  go_wp2_with fail
  rw [HW.out]
  refine Hgr.out.mono ?_
  rintro e w1 ⟨p5, H5, l, lv, rfl, ht5, hl, hln, hb1⟩
  obtain ⟨W5, hW5, hT5, hb5⟩ := alloc_own w1 TT #[.pointer p5, .int .i64 l.length]
  obtain ⟨b8, W8, hb8, hW8, hT8, hbW8, hlt8⟩ := alloc_tree W5
  have hs5 : W5.heap.size = w1.heap.size + 1 := by rw [← hW5]; simp
  have hb01 := HB.out.trans (hb1.mono HB.out.size)
  have hb05 := hb01.trans (hb5.mono hb01.size)
  have hb08 := hb05.trans (hbW8.mono hb05.size)
  have HBl := Lib.hid ht5.own
  replace ht5 := ht5.tp
  have hf := ht5.facts
  have Hf := Lib.hid (And.intro hf.1 hf.2)
  have HOr : Hid (Or w W8 w1.heap.size b8 l [] lv p5 none 0) := ⟨(hl.ext hb5).ext hbW8, TB.ext (w := W5) hT5 hbW8, hT8, TreeP.none _, hb08, by rw [← hb8]; exact hb05.size, by omega, fun x => Hg0.out x⟩
  have HW8 : Hid ((w1.alloc (.cells #[.pointer p5, .int .i64 l.length] TT)).alloc (.cells #[.pointer none, .int .i64 0] TT) = W8) := by show _ = _; rw [hW5, hW8]
  have Hb8 : Hid (w1.heap.size + 1 = b8) := by show _ = _; rw [← hs5, hb8]
  obtain ⟨a0, c0, rfl, _, hz0, hnc0, hcm0⟩ := hl
  have Hl0 := Lib.hid (And.intro hz0 (And.intro hnc0 hcm0))
  obtain ⟨n, hn⟩ : ∃ n, l.length = n := ⟨_, rfl⟩
  have Hn := Lib.hid hn
  have hn9 : n ≤ 119 := by omega
  rw [hn] at HW8 ⊢
  clear hW5 hT5 hb5 hb8 hW8 hT8 hbW8 hlt8 hs5 hb01 hb05 hb08 hf ht5 hz0 hnc0 hcm0 hln hb1 hn HB Hgr HW
  go_wp2_with fail
  rw [HW8.out, Hb8.out]
  -- the puts
  go_loopw [10, 11, 12, 13] (fun iv _ _ _ wr => ∃ (i : Nat) (es : List En) (p : Option Addr) (H : Nat), iv = .int .i64 i ∧ i ≤ n ∧ Hid (Or w wr w1.heap.size b8 l es (.slice a0 l.length c0) p5 p H) ∧ Hid (PutIn l n T i es)) (fun iv _ _ _ _ => n - (intOf iv).toNat)
  case atStart => exact ⟨0, [], none, 0, rfl, by omega, HOr, putIn_zero l n T⟩
  case round =>
    obtain ⟨i, es, p, H, rfl, hi, hor, hin⟩ := hrel
    by_cases hlt : i < n
    · -- the place
      obtain ⟨X, hX⟩ : ∃ X, X = i * 7 + T := ⟨_, rfl⟩
      have eX : (i : Int) * 7 + (T : Int) = (X : Int) := by omega
      have hX9 : X ≤ 70000 := by omega
      obtain ⟨Y, hY⟩ : ∃ Y, Y = i + T := ⟨_, rfl⟩
      have eY : (i : Int) + (T : Int) = (Y : Int) := by omega
      have hY9 : Y ≤ 70000 := by omega
      obtain ⟨KX, hKX⟩ : ∃ K, K = X % n := ⟨_, rfl⟩
      have eKX : (X : Int).tmod (n : Int) = (KX : Int) := by rw [Int.tmod_eq_emod_of_nonneg (by omega), hKX]; exact (Int.natCast_emod X n).symm
      obtain ⟨KY, hKY⟩ : ∃ K, K = Y % n := ⟨_, rfl⟩
      have eKY : (Y : Int).tmod (n : Int) = (KY : Int) := by rw [Int.tmod_eq_emod_of_nonneg (by omega), hKY]; exact (Int.natCast_emod Y n).symm
      have hKXn : KX < n := by rw [hKX]; exact Nat.mod_lt _ (by omega)
      have hKYn : KY < n := by rw [hKY]; exact Nat.mod_lt _ (by omega)
      obtain ⟨R7, hR7⟩ : ∃ R, R = n % 7 := ⟨_, rfl⟩
      have eR7 : (n : Int).tmod 7 = (R7 : Int) := by rw [Int.tmod_eq_emod_of_nonneg (by omega)]; omega
      have hn0 : ((n : Int) == 0) = false := by rw [beq_eq_false_iff_ne]; omega
      have hn0' : ¬ (n : Int) = 0 := by omega
      have hplace : Hid (putAt n T i = if R7 = 0 then KY else KX) := by show _ = _; unfold putAt; rw [hKX, hKY, hX, hY, hR7]
      have hR9 : R7 ≤ 6 := by omega
      clear hX hY hKX hKY hR7
      go_upto_if 48 with fail
      go_cut [11] (fun kv wx => wr = wx ∧ kv = .int .i64 ((putAt n T i : Nat) : Int))
      case first =>
        by_cases h7 : R7 = 0
        · have d7 : ((R7 : Int) == 0) = true := by rw [beq_iff_eq]; omega
          have hp2 : Hid (putAt n T i = KY) := by show _ = _; rw [hplace.out, if_pos h7]
          clear hplace
          go_wp2
          go_meet
          exact ⟨by first | trivial | rfl, by rw [hp2.out]⟩
        · have d7 : ((R7 : Int) == 0) = false := by rw [beq_eq_false_iff_ne]; omega
          have hp2 : Hid (putAt n T i = KX) := by show _ = _; rw [hplace.out, if_neg h7]
          clear hplace
          go_wp2
          go_meet
          exact ⟨by first | trivial | rfl, by rw [hp2.out]⟩
      case rest =>
        obtain ⟨hwx, rfl⟩ := hcut
        subst hwx
        obtain ⟨K, hKd⟩ : ∃ K, putAt n T i = K := ⟨_, rfl⟩
        have HK := Lib.hid hKd
        have hKn : K < n := by rw [← hKd]; exact putAt_lt (by omega)
        rw [hKd]
        clear hKd eX hX9 eY hY9 eKX eKY hKXn hKYn eR7 hplace hR9
        obtain ⟨g, o, ha0, hcell⟩ := hor.out.ls_at (by rw [Hn.out]; omega)
        subst ha0
        obtain ⟨k1, k2⟩ := hcell K (by rw [Hn.out]; exact hKn)
        obtain ⟨W, hW⟩ : ∃ W, wr.drew = W := ⟨_, rfl⟩
        have hbd : Below wr.heap.size wr W := by rw [← hW]; exact (Below.refl _ _).drew
        have horW := hor.out.ext hbd
        have l1 := block_lt_of_cell k1
        have q1 : ∀ w', Turn (fun _ => False) W w' → w'.cell? ⟨g, o + K * 2, none⟩ = some (.string (ea l K).k) := fun w' t => by
          rw [(hbd.trans (t.below hbd.size (fun _ h => h.elim))).cell (p := ⟨g, o + K * 2, none⟩) l1]; exact k1
        have q2 : ∀ w', Turn (fun _ => False) W w' → w'.cell? ⟨g, o + K * 2 + 1, none⟩ = some (.string (ea l K).v) := fun w' t => by
          rw [(hbd.trans (t.below hbd.size (fun _ h => h.elim))).cell (p := ⟨g, o + K * 2 + 1, none⟩) l1]; exact k2
        have q3 : ∀ w', Turn (fun _ => False) W w' → w'.cell? ⟨b8, 0, none⟩ = some (.pointer p) := fun w' t => (horW.t8.turn t (fun h => h)).c0
        have q4 : ∀ w', Turn (fun _ => False) W w' → w'.cell? ⟨b8, 1, none⟩ = some (.int .i64 es.length) := fun w' t => (horW.t8.turn t (fun h => h)).c1
        have HW := Lib.hid hW
        have Hbd := Lib.hid hbd
        have HorW := Lib.hid horW
        have i1 : (0 : Int) ≤ (K : Int) := by omega
        have i2 : (K : Int) < (n : Int) := by omega
        have z0 : IntKind.i64.wrap (K : Int) = (K : Int) := by rw [IntKind.wrap_i64]; omega
        have hmem : ea l K ∈ l := ea_mem (by rw [Hn.out]; exact hKn)
        have hokE := Hf.out.2 _ hmem
        have hes9 : es.length < 4096 := by have := hin.out.2.1; omega
        have htp := tp_ok (es := es) hokE.1 hokE.2 hes9
        have hnx := putIn_next (t := T) HBl.out Hf.out.1 Hn.out hlt hin.out
        rw [HK.out] at hnx
        have hown := ea_own HBl.out K
        obtain ⟨es2, hes2⟩ : ∃ es2, rep es (ea l K).k [ea l K] = es2 := ⟨_, rfl⟩
        have hes3 := hes2
        rw [hown] at hes3
        rw [hes2] at hnx
        have hcall : ∀ w', TreeP w' p es H → Calls Tryd.prog 8 #[.agg #[.pointer p, .int .i64 es.length], .string (ea l K).k, .string (ea l K).v] w' fun e w'' => ∃ p' H', e = .returned (.tuple #[.agg #[.pointer p', .int .i64 es2.length], .nilIface]) ∧ TreeP w'' p' es2 H' ∧ Below w'.heap.size w' w'' := fun w' ht => by
          have h := put_all p es H (ea l K).k (ea l K).v w' ht (by omega)
          have e1 : tpL es (ea l K).k (ea l K).v = es2 := by rw [htp.2]; exact hes3
          rw [htp.1, e1] at h
          exact h
        have Hcall := Lib.hid hcall
        have Hnx := Lib.hid hnx
        obtain ⟨m, hm⟩ : ∃ m, es.length = m := ⟨_, rfl⟩
        obtain ⟨N2, hN2⟩ : ∃ m, es2.length = m := ⟨_, rfl⟩
        have HM := Lib.hid (And.intro hm hN2)
        rw [hm] at q4
        rw [hm, hN2] at Hcall
        generalize (ea l K).k = key at *
        generalize (ea l K).v = val at *
        clear hW hbd horW k1 k2 hcell l1 hcall hnx hm hN2 hin hmem hokE hes9 htp hes2 hown hes3
        go_wp2_with fail
        refine wp_region_gx (fun _ => False) (.rd 0 (.rd 1 (.rd 2 (.rd 3 (.rd 4 (.rd 5 (.rd 6 (.rd 7 (.rd 8 (.rd 9 (.rd 10 (.two 11 (.rd 12 (.rd 13 (.rd 14 (.call 15 (.call 16 (.rd 17 .done)))))) 15 (.call 11 (.rd 12 (.rd 13 (.rd 14 (.call 16 (.rd 17 .done)))))))))))))))))) (by kernel_rfl) (by kernel_rfl) (by kernel_rfl) (by kernel_rfl) (fun _ _ _ _ _ h => h) ?_
        rw [HW.out]
        iterate 11 (refine wpGx_read (o := ⟨_, _, _, _, _, _⟩) (v := ?_) rfl (by rfl) ?_ ?_; rotate_left; (intro w' hw'; go_simp; with_reducible rfl); simp only [Act.put, List.setIfInBounds_toArray, List.set_cons_zero, List.set_cons_succ])
        clear q1 q2 q3 q4 HW
        refine ⟨?_, ?_⟩
        · refine stepX_call (o := ⟨_, _, _, _, _, _⟩) rfl (by rfl) (fun K hK => ?_)
          go_simp
          refine (Hcall.out W HorW.out.tr).mono ?_
          rintro e w2 ⟨p2, H2, rfl, ht2, hb2⟩
          refine hK (fun _ => False) (fun _ h => h.elim) _ _ (Turn.ofBelow hb2) ?_
          clear hK K Hcall
          iterate 3 (refine wpGx_read (o := ⟨_, _, _, _, _, _⟩) (v := ?_) rfl (by rfl) ?_ ?_; rotate_left; (intro w' hw'; go_simp; with_reducible rfl); simp only [Act.put, List.setIfInBounds_toArray, List.set_cons_zero, List.set_cons_succ])
          obtain ⟨b, W3, hb, hW3, hT3, hb3, hlt3⟩ := alloc_tree w2
          have HG := Lib.hid (And.intro hb hW3)
          have Hb3 := Lib.hid hb3
          have hb03 := Hbd.out.trans ((hb2.trans (hb3.mono hb2.size)).mono Hbd.out.size)
          have hlob : wr.heap.size ≤ b := by rw [← hb]; exact Nat.le_trans Hbd.out.size hb2.size
          have HT3 := Lib.hid hT3
          have HR3 := Lib.hid (ht2.ext hb3)
          have HB3 := Lib.hid hb03
          have hbw2 : ¬ b < w2.heap.size := by omega
          clear hb hW3 hT3 hb3 hlt3 ht2 hb2 hb03
          refine stepX_call (o := ⟨_, _, _, _, _, _⟩) rfl (by rfl) (fun K hK => ?_)
          go_simp
          rw [HG.out.1, HG.out.2]
          refine hK (fun i => i = b) (fun j h hj => absurd hj (by omega)) _ _ (Turn.ofBelow Hb3.out) ?_
          clear hK K HG Hb3 hbw2
          have r0 := HT3.out.c0
          have r1 := HT3.out.c1
          have r2 := HT3.out.fz 0
          have r3 := HT3.out.fz 1
          refine stepX_call (o := ⟨_, _, _, _, _, _⟩) rfl (by rfl) (fun K hK => ?_)
          go_simp
          refine hK (fun _ => False) (fun _ h => h.elim) _ _ (turn_put _ _ _ _) ?_
          clear hK K r0 r1 r2 r3
          iterate 1 (refine wpGx_read (o := ⟨_, _, _, _, _, _⟩) (v := ?_) rfl (by rfl) ?_ ?_; rotate_left; (intro w' hw'; go_simp; with_reducible rfl); simp only [Act.put, List.setIfInBounds_toArray, List.set_cons_zero, List.set_cons_succ])
          refine wpGx_done ?_
          obtain ⟨W4, hW4⟩ : ∃ W4, (W3.setCell ⟨b, 0, none⟩ (.pointer p2)).setCell ⟨b, 1, none⟩ (.int .i64 (N2 : Int)) = W4 := ⟨_, rfl⟩
          have hT4 := HT3.out.put p2 (N2 : Int)
          have hR4 := HR3.out.turn (turn_put W3 b (.pointer p2) (.int .i64 (N2 : Int))) (TF.one HT3.out)
          have hB4 : Below wr.heap.size wr ((W3.setCell ⟨b, 0, none⟩ (.pointer p2)).setCell ⟨b, 1, none⟩ (.int .i64 (N2 : Int))) := below_put HB3.out hlob
          rw [hW4] at hT4 hR4 hB4 ⊢
          clear hW4 HT3 HR3 HB3
          have c0' := hT4.c0
          have c1' := hT4.c1
          have h8 := (hor.out.ext hB4).t8
          have d0 := h8.c0
          have d1 := h8.c1
          have f0 := h8.fz 0
          have f1 := h8.fz 1
          have hfin := hor.out.next hB4 hR4
          rw [HM.out.2] at hfin
          have Hfin := Lib.hid hfin
          clear hT4 hR4 hB4 h8 hfin hor HorW
          go_wp2_with fail
          go_roundw
          case rel => exact ⟨i + 1, es2, p2, H2, by go_num, by omega, Hfin, Hnx⟩
          case measure => simp [intOf]; omega

        · obtain ⟨b, W1, hb, hW1, hT1, hb1, hlt1⟩ := alloc_tree W
          have HG := Lib.hid (And.intro hb hW1)
          have Hb1 := Lib.hid hb1
          have HT1 := Lib.hid hT1
          have hlob : wr.heap.size ≤ b := by rw [← hb]; exact Hbd.out.size
          have HB1 := Lib.hid (Hbd.out.trans (hb1.mono Hbd.out.size))
          have HR1 := Lib.hid (HorW.out.tr.ext hb1)
          have hbw2 : ¬ b < W.heap.size := by omega
          clear hb hW1 hT1 hb1 hlt1
          refine stepX_call (o := ⟨_, _, _, _, _, _⟩) rfl (by rfl) (fun K hK => ?_)
          go_simp
          rw [HG.out.1, HG.out.2]
          refine hK (fun i => i = b) (fun j h hj => absurd hj (by omega)) _ _ (Turn.ofBelow Hb1.out) ?_
          clear hK K HG Hb1 hbw2
          refine stepX_call (o := ⟨_, _, _, _, _, _⟩) rfl (by rfl) (fun K hK => ?_)
          go_simp
          refine (Hcall.out W1 HR1.out).mono ?_
          rintro e W3 ⟨p2, H2, rfl, ht2, hb2⟩
          refine hK (fun i => i = b) (fun _ h _ => h) _ _ (Turn.ofBelow hb2) ?_
          clear hK K Hcall
          iterate 3 (refine wpGx_read (o := ⟨_, _, _, _, _, _⟩) (v := ?_) rfl (by rfl) ?_ ?_; rotate_left; (intro w' hw'; go_simp; with_reducible rfl); simp only [Act.put, List.setIfInBounds_toArray, List.set_cons_zero, List.set_cons_succ])
          have HT3 := Lib.hid (HT1.out.ext hb2)
          have HR3 := Lib.hid ht2
          have HB3 := Lib.hid (HB1.out.trans (hb2.mono HB1.out.size))
          clear ht2 hb2
          have r0 := HT3.out.c0
          have r1 := HT3.out.c1
          have r2 := HT3.out.fz 0
          have r3 := HT3.out.fz 1
          refine stepX_call (o := ⟨_, _, _, _, _, _⟩) rfl (by rfl) (fun K hK => ?_)
          go_simp
          refine hK (fun _ => False) (fun _ h => h.elim) _ _ (turn_put _ _ _ _) ?_
          clear hK K r0 r1 r2 r3
          iterate 1 (refine wpGx_read (o := ⟨_, _, _, _, _, _⟩) (v := ?_) rfl (by rfl) ?_ ?_; rotate_left; (intro w' hw'; go_simp; with_reducible rfl); simp only [Act.put, List.setIfInBounds_toArray, List.set_cons_zero, List.set_cons_succ])
          refine wpGx_done ?_
          obtain ⟨W4, hW4⟩ : ∃ W4, (W3.setCell ⟨b, 0, none⟩ (.pointer p2)).setCell ⟨b, 1, none⟩ (.int .i64 (N2 : Int)) = W4 := ⟨_, rfl⟩
          have hT4 := HT3.out.put p2 (N2 : Int)
          have hR4 := HR3.out.turn (turn_put W3 b (.pointer p2) (.int .i64 (N2 : Int))) (TF.one HT3.out)
          have hB4 : Below wr.heap.size wr ((W3.setCell ⟨b, 0, none⟩ (.pointer p2)).setCell ⟨b, 1, none⟩ (.int .i64 (N2 : Int))) := below_put HB3.out hlob
          rw [hW4] at hT4 hR4 hB4 ⊢
          clear hW4 HT3 HR3 HB3
          have c0' := hT4.c0
          have c1' := hT4.c1
          have h8 := (hor.out.ext hB4).t8
          have d0 := h8.c0
          have d1 := h8.c1
          have f0 := h8.fz 0
          have f1 := h8.fz 1
          have hfin := hor.out.next hB4 hR4
          rw [HM.out.2] at hfin
          have Hfin := Lib.hid hfin
          clear hT4 hR4 hB4 h8 hfin hor HorW
          go_wp2_with fail
          go_roundw
          case rel => exact ⟨i + 1, es2, p2, H2, by go_num, by omega, Hfin, Hnx⟩
          case measure => simp [intOf]; omega

    · have hie : n = i := by omega
      subst hie
      have hall : l = es := (putIn_all Hf.out.1 Hn.out hin.out).symm
      subst hall
      -- all of it, and how many
      obtain ⟨W, hW⟩ : ∃ W, wr.drew = W := ⟨_, rfl⟩
      have hbd : Below wr.heap.size wr W := by rw [← hW]; exact (Below.refl _ _).drew
      have horW := hor.out.ext hbd
      have q3 : ∀ w', Ext W w' → w'.cell? ⟨b8, 0, none⟩ = some (.pointer p) := fun w' t => (horW.ext t).t8.c0
      have q4 : ∀ w', Ext W w' → w'.cell? ⟨b8, 1, none⟩ = some (.int .i64 l.length) := fun w' t => (horW.ext t).t8.c1
      have HW := Lib.hid hW
      have HorW := Lib.hid horW
      have Hall := Lib.hid (all_any p l H W horW.tr (by rw [Hn.out]; omega))
      rw [Hn.out] at q4 Hall
      clear hW hbd horW hin hor
      go_wp2_with fail
      refine wp_region_gr [(0, true), (2, true), (1, false), (3, false), (4, true), (5, true), (6, true), (8, true), (7, false), (9, false), (10, true), (11, true)] (by kernel_rfl) (by kernel_rfl) (by kernel_rfl) (by kernel_rfl) (fun _ _ _ _ _ h => h) ?_
      rw [HW.out]
      iterate 2 (refine wpGr_read (o := ⟨_, _, _, _, _, _⟩) (v := ?_) rfl (by rfl) ?_ ?_; rotate_left; (intro w' hw'; go_simp; with_reducible rfl); simp only [Act.put, List.setIfInBounds_toArray, List.set_cons_zero, List.set_cons_succ])
      clear q3 q4
      refine wpGr_call (o := ⟨_, _, _, _, _, _⟩) rfl (by rfl) (fun K hK => ?_)
      go_simp
      refine Hall.out.mono ?_
      rintro e w2 ⟨v, rfl, ⟨a2, c2, rfl, s2, _⟩, hb2⟩
      refine hK _ _ hb2 ?_
      clear hK K Hall
      have hor2 := HorW.out.ext hb2
      obtain ⟨a9, c9, e9, s9, _⟩ := hor2.ls
      rw [Hn.out] at e9
      cases e9
      have Hare := Lib.hid (are_yes a2 a0 n c2 c0 l w2 Hn.out s2 s9 (by omega))
      have Hor2 := Lib.hid hor2
      rw [Hn.out]
      clear hb2 s2 s9 hor2
      refine wpGr_call (o := ⟨_, _, _, _, _, _⟩) rfl (by rfl) (fun K hK => ?_)
      go_simp
      refine Hare.out.mono ?_
      rintro e w3 ⟨rfl, hb3⟩
      refine hK _ _ hb3 ?_
      clear hK K Hare
      have hor3 := Hor2.out.ext hb3
      have q3 : ∀ w', Ext w3 w' → w'.cell? ⟨b8, 0, none⟩ = some (.pointer p) := fun w' t => (hor3.ext t).t8.c0
      have q4 : ∀ w', Ext w3 w' → w'.cell? ⟨b8, 1, none⟩ = some (.int .i64 l.length) := fun w' t => (hor3.ext t).t8.c1
      have q5 : ∀ w', Ext w3 w' → w'.cell? ⟨w1.heap.size, 0, none⟩ = some (.pointer p5) := fun w' t => (hor3.ext t).t5.c0
      have q6 : ∀ w', Ext w3 w' → w'.cell? ⟨w1.heap.size, 1, none⟩ = some (.int .i64 l.length) := fun w' t => (hor3.ext t).t5.c1
      rw [Hn.out] at q4 q6
      have Hor3 := Lib.hid hor3
      clear hb3 hor3 Hor2
      iterate 4 (refine wpGr_read (o := ⟨_, _, _, _, _, _⟩) (v := ?_) rfl (by rfl) ?_ ?_; rotate_left; (intro w' hw'; go_simp; with_reducible rfl); simp only [Act.put, List.setIfInBounds_toArray, List.set_cons_zero, List.set_cons_succ])
      clear q3 q4 q5 q6
      refine wpGr_call (o := ⟨_, _, _, _, _, _⟩) rfl (by rfl) (fun K hK => ?_)
      go_simp
      refine (len_any p (n : Int) w3).mono ?_
      rintro e w4 ⟨rfl, hb4⟩
      refine hK _ _ hb4 ?_
      clear hK K
      refine wpGr_call (o := ⟨_, _, _, _, _, _⟩) rfl (by rfl) (fun K hK => ?_)
      go_simp
      refine (len_any p5 (n : Int) w4).mono ?_
      rintro e w5 ⟨rfl, hb5⟩
      refine hK _ _ hb5 ?_
      clear hK K
      have Hor5 := Lib.hid (Hor3.out.ext (hb4.trans (hb5.mono hb4.size)))
      clear hb4 hb5 Hor3 HorW
      iterate 2 (refine wpGr_read (o := ⟨_, _, _, _, _, _⟩) (v := ?_) rfl (by rfl) ?_ ?_; rotate_left; (intro w' hw'; go_simp; with_reducible rfl); simp only [Act.put, List.setIfInBounds_toArray, List.set_cons_zero, List.set_cons_succ])
      refine wpGr_done ?_
      go_wp2_with fail
      -- the deletions
      go_loopw [14, 15, 16, 17] (fun iv _ _ _ wr => ∃ (i : Nat) (es : List En) (p : Option Addr) (H : Nat), iv = .int .i64 i ∧ i ≤ n ∧ Hid (Or w wr w1.heap.size b8 l es (.slice a0 l.length c0) p5 p H) ∧ Hid (DelIn l n T i es)) (fun iv _ _ _ _ => n - (intOf iv).toNat)
      case atStart => exact ⟨0, l, p, H, rfl, by omega, Hor5, delIn_zero Hf.out.1 Hn.out⟩
      case round =>
        clear Hor5
        obtain ⟨i, es, p, H, rfl, hi, hor, hin⟩ := hrel
        by_cases hlt : i < n
        · obtain ⟨Y, hY⟩ : ∃ Y, Y = i + T := ⟨_, rfl⟩
          have eY : (i : Int) + (T : Int) = (Y : Int) := by omega
          have hY9 : Y ≤ 70000 := by omega
          obtain ⟨K, hKY⟩ : ∃ K, K = Y % n := ⟨_, rfl⟩
          have eKY : (Y : Int).tmod (n : Int) = (K : Int) := by rw [Int.tmod_eq_emod_of_nonneg (by omega), hKY]; exact (Int.natCast_emod Y n).symm
          have hKn : K < n := by rw [hKY]; exact Nat.mod_lt _ (by omega)
          have HK : Hid (delAt n T i = K) := by show _ = _; unfold delAt; rw [hKY, hY]
          have hn0 : ((n : Int) == 0) = false := by rw [beq_eq_false_iff_ne]; omega
          have hn0' : ¬ (n : Int) = 0 := by omega
          clear hY hKY
          go_wp2_with fail
          clear eY eKY hY9
          obtain ⟨g, o, ha0, hcell⟩ := hor.out.ls_at (by rw [Hn.out]; omega)
          subst ha0
          obtain ⟨k1, k2⟩ := hcell K (by rw [Hn.out]; exact hKn)
          obtain ⟨W, hW⟩ : ∃ W, wr.drew = W := ⟨_, rfl⟩
          have hbd : Below wr.heap.size wr W := by rw [← hW]; exact (Below.refl _ _).drew
          have horW := hor.out.ext hbd
          have l1 := block_lt_of_cell k1
          have q1 : ∀ w', Turn (fun _ => False) W w' → w'.cell? ⟨g, o + K * 2, none⟩ = some (.string (ea l K).k) := fun w' t => by
            rw [(hbd.trans (t.below hbd.size (fun _ h => h.elim))).cell (p := ⟨g, o + K * 2, none⟩) l1]; exact k1
          have q2 : ∀ w', Turn (fun _ => False) W w' → w'.cell? ⟨g, o + K * 2 + 1, none⟩ = some (.string (ea l K).v) := fun w' t => by
            rw [(hbd.trans (t.below hbd.size (fun _ h => h.elim))).cell (p := ⟨g, o + K * 2 + 1, none⟩) l1]; exact k2
          have q3 : ∀ w', Turn (fun _ => False) W w' → w'.cell? ⟨b8, 0, none⟩ = some (.pointer p) := fun w' t => (horW.t8.turn t (fun h => h)).c0
          have q4 : ∀ w', Turn (fun _ => False) W w' → w'.cell? ⟨b8, 1, none⟩ = some (.int .i64 es.length) := fun w' t => (horW.t8.turn t (fun h => h)).c1
          have HW := Lib.hid hW
          have Hbd := Lib.hid hbd
          have HorW := Lib.hid horW
          have i1 : (0 : Int) ≤ (K : Int) := by omega
          have i2 : (K : Int) < (n : Int) := by omega
          have z0 : IntKind.i64.wrap (K : Int) = (K : Int) := by rw [IntKind.wrap_i64]; omega
          have hdn := delIn_next (t := T) Hf.out.1 Hn.out hlt hin.out
          rw [HK.out] at hdn
          have hnx := hdn.2
          obtain ⟨es2, hes2⟩ : ∃ es2, tdL es (ea l K).k = es2 := ⟨_, rfl⟩
          rw [hes2] at hnx
          have hcall : ∀ w', TreeP w' p es H → Calls Tryd.prog 11 #[.agg #[.pointer p, .int .i64 es.length], .string (ea l K).k] w' fun e w'' => ∃ p' H', e = .returned (.tuple #[.agg #[.pointer p', .int .i64 es2.length], .bool true]) ∧ TreeP w'' p' es2 H' ∧ Below w'.heap.size w' w'' := fun w' ht => by
            have h := delete_all p es H (ea l K).k w' ht (by have := hin.out.2.1; omega)
            rw [hdn.1, hes2] at h
            exact h
          have Hcall := Lib.hid hcall
          have Hnx := Lib.hid hnx
          obtain ⟨m, hm⟩ : ∃ m, es.length = m := ⟨_, rfl⟩
          obtain ⟨N2, hN2⟩ : ∃ m, es2.length = m := ⟨_, rfl⟩
          have HM := Lib.hid (And.intro hm hN2)
          rw [hm] at q4
          rw [hm, hN2] at Hcall
          generalize (ea l K).k = key at *
          generalize (ea l K).v = val at *
          clear hW hbd horW k1 k2 hcell l1 hcall hnx hm hN2 hin hdn hes2
          go_wp2_with fail
          refine wp_region_gx (fun _ => False) (.rd 0 (.rd 1 (.rd 2 (.rd 3 (.rd 4 (.rd 5 (.two 6 (.rd 7 (.rd 8 (.rd 9 (.call 10 (.call 11 (.rd 12 .done)))))) 10 (.call 6 (.rd 7 (.rd 8 (.rd 9 (.call 11 (.rd 12 .done))))))))))))) (by kernel_rfl) (by kernel_rfl) (by kernel_rfl) (by kernel_rfl) (fun _ _ _ _ _ h => h) ?_
          rw [HW.out]
          iterate 6 (refine wpGx_read (o := ⟨_, _, _, _, _, _⟩) (v := ?_) rfl (by rfl) ?_ ?_; rotate_left; (intro w' hw'; go_simp; with_reducible rfl); simp only [Act.put, List.setIfInBounds_toArray, List.set_cons_zero, List.set_cons_succ])
          clear q1 q2 q3 q4 HW
          refine ⟨?_, ?_⟩
          · refine stepX_call (o := ⟨_, _, _, _, _, _⟩) rfl (by rfl) (fun K hK => ?_)
            go_simp
            refine (Hcall.out W HorW.out.tr).mono ?_
            rintro e w2 ⟨p2, H2, rfl, ht2, hb2⟩
            refine hK (fun _ => False) (fun _ h => h.elim) _ _ (Turn.ofBelow hb2) ?_
            clear hK K Hcall
            iterate 3 (refine wpGx_read (o := ⟨_, _, _, _, _, _⟩) (v := ?_) rfl (by rfl) ?_ ?_; rotate_left; (intro w' hw'; go_simp; with_reducible rfl); simp only [Act.put, List.setIfInBounds_toArray, List.set_cons_zero, List.set_cons_succ])
            obtain ⟨b, W3, hb, hW3, hT3, hb3, hlt3⟩ := alloc_tree w2
            have HG := Lib.hid (And.intro hb hW3)
            have Hb3 := Lib.hid hb3
            have hb03 := Hbd.out.trans ((hb2.trans (hb3.mono hb2.size)).mono Hbd.out.size)
            have hlob : wr.heap.size ≤ b := by rw [← hb]; exact Nat.le_trans Hbd.out.size hb2.size
            have HT3 := Lib.hid hT3
            have HR3 := Lib.hid (ht2.ext hb3)
            have HB3 := Lib.hid hb03
            have hbw2 : ¬ b < w2.heap.size := by omega
            clear hb hW3 hT3 hb3 hlt3 ht2 hb2 hb03
            refine stepX_call (o := ⟨_, _, _, _, _, _⟩) rfl (by rfl) (fun K hK => ?_)
            go_simp
            rw [HG.out.1, HG.out.2]
            refine hK (fun i => i = b) (fun j h hj => absurd hj (by omega)) _ _ (Turn.ofBelow Hb3.out) ?_
            clear hK K HG Hb3 hbw2
            have r0 := HT3.out.c0
            have r1 := HT3.out.c1
            have r2 := HT3.out.fz 0
            have r3 := HT3.out.fz 1
            refine stepX_call (o := ⟨_, _, _, _, _, _⟩) rfl (by rfl) (fun K hK => ?_)
            go_simp
            refine hK (fun _ => False) (fun _ h => h.elim) _ _ (turn_put _ _ _ _) ?_
            clear hK K r0 r1 r2 r3
            iterate 1 (refine wpGx_read (o := ⟨_, _, _, _, _, _⟩) (v := ?_) rfl (by rfl) ?_ ?_; rotate_left; (intro w' hw'; go_simp; with_reducible rfl); simp only [Act.put, List.setIfInBounds_toArray, List.set_cons_zero, List.set_cons_succ])
            refine wpGx_done ?_
            obtain ⟨W4, hW4⟩ : ∃ W4, (W3.setCell ⟨b, 0, none⟩ (.pointer p2)).setCell ⟨b, 1, none⟩ (.int .i64 (N2 : Int)) = W4 := ⟨_, rfl⟩
            have hT4 := HT3.out.put p2 (N2 : Int)
            have hR4 := HR3.out.turn (turn_put W3 b (.pointer p2) (.int .i64 (N2 : Int))) (TF.one HT3.out)
            have hB4 : Below wr.heap.size wr ((W3.setCell ⟨b, 0, none⟩ (.pointer p2)).setCell ⟨b, 1, none⟩ (.int .i64 (N2 : Int))) := below_put HB3.out hlob
            rw [hW4] at hT4 hR4 hB4 ⊢
            clear hW4 HT3 HR3 HB3
            have c0' := hT4.c0
            have c1' := hT4.c1
            have Hlen := Lib.hid (len_any p2 (N2 : Int) W4)
            have hcnt : N2 + i + 1 = n := by have := Hnx.out.2.1; rw [HM.out.2] at this; omega
            obtain ⟨X1, hX1⟩ : ∃ X1, X1 = n - 1 := ⟨_, rfl⟩
            have eX1 : IntKind.i64.wrap ((n : Int) - 1) = (X1 : Int) := by rw [IntKind.wrap_i64]; omega
            have eX2 : IntKind.i64.wrap ((X1 : Int) - (i : Int)) = (N2 : Int) := by rw [IntKind.wrap_i64]; omega
            have HT4 := Lib.hid hT4
            have HR4 := Lib.hid hR4
            have HB4 := Lib.hid hB4
            clear hX1 hT4 hR4 hB4
            go_wp2_with fail
            refine Hlen.out.mono ?_
            rintro e w5 ⟨rfl, hb5⟩
            have hB5 := HB4.out.trans (hb5.mono HB4.out.size)
            have hT5 := HT4.out.ext hb5
            have c0'' := hT5.c0
            have c1'' := hT5.c1
            have h8 := (hor.out.ext hB5).t8
            have d0 := h8.c0
            have d1 := h8.c1
            have f0 := h8.fz 0
            have f1 := h8.fz 1
            have hfin := hor.out.next hB5 (HR4.out.ext hb5)
            rw [HM.out.2] at hfin
            have Hfin := Lib.hid hfin
            clear hb5 hB5 hT5 h8 hfin hor HorW HT4 HR4 HB4 Hlen c0' c1'
            go_wp2_with fail
            go_roundw
            case rel => exact ⟨i + 1, es2, p2, H2, by go_num, by omega, Hfin, Hnx⟩
            case measure => simp [intOf]; omega

          · obtain ⟨b, W1, hb, hW1, hT1, hb1, hlt1⟩ := alloc_tree W
            have HG := Lib.hid (And.intro hb hW1)
            have Hb1 := Lib.hid hb1
            have HT1 := Lib.hid hT1
            have hlob : wr.heap.size ≤ b := by rw [← hb]; exact Hbd.out.size
            have HB1 := Lib.hid (Hbd.out.trans (hb1.mono Hbd.out.size))
            have HR1 := Lib.hid (HorW.out.tr.ext hb1)
            have hbw2 : ¬ b < W.heap.size := by omega
            clear hb hW1 hT1 hb1 hlt1
            refine stepX_call (o := ⟨_, _, _, _, _, _⟩) rfl (by rfl) (fun K hK => ?_)
            go_simp
            rw [HG.out.1, HG.out.2]
            refine hK (fun i => i = b) (fun j h hj => absurd hj (by omega)) _ _ (Turn.ofBelow Hb1.out) ?_
            clear hK K HG Hb1 hbw2
            refine stepX_call (o := ⟨_, _, _, _, _, _⟩) rfl (by rfl) (fun K hK => ?_)
            go_simp
            refine (Hcall.out W1 HR1.out).mono ?_
            rintro e W3 ⟨p2, H2, rfl, ht2, hb2⟩
            refine hK (fun i => i = b) (fun _ h _ => h) _ _ (Turn.ofBelow hb2) ?_
            clear hK K Hcall
            iterate 3 (refine wpGx_read (o := ⟨_, _, _, _, _, _⟩) (v := ?_) rfl (by rfl) ?_ ?_; rotate_left; (intro w' hw'; go_simp; with_reducible rfl); simp only [Act.put, List.setIfInBounds_toArray, List.set_cons_zero, List.set_cons_succ])
            have HT3 := Lib.hid (HT1.out.ext hb2)
            have HR3 := Lib.hid ht2
            have HB3 := Lib.hid (HB1.out.trans (hb2.mono HB1.out.size))
            clear ht2 hb2
            have r0 := HT3.out.c0
            have r1 := HT3.out.c1
            have r2 := HT3.out.fz 0
            have r3 := HT3.out.fz 1
            refine stepX_call (o := ⟨_, _, _, _, _, _⟩) rfl (by rfl) (fun K hK => ?_)
            go_simp
            refine hK (fun _ => False) (fun _ h => h.elim) _ _ (turn_put _ _ _ _) ?_
            clear hK K r0 r1 r2 r3
            iterate 1 (refine wpGx_read (o := ⟨_, _, _, _, _, _⟩) (v := ?_) rfl (by rfl) ?_ ?_; rotate_left; (intro w' hw'; go_simp; with_reducible rfl); simp only [Act.put, List.setIfInBounds_toArray, List.set_cons_zero, List.set_cons_succ])
            refine wpGx_done ?_
            obtain ⟨W4, hW4⟩ : ∃ W4, (W3.setCell ⟨b, 0, none⟩ (.pointer p2)).setCell ⟨b, 1, none⟩ (.int .i64 (N2 : Int)) = W4 := ⟨_, rfl⟩
            have hT4 := HT3.out.put p2 (N2 : Int)
            have hR4 := HR3.out.turn (turn_put W3 b (.pointer p2) (.int .i64 (N2 : Int))) (TF.one HT3.out)
            have hB4 : Below wr.heap.size wr ((W3.setCell ⟨b, 0, none⟩ (.pointer p2)).setCell ⟨b, 1, none⟩ (.int .i64 (N2 : Int))) := below_put HB3.out hlob
            rw [hW4] at hT4 hR4 hB4 ⊢
            clear hW4 HT3 HR3 HB3
            have c0' := hT4.c0
            have c1' := hT4.c1
            have Hlen := Lib.hid (len_any p2 (N2 : Int) W4)
            have hcnt : N2 + i + 1 = n := by have := Hnx.out.2.1; rw [HM.out.2] at this; omega
            obtain ⟨X1, hX1⟩ : ∃ X1, X1 = n - 1 := ⟨_, rfl⟩
            have eX1 : IntKind.i64.wrap ((n : Int) - 1) = (X1 : Int) := by rw [IntKind.wrap_i64]; omega
            have eX2 : IntKind.i64.wrap ((X1 : Int) - (i : Int)) = (N2 : Int) := by rw [IntKind.wrap_i64]; omega
            have HT4 := Lib.hid hT4
            have HR4 := Lib.hid hR4
            have HB4 := Lib.hid hB4
            clear hX1 hT4 hR4 hB4
            go_wp2_with fail
            refine Hlen.out.mono ?_
            rintro e w5 ⟨rfl, hb5⟩
            have hB5 := HB4.out.trans (hb5.mono HB4.out.size)
            have hT5 := HT4.out.ext hb5
            have c0'' := hT5.c0
            have c1'' := hT5.c1
            have h8 := (hor.out.ext hB5).t8
            have d0 := h8.c0
            have d1 := h8.c1
            have f0 := h8.fz 0
            have f1 := h8.fz 1
            have hfin := hor.out.next hB5 (HR4.out.ext hb5)
            rw [HM.out.2] at hfin
            have Hfin := Lib.hid hfin
            clear hb5 hB5 hT5 h8 hfin hor HorW HT4 HR4 HB4 Hlen c0' c1'
            go_wp2_with fail
            go_roundw
            case rel => exact ⟨i + 1, es2, p2, H2, by go_num, by omega, Hfin, Hnx⟩
            case measure => simp [intOf]; omega

        · have hie : n = i := by omega
          subst hie
          have hnil : es = [] := List.eq_nil_of_length_eq_zero (by have := hin.out.2.1; omega)
          subst hnil
          have c0' := hor.out.t8.c0
          have c1' := hor.out.t8.c1
          have hH0 : H = 0 := by
            exact (hor.out.tr.low (by simp)).2.2 rfl
          subst hH0
          have Hall := Lib.hid (all_any p [] 0 wr hor.out.tr (by simp))
          clear hin
          go_wp2_with fail
          refine Hall.out.mono ?_
          rintro e w2 ⟨v, rfl, ⟨a2, c2, rfl, _⟩, hb2⟩
          have hor2 := hor.out.ext hb2
          have c0'' := hor2.t8.c0
          have c1'' := hor2.t8.c1
          have Hh := Lib.hid (height_any p 0 [] 0 w2 hor2.tr (by omega))
          have Hor2 := Lib.hid hor2
          clear hb2 hor2 Hall hor c0' c1'
          go_wp2_with fail
          refine Hh.out.mono ?_
          rintro e w3 ⟨rfl, hb3⟩
          have hor3 := Hor2.out.ext hb3
          have Hs := Lib.hid (sure_any w3 (hor3.g0 hor3.b))
          have HB3 := Lib.hid hor3.b
          clear hb3 hor3 Hh Hor2 c0'' c1''
          go_wp2_with fail
          refine Hs.out.mono ?_
          rintro e w4 ⟨rfl, hb4⟩
          have HB4 := Lib.hid (HB3.out.trans (hb4.mono HB3.out.size))
          clear hb4 Hs
          go_wp2
          go_ret
          exact ⟨rfl, HB4.out⟩
end Go.Proofs.YtpcndfdijjabkaaDoor
