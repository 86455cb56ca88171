/-
  sheet.Open.
-/
import Derived.Test.YtfjjfickbhkpaaaDoorSheet0Z
import Derived.Test.YtfjjfickbhkpaaaDoorCopyZ
import Derived.Test.YtfjjfickbhkpaaaDoorCrc0Z
import Derived.Test.YtfjjfickbhkpaaaDoorAsZ
namespace Go.Proofs.YtfjjfickbhkpaaaDoor
open Go Go.RowKit

/-- An error by its number. -/
def errS (n : Nat) : Value := if n = 0 then .nilIface else .iface 61 (.int .i64 n)
theorem errS_is (n : Nat) : NumIs (errS n) n := by
  unfold errS NumIs
  by_cases h : n = 0
  · subst h; left; exact ⟨rfl, rfl⟩
  · rw [if_neg h]; right; rfl
/-- A slice that reads as these bytes. -/
def Reads (w : World) (v : Value) (l : List Nat) : Prop := ∃ a c, v = .slice a l.length c ∧ Src w a l
theorem Reads.none (w : World) : Reads w (.slice none 0 0) [] := ⟨.none, 0, rfl, Src.nil _ _⟩
theorem Reads.below {w w' : World} {v : Value} {B : Nat} {l : List Nat} (h : Reads w v l) (hb : Below B w w') (hB : w.heap.size ≤ B) : Reads w' v l := by
  obtain ⟨a, c, rfl, hs⟩ := h
  exact ⟨a, c, rfl, hs.below hb hB⟩
theorem Reads.conv {w : World} {v : Value} {l : List Nat} (h : Reads w v l) : (convert 26 9 v).run Tryd.prog w = .ok (.string (bstr l)) w := by
  obtain ⟨a, c, rfl, hs⟩ := h
  exact conv_src 26 5 9 Tryd.underlying26 Tryd.underlying5 Tryd.underlying9 a l.length c l rfl w hs
theorem Row.reads {w : World} {g : Nat} {l : List Nat} (h : Row w g 5 l) : Reads w (.slice (some ⟨g, 0, .none⟩) l.length l.length) l := ⟨_, _, rfl, row_src h⟩
theorem Row.reads' {w : World} {g n c : Nat} {l : List Nat} (hn : l.length = n) (h : Row w g 5 l) : Reads w (.slice (some ⟨g, 0, .none⟩) n c) l := ⟨_, c, by rw [hn], row_src h⟩

section
variable {P : Program} {w : World} {ops : Array Oper} {rest : List Oper} {o : Oper} {a : Act} {Q : Exit → Act → World → Prop}
/-- copy into a new row that is no longer than what is copied: the row is full. -/
theorem wpList_copy_full (hgd : o.guard = none) (d s : Operand) (dT sT : TypeId)
    (ho : o.op = .call { callee := .builtin .copy, args := #[d, s], argTypes := #[dT, sT] }) (e : TypeId) (hu : P.underlying dT = some (.slice e)) (hsz : (P.info? e).map (·.size) = some 1)
    (g dLen dCap : Nat) (sp : Option Addr) (sLen sCap : Nat) (cur l : List Nat) (hd : a.eval d = .slice (some ⟨g, 0, none⟩) dLen dCap) (hs : a.eval s = .slice sp sLen sCap)
    (hrow : Hid (Row w g e cur)) (hcur : cur.length = dLen) (hl : l.length = dLen) (hle : dLen ≤ sLen) (hsrc : Src w sp l) (B : Nat) (w0 : World) (hb : Below B w0 w) (hBg : B ≤ g)
    (h : ∀ w', Hid (Row w' g e l) → Below B w0 w' → wpList P ops Q rest (a.put o.dst (goInt dLen)) w') :
    wpList P ops Q (o :: rest) a w := by
  subst hl
  refine wpList_copy_splice hgd d s dT sT ho e hu hsz _ sp l.length dCap sLen sCap hd hs g 0 (bv cur) e hrow.out (bv l) (by rw [bv_length]; exact (Nat.min_eq_right hle).symm) ?_ (by rw [bv_length, bv_length, hcur]; omega) (bv_one l) B w0 hb hBg ?_
  · intro h0
    exact ⟨rfl, hsrc.cells (by rw [bv_length] at h0; exact h0)⟩
  · intro w' hr hb'
    rw [bv_length]
    refine h w' ?_ hb'
    have := hr.out
    rw [bv_splice, splice_start, List.drop_of_length_le (by rw [hcur]; exact Nat.le_refl _), List.append_nil] at this
    exact this
end

theorem opS_form {b : List Nat} (h : b.length = 512) (hs : numL (b.drop 508) = (more 0#32 (b.take 508)).toNat)
    (hf : ¬ ((1 ≤ b.getD 0 0 ∧ b.getD 0 0 ≤ 5) ∧ b.getD 1 0 = 0 ∧ b.getD 2 0 * 256 + b.getD 3 0 ≤ 504 ∧ allZero ((b.take 508).drop (4 + (b.getD 2 0 * 256 + b.getD 3 0))) = true)) : opS b = (0, [], 3) := by
  unfold opS; rw [if_neg (by omega), if_neg (by simp [hs]), if_neg hf]
theorem opS_good {b : List Nat} (h : b.length = 512) (hs : numL (b.drop 508) = (more 0#32 (b.take 508)).toNat)
    (hf : (1 ≤ b.getD 0 0 ∧ b.getD 0 0 ≤ 5) ∧ b.getD 1 0 = 0 ∧ b.getD 2 0 * 256 + b.getD 3 0 ≤ 504 ∧ allZero ((b.take 508).drop (4 + (b.getD 2 0 * 256 + b.getD 3 0))) = true) : opS b = (b.getD 0 0, (b.drop 4).take (b.getD 2 0 * 256 + b.getD 3 0), 0) := by
  unfold opS; rw [if_neg (by omega), if_neg (by simp [hs]), if_pos hf]
/-- crc.Is of a page's length. -/
theorem is_512 (b o c : Nat) (l : List Nat) (w : World) (hl : l.length = 512) (hc : 512 ≤ c) (hcm : c ≤ 9223372036854775807) (hcs : Cs w b o l) (hb : B8 l) (hT : WorthIn w) :
    Calls Tryd.prog 31 #[.slice (some ⟨b, o, none⟩) 512 c] w fun e w' => e = .returned (.bool (decide (numL (l.drop 508) = (more 0#32 (l.take 508)).toNat))) ∧ w = w' := by
  have h := is_long b o c (l.take 508) (l.drop 508) w (by rw [List.length_drop]; omega) (by rw [List.length_take]; omega) hcm (by rw [List.take_append_drop]; exact hcs) (by rw [List.take_append_drop]; exact hb) hT
  rw [show ((l.take 508).length + 4 : Nat) = 512 by rw [List.length_take]; omega] at h
  exact h
theorem get_two (b o c : Nat) (l : List Nat) (w : World) (hl : l.length = 512) (hcs : Cs w b o l) (hb : B8 l) :
    Calls Tryd.prog 32 #[.slice (some ⟨b, o + 2, none⟩) 2 (c - 2 : Nat)] w fun e w' => e = .returned (.tuple #[.int .u64 (l.getD 2 0 * 256 + l.getD 3 0 : Nat), .nilIface]) ∧ w = w' := by
  have hlen : ((l.drop 2).take 2).length = 2 := by rw [List.length_take, List.length_drop]; omega
  have h := get_in b (o + 2) (c - 2) ((l.drop 2).take 2) w (by omega) (by omega) (hcs.cut 2 2) ((hb.drop 2).take 2)
  rw [hlen] at h
  have e : numL ((l.drop 2).take 2) = l.getD 2 0 * 256 + l.getD 3 0 := by
    match l, hl with
    | _ :: _ :: x :: y :: r, _ => simp [numL]
  rw [e] at h
  exact h
theorem open_len (a : Option Addr) (n c : Nat) (w : World) (h : n ≠ 512) :
    Calls Tryd.prog 28 #[.slice a n c] w fun e w' => e = .returned (.tuple #[.int .u8 0, .slice none 0 0, errS 3]) ∧ w = w' := by
  have d1 : ((n : Int) != 512) = true := by simp; omega
  go_enter Tryd.func28, Tryd.ntmps28
  go_wp2
  go_ret3
  exact ⟨rfl, rfl⟩
theorem open_sum (b o c : Nat) (l : List Nat) (w : World) (hl : l.length = 512) (hc : 512 ≤ c) (hcm : c ≤ 9223372036854775807) (hcs : Cs w b o l) (hb : B8 l) (hT : WorthIn w) (hs : ¬ numL (l.drop 508) = (more 0#32 (l.take 508)).toNat) :
    Calls Tryd.prog 28 #[.slice (some ⟨b, o, none⟩) 512 c] w fun e w' => e = .returned (.tuple #[.int .u8 0, .slice none 0 0, errS 4]) ∧ w = w' := by
  have hI := is_512 b o c l w hl hc hcm hcs hb hT
  rw [decide_eq_false hs] at hI
  clear hl hcs hb hT hs
  go_enter Tryd.func28, Tryd.ntmps28
  go_wp2_with (go_at_call 31; refine hI.mono ?_; rintro e w' ⟨rfl, rfl⟩)
  go_ret3
  exact ⟨rfl, rfl⟩
set_option maxRecDepth 100000 in
theorem open_bad (b o c x0 x1 N : Nat) (kb zb : Bool) (w : World) (hc : 512 ≤ c) (hcm : c ≤ 9223372036854775807)
    (hI : Calls Tryd.prog 31 #[.slice (some ⟨b, o, none⟩) 512 c] w fun e w' => e = .returned (.bool true) ∧ w = w')
    (hG : Calls Tryd.prog 32 #[.slice (some ⟨b, o + 2, none⟩) 2 (c - 2 : Nat)] w fun e w' => e = .returned (.tuple #[.int .u64 N, .nilIface]) ∧ w = w')
    (hB : N ≤ 504 → Calls Tryd.prog 15 #[.slice (some ⟨b, o + (4 + N), none⟩) (508 - (4 + N) : Nat) (c - (4 + N) : Nat)] w fun e w' => e = .returned (.bool zb) ∧ w = w')
    (hK : Calls Tryd.prog 33 #[.int .u8 x0] w fun e w' => e = .returned (.bool kb) ∧ w = w')
    (c0 : w.cell? ⟨b, o, none⟩ = some (.int .u8 x0)) (c1 : w.cell? ⟨b, o + 1, none⟩ = some (.int .u8 x1))
    (hx1 : x1 < 256) (hN : N < 65536)
    (hbad : ¬ (kb = true ∧ x1 = 0 ∧ N ≤ 504 ∧ zb = true)) :
    Calls Tryd.prog 28 #[.slice (some ⟨b, o, none⟩) 512 c] w fun e w' => e = .returned (.tuple #[.int .u8 0, .slice none 0 0, errS 3]) ∧ w = w' := by
  by_cases h1 : N ≤ 504
  · have d1 : decide (504 < (N : Int)) = false := by simp; omega
    have hB := hB h1
    cases kb with
    | false =>
      clear hbad hB
      go_enter Tryd.func28, Tryd.ntmps28
      go_wp2_with fail
      refine hI.mono ?_; rintro e w' ⟨rfl, rfl⟩
      go_wp2_with fail
      refine hG.mono ?_; rintro e w' ⟨rfl, rfl⟩
      go_wp2_with fail
      refine hK.mono ?_; rintro e w' ⟨rfl, rfl⟩
      go_wp2_with fail
      go_ret3
      exact ⟨rfl, rfl⟩
    | true =>
      by_cases h3 : x1 = 0
      · obtain rfl : zb = false := by
          cases zb with
          | false => rfl
          | true => exact absurd ⟨rfl, h3, h1, rfl⟩ hbad
        subst h3
        clear hbad
        have s1 : (4 : Int) + (N : Int) ≤ 508 := by omega
        have s2 : (0 : Int) ≤ 4 + (N : Int) := by omega
        have z1 : IntKind.u64.wrap (4 + (N : Int)) = 4 + (N : Int) := by rw [IntKind.wrap_u64]; omega
        go_enter Tryd.func28, Tryd.ntmps28
        go_wp2_with fail
        refine hI.mono ?_; rintro e w' ⟨rfl, rfl⟩
        go_wp2_with fail
        refine hG.mono ?_; rintro e w' ⟨rfl, rfl⟩
        go_wp2_with fail
        refine hK.mono ?_; rintro e w' ⟨rfl, rfl⟩
        go_wp2_with fail
        refine hB.mono ?_; rintro e w' ⟨rfl, rfl⟩
        go_wp2_with fail
        go_ret3
        exact ⟨rfl, rfl⟩
      · have d2 : ((x1 : Int) != 0) = true := by simp; omega
        clear hbad hB
        go_enter Tryd.func28, Tryd.ntmps28
        go_wp2_with fail
        refine hI.mono ?_; rintro e w' ⟨rfl, rfl⟩
        go_wp2_with fail
        refine hG.mono ?_; rintro e w' ⟨rfl, rfl⟩
        go_wp2_with fail
        refine hK.mono ?_; rintro e w' ⟨rfl, rfl⟩
        go_wp2_with fail
        go_ret3
        exact ⟨rfl, rfl⟩
  · have d1 : decide (504 < (N : Int)) = true := by simp; omega
    clear hB hbad hK
    go_enter Tryd.func28, Tryd.ntmps28
    go_wp2_with fail
    refine hI.mono ?_; rintro e w' ⟨rfl, rfl⟩
    go_wp2_with fail
    refine hG.mono ?_; rintro e w' ⟨rfl, rfl⟩
    go_wp2_with fail
    go_ret3
    exact ⟨rfl, rfl⟩
set_option maxRecDepth 100000 in
theorem open_good (b o c x0 N : Nat) (L : List Nat) (w : World) (hc : 512 ≤ c) (hcm : c ≤ 9223372036854775807)
    (hI : Calls Tryd.prog 31 #[.slice (some ⟨b, o, none⟩) 512 c] w fun e w' => e = .returned (.bool true) ∧ w = w')
    (hG : Calls Tryd.prog 32 #[.slice (some ⟨b, o + 2, none⟩) 2 (c - 2 : Nat)] w fun e w' => e = .returned (.tuple #[.int .u64 N, .nilIface]) ∧ w = w')
    (hB : Calls Tryd.prog 15 #[.slice (some ⟨b, o + (4 + N), none⟩) (508 - (4 + N) : Nat) (c - (4 + N) : Nat)] w fun e w' => e = .returned (.bool true) ∧ w = w')
    (hK : Calls Tryd.prog 33 #[.int .u8 x0] w fun e w' => e = .returned (.bool true) ∧ w = w')
    (c0 : w.cell? ⟨b, o, none⟩ = some (.int .u8 x0)) (c1 : w.cell? ⟨b, o + 1, none⟩ = some (.int .u8 (0 : Nat)))
    (hN : N ≤ 504) (hsrc : Src w (some ⟨b, o + 4, none⟩) L) (hlen : L.length = N) :
    Calls Tryd.prog 28 #[.slice (some ⟨b, o, none⟩) 512 c] w fun e w' => e = .returned (.tuple #[.int .u8 x0, .slice (some ⟨w.heap.size, 0, none⟩) N N, .nilIface]) ∧ Row w' w.heap.size 5 L ∧ Below w.heap.size w w' := by
  have d1 : decide (504 < (N : Int)) = false := by simp; omega
  have s1 : (4 : Int) + (N : Int) ≤ 508 := by omega
  have s2 : (0 : Int) ≤ 4 + (N : Int) := by omega
  have z1 : IntKind.u64.wrap (4 + (N : Int)) = 4 + (N : Int) := by rw [IntKind.wrap_u64]; omega
  have hlt : b < w.heap.size := by
    rcases Nat.lt_or_ge b w.heap.size with h1 | h1
    · exact h1
    · simp [World.cell?, Array.getElem?_eq_none h1] at c0
  have Hl := Lib.hid hlen
  have Hs := Lib.hid hsrc
  clear hlen hsrc
  go_enter Tryd.func28, Tryd.ntmps28
  go_wp2_with fail
  refine hI.mono ?_; rintro e w' ⟨rfl, rfl⟩
  go_wp2_with fail
  refine hG.mono ?_; rintro e w' ⟨rfl, rfl⟩
  go_wp2_with fail
  refine hK.mono ?_; rintro e w' ⟨rfl, rfl⟩
  go_wp2_with fail
  refine hB.mono ?_; rintro e w' ⟨rfl, rfl⟩
  clear hI hG hK hB
  go_wp2_with (first
    | (at_make; refine wpList_make_bytes rfl _ _ 26 rfl 5 Tryd.underlying26 infoByte _ _ _ _ N rfl rfl rfl rfl (by omega) ?_; intro w1 hr1 hb1; have hs1 := Lib.hid (Hs.out.below hb1 (Nat.le_refl _)))
    | (show wpList _ _ _ (⟨some 54, _, _, _, _, _⟩ :: _) _ _; refine wpList_copy_full rfl (.tmp 51) (.tmp 53) 26 26 rfl 5 Tryd.underlying26 sizeByte w.heap.size N N (some ⟨b, o + 4, none⟩) 508 (c - 4 : Nat) (List.replicate N 0) L (by rfl) (by rfl) hr1 (by rw [List.length_replicate]) Hl.out (by omega) hs1.out w.heap.size w hb1 (Nat.le_refl _) ?_; intro w2 hr2 hb2; have hc2 := (hb2.cell (p := ⟨b, o, none⟩) hlt).trans c0; clear hr1 hs1 hb1))
  go_ret3
  exact ⟨rfl, hr2.out, hb2⟩
/-- sheet.Open, of whatever bytes, in a slice of whatever reach. -/
theorem open_anyM (a : Option Addr) (n c : Nat) (l : List Nat) (hn : l.length = n) (w : World) (hb : B8 l) (hlc : n ≤ c) (hcm : c ≤ 9223372036854775807) (hsrc : Src w a l) (hT : WorthIn w) :
    Calls Tryd.prog 28 #[.slice a n c] w fun e w' => ∃ v, e = .returned (.tuple #[.int .u8 ((opS l).1 : Nat), v, errS (opS l).2.2]) ∧ Reads w' v (opS l).2.1 ∧ Below w.heap.size w w' := by
  subst hn
  by_cases h512 : l.length = 512
  · obtain ⟨b, o, rfl, hcs⟩ := hsrc (by omega)
    by_cases hs : numL (l.drop 508) = (more 0#32 (l.take 508)).toNat
    · have hI := is_512 b o c l w h512 (by omega) (by omega) hcs hb hT
      rw [decide_eq_true hs] at hI
      have hG := get_two b o c l w h512 hcs hb
      have c0 := hcs 0 (by omega)
      have c1 := hcs 1 (by omega)
      rw [Nat.add_zero] at c0
      have hK := isKind_any (l.getD 0 0) w (hb.get 0)
      have hx1 := hb.get 1
      have hN : l.getD 2 0 * 256 + l.getD 3 0 < 65536 := by have := hb.get 2; have := hb.get 3; omega
      have hB := fun (hN5 : l.getD 2 0 * 256 + l.getD 3 0 ≤ 504) => blank_any (some ⟨b, o + (4 + (l.getD 2 0 * 256 + l.getD 3 0)), none⟩) (508 - (4 + (l.getD 2 0 * 256 + l.getD 3 0))) (c - (4 + (l.getD 2 0 * 256 + l.getD 3 0))) ((l.take 508).drop (4 + (l.getD 2 0 * 256 + l.getD 3 0))) (by rw [List.length_drop, List.length_take]; omega) w (by omega) ((hcs.start 508).rest _).src
      rw [h512]
      by_cases hgood : (1 ≤ l.getD 0 0 ∧ l.getD 0 0 ≤ 5) ∧ l.getD 1 0 = 0 ∧ l.getD 2 0 * 256 + l.getD 3 0 ≤ 504 ∧ allZero ((l.take 508).drop (4 + (l.getD 2 0 * 256 + l.getD 3 0))) = true
      · rw [opS_good h512 hs hgood]
        obtain ⟨g1, g2, g3, g4⟩ := hgood
        have hB := hB g3
        rw [g4] at hB
        rw [decide_eq_true g1] at hK
        rw [g2] at c1
        have hLl : ((l.drop 4).take (l.getD 2 0 * 256 + l.getD 3 0)).length = l.getD 2 0 * 256 + l.getD 3 0 := by rw [List.length_take, List.length_drop]; omega
        refine (open_good b o c _ _ _ w (by omega) hcm hI hG hB hK c0 c1 g3 (hcs.cut 4 _).src hLl).mono ?_
        rintro e w' ⟨rfl, hr, hbw⟩
        exact ⟨_, rfl, hr.reads' hLl, hbw⟩
      · rw [opS_form h512 hs hgood]
        refine (open_bad b o c _ _ _ _ _ w (by omega) hcm hI hG hB hK c0 c1 hx1 hN (fun h => hgood ⟨of_decide_eq_true h.1, h.2.1, h.2.2.1, h.2.2.2⟩)).mono ?_
        rintro e w' ⟨rfl, rfl⟩
        exact ⟨_, rfl, Reads.none _, Below.refl _ _⟩
    · rw [opS_sum h512 hs]
      have := open_sum b o c l w h512 (by omega) (by omega) hcs hb hT hs
      rw [h512]
      refine this.mono ?_
      rintro e w' ⟨rfl, rfl⟩
      exact ⟨_, rfl, Reads.none _, Below.refl _ _⟩
  · rw [opS_len h512]
    refine (open_len a _ c w h512).mono ?_
    rintro e w' ⟨rfl, rfl⟩
    exact ⟨_, rfl, Reads.none _, Below.refl _ _⟩
/-- sheet.Open, of whatever bytes. -/
theorem open_any (a : Option Addr) (n c : Nat) (l : List Nat) (hn : l.length = n) (w : World) (hb : B8 l) (hlc : n ≤ c) (hcm : c ≤ 140737488355328) (hsrc : Src w a l) (hT : WorthIn w) :
    Calls Tryd.prog 28 #[.slice a n c] w fun e w' => ∃ v, e = .returned (.tuple #[.int .u8 ((opS l).1 : Nat), v, errS (opS l).2.2]) ∧ Reads w' v (opS l).2.1 ∧ Below w.heap.size w w' :=
  open_anyM a n c l hn w hb hlc (by omega) hsrc hT
end Go.Proofs.YtfjjfickbhkpaaaDoor
