/-
  Sync.
-/
import Derived.Test.YtbkjaifpgknadaaDoorDev5
import Derived.Test.YtbkjaifpgknadaaDoorRange
namespace Go.Proofs.YtbkjaifpgknadaaDoor
open Go Go.RowKit Go.Maps

/-- What is safe, when of what waits all but 'left' has been laid. -/
def laidF (S : DS) (left : Nat → Bool) : Secs := fun n => match S.waits n with
  | some l => if left n then S.safe n else thin l
  | none => S.safe n
/-- All that waits is laid. -/
def flat (S : DS) : DS := { S with safe := laidF S (fun _ => false), waits := fun _ => none }
theorem laidF_start (S : DS) : laidF S (fun n => (S.waits n).isSome) = S.safe := by
  funext n; unfold laidF; cases hw : S.waits n <;> simp [hw]
theorem laidF_step (S : DS) (left : Nat → Bool) (n : Nat) (l : List Nat) (h : S.waits n = some l) : upd (laidF S left) n (thin l) = laidF S (but left n) := by
  funext i
  unfold upd laidF but
  by_cases e : i = n
  · subst e; rw [if_pos rfl, h]; simp
  · rw [if_neg e]; simp [e]
theorem laidF_end (S : DS) (left : Nat → Bool) (h : ∀ n, left n = false) : laidF S left = (flat S).safe := by
  have : left = fun _ => false := funext h
  rw [this]; rfl
/-- Sync: the error's number, and what the device is then. -/
def syS (S : DS) : Int × DS := if S.down = true then (9, S) else if (stepS S).1 = 0 then (0, flat (stepS S).2) else stepS S
theorem waits_form {w : World} {bd bs bw : Nat} {S : DS} (h : Dev w bd bs bw S) {n : Nat} {l : List Nat} (hw : S.waits n = some l) : l.length = 64 ∧ B8 l ∧ n < 8 * S.pages := by
  obtain ⟨_, _, _, _, r⟩ := h.waits; exact r.form n l hw
theorem Dev.clearW {w w' : World} {bd bs bw : Nat} {S : DS} (h : Dev w bd bs bw S) (hg : w.grownBy w' (some bw)) (hs : OM w' bw (8 * S.pages) (fun _ => none)) : Dev w' bd bs bw { S with waits := fun _ => none } := h.waitsTo hg hs
set_option maxRecDepth 100000 in
set_option maxHeartbeats 1000000 in
theorem sync_any (w : World) (bd bs bw : Nat) (S : DS) (h : Dev w bd bs bw S) :
    Calls Tryd.prog 12 #[.pointer (some ⟨bd, 0, none⟩)] w fun e w' => e = .returned (errV (syS S).1) ∧ Dev w' bd bs bw (syS S).2 ∧ Turn (Foot bd bs bw) w w' := by
  have hd := down_any w bd bs bw S h
  have hst := step_any w bd bs bw S h
  have H := Lib.hid h
  clear h
  by_cases h1 : S.down = true
  · have e1 : syS S = (9, S) := by unfold syS; rw [if_pos h1]
    rw [e1]
    rw [h1] at hd
    clear h1 e1 hst
    go_enter Tryd.func12, Tryd.ntmps12
    go_wp2_with fail
    refine hd.mono ?_; rintro e w' ⟨rfl, rfl⟩
    go_wp2_with fail
    go_ret
    exact ⟨rfl, H.out, Turn.refl _ _⟩
  · have h2 : S.down = false := by cases hq : S.down <;> simp_all
    rw [h2] at hd
    rcases step_ne S with hse | hse
    · have e1 : syS S = (0, flat (stepS S).2) := by unfold syS; rw [if_neg h1, if_pos hse]
      rw [e1, errV_zero]
      rw [hse, errV_zero] at hst
      generalize stepS S = T0 at *
      obtain ⟨f, T⟩ := T0
      simp only at hst hse ⊢
      have Hst := Lib.hid hst
      have Hd := Lib.hid hd
      clear h1 e1 h2 hse hst hd
      go_enter Tryd.func12, Tryd.ntmps12
      go_wp2_with fail
      refine Hd.out.mono ?_; rintro e w' ⟨rfl, rfl⟩
      go_wp2_with fail
      refine Hst.out.mono ?_; rintro e w1 ⟨rfl, hD1, hT1⟩
      have c2 := hD1.c2
      have HD1 := Lib.hid (And.intro hD1 hT1)
      clear hD1 hT1
      go_wp2_with (refine wpList_range_om rfl (.tmp 17) rfl bw (8 * T.pages) T.waits (by rfl) HD1.out.1.waits ?_; intro r w2 hr hrg hb2)
      go_frame
      have hD2 := HD1.out.1.below hb2
      have hT2 := HD1.out.2.trans (Turn.ofBelow hb2)
      have hrl := HD1.out.1.foot_lt
      have hrf : ∀ i, Foot bd bs bw i → i ≠ r := fun i hi e => by have := hrl i hi; omega
      have hr0 : w.heap.size ≤ r := Nat.le_trans HD1.out.2.size hr
      have hrel0 : ∃ left, Hid (RG w2 bw r (8 * T.pages) T.waits left) ∧ Hid (Dev w2 bd bs bw { T with safe := laidF T left }) ∧ Hid (Turn (Foot bd bs bw) w w2) := ⟨_, hrg, by rw [laidF_start]; exact hD2, hT2⟩
      have Hrel := Lib.hid hrel0
      have Hrf := Lib.hid hrf
      clear hrel0 hrg hb2 hD2 hT2 hrl hrf hr HD1 c2
      go_loopw [19] (fun _ wr => ∃ left, Hid (RG wr bw r (8 * T.pages) T.waits left) ∧ Hid (Dev wr bd bs bw { T with safe := laidF T left }) ∧ Hid (Turn (Foot bd bs bw) w wr)) (fun _ wr => wr.rangeLeft bw r)
      case atStart => exact Hrel.out
      case round =>
        obtain ⟨left, hrg, hD, hT⟩ := hrel
        go_wp2_with (refine wpList_next_om rfl (.tmp 18) rfl bw r (8 * T.pages) T.waits left (by rfl) hrg.out ?_ ?_)
        · intro hl0
          have hD3 := hD.out
          rw [laidF_end T left hl0] at hD3
          have c2 := hD3.c2
          have HD3 := Lib.hid (And.intro hD3 hT.out)
          clear hD3 hD hT hl0 hrg
          go_wp2_with (refine wpList_clear rfl (.tmp 31) rfl bw (8 * T.pages) T.waits (by rfl) HD3.out.1.waits ?_; intro w3 ho3 hg3)
          have hfin : Dev w3 bd bs bw (flat T) := HD3.out.1.waitsTo hg3 ho3
          have hturn : Turn (Foot bd bs bw) w w3 := HD3.out.2.trans ((Turn.ofGrown hg3).mono (fun i hi _ => .inr (.inr hi)))
          have Hf := Lib.hid (And.intro hfin hturn)
          clear hfin hturn hg3 ho3 HD3 c2
          go_wp2
          go_ret
          exact ⟨rfl, Hf.out.1, Hf.out.2⟩
        · intro n l w3 hn hln hgl hrg3 ht3 _ hm3 hen
          have hD3 := hD.out.turn ht3 Hrf.out
          have hT3 : Turn (Foot bd bs bw) w w3 := hT.out.step ht3 (fun i hi hl => by rw [hi] at hl; omega)
          have hfm := waits_form hD.out hgl
          have hst := laidF_step T left n l hgl
          have HX := Lib.hid (And.intro hfm (And.intro hst (And.intro hD3 (And.intro hT3 (And.intro hrg3 hm3)))))
          clear hfm hst hD3 hT3 hrg3 hm3 hgl hln hrg hD hT ht3 hn
          go_wp2_with (first
            | (refine wpList_alloc_place rfl rfl ?_; intro g4 w4 hg4 hp4 hb4)
            | (refine wpList_alloc_sec rfl rfl ?_; intro g5 w5 hg5 hr5 hb5)
            | (refine wpList_store_place rfl (.tmp 4) (.tmp 22) rfl g4 n 0 (by rfl) (by rfl) (hp4.ext hb5) ?_; intro w6 hp6 ht6 _)
            | (refine wpList_store_sec rfl (.tmp 5) (.tmp 23) rfl g5 l zeros (by rfl) (by rfl) (ht6.hg hr5 (by have := hp4.lt; omega)) HX.out.1.1 zeros_len ?_; intro w7 hr7 ht7 _)
            | (refine wpList_load_place rfl (.tmp 4) rfl g4 n (by rfl) (ht7.hg hp6 (by have := hp4.lt; omega)) ?_)
            | (refine wpList_load_sec rfl (.tmp 5) rfl g5 l (by rfl) hr7 HX.out.1.1 ?_))
          have hl4 := hp4.lt
          have t7 : Turn (fun _ => False) w3 w7 := (((Turn.ofBelow hb4).trans (Turn.ofBelow hb5)).step ht6 (fun i hi hl => by omega)).step ht7 (fun i hi hl => by have := hb4.size; omega)
          refine (lay_any w7 bd bs bw { T with safe := laidF T left } n l HX.out.1.2.2 HX.out.1.1 HX.out.1.2.1 (HX.out.2.2.1.turn t7 (fun _ _ h => h))).mono ?_
          rintro e w8 ⟨rfl, hD8, ht8⟩
          have t8 : Turn (fun i => i = bs) w3 w8 := (t7.mono (fun _ h _ => h.elim)).step ht8 (fun i hi _ => hi)
          have hrg8 := HX.out.2.2.2.2.1.turn t8 (fun e => H.out.ne e.symm) (fun e => Hrf.out bs (.inr (.inl rfl)) e.symm)
          have hm8 : w8.rangeLeft bw r < wr.rangeLeft bw r := by rw [hrg8.2]; exact HX.out.2.2.2.2.2
          have hD9 : Dev w8 bd bs bw { T with safe := laidF T (but left n) } := by rw [← HX.out.2.1]; exact hD8
          have hT9 : Turn (Foot bd bs bw) w w8 := HX.out.2.2.2.1.step t8 (fun i hi _ => .inr (.inl hi))
          have HR := Lib.hid (And.intro hrg8.1 (And.intro hD9 (And.intro hT9 hm8)))
          clear hl4 t7 t8 hrg8 hm8 hD9 hT9 hD8 ht8 ht7 ht6 hb5 hb4 hg4 hg5 hp4 hr5 hp6 hr7 HX hen
          go_wp2
          go_roundw
          case rel => exact ⟨but left n, HR.out.1, HR.out.2.1, HR.out.2.2.1⟩
          case measure => exact HR.out.2.2.2
    · have e1 : syS S = stepS S := by unfold syS; rw [if_neg h1, if_neg (by rw [hse]; decide)]
      rw [e1]
      rw [hse, errV_ne (by decide)] at hst
      rw [hse, errV_ne (by decide)]
      generalize stepS S = T at *
      have Hst := Lib.hid hst
      clear h1 e1 h2 hse hst
      go_enter Tryd.func12, Tryd.ntmps12
      go_wp2_with fail
      refine hd.mono ?_; rintro e w' ⟨rfl, rfl⟩
      go_wp2_with fail
      refine Hst.out.mono ?_; rintro e w1 ⟨rfl, hD1, hT1⟩
      go_wp2_with fail
      go_ret
      exact ⟨rfl, hD1, hT1⟩
end Go.Proofs.YtbkjaifpgknadaaDoor
