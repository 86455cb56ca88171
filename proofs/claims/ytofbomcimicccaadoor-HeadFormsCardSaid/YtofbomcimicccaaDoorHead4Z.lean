/-
  head's Pick.
-/
import Derived.Test.YtofbomcimicccaaDoorHead3Z
namespace Go.Proofs.YtofbomcimicccaaDoor
open Go Go.RowKit

abbrev T2 : TypeId := 47
/-- One of two. -/
def tv (u v : Value) (k : Nat) : Value := if k = 0 then u else v
def tl (u v : List Nat) (k : Nat) : List Nat := if k = 0 then u else v
theorem run_index_two (u v : Value) (k : Nat) (hk : k < 2) (w : World) : (Instr.index T2 (.agg #[u, v]) (.int .i64 k)).run Tryd.prog w = .ok (tv u v k) w := by
  have hu := Tryd.underlying47
  have he := Tryd.underlying25
  have hsz : ∀ w, (sizeOf 25).run Tryd.prog w = .ok 1 w := fun w => by kernel_rfl
  match k, hk with
  | 0, _ => simp [Instr.index, run_underlying hu, asIntOf, part, isAgg, run_underlying he, hsz, Result.andThen, tv]
  | 1, _ => simp [Instr.index, run_underlying hu, asIntOf, part, isAgg, run_underlying he, hsz, Result.andThen, tv]
  | n + 2, h => omega
section
variable {ops : Array Oper} {rest : List Oper} {o : Oper} {a : Act} {w : World} {Q : Exit → Act → World → Prop}
theorem wpList_index_two (hgd : o.guard = none) (x y : Operand) (ho : o.op = .index T2 x y) (u v : Value) (k : Nat) (hx : a.eval x = .agg #[u, v]) (hy : a.eval y = .int .i64 k) (hk : k < 2)
    (h : wpList Tryd.prog ops Q rest (a.put o.dst (tv u v k)) w) : wpList Tryd.prog ops Q (o :: rest) a w := by
  refine wpList_plain hgd fun K hK => ?_
  have hk2 := hK _ _ h
  unfold Oper.wp execOp
  simp only [ho, hx, hy, Sem.run_bind, Sem.run_pure, Result.andThen_ok, run_index_two u v k hk]
  exact hk2
end
/-- What is picked of the first k. -/
noncomputable def pst (a b : List Nat) : Nat → Hd × Bool
  | 0 => (hd0, false)
  | k + 1 => if hat (hdec (tl a b k)) k = true then (if (!(pst a b k).2 || decide ((pst a b k).1.s < (hdec (tl a b k)).1.s)) = true then ((hdec (tl a b k)).1, true) else pst a b k) else pst a b k
theorem hat_iff (x : Hd × Nat) (k : Nat) : hat x k = true ↔ x.2 = 0 ∧ x.1.s % 2 = k := by unfold hat; simp
theorem pst_err {a b : List Nat} {k : Nat} (h : (hdec (tl a b k)).2 ≠ 0) : pst a b (k + 1) = pst a b k := by
  show (if _ then _ else _) = _
  rw [if_neg (by rw [hat_iff]; exact fun hx => h hx.1)]
theorem pst_else {a b : List Nat} {k : Nat} (h : (hdec (tl a b k)).1.s % 2 ≠ k) : pst a b (k + 1) = pst a b k := by
  show (if _ then _ else _) = _
  rw [if_neg (by rw [hat_iff]; exact fun hx => h hx.2)]
theorem pst_new {a b : List Nat} {k : Nat} (h1 : (hdec (tl a b k)).2 = 0) (h2 : (hdec (tl a b k)).1.s % 2 = k) (h : (pst a b k).2 = false ∨ (pst a b k).1.s < (hdec (tl a b k)).1.s) : pst a b (k + 1) = ((hdec (tl a b k)).1, true) := by
  show (if _ then _ else _) = _
  rw [if_pos (by rw [hat_iff]; exact ⟨h1, h2⟩)]
  rw [if_pos]
  rcases h with h | h
  · rw [h]; rfl
  · rw [decide_eq_true h, Bool.or_true]
theorem pst_old {a b : List Nat} {k : Nat} (h : (pst a b k).2 = true) (h2 : ¬ (pst a b k).1.s < (hdec (tl a b k)).1.s) : pst a b (k + 1) = pst a b k := by
  show (if _ then _ else _) = _
  split
  · rw [if_neg]
    rw [h, decide_eq_false h2]; decide
  · rfl
theorem pst_pick (a b : List Nat) : ((pst a b 2).2 = true → hpick a b = ((pst a b 2).1, 0)) ∧ ((pst a b 2).2 = false → hpick a b = (hd0, 16)) := by
  have p1 : pst a b 1 = if hat (hdec a) 0 = true then ((hdec a).1, true) else (hd0, false) := by
    show (if hat (hdec a) 0 = true then (if (!false || _) = true then _ else _) else _) = _
    split
    · rw [if_pos (by rfl)]; rfl
    · rfl
  have p2 : pst a b 2 = if hat (hdec b) 1 = true then (if (!(pst a b 1).2 || decide ((pst a b 1).1.s < (hdec b).1.s)) = true then ((hdec b).1, true) else pst a b 1) else pst a b 1 := rfl
  unfold hpick
  by_cases ha : hat (hdec a) 0 = true
  · rw [if_pos ha] at p1
    rw [if_pos ha]
    by_cases hb : hat (hdec b) 1 = true
    · rw [if_pos hb] at p2
      rw [if_pos hb]
      rw [p1] at p2
      have h1 := ((hat_iff _ _).1 ha).2
      have h2 := ((hat_iff _ _).1 hb).2
      by_cases hlt : (hdec b).1.s < (hdec a).1.s
      · rw [if_pos hlt]
        rw [if_neg (by simp; omega)] at p2
        rw [p2]
        exact ⟨fun _ => rfl, fun h => by cases h⟩
      · rw [if_neg hlt]
        rw [if_pos (by simp; omega)] at p2
        rw [p2]
        exact ⟨fun _ => rfl, fun h => by cases h⟩
    · rw [if_neg hb] at p2 ⊢
      rw [p2, p1]
      exact ⟨fun _ => rfl, fun h => by cases h⟩
  · rw [if_neg ha] at p1 ⊢
    by_cases hb : hat (hdec b) 1 = true
    · rw [if_pos hb] at p2 ⊢
      rw [p1, if_pos (by rfl)] at p2
      rw [p2]
      exact ⟨fun _ => rfl, fun h => by cases h⟩
    · rw [if_neg hb] at p2 ⊢
      rw [p2, p1]
      exact ⟨(fun h => by cases h), fun _ => rfl⟩
theorem build_two (a1 : Option Addr) (n1 c1 : Nat) (a2 : Option Addr) (n2 c2 : Nat) (w : World) : (Instr.build T2 #[(0, .slice a1 n1 c1), (1, .slice a2 n2 c2)]).run Tryd.prog w = .ok (.agg #[.slice a1 n1 c1, .slice a2 n2 c2]) w := by kernel_rfl
set_option maxRecDepth 100000 in
set_option maxHeartbeats 1000000 in
theorem pick_core (a1 : Option Addr) (m1 c1 : Nat) (a2 : Option Addr) (m2 c2 : Nat) (la lb : List Nat) (w : World)
    (hD : ∀ k w1, k < 2 → Below w.heap.size w w1 → Calls Tryd.prog 9 #[tv (.slice a1 m1 c1) (.slice a2 m2 c2) k] w1 fun e w' => e = .returned (.tuple #[.agg (hv (hdec (tl la lb k)).1), errS (hdec (tl la lb k)).2]) ∧ Below w1.heap.size w1 w') :
    Calls Tryd.prog 11 #[.slice a1 m1 c1, .slice a2 m2 c2] w fun e w' => e = .returned (.tuple #[.agg (hv (hpick la lb).1), errS (hpick la lb).2]) ∧ Below w.heap.size w w' := by
  have CD := Lib.hid hD
  have HP := Lib.hid (pst_pick la lb)
  have CSl := Lib.hid (fun s w hs => slot_any s w hs)
  clear hD
  go_enter Tryd.func11, Tryd.ntmps11
  go_wp2_with (first
    | (show wpList _ _ _ (⟨some 4, _, _, _, _, _⟩ :: _) _ _; refine wpList_alloc_arr rfl HT rfl arrz_HT ?_; intro g4 w1 hg4 hk4 hb4)
    | (show wpList _ _ _ (⟨some 6, _, _, _, _, _⟩ :: _) _ _; refine wpList_alloc_arr rfl HT rfl arrz_HT ?_; intro g6 w2 hg6 hk6 hb6)
    | (refine wpList_build rfl T2 _ rfl _ (by rfl) _ (build_two a1 m1 c1 a2 m2 c2 _) ?_))
  have HB := Lib.hid (hb4.trans (hb6.mono hb4.size))
  have HK4 := Lib.hid (hk4.ext hb6)
  have HK6 := Lib.hid hk6
  have Hg4 := Lib.hid hg4
  have Hg6 : Hid (w.heap.size ≤ g6) := by show _ ≤ _; have := hb4.size; omega
  have Hne : Hid (g4 ≠ g6) := by show _ ≠ _; have := hk4.lt; omega
  clear hg4 hk4 hb4 hg6 hk6 hb6
  go_loopw [7, 8, 9, 10, 11, 15] (fun f _ _ _ _ i wr => ∃ (k : Nat) (F : Bool), i = .int .i64 k ∧ k ≤ 2 ∧ f = .bool F ∧ Hid ((pst la lb k).2 = F) ∧ Hid (Below w.heap.size w wr) ∧ Hid (Blk wr g4 HT (hv hd0)) ∧ Hid (Blk wr g6 HT (hv (pst la lb k).1))) (fun _ _ _ _ _ i _ => 2 - (intOf i).toNat)
  case atStart => exact ⟨0, false, rfl, by omega, rfl, rfl, HB, HK4, HK6⟩
  case round =>
    obtain ⟨k, F, rfl, hk, rfl, hF, HB, HK4, HK6⟩ := hrel
    by_cases hlt : k < 2
    · have hlt2 : (k : Int) < 2 := by omega
      have H1 := Lib.hid (CD.out k wr hlt HB.out)
      have n1 := Lib.hid (@pst_err la lb k)
      have n2 := Lib.hid (@pst_else la lb k)
      have n3 := Lib.hid (@pst_new la lb k)
      have n4 := Lib.hid (@pst_old la lb k)
      have hfit := (hdec_fit (tl la lb k)).s
      obtain ⟨E, hE⟩ : ∃ E, (hdec (tl la lb k)).2 = E := ⟨_, rfl⟩
      obtain ⟨Y, hY⟩ : ∃ Y, (hdec (tl la lb k)).1 = Y := ⟨_, rfl⟩
      obtain ⟨N, hN⟩ : ∃ N, (pst la lb k).1 = N := ⟨_, rfl⟩
      have hNF : pst la lb k = (N, F) := by rw [← hN, ← hF.out]
      rw [hNF, hE] at n1
      rw [hNF, hY] at n2
      rw [hNF, hE, hY] at n3
      rw [hNF, hY] at n4
      rw [hE, hY] at H1
      rw [hY] at hfit
      rw [hN] at HK6
      clear hE hY hN hNF hF
      dsimp only at n3 n4
      have CS1 := Lib.hid (fun w => CSl.out Y.s w hfit)
      go_wp2_with (first | (refine wpList_index_two rfl (.tmp 14) (.tmp 15) rfl (.slice a1 m1 c1) (.slice a2 m2 c2) k (by rfl) (by rfl) hlt ?_))
      refine H1.out.mono ?_
      rintro e w3 ⟨rfl, hb⟩
      clear H1
      have HY := Lib.hid hfit
      clear hfit
      by_cases hE0 : E = 0
      · subst hE0
        rw [errS_0]
        obtain ⟨S, hS⟩ : ∃ S, Y.s % 2 = S := ⟨_, rfl⟩
        rw [hS] at CS1 n2 n3
        have HS := Lib.hid hS
        clear n1 hS
        go_wp2_with (first
          | (refine wpList_alloc_arr rfl HT rfl arrz_HT ?_; intro g10 w4 hg10 hk10 hb10)
          | (refine wpList_store_agg rfl HT (.tmp 10) (.tmp 22) rfl g10 (hv Y) _ HT (by rfl) (by rfl) agg_HT hk10 (hv_size _) (hv_size _) (hv_one _) ?_; intro w5 hk5 ht5 hs5; have q10 := hk5.h0))
        have bb : Ext wr w5 := hb.trans ((hb10.trans (ht5.below hb10.size (fun i hi => by subst hi; exact hg10))).mono hb.size)
        have HB5 := Lib.hid (HB.out.trans (Below.mono bb HB.out.size))
        have HK4' := Lib.hid (HK4.out.ext bb)
        have HK6' := Lib.hid (HK6.out.ext bb)
        have HK10 := Lib.hid hk5
        have Hne2 : Hid (g10 ≠ g6) := by show _ ≠ _; have := HK6.out.lt; have := hb.size; omega
        clear hb hg10 hk10 hb10 hk5 ht5 hs5 bb HK4 HK6 HB
        refine (CS1.out w5).mono ?_
        rintro e w6 ⟨rfl, rfl⟩
        clear CS1
        by_cases hSk : S = k
        · have d1 : ((S : Int) != (k : Int)) = false := by simp; omega
          cases F with
          | false =>
            have HN := Lib.hid (n3.out (by first | trivial | rfl) hSk (.inl rfl))
            clear n2 n3 n4 hSk
            go_wp2_with (first
              | (refine wpList_load_agg rfl HT (.tmp 10) rfl g10 0 (hv Y) (by rfl) agg_HT HK10.out.at (hv_size _) ?_)
              | (refine wpList_store_agg rfl HT (.tmp 6) (.tmp 42) rfl g6 (hv Y) _ HT (by rfl) (by rfl) agg_HT HK6'.out (hv_size _) (hv_size _) (hv_one _) ?_; intro w7 hk7 ht7 hs7; have hu4 := Lib.hid (HK4'.out.turn ht7 Hne.out); have hu6 := Lib.hid hk7; have huB := Lib.hid (HB5.out.trans (ht7.below HB5.out.size (fun i hi => by subst hi; exact Hg6.out))); clear hk7 ht7 hs7))
            go_roundw
            case rel => exact ⟨k + 1, true, by go_num, by omega, rfl, by show _ = _; rw [HN.out], huB, hu4, by rw [HN.out]; exact hu6⟩
            case measure => simp [intOf]; omega
          | true =>
            have q6 := HK6'.out.h0
            by_cases hSN : N.s < Y.s
            · have HN := Lib.hid (n3.out (by first | trivial | rfl) hSk (.inr hSN))
              have d2 : decide ((N.s : Int) < (Y.s : Int)) = true := decide_eq_true (by omega)
              clear n2 n3 n4 hSk
              go_wp2_with (first
                | (refine wpList_load_agg rfl HT (.tmp 10) rfl g10 0 (hv Y) (by rfl) agg_HT HK10.out.at (hv_size _) ?_)
                | (refine wpList_store_agg rfl HT (.tmp 6) (.tmp 42) rfl g6 (hv Y) _ HT (by rfl) (by rfl) agg_HT HK6'.out (hv_size _) (hv_size _) (hv_one _) ?_; intro w7 hk7 ht7 hs7; have hu4 := Lib.hid (HK4'.out.turn ht7 Hne.out); have hu6 := Lib.hid hk7; have huB := Lib.hid (HB5.out.trans (ht7.below HB5.out.size (fun i hi => by subst hi; exact Hg6.out))); clear hk7 ht7 hs7 q6))
              go_roundw
              case rel => exact ⟨k + 1, true, by go_num, by omega, rfl, by show _ = _; rw [HN.out], huB, hu4, by rw [HN.out]; exact hu6⟩
              case measure => simp [intOf]; omega
            · have HN := Lib.hid (n4.out rfl hSN)
              have d2 : decide ((N.s : Int) < (Y.s : Int)) = false := decide_eq_false (by omega)
              clear n2 n3 n4 hSk
              go_wp2
              go_roundw
              case rel => exact ⟨k + 1, true, by go_num, by omega, rfl, by show _ = _; rw [HN.out], HB5, HK4', by rw [HN.out]; exact HK6'⟩
              case measure => simp [intOf]; omega
        · have d1 : ((S : Int) != (k : Int)) = true := by simp; omega
          have HN := Lib.hid (n2.out hSk)
          clear n2 n3 n4 hSk
          go_wp2
          go_roundw
          case rel => exact ⟨k + 1, F, by go_num, by omega, rfl, by show _ = _; rw [HN.out], HB5, HK4', by rw [HN.out]; exact HK6'⟩
          case measure => simp [intOf]; omega
      · rw [errS_not hE0]
        have HN := Lib.hid (n1.out hE0)
        clear n1 n2 n3 n4 CS1
        go_wp2_with (first
          | (refine wpList_alloc_arr rfl HT rfl arrz_HT ?_; intro g10 w4 hg10 hk10 hb10)
          | (refine wpList_store_agg rfl HT (.tmp 10) (.tmp 22) rfl g10 (hv Y) _ HT (by rfl) (by rfl) agg_HT hk10 (hv_size _) (hv_size _) (hv_one _) ?_; intro w5 hk5 ht5 hs5; have bb : Ext wr w5 := hb.trans ((hb10.trans (ht5.below hb10.size (fun i hi => by subst hi; exact hg10))).mono hb.size); have HB5 := Lib.hid (HB.out.trans (Below.mono bb HB.out.size)); have HK4' := Lib.hid (HK4.out.ext bb); have HK6' := Lib.hid (HK6.out.ext bb); clear hb hg10 hk10 hb10 hk5 ht5 hs5 bb HK4 HK6 HB))
        go_roundw
        case rel => exact ⟨k + 1, F, by go_num, by omega, rfl, by show _ = _; rw [HN.out], HB5, HK4', by rw [HN.out]; exact HK6'⟩
        case measure => simp [intOf]; omega
    · obtain rfl : k = 2 := by omega
      clear hlt hk
      cases F with
      | false =>
        have HX := Lib.hid (HP.out.2 hF.out)
        clear hF
        go_wp2_with (first
          | (refine wpList_build rfl HT _ rfl _ (by rfl) (hv hd0) (build_h0 _) ?_)
          | (refine wpList_store_agg rfl HT (.tmp 4) (.tmp 46) rfl g4 (hv hd0) _ HT (by rfl) (by rfl) agg_HT HK4.out (hv_size _) (hv_size _) (hv_one _) ?_; intro w8 hk8 ht8 hs8))
        refine bodyPost_ret (v := .tuple #[.agg (hv hd0), .iface 59 (.int .i64 16)]) ?_ rfl ?_
        · exact results_agg2 agg_HT rfl _ _ g4 _ _ (by rfl) (by rfl) hk8 (hv_size _)
        · exact ⟨by rw [HX.out]; rfl, HB.out.trans (ht8.below HB.out.size (fun i hi => by subst hi; exact Hg4.out))⟩
      | true =>
        have HX := Lib.hid (HP.out.1 hF.out)
        clear hF
        obtain ⟨N, hN⟩ : ∃ N, (pst la lb 2).1 = N := ⟨_, rfl⟩
        rw [hN] at HK6 HX
        clear hN
        go_wp2_with (first
          | (refine wpList_load_agg rfl HT (.tmp 6) rfl g6 0 (hv N) (by rfl) agg_HT HK6.out.at (hv_size _) ?_)
          | (refine wpList_store_agg rfl HT (.tmp 4) (.tmp 48) rfl g4 (hv N) _ HT (by rfl) (by rfl) agg_HT HK4.out (hv_size _) (hv_size _) (hv_one _) ?_; intro w8 hk8 ht8 hs8))
        refine bodyPost_ret (v := .tuple #[.agg (hv N), .nilIface]) ?_ rfl ?_
        · exact results_agg2 agg_HT rfl _ _ g4 _ _ (by rfl) (by rfl) hk8 (hv_size _)
        · exact ⟨by rw [HX.out]; rfl, HB.out.trans (ht8.below HB.out.size (fun i hi => by subst hi; exact Hg4.out))⟩
/-- A slice of bytes as an argument. -/
structure BA (w : World) (v : Value) (l : List Nat) : Prop where
  ex : ∃ a c, v = .slice a l.length c ∧ Src w a l ∧ l.length ≤ c ∧ c ≤ 140737488355328
  b8 : B8 l
theorem BA.below {w w' : World} {B : Nat} {v : Value} {l : List Nat} (h : BA w v l) (hb : Below B w w') (hB : w.heap.size ≤ B) : BA w' v l := by
  obtain ⟨a, c, rfl, hs, h1, h2⟩ := h.ex
  exact ⟨⟨a, c, rfl, hs.below hb hB, h1, h2⟩, h.b8⟩
theorem BA.ext {w w' : World} {v : Value} {l : List Nat} (h : BA w v l) (hb : Ext w w') : BA w' v l := h.below hb (Nat.le_refl _)
theorem BA.none (w : World) : BA w (.slice none 0 0) [] := ⟨⟨Option.none, 0, rfl, Src.nil _ _, by decide, by decide⟩, B8.nil⟩
theorem dec_ba (v : Value) (l : List Nat) (w : World) (h : BA w v l) (hT : WorthIn w) (hM : MostIn w) :
    Calls Tryd.prog 9 #[v] w fun e w' => e = .returned (.tuple #[.agg (hv (hdec l).1), errS (hdec l).2]) ∧ Below w.heap.size w w' := by
  obtain ⟨a, c, rfl, hs, h1, h2⟩ := h.ex
  exact dec_any a _ c l rfl w h.b8 h1 h2 hs hT hM
/-- head.Pick, of whatever bytes. -/
theorem pick_ba (u v : Value) (la lb : List Nat) (w : World) (h : BA w u la) (h' : BA w v lb) (hT : WorthIn w) (hM : MostIn w) :
    Calls Tryd.prog 11 #[u, v] w fun e w' => e = .returned (.tuple #[.agg (hv (hpick la lb).1), errS (hpick la lb).2]) ∧ Below w.heap.size w w' := by
  obtain ⟨a, c, rfl, _⟩ := h.ex
  obtain ⟨a', c', rfl, _⟩ := h'.ex
  refine pick_core a _ c a' _ c' la lb w ?_
  intro k w1 hk hb
  match k, hk with
  | 0, _ => exact dec_ba _ la w1 (h.ext hb) (hT.below hb) (hM.below hb)
  | 1, _ => exact dec_ba _ lb w1 (h'.ext hb) (hT.below hb) (hM.below hb)
  | n + 2, h => omega
end Go.Proofs.YtofbomcimicccaaDoor
