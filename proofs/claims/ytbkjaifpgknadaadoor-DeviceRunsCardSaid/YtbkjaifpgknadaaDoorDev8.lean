/-
  Waiting.
-/
import Derived.Test.YtbkjaifpgknadaaDoorDev7
import Derived.Test.YtbkjaifpgknadaaDoorSort
import Derived.Test.YtbkjaifpgknadaaDoorMem
import Derived.OwnWalk
import Derived.Maps.AppendAt
namespace Go.Proofs.YtbkjaifpgknadaaDoor
open Go Go.RowKit Go.Maps Go.Sort

abbrev IT : TypeId := 3
/-- Which sectors wait, ascending. -/
def wl (S : DS) : List Nat := (List.range (8 * S.pages)).filter fun n => (S.waits n).isSome
def iv (l : List Nat) : List Int := l.map fun n : Nat => (n : Int)
def ivs (l : List Nat) : List Value := l.map fun n : Nat => Value.int .i64 (n : Int)
theorem ivs_iv (l : List Nat) : (iv l).map (Value.int .i64) = ivs l := by simp [iv, ivs]
theorem iv_len (l : List Nat) : (iv l).length = l.length := by simp [iv]
theorem ivs_len (l : List Nat) : (ivs l).length = l.length := by simp [ivs]
theorem inc_ext : ∀ {l m : List Int}, l.Pairwise (fun a b => a < b) → m.Pairwise (fun a b => a < b) → (∀ x, x ∈ l ↔ x ∈ m) → l = m
  | [], [], _, _, _ => rfl
  | [], y :: m, _, _, h => by have := (h y).2 (by simp); simp at this
  | x :: l, [], _, _, h => by have := (h x).1 (by simp); simp at this
  | x :: l, y :: m, h1, h2, h => by
    obtain ⟨a1, a2⟩ := List.pairwise_cons.1 h1
    obtain ⟨b1, b2⟩ := List.pairwise_cons.1 h2
    have hxy : x = y := by
      rcases List.mem_cons.1 ((h x).1 (by simp)) with e | ha
      · exact e
      · rcases List.mem_cons.1 ((h y).2 (by simp)) with e | hb
        · exact e.symm
        · have := a1 y hb; have := b1 x ha; omega
    subst hxy
    rw [inc_ext a2 b2 (fun z => ⟨fun hz => by
      rcases List.mem_cons.1 ((h z).1 (by simp [hz])) with e | h'
      · have := a1 z hz; omega
      · exact h', fun hz => by
      rcases List.mem_cons.1 ((h z).2 (by simp [hz])) with e | h'
      · have := b1 z hz; omega
      · exact h'⟩)]
theorem sort_perm {ns ms : List Nat} (h1 : ns.Pairwise (fun a b => a ≠ b)) (h2 : ms.Pairwise (fun a b => a < b)) (h : ∀ n, n ∈ ns ↔ n ∈ ms) : (iv ns).mergeSort (fun x y => decide (x ≤ y)) = iv ms := by
  have hp := List.mergeSort_perm (iv ns) (fun x y => decide (x ≤ y))
  have hs := List.pairwise_mergeSort (le := fun x y : Int => decide (x ≤ y)) (fun a b c h1 h2 => by simp at *; omega) (fun a b => by simp; omega) (iv ns)
  have hn : (iv ns).Pairwise (fun a b => a ≠ b) := by
    unfold iv; rw [List.pairwise_map]; exact h1.imp (fun h e => h (by omega))
  have hn' := (hp.symm.pairwise_iff (R := fun a b : Int => a ≠ b) (fun h e => h e.symm)).1 hn
  refine inc_ext ?_ ?_ (fun x => ?_)
  · refine (hs.and hn').imp (fun h => ?_)
    obtain ⟨ha, hb⟩ := h
    simp at ha
    omega
  · unfold iv; rw [List.pairwise_map]; exact h2.imp (fun h => by omega)
  · rw [hp.mem_iff]
    unfold iv
    constructor
    · intro hx
      obtain ⟨n, hn, rfl⟩ := List.mem_map.1 hx
      exact List.mem_map.2 ⟨n, (h n).1 hn, rfl⟩
    · intro hx
      obtain ⟨n, hn, rfl⟩ := List.mem_map.1 hx
      exact List.mem_map.2 ⟨n, (h n).2 hn, rfl⟩
theorem wl_inc (S : DS) : (wl S).Pairwise (fun a b => a < b) := List.pairwise_lt_range.filter _
theorem wl_len (S : DS) : (wl S).length ≤ 8 * S.pages := by
  have := List.length_filter_le (fun n => (S.waits n).isSome) (List.range (8 * S.pages))
  rw [List.length_range] at this
  exact this
/-- What has been collected of what waits, when 'left' is still to come. -/
structure Col (S : DS) (left : Nat → Bool) (ns : List Nat) : Prop where
  nd : ns.Pairwise (fun a b => a ≠ b)
  mem : ∀ n, n ∈ ns ↔ (S.waits n).isSome = true ∧ left n = false
theorem Col.start (S : DS) : Col S (fun n => (S.waits n).isSome) [] := ⟨List.Pairwise.nil, fun n => by cases h : (S.waits n).isSome <;> simp⟩
theorem Col.step {S : DS} {left : Nat → Bool} {ns : List Nat} (h : Col S left ns) {n : Nat} (hn : (S.waits n).isSome = true) (hl : left n = true) : Col S (but left n) (ns ++ [n]) := by
  refine ⟨List.pairwise_append.2 ⟨h.nd, List.pairwise_singleton _ _, fun a ha b hb e => ?_⟩, fun m => ?_⟩
  · rw [List.mem_singleton.1 hb] at e
    subst e
    have := ((h.mem _).1 ha).2
    rw [hl] at this; cases this
  · rw [List.mem_append, h.mem, List.mem_singleton]
    unfold but
    by_cases e : m = n
    · subst e; simp [hn]
    · simp [e]
theorem Col.fin {w : World} {bd bs bw : Nat} {S : DS} (hD : Dev w bd bs bw S) {left : Nat → Bool} {ns : List Nat} (h : Col S left ns) (hl : ∀ n, left n = false) : (iv ns).mergeSort (fun x y => decide (x ≤ y)) = iv (wl S) := by
  refine sort_perm h.nd (wl_inc S) (fun n => ?_)
  rw [h.mem, wl, List.mem_filter, List.mem_range]
  constructor
  · rintro ⟨h1, _⟩
    obtain ⟨l, hx⟩ := Option.isSome_iff_exists.1 h1
    exact ⟨(waits_form hD hx).2.2, h1⟩
  · rintro ⟨_, h1⟩
    exact ⟨h1, hl n⟩
theorem Col.len {w : World} {bd bs bw : Nat} {S : DS} (hD : Dev w bd bs bw S) {left : Nat → Bool} {ns : List Nat} (h : Col S left ns) : ns.length ≤ 8 * S.pages := by
  have := length_le_of_sub ns (List.range (8 * S.pages)) h.nd (fun x hx => by
    obtain ⟨l, hl⟩ := Option.isSome_iff_exists.1 ((h.mem x).1 hx).1
    exact List.mem_range.2 (waits_form hD hl).2.2)
  rwa [List.length_range] at this
theorem waiting_nil (w : World) : Calls Tryd.prog 14 #[.pointer none] w fun e w' => e = .returned (.slice none 0 0) ∧ w = w' := by
  go_enter Tryd.func14, Tryd.ntmps14
  go_wp2
  go_ret
  exact ⟨rfl, rfl⟩
/-- A new slice of numbers behind a call, or nil. -/
def NewInts (w : World) (l : List Nat) (e : Ending) (w' : World) : Prop := ∃ v, e = .returned v ∧ w'.ownsRow w.heap.size IT 1 v l.length (ivs l) ∧ Below w.heap.size w w'
theorem infoInt : (Tryd.prog.info? IT).map (fun i => (i.zero, i.size, i.bytes)) = some (some (.int .i64 0), 1, 8) := by kernel_rfl
theorem rg_iter {w : World} {b r M : Nat} {g : Secs} {left : Nat → Bool} (h : RG w b r M g left) : ∃ o1 o2 o3 o4, w.heap[r]? = some (.mapIter o1 o2 o3 o4) := by
  obtain ⟨_, _, _, _, _, ⟨_, _, _, _, _, _, _, _, _, hr, _⟩, _⟩ := h
  exact ⟨_, _, _, _, hr⟩
theorem own_cells {w : World} {B E sz n k : Nat} {v : Value} {xs : List Value} (h : w.ownsRow B E sz v n xs) (hk : v.ownBlock = some k) : B ≤ k ∧ ∃ cs t f, w.heap[k]? = some (.cells cs t f) := by
  rcases h.2 with ⟨rfl, _⟩ | ⟨g, cap, cur, rfl, hbg, hg, _⟩
  · simp [Value.ownBlock] at hk
  · simp only [Value.ownBlock, Option.some.injEq] at hk
    subst hk
    exact ⟨hbg, _, _, _, hg⟩
theorem own_turn {F : Nat → Prop} {w w' : World} {B E sz n : Nat} {v : Value} {xs : List Value} (h : w.ownsRow B E sz v n xs) (t : Turn F w w') (hF : ∀ k, v.ownBlock = some k → ¬ F k) : w'.ownsRow B E sz v n xs := by
  refine ⟨h.1, ?_⟩
  rcases h.2 with h1 | ⟨g, cap, cur, rfl, hbg, hg, rest⟩
  · exact .inl h1
  · exact .inr ⟨g, cap, cur, rfl, hbg, t.hg hg (hF g rfl), rest⟩
theorem own_ne_iter {w : World} {B E sz n b r M : Nat} {v : Value} {xs : List Value} {g : Secs} {left : Nat → Bool} (h : w.ownsRow B E sz v n xs) (hr : RG w b r M g left) : ∀ k, v.ownBlock = some k → k ≠ r := by
  rintro k hk rfl
  obtain ⟨_, cs, t, f, hc⟩ := own_cells h hk
  obtain ⟨o1, o2, o3, o4, ho⟩ := rg_iter hr
  rw [hc] at ho; cases ho
theorem own_lt' {w : World} {B E sz n : Nat} {v : Value} {xs : List Value} (h : w.ownsRow B E sz v n xs) : ∀ k, v.ownBlock = some k → k < w.heap.size := by
  intro k hk
  obtain ⟨_, cs, t, f, hc⟩ := own_cells h hk
  exact (Array.getElem?_eq_some_iff.1 hc).1
theorem PRow.cA {w : World} {g n A : Nat} (h : PRow w g n) (hA : A = n / 8) : w.cell? ⟨g, 0, none⟩ = some (.int .i64 (A : Int)) := by rw [h.c0, hA]
theorem PRow.cB {w : World} {g n A : Nat} (h : PRow w g n) (hA : A = n % 8) : w.cell? ⟨g, 1, none⟩ = some (.int .i64 (A : Int)) := by rw [h.c1, hA]
theorem ivs_nil {l : List Nat} (h : ivs l = []) : l = [] := by cases l with | nil => rfl | cons => simp [ivs] at h
theorem iv_inj {l m : List Nat} (h : iv l = iv m) : l = m := by
  have := congrArg (List.map Int.toNat) h
  simpa [iv, List.map_map, Function.comp_def] using this
set_option maxRecDepth 100000 in
set_option maxHeartbeats 1000000 in
theorem waiting_any (w : World) (bd bs bw : Nat) (S : DS) (h : Dev w bd bs bw S) : Calls Tryd.prog 14 #[.pointer (some ⟨bd, 0, none⟩)] w (NewInts w (wl S)) := by
  have c2 := h.c2
  have hp2 := h.p2
  have H := Lib.hid h
  clear h
  go_enter Tryd.func14, Tryd.ntmps14
  go_wp2_with (refine wpList_range_om rfl (.tmp 10) rfl bw (8 * S.pages) S.waits (by rfl) H.out.waits ?_; intro r w2 hr hrg hb2)
  go_frame
  have hrl := H.out.foot_lt
  have hrf : ∀ i, Foot bd bs bw i → i ≠ r := fun i hi e => by have := hrl i hi; omega
  have hown : w2.ownsRow w.heap.size IT 1 (.slice none 0 0) 0 [] := ⟨rfl, .inl ⟨rfl, rfl⟩⟩
  have hrel0 : ∃ left ns, Hid (RG w2 bw r (8 * S.pages) S.waits left) ∧ Hid (Below w.heap.size w w2) ∧ Hid (Col S left ns) ∧ Hid (w2.ownsRow w.heap.size IT 1 (.slice none 0 0) ns.length (ivs ns)) := ⟨_, [], hrg, hb2, Col.start S, hown⟩
  have Hrel := Lib.hid hrel0
  have Hrf := Lib.hid hrf
  clear hrel0 hrg hb2 hrl hrf hown c2
  go_loopw [3] (fun v wr => ∃ left ns, Hid (RG wr bw r (8 * S.pages) S.waits left) ∧ Hid (Below w.heap.size w wr) ∧ Hid (Col S left ns) ∧ Hid (wr.ownsRow w.heap.size IT 1 v ns.length (ivs ns))) (fun _ wr => wr.rangeLeft bw r)
  case atStart => exact Hrel.out
  case round =>
    obtain ⟨left, ns, hrg, hbl, hcol, hown⟩ := hrel
    go_wp2_with (refine wpList_next_om rfl (.tmp 11) rfl bw r (8 * S.pages) S.waits left (by rfl) hrg.out ?_ ?_)
    · intro hl0
      have hsort := hcol.out.fin H.out hl0
      have hlen := hcol.out.len H.out
      rcases hown.out.2 with ⟨rfl, hx⟩ | ⟨g, cap, cur, rfl, hbg, hg, h1, h2, h3, h4⟩
      · have hns := List.eq_nil_of_length_eq_zero hx
        subst hns
        have hw0 : wl S = [] := by
          have := hsort.symm
          simp only [iv, List.map_nil, List.mergeSort_nil] at this
          exact List.map_eq_nil_iff.1 this
        have hfin : wr.ownsRow w.heap.size IT 1 (.slice none 0 0) (wl S).length (ivs (wl S)) ∧ Below w.heap.size w wr := ⟨by rw [hw0]; exact ⟨rfl, .inl ⟨rfl, rfl⟩⟩, hbl.out⟩
        have Hf := Lib.hid hfin
        clear hfin hw0 hsort hlen hx hown hcol hrg hl0 Hrel hbl
        go_wp2_with fail
        refine (sort_ints_none none 0 wr).mono ?_; rintro e w' ⟨rfl, hw'⟩; subst hw'
        go_wp2_with fail
        go_ret
        exact ⟨_, rfl, Hf.out.1, Hf.out.2⟩
      · have hc := sort_ints g 0 cap (iv ns) wr (holds_of_blockI hg (by rw [iv_len, ivs_iv]; simpa using h4)) (Array.getElem?_eq_some_iff.1 hg).1 (by rw [iv_len]; omega)
        rw [iv_len, hsort] at hc
        have hwl : (wl S).length = ns.length := by
          have := congrArg List.length hsort
          rw [List.length_mergeSort, iv_len, iv_len] at this
          exact this.symm
        have hfin : ∀ n os, (grow (Go.Sort.putRow (Value.int .i64) (Sort.ahead wr n) g 0 (iv (wl S)).toArray) os).ownsRow w.heap.size IT 1 (.slice (some ⟨g, 0, none⟩) ns.length cap) (wl S).length (ivs (wl S)) ∧ Below w.heap.size w (grow (Go.Sort.putRow (Value.int .i64) (Sort.ahead wr n) g 0 (iv (wl S)).toArray) os) := fun n os => by
          refine ⟨?_, hbl.out.grown (grownBy_sortedI _) hbl.out.size (fun k hk => by cases hk; exact hbg)⟩
          have h5 := ownsRow_sortedI (w := wr) (n := n) (os := os) (ss := iv ns) (ts := iv (wl S)) (by rw [iv_len, iv_len, hwl]) hbg hg (by rw [iv_len]; exact h1) h2 h3
          rw [iv_len, ivs_iv] at h5
          rw [hwl]
          exact h5
        have Hf := Lib.hid hfin
        have Hc := Lib.hid hc
        clear hfin hc hsort hlen hwl hg h1 h2 h3 h4 hown hcol hrg hl0 Hrel hbl
        go_wp2_with fail
        refine Hc.out.mono ?_; rintro e w' ⟨rfl, m, os, rfl⟩
        have hf := Hf.out m os
        generalize grow (Go.Sort.putRow (Value.int .i64) (Sort.ahead wr m) g 0 (iv (wl S)).toArray) os = w9 at *
        have Hf9 := Lib.hid hf
        clear hf
        go_wp2_with fail
        go_ret
        exact ⟨_, rfl, Hf9.out.1, Hf9.out.2⟩
    · intro n l w3 hn hln hgl hrg3 ht3 _ hm3 hen
      obtain ⟨A, hA⟩ : ∃ A, A = n / 8 := ⟨_, rfl⟩
      obtain ⟨B, hB⟩ : ∃ B, B = n % 8 := ⟨_, rfl⟩
      have hAl : A ≤ 1024 := by omega
      have hBl : B ≤ 7 := by omega
      have HAB := Lib.hid (And.intro hA hB)
      have hs : (S.waits n).isSome = true := by rw [hgl]; rfl
      have hcol' := hcol.out.step hs hln
      have hlen := hcol'.len H.out
      rw [List.length_append] at hlen
      have hne := own_ne_iter hown.out hrg.out
      have hown3 := own_turn hown.out ht3 hne
      have hb3 : Below w.heap.size w w3 := hbl.out.trans (ht3.below hbl.out.size (fun i hi => by rw [hi]; exact hr))
      have HX := Lib.hid (And.intro hcol' (And.intro hrg3 (And.intro hm3 hb3)))
      have hlen1 : ns.length ≤ 8192 := by simp at hlen; omega
      have Hbase := Lib.hid hb3.size
      obtain ⟨i0, hi0, hz0, hz1, hz2⟩ := info_parts infoInt
      have Hi0 := Lib.hid (And.intro hi0 (And.intro hz0 (And.intro hz1 hz2)))
      clear hcol' hrg3 hm3 hb3 hlen hs hgl hln hn hrg hbl hcol ht3 hne hA hB hi0 hz0 hz1 hz2 Hrel
      go_wp2_with (first
        | (refine wpList_alloc_place rfl rfl ?_; intro g4 w4 hg4 hp4 hb4)
        | (refine wpList_store_place rfl (.tmp 4) (.tmp 15) rfl g4 n 0 (by rfl) (by rfl) hp4 ?_; intro w5 hp5 ht5 hs5; clear hs5; have k0 := hp5.cA HAB.out.1; have k1 := hp5.cB HAB.out.2; have h35 := (Turn.ofBelow (F := fun _ => False) hb4).step ht5 (fun i hi hl => by omega); have hown5 := Lib.hid (own_turn hown3 h35 (fun _ _ h => h)))
        | (at_builtin; refine wpList_append_own _ rfl (.tmp 16) (.tmp 23) 36 rfl w.heap.size IT i0 (.int .i64 0) 1 8 Tryd.underlying36 Hi0.out.1 Hi0.out.2.1 Hi0.out.2.2.1 Hi0.out.2.2.2 rfl (by decide) u3 ns.length (ivs ns) (by rfl) (hown5.out.alloc _) ⟨w5.heap.size, 0, none⟩ 1 1 [.int .i64 ((A : Int) * 8 + B)] (by rfl) rfl (cell_one_new _ _ _) (ints_oneCell .i64 [(A : Int) * 8 + B]) (by unfold maxLen; omega) (by omega) (Nat.le_trans Hbase.out (Nat.le_trans h35.size (by simp))) ?_; intro v6 w6 hown6 hgrow6 hnil6; clear hnil6))
      have hnr := own_ne_iter hown3 HX.out.2.1
      have hnb : ∀ k, u3.ownBlock = some k → w.heap.size ≤ k := fun k hk => (own_cells hown3 hk).1
      have hbwl := H.out.waits.lt
      have t36 : Turn (fun i => u3.ownBlock = some i) w3 w6 := ((h35.mono (fun _ h _ => h.elim)).alloc _).grown hgrow6 (fun k hk _ => hk)
      have hrg6 := HX.out.2.1.turn t36 (fun h => by have := hnb _ h; omega) (fun h => hnr _ h rfl)
      have hb6 : Below w.heap.size w w6 := HX.out.2.2.2.trans (t36.below HX.out.2.2.2.size hnb)
      have hx : (A : Int) * 8 + (B : Int) = (n : Int) := by have h1 := HAB.out.1; have h2 := HAB.out.2; omega
      have hown9 : w6.ownsRow w.heap.size IT 1 v6 (ns ++ [n]).length (ivs (ns ++ [n])) := by
        rw [hx] at hown6
        rw [List.length_append, List.length_singleton, ivs, List.map_append]
        exact hown6
      have hm6 : w6.rangeLeft bw r < wr.rangeLeft bw r := by rw [hrg6.2]; exact HX.out.2.2.1
      have HR := Lib.hid (And.intro hrg6.1 (And.intro hb6 (And.intro HX.out.1 (And.intro hown9 hm6))))
      clear hnr hnb hbwl t36 hrg6 hb6 hx hown9 hm6 hown6 hgrow6 HX hown3 hown5 h35 k0 k1 hp5 ht5 hb4 hp4 hen
      go_roundw
      case rel => exact ⟨but left n, ns ++ [n], HR.out.1, HR.out.2.1, HR.out.2.2.1, HR.out.2.2.2.1⟩
      case measure => exact HR.out.2.2.2.2
end Go.Proofs.YtbkjaifpgknadaaDoor
