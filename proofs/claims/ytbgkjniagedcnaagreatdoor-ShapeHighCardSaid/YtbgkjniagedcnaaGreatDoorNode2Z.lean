/-
  A node's isLeaf, besides, sizes, size.
-/
import Derived.Test.YtbgkjniagedcnaaGreatDoorNodeZ
import Derived.Test.YtbgkjniagedcnaaGreatDoorVarSizeZ
import Derived.Test.YtbgkjniagedcnaaGreatDoorTextsZ
import Derived.WalkKit
import Derived.Below
import Derived.Lib.Hide
namespace Go.Proofs.YtbgkjniagedcnaaGreatDoor
open Go Go.RowKit

theorem isLeaf_yes (b : Nat) (vc vk : Value) (w : World) (hb : NB w b vc vk nilS) : Calls Tryz.prog 32 #[pt b] w fun e w' => e = .returned (.bool true) ∧ w = w' := by
  have q2 := hb.c3
  clear hb
  go_enter Tryz.func32, Tryz.ntmps32
  go_wp2
  go_ret
  exact ⟨rfl, rfl⟩
theorem isLeaf_no (b : Nat) (vc vk : Value) (a : Option Addr) (n c : Nat) (w : World) (hb : NB w b vc vk (.slice a n c)) (h0 : 0 < n) : Calls Tryz.prog 32 #[pt b] w fun e w' => e = .returned (.bool false) ∧ w = w' := by
  have q2 := hb.c3
  have d1 : ((n : Int) == 0) = false := by rw [beq_eq_false_iff_ne]; omega
  clear hb
  go_enter Tryz.func32, Tryz.ntmps32
  go_wp2
  go_ret
  exact ⟨rfl, rfl⟩
theorem besides_leaf (b : Nat) (es : List En) (w : World) (hb : Leaf w b es) (hl : es.length ≤ 1000000) : Calls Tryz.prog 88 #[pt b] w fun e w' => e = .returned (.int .i64 (vs es.length : Nat)) ∧ w = w' := by
  obtain ⟨vc, h1, a, c, rfl, _⟩ := hb
  have q0 := h1.c1
  have hi := Lib.hid (isLeaf_yes b _ _ w h1)
  have hs := Lib.hid (size_any es.length w (by omega))
  have z1 : IntKind.u64.wrap (es.length : Int) = (es.length : Int) := by rw [IntKind.wrap_u64]; omega
  clear h1
  generalize es.length = n at *
  go_enter Tryz.func88, Tryz.ntmps88
  go_wp2_with fail
  refine hi.out.mono ?_
  rintro e w' ⟨rfl, rfl⟩
  go_wp2_with fail
  refine hs.out.mono ?_
  rintro e w' ⟨rfl, rfl⟩
  go_wp2
  go_ret
  exact ⟨rfl, rfl⟩
theorem besides_bran (b : Nat) (ks : List ByteArray) (ps : List Nat) (w : World) (hb : Bran w b ks ps) (hl : 0 < ps.length) : Calls Tryz.prog 88 #[pt b] w fun e w' => e = .returned (.int .i64 2) ∧ w = w' := by
  obtain ⟨vk, vp, h1, _, a, c, rfl, _⟩ := hb
  have hi := Lib.hid (isLeaf_no b _ _ _ _ _ w h1 hl)
  have hs := Lib.hid (brSizeW_any none 0 0 [] w rfl (TxS.nil _ _) (by omega) (fun i hi => by simp at hi))
  rw [show ((sizeTo [] 0 : Nat) : Int) = 2 from rfl] at hs
  clear h1
  go_enter Tryz.func88, Tryz.ntmps88
  go_wp2_with fail
  refine hi.out.mono ?_
  rintro e w' ⟨rfl, rfl⟩
  go_wp2_with fail
  refine hs.out.mono ?_
  rintro e w' ⟨rfl, rfl⟩
  go_wp2
  go_ret
  exact ⟨rfl, rfl⟩
theorem szI_take (es : List En) (k : Nat) (h : k < es.length) : (szI es).take (k + 1) = (szI es).take k ++ [((szE (ea es k) : Nat) : Int)] := by
  rw [ia_take _ _ (by unfold szI; simpa using h), szI_at _ _ h]
theorem ksI_take (ks : List ByteArray) (k : Nat) (h : k < ks.length) : (ksI ks).take (k + 1) = (ksI ks).take k ++ [((3 + (sa ks k).size : Nat) : Int)] := by
  rw [ia_take _ _ (by unfold ksI; simpa using h), ksI_at _ _ h]
theorem szI_len (es : List En) : (szI es).length = es.length := by unfold szI; simp
theorem ksI_len (ks : List ByteArray) : (ksI ks).length = ks.length := by unfold ksI; simp
set_option maxRecDepth 100000 in
theorem sizes_leaf (b : Nat) (es : List En) (w : World) (hb : Leaf w b es) (hl : es.length ≤ 1000000) (hok : ∀ x ∈ es, okE x) : Calls Tryz.prog 87 #[pt b] w fun e w' => ∃ v, e = .returned v ∧ PgV w' v (szI es) ∧ Below w.heap.size w w' := by
  obtain ⟨vc, h1, a, c, rfl, hs, _⟩ := hb
  have H1 := Lib.hid h1
  have Hs := Lib.hid hs
  have Hok := Lib.hid hok
  have q0 := h1.c1
  have HN : ∃ n, es.length = n := ⟨_, rfl⟩
  obtain ⟨n, hn⟩ := HN
  have Hn := Lib.hid hn
  rw [hn] at q0 hl
  clear h1 hs hok hn
  go_enter Tryz.func87, Tryz.ntmps87
  go_wp2_with fail
  go_loopw [3, 5, 13] (fun lv _ i wr => ∃ (k : Nat) (v : Value), i = .int .i64 k ∧ v = lv ∧ k ≤ n ∧ Hid (wr.ownsRow w.heap.size 3 1 v ((szI es).take k).length (iv ((szI es).take k))) ∧ Hid (Below w.heap.size w wr)) (fun _ _ i _ => n - (intOf i).toNat)
  case atStart => exact ⟨0, nilS, rfl, rfl, by omega, World.ownsRow_nil w w.heap.size 3 1, Below.refl _ _⟩
  case round =>
    obtain ⟨k, v, rfl, rfl, hk, hown, hB⟩ := hrel
    by_cases hlt : k < n
    · obtain ⟨g, o, rfl, hcell⟩ := (Hs.out.below hB.out (Nat.le_refl _)).ents (by rw [Hn.out]; omega)
      obtain ⟨p0, p1, _, p2, ⟨sa, sc, rfl, _⟩⟩ := hcell k (by rw [Hn.out]; exact hlt)
      have Htk := Lib.hid (szI_take es k (by rw [Hn.out]; exact hlt))
      have hsz := hB.out.size
      have Htl : Hid (((szI es).take k).length = k) := by show _ = _; rw [List.length_take, szI_len, Hn.out]; omega
      have hoke := Hok.out (ea es k) (ea_mem (by rw [Hn.out]; exact hlt))
      have hks := okK_size hoke.1
      have hvs := hoke.2
      have hsr := (szE_range hoke).2
      have Hcall := Lib.hid (leafSize_any (ea es k).k (ea es k).v.size (wr.alloc (.cells #[.string (ea es k).k, .string (ea es k).v, .slice sa (ea es k).ch.length sc] TCT)) (by omega) (by omega))
      have e1 : Hid (sizeS (ea es k).k ((ea es k).v.size : Int) = szE (ea es k)) := rfl
      rw [e1.out] at Hcall
      generalize szE (ea es k) = S at *
      generalize ea es k = y at *
      obtain ⟨yk, yv, yc⟩ := y
      dsimp only at p0 p1 p2 Hcall hks hvs
      generalize yc.length = yn at *
      clear hcell hoke e1
      go_wp2_with fail
      refine Hcall.out.mono ?_
      rintro e w' ⟨rfl, rfl⟩
      clear Hcall
      go_wp2_with (at_builtin; refine wpList_append_page rfl (.tmp 17) (.tmp 26) 92 rfl w.heap.size 3 Tryz.underlying92 infoInt _ ((szI es).take k) (by rfl) ((hown.out.alloc _).alloc _) (wr.heap.size + 1) 1 (S : Int) (by rfl) (by simp) (by rw [Htl.out]; omega) (by simp; omega) ?_; intro v' w2 hown2 hgrow2)
      have hb2 : Hid (Below w.heap.size w w2) := ((hB.out.alloc hsz _).alloc (by simp; omega) _).grown hgrow2.out (by simp; omega) (fun j hj => (hown.out.lt j hj).1)
      have ho2 : Hid (w2.ownsRow w.heap.size 3 1 v' ((szI es).take (k + 1)).length (iv ((szI es).take (k + 1)))) := by rw [Htk.out]; exact hown2
      clear hown2 hgrow2 hown hB
      go_wp2
      go_roundw
      case rel => exact ⟨k + 1, v', by go_num, rfl, by omega, ho2, hb2⟩
      case measure => simp [intOf]; omega
    · obtain rfl : k = n := by omega
      have ho := hown.out
      rw [List.take_of_length_le (by rw [szI_len, Hn.out]; exact Nat.le_refl _)] at ho
      have hcl := Lib.hid (own_pages ho)
      have q1 := (H1.out.ext hB.out).c2
      clear ho hown
      go_wp2_with fail
      go_loopw [3, 7, 34] (fun lv _ i wr2 => lv = v ∧ i = .int .i64 0 ∧ wr = wr2) (fun _ _ _ _ => 0)
      case atStart => exact ⟨rfl, rfl, by first | trivial | rfl⟩
      case round =>
        obtain ⟨rfl, rfl, rfl⟩ := hrel
        go_wp2
        go_ret
        exact ⟨_, rfl, hcl.out, hB.out⟩
set_option maxRecDepth 100000 in
theorem sizes_bran (b : Nat) (ks : List ByteArray) (ps : List Nat) (w : World) (hb : Bran w b ks ps) (hl : ks.length ≤ 1000000) (hok : ∀ x ∈ ks, okK x = true) : Calls Tryz.prog 87 #[pt b] w fun e w' => ∃ v, e = .returned v ∧ PgV w' v (ksI ks) ∧ Below w.heap.size w w' := by
  obtain ⟨vk, vp, h1, ⟨a, c, rfl, hs, _⟩, _⟩ := hb
  have H1 := Lib.hid h1
  have Hs := Lib.hid hs.texts
  have Hok := Lib.hid hok
  have q0 := h1.c1
  have q1 := h1.c2
  have HN : ∃ n, ks.length = n := ⟨_, rfl⟩
  obtain ⟨n, hn⟩ := HN
  have Hn := Lib.hid hn
  rw [hn] at q1 hl
  clear h1 hs hok hn
  go_enter Tryz.func87, Tryz.ntmps87
  go_wp2_with fail
  go_loopw [3, 5, 13] (fun lv _ i wr => lv = nilS ∧ i = .int .i64 0 ∧ w = wr) (fun _ _ _ _ => 0)
  case atStart => exact ⟨rfl, rfl, by first | trivial | rfl⟩
  case round =>
    obtain ⟨rfl, rfl, rfl⟩ := hrel
    go_wp2_with fail
    go_loopw [3, 7, 34] (fun lv _ i wr => ∃ (k : Nat) (v : Value), i = .int .i64 k ∧ lv = v ∧ k ≤ n ∧ Hid (wr.ownsRow w.heap.size 3 1 v ((ksI ks).take k).length (iv ((ksI ks).take k))) ∧ Hid (Below w.heap.size w wr)) (fun _ _ i _ => n - (intOf i).toNat)
    case atStart => exact ⟨0, nilS, rfl, rfl, by omega, World.ownsRow_nil w w.heap.size 3 1, Below.refl _ _⟩
    case round =>
      obtain ⟨k, v, rfl, rfl, hk, hown, hB⟩ := hrel
      by_cases hlt : k < n
      · obtain ⟨g, o, rfl, hcell⟩ := (Hs.out.below hB.out (Nat.le_refl _)) (by rw [Hn.out]; omega)
        have p0 := hcell k (by rw [Hn.out]; exact hlt)
        have Htk := Lib.hid (ksI_take ks k (by rw [Hn.out]; exact hlt))
        have hsz := hB.out.size
        have Htl : Hid (((ksI ks).take k).length = k) := by show _ = _; rw [List.length_take, ksI_len, Hn.out]; omega
        have hoke := Hok.out (sa ks k) (by unfold sa; rw [List.getD_eq_getElem?_getD, List.getElem?_eq_getElem (by rw [Hn.out]; exact hlt)]; exact List.getElem_mem _)
        have hks := okK_size hoke
        have Hcall := Lib.hid (brSizeW_any (some ⟨wr.heap.size, 0, none⟩) 1 1 [sa ks k] (wr.alloc (.cells #[.string (sa ks k)] 9)) rfl (fun _ => ⟨wr.heap.size, 0, rfl, fun i hi => by have h0 : i = 0 := Nat.lt_one_iff.1 hi; subst h0; simp [sa]⟩) (by omega) (fun i hi => by
          have h0 : i = 0 := Nat.lt_one_iff.1 hi
          subst h0
          exact ⟨hoke, by rw [lastK, if_pos rfl]; exact blt_empty (okK_size hoke).1⟩))
        have e1 : Hid (((sizeTo [sa ks k] 1 : Nat) : Int) = ((5 + (sa ks k).size : Nat) : Int)) := by show _ = _; rw [sizeTo, sizeTo]; show ((2 + (3 + (sa [sa ks k] 0).size) : Nat) : Int) = _; rw [show sa [sa ks k] 0 = sa ks k from rfl]; omega
        rw [e1.out] at Hcall
        have Hcall2 := fun w => brSizeW_any none 0 0 [] w rfl (TxS.nil _ _) (by omega) (fun i hi => by simp at hi)
        have Hcall2 := Lib.hid Hcall2
        rw [show ((sizeTo [] 0 : Nat) : Int) = 2 from rfl] at Hcall2
        clear hcell hoke e1
        generalize sa ks k = y at *
        obtain ⟨S, hS⟩ : ∃ S, S = 3 + y.size := ⟨_, rfl⟩
        obtain ⟨S5, hS5⟩ : ∃ S5, S5 = 5 + y.size := ⟨_, rfl⟩
        rw [← hS] at Htk
        rw [← hS5] at Hcall
        have z1 : IntKind.i64.wrap ((S5 : Int) - 2) = (S : Int) := by rw [IntKind.wrap_i64]; omega
        clear hS hS5
        go_wp2_with fail
        refine Hcall.out.mono ?_
        rintro e w' ⟨rfl, rfl⟩
        clear Hcall
        go_wp2_with fail
        refine (Hcall2.out _).mono ?_
        rintro e w' ⟨rfl, rfl⟩
        clear Hcall2
        go_wp2_with (at_builtin; refine wpList_append_page rfl (.tmp 38) (.tmp 44) 92 rfl w.heap.size 3 Tryz.underlying92 infoInt _ ((ksI ks).take k) (by rfl) ((hown.out.alloc _).alloc _) (wr.heap.size + 1) 1 (S : Int) (by rfl) (by simp) (by rw [Htl.out]; omega) (by simp; omega) ?_; intro v' w2 hown2 hgrow2)
        have hb2 : Hid (Below w.heap.size w w2) := ((hB.out.alloc hsz _).alloc (by simp; omega) _).grown hgrow2.out (by simp; omega) (fun j hj => (hown.out.lt j hj).1)
        have ho2 : Hid (w2.ownsRow w.heap.size 3 1 v' ((ksI ks).take (k + 1)).length (iv ((ksI ks).take (k + 1)))) := by rw [Htk.out]; exact hown2
        clear hown2 hgrow2 hown hB
        go_wp2
        go_roundw
        case rel => exact ⟨k + 1, v', by go_num, rfl, by omega, ho2, hb2⟩
        case measure => simp [intOf]; omega
      · obtain rfl : k = n := by omega
        have ho := hown.out
        rw [List.take_of_length_le (by rw [ksI_len, Hn.out]; exact Nat.le_refl _)] at ho
        have hcl := Lib.hid (own_pages ho)
        clear ho hown
        go_wp2
        go_ret
        exact ⟨_, rfl, hcl.out, hB.out⟩
/-- Sums of such lists. -/
theorem szI_ok {es : List En} (h : ∀ x ∈ es, okE x) : okTo (szI es) es.length := fun i hi => by
  rw [szI_at es i hi, okI_iff]
  have := szE_range (h _ (ea_mem hi))
  omega
theorem ksI_ok {ks : List ByteArray} (h : ∀ x ∈ ks, okK x = true) : okTo (ksI ks) ks.length := fun i hi => by
  rw [ksI_at ks i hi, okI_iff]
  have h1 : sa ks i ∈ ks := by unfold sa; rw [List.getD_eq_getElem?_getD, List.getElem?_eq_getElem hi]; exact List.getElem_mem _
  have := okK_size (h _ h1)
  omega
set_option maxRecDepth 100000 in
theorem size_sum (b m n : Nat) (l : List Int) (w : World) (hn : l.length = n) (hl : n ≤ 1000000) (hok : okTo l n) (hm : m ≤ 100)
    (h1 : ∀ w', Below w.heap.size w w' → Calls Tryz.prog 88 #[pt b] w' fun e w'' => e = .returned (.int .i64 m) ∧ w' = w'')
    (h2 : ∀ w', Below w.heap.size w w' → Calls Tryz.prog 87 #[pt b] w' fun e w'' => ∃ v, e = .returned v ∧ PgV w'' v l ∧ Below w'.heap.size w' w'') :
    Calls Tryz.prog 81 #[pt b] w fun e w' => e = .returned (.int .i64 ((m : Int) + pf l n)) ∧ Below w.heap.size w w' := by
  have H1 := Lib.hid (h1 w (Below.refl _ _))
  have H2 := Lib.hid (h2 w (Below.refl _ _))
  have Hok := Lib.hid hok
  have Hn := Lib.hid hn
  clear h1 h2 hok hn
  go_enter Tryz.func81, Tryz.ntmps81
  go_wp2_with fail
  refine H1.out.mono ?_
  rintro e w' ⟨rfl, rfl⟩
  clear H1
  go_wp2_with fail
  refine H2.out.mono ?_
  rintro e w1 ⟨v, rfl, ⟨a, c, rfl, hs, _⟩, hb⟩
  have Hs := Lib.hid hs
  have Hb := Lib.hid hb
  rw [Hn.out]
  clear hs hb H2
  go_wp2_with fail
  go_loopw [3, 5, 11] (fun s _ i wr => ∃ k t : Nat, s = .int .i64 t ∧ i = .int .i64 k ∧ k ≤ n ∧ t ≤ m + 1024 * k ∧ Hid ((t : Int) = (m : Int) + pf l k) ∧ w1 = wr) (fun _ _ i _ => n - (intOf i).toNat)
  case atStart => exact ⟨0, m, rfl, rfl, by omega, by omega, by show _ = _; rw [pf_zero]; omega, by first | trivial | rfl⟩
  case round =>
    obtain ⟨k, t, rfl, rfl, hk, ht, hts, rfl⟩ := hrel
    by_cases hlt : k < n
    · obtain ⟨g, o, rfl, hcell⟩ := Hs.out (by rw [Hn.out]; omega)
      have q0 := hcell k (by rw [Hn.out]; exact hlt)
      have h1 := (okI_iff _).1 (Hok.out k hlt)
      have h5 : Hid ((t : Int) + ia l k = (m : Int) + pf l (k + 1)) := by show _ = _; rw [pf_succ, hts.out]; omega
      obtain ⟨x, hx⟩ := Int.eq_ofNat_of_zero_le h1.1
      rw [hx] at q0 h1 h5
      have h6 : x ≤ 1024 := by omega
      clear hcell hts hx h1
      go_wp2
      go_roundw
      case rel => exact ⟨k + 1, t + x, by go_num, by go_num, by omega, by omega, by show _ = _; rw [← h5.out]; omega, by first | trivial | rfl⟩
      case measure => simp [intOf]; omega
    · obtain rfl : k = n := by omega
      go_wp2
      go_ret
      exact ⟨by rw [← hts.out]; rfl, Hb.out⟩
theorem size_leaf (b : Nat) (es : List En) (w : World) (hb : Leaf w b es) (hl : es.length ≤ 1000000) (hok : ∀ x ∈ es, okE x) : Calls Tryz.prog 81 #[pt b] w fun e w' => e = .returned (.int .i64 (leafSz es : Nat)) ∧ Below w.heap.size w w' := by
  have hv := vs_le (show es.length < 18446744073709551616 by omega)
  refine (size_sum b (vs es.length) es.length (szI es) w (szI_len es) hl (szI_ok hok) (by omega) (fun w' hw => besides_leaf b es w' (hb.ext hw) hl) (fun w' hw => sizes_leaf b es w' (hb.ext hw) hl hok)).mono ?_
  rintro e w' ⟨rfl, h⟩
  refine ⟨?_, h⟩
  rw [pf_szI, List.take_of_length_le (Nat.le_refl _)]
  unfold leafSz
  rw [show ((vs es.length + szs es : Nat) : Int) = (vs es.length : Int) + (szs es : Int) by omega]
theorem size_bran (b : Nat) (ks : List ByteArray) (ps : List Nat) (w : World) (hb : Bran w b ks ps) (hp : 0 < ps.length) (hl : ks.length ≤ 1000000) (hok : ∀ x ∈ ks, okK x = true) : Calls Tryz.prog 81 #[pt b] w fun e w' => e = .returned (.int .i64 (brSz ks : Nat)) ∧ Below w.heap.size w w' := by
  refine (size_sum b 2 ks.length (ksI ks) w (ksI_len ks) hl (ksI_ok hok) (by omega) (fun w' hw => besides_bran b ks ps w' (hb.ext hw) hp) (fun w' hw => sizes_bran b ks ps w' (hb.ext hw) hl hok)).mono ?_
  rintro e w' ⟨rfl, h⟩
  refine ⟨?_, h⟩
  rw [pf_ksI, List.take_of_length_le (Nat.le_refl _)]
  unfold brSz
  rw [show ((2 + kss ks : Nat) : Int) = ((2 : Nat) : Int) + (kss ks : Int) by omega]
theorem size_node {h : Nat} {lo hi : SB} {b : Nat} {es : List En} {s : Nat} (w : World) (hn : Nd w h lo hi b es s) (hs : s ≤ 100000) : Calls Tryz.prog 81 #[pt b] w fun e w' => e = .returned (.int .i64 (s : Nat)) ∧ Below w.heap.size w w' := by
  cases h with
  | zero =>
    obtain ⟨h1, _, _, h4, rfl⟩ := hn
    have hok := fun x hx => (h4 x hx).1
    have h5 := szs_range hok
    exact size_leaf b es w h1 (by unfold leafSz at hs; omega) hok
  | succ h =>
    obtain ⟨ks, ps, ess, h1, h2, _, rfl⟩ := hn
    have hok := (h2.facts Good.facts).2.2.2
    have h5 := kss_range hok
    exact size_bran b ks ps w h1 (by have := h2.len; omega) (by unfold brSz at hs; omega) hok
end Go.Proofs.YtbgkjniagedcnaaGreatDoor
