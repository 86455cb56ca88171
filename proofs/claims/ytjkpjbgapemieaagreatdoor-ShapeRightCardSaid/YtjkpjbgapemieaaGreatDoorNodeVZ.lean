/-
  A node in a block of type tree.Node (a copy of one): isLeaf, besides, sizes, size of it. Written by mknodev.py out of XNode2.
  slices.Clone at entries, and at texts.
  A node as a value; tree's Root, and IsLeaf, Size, Cells, Keys of a node.
  tree's Root, and Kids of a node.
-/
import Derived.Test.YtjkpjbgapemieaaGreatDoorNode2Z
import Derived.Test.YtjkpjbgapemieaaGreatDoorNodeZ
import Derived.Test.YtjkpjbgapemieaaGreatDoorTurnZ
import Derived.WalkKit
import Derived.Below
import Derived.Lib.Hide
import Derived.Lib.AppendZerosOnto
import Derived.Lib.SliceRun
import Derived.Test.YtjkpjbgapemieaaGreatDoorTreeZ
import Derived.Test.YtjkpjbgapemieaaGreatDoorReplZ
import Derived.Laws.ResultCell
namespace Go.Proofs.YtjkpjbgapemieaaGreatDoor
open Go Go.RowKit

abbrev VT : TypeId := 78
/-- A block that holds a node. -/
def NV (w : World) (b : Nat) (vc vk vp : Value) : Prop := w.heap[b]? = some (.cells #[vc, vk, vp] VT (0, 0))
theorem NV.c0 {w : World} {b : Nat} {vc vk vp : Value} (h : NV w b vc vk vp) : w.cell? ⟨b, 0, none⟩ = some vc := by
  have h' : w.heap[b]? = _ := h
  simp [World.cell?, h']
theorem NV.c1 {w : World} {b : Nat} {vc vk vp : Value} (h : NV w b vc vk vp) : w.cell? ⟨b, 1, none⟩ = some vk := by
  have h' : w.heap[b]? = _ := h
  simp [World.cell?, h']
theorem NV.c2 {w : World} {b : Nat} {vc vk vp : Value} (h : NV w b vc vk vp) : w.cell? ⟨b, 2, none⟩ = some vp := by
  have h' : w.heap[b]? = _ := h
  simp [World.cell?, h']
theorem NV.lt {w : World} {b : Nat} {vc vk vp : Value} (h : NV w b vc vk vp) : b < w.heap.size := (Array.getElem?_eq_some_iff.1 h).1
theorem NV.new (w : World) (vc vk vp : Value) : NV (w.alloc (.cells #[vc, vk, vp] VT)) w.heap.size vc vk vp := by
  show (w.heap.push _)[w.heap.size]? = _; rw [Array.getElem?_push_size]
theorem NV.ext {w w' : World} {b : Nat} {vc vk vp : Value} (h : NV w b vc vk vp) (hb : Below w.heap.size w w') : NV w' b vc vk vp := (hb.block b h.lt).trans h
def LeafV (w : World) (b : Nat) (es : List En) : Prop := ∃ vc, NV w b vc nilS nilS ∧ EV entE w vc es
def BranV (w : World) (b : Nat) (ks : List ByteArray) (ps : List Nat) : Prop := ∃ vk vp, NV w b nilS vk vp ∧ EV strE w vk ks ∧ EV ptrE w vp ps
theorem LeafV.ext {w w' : World} {b : Nat} {es : List En} (h : LeafV w b es) (hb : Below w.heap.size w w') : LeafV w' b es := by
  obtain ⟨vc, h1, h2⟩ := h
  exact ⟨vc, h1.ext hb, h2.ext hb⟩
theorem BranV.ext {w w' : World} {b : Nat} {ks : List ByteArray} {ps : List Nat} (h : BranV w b ks ps) (hb : Below w.heap.size w w') : BranV w' b ks ps := by
  obtain ⟨vk, vp, h1, h2, h3⟩ := h
  exact ⟨vk, vp, h1.ext hb, h2.ext hb, h3.ext hb⟩
theorem isLeaf_yesV (b : Nat) (vc vk : Value) (w : World) (hb : NV w b vc vk nilS) : Calls Tryz.prog 31 #[pt b] w fun e w' => e = .returned (.bool true) ∧ w = w' := by
  have q2 := hb.c2
  clear hb
  go_enter Tryz.func31, Tryz.ntmps31
  go_wp2
  go_ret
  exact ⟨rfl, rfl⟩
theorem isLeaf_noV (b : Nat) (vc vk : Value) (a : Option Addr) (n c : Nat) (w : World) (hb : NV w b vc vk (.slice a n c)) (h0 : 0 < n) : Calls Tryz.prog 31 #[pt b] w fun e w' => e = .returned (.bool false) ∧ w = w' := by
  have q2 := hb.c2
  have d1 : ((n : Int) == 0) = false := by rw [beq_eq_false_iff_ne]; omega
  clear hb
  go_enter Tryz.func31, Tryz.ntmps31
  go_wp2
  go_ret
  exact ⟨rfl, rfl⟩
theorem besides_leafV (b : Nat) (es : List En) (w : World) (hb : LeafV w b es) (hl : es.length ≤ 1000000) : Calls Tryz.prog 86 #[pt b] w fun e w' => e = .returned (.int .i64 (vs es.length : Nat)) ∧ w = w' := by
  obtain ⟨vc, h1, a, c, rfl, _⟩ := hb
  have q0 := h1.c0
  have hi := Lib.hid (isLeaf_yesV b _ _ w h1)
  have hs := Lib.hid (size_any es.length w (by omega))
  have z1 : IntKind.u64.wrap (es.length : Int) = (es.length : Int) := by rw [IntKind.wrap_u64]; omega
  clear h1
  generalize es.length = n at *
  go_enter Tryz.func86, Tryz.ntmps86
  go_wp2_with fail
  refine hi.out.mono ?_
  rintro e w' ⟨rfl, rfl⟩
  go_wp2_with fail
  refine hs.out.mono ?_
  rintro e w' ⟨rfl, rfl⟩
  go_wp2
  go_ret
  exact ⟨rfl, rfl⟩
theorem besides_branV (b : Nat) (ks : List ByteArray) (ps : List Nat) (w : World) (hb : BranV w b ks ps) (hl : 0 < ps.length) : Calls Tryz.prog 86 #[pt b] w fun e w' => e = .returned (.int .i64 2) ∧ w = w' := by
  obtain ⟨vk, vp, h1, _, a, c, rfl, _⟩ := hb
  have hi := Lib.hid (isLeaf_noV b _ _ _ _ _ w h1 hl)
  have hs := Lib.hid (brSizeW_any none 0 0 [] w rfl (TxS.nil _ _) (by omega) (fun i hi => by simp at hi))
  rw [show ((sizeTo [] 0 : Nat) : Int) = 2 from rfl] at hs
  clear h1
  go_enter Tryz.func86, Tryz.ntmps86
  go_wp2_with fail
  refine hi.out.mono ?_
  rintro e w' ⟨rfl, rfl⟩
  go_wp2_with fail
  refine hs.out.mono ?_
  rintro e w' ⟨rfl, rfl⟩
  go_wp2
  go_ret
  exact ⟨rfl, rfl⟩
set_option maxRecDepth 100000 in
theorem sizes_leafV (b : Nat) (es : List En) (w : World) (hb : LeafV w b es) (hl : es.length ≤ 1000000) (hok : ∀ x ∈ es, okE x) : Calls Tryz.prog 85 #[pt b] w fun e w' => ∃ v, e = .returned v ∧ PgV w' v (szI es) ∧ Below w.heap.size w w' := by
  obtain ⟨vc, h1, a, c, rfl, hs, _⟩ := hb
  have H1 := Lib.hid h1
  have Hs := Lib.hid hs
  have Hok := Lib.hid hok
  have q0 := h1.c0
  have HN : ∃ n, es.length = n := ⟨_, rfl⟩
  obtain ⟨n, hn⟩ := HN
  have Hn := Lib.hid hn
  rw [hn] at q0 hl
  clear h1 hs hok hn
  go_enter Tryz.func85, Tryz.ntmps85
  go_wp2_with fail
  go_loopw [3, 5, 13] (fun lv _ i wr => ∃ (k : Nat) (v : Value), i = .int .i64 k ∧ v = lv ∧ k ≤ n ∧ Hid (wr.ownsRow w.heap.size 3 1 v ((szI es).take k).length (iv ((szI es).take k))) ∧ Hid (Below w.heap.size w wr)) (fun _ _ i _ => n - (intOf i).toNat)
  case atStart => exact ⟨0, nilS, rfl, rfl, by omega, World.ownsRow_nil w w.heap.size 3 1, Below.refl _ _⟩
  case round =>
    obtain ⟨k, v, rfl, rfl, hk, hown, hB⟩ := hrel
    by_cases hlt : k < n
    · obtain ⟨g, o, rfl, hcell⟩ := (Hs.out.below hB.out (Nat.le_refl _)).ents (by rw [Hn.out]; omega)
      obtain ⟨p0, p1⟩ := hcell k (by rw [Hn.out]; exact hlt)
      have Htk := Lib.hid (szI_take es k (by rw [Hn.out]; exact hlt))
      have hsz := hB.out.size
      have Htl : Hid (((szI es).take k).length = k) := by show _ = _; rw [List.length_take, szI_len, Hn.out]; omega
      have hoke := Hok.out (ea es k) (ea_mem (by rw [Hn.out]; exact hlt))
      have hks := okK_size hoke.1
      have hvs := hoke.2
      have hsr := (szE_range hoke).2
      have Hcall := Lib.hid (leafSize_any (ea es k).k (ea es k).v.size (wr.alloc (.cells #[.string (ea es k).k, .string (ea es k).v] ET)) (by omega) (by omega))
      have e1 : Hid (sizeS (ea es k).k ((ea es k).v.size : Int) = szE (ea es k)) := rfl
      rw [e1.out] at Hcall
      generalize szE (ea es k) = S at *
      generalize ea es k = y at *
      obtain ⟨yk, yv⟩ := y
      dsimp only at p0 p1 Hcall hks hvs
      clear hcell hoke e1
      go_wp2_with fail
      refine Hcall.out.mono ?_
      rintro e w' ⟨rfl, rfl⟩
      clear Hcall
      go_wp2_with (at_builtin; refine wpList_append_page rfl (.tmp 17) (.tmp 24) 151 rfl w.heap.size 3 Tryz.underlying151 infoInt _ ((szI es).take k) (by rfl) ((hown.out.alloc _).alloc _) (wr.heap.size + 1) 1 (S : Int) (by rfl) (by simp) (by rw [Htl.out]; omega) (by simp; omega) ?_; intro v' w2 hown2 hgrow2)
      have hb2 : Hid (Below w.heap.size w w2) := ((hB.out.alloc hsz _).alloc (by simp; omega) _).grown hgrow2.out (by simp; omega) (fun j hj => (hown.out.lt j hj).1)
      have ho2 : Hid (w2.ownsRow w.heap.size 3 1 v' ((szI es).take (k + 1)).length (iv ((szI es).take (k + 1)))) := by rw [Htk.out]; exact hown2
      clear hown2 hgrow2 hown hB
      go_wp2
      go_roundw
      case rel => exact ⟨k + 1, v', by go_num, rfl, by omega, ho2, hb2⟩
      case measure => simp [intOf]; omega
    · obtain rfl : k = n := by omega
      have ho := hown.out
      rw [List.take_of_length_le (by rw [szI_len, Hn.out]; exact Nat.le_refl _)] at ho
      have hcl := Lib.hid (own_pages ho)
      have q1 := (H1.out.ext hB.out).c1
      clear ho hown
      go_wp2_with fail
      go_loopw [3, 7, 32] (fun lv _ i wr2 => lv = v ∧ i = .int .i64 0 ∧ wr = wr2) (fun _ _ _ _ => 0)
      case atStart => exact ⟨rfl, rfl, by first | trivial | rfl⟩
      case round =>
        obtain ⟨rfl, rfl, rfl⟩ := hrel
        go_wp2
        go_ret
        exact ⟨_, rfl, hcl.out, hB.out⟩
set_option maxRecDepth 100000 in
theorem sizes_branV (b : Nat) (ks : List ByteArray) (ps : List Nat) (w : World) (hb : BranV w b ks ps) (hl : ks.length ≤ 1000000) (hok : ∀ x ∈ ks, okK x = true) : Calls Tryz.prog 85 #[pt b] w fun e w' => ∃ v, e = .returned v ∧ PgV w' v (ksI ks) ∧ Below w.heap.size w w' := by
  obtain ⟨vk, vp, h1, ⟨a, c, rfl, hs, _⟩, _⟩ := hb
  have H1 := Lib.hid h1
  have Hs := Lib.hid hs.texts
  have Hok := Lib.hid hok
  have q0 := h1.c0
  have q1 := h1.c1
  have HN : ∃ n, ks.length = n := ⟨_, rfl⟩
  obtain ⟨n, hn⟩ := HN
  have Hn := Lib.hid hn
  rw [hn] at q1 hl
  clear h1 hs hok hn
  go_enter Tryz.func85, Tryz.ntmps85
  go_wp2_with fail
  go_loopw [3, 5, 13] (fun lv _ i wr => lv = nilS ∧ i = .int .i64 0 ∧ w = wr) (fun _ _ _ _ => 0)
  case atStart => exact ⟨rfl, rfl, by first | trivial | rfl⟩
  case round =>
    obtain ⟨rfl, rfl, rfl⟩ := hrel
    go_wp2_with fail
    go_loopw [3, 7, 32] (fun lv _ i wr => ∃ (k : Nat) (v : Value), i = .int .i64 k ∧ lv = v ∧ k ≤ n ∧ Hid (wr.ownsRow w.heap.size 3 1 v ((ksI ks).take k).length (iv ((ksI ks).take k))) ∧ Hid (Below w.heap.size w wr)) (fun _ _ i _ => n - (intOf i).toNat)
    case atStart => exact ⟨0, nilS, rfl, rfl, by omega, World.ownsRow_nil w w.heap.size 3 1, Below.refl _ _⟩
    case round =>
      obtain ⟨k, v, rfl, rfl, hk, hown, hB⟩ := hrel
      by_cases hlt : k < n
      · obtain ⟨g, o, rfl, hcell⟩ := (Hs.out.below hB.out (Nat.le_refl _)) (by rw [Hn.out]; omega)
        have p0 := hcell k (by rw [Hn.out]; exact hlt)
        have Htk := Lib.hid (ksI_take ks k (by rw [Hn.out]; exact hlt))
        have hsz := hB.out.size
        have Htl : Hid (((ksI ks).take k).length = k) := by show _ = _; rw [List.length_take, ksI_len, Hn.out]; omega
        have hoke := Hok.out (sa ks k) (by unfold sa; rw [List.getD_eq_getElem?_getD, List.getElem?_eq_getElem (by rw [Hn.out]; exact hlt)]; exact List.getElem_mem _)
        have hks := okK_size hoke
        have Hcall := Lib.hid (brSizeW_any (some ⟨wr.heap.size, 0, none⟩) 1 1 [sa ks k] (wr.alloc (.cells #[.string (sa ks k)] 9)) rfl (fun _ => ⟨wr.heap.size, 0, rfl, fun i hi => by have h0 : i = 0 := Nat.lt_one_iff.1 hi; subst h0; simp [sa]⟩) (by omega) (fun i hi => by
          have h0 : i = 0 := Nat.lt_one_iff.1 hi
          subst h0
          exact ⟨hoke, by rw [lastK, if_pos rfl]; exact blt_empty (okK_size hoke).1⟩))
        have e1 : Hid (((sizeTo [sa ks k] 1 : Nat) : Int) = ((5 + (sa ks k).size : Nat) : Int)) := by show _ = _; rw [sizeTo, sizeTo]; show ((2 + (3 + (sa [sa ks k] 0).size) : Nat) : Int) = _; rw [show sa [sa ks k] 0 = sa ks k from rfl]; omega
        rw [e1.out] at Hcall
        have Hcall2 := fun w => brSizeW_any none 0 0 [] w rfl (TxS.nil _ _) (by omega) (fun i hi => by simp at hi)
        have Hcall2 := Lib.hid Hcall2
        rw [show ((sizeTo [] 0 : Nat) : Int) = 2 from rfl] at Hcall2
        clear hcell hoke e1
        generalize sa ks k = y at *
        obtain ⟨S, hS⟩ : ∃ S, S = 3 + y.size := ⟨_, rfl⟩
        obtain ⟨S5, hS5⟩ : ∃ S5, S5 = 5 + y.size := ⟨_, rfl⟩
        rw [← hS] at Htk
        rw [← hS5] at Hcall
        have z1 : IntKind.i64.wrap ((S5 : Int) - 2) = (S : Int) := by rw [IntKind.wrap_i64]; omega
        clear hS hS5
        go_wp2_with fail
        refine Hcall.out.mono ?_
        rintro e w' ⟨rfl, rfl⟩
        clear Hcall
        go_wp2_with fail
        refine (Hcall2.out _).mono ?_
        rintro e w' ⟨rfl, rfl⟩
        clear Hcall2
        go_wp2_with (at_builtin; refine wpList_append_page rfl (.tmp 36) (.tmp 42) 151 rfl w.heap.size 3 Tryz.underlying151 infoInt _ ((ksI ks).take k) (by rfl) ((hown.out.alloc _).alloc _) (wr.heap.size + 1) 1 (S : Int) (by rfl) (by simp) (by rw [Htl.out]; omega) (by simp; omega) ?_; intro v' w2 hown2 hgrow2)
        have hb2 : Hid (Below w.heap.size w w2) := ((hB.out.alloc hsz _).alloc (by simp; omega) _).grown hgrow2.out (by simp; omega) (fun j hj => (hown.out.lt j hj).1)
        have ho2 : Hid (w2.ownsRow w.heap.size 3 1 v' ((ksI ks).take (k + 1)).length (iv ((ksI ks).take (k + 1)))) := by rw [Htk.out]; exact hown2
        clear hown2 hgrow2 hown hB
        go_wp2
        go_roundw
        case rel => exact ⟨k + 1, v', by go_num, rfl, by omega, ho2, hb2⟩
        case measure => simp [intOf]; omega
      · obtain rfl : k = n := by omega
        have ho := hown.out
        rw [List.take_of_length_le (by rw [ksI_len, Hn.out]; exact Nat.le_refl _)] at ho
        have hcl := Lib.hid (own_pages ho)
        clear ho hown
        go_wp2
        go_ret
        exact ⟨_, rfl, hcl.out, hB.out⟩
theorem size_leafV (b : Nat) (es : List En) (w : World) (hb : LeafV w b es) (hl : es.length ≤ 1000000) (hok : ∀ x ∈ es, okE x) : Calls Tryz.prog 78 #[pt b] w fun e w' => e = .returned (.int .i64 (leafSz es : Nat)) ∧ Below w.heap.size w w' := by
  have hv := vs_le (show es.length < 18446744073709551616 by omega)
  refine (size_sum b (vs es.length) es.length (szI es) w (szI_len es) hl (szI_ok hok) (by omega) (fun w' hw => besides_leafV b es w' (hb.ext hw) hl) (fun w' hw => sizes_leafV b es w' (hb.ext hw) hl hok)).mono ?_
  rintro e w' ⟨rfl, h⟩
  refine ⟨?_, h⟩
  rw [pf_szI, List.take_of_length_le (Nat.le_refl _)]
  unfold leafSz
  rw [show ((vs es.length + szs es : Nat) : Int) = (vs es.length : Int) + (szs es : Int) by omega]
theorem size_branV (b : Nat) (ks : List ByteArray) (ps : List Nat) (w : World) (hb : BranV w b ks ps) (hp : 0 < ps.length) (hl : ks.length ≤ 1000000) (hok : ∀ x ∈ ks, okK x = true) : Calls Tryz.prog 78 #[pt b] w fun e w' => e = .returned (.int .i64 (brSz ks : Nat)) ∧ Below w.heap.size w w' := by
  refine (size_sum b 2 ks.length (ksI ks) w (ksI_len ks) hl (ksI_ok hok) (by omega) (fun w' hw => besides_branV b ks ps w' (hb.ext hw) hp) (fun w' hw => sizes_branV b ks ps w' (hb.ext hw) hl hok)).mono ?_
  rintro e w' ⟨rfl, h⟩
  refine ⟨?_, h⟩
  rw [pf_ksI, List.take_of_length_le (Nat.le_refl _)]
  unfold brSz
  rw [show ((2 + kss ks : Nat) : Int) = ((2 : Nat) : Int) + (kss ks : Int) by omega]
end Go.Proofs.YtjkpjbgapemieaaGreatDoor
namespace Go.Proofs.YtjkpjbgapemieaaGreatDoor
open Go Go.RowKit

theorem own_no {α : Type} (E : Elt α) (w : World) (T : TypeId) : (w.alloc (.cells #[] T)).ownsRow w.heap.size T E.sz (.slice (some ⟨w.heap.size, 0, none⟩) 0 0) 0 (E.row []) := by
  refine ⟨by simp [Elt.row], .inr ⟨w.heap.size, 0, #[], rfl, Nat.le_refl _, ?_, Nat.le_refl _, by unfold maxLen; omega, by simp, by simp [Elt.row]⟩⟩
  show (w.heap.push _)[w.heap.size]? = _; rw [Array.getElem?_push_size]
set_option maxRecDepth 100000 in
theorem cloneE_any (v : Value) (l : List En) (w : World) (hv : EV entE w v l) (hl : l.length ≤ 1000000) :
    Calls Tryz.prog 80 #[v] w fun e w' => ∃ u, e = .returned u ∧ EV entE w' u l ∧ Below w.heap.size w w' := by
  obtain ⟨a, c, rfl, hs, hz, hc, hm⟩ := hv
  have q22 : ∀ (w : World) (a : Option Addr) (n c n' c' : Nat), (binOp .eql 31 (.slice a n c) (.slice none n' c')).run Tryz.prog w = .ok (.bool a.isNone) w := fun w a n c n' c' => Lib.run_eql_slice_nil w _ _ a n c n' c' Tryz.underlying31
  cases a with
  | none =>
    obtain rfl : l = [] := by
      rcases hs with ⟨_, h⟩ | ⟨g, o, h, _⟩
      · exact h
      · cases h
    have hcz := hz rfl
    clear hs hz hc hm
    go_enter Tryz.func80, Tryz.ntmps80
    go_wp2
    go_ret
    exact ⟨_, rfl, EV.none _, Below.refl _ _⟩
  | some ad =>
    have hb1 : Below w.heap.size w (w.alloc (.cells #[] ET)) := (Below.refl _ _).alloc (Nat.le_refl _) _
    obtain ⟨v1, w1, hrun, hb2, ho⟩ := run_app_own (P := Tryz.prog) (w := w.alloc (.cells #[] ET)) (E := entE) w.heap.size 31 31 ET Tryz.underlying31 infoE _ 0 [] (own_no entE w ET) hb1.size (some ad) l.length c l rfl (fun h => by cases h) (hs.below hb1 (Nat.le_refl _)) (by unfold maxLen; omega) (by show _ * 32 ≤ _; omega)
    rw [List.nil_append, Nat.zero_add] at ho
    have Ho := Lib.hid (own_ev (T := ET) ho)
    have HB := Lib.hid (hb1.trans hb2)
    obtain ⟨n, hn⟩ : ∃ n, l.length = n := ⟨_, rfl⟩
    rw [hn] at hrun ⊢
    clear hs hz hc hm hb1 hb2 ho hn hl
    go_enter Tryz.func80, Tryz.ntmps80
    go_wp2_with (at_builtin; refine Lib.wpList_append_run _ rfl (.tmp 5) (.tmp 6) _ _ rfl _ _ (by rfl) (by rfl) _ _ hrun ?_)
    go_ret
    exact ⟨_, rfl, Ho.out, HB.out⟩
set_option maxRecDepth 100000 in
theorem cloneS_any (v : Value) (l : List ByteArray) (w : World) (hv : EV strE w v l) (hl : l.length ≤ 1000000) :
    Calls Tryz.prog 82 #[v] w fun e w' => ∃ u, e = .returned u ∧ EV strE w' u l ∧ Below w.heap.size w w' := by
  obtain ⟨a, c, rfl, hs, hz, hc, hm⟩ := hv
  have q22 : ∀ (w : World) (a : Option Addr) (n c n' c' : Nat), (binOp .eql 72 (.slice a n c) (.slice none n' c')).run Tryz.prog w = .ok (.bool a.isNone) w := fun w a n c n' c' => Lib.run_eql_slice_nil w _ _ a n c n' c' Tryz.underlying72
  cases a with
  | none =>
    obtain rfl : l = [] := by
      rcases hs with ⟨_, h⟩ | ⟨g, o, h, _⟩
      · exact h
      · cases h
    have hcz := hz rfl
    clear hs hz hc hm
    go_enter Tryz.func82, Tryz.ntmps82
    go_wp2
    go_ret
    exact ⟨_, rfl, EV.none _, Below.refl _ _⟩
  | some ad =>
    have hb1 : Below w.heap.size w (w.alloc (.cells #[] 9)) := (Below.refl _ _).alloc (Nat.le_refl _) _
    obtain ⟨v1, w1, hrun, hb2, ho⟩ := run_app_own (P := Tryz.prog) (w := w.alloc (.cells #[] 9)) (E := strE) w.heap.size 72 72 9 Tryz.underlying72 infoSt _ 0 [] (own_no strE w 9) hb1.size (some ad) l.length c l rfl (fun h => by cases h) (hs.below hb1 (Nat.le_refl _)) (by unfold maxLen; omega) (by show _ * 16 ≤ _; omega)
    rw [List.nil_append, Nat.zero_add] at ho
    have Ho := Lib.hid (own_ev (T := 9) ho)
    have HB := Lib.hid (hb1.trans hb2)
    obtain ⟨n, hn⟩ : ∃ n, l.length = n := ⟨_, rfl⟩
    rw [hn] at hrun ⊢
    clear hs hz hc hm hb1 hb2 ho hn hl
    go_enter Tryz.func82, Tryz.ntmps82
    go_wp2_with (at_builtin; refine Lib.wpList_append_run _ rfl (.tmp 5) (.tmp 6) _ _ rfl _ _ (by rfl) (by rfl) _ _ hrun ?_)
    go_ret
    exact ⟨_, rfl, Ho.out, HB.out⟩
end Go.Proofs.YtjkpjbgapemieaaGreatDoor
namespace Go.Proofs.YtjkpjbgapemieaaGreatDoor
open Go Go.RowKit

/-- Three slices: a node's cells, keys, kids. -/
structure NoV where
  ca : Option Addr
  cn : Nat
  cc : Nat
  ka : Option Addr
  kn : Nat
  kc : Nat
  pa : Option Addr
  pn : Nat
  pc : Nat
instance : Inhabited NoV := ⟨⟨none, 0, 0, none, 0, 0, none, 0, 0⟩⟩
abbrev NoV.c (v : NoV) : Value := .slice v.ca v.cn v.cc
abbrev NoV.k (v : NoV) : Value := .slice v.ka v.kn v.kc
abbrev NoV.p (v : NoV) : Value := .slice v.pa v.pn v.pc
abbrev NoV.v (v : NoV) : Value := .agg #[v.c, v.k, v.p]
def nodE : Elt NoV := ⟨3, 72, .agg #[nilS, nilS, nilS], fun v => [v.c, v.k, v.p], fun _ => rfl, fun e u hu => by
  simp only [List.mem_cons, List.not_mem_nil, or_false] at hu; rcases hu with rfl | rfl | rfl <;> rfl, by decide, rfl, fun T => T == VT⟩
theorem infoV : (Tryz.prog.info? VT).map (fun i => (i.zero, i.size, i.bytes)) = some (some nodE.zero, nodE.sz, nodE.by_) := by kernel_rfl
def va (l : List NoV) (i : Nat) : NoV := l.getD i default
theorem ES.nods {w : World} {a : Option Addr} {l : List NoV} (h : ES nodE w a l) (h0 : 0 < l.length) : ∃ g o, a = some ⟨g, o, none⟩ ∧ ∀ i, i < l.length → w.cell? ⟨g, o + i * 3, none⟩ = some (va l i).c ∧ w.cell? ⟨g, o + i * 3 + 1, none⟩ = some (va l i).k ∧ w.cell? ⟨g, o + i * 3 + 2, none⟩ = some (va l i).p := by
  obtain ⟨g, o, rfl, hc⟩ := h.at h0
  refine ⟨g, o, rfl, fun i hi => ?_⟩
  have e : l[i]? = some (va l i) := by unfold va; simp [List.getD, hi]
  have h1 := hc (i * 3 + 0) _ (nodE.row_at l i 0 _ e (by decide))
  have h2 := hc (i * 3 + 1) _ (nodE.row_at l i 1 _ e (by decide))
  have h3 := hc (i * 3 + 2) _ (nodE.row_at l i 2 _ e (by decide))
  exact ⟨h1, h2, h3⟩
/-- A tree of so many nodes below its root's value, between two bounds: its entries, its root's size. -/
def NdV (w : World) : Nat → SB → SB → NoV → List En → Nat → Prop
  | 0, lo, hi, v, es, s => (v.k = nilS ∧ v.p = nilS ∧ EV entE w v.c es) ∧ ltO lo hi ∧ srt es ∧ (∀ x ∈ es, okE x ∧ ins lo hi x.k) ∧ s = leafSz es
  | h + 1, lo, hi, v, es, s => ∃ ks ps ess, (v.c = nilS ∧ EV strE w v.k ks ∧ EV ptrE w v.p ps) ∧ KRow (Good w h) ks lo hi ps ess ∧ es = ess.flatten ∧ s = brSz ks
theorem NdV.ext {w w' : World} (hb : Below w.heap.size w w') {h : Nat} {lo hi : SB} {v : NoV} {es : List En} {s : Nat} (hn : NdV w h lo hi v es s) : NdV w' h lo hi v es s := by
  cases h with
  | zero =>
    obtain ⟨⟨h1, h2, h3⟩, h4⟩ := hn
    exact ⟨⟨h1, h2, h3.ext hb⟩, h4⟩
  | succ h =>
    obtain ⟨ks, ps, ess, ⟨h1, h2, h3⟩, hr, h4⟩ := hn
    exact ⟨ks, ps, ess, ⟨h1, h2.ext hb, h3.ext hb⟩, hr.mono (fun _ _ _ _ h5 => h5.ext hb), h4⟩
theorem NdV.facts {w : World} {h : Nat} {lo hi : SB} {v : NoV} {es : List En} {s : Nat} (hn : NdV w h lo hi v es s) : ltO lo hi ∧ srt es ∧ ∀ x ∈ es, okE x ∧ ins lo hi x.k := by
  cases h with
  | zero =>
    obtain ⟨_, h2, h3, h4, _⟩ := hn
    exact ⟨h2, h3, h4⟩
  | succ h =>
    obtain ⟨ks, ps, ess, _, hr, rfl, _⟩ := hn
    have := hr.facts Good.facts
    exact ⟨this.1, this.2.1, this.2.2.1⟩
theorem Nd.val {w : World} {h : Nat} {lo hi : SB} {b : Nat} {es : List En} {s : Nat} (hn : Nd w h lo hi b es s) : ∃ v : NoV, NB w b v.c v.k v.p ∧ NdV w h lo hi v es s := by
  cases h with
  | zero =>
    obtain ⟨⟨vc, nb, a, c, rfl, h3⟩, h4⟩ := hn
    exact ⟨⟨a, es.length, c, none, 0, 0, none, 0, 0⟩, nb, ⟨rfl, rfl, a, c, rfl, h3⟩, h4⟩
  | succ h =>
    obtain ⟨ks, ps, ess, ⟨vk, vp, nb, ⟨a, c, rfl, h3⟩, ⟨a', c', rfl, h4⟩⟩, h5⟩ := hn
    exact ⟨⟨none, 0, 0, a, ks.length, c, a', ps.length, c'⟩, nb, ks, ps, ess, ⟨rfl, ⟨a, c, rfl, h3⟩, ⟨a', c', rfl, h4⟩⟩, h5⟩
theorem NV.of (w : World) (v : NoV) : ∃ W, w.alloc (.cells #[v.c, v.k, v.p] VT) = W ∧ NV W w.heap.size v.c v.k v.p ∧ Below w.heap.size w W :=
  ⟨_, rfl, NV.new w _ _ _, (Below.refl _ _).alloc (Nat.le_refl _) _⟩
theorem nleaf_any {h : Nat} {lo hi : SB} {v : NoV} {es : List En} {s : Nat} (w : World) (hn : NdV w h lo hi v es s) : Calls Tryz.prog 46 #[v.v] w fun e w' => e = .returned (.bool (decide (h = 0))) ∧ Below w.heap.size w w' := by
  obtain ⟨W, hW, hV, hb⟩ := NV.of w v
  have HW := Lib.hid hW
  have HB := Lib.hid hb
  cases h with
  | zero =>
    obtain ⟨⟨h1, h2, h3⟩, h4⟩ := hn
    rw [h2] at hV
    have Hc := Lib.hid (isLeaf_yesV w.heap.size _ _ W hV)
    clear hW hV hb h1 h2 h3 h4
    obtain ⟨ca, cn, cc, ka, kn, kc, pa, pn, pc⟩ := v
    dsimp only [NoV.c, NoV.k, NoV.p, NoV.v] at *
    go_enter Tryz.func46, Tryz.ntmps46
    go_wp2_with fail
    rw [HW.out]
    refine Hc.out.mono ?_
    rintro e w' ⟨rfl, rfl⟩
    go_wp2
    go_ret
    exact ⟨rfl, HB.out⟩
  | succ h =>
    obtain ⟨ks, ps, ess, ⟨h1, h2, h3⟩, hr, h4⟩ := hn
    have hl := hr.len
    obtain ⟨a, c, h5, h6⟩ := h3
    rw [h5] at hV
    have Hc := Lib.hid (isLeaf_noV w.heap.size _ _ a ps.length c W hV (by omega))
    clear hW hV hb hr hl h5 h1 h2 h4 h6
    obtain ⟨ca, cn, cc, ka, kn, kc, pa, pn, pc⟩ := v
    dsimp only [NoV.c, NoV.k, NoV.p, NoV.v] at *
    go_enter Tryz.func46, Tryz.ntmps46
    go_wp2_with fail
    rw [HW.out]
    refine Hc.out.mono ?_
    rintro e w' ⟨rfl, rfl⟩
    go_wp2
    go_ret
    exact ⟨by simp, HB.out⟩
theorem nleaf_yes {lo hi : SB} {v : NoV} {es : List En} {s : Nat} (w : World) (hn : NdV w 0 lo hi v es s) : Calls Tryz.prog 46 #[v.v] w fun e w' => e = .returned (.bool true) ∧ Below w.heap.size w w' :=
  (nleaf_any w hn).mono (by rintro e w' ⟨rfl, h⟩; exact ⟨rfl, h⟩)
theorem nleaf_no {h : Nat} {lo hi : SB} {v : NoV} {es : List En} {s : Nat} (w : World) (hn : NdV w (h + 1) lo hi v es s) : Calls Tryz.prog 46 #[v.v] w fun e w' => e = .returned (.bool false) ∧ Below w.heap.size w w' :=
  (nleaf_any w hn).mono (by rintro e w' ⟨rfl, h⟩; exact ⟨by simp, h⟩)
theorem nsize_any {h : Nat} {lo hi : SB} {v : NoV} {es : List En} {s : Nat} (w : World) (hn : NdV w h lo hi v es s) (hs : s ≤ 100000) : Calls Tryz.prog 61 #[v.v] w fun e w' => e = .returned (.int .i64 (s : Nat)) ∧ Below w.heap.size w w' := by
  obtain ⟨W, hW, hV, hb⟩ := NV.of w v
  have HW := Lib.hid hW
  have HB := Lib.hid hb
  have Hc : Hid (Calls Tryz.prog 78 #[pt w.heap.size] W fun e w' => e = .returned (.int .i64 (s : Nat)) ∧ Below W.heap.size W w') := by
    have hn' := hn.ext hb
    cases h with
    | zero =>
      obtain ⟨⟨h1, h2, h3⟩, _, _, h4, rfl⟩ := hn'
      rw [h1, h2] at hV
      have hok := fun x hx => (h4 x hx).1
      have h5 := szs_range hok
      exact size_leafV w.heap.size es W ⟨_, hV, h3⟩ (by unfold leafSz at hs; omega) hok
    | succ h =>
      obtain ⟨ks, ps, ess, ⟨h1, h2, h3⟩, hr, _, rfl⟩ := hn'
      rw [h1] at hV
      have hok := (hr.facts Good.facts).2.2.2
      have h5 := kss_range hok
      exact size_branV w.heap.size ks ps W ⟨_, _, hV, h2, h3⟩ (by have := hr.len; omega) (by unfold brSz at hs; omega) hok
  clear hW hV hb hn
  obtain ⟨ca, cn, cc, ka, kn, kc, pa, pn, pc⟩ := v
  dsimp only [NoV.c, NoV.k, NoV.p, NoV.v] at *
  go_enter Tryz.func61, Tryz.ntmps61
  go_wp2_with fail
  rw [HW.out]
  refine Hc.out.mono ?_
  rintro e w' ⟨rfl, hb2⟩
  have Hb2 := Lib.hid (HB.out.trans (hb2.mono HB.out.size))
  clear hb2
  go_wp2
  go_ret
  exact ⟨rfl, Hb2.out⟩
theorem ncells_any {lo hi : SB} {v : NoV} {es : List En} {s : Nat} (w : World) (hn : NdV w 0 lo hi v es s) (hl : es.length ≤ 1000000) : Calls Tryz.prog 63 #[v.v] w fun e w' => ∃ u, e = .returned u ∧ EV entE w' u es ∧ Below w.heap.size w w' := by
  obtain ⟨W, hW, hV, hb⟩ := NV.of w v
  have HW := Lib.hid hW
  have HB := Lib.hid hb
  have q0 := hV.c0
  have Hc := Lib.hid (cloneE_any v.c es W (hn.1.2.2.ext hb) hl)
  rw [← hW] at q0
  clear hW hV hb hn
  obtain ⟨ca, cn, cc, ka, kn, kc, pa, pn, pc⟩ := v
  dsimp only [NoV.c, NoV.k, NoV.p, NoV.v] at *
  go_enter Tryz.func63, Tryz.ntmps63
  go_wp2_with fail
  rw [HW.out]
  refine Hc.out.mono ?_
  rintro e w' ⟨u, rfl, hu, hb2⟩
  have Hu := Lib.hid hu
  have Hb2 := Lib.hid (HB.out.trans (hb2.mono HB.out.size))
  clear hb2 hu
  go_wp2
  go_ret
  exact ⟨_, rfl, Hu.out, Hb2.out⟩
theorem nkeys_any (v : NoV) (ks : List ByteArray) (w : World) (hv : EV strE w v.k ks) (hl : ks.length ≤ 1000000) : Calls Tryz.prog 65 #[v.v] w fun e w' => ∃ u, e = .returned u ∧ EV strE w' u ks ∧ Below w.heap.size w w' := by
  obtain ⟨W, hW, hV, hb⟩ := NV.of w v
  have HW := Lib.hid hW
  have HB := Lib.hid hb
  have q0 := hV.c1
  have Hc := Lib.hid (cloneS_any v.k ks W (hv.ext hb) hl)
  rw [← hW] at q0
  clear hW hV hb hv
  obtain ⟨ca, cn, cc, ka, kn, kc, pa, pn, pc⟩ := v
  dsimp only [NoV.c, NoV.k, NoV.p, NoV.v] at *
  go_enter Tryz.func65, Tryz.ntmps65
  go_wp2_with fail
  rw [HW.out]
  refine Hc.out.mono ?_
  rintro e w' ⟨u, rfl, hu, hb2⟩
  have Hu := Lib.hid hu
  have Hb2 := Lib.hid (HB.out.trans (hb2.mono HB.out.size))
  clear hb2 hu
  go_wp2
  go_ret
  exact ⟨_, rfl, Hu.out, Hb2.out⟩
end Go.Proofs.YtjkpjbgapemieaaGreatDoor
namespace Go.Proofs.YtjkpjbgapemieaaGreatDoor
open Go Go.RowKit

theorem root_nil (n : Int) (w : World) : Calls Tryz.prog 28 #[.agg #[.pointer none, .int .i64 n]] w fun e w' => e = .returned (.tuple #[.agg #[nilS, nilS, nilS], .bool false]) ∧ Below w.heap.size w w' := by
  have HB : Hid (Below w.heap.size w ((w.alloc (.cells #[.pointer none, .int .i64 n] TT)).alloc (.cells #[nilS, nilS, nilS] VT))) := ((Below.refl w.heap.size w).alloc (Nat.le_refl _) _).alloc (by simp) _
  go_enter Tryz.func28, Tryz.ntmps28
  go_wp2
  refine bodyPost_ret (v := .tuple #[.agg #[nilS, nilS, nilS], .bool false]) (by rw [results_cell_tmp rfl]; go_simp) rfl ⟨rfl, HB.out⟩
theorem root_some (b : Nat) (n : Int) (v : NoV) (w : World) (hb : NB w b v.c v.k v.p) : Calls Tryz.prog 28 #[.agg #[pt b, .int .i64 n]] w fun e w' => e = .returned (.tuple #[v.v, .bool true]) ∧ Below w.heap.size w w' := by
  have HB : Hid (∀ x, Below w.heap.size w ((w.alloc (.cells #[pt b, .int .i64 n] TT)).alloc (.cells x VT))) := fun x => ((Below.refl w.heap.size w).alloc (Nat.le_refl _) _).alloc (by simp) _
  have q0 := (hb.ext (HB.out #[nilS, nilS, nilS])).c0
  have q1 := (hb.ext (HB.out #[nilS, nilS, nilS])).c1
  have q2 := (hb.ext (HB.out #[nilS, nilS, nilS])).c2
  clear hb
  obtain ⟨ca, cn, cc, ka, kn, kc, pa, pn, pc⟩ := v
  dsimp only [NoV.c, NoV.k, NoV.p, NoV.v] at *
  go_enter Tryz.func28, Tryz.ntmps28
  go_wp2
  refine bodyPost_ret (v := .tuple #[.agg #[.slice ca cn cc, .slice ka kn kc, .slice pa pn pc], .bool true]) (by rw [results_cell_tmp rfl]; go_simp) rfl ⟨rfl, HB.out _⟩
/-- A kid of a branch: so deep, between its bounds, with enough bytes that fit. -/
def GoodV (w : World) (h : Nat) (lo hi : SB) (v : NoV) (e : List En) : Prop := ∃ s, NdV w h lo hi v e s ∧ 126 ≤ s ∧ s ≤ 504
theorem GoodV.ext {w w' : World} (hb : Below w.heap.size w w') {h : Nat} {lo hi : SB} {v : NoV} {e : List En} (hg : GoodV w h lo hi v e) : GoodV w' h lo hi v e := by
  obtain ⟨s, h1, h2⟩ := hg
  exact ⟨s, h1.ext hb, h2⟩
/-- The values of kids. -/
def KidsV (w : World) (h : Nat) (ks : List ByteArray) (lo hi : SB) (vs : List NoV) (ess : List (List En)) : Prop :=
  vs.length = ks.length + 1 ∧ ess.length = ks.length + 1 ∧ ∀ i, i < vs.length → GoodV w h (lob lo ks i) (hib hi ks i) (va vs i) (ess.getD i [])
theorem KidsV.ext {w w' : World} (hb : Below w.heap.size w w') {h : Nat} {ks : List ByteArray} {lo hi : SB} {vs : List NoV} {ess : List (List En)} (hg : KidsV w h ks lo hi vs ess) : KidsV w' h ks lo hi vs ess :=
  ⟨hg.1, hg.2.1, fun i hi => (hg.2.2 i hi).ext hb⟩
set_option maxRecDepth 100000 in
theorem nkids_any {h : Nat} {lo hi : SB} (v : NoV) (ks : List ByteArray) (ps : List Nat) (ess : List (List En)) (w : World) (hv : EV ptrE w v.p ps) (hr : KRow (Good w h) ks lo hi ps ess) (hl : ks.length ≤ 100000) :
    Calls Tryz.prog 47 #[v.v] w fun e w' => ∃ u vs, e = .returned u ∧ EV nodE w' u vs ∧ KidsV w' h ks lo hi vs ess ∧ Below w.heap.size w w' := by
  obtain ⟨W, hW, hV, hb⟩ := NV.of w v
  have hle := hr.len
  -- each kid's value
  have hex : ∀ k, k < ps.length → ∃ x : NoV, NB w (na ps k) x.c x.k x.p ∧ GoodV w h (lob lo ks k) (hib hi ks k) x (ess.getD k []) := fun k hk => by
    obtain ⟨sk, h1, h2, h3⟩ := hr.kid (m := k) (by omega)
    obtain ⟨x, h4, h5⟩ := h1.val
    exact ⟨x, h4, sk, h5, h2, h3⟩
  obtain ⟨f, hf⟩ : ∃ f : Nat → NoV, ∀ k, k < ps.length → NB w (na ps k) (f k).c (f k).k (f k).p ∧ GoodV w h (lob lo ks k) (hib hi ks k) (f k) (ess.getD k []) :=
    ⟨fun k => if hk : k < ps.length then Classical.choose (hex k hk) else default, fun k hk => by simp only [dif_pos hk]; exact Classical.choose_spec (hex k hk)⟩
  have HF := Lib.hid hf
  have Hvs : ∀ k, ((List.range ps.length).map f).take (k + 1) = if k < ps.length then ((List.range ps.length).map f).take k ++ [f k] else ((List.range ps.length).map f).take k := fun k => by
    by_cases hk : k < ps.length
    · rw [if_pos hk, List.take_succ_eq_append_getElem (by simpa using hk)]; simp
    · rw [if_neg hk, List.take_of_length_le (by simp; omega), List.take_of_length_le (by simp; omega)]
  have HVS := Lib.hid Hvs
  obtain ⟨a1, c1, hp, hs1, _⟩ := hv
  obtain ⟨g2, o2, rfl, hc2⟩ := hs1.ptrs (by omega)
  have q2 := hV.c2
  rw [hp] at q2
  have HW := Lib.hid hW
  have HB := Lib.hid hb
  have Hc2 := Lib.hid hc2
  have Hle := Lib.hid hle
  have Hl := Lib.hid hl
  obtain ⟨n, hn⟩ : ∃ n, ps.length = n := ⟨_, rfl⟩
  have Hn := Lib.hid hn
  rw [hn] at q2
  have hn9 : n ≤ 100001 := by omega
  rw [← hW] at q2
  have hW0 : Hid (W.heap.size = w.heap.size + 1) := by show _ = _; rw [← hW]; simp
  clear hW hV hb hex hf Hvs hs1 hc2 hle hl hp hr hn
  obtain ⟨ca, cn, cc, ka, kn, kc, pa, pn, pc⟩ := v
  dsimp only [NoV.c, NoV.k, NoV.p, NoV.v] at *
  go_enter Tryz.func47, Tryz.ntmps47
  go_wp2_with fail
  rw [HW.out]
  go_loopw [3, 5, 10] (fun u _ i wr => ∃ (k : Nat) (v : Value), v = u ∧ i = .int .i64 k ∧ k ≤ n ∧ Hid (wr.ownsRow w.heap.size VT nodE.sz v (((List.range ps.length).map f).take k).length (nodE.row (((List.range ps.length).map f).take k))) ∧ Hid (Below w.heap.size w wr)) (fun _ _ i _ => n - (intOf i).toNat)
  case atStart => exact ⟨0, nilS, rfl, rfl, by omega, World.ownsRow_nil _ _ _ _, HB⟩
  case round =>
    obtain ⟨k, u, rfl, rfl, hk, hown, hB⟩ := hrel
    by_cases hlt : k < n
    · have p0 := Hc2.out k (by rw [Hn.out]; exact hlt)
      have p1 : wr.cell? ⟨g2, o2 + k, none⟩ = some (pt (na ps k)) := by
        rw [hB.out.cell (p := ⟨g2, o2 + k, none⟩) (block_lt_of_cell p0)]; exact p0
      have hfk := HF.out k (by rw [Hn.out]; exact hlt)
      have hnb := hfk.1.ext hB.out
      have r0 := hnb.c0
      have r1 := hnb.c1
      have r2 := hnb.c2
      have htk : (((List.range ps.length).map f).take k).length = k := by simp; have := Hn.out; omega
      have hsz := hB.out.size
      have hlit : ES nodE (wr.alloc (.cells #[(f k).c, (f k).k, (f k).p] VT)) (some ⟨wr.heap.size, 0, none⟩) [f k] := ES.lit (heap_new wr VT #[(f k).c, (f k).k, (f k).p])
      obtain ⟨v1, w1, hrun, hb1, ho1⟩ := run_app_own (P := Tryz.prog) (w := wr.alloc (.cells #[(f k).c, (f k).k, (f k).p] VT)) (E := nodE) w.heap.size 98 98 VT Tryz.underlying98 infoV u k (((List.range ps.length).map f).take k) (by rw [htk] at hown; exact hown.out.alloc _) (by simp; omega) (some ⟨wr.heap.size, 0, none⟩) 1 1 [f k] rfl (fun h => by cases h) hlit (by unfold maxLen; omega) (by show _ * 72 ≤ _; omega)
      have Ho1 : Hid (w1.ownsRow w.heap.size VT nodE.sz v1 (((List.range ps.length).map f).take (k + 1)).length (nodE.row (((List.range ps.length).map f).take (k + 1)))) := by
        rw [HVS.out k, if_pos (by rw [Hn.out]; exact hlt), List.length_append, htk]; exact ho1
      have HB1 : Hid (Below w.heap.size w w1) := (hB.out.alloc hsz _).trans hb1
      generalize na ps k = pk at *
      generalize hfk2 : f k = x at *
      obtain ⟨xa, xn, xc, ya, yn, yc, za, zn, zc⟩ := x
      dsimp only [NoV.c, NoV.k, NoV.p, NoV.v] at *
      clear p0 hfk hnb htk hlit ho1 hb1 hown hB hfk2
      go_wp2_with (at_builtin; refine Lib.wpList_append_run _ rfl (.tmp 14) (.tmp 19) _ _ rfl _ _ (by rfl) (by rfl) _ _ hrun ?_)
      clear hrun p1 r0 r1 r2
      go_wp2_with fail
      go_roundw
      case rel => exact ⟨k + 1, v1, rfl, by go_num, by omega, Ho1, HB1⟩
      case measure => simp [intOf]; omega
    · obtain rfl : k = n := by omega
      have ho := hown.out
      rw [List.take_of_length_le (by simp; have := Hn.out; omega)] at ho
      have hev : Hid (EV nodE wr u ((List.range ps.length).map f)) := own_ev (T := VT) ho
      have Hk : Hid (KidsV wr h ks lo hi ((List.range ps.length).map f) ess) := by
        refine ⟨by simp [Hle.out.1], Hle.out.2, fun i hi => ?_⟩
        have hi' : i < ps.length := by simpa using hi
        have : va ((List.range ps.length).map f) i = f i := by unfold va; simp [List.getD, hi']
        rw [this]
        exact (HF.out i hi').2.ext hB.out
      clear hown ho
      go_wp2
      go_ret
      exact ⟨u, _, rfl, hev.out, Hk.out, hB.out⟩
end Go.Proofs.YtjkpjbgapemieaaGreatDoor
