/-
  pack.Num, pack.Bytes; the document's Put.
-/
import Derived.Test.YtjlllkdimfkjaaaDoorVarPut
import Derived.Test.YtjlllkdimfkjaaaDoorCat
namespace Go.Proofs.YtjlllkdimfkjaaaDoor
open Go Go.RowKit

theorem parts_two (w : World) (E : TypeId) (a a2 : Option Addr) (n c n2 c2 : Nat) (l l2 : List Nat) (hn : l.length = n) (hn2 : l2.length = n2) (hs : Src w a l) (hs2 : Src w a2 l2) (hz : a = none → c = 0) (hz2 : a2 = none → c2 = 0) :
    Parts (w.alloc (.cells #[.slice a n c, .slice a2 n2 c2] E)) w.heap.size [l, l2] := fun i hi => by
  have hb : Below w.heap.size w (w.alloc (.cells #[.slice a n c, .slice a2 n2 c2] E)) := (Below.refl _ _).alloc (Nat.le_refl _) _
  rcases i with _ | _ | i
  · exact ⟨a, c, by simp [hn], hs.below hb (Nat.le_refl _), hz⟩
  · exact ⟨a2, c2, by simp [hn2], hs2.below hb (Nat.le_refl _), hz2⟩
  · simp at hi; omega
/-- Concat of a literal's new row of two. -/
theorem concat_two (w : World) (E : TypeId) (g : Nat) (arr : Array Value) (a a2 : Option Addr) (n c n2 c2 : Nat) (l l2 : List Nat) (hg : g = w.heap.size) (harr : arr = #[.slice a n c, .slice a2 n2 c2]) (hn : l.length = n) (hn2 : l2.length = n2) (hs : Src w a l) (hs2 : Src w a2 l2) (hz : a = none → c = 0) (hz2 : a2 = none → c2 = 0)
    (hl : n + n2 ≤ 1099511627776) :
    Calls Tryd.prog 33 #[.slice (some ⟨g, 0, none⟩) 2 2] (w.alloc (.cells arr E)) fun e w' => ∃ v, e = .returned v ∧ Sl w' v (l ++ l2) ∧ Below w.heap.size w w' := by
  subst hg harr
  have hb : Below w.heap.size w (w.alloc (.cells #[.slice a n c, .slice a2 n2 c2] E)) := (Below.refl _ _).alloc (Nat.le_refl _) _
  refine (concat_any w.heap.size 2 2 [l, l2] rfl _ (parts_two w E a a2 n c n2 c2 l l2 hn hn2 hs hs2 hz hz2) (by simp; omega) (by omega)).mono ?_
  rintro e w' ⟨v, rfl, hv, hb'⟩
  refine ⟨v, rfl, ?_, hb.trans (hb'.mono hb.size)⟩
  simpa using hv
theorem packNum_any (a : Option Addr) (n c : Nat) (l : List Nat) (hn : l.length = n) (v : Nat) (w : World) (hs : Src w a l) (hl : n ≤ 65536) (hv : v < 18446744073709551616) :
    Calls Tryd.prog 34 #[.slice a n c, .int .u64 v] w fun e w' => ∃ v', e = .returned v' ∧ Sl w' v' (l ++ vb v) ∧ Below w.heap.size w w' := by
  subst hn
  have h := put_any a c l v w hl hv hs
  have h10 := vs_le hv
  have hlen : (l ++ vb v).length = l.length + vs v := by rw [List.length_append]; rfl
  have Hl := Lib.hid hlen
  clear hlen
  go_enter Tryd.func34, Tryd.ntmps34
  go_wp2_with fail
  refine h.mono ?_
  rintro e w' ⟨rfl, hr, hb⟩
  have hs := Sl.row hr (by rw [Hl.out]; unfold maxLen; omega)
  rw [Hl.out] at hs
  go_wp2
  go_ret
  exact ⟨_, rfl, hs, hb⟩
set_option maxRecDepth 100000 in
theorem packBytes_any (a a2 : Option Addr) (n c n2 c2 : Nat) (l l2 : List Nat) (hn : l.length = n) (hn2 : l2.length = n2) (w : World) (hs : Src w a l) (hs2 : Src w a2 l2) (hz2 : a2 = none → c2 = 0) (hl : n ≤ 65536) (hl2 : n2 ≤ 1000000) :
    Calls Tryd.prog 18 #[.slice a n c, .slice a2 n2 c2] w fun e w' => ∃ v, e = .returned v ∧ Sl w' v (l ++ vb n2 ++ l2) ∧ Below w.heap.size w w' := by
  have h := packNum_any a n c l hn n2 w hs hl (by omega)
  have Hs2 := Lib.hid hs2
  have Hz2 := Lib.hid hz2
  have Hn := Lib.hid (And.intro hn hn2)
  have h10 := vs_le (show n2 < 18446744073709551616 by omega)
  have Hlen : Hid ((l ++ vb n2).length = n + vs n2) := by show _ = _; rw [List.length_append, hn]; rfl
  clear hs hs2 hz2 hn hn2
  go_enter Tryd.func18, Tryd.ntmps18
  go_wp2_with fail
  refine h.mono ?_
  rintro e w1 ⟨v, rfl, hv, hb⟩
  obtain ⟨a1, c1, rfl, hs1, hz1, _⟩ := hv.arg
  have hs2 := Lib.hid (Hs2.out.below hb (Nat.le_refl _))
  have hlen := Hlen.out
  generalize hL : l ++ vb n2 = L at *
  obtain ⟨N, hN⟩ : ∃ N, N = L.length := ⟨_, rfl⟩
  rw [← hN] at hlen ⊢
  have hN2 : N + n2 ≤ 1099511627776 := by omega
  have HN := Lib.hid (And.intro hL hN)
  clear hlen hL hN Hlen
  have Hs1 := Lib.hid hs1
  have Hz1 := Lib.hid hz1
  have Hb := Lib.hid hb
  clear hv hb h hs1 hz1
  go_wp2_with fail
  refine (concat_two _ _ _ _ a1 a2 N c1 n2 c2 L l2 (by rfl) rfl HN.out.2.symm Hn.out.2 Hs1.out hs2.out Hz1.out Hz2.out hN2).mono ?_
  rintro e w' ⟨v, rfl, hv, hb'⟩
  have hbn := Hb.out.trans (hb'.mono Hb.out.size)
  go_wp2
  go_ret
  exact ⟨_, rfl, by rw [HN.out.1]; exact hv, hbn⟩
set_option maxRecDepth 100000 in
theorem refPutBytes_any (a a2 : Option Addr) (n c n2 c2 : Nat) (l l2 : List Nat) (hn : l.length = n) (hn2 : l2.length = n2) (w : World) (hs : Src w a l) (hz : a = none → c = 0) (hs2 : Src w a2 l2) (hz2 : a2 = none → c2 = 0) (hl : n ≤ 65536) (hl2 : n2 ≤ 1000000) :
    Calls Tryd.prog 19 #[.slice a n c, .slice a2 n2 c2] w fun e w' => ∃ v, e = .returned v ∧ Sl w' v (l ++ vb n2 ++ l2) ∧ Below w.heap.size w w' := by
  subst hn
  have h := refPut_any a c l n2 w hl (by omega) hz hs
  have Hs2 := Lib.hid hs2
  have Hz2 := Lib.hid hz2
  have h10 := vs_le (show n2 < 18446744073709551616 by omega)
  have Hlen : Hid ((l ++ vb n2).length = l.length + vs n2) := by show _ = _; rw [List.length_append]; rfl
  have Hn := Lib.hid hn2
  clear hs hs2 hz2 hz hn2
  go_enter Tryd.func19, Tryd.ntmps19
  go_wp2_with fail
  refine h.mono ?_
  rintro e w1 ⟨v, rfl, hown, hb⟩
  have hs2 := Lib.hid (Hs2.out.below hb (Nat.le_refl _))
  have Ho := Lib.hid hown
  have Hb := Lib.hid hb
  clear hown hb h
  have hsz := Hb.out.size
  go_wp2_with (at_builtin; refine wpList_append_bytes rfl (.tmp 9) (.tmp 10) 26 rfl w.heap.size 5 Tryd.underlying26 infoB _ (l ++ vb n2) (by rfl) Ho a2 c2 l2 (by rw [Hn.out]; rfl) Hz2.out hs2.out (by rw [Hlen.out, Hn.out]; omega) hsz ?_; intro v' w2 hown2 hgrow2 hnear2)
  have hbn := Hb.out.grown hgrow2.out hsz (fun j hj => (Ho.out.lt j hj).1)
  have ho := Sl.own hown2.out
  go_ret
  exact ⟨_, rfl, ho, hbn⟩
end Go.Proofs.YtjlllkdimfkjaaaDoor
