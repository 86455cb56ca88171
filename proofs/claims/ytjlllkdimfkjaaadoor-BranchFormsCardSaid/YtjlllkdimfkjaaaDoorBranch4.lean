/-
  branch's Decode.
-/
import Derived.Test.YtjlllkdimfkjaaaDoorBranch3
import Derived.Deep.LoopGhost
namespace Go.Proofs.YtjlllkdimfkjaaaDoor
open Go Go.RowKit

abbrev ITY : TypeId := 3
abbrev STY : TypeId := 9
abbrev zF : Value := .slice none 0 0
theorem zslice : (Value.slice none 0 0).ownBlock = none := rfl
theorem own_page (w : World) (B : Nat) (x : Int) (h : B ≤ w.heap.size) : (w.alloc (.cells #[.int .i64 x] ITY)).ownsRow B ITY 1 (.slice (some ⟨w.heap.size, 0, none⟩) 1 1) 1 (iv [x]) := by
  refine ⟨rfl, .inr ⟨w.heap.size, 1, #[.int .i64 x], rfl, h, ?_, Nat.le_refl _, by unfold maxLen; omega, ?_⟩⟩
  · show (w.heap.push _)[w.heap.size]? = _; rw [Array.getElem?_push_size]
  · exact ⟨rfl, rfl⟩
/-- A struct that is filled: rows of texts and of pages lie elsewhere. -/
theorem res_turn (w : World) (b : Nat) (u' v' : Value) (a c : Option Addr) (ks : List ByteArray) (is : List Int) (u v : Value) (T : TypeId) (h : PB w b T u v) (hx : TxS w a ks) (hp : PgS w c is) (hu : u = zF) (hv : v = zF) :
    TxS ((w.setCell ⟨b, 0, none⟩ u').setCell ⟨b, 1, none⟩ v') a ks ∧ PgS ((w.setCell ⟨b, 0, none⟩ u').setCell ⟨b, 1, none⟩ v') c is := by
  subst hu hv
  have t := turn_set2 w b u' v'
  have no : ∀ (j : Nat) (y : Value), w.cell? ⟨b, j, none⟩ = some y → y = zF := fun j y hj => by
    have h' : w.heap[b]? = _ := h
    simp only [World.cell?, h'] at hj
    rcases j with _ | _ | j <;> simp at hj
    · exact hj.symm
    · exact hj.symm
  refine ⟨fun h0 => ?_, fun h0 => ?_⟩
  · obtain ⟨g, o, rfl, hc⟩ := hx h0
    refine ⟨g, o, rfl, fun i hi => ?_⟩
    have hci := hc i hi
    have hg : ¬ g = b := fun e => by subst e; cases no _ _ hci
    rw [t.cell (p := ⟨g, o + i, none⟩) (block_lt_of_cell hci) hg]
    exact hci
  · obtain ⟨g, o, rfl, hc⟩ := hp h0
    refine ⟨g, o, rfl, fun i hi => ?_⟩
    have hci := hc i hi
    have hg : ¬ g = b := fun e => by subst e; cases no _ _ hci
    rw [t.cell (p := ⟨g, o + i, none⟩) (block_lt_of_cell hci) hg]
    exact hci
/-- What holds at the head of Decode's loop. -/
structure DecI (w w1 wr : World) (l : List Nat) (b p : Nat) (ks : List ByteArray) (is : List Int) (S : RS) (u v : Value) : Prop where
  st : StF l ks is S
  rd : Rb wr b w1.heap.size S
  fk : PB wr p FT u v
  ku : wr.ownsRow w1.heap.size STY 1 u ks.length (sv ks)
  kv : wr.ownsRow w1.heap.size ITY 1 v is.length (iv is)
  res : PB wr w.heap.size FT zF zF
  size : w1.heap.size ≤ wr.heap.size
  below : Below w.heap.size w wr
theorem DecI.next {w w1 wr w3 w4 w5 : World} {l : List Nat} {b p : Nat} {ks : List ByteArray} {is : List Int} {S S3 : RS} {u v u' : Value} {y : ByteArray} (h : DecI w w1 wr l b p ks is S u v)
    (hb : b < w1.heap.size) (hp : w1.heap.size ≤ p) (hw : w.heap.size < w1.heap.size) (hwb : w.heap.size ≤ b) (hne : b ≠ w.heap.size)
    (ht : Turn (fun i => i = b) wr w3) (hr : Rb w3 b w1.heap.size S3) (h4 : Below w3.heap.size w3 w4) (hg : w4.grownBy w5 u.ownBlock) (ho : w5.ownsRow w1.heap.size STY 1 u' (ks ++ [y]).length (sv (ks ++ [y]))) :
    Rb (w5.setCell ⟨p, 0, none⟩ u') b w1.heap.size S3 ∧ PB (w5.setCell ⟨p, 0, none⟩ u') p FT u' v ∧ (w5.setCell ⟨p, 0, none⟩ u').ownsRow w1.heap.size STY 1 u' (ks ++ [y]).length (sv (ks ++ [y])) ∧
    (w5.setCell ⟨p, 0, none⟩ u').ownsRow w1.heap.size ITY 1 v is.length (iv is) ∧ PB (w5.setCell ⟨p, 0, none⟩ u') w.heap.size FT zF zF ∧ w1.heap.size ≤ (w5.setCell ⟨p, 0, none⟩ u').heap.size ∧ Below w.heap.size w (w5.setCell ⟨p, 0, none⟩ u') ∧
    PB w5 p FT u v := by
  have pb : p ≠ b := by omega
  have k3 : PB w3 p FT u v := h.fk.turn ht pb
  have k4 := k3.ext h4
  have t5 := turn_grown hg
  have u3 : w3.ownsRow w1.heap.size STY 1 u ks.length (sv ks) := own_turnF h.ku ht (fun i hi e => by have := own_ge h.ku i hi; omega)
  have u4 := own_below u3 h4 (Nat.le_refl _)
  have k5 : PB w5 p FT u v := k4.turn t5 (fun e => own_other u4 k4 (by decide) p e rfl)
  have v3 : w3.ownsRow w1.heap.size ITY 1 v is.length (iv is) := own_turnF h.kv ht (fun i hi e => by have := own_ge h.kv i hi; omega)
  have v4 := own_below v3 h4 (Nat.le_refl _)
  have v5 : w5.ownsRow w1.heap.size ITY 1 v is.length (iv is) := own_turnF v4 t5 (fun i hi e => own_apart u4 v4 (by decide) i e hi)
  have ts := turn_set1 w5 p 0 u'
  have r4 := hr.below h4
  have r5 : Rb w5 b w1.heap.size S3 := r4.overF t5 (fun i hi => ⟨own_ge u4 i hi, by have := own_ge u4 i hi; omega⟩)
  have z3 : PB w3 w.heap.size FT zF zF := h.res.turn ht (fun e => hne e.symm)
  have z4 := z3.ext h4
  have z5 : PB w5 w.heap.size FT zF zF := z4.turn t5 (fun e => by have := own_ge u4 _ e; omega)
  have s5 : w1.heap.size ≤ w5.heap.size := Nat.le_trans h.size (Nat.le_trans ht.size (Nat.le_trans h4.size hg.size))
  have b3 : Below w.heap.size w w3 := h.below.trans (ht.below h.below.size (fun i e => by subst e; exact hwb))
  have b4 : Below w.heap.size w w4 := b3.trans (h4.mono b3.size)
  have b5 : Below w.heap.size w w5 := b4.grown hg b4.size (fun i hi => by have := own_ge u4 i hi; omega)
  refine ⟨r5.overF ts (fun i hi => by subst hi; exact ⟨hp, pb⟩), k5.set0 u', own_turnF ho ts (fun i hi e => ?_), own_turnF v5 ts (fun i hi e => ?_), z5.turn ts (fun e => by omega), ?_, b5.setCell (p := ⟨p, 0, none⟩) (by show w.heap.size ≤ p; omega) u', k5⟩
  · exact own_other ho k5 (by decide) i hi e
  · exact own_other v5 k5 (by decide) i hi e
  · rw [World.size_setCell]; exact s5
theorem DecI.next2 {w w1 wr w3 w4 w5 : World} {l : List Nat} {b p : Nat} {ks' : List ByteArray} {is : List Int} {S1 S3 : RS} {u v v' : Value} {y : Int}
    (rd : Rb wr b w1.heap.size S1) (fk : PB wr p FT u v) (ku : wr.ownsRow w1.heap.size STY 1 u ks'.length (sv ks')) (kv : wr.ownsRow w1.heap.size ITY 1 v is.length (iv is)) (res : PB wr w.heap.size FT zF zF) (size : w1.heap.size ≤ wr.heap.size) (below : Below w.heap.size w wr)
    (hb : b < w1.heap.size) (hp : w1.heap.size ≤ p) (hw : w.heap.size < w1.heap.size) (hwb : w.heap.size ≤ b) (hne : b ≠ w.heap.size)
    (ht : Turn (fun i => i = b) wr w3) (hr : Rb w3 b w1.heap.size S3) (h4 : Below w3.heap.size w3 w4) (hg : w4.grownBy w5 v.ownBlock) (ho : w5.ownsRow w1.heap.size ITY 1 v' (is ++ [y]).length (iv (is ++ [y]))) (hst : StF l ks' (is ++ [y]) S3) :
    DecI w w1 (w5.setCell ⟨p, 1, none⟩ v') l b p ks' (is ++ [y]) S3 u v' ∧ PB w5 p FT u v := by
  have pb : p ≠ b := by omega
  have k3 : PB w3 p FT u v := fk.turn ht pb
  have k4 := k3.ext h4
  have t5 := turn_grown hg
  have u3 : w3.ownsRow w1.heap.size STY 1 u ks'.length (sv ks') := own_turnF ku ht (fun i hi e => by have := own_ge ku i hi; omega)
  have u4 := own_below u3 h4 (Nat.le_refl _)
  have v3 : w3.ownsRow w1.heap.size ITY 1 v is.length (iv is) := own_turnF kv ht (fun i hi e => by have := own_ge kv i hi; omega)
  have v4 := own_below v3 h4 (Nat.le_refl _)
  have k5 : PB w5 p FT u v := k4.turn t5 (fun e => own_other v4 k4 (by decide) p e rfl)
  have u5 : w5.ownsRow w1.heap.size STY 1 u ks'.length (sv ks') := own_turnF u4 t5 (fun i hi e => own_apart v4 u4 (by decide) i e hi)
  have ts := turn_set1 w5 p 1 v'
  have r4 := hr.below h4
  have r5 : Rb w5 b w1.heap.size S3 := r4.overF t5 (fun i hi => ⟨own_ge v4 i hi, by have := own_ge v4 i hi; omega⟩)
  have z3 : PB w3 w.heap.size FT zF zF := res.turn ht (fun e => hne e.symm)
  have z4 := z3.ext h4
  have z5 : PB w5 w.heap.size FT zF zF := z4.turn t5 (fun e => by have := own_ge v4 _ e; omega)
  have s5 : w1.heap.size ≤ w5.heap.size := Nat.le_trans size (Nat.le_trans ht.size (Nat.le_trans h4.size hg.size))
  have b3 : Below w.heap.size w w3 := below.trans (ht.below below.size (fun i e => by subst e; exact hwb))
  have b4 : Below w.heap.size w w4 := b3.trans (h4.mono b3.size)
  have b5 : Below w.heap.size w w5 := b4.grown hg b4.size (fun i hi => by have := own_ge v4 i hi; omega)
  refine ⟨⟨hst, r5.overF ts (fun i hi => by subst hi; exact ⟨hp, pb⟩), k5.set1 v', own_turnF u5 ts (fun i hi e => ?_), own_turnF ho ts (fun i hi e => ?_), z5.turn ts (fun e => by omega), ?_, b5.setCell (p := ⟨p, 1, none⟩) (by show w.heap.size ≤ p; omega) v'⟩, k5⟩
  · exact own_other u5 k5 (by decide) i hi e
  · exact own_other ho k5 (by decide) i hi e
  · rw [World.size_setCell]; exact s5
set_option maxRecDepth 100000 in
set_option maxHeartbeats 4000000 in
theorem brDecode_any (a : Option Addr) (n c : Nat) (l : List Nat) (w : World) (hn : l.length = n) (hs : Src w a l) (hz : a = none → c = 0) (hl : n ≤ 65536) (hb8 : B8 l) :
    Calls Tryd.prog 9 #[.slice a n c] w fun e w' => ∃ u v, e = .returned (.tuple #[.agg #[u, v], errV (decFE l)]) ∧ TxV w' u (decFK l) ∧ PgV w' v (decFI l) ∧ Below w.heap.size w w' := by
  have Hn := Lib.hid hn
  obtain ⟨w0, hw0⟩ : ∃ w0, w0 = w.alloc (.cells #[zF, zF] FT) := ⟨_, rfl⟩
  have hb0 : Hid (Below w.heap.size w w0) := by rw [hw0]; exact (Below.refl _ _).alloc (Nat.le_refl _) _
  have hres : Hid (PB w0 w.heap.size FT zF zF) := by rw [hw0]; exact PB.new _ _ _ _
  have hsz0 : Hid (w0.heap.size = w.heap.size + 1) := by show _ = _; rw [hw0]; simp
  have hw0' := Lib.hid hw0.symm
  have Hs := Lib.hid (And.intro (hs.below hb0.out (Nat.le_refl _)) hz)
  have H8 := Lib.hid hb8
  clear hs hz hn hb8 hw0
  by_cases hlong : 504 < n
  · have hd := Lib.hid (decF_no (decFS_out (l := l) (.inl (by rw [Hn.out]; exact hlong))))
    have d1 : decide (504 < (n : Int)) = true := decide_eq_true (by omega)
    go_enter Tryd.func9, Tryd.ntmps9
    go_wp2
    refine bodyPost_ret (v := .tuple #[.agg #[zF, zF], .iface 47 (.int .i64 3)]) (by rw [results_cell_tmp rfl]; go_simp) rfl ⟨zF, zF, by rw [hd.out.2.2]; rfl, by rw [hd.out.1]; exact TxV.none _, by rw [hd.out.2.1]; exact PgV.none _, ?_⟩
    have := hb0.out
    rw [← hw0'.out] at this
    exact this
  · have d1 : decide (504 < (n : Int)) = false := decide_eq_false (by omega)
    have hst := Lib.hid (stF_start l)
    have hnx := Lib.hid (fun ks is S => stF_next (l := l) (ks := ks) (is := is) (S := S))
    have hend := Lib.hid (fun ks is S => stF_end (l := l) (ks := ks) (is := is) (S := S))
    go_enter Tryd.func9, Tryd.ntmps9
    go_wp2_with fail
    rw [hw0'.out]
    refine (new_any a n c l Hn.out w0 Hs.out.1 Hs.out.2 (by omega) H8.out).mono ?_
    rintro e w1 ⟨b, rfl, hbb, hr1, hb1⟩
    have hbw : Hid (w.heap.size ≤ b ∧ b ≠ w.heap.size ∧ b < w1.heap.size ∧ w.heap.size < w1.heap.size) := by
      have h1 := hsz0.out
      have h2 := hr1.lt
      have h3 := hb1.size
      show _ ∧ _ ∧ _ ∧ _
      omega
    have Hr1 := Lib.hid hr1.rb
    have hres1 := Lib.hid (hres.out.ext hb1)
    have Hb1 := Lib.hid (hb0.out.trans (hb1.mono hb0.out.size))
    clear hbb hr1 hb1 hres hb0 hw0' hsz0 Hs
    have htk := Lib.hid (brTake_any w1 b w1.heap.size ⟨l, false⟩ Hr1.out)
    have htl := Lib.hid (tk2_b8 (S := ⟨l, false⟩) H8.out)
    obtain ⟨⟨P0, S0⟩, hT⟩ : ∃ T, T = tk2 ⟨l, false⟩ := ⟨_, rfl⟩
    rw [← hT] at htk hst htl
    dsimp only at htk hst htl
    have hS0l : Hid (S0.l.length ≤ 504) := by
      show _ ≤ _
      have e : S0 = (tk2 ⟨l, false⟩).2 := by rw [← hT]
      rw [e]
      have h1 := Hn.out
      rcases Nat.lt_or_ge l.length 2 with h | h
      · rw [tk2_short false h]; simp
      · rw [tk2_ok false h]; show (List.drop 2 l).length ≤ _; rw [List.length_drop]; omega
    clear hT
    go_wp2_with fail
    refine htk.out.mono ?_
    rintro e w2 ⟨rfl, hr2, ht2⟩
    have hrow : Hid (Below w2.heap.size w2 (w2.alloc (.cells #[.int .i64 (P0 : Int)] ITY))) := (Below.refl _ _).alloc (Nat.le_refl _) _
    have Hr2 := Lib.hid hr2
    have Ht2 := Lib.hid ht2
    clear hr2 ht2 htk Hr1
    dsimp only
    go_wp2_with fail
    obtain ⟨p, hp⟩ : ∃ p, p = w2.heap.size + 1 := ⟨_, rfl⟩
    have hpw : Hid (w1.heap.size ≤ p) := by show _ ≤ _; rw [hp]; have := Ht2.out.size; omega
    obtain ⟨wL, hwL⟩ : ∃ x, x = (w2.alloc (.cells #[.int .i64 (P0 : Int)] ITY)).alloc (.cells #[.slice none 0 0, .slice (some ⟨w2.heap.size, 0, none⟩) 1 1] FT) := ⟨_, rfl⟩
    have hI0 : Hid (DecI w w1 wL l b p [] [(P0 : Int)] S0 zF (.slice (some ⟨w2.heap.size, 0, none⟩) 1 1)) := by
      have hb2 : Below w.heap.size w w2 := Hb1.out.trans (Ht2.out.below Hb1.out.size (fun i e => by subst e; exact hbw.out.1))
      have ha := hrow.out
      have hb : Below (w2.alloc (.cells #[.int .i64 (P0 : Int)] ITY)).heap.size (w2.alloc (.cells #[.int .i64 (P0 : Int)] ITY)) wL := by rw [hwL]; exact (Below.refl _ _).alloc (Nat.le_refl _) _
      have hab : Below w2.heap.size w2 wL := ha.trans (hb.mono ha.size)
      have e1 : (w2.alloc (.cells #[.int .i64 (P0 : Int)] ITY)).heap.size = w2.heap.size + 1 := by simp
      have ho : (w2.alloc (.cells #[.int .i64 (P0 : Int)] ITY)).ownsRow w1.heap.size ITY 1 (.slice (some ⟨w2.heap.size, 0, none⟩) 1 1) 1 (iv [(P0 : Int)]) :=
        own_page w2 w1.heap.size (P0 : Int) Ht2.out.size
      refine ⟨hst.out, Hr2.out.below hab, ?_, World.ownsRow_nil _ _ _ _, own_below ho hb (Nat.le_refl _), (hres1.out.turn Ht2.out (fun e => hbw.out.2.1 e.symm)).ext hab, Nat.le_trans Ht2.out.size hab.size, hb2.trans (hab.mono hb2.size)⟩
      rw [hwL, hp, ← e1]; exact PB.new _ _ _ _
    have hwL' := Lib.hid hwL.symm
    rw [← hwL, ← hp]
    have hbp : Hid (p ≠ b) := by show _ ≠ _; have := hbw.out; have := hpw.out; omega
    clear hwL hwL' hp hrow hst Hr2 Ht2 htl hres1
    go_loopg [17] S0.l.length (fun k _ wr => ∃ (ks : List ByteArray) (is : List Int) (S : RS) (u v : Value), Hid (S.l.length = k) ∧ k + ks.length ≤ 504 ∧ is.length = ks.length + 1 ∧ Hid (DecI w w1 wr l b p ks is S u v))
    case atStart => exact ⟨[], [(P0 : Int)], S0, _, _, rfl, by have := hS0l.out; simp; omega, rfl, hI0⟩
    case round =>
      obtain ⟨ks, is, S, u, v, hk, hkn, hin, hI⟩ := hrel
      have hlf := left_any wr b S hI.out.rd.rd
      rw [hk.out] at hlf
      have Hlf := Lib.hid hlf
      clear hlf
      by_cases h0 : 0 < gk
      · have d2 : decide (0 < (gk : Int)) = true := decide_eq_true (by omega)
        have hne : Hid (S.l ≠ []) := fun e => by have := hk.out; rw [e] at this; simp at this; omega
        have hnx2 := Lib.hid (hnx.out ks is S hI.out.st hne.out)
        have hby := Lib.hid (rbytesB_any wr.drew b w1.heap.size S (hI.out.rd.below (Below.refl _ _).drew) 40 40 rfl (by omega) (by omega))
        obtain ⟨⟨KL, S1⟩, hBS⟩ : ∃ B, B = bytesS S 40 := ⟨_, rfl⟩
        rw [← hBS] at hnx2 hby
        dsimp only at hnx2 hby
        have hfk := Lib.hid hI.out.fk
        have hfkd : Hid (PB wr.drew p FT u v) := hI.out.fk.ext (Below.refl _ _).drew
        replace hfk := hfkd
        have hpb : Hid (¬ p = b) := hbp.out
        clear hBS hI0
        go_wp2_with fail
        refine Hlf.out.mono ?_
        rintro e w' ⟨rfl, rfl⟩
        go_wp2_with fail
        refine wp_region_gx (fun _ => True) (.rd 0 (.rd 2 (.two 1 (.call 3 (.call 4 (.call 5 (.call 6 (.rd 7 (.call 8 .done)))))) 3 (.two 1 (.call 4 (.call 5 (.call 6 (.rd 7 (.call 8 .done))))) 4 (.two 1 (.call 5 (.call 6 (.rd 7 (.call 8 .done)))) 5 (.call 1 (.call 6 (.rd 7 (.call 8 .done))))))))) (by kernel_rfl) (by kernel_rfl) (by kernel_rfl) (by kernel_rfl) (fun _ _ _ _ _ h => h) ?_
        iterate 2 (refine wpGx_read (o := ⟨_, _, _, _, _, _⟩) (v := ?_) rfl (by rfl) ?_ ?_; rotate_left; (intro w' hw'; go_simp; with_reducible rfl); simp only [Act.put, List.setIfInBounds_toArray, List.set_cons_zero, List.set_cons_succ])
        apply share
        case h =>
          intro share_k
          refine ⟨?_, ?_⟩
          · refine stepX_call (o := ⟨_, _, _, _, _, _⟩) rfl (by rfl) (fun K hK => ?_)
            have cl := hfkd.out.c0
            go_simp
            clear cl
            refine hK (fun _ => True) (fun _ _ _ => trivial) _ _ (Turn.refl _ _) ?_
            clear hK K
            refine stepX_call (o := ⟨_, _, _, _, _, _⟩) rfl (by rfl) (fun K hK => ?_)
            go_simp
            refine hby.out.mono ?_
            rintro e w3 ⟨v3, rfl, hv3, hr3, ht3⟩
            refine hK (fun _ => True) (fun _ _ _ => trivial) _ _ (ht3.mono (fun _ _ _ => trivial)) ?_
            clear hK K
            have Hv3 := Lib.hid hv3
            have Hr3 := Lib.hid hr3
            have Ht3 := Lib.hid ht3
            have Hk3 : Hid (PB w3 p FT u v) := hfk.out.turn ht3 hpb.out
            clear hv3 hr3 ht3
            refine stepX_call (o := ⟨_, _, _, _, _, _⟩) rfl (by rfl) (fun K hK => ?_)
            have cv := Hv3.out.conv
            go_simp
            clear cv
            refine hK (fun _ => True) (fun _ _ _ => trivial) _ _ (Turn.refl _ _) ?_
            clear hK K
            refine stepX_call (o := ⟨_, _, _, _, _, _⟩) rfl (by rfl) (fun K hK => ?_)
            go_simp
            refine hK (fun _ => True) (fun _ _ _ => trivial) _ _ (turn_new w3 _ _) ?_
            clear hK K
            revert Hv3 Hr3 Ht3 Hk3
            revert w3
            revert v3
            exact share_k
          · refine stepX_call (o := ⟨_, _, _, _, _, _⟩) rfl (by rfl) (fun K hK => ?_)
            go_simp
            refine hby.out.mono ?_
            rintro e w3 ⟨v3, rfl, hv3, hr3, ht3⟩
            refine hK (fun _ => True) (fun _ _ _ => trivial) _ _ (ht3.mono (fun _ _ _ => trivial)) ?_
            clear hK K
            have Hv3 := Lib.hid hv3
            have Hr3 := Lib.hid hr3
            have Ht3 := Lib.hid ht3
            have Hk3 : Hid (PB w3 p FT u v) := hfk.out.turn ht3 hpb.out
            clear hv3 hr3 ht3
            refine ⟨?_, ?_⟩
            · refine stepX_call (o := ⟨_, _, _, _, _, _⟩) rfl (by rfl) (fun K hK => ?_)
              have cl := Hk3.out.c0
              go_simp
              clear cl
              refine hK (fun _ => True) (fun _ _ _ => trivial) _ _ (Turn.refl _ _) ?_
              clear hK K
              refine stepX_call (o := ⟨_, _, _, _, _, _⟩) rfl (by rfl) (fun K hK => ?_)
              have cv := Hv3.out.conv
              go_simp
              clear cv
              refine hK (fun _ => True) (fun _ _ _ => trivial) _ _ (Turn.refl _ _) ?_
              clear hK K
              refine stepX_call (o := ⟨_, _, _, _, _, _⟩) rfl (by rfl) (fun K hK => ?_)
              go_simp
              refine hK (fun _ => True) (fun _ _ _ => trivial) _ _ (turn_new w3 _ _) ?_
              clear hK K
              revert Hv3 Hr3 Ht3 Hk3
              revert w3
              revert v3
              exact share_k
            · refine stepX_call (o := ⟨_, _, _, _, _, _⟩) rfl (by rfl) (fun K hK => ?_)
              have cv := Hv3.out.conv
              go_simp
              clear cv
              refine hK (fun _ => True) (fun _ _ _ => trivial) _ _ (Turn.refl _ _) ?_
              clear hK K
              refine ⟨?_, ?_⟩
              · refine stepX_call (o := ⟨_, _, _, _, _, _⟩) rfl (by rfl) (fun K hK => ?_)
                have cl := Hk3.out.c0
                go_simp
                clear cl
                refine hK (fun _ => True) (fun _ _ _ => trivial) _ _ (Turn.refl _ _) ?_
                clear hK K
                refine stepX_call (o := ⟨_, _, _, _, _, _⟩) rfl (by rfl) (fun K hK => ?_)
                go_simp
                refine hK (fun _ => True) (fun _ _ _ => trivial) _ _ (turn_new w3 _ _) ?_
                clear hK K
                revert Hv3 Hr3 Ht3 Hk3
                revert w3
                revert v3
                exact share_k
              · refine stepX_call (o := ⟨_, _, _, _, _, _⟩) rfl (by rfl) (fun K hK => ?_)
                go_simp
                refine hK (fun _ => True) (fun _ _ _ => trivial) _ _ (turn_new w3 _ _) ?_
                clear hK K
                refine stepX_call (o := ⟨_, _, _, _, _, _⟩) rfl (by rfl) (fun K hK => ?_)
                have cl := (Hk3.out.stay (.cells #[.string (bstr KL)] STY)).c0
                go_simp
                clear cl
                refine hK (fun _ => True) (fun _ _ _ => trivial) _ _ (Turn.refl _ _) ?_
                clear hK K
                revert Hv3 Hr3 Ht3 Hk3
                revert w3
                revert v3
                exact share_k
        case k =>
          intro v3 w3 Hv3 Hr3 Ht3 Hk3
          clear hby hfk hfkd Hlf hne Hk3
          have hnw : Hid (Below w3.heap.size w3 (w3.alloc (.cells #[.string (bstr KL)] STY))) := (Below.refl _ _).alloc (Nat.le_refl _) _
          have Ht : Hid (Turn (fun i => i = b) wr w3) := (Turn.ofBelow (Below.refl wr.heap.size wr).drew).trans Ht3.out
          have hou : Hid ((w3.alloc (.cells #[.string (bstr KL)] STY)).ownsRow w1.heap.size STY 1 u ks.length (sv ks)) :=
            own_below (own_turnF hI.out.ku Ht.out (fun i hi e => by have := own_ge hI.out.ku i hi; have := hbw.out; omega)) hnw.out (Nat.le_refl _)
          have hz3 : Hid (w1.heap.size ≤ (w3.alloc (.cells #[.string (bstr KL)] STY)).heap.size) := Nat.le_trans hI.out.size (Nat.le_trans Ht.out.size hnw.out.size)
          have hc3 : Hid ((w3.alloc (.cells #[.string (bstr KL)] STY)).cell? ⟨w3.heap.size, 0, none⟩ = some (.string (bstr KL))) := by show _ = _; simp
          refine stepX_call (o := ⟨_, _, _, _, _, _⟩) rfl (by rfl) (fun K hK => ?_)
          refine wp_append_text (.tmp 21) (.tmp 25) 22 rfl w1.heap.size STY Tryd.underlying22 infoStr u ks (by rfl) hou w3.heap.size 1 (bstr KL) (by rfl) hc3.out (by omega) hz3.out ?_
          intro u' w5 ho5 hg5
          refine hK (fun _ => True) (fun _ _ _ => trivial) _ _ ((turn_grown hg5.out).mono (fun _ _ _ => trivial)) ?_
          clear hK K
          have hN := Lib.hid (hI.out.next hbw.out.2.2.1 hpw.out hbw.out.2.2.2 hbw.out.1 hbw.out.2.1 Ht.out Hr3.out hnw.out hg5.out ho5.out)
          obtain ⟨au, nu, cu, rfl⟩ : ∃ au nu cu, u' = .slice au nu cu := by
            obtain ⟨au, cu, e, _⟩ := own_texts ho5.out
            exact ⟨au, _, cu, e⟩
          have z0 := hN.out.2.2.2.2.2.2.2.c0
          have y0 := hN.out.2.2.2.2.2.2.2.fz 0
          clear hou hz3 hc3 hnw Ht ho5 hg5 Hv3 Hr3 Ht3 hI
          iterate 1 (refine wpGx_read (o := ⟨_, _, _, _, _, _⟩) (v := ?_) rfl (by rfl) ?_ ?_; rotate_left; (intro w' hw'; go_simp; with_reducible rfl); simp only [Act.put, List.setIfInBounds_toArray, List.set_cons_zero, List.set_cons_succ])
          refine stepX_call (o := ⟨_, _, _, _, _, _⟩) rfl (by rfl) (fun K hK => ?_)
          go_simp
          refine hK (fun _ => True) (fun _ _ _ => trivial) _ _ ((turn_set1 w5 p 0 _).mono (fun _ _ _ => trivial)) ?_
          clear hK K z0 y0
          refine wpGx_done ?_
          obtain ⟨wX, hwX⟩ : ∃ x, x = w5.setCell ⟨p, 0, none⟩ (.slice au nu cu) := ⟨_, rfl⟩
          rw [← hwX] at hN ⊢
          clear hwX
          obtain ⟨ksN, hksN⟩ : ∃ x, x = ks ++ [bstr KL] := ⟨_, rfl⟩
          have hkl : ksN.length = ks.length + 1 := by rw [hksN]; simp
          rw [← hksN] at hN hnx2
          clear hksN
          have htk := Lib.hid (brTake_any wX.drew b w1.heap.size S1 (hN.out.1.below (Below.refl _ _).drew))
          obtain ⟨⟨P1, S2⟩, hT⟩ : ∃ T, T = tk2 S1 := ⟨_, rfl⟩
          rw [← hT] at htk hnx2
          dsimp only at htk hnx2
          clear hT
          have hfkd : Hid (PB wX.drew p FT (.slice au nu cu) v) := hN.out.2.1.ext (Below.refl _ _).drew
          go_wp2_with fail
          refine wp_region_gx (fun _ => True) (.rd 0 (.rd 2 (.two 1 (.call 3 (.call 4 (.call 5 (.rd 6 (.call 7 .done))))) 3 (.two 1 (.call 4 (.call 5 (.rd 6 (.call 7 .done)))) 4 (.call 1 (.call 5 (.rd 6 (.call 7 .done)))))))) (by kernel_rfl) (by kernel_rfl) (by kernel_rfl) (by kernel_rfl) (fun _ _ _ _ _ h => h) ?_
          iterate 2 (refine wpGx_read (o := ⟨_, _, _, _, _, _⟩) (v := ?_) rfl (by rfl) ?_ ?_; rotate_left; (intro w' hw'; go_simp; with_reducible rfl); simp only [Act.put, List.setIfInBounds_toArray, List.set_cons_zero, List.set_cons_succ])
          apply share
          case h =>
            intro share_k
            refine ⟨?_, ?_⟩
            · refine stepX_call (o := ⟨_, _, _, _, _, _⟩) rfl (by rfl) (fun K hK => ?_)
              have cl := hfkd.out.c1
              go_simp
              clear cl
              refine hK (fun _ => True) (fun _ _ _ => trivial) _ _ (Turn.refl _ _) ?_
              clear hK K
              refine stepX_call (o := ⟨_, _, _, _, _, _⟩) rfl (by rfl) (fun K hK => ?_)
              go_simp
              refine htk.out.mono ?_
              rintro e w3 ⟨rfl, hr3, ht3⟩
              refine hK (fun _ => True) (fun _ _ _ => trivial) _ _ (ht3.mono (fun _ _ _ => trivial)) ?_
              clear hK K
              have Hr3 := Lib.hid hr3
              have Ht3 := Lib.hid ht3
              have Hk3 : Hid (PB w3 p FT (.slice au nu cu) v) := hfkd.out.turn ht3 hpb.out
              clear hr3 ht3
              refine stepX_call (o := ⟨_, _, _, _, _, _⟩) rfl (by rfl) (fun K hK => ?_)
              go_simp
              refine hK (fun _ => True) (fun _ _ _ => trivial) _ _ (turn_new w3 _ _) ?_
              clear hK K
              revert Hr3 Ht3 Hk3
              revert w3
              exact share_k
            · refine stepX_call (o := ⟨_, _, _, _, _, _⟩) rfl (by rfl) (fun K hK => ?_)
              go_simp
              refine htk.out.mono ?_
              rintro e w3 ⟨rfl, hr3, ht3⟩
              refine hK (fun _ => True) (fun _ _ _ => trivial) _ _ (ht3.mono (fun _ _ _ => trivial)) ?_
              clear hK K
              have Hr3 := Lib.hid hr3
              have Ht3 := Lib.hid ht3
              have Hk3 : Hid (PB w3 p FT (.slice au nu cu) v) := hfkd.out.turn ht3 hpb.out
              clear hr3 ht3
              refine ⟨?_, ?_⟩
              · refine stepX_call (o := ⟨_, _, _, _, _, _⟩) rfl (by rfl) (fun K hK => ?_)
                have cl := Hk3.out.c1
                go_simp
                clear cl
                refine hK (fun _ => True) (fun _ _ _ => trivial) _ _ (Turn.refl _ _) ?_
                clear hK K
                refine stepX_call (o := ⟨_, _, _, _, _, _⟩) rfl (by rfl) (fun K hK => ?_)
                go_simp
                refine hK (fun _ => True) (fun _ _ _ => trivial) _ _ (turn_new w3 _ _) ?_
                clear hK K
                revert Hr3 Ht3 Hk3
                revert w3
                exact share_k
              · refine stepX_call (o := ⟨_, _, _, _, _, _⟩) rfl (by rfl) (fun K hK => ?_)
                go_simp
                refine hK (fun _ => True) (fun _ _ _ => trivial) _ _ (turn_new w3 _ _) ?_
                clear hK K
                refine stepX_call (o := ⟨_, _, _, _, _, _⟩) rfl (by rfl) (fun K hK => ?_)
                have cl := (Hk3.out.stay (.cells #[.int .i64 (P1 : Int)] ITY)).c1
                go_simp
                clear cl
                refine hK (fun _ => True) (fun _ _ _ => trivial) _ _ (Turn.refl _ _) ?_
                clear hK K
                revert Hr3 Ht3 Hk3
                revert w3
                exact share_k
          case k =>
            intro w3 Hr3 Ht3 Hk3
            clear htk hfkd Hk3
            have hnw : Hid (Below w3.heap.size w3 (w3.alloc (.cells #[.int .i64 (P1 : Int)] ITY))) := (Below.refl _ _).alloc (Nat.le_refl _) _
            have Ht : Hid (Turn (fun i => i = b) wX w3) := (Turn.ofBelow (Below.refl wX.heap.size wX).drew).trans Ht3.out
            have hou : Hid ((w3.alloc (.cells #[.int .i64 (P1 : Int)] ITY)).ownsRow w1.heap.size ITY 1 v is.length (iv is)) :=
              own_below (own_turnF hN.out.2.2.2.1 Ht.out (fun i hi e => by have := own_ge hN.out.2.2.2.1 i hi; have := hbw.out; omega)) hnw.out (Nat.le_refl _)
            have hz3 : Hid (w1.heap.size ≤ (w3.alloc (.cells #[.int .i64 (P1 : Int)] ITY)).heap.size) := Nat.le_trans hN.out.2.2.2.2.2.1 (Nat.le_trans Ht.out.size hnw.out.size)
            have hc3 : Hid ((w3.alloc (.cells #[.int .i64 (P1 : Int)] ITY)).cell? ⟨w3.heap.size, 0, none⟩ = some (.int .i64 (P1 : Int))) := by show _ = _; simp
            refine stepX_call (o := ⟨_, _, _, _, _, _⟩) rfl (by rfl) (fun K hK => ?_)
            refine wp_append_page (.tmp 29) (.tmp 32) 23 rfl w1.heap.size ITY Tryd.underlying23 infoInt v is (by rfl) hou w3.heap.size 1 (P1 : Int) (by rfl) hc3.out (by omega) hz3.out ?_
            intro v' w6 ho6 hg6
            refine hK (fun _ => True) (fun _ _ _ => trivial) _ _ ((turn_grown hg6.out).mono (fun _ _ _ => trivial)) ?_
            clear hK K
            have hI2 := Lib.hid (DecI.next2 hN.out.1 hN.out.2.1 hN.out.2.2.1 hN.out.2.2.2.1 hN.out.2.2.2.2.1 hN.out.2.2.2.2.2.1 hN.out.2.2.2.2.2.2.1 hbw.out.2.2.1 hpw.out hbw.out.2.2.2 hbw.out.1 hbw.out.2.1 Ht.out Hr3.out hnw.out hg6.out ho6.out hnx2.out.1)
            obtain ⟨av, nv, cv, rfl⟩ : ∃ av nv cv, v' = .slice av nv cv := by
              obtain ⟨av, cv, e, _⟩ := own_pages ho6.out
              exact ⟨av, _, cv, e⟩
            have z0 := hI2.out.2.c1
            have y0 := hI2.out.2.fz 1
            have hlt := Lib.hid hnx2.out.2
            clear hou hz3 hc3 hnw Ht ho6 hg6 Hr3 Ht3 hN
            iterate 1 (refine wpGx_read (o := ⟨_, _, _, _, _, _⟩) (v := ?_) rfl (by rfl) ?_ ?_; rotate_left; (intro w' hw'; go_simp; with_reducible rfl); simp only [Act.put, List.setIfInBounds_toArray, List.set_cons_zero, List.set_cons_succ])
            refine stepX_call (o := ⟨_, _, _, _, _, _⟩) rfl (by rfl) (fun K hK => ?_)
            go_simp
            refine hK (fun _ => True) (fun _ _ _ => trivial) _ _ ((turn_set1 w6 p 1 _).mono (fun _ _ _ => trivial)) ?_
            clear hK K z0 y0
            refine wpGx_done ?_
            have hI3 := Lib.hid hI2.out.1
            clear hI2 hnx2
            go_wp2_with fail
            go_roundg S2.l.length
            case measure => have := hlt.out; have := hk.out; omega
            case rel => exact ⟨ksN, is ++ [(P1 : Int)], S2, _, _, rfl, by have := hlt.out; have := hk.out; omega, by simp; omega, hI3⟩
      · obtain rfl : gk = 0 := by omega
        have hnil : Hid (S.l = []) := List.eq_nil_of_length_eq_zero hk.out
        have he := hend.out ks is S hI.out.st hnil.out (by rw [Hn.out]; omega)
        have he1 := Lib.hid (fun h => decF_no (he.1 h))
        have he2 := Lib.hid (fun h h2 => decF_no (he.2.1 h h2))
        have he3 := Lib.hid (fun h h2 => decF_yes (he.2.2 h h2))
        have hdn := Lib.hid (done_any wr b S hI.out.rd.rd)
        obtain ⟨au, cu, rfl, htx⟩ := own_texts hI.out.ku
        obtain ⟨av, cv, rfl, hpx⟩ := own_pages hI.out.kv
        have Htx := Lib.hid (And.intro htx hpx)
        have f0 := hI.out.fk.c0
        have f1 := hI.out.fk.c1
        clear he htx hpx hnx hend hI0 hnil
        go_wp2_with fail
        refine Hlf.out.mono ?_
        rintro e w' ⟨rfl, rfl⟩
        cases hok : okS S with
        | false =>
          have hd := Lib.hid (he1.out hok)
          have hdv : doneV S = errV 3 := by unfold doneV; rw [hok]; rfl
          rw [hdv] at hdn
          clear he1 he2 he3 hok hdv
          go_wp2_with fail
          refine hdn.out.mono ?_
          rintro e w' ⟨rfl, rfl⟩
          rw [errV_3]
          have r0 := hI.out.res.c0
          have r1 := hI.out.res.c1
          have g0 := hI.out.res.fz 0
          have g1 := hI.out.res.fz 1
          have R1 := (hI.out.res.set0 zF).set1 zF
          have y0 := R1.c0
          have y1 := R1.c1
          have hB : Hid (Below w.heap.size w ((wr.setCell ⟨w.heap.size, 0, none⟩ zF).setCell ⟨w.heap.size, 1, none⟩ zF)) := (hI.out.below.setCell (p := ⟨w.heap.size, 0, none⟩) (Nat.le_refl _) _).setCell (p := ⟨w.heap.size, 1, none⟩) (Nat.le_refl _) _
          clear R1
          go_wp2
          refine bodyPost_ret (v := .tuple #[.agg #[zF, zF], .iface 47 (.int .i64 3)]) (by rw [results_cell_tmp rfl]; go_simp) rfl ⟨zF, zF, by rw [hd.out.2.2]; rfl, by rw [hd.out.1]; exact TxV.none _, by rw [hd.out.2.1]; exact PgV.none _, hB.out⟩
        | true =>
          have hdv : doneV S = .nilIface := by unfold doneV; rw [hok]; rfl
          rw [hdv] at hdn
          have he2' := Lib.hid (he2.out hok)
          have he3' := Lib.hid (he3.out hok)
          have hch := Lib.hid (brCheck_any au av ks.length cu is.length cv ks is wr rfl rfl Htx.out.1.1 Htx.out.2.1 (by omega) (by omega))
          have hKl : Hid (ks.length = ks.length ∧ is.length = is.length) := ⟨rfl, rfl⟩
          obtain ⟨nk, hnk⟩ : ∃ x, x = ks.length := ⟨_, rfl⟩
          obtain ⟨ni, hni⟩ : ∃ x, x = is.length := ⟨_, rfl⟩
          have hni65 : ni ≤ 505 := by omega
          replace hKl : Hid (ks.length = nk ∧ is.length = ni) := ⟨hnk.symm, hni.symm⟩
          have HI := Lib.hid hI.out
          rw [← hnk] at f0
          rw [← hni] at f1
          rw [← hnk, ← hni] at hch
          clear he1 he2 he3 hok hdv hnk hni
          go_wp2_with fail
          refine hdn.out.mono ?_
          rintro e w' ⟨rfl, rfl⟩
          go_wp2_with fail
          refine hch.out.mono ?_
          rintro e w6 ⟨D, rfl, hD, hb6⟩
          have HD := Lib.hid hD
          have Hb6 := Lib.hid (HI.out.below.trans (hb6.mono HI.out.below.size))
          have Hr6 := Lib.hid (HI.out.res.ext hb6)
          have Hf6 := Lib.hid (HI.out.fk.ext hb6)
          have Ht6 := Lib.hid (And.intro (Htx.out.1.1.below hb6 (Nat.le_refl _)) (Htx.out.2.1.below hb6 (Nat.le_refl _)))
          clear hD hb6 hch f0 f1
          unfold chkF
          cases D with
          | false =>
            have hd := Lib.hid (he2'.out (fun h => by have := HD.out.2 h; cases this))
            clear he2' he3' HD
            simp only [Bool.false_eq_true, if_false]
            have r0 := Hr6.out.c0
            have r1 := Hr6.out.c1
            have g0 := Hr6.out.fz 0
            have g1 := Hr6.out.fz 1
            have R1 := (Hr6.out.set0 zF).set1 zF
            have y0 := R1.c0
            have y1 := R1.c1
            have hB : Hid (Below w.heap.size w ((w6.setCell ⟨w.heap.size, 0, none⟩ zF).setCell ⟨w.heap.size, 1, none⟩ zF)) := (Hb6.out.setCell (p := ⟨w.heap.size, 0, none⟩) (Nat.le_refl _) _).setCell (p := ⟨w.heap.size, 1, none⟩) (Nat.le_refl _) _
            clear R1
            go_wp2
            refine bodyPost_ret (v := .tuple #[.agg #[zF, zF], .iface 47 (.int .i64 3)]) (by rw [results_cell_tmp rfl]; go_simp) rfl ⟨zF, zF, by rw [hd.out.2.2]; rfl, by rw [hd.out.1]; exact TxV.none _, by rw [hd.out.2.1]; exact PgV.none _, hB.out⟩
          | true =>
            have hd := Lib.hid (he3'.out (HD.out.1 rfl))
            clear he2' he3' HD
            simp only [if_true]
            have f0 := Hf6.out.c0
            have f1 := Hf6.out.c1
            rw [hKl.out.1] at f0
            rw [hKl.out.2] at f1
            have r0 := Hr6.out.c0
            have r1 := Hr6.out.c1
            have g0 := Hr6.out.fz 0
            have g1 := Hr6.out.fz 1
            have R1 := (Hr6.out.set0 (.slice au nk cu)).set1 (.slice av ni cv)
            have y0 := R1.c0
            have y1 := R1.c1
            have hB : Hid (Below w.heap.size w ((w6.setCell ⟨w.heap.size, 0, none⟩ (.slice au nk cu)).setCell ⟨w.heap.size, 1, none⟩ (.slice av ni cv))) := (Hb6.out.setCell (p := ⟨w.heap.size, 0, none⟩) (Nat.le_refl _) _).setCell (p := ⟨w.heap.size, 1, none⟩) (Nat.le_refl _) _
            have hT := Lib.hid (res_turn w6 w.heap.size (.slice au nk cu) (.slice av ni cv) au av ks is zF zF FT Hr6.out Ht6.out.1 Ht6.out.2 rfl rfl)
            clear R1
            go_wp2
            refine bodyPost_ret (v := .tuple #[.agg #[.slice au nk cu, .slice av ni cv], .nilIface]) (by rw [results_cell_tmp rfl]; go_simp) rfl ⟨_, _, by rw [hd.out.2.2]; rfl, ?_, ?_, hB.out⟩
            · rw [hd.out.1]; exact ⟨au, cu, by rw [hKl.out.1], hT.out.1, Htx.out.1.2⟩
            · rw [hd.out.2.1]; exact ⟨av, cv, by rw [hKl.out.2], hT.out.2, Htx.out.2.2⟩
end Go.Proofs.YtjlllkdimfkjaaaDoor
