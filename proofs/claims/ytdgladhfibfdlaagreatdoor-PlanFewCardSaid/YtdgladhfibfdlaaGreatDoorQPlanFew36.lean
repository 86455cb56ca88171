/-
  What the law PlanFew stands on.
-/
import Derived.Test.YtdgladhfibfdlaaGreatDoorQPlanFew35
import Derived.Test.YtdgladhfibfdlaaGreatDoorQPlanFew06
namespace Go.Proofs.YtdgladhfibfdlaaGreatDoor
open Go Go.RowKit Go.Shelf
attribute [local go_sem] Oper.semAt_some
theorem strE_row : ∀ (ks : List ByteArray), strE.row ks = sv ks
  | [] => rfl
  | x :: r => by rw [Elt.row, strE_row r]; rfl
theorem lay_src {w : World} {B E : Nat} {a : Option Addr} {n c : Nat} {L : List Nat} (h : w.ownsRow B E 1 (.slice a n c) L.length (bv L)) : Src w a L := by
  obtain ⟨a', c', e, hs, _⟩ := (Sl.own h).arg
  injection e with e _ _
  rw [e]; exact hs
theorem keep_cells {F : Nat → Prop} {w w' : World} (t : Turn F w w') (hF : ∀ i, F i → ∃ A T fz, w.heap[i]? = some (.cells A T fz)) {k : Nat} {o : Obj} (hk : w.heap[k]? = some o) (ho : o.isCells = false) : w'.heap[k]? = some o :=
  t.hg hk (fun hf => by
    obtain ⟨A, T, fz, h⟩ := hF k hf
    rw [hk] at h
    injection h with h
    subst h; cases ho)
theorem LyI.cells {w : World} {gl B : Nat} {ps : List Nat} {ws : List PgW} (h : LyI w gl B ps ws) : ∀ i, LF w gl B i → ∃ A T fz, w.heap[i]? = some (.cells A T fz) := fun i hi => by
  obtain ⟨A, T, fz, h1, _⟩ := h.tf i hi
  exact ⟨A, T, fz, h1⟩
theorem ChI.round {w W W1 W2 : World} {s0 gl B b2 g6 g7 gp k A : Nat} {V : ByteArray} {ps pre : List Nat} {ws : List PgW} {L : List Nat} (hk : pre.length = k) (hBw : B ≤ w.heap.size) (h7w : w.heap.size ≤ g7) (hpw : w.heap.size ≤ gp) (h67 : gp ≠ g7)
    (h : ChI w W1 s0 gl B b2 g6 g7 gp V ps pre ws) (hb1 : Below W.heap.size W W1) (hL : beL (if k = 0 then 0 else na ps (k - 1)) 2 ++ bn (cutS V A) = L)
    (hly : LyI W2 gl B ((ps.drop k).drop 1) ((ws ++ wrB V ps pre) ++ [(na ps k, pageL 3 L)])) (t : Turn (LF W1 gl B) W1 W2) :
    (Boxed W2 g7 IT (.int .i64 ((if k = 0 then 0 else na ps (k - 1) : Nat) : Int)) ∧ Boxed W2 g6 SIT (.slice (some ⟨gp, 0, none⟩) (nP V.size) (nP V.size)) ∧ PRow W2 gp (fillP ps (nP V.size) pre)) ∧
    KeepsFrom s0 W ((W2.setCell ⟨g7, 0, none⟩ (.int .i64 (na ps k : Nat))).setCell ⟨gp, A, none⟩ (.int .i64 (na ps k : Nat))) ∧
    (∀ g8 v ks, BK W g8 v ks → BK ((W2.setCell ⟨g7, 0, none⟩ (.int .i64 (na ps k : Nat))).setCell ⟨gp, A, none⟩ (.int .i64 (na ps k : Nat))) g8 v ks) ∧
    ChI w ((W2.setCell ⟨g7, 0, none⟩ (.int .i64 (na ps k : Nat))).setCell ⟨gp, A, none⟩ (.int .i64 (na ps k : Nat))) s0 gl B b2 g6 g7 gp V ps (pre ++ [A]) ws := by
  have hl1 := h.ly
  rw [hk] at hl1
  have b7 := hl1.hg t h.b7
  rw [hk] at b7
  have b6 := hl1.hg t h.b6
  have bl := hl1.hg t h.bl
  have row : PRow W2 gp _ := hl1.hg t h.row
  refine ⟨⟨b7, b6, row⟩, ?_⟩
  have t2 : Turn (fun i => i = g7 ∨ i = gp) W2 ((W2.setCell ⟨g7, 0, none⟩ (.int .i64 (na ps k : Nat))).setCell ⟨gp, A, none⟩ (.int .i64 (na ps k : Nat))) := ((Turn.refl _ W2).setCell (p := ⟨g7, 0, none⟩) _ (fun _ => .inl rfl)).setCell (p := ⟨gp, A, none⟩) _ (fun _ => .inr rfl)
  have hT : TyF W2 (fun i => i = g7 ∨ i = gp) IT := fun i hi => by
    rcases hi with rfl | rfl
    · exact ⟨_, _, b7⟩
    · exact ⟨_, _, row⟩
  have hb7 : Boxed ((W2.setCell ⟨g7, 0, none⟩ (.int .i64 (na ps k : Nat))).setCell ⟨gp, A, none⟩ (.int .i64 (na ps k : Nat))) g7 IT (.int .i64 (na ps k : Nat)) := by
    have h1 : Boxed (W2.setCell ⟨g7, 0, none⟩ (.int .i64 (na ps k : Nat))) g7 IT (.int .i64 (na ps k : Nat)) := by
      have := heap_setCell_same W2 g7 0 _ IT (.int .i64 (na ps k : Nat)) b7
      unfold Boxed; simpa using this
    exact (Below.heap_setCell _ ⟨gp, A, none⟩ _ g7 h67.symm).trans h1
  have hrow : PRow ((W2.setCell ⟨g7, 0, none⟩ (.int .i64 (na ps k : Nat))).setCell ⟨gp, A, none⟩ (.int .i64 (na ps k : Nat))) gp (fillP ps (nP V.size) (pre ++ [A])) := by
    rw [fillP_snoc, hk]
    refine PRow.set (w := W2.setCell ⟨g7, 0, none⟩ (.int .i64 (na ps k : Nat))) ?_ A _
    exact (Below.heap_setCell W2 ⟨g7, 0, none⟩ _ gp h67).trans row
  generalize (W2.setCell ⟨g7, 0, none⟩ (.int .i64 (na ps k : Nat))).setCell ⟨gp, A, none⟩ (.int .i64 (na ps k : Nat)) = W4 at *
  have hc4 : ∀ i, (i = g7 ∨ i = gp) → ∃ A T fz, W2.heap[i]? = some (.cells A T fz) := fun i hi => by
    obtain ⟨A, fz, h1⟩ := hT i hi
    exact ⟨A, IT, fz, h1⟩
  refine ⟨⟨Nat.le_trans hb1.size (Nat.le_trans t.size t2.size), fun j o _ hj ho => keep_cells t2 hc4 (keep_cells t hl1.cells ((hb1.block j (Array.getElem?_eq_some_iff.1 hj).1).trans hj) ho) ho⟩, fun g8 v ks hbk => ⟨?_, ?_⟩, ?_⟩
  · have h1 : Boxed W1 g8 CSS v := (hb1.block _ hbk.1.lt).trans hbk.1
    have h2 := hl1.hg t h1
    exact t2.hg h2 (hT.not h2 (by decide))
  · exact ((hbk.2.ext hb1).turn strE_str t hl1.tf).tur t2 hT rfl
  · have e1 : (pre ++ [A]).length = k + 1 := by rw [List.length_append, hk]; rfl
    refine ⟨?_, t2.hg bl (hT.not bl (by decide)), t2.hg b6 (hT.not b6 (by decide)), ?_, hrow, ?_, Nat.le_trans h.sz (Nat.le_trans t.size t2.size)⟩
    · rw [e1, wrB_snoc, hk, hL, ← List.append_assoc]
      rw [List.drop_drop] at hly
      exact hly.tz t2 (fun i hi => ⟨by rcases hi with rfl | rfl <;> omega, by
        obtain ⟨A, fz, h1⟩ := hT i hi
        exact ⟨A, IT, fz, h1, by decide, by decide⟩⟩)
    · rw [e1, if_neg (by omega), Nat.add_sub_cancel]; exact hb7
    · exact LF.tz (LF.trans h.lt t) t2 (fun i hi => by rcases hi with rfl | rfl <;> omega)
set_option maxRecDepth 100000 in
set_option maxHeartbeats 2000000 in
theorem chain_any (gl B : Nat) (V : ByteArray) (ps : List Nat) (ws : List PgW) (w : World) (hI : LyI w gl B ps ws) (h64 : 64 < V.size) (hV : V.size ≤ 1000000) (hn : nP V.size ≤ ps.length) (hpb : ∀ x ∈ ps, 2 ≤ x ∧ x < 1024) (hwl : ws.length ≤ 50000) :
    Calls Tryz.prog 96 #[pt gl, .string V] w fun e w' => ∃ u, e = .returned u ∧ EV pgE w' u (ps.take (nP V.size)).reverse ∧ LyI w' gl B (ps.drop (nP V.size)) (ws ++ (List.range (nP V.size)).map (pcW V ps (nP V.size))) ∧ Turn (LF w gl B) w w' := by
  have HI := Lib.hid hI
  have HV := Lib.hid (And.intro h64 (And.intro hV (And.intro hn (And.intro hpb hwl))))
  obtain ⟨w0, hw0⟩ : ∃ w0, w.alloc (.cells #[pt gl] PLT) = w0 := ⟨_, rfl⟩
  have hb0 : Below w.heap.size w w0 := by rw [← hw0]; exact (Below.refl _ _).alloc (Nat.le_refl _) _
  have hbl : Boxed w0 w.heap.size PLT (pt gl) := by rw [← hw0]; exact Boxed.new w PLT (pt gl)
  have hP := Lib.hid (Pieces_in Fence.wide 3 trivial trivial trivial rfl (Nat.le_refl _) V hV w0)
  have hN2 : nP V.size ≤ 2000 := by unfold nP; omega
  have hN0 : 0 < nP V.size := by unfold nP; omega
  have Hw0 := Lib.hid hw0
  have Hbl := Lib.hid hbl
  have Hb0 := Lib.hid hb0
  have Hlen := Lib.hid (chs_len V)
  clear hI h64 hV hn hpb hwl hw0 hb0 hbl
  refine (callsIn_wide (n := 4)).1 ?_
  refine callsIn_of_wp_marks Tryz.func96 rfl trivial ?_ rfl
  simp only [Tryz.ntmps96, List.size_toArray, List.length_cons, List.length_nil, Nat.reduceAdd, Nat.reduceSub, Array.replicate_succ, Array.replicate_zero, List.push_toArray, List.append_toArray, List.nil_append, List.cons_append]
  gi_wp2_with (first
    | (refine ⟨trivial, ?_⟩; gi_at_call 128; rw [Hw0.out]; refine hP.out.mono ?_; rintro e w1 ⟨v, rfl, ho, hb1⟩; obtain ⟨vn, hvn⟩ : ∃ n, n = (chs V).length := ⟨_, rfl⟩; have ho1 := ho; rw [← strE_row] at ho; obtain ⟨va, vc, rfl, hes, _⟩ := own_ev (E := strE) ho; rw [Hlen.out])
    | (gi_at_make; refine wpListIn_make_pgs rfl _ _ _ rfl Tryz.underlying101 infoPg (nP V.size) (by rfl) (by rfl) (by omega) ?_; intro w2 hr2 hb2)
    | (refine ⟨trivial, ?_⟩; gi_at_call 129; refine (back_in Fence.wide 3 trivial rfl _ _ _ _).mono ?_; rintro e w' ⟨rfl, rfl⟩))
  have HW : Hid (∃ W3, W3 = (((w2.alloc (.cells #[.slice (some ⟨w1.heap.size, 0, none⟩) (nP V.size) (nP V.size)] SIT)).alloc (.cells #[.int .i64 0] IT)).alloc (.cells #[.slice va (nP V.size) vc] CSS))) := ⟨_, rfl⟩
  obtain ⟨W3, hW3⟩ := HW.out
  rw [← hW3]
  have s3 : W3.heap.size = w2.heap.size + 3 := by rw [hW3]; simp
  have hb3 : Below w2.heap.size w2 W3 := by
    rw [hW3]
    exact (((Below.refl w2.heap.size w2).alloc (Nat.le_refl _) _).alloc (by simp) _).alloc (by simp; omega) _
  have b6 : Boxed W3 w2.heap.size SIT (.slice (some ⟨w1.heap.size, 0, none⟩) (nP V.size) (nP V.size)) := by rw [hW3]; exact ((Boxed.new w2 _ _).alloc _).alloc _
  have b7 : Boxed W3 (w2.heap.size + 1) IT (.int .i64 0) := by
    rw [hW3]
    have := (Boxed.new (w2.alloc (.cells #[.slice (some ⟨w1.heap.size, 0, none⟩) (nP V.size) (nP V.size)] SIT)) IT (.int .i64 0)).alloc (.cells #[.slice va (nP V.size) vc] CSS)
    rwa [World.size_alloc] at this
  have b8 : Boxed W3 (w2.heap.size + 1 + 1) CSS (.slice va (nP V.size) vc) := by
    rw [hW3]
    have := Boxed.new ((w2.alloc (.cells #[.slice (some ⟨w1.heap.size, 0, none⟩) (nP V.size) (nP V.size)] SIT)).alloc (.cells #[.int .i64 0] IT)) CSS (.slice va (nP V.size) vc)
    rwa [World.size_alloc, World.size_alloc] at this
  have hB01 : Below w.heap.size w w1 := Hb0.out.trans (hb1.mono Hb0.out.size)
  have hB02 : Below w.heap.size w w2 := hB01.trans (hb2.mono hB01.size)
  have hB03 : Below w.heap.size w W3 := hB02.trans (hb3.mono hB02.size)
  have hz01 := hb1.size
  have hz12 := hb2.size
  have hlw0 := Hbl.out.lt
  have hbl3 : Boxed W3 w.heap.size PLT (pt gl) := (hb3.block _ (by omega)).trans ((hb2.block _ (by omega)).trans ((hb1.block _ (by omega)).trans Hbl.out))
  have hr3 : PRow W3 w1.heap.size (List.replicate (nP V.size) 0) := (hb3.block _ (Array.getElem?_eq_some_iff.1 hr2).1).trans hr2
  have hev : EV strE W3 (.slice va (nP V.size) vc) (chs V) := by
    have h1 : EV strE w1 (.slice va (chs V).length vc) (chs V) := own_ev (E := strE) ho
    rw [Hlen.out] at h1
    exact (h1.below hb2 (Nat.le_refl _)).below hb3 (Nat.le_refl _)
  have hbk : BK W3 (w2.heap.size + 1 + 1) (.slice va (nP V.size) vc) (chs V) := ⟨b8, hev⟩
  have hcl : (chs V).length ≤ 100000 := by rw [Hlen.out]; omega
  have h0 : ChI w W3 W3.heap.size gl B w.heap.size w2.heap.size (w2.heap.size + 1) w1.heap.size V ps (([] : List (_root_.Fin (chs V).length)).map _root_.Fin.val) ws :=
    ⟨by show LyI W3 gl B ps (ws ++ []); rw [List.append_nil]; exact HI.out.ext hB03, hbl3, b6, b7, hr3, Turn.ofBelow hB03, Nat.le_refl _⟩
  have hBw := HI.out.bz
  have hgB := HI.out.lt
  have hlw1 : w1.heap.size < w2.heap.size := (Array.getElem?_eq_some_iff.1 hr2).1
  have hwz : w.heap.size ≤ w1.heap.size := hB01.size
  clear b6 b7 b8 hbl3 hr3 hev hb3 hr2 hes ho ho1 hb1 hb2 hW3 hB01 hB02
  have HBK := Lib.hid hbk
  have HB03 := Lib.hid hB03
  have H0 := Lib.hid h0
  clear hbk hB03 h0
  generalize hg7 : w2.heap.size + 1 = g7 at *
  generalize hg8 : g7 + 1 = g8 at *
  generalize hg6 : w2.heap.size = g6 at *
  generalize hgp : w1.heap.size = gp at *
  refine wpIn_rangeFunc_ownG rfl (by omega) (gf := 165) (lb := #[.pointer (some ⟨g8, 0, none⟩)]) rfl trivial (enters_of Tryz.func165 (by kernel_rfl) rfl)
    (back_stops Fence.wide 3 trivial rfl (by omega) g8 (.slice va (nP V.size) vc) (chs V) hcl W3 HBK.out) (fun h k a => k (h a))
    (fun W l o o' _ hl ho _ hbx => by
      have t : Turn (fun i => i = l) W (W.putObj l o') := Turn.ofGrown (grownBy_putObj' W l o')
      have hF : NCF W (fun i => i = l) := fun i e => ⟨o, by rw [e]; exact hl, ho⟩
      exact ⟨t.hg hbx.1 (hF.not hbx.1), hbx.2.nc t hF⟩) (Below.refl _ _) (fun _ => rfl)
    (fun pre W => ChI w W W3.heap.size gl B w.heap.size g6 g7 gp V ps (pre.map _root_.Fin.val) ws) (fun _ _ _ => False)
    (ChI.from w W3.heap.size gl B w.heap.size g6 g7 gp V ps ws HB03.out.size _) (fun _ _ _ _ _ hs _ _ => hs) H0.out
    (fun x => { tmps := #[pt gl, .string V, .pointer (some ⟨w.heap.size, 0, none⟩), undef, .slice none 0 0, .slice va (nP V.size) vc, .pointer (some ⟨g6, 0, none⟩), .pointer (some ⟨g7, 0, none⟩), .int .i64 (x.val : Nat), .string (sa (chs V) x.val), undef, undef, .string V, .slice va (nP V.size) vc, .slice va (nP V.size) vc, .int .i64 (nP V.size : Nat), .slice (some ⟨gp, 0, none⟩) (nP V.size) (nP V.size), .slice va (nP V.size) vc, .func (.func 165) #[] #[.pointer (some ⟨g8, 0, none⟩)], .int .i64 (x.val : Nat), .string (sa (chs V) x.val), undef, undef, undef, undef, undef, undef, undef, undef, undef, undef, undef, undef, undef, undef], defers := [] }) ?assign ?body ?done ?stop
  case assign =>
    intro l x W K hK
    gi_wp2
    exact hK
  case stop =>
    rintro D c pre W _ _ h _
    exact h.elim
  case body =>
    rintro l pre ⟨A, hA⟩ W hch hlt
    dsimp only
    have hAn : A < nP V.size := by rw [Hlen.out] at hA; exact hA
    have hsx : sa (chs V) A = cutS V A := sa_pcT V _ _ hAn
    have hcs := cut_some hAn
    rw [hsx]
    obtain ⟨k, hk⟩ : ∃ k, (pre.map _root_.Fin.val).length = k := ⟨_, rfl⟩
    have hkl : k < nP V.size := by rw [← hk, List.length_map]; exact Nat.lt_of_lt_of_eq hlt Hlen.out
    obtain ⟨NX, hNX⟩ : ∃ NX : Nat, (if k = 0 then 0 else na ps (k - 1)) = NX := ⟨_, rfl⟩
    have hNXr : (NX = 0 ∨ 2 ≤ NX) ∧ NX < 1024 := by
      rw [← hNX]
      by_cases h0 : k = 0
      · rw [if_pos h0]; omega
      · rw [if_neg h0]
        have := HV.out.2.2.2.1 (na ps (k - 1)) (na_mem (by have := HV.out.2.2.1; omega))
        omega
    have hcok : chOk (NX : Int) (cutS V A) = true := by unfold chOk nextB sizeB; simp; omega
    have hB1 : chB (NX : Int) (cutS V A) = beL NX 2 ++ bn (cutS V A) := by unfold chB; rw [if_pos hcok]; rfl
    have hE := encCh_any (NX : Int) (cutS V A) W (by omega)
    rw [hB1] at hE
    generalize chE (NX : Int) (cutS V A) = EE at *
    have hb2 := hch.bl.cell
    have hb6 := hch.b6.cell
    have hb7 := hch.b7
    rw [hk, hNX] at hb7
    have hb7c := hb7.cell
    have Hch := Lib.hid hch
    have HE := Lib.hid hE
    have Hk := Lib.hid (And.intro hk (And.intro hkl (And.intro hNX hcs)))
    have HA := Lib.hid hAn
    clear hch hE hk hkl hNX hNXr hcok hB1 hsx hcs hlt hb7 hAn
    generalize hS : cutS V A = S at *
    have HS := Lib.hid hS
    clear hS
    gi_wp2_with fail
    refine ⟨trivial, (CallsIn.inRound l (callsIn_wide.2 HE.out)).mono ?_⟩
    rintro e W1 ⟨v, rfl, ho, hb1⟩
    obtain ⟨a1, c1, rfl, _⟩ := (Sl.own ho).arg
    obtain ⟨L, hL⟩ : ∃ L, beL NX 2 ++ bn S = L := ⟨_, rfl⟩
    obtain ⟨m, hm⟩ : ∃ m, L.length = m := ⟨_, rfl⟩
    rw [hL] at ho ⊢
    rw [hm] at ho ⊢
    have hm4 : m ≤ 504 := by
      rw [← hm, ← hL, List.length_append, beL_length]
      have := Hk.out.2.2.2.2
      have e1 := bn_len S
      omega
    have hb8 : B8 L := by rw [← hL]; exact B8.append (beL_b8 _ _) (bn_b8 _)
    have hch1 := ChI.ext Hch.out hb1
    have d2 := hch1.bl.cell
    have d6 := hch1.b6.cell
    have HB1 := Lib.hid hb1
    have Ho := Lib.hid ho
    have HL := Lib.hid (And.intro hL (And.intro hm (And.intro hm4 hb8)))
    have Hch1 := Lib.hid hch1
    clear hb1 ho hL hm hm4 hb8 hch1 HE Hch hb2 hb6 hb7c
    gi_wp2_with fail
    have hp0 : 0 < (ps.drop (pre.map _root_.Fin.val).length).length := by
      rw [List.length_drop, Hk.out.1]
      have := HV.out.2.2.1; have := Hk.out.2.1; omega
    have hwl : (ws ++ wrB V ps (pre.map _root_.Fin.val)).length ≤ 100000 := by
      rw [List.length_append, wrB_len, Hk.out.1]
      have := HV.out.2.2.2.2; have := Hk.out.2.1; omega
    refine ⟨trivial, (CallsIn.inRound l (callsIn_wide.2 (write_any gl B 3 m c1 a1 L _ _ W1 Hch1.out.ly hp0 hwl HL.out.2.1 (by omega) (by omega) HL.out.2.2.1 HL.out.2.2.2 (lay_src (c := c1) (by rw [HL.out.2.1]; exact Ho.out))))).mono ?_⟩
    rintro e W2 ⟨rfl, hly, ht⟩
    rw [na_drop, Nat.add_zero, Hk.out.1] at hly ⊢
    have hrd := ChI.round (w := w) (W := W) (W1 := W1) (W2 := W2) (b2 := w.heap.size) (g6 := g6) (g7 := g7) (gp := gp) (s0 := W3.heap.size) Hk.out.1 hBw (by omega) hwz (by omega) Hch1.out HB1.out (by rw [Hk.out.2.2.1, HS.out]; exact HL.out.1) hly ht
    rw [Hk.out.2.2.1] at hrd
    obtain ⟨⟨y7, y6, yr⟩, hrd⟩ := hrd
    obtain ⟨PG, hPG⟩ : ∃ PG, na ps k = PG := ⟨_, rfl⟩
    rw [hPG] at hrd ⊢
    have n67 : g6 ≠ g7 := by omega
    have np7 : gp ≠ g7 := by omega
    have x7 := y7.cell
    have z7 : W2.frozen? ⟨g7, 0, none⟩ = false := y7.frozen
    have yr' : (W2.setCell ⟨g7, 0, none⟩ (.int .i64 (PG : Nat))).heap[gp]? = some (.cells (pgv (fillP ps (nP V.size) (pre.map _root_.Fin.val))).toArray IT (0, 0)) := (Below.heap_setCell W2 ⟨g7, 0, none⟩ _ gp np7).trans yr
    have x6 : (W2.setCell ⟨g7, 0, none⟩ (.int .i64 (PG : Nat))).cell? ⟨g6, 0, none⟩ = some (.slice (some ⟨gp, 0, none⟩) (nP V.size) (nP V.size)) := Boxed.cell (t := SIT) ((Below.heap_setCell W2 ⟨g7, 0, none⟩ _ g6 n67).trans y6)
    have x8 : (W2.setCell ⟨g7, 0, none⟩ (.int .i64 (PG : Nat))).cell? ⟨g7, 0, none⟩ = some (.int .i64 (PG : Nat)) := World.cell?_setCell_same' _ _ _ (by rw [x7]; rfl)
    have hfl : A < (pgv (fillP ps (nP V.size) (pre.map _root_.Fin.val))).length := by unfold pgv; rw [List.length_map, fillP_len]; exact HA.out
    have xp : ∃ u, (W2.setCell ⟨g7, 0, none⟩ (.int .i64 (PG : Nat))).cell? ⟨gp, A, none⟩ = some u := ⟨(pgv (fillP ps (nP V.size) (pre.map _root_.Fin.val)))[A], by simp [World.cell?, yr', hfl]⟩
    obtain ⟨u9, xp⟩ := xp
    have zp : (W2.setCell ⟨g7, 0, none⟩ (.int .i64 (PG : Nat))).frozen? ⟨gp, A, none⟩ = false := by simp [World.frozen?, yr']
    have Hrd := Lib.hid hrd
    have hA2 := HA.out
    clear hrd hly ht y7 y6 yr yr' hfl hPG hp0 hwl Ho Hch1 d2 d6 hA2
    have hAi : (A : Int) < (nP V.size : Nat) := by have := HA.out; omega
    gi_wp2_with fail
    refine ⟨Hrd.out.1, Hrd.out.2.1 g8 _ _, ?_⟩
    show ChI w _ _ _ _ _ _ _ _ V ps (List.map _root_.Fin.val (pre ++ [⟨A, hA⟩])) ws
    rw [List.map_append]
    exact Hrd.out.2.2
  case done =>
    intro D ys W hD hys hch hK
    have e6 := hch.b6.cell
    have hly := hch.ly
    have hrow := hch.row
    have e1 : (ys.map _root_.Fin.val).length = nP V.size := by rw [hys, downL_len, Hlen.out]
    rw [e1] at hly
    rw [hys, Hlen.out, wrB_all] at hly
    rw [hys, Hlen.out, fillP_all ps (nP V.size) HV.out.2.2.1] at hrow
    have hev := hrow.ev (n := nP V.size) (by rw [List.length_reverse, List.length_take]; have := HV.out.2.2.1; omega) (by unfold maxLen; omega)
    have t : Turn (fun i => i = D) W (W.putObj D (.deferred none)) := Turn.ofGrown (grownBy_putObj' W D _)
    have hF : NCF W (fun i => i = D) := fun i e => ⟨.deferred (some []), (show i = D from e) ▸ hK, rfl⟩
    have Hfin : Hid (EV pgE (W.putObj D (.deferred none)) (.slice (some ⟨gp, 0, none⟩) (nP V.size) (nP V.size)) (ps.take (nP V.size)).reverse ∧ LyI (W.putObj D (.deferred none)) gl B (ps.drop (nP V.size)) (ws ++ (List.range (nP V.size)).map (pcW V ps (nP V.size))) ∧ Turn (LF w gl B) w (W.putObj D (.deferred none))) :=
      ⟨hev.nc t hF, hly.nc t hF, LF.nc hch.lt t (fun i hi => by have := HB03.out.size; omega)⟩
    clear hch hly hrow hev t hF e1 hys
    gi_wp2
    refine ⟨by simp, .inl ⟨_, _, rfl, run_takeDeferred hK, ?_⟩⟩
    exact ⟨_, results_tmp rfl _ _ _, .slice (some ⟨gp, 0, none⟩) (nP V.size) (nP V.size), rfl, Hfin.out⟩
end Go.Proofs.YtdgladhfibfdlaaGreatDoor
