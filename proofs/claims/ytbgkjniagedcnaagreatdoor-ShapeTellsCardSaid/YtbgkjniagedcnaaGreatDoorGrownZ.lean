/-
  The law's grown: a tree and the document's list, as they grow.
  tree's Of.
-/
import Derived.Test.YtbgkjniagedcnaaGreatDoorPutTZ
import Derived.Test.YtbgkjniagedcnaaGreatDoorByZ
import Derived.Test.YtbgkjniagedcnaaGreatDoorAsZ
namespace Go.Proofs.YtbgkjniagedcnaaGreatDoor
open Go Go.RowKit

theorem results_cell_two {fn : Func} {p u x : Tmp} {ty : TypeId} (h : fn.results = #[.cell p ty, .tmp u, .tmp x]) (tmps : Array Value) (P : Program) (w : World) :
    (results fn tmps).run P w =
      ((asAddr (tmps.getD p undef)).run P w).andThen fun a w₁ => ((loadVar ty a).run P w₁).andThen fun v w₂ => .ok (.tuple #[v, tmps.getD u undef, tmps.getD x undef]) w₂ := by
  simp only [results, h]
  simp [Sem.run_bind, Result.andThen]
theorem infoU8 : (Tryz.prog.info? 5).map (fun i => (i.zero, i.size, i.bytes)) = some (some (.int .u8 0), 1, 1) := by kernel_rfl
def strLen : Value → Nat | .string s => s.size | _ => 0
theorem app_size (a b : ByteArray) : (a ++ b).size = a.size + b.size := by simp
theorem tp_ok {es : List En} {key v : ByteArray} (hk : okK key = true) (hv : v.size ≤ 2048) (hl : es.length < 4096) : tpF es key v = 0 ∧ tpL es key v = rep es key [⟨key, v, []⟩] := by
  have : tpF es key v = 0 := by unfold tpF; rw [if_neg (by rw [hk]; decide), if_neg (by omega), if_neg (fun h => by omega)]
  exact ⟨this, by unfold tpL; rw [this]; rfl⟩
theorem tpL_len (es : List En) (key v : ByteArray) : (tpL es key v).length ≤ es.length + 1 := by
  unfold tpL
  split
  · have := rep_len es key [⟨key, v, []⟩]
    simp at this; omega
  · simp
/-- A tree of which nothing lies on a page. -/
def NewP (w : World) (p : Option Addr) (es : List En) (H : Nat) : Prop := ∃ ts, TreeT w p ts H ∧ esL ts = es ∧ (∀ e ∈ es, e.ch = [] ∧ e.v.size ≤ 89) ∧ ∀ q, (pgsL ts).count q = 0
theorem NewP.none (w : World) : NewP w Option.none [] 0 := ⟨[], TreeT.none w, rfl, fun e he => (by cases he), fun q => rfl⟩
theorem NewP.ext {w w' : World} {p : Option Addr} {es : List En} {H : Nat} (h : NewP w p es H) (hb : Below w.heap.size w w') : NewP w' p es H := by
  obtain ⟨ts, h1, h2⟩ := h
  exact ⟨ts, h1.ext hb, h2⟩
theorem NewP.turn {w w' : World} {F : Nat → Prop} {p : Option Addr} {es : List En} {H : Nat} (h : NewP w p es H) (t : Turn F w w') (hF : TF w F) : NewP w' p es H := by
  obtain ⟨ts, h1, h2⟩ := h
  exact ⟨ts, h1.turn t hF, h2⟩
theorem NewP.tp {w : World} {p : Option Addr} {es : List En} {H : Nat} (h : NewP w p es H) : TreeP w p es H := by
  obtain ⟨ts, h1, rfl, h2, _⟩ := h
  have := h1.tp
  rw [bare_own (fun e he => (h2 e he).1)] at this
  exact this
theorem put_new (p : Option Addr) (es : List En) (H : Nat) (key v : ByteArray) (w : World) (h : NewP w p es H) (hl : es.length ≤ 4096) (hv : v.size ≤ 89) :
    Calls Tryz.prog 18 #[.agg #[.pointer p, .int .i64 es.length], .string key, .string v] w fun e w' => ∃ p' H', e = .returned (.tuple #[.agg #[.pointer p', .int .i64 ((tpL es key v).length : Nat)], errC (tpF es key v : Nat)]) ∧ NewP w' p' (tpL es key v) H' ∧ Below w.heap.size w w' := by
  obtain ⟨ts, h1, rfl, h2, h3⟩ := h
  refine (put_allT p ts H key v w h1 hl).mono ?_
  rintro e w' ⟨p', ts', H', rfl, h4, h5, hb⟩
  rcases h5 with ⟨h5, rfl⟩ | ⟨h5, h6⟩
  · have e1 : tpL (esL ts) key v = [] := by unfold tpL; rw [if_neg h5]
    rw [e1]
    exact ⟨p', H', rfl, ⟨[], h4, rfl, fun e he => (by cases he), fun q => rfl⟩, hb⟩
  · have e1 : tpL (esL ts) key v = rep (esL ts) key [⟨key, v, []⟩] := by unfold tpL; rw [if_pos h5]
    have hch : ∀ e ∈ rep (esL ts) key [⟨key, v, []⟩], e.ch = [] ∧ e.v.size ≤ 89 := fun e he => by
      unfold rep at he
      rcases List.mem_append.1 he with he | he
      · exact h2 e (List.mem_of_mem_take he)
      · rcases List.mem_append.1 he with he | he
        · rw [List.mem_singleton.1 he]; exact ⟨rfl, hv⟩
        · exact h2 e (List.mem_of_mem_drop he)
    have e2 : esL ts' = rep (esL ts) key [⟨key, v, []⟩] := by
      rcases h6 with ⟨h7, _⟩ | ⟨rfl, h7, h8⟩
      · exact h7
      · exact (rep_same (bare_own (fun e he => (h2 e he).1)) h7 h8).symm
    rw [e1, ← e2]
    exact ⟨p', H', rfl, ⟨ts', h4, rfl, by rw [e2]; exact hch, fun q => by
      have h9 := h6.fr.pg q
      have h10 := h3 q
      omega⟩, hb⟩
/-- What the law has of its tree and its list. -/
structure Gr (w wr : World) (lv : Value) (k : Nat) (es : List En) (p : Option Addr) (H : Nat) : Prop where
  l : EV entE wr lv es
  t : TB wr (w.heap.size + 1) p es.length
  r : TB wr w.heap.size none 0
  tr : NewP wr p es H
  n : es.length ≤ k
  b : Below w.heap.size w wr
  g0 : ∀ {w'}, Below w.heap.size w w' → Hg w'
/-- A tree variable is stored anew. -/
theorem Gr.next {w wr : World} {lv : Value} {k : Nat} {es es2 : List En} {p p2 : Option Addr} {H H2 : Nat} (h : Gr w wr lv k es p H) {w6 : World} {u : Value} (hb : Below wr.heap.size wr w6) (hu : EV entE w6 u es2) (ht : NewP w6 p2 es2 H2) (hn : es2.length ≤ k + 1) :
    Gr w ((w6.setCell ⟨w.heap.size + 1, 0, none⟩ (.pointer p2)).setCell ⟨w.heap.size + 1, 1, none⟩ (.int .i64 es2.length)) u (k + 1) es2 p2 H2 := by
  have t6 := h.t.ext hb
  have t := turn_put w6 (w.heap.size + 1) (.pointer p2) (.int .i64 es2.length)
  have hF : TF w6 (fun i => i = w.heap.size + 1) := TF.one t6
  have hbw := h.b.trans (hb.mono h.b.size)
  have hfin := below_put (b := w.heap.size + 1) (u := .pointer p2) (v := .int .i64 es2.length) hbw (by omega)
  exact ⟨hu.turn entE_str t hF, t6.put p2 _, (h.r.ext hb).turn t (by omega), ht.turn t hF, hn, hfin, fun h2 => h.g0 h2⟩
set_option maxRecDepth 100000 in
theorem grown_any (n seed : Nat) (w : World) (hn : n ≤ 200) (hsd : seed ≤ 65535) (hg : Hg w) :
    Calls Tryz.prog 6 #[.int .i64 n, .int .i64 seed] w fun e w' => ∃ p H es l, e = .returned (.tuple #[.agg #[.pointer p, .int .i64 es.length], l, .bool true]) ∧ NewP w' p es H ∧ EV entE w' l es ∧ es.length ≤ n ∧ Below w.heap.size w w' := by
  obtain ⟨W, hW, hT1, hT2, hb⟩ : ∃ W, (w.alloc (.cells #[.pointer none, .int .i64 0] TT)).alloc (.cells #[.pointer none, .int .i64 0] TT) = W ∧ TB W w.heap.size none 0 ∧ TB W (w.heap.size + 1) none 0 ∧ Below w.heap.size w W := two_own w none 0
  have HW := Lib.hid hW
  have Hgr : Hid (Gr w W nilS 0 [] none 0) := ⟨EV.none _, hT2, hT1, NewP.none _, by simp, hb, fun h => hg.below h⟩
  have Hn := Lib.hid hn
  clear hW hT1 hT2 hb hg
  go_enter Tryz.func6, Tryz.ntmps6
  go_wp2_with fail
  rw [HW.out]
  go_loopw [7, 9, 10, 11, 12, 13, 14, 15, 16] (fun lv i _ _ _ _ _ _ _ wr => ∃ (k : Nat) (es : List En) (p : Option Addr) (H : Nat) (v : Value), v = lv ∧ i = .int .i64 k ∧ k ≤ n ∧ Hid (Gr w wr v k es p H)) (fun _ i _ _ _ _ _ _ _ _ => n - (intOf i).toNat)
  case atStart => exact ⟨0, [], none, 0, nilS, rfl, rfl, by omega, Hgr⟩
  case round =>
    obtain ⟨k, es, p, H, v, rfl, rfl, hk, hgr⟩ := hrel
    by_cases hlt : k < n
    · obtain ⟨X, hX⟩ : ∃ X, X = k * 37 + seed := ⟨_, rfl⟩
      have eX : (k : Int) * 37 + (seed : Int) = (X : Int) := by omega
      obtain ⟨K, hK⟩ : ∃ K, K = X % 4001 := ⟨_, rfl⟩
      have eK : (X : Int).tmod 4001 = (K : Int) := by rw [Int.tmod_eq_emod_of_nonneg (by omega)]; omega
      have hK9 : K ≤ 4000 := by omega
      have hX9 : X ≤ 80000 := by omega
      obtain ⟨Q, hQ⟩ : ∃ Q, Q = K / 256 := ⟨_, rfl⟩
      have eQ : (K : Int).tdiv 256 = (Q : Int) := by rw [Int.tdiv_eq_ediv_of_nonneg (by omega)]; omega
      have hQ9 : Q ≤ 15 := by omega
      have wQ : IntKind.u8.wrap (Q : Int) = (Q : Int) := by rw [IntKind.wrap_u8]; omega
      obtain ⟨B1, hB1⟩ : ∃ B1, B1 = K % 256 := ⟨_, rfl⟩
      have wB1 : IntKind.u8.wrap (K : Int) = (B1 : Int) := by rw [IntKind.wrap_u8]; omega
      obtain ⟨B2, hB2⟩ : ∃ B2, B2 = k % 3 := ⟨_, rfl⟩
      have eB2 : (k : Int).tmod 3 = (B2 : Int) := by rw [Int.tmod_eq_emod_of_nonneg (by omega)]; omega
      have wB2 : IntKind.u8.wrap (B2 : Int) = (B2 : Int) := by rw [IntKind.wrap_u8]; omega
      obtain ⟨M, hM⟩ : ∃ M, M = K % 30 := ⟨_, rfl⟩
      have eM : (K : Int).tmod 30 = (M : Int) := by rw [Int.tmod_eq_emod_of_nonneg (by omega)]; omega
      have hM9 : M ≤ 29 := by omega
      obtain ⟨Y, hY⟩ : ∃ Y, Y = K * 7 + seed := ⟨_, rfl⟩
      have eY : (K : Int) * 7 + (seed : Int) = (Y : Int) := by omega
      obtain ⟨V, hV⟩ : ∃ V, V = Y % 90 := ⟨_, rfl⟩
      have eV : (Y : Int).tmod 90 = (V : Int) := by rw [Int.tmod_eq_emod_of_nonneg (by omega)]; omega
      have hV9 : V ≤ 89 := by omega
      have hY9 : Y ≤ 100000 := by omega
      -- the key's first bytes
      have hsrc3 : Src (wr.alloc (.cells #[.int .u8 (Q : Int), .int .u8 (B1 : Int), .int .u8 (B2 : Int)] 5)) (some ⟨wr.heap.size, 0, none⟩) [Q, B1, B2] := (src_new wr 5 (0, 0) [Q, B1, B2]).src
      have hcv := conv_src (P := Tryz.prog) 64 5 9 Tryz.underlying64 Tryz.underlying5 Tryz.underlying9 (some ⟨wr.heap.size, 0, none⟩) 3 3 [Q, B1, B2] rfl _ hsrc3
      have hxs := bstr_size [Q, B1, B2]
      generalize bstr [Q, B1, B2] = x3 at *
      obtain ⟨y4, hy4⟩ : ∃ y4, (⟨#[107]⟩ : ByteArray) ++ x3 = y4 := ⟨_, rfl⟩
      have hys : y4.size = 4 := by rw [← hy4, app_size, hxs]; rfl
      have hno : ¬ (9223372036854775807 < 1 + x3.size) := by rw [hxs]; simp
      have Hys := Lib.hid hys
      obtain ⟨W1, hW1⟩ : ∃ W1, wr.alloc (.cells #[.int .u8 (Q : Int), .int .u8 (B1 : Int), .int .u8 (B2 : Int)] 5) = W1 := ⟨_, rfl⟩
      have HW1 := Lib.hid hW1
      have hb1 : Below wr.heap.size wr W1 := by rw [← hW1]; exact (Below.refl _ _).alloc (Nat.le_refl _) _
      have Hb1 := Lib.hid hb1
      clear hX hK hQ hB1 hB2 hM hY hV hsrc3 hxs hys hW1 hb1
      go_wp2_with fail
      rw [HW1.out]
      go_loopw [11] (fun s wr2 => ∃ y : ByteArray, s = .string y ∧ 4 ≤ y.size ∧ y.size ≤ 33 ∧ W1 = wr2) (fun s _ => 40 - strLen s)
      case atStart => exact ⟨y4, rfl, by rw [Hys.out]; exact Nat.le_refl _, by rw [Hys.out]; omega, by first | trivial | rfl⟩
      case round =>
        obtain ⟨y, rfl, hy1, hy2, rfl⟩ := hrel
        by_cases hys : y.size < 4 + M
        · obtain ⟨y', hy'⟩ : ∃ y', y ++ (⟨#[46]⟩ : ByteArray) = y' := ⟨_, rfl⟩
          have hsz : Hid (y'.size = y.size + 1) := by show _ = _; rw [← hy', app_size]; rfl
          have hno2 : ¬ (9223372036854775807 < y.size + 1) := by omega
          have d5 : (y.size : Int) < 4 + (M : Int) := by omega
          go_wp2
          go_roundw
          case rel => exact ⟨y', rfl, by rw [hsz.out]; omega, by rw [hsz.out]; omega, by first | trivial | rfl⟩
          case measure => have := hsz.out; simp [strLen]; omega
        · have d5 : ¬ (y.size : Int) < 4 + (M : Int) := by omega
          obtain ⟨W2, hmk, hrow, hb2⟩ := run_make_bytes (P := Tryz.prog) W1 64 5 Tryz.underlying64 infoU8 .i64 .i64 V (by omega)
          have hcv2 := conv_src (P := Tryz.prog) 64 5 9 Tryz.underlying64 Tryz.underlying5 Tryz.underlying9 (some ⟨W1.heap.size, 0, none⟩) V V (List.replicate V 0) (by simp) W2 (row_src hrow)
          have hz9 : (bstr (List.replicate V 0)).size ≤ 89 := by rw [bstr_size]; simp; omega
          have hzs : (bstr (List.replicate V 0)).size ≤ 2048 := by omega
          generalize bstr (List.replicate V 0) = z at *
          have hbw2 := Hb1.out.trans (hb2.mono Hb1.out.size)
          have hG := hgr.out
          have t2 := hG.t.ext hbw2
          have c0 := t2.c0
          have c1 := t2.c1
          have Hput := Lib.hid (put_new p es H y z W2 (hG.tr.ext hbw2) (by have := hG.n; have := Hn.out; omega) hz9)
          have hkey : okK y = true := by unfold okK; simp; omega
          have htp := tp_ok (es := es) hkey hzs (by have := hG.n; have := Hn.out; omega)
          have hle := tpL_len es y z
          rw [htp.1] at Hput
          have Htl := Lib.hid hle
          have Hbw2 := Lib.hid hbw2
          obtain ⟨N, hN⟩ : ∃ N, (tpL es y z).length = N := ⟨_, rfl⟩
          have HNN := Lib.hid hN
          rw [hN] at Hput
          have hl5 : es.length ≤ 4096 := by have := hG.n; have := Hn.out; omega
          have Href : Hid (∀ (a : Option Addr) (c : Nat) (w4 : World), ES entE w4 a es → (a = none → c = 0) → es.length ≤ c → c ≤ maxLen → Calls Tryz.prog 22 #[.slice a es.length c, .string y, .string z] w4 fun e w' => ∃ u, e = .returned (.tuple #[u, .int .i64 0]) ∧ EV entE w' u (tpL es y z) ∧ Below w4.heap.size w4 w') := fun a c w4 h1 h2 h3 h4 => by
            have := refPut_all a es.length c es y z w4 rfl h1 (by omega) h2 h3 h4
            rw [htp.1] at this; exact this
          obtain ⟨a0, c9, rfl, s0, z0, n0, m0⟩ := hG.l
          have HS := Lib.hid (And.intro s0 (And.intro z0 (And.intro n0 m0)))
          clear hrow hb2 hzs hz9 hbw2 hG t2 hkey htp hle hN s0 z0 n0 m0 hys hy1 hy2
          go_wp2_with fail
          refine Hput.out.mono ?_
          rintro e w3 ⟨p3, H3, rfl, ht3, hb3⟩
          rw [show errC ((0 : Nat) : Int) = .nilIface from rfl]
          have hb03 := Hbw2.out.trans (hb3.mono Hbw2.out.size)
          obtain ⟨w4, hw4, hT4, hb4⟩ := alloc_own w3 TT #[.pointer p3, .int .i64 (N : Int)]
          have hb04 := hb03.trans (hb4.mono hb03.size)
          have Hw4 := Lib.hid hw4
          have HT4 := Lib.hid hT4
          have Ht3 := Lib.hid (ht3.ext hb4)
          have Hb04 := Lib.hid hb04
          have Href4 := Lib.hid (Href.out a0 c9 w4 (HS.out.1.below hb04 (Nat.le_refl _)) HS.out.2.1 HS.out.2.2.1 HS.out.2.2.2)
          have Hl3 := Lib.hid (Array.getElem?_eq_some_iff.1 hT4).1
          clear ht3 hb3 hb03 hw4 hT4 hb4 hb04 Hput Href c0 c1 hcv2 hmk
          go_wp2_with fail
          rw [Hw4.out]
          refine Href4.out.mono ?_
          rintro e w5 ⟨u, rfl, ⟨a5, c5, rfl, s5⟩, hb5⟩
          have hb05 := Hb04.out.trans (hb5.mono Hb04.out.size)
          have Hnum := Lib.hid (num_nil w5)
          have Hb05 := Lib.hid hb05
          have HS5 := Lib.hid s5
          have HT5 : Hid (TB w5 w3.heap.size p3 (N : Int)) := TB.ext (w := w4) HT4.out hb5
          have Ht5 := Lib.hid (Ht3.out.ext hb5)
          rw [HNN.out]
          clear s5 hb5 hb05 Href4 HT4 Ht3
          go_wp2_with fail
          refine Hnum.out.mono ?_
          rintro e w6 ⟨rfl, hb6⟩
          have hb06 := Hb05.out.trans (hb6.mono Hb05.out.size)
          have t6 := HT5.out.ext hb6
          have c0 := t6.c0
          have c1 := t6.c1
          have hG := hgr.out
          have f0 := (hG.t.ext hb06).fz 0
          have f1 := (hG.t.ext hb06).fz 1
          have g0 := (hG.t.ext hb06).c0
          have g1 := (hG.t.ext hb06).c1
          have hev : EV entE w6 (.slice a5 N c5) (tpL es y z) := ⟨a5, c5, by rw [HNN.out], HS5.out.1.below hb6 (Nat.le_refl _), HS5.out.2⟩
          have hfin := hG.next (es2 := tpL es y z) (p2 := p3) (H2 := H3) hb06 hev (Ht5.out.ext hb6) (by have := Htl.out; have := hG.n; omega)
          rw [HNN.out] at hfin
          have Hfin := Lib.hid hfin
          clear hb6 hb06 t6 hG hev hfin Hnum HS5 Ht5 HT5
          go_wp2_with fail
          go_roundw
          case rel => exact ⟨k + 1, tpL es y z, p3, H3, _, rfl, by go_num, by omega, Hfin⟩
          case measure => simp [intOf]; omega
    · have hG := hgr.out
      have c0 := hG.t.c0
      have c1 := hG.t.c1
      have r0 := hG.r.c0
      have r1 := hG.r.c1
      have f0 := hG.r.fz 0
      have f1 := hG.r.fz 1
      have t := turn_put wr w.heap.size (.pointer p) (.int .i64 es.length)
      have HT := Lib.hid (hG.tr.turn t (TF.one hG.r))
      have HE := Lib.hid (hG.l.turn entE_str t (TF.one hG.r))
      have HP := Lib.hid (hG.r.put p (es.length : Int))
      have d0 := HP.out.c0
      have d1 := HP.out.c1
      have Hb := Lib.hid (below_put (b := w.heap.size) (u := .pointer p) (v := .int .i64 es.length) hG.b (Nat.le_refl _))
      have Hnn := Lib.hid hG.n
      obtain ⟨a0, c9, rfl, _⟩ := hG.l
      clear hG t hgr
      go_wp2_with fail
      refine bodyPost_ret (v := .tuple #[.agg #[.pointer p, .int .i64 (es.length : Int)], .slice a0 es.length c9, .bool true]) (by rw [results_cell_two rfl]; go_simp) rfl ⟨p, H, es, _, rfl, HT.out, HE.out, by have := Hnn.out; omega, Hb.out⟩
end Go.Proofs.YtbgkjniagedcnaaGreatDoor
namespace Go.Proofs.YtbgkjniagedcnaaGreatDoor
open Go Go.RowKit

/-- Entries put one behind the other: all of them, or none and the first error's number. -/
def ofT : List En → List En → List En × Nat
  | acc, [] => (acc, 0)
  | acc, x :: r => if tpF acc x.k x.v = 0 then ofT (tpL acc x.k x.v) r else ([], tpF acc x.k x.v)
theorem drop_ea (es : List En) (k : Nat) (h : k < es.length) : es.drop k = ea es k :: es.drop (k + 1) := by
  rw [List.drop_eq_getElem_cons h]
  congr 1
  unfold ea
  rw [List.getD_eq_getElem?_getD, List.getElem?_eq_getElem h]; rfl
theorem take_ea (es : List En) (k : Nat) (h : k < es.length) : es.take (k + 1) = es.take k ++ [ea es k] := by
  rw [List.take_add_one, List.getElem?_eq_getElem h]
  unfold ea
  rw [List.getD_eq_getElem?_getD, List.getElem?_eq_getElem h]; rfl
theorem ofT_go {acc es : List En} {k : Nat} (h : k < es.length) (h0 : tpF acc (ea es k).k (ea es k).v = 0) : ofT acc (es.drop k) = ofT (tpL acc (ea es k).k (ea es k).v) (es.drop (k + 1)) := by
  rw [drop_ea es k h]
  show (if _ = 0 then _ else _) = _
  rw [if_pos h0]
theorem ofT_no {acc es : List En} {k : Nat} (h : k < es.length) (h0 : ¬ tpF acc (ea es k).k (ea es k).v = 0) : ofT acc (es.drop k) = ([], tpF acc (ea es k).k (ea es k).v) := by
  rw [drop_ea es k h]
  show (if _ = 0 then _ else _) = _
  rw [if_neg h0]
theorem ofT_end (acc es : List En) (n : Nat) (h : es.length = n) : ofT acc (es.drop n) = (acc, 0) := by rw [← h, List.drop_length]; rfl
theorem ofT_len : ∀ (l acc : List En), (ofT acc l).1.length ≤ acc.length + l.length
  | [], acc => by show acc.length ≤ _; omega
  | x :: r, acc => by
    show (if _ = 0 then _ else _ : List En × Nat).1.length ≤ _
    split
    · have h1 := ofT_len r (tpL acc x.k x.v)
      have h2 := tpL_len acc x.k x.v
      simp only [List.length_cons]; omega
    · show 0 ≤ _; omega

/-- What stands between the rounds: the result's variable, the tree's variable. -/
structure Oft (w wr : World) (k : Nat) (es : List En) (p : Option Addr) (H : Nat) : Prop where
  t : TB wr (w.heap.size + 1) p es.length
  r : TB wr w.heap.size none 0
  tr : TreeP wr p es H
  n : es.length ≤ k
  b : Below w.heap.size w wr
theorem Oft.ext {w wr w6 : World} {k : Nat} {es : List En} {p : Option Addr} {H : Nat} (h : Oft w wr k es p H) (hb : Below wr.heap.size wr w6) : Oft w w6 k es p H :=
  ⟨h.t.ext hb, h.r.ext hb, h.tr.ext hb, h.n, h.b.trans (hb.mono h.b.size)⟩
theorem Oft.next {w wr : World} {k : Nat} {es es2 : List En} {p p2 : Option Addr} {H H2 : Nat} (h : Oft w wr k es p H) {w6 : World} (hb : Below wr.heap.size wr w6) (ht : TreeP w6 p2 es2 H2) (hn : es2.length ≤ k + 1) :
    Oft w ((w6.setCell ⟨w.heap.size + 1, 0, none⟩ (.pointer p2)).setCell ⟨w.heap.size + 1, 1, none⟩ (.int .i64 es2.length)) (k + 1) es2 p2 H2 := by
  have h6 := h.ext hb
  have t := turn_put w6 (w.heap.size + 1) (.pointer p2) (.int .i64 es2.length)
  have hF : TF w6 (fun i => i = w.heap.size + 1) := TF.one h6.t
  exact ⟨h6.t.put p2 _, h6.r.turn t (by omega), ht.turn t hF, hn, below_put (b := w.heap.size + 1) (u := .pointer p2) (v := .int .i64 es2.length) h6.b (by omega)⟩
set_option maxHeartbeats 1000000 in
set_option maxRecDepth 100000 in
theorem of_any (a : Option Addr) (n c : Nat) (es : List En) (w : World) (hn : es.length = n) (hs : 0 < n → ES entA w a es) (hl : n ≤ 4096) :
    Calls Tryz.prog 23 #[.slice a n c] w fun e w' => ∃ p H, e = .returned (.tuple #[.agg #[.pointer p, .int .i64 ((ofT [] es).1.length : Nat)], errC ((ofT [] es).2 : Nat)]) ∧ TreeP w' p (ofT [] es).1 H ∧ Below w.heap.size w w' := by
  obtain ⟨W, hW, hT1, hT2, hb⟩ : ∃ W, (w.alloc (.cells #[.pointer none, .int .i64 0] TT)).alloc (.cells #[.pointer none, .int .i64 0] TT) = W ∧ TB W w.heap.size none 0 ∧ TB W (w.heap.size + 1) none 0 ∧ Below w.heap.size w W := two_own w none 0
  have HW := Lib.hid hW
  have Hos : Hid (Oft w W 0 [] none 0) := ⟨hT2, hT1, TreeP.none _, by simp, hb⟩
  have Hn := Lib.hid hn
  have Hs := Lib.hid hs
  obtain ⟨RES, hRES⟩ : ∃ R, ofT [] es = R := ⟨_, rfl⟩
  have HR : Hid (ofT [] (es.drop 0) = RES) := by show _ = _; rw [List.drop_zero]; exact hRES
  rw [hRES]
  clear hW hT1 hT2 hb hRES hn hs
  go_enter Tryz.func23, Tryz.ntmps23
  go_wp2_with fail
  rw [HW.out]
  go_loopw [6, 7, 11] (fun _ _ iv wr => ∃ (k : Nat) (acc : List En) (p : Option Addr) (H : Nat), iv = .int .i64 k ∧ k ≤ n ∧ Hid (ofT acc (es.drop k) = RES) ∧ Hid (Oft w wr k acc p H)) (fun _ _ iv _ => n - (intOf iv).toNat)
  case atStart => exact ⟨0, [], none, 0, rfl, by omega, HR, Hos⟩
  case round =>
    obtain ⟨k, acc, p, H, rfl, hk, hR, hos⟩ := hrel
    by_cases hlt : k < n
    · have hsk := (Hs.out (by omega)).below hos.out.b (Nat.le_refl _)
      obtain ⟨g, o, rfl, hc⟩ := hsk.entsA (by rw [Hn.out]; omega)
      obtain ⟨p0, p1⟩ := hc k (by rw [Hn.out]; exact hlt)
      have i1 : (0 : Int) ≤ (k : Int) := by omega
      have i2 : (k : Int) < (n : Int) := by omega
      have hgo := ofT_go (acc := acc) (es := es) (k := k) (by rw [Hn.out]; exact hlt)
      have hno := ofT_no (acc := acc) (es := es) (k := k) (by rw [Hn.out]; exact hlt)
      rw [hR.out] at hgo hno
      generalize ea es k = y at *
      obtain ⟨key, val⟩ := y
      dsimp only at p0 p1 hgo hno
      obtain ⟨W1, hW1, _, hbW1⟩ := alloc_own wr ET #[.string key, .string val]
      have hos1 := hos.out.ext hbW1
      have e0 : (wr.alloc (.cells #[.string key, .string val] ET)).cell? ⟨w.heap.size + 1, 0, none⟩ = some (.pointer p) := by rw [hW1]; exact hos1.t.c0
      have e1 : (wr.alloc (.cells #[.string key, .string val] ET)).cell? ⟨w.heap.size + 1, 1, none⟩ = some (.int .i64 acc.length) := by rw [hW1]; exact hos1.t.c1
      have hcall := put_all p acc H key val W1 hos1.tr (by have := hos1.n; omega)
      have hlen := tpL_len acc key val
      have hlen2 : (tpL acc key val).length ≤ k + 1 := by have := hos1.n; omega
      obtain ⟨acc2, hacc2⟩ : ∃ x, tpL acc key val = x := ⟨_, rfl⟩
      obtain ⟨F, hF⟩ : ∃ F, tpF acc key val = F := ⟨_, rfl⟩
      rw [hacc2, hF] at hcall
      rw [hacc2] at hlen2 hgo
      rw [hF] at hgo hno
      have HW1 := Lib.hid hW1
      have Hos1 := Lib.hid hos1
      have Hlen2 := Lib.hid hlen2
      by_cases hF0 : F = 0
      · subst hF0
        rw [show errC ((0 : Nat) : Int) = .nilIface from rfl] at hcall
        have Hcall := Lib.hid hcall
        have hR2 := Lib.hid (hgo rfl).symm
        clear hcall hgo hno hW1 hbW1 hos1 hos hlen hlen2 hR hsk hc hacc2 hF
        go_wp2_with fail
        rw [HW1.out]
        refine Hcall.out.mono ?_
        rintro e w4 ⟨p2, H2, rfl, ht2, hb4⟩
        have hos4 := Hos1.out.ext hb4
        have d0 := hos4.t.c0
        have d1 := hos4.t.c1
        have f0 := hos4.t.fz 0
        have f1 := hos4.t.fz 1
        have Hnx := Lib.hid (Hos1.out.next hb4 ht2 Hlen2.out)
        clear hos4 ht2 hb4 Hcall Hos1 HW1 e0 e1 p0 p1
        go_wp2_with fail
        go_roundw
        case rel => exact ⟨k + 1, acc2, p2, H2, by go_num, by omega, hR2, Hnx⟩
        case measure => simp [intOf]; omega
      · have hE : errC ((F : Nat) : Int) = .iface 69 (.int .i64 ((F : Nat) : Int)) := if_neg (by omega)
        have HRE := Lib.hid (hno hF0)
        have HE := Lib.hid hE
        rw [hE] at hcall
        have Hcall := Lib.hid hcall
        clear hcall hgo hno hW1 hbW1 hos1 hos hlen hlen2 hR hsk hc hacc2 hF hE
        go_wp2_with fail
        rw [HW1.out]
        refine Hcall.out.mono ?_
        rintro e w4 ⟨p2, H2, rfl, ht2, hb4⟩
        have hos4 := Hos1.out.ext hb4
        have d0 := hos4.t.c0
        have d1 := hos4.t.c1
        have f0 := hos4.t.fz 0
        have f1 := hos4.t.fz 1
        have hos5 := Hos1.out.next hb4 ht2 Hlen2.out
        have g0 := hos5.r.fz 0
        have g1 := hos5.r.fz 1
        have b0 := hos5.r.c0
        have b1 := hos5.r.c1
        have r6 := hos5.r.put none 0
        have q0 := r6.c0
        have q1 := r6.c1
        have Hb6 := Lib.hid (below_put (b := w.heap.size) (u := .pointer none) (v := .int .i64 0) hos5.b (Nat.le_refl _))
        clear hos4 ht2 hb4 Hcall Hos1 HW1 e0 e1 p0 p1 hos5 r6
        go_wp2_with fail
        refine bodyPost_ret (v := .tuple #[.agg #[.pointer none, .int .i64 0], .iface 69 (.int .i64 ((F : Nat) : Int))]) (by rw [results_cell_tmp rfl]; go_simp) rfl ⟨none, 0, ?_, ?_, Hb6.out⟩
        · rw [HRE.out]; show _ = Ending.returned (.tuple #[.agg #[.pointer none, .int .i64 ((0 : Nat) : Int)], errC ((F : Nat) : Int)]); rw [HE.out]; rfl
        · rw [HRE.out]; exact TreeP.none _
    · obtain rfl : k = n := by omega
      have hend := ofT_end acc es k Hn.out
      rw [hR.out] at hend
      have HRE := Lib.hid hend
      have c0 := hos.out.t.c0
      have c1 := hos.out.t.c1
      have g0 := hos.out.r.fz 0
      have g1 := hos.out.r.fz 1
      have b0 := hos.out.r.c0
      have b1 := hos.out.r.c1
      have r6 := hos.out.r.put p acc.length
      have q0 := r6.c0
      have q1 := r6.c1
      have Hb6 := Lib.hid (below_put (b := w.heap.size) (u := .pointer p) (v := .int .i64 acc.length) hos.out.b (Nat.le_refl _))
      have Ht6 := Lib.hid (hos.out.tr.turn (turn_put wr w.heap.size (.pointer p) (.int .i64 acc.length)) (TF.one hos.out.r))
      clear hend r6 hos hR
      go_wp2_with fail
      refine bodyPost_ret (v := .tuple #[.agg #[.pointer p, .int .i64 (acc.length : Nat)], .nilIface]) (by rw [results_cell_tmp rfl]; go_simp) rfl ⟨p, H, ?_, ?_, Hb6.out⟩
      · rw [HRE.out]; rfl
      · rw [HRE.out]; exact Ht6.out
end Go.Proofs.YtbgkjniagedcnaaGreatDoor
