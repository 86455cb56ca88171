/-
  What the law PlanFew stands on.
-/
import Derived.Test.YtdgladhfibfdlaaGreatDoorQPlanFew43
import Derived.Test.YtdgladhfibfdlaaGreatDoorQPlanFew29
namespace Go.Proofs.YtdgladhfibfdlaaGreatDoor
open Go Go.RowKit
theorem TreeT.okE {w : World} {p : Option Addr} {ts : List Tr} {H : Nat} (ht : TreeT w p ts H) : srt (esL ts) ∧ ∀ e ∈ esL ts, okE e := by
  rcases treeT_val ht with ⟨_, rfl, _⟩ | ⟨b, h, t, v, _, rfl, _, hnv, _⟩
  · exact ⟨by rw [esL]; simp [srt], fun e he => by rw [esL] at he; cases he⟩
  · obtain ⟨W, _, hn, _⟩ := hnv.nd
    have hf := (NdT.tok h hn).facts
    rw [esL_one]
    exact ⟨hf.2.1, fun e he => (hf.2.2 e he).1⟩
theorem okE_v {e : En} (h : okE e) : e.v.size ≤ 2048 := h.2
theorem lay_no (f : Nat → Bool) (p : Option Addr) (n : Int) (ts : List Tr) (H : Nat) (w : World) (ht : TreeT w p ts H) (hch : ∀ e ∈ esL ts, e.ch.length ≤ 100000) (hnd : needL ts ≤ 1000000) (hc : cnt (freeP f ts) 1024 < needL ts) :
    Calls Tryz.prog 13 #[.agg #[.pointer p, .int .i64 n], .agg (sc f)] w fun e w' => e = .returned (.tuple #[.agg #[.pointer none, .int .i64 0], nilS, errC 8]) ∧ Below w.heap.size w w' :=
  lay_walk f p n ts H w (errC 8) [] (needL ts) _ ht hch hnd rfl (fun w' _ => (take_many (freeP f ts) (needL ts : Nat) w' (by omega)).mono (fun e w'' ⟨h1, h2⟩ => ⟨_, _, h1, EV.none _, h2⟩)) (.inl ⟨rfl, fun w' hb => ⟨rfl, hb⟩⟩)
theorem lay_ok (P : Nat → List Nat) (f : Nat → Bool) (p : Option Addr) (ts : List Tr) (H : Nat) (w : World) (ht : TreeT w p ts H) (hm : MixI P ts) (hl : (esL ts).length ≤ 100000) (hc : needL ts ≤ cnt (freeP f ts) 1024) (hwo : WorthIn w) (hT : TabIn w) :
    Calls Tryz.prog 13 #[.agg #[.pointer p, .int .i64 (esL ts).length], .agg (sc f)] w fun e w' => ∃ p' vw gs, e = .returned (.tuple #[.agg #[.pointer p', .int .i64 (esL ts).length], vw, .nilIface]) ∧ TreeT w' p' (layL ts (takP f ts)) H ∧
      w'.ownsRow w.heap.size WRT wrE0.sz vw gs.length (wrE0.row gs) ∧ WRo w' gs (wrL ts (takP f ts)) ∧ Below w.heap.size w w' := by
  have hok := ht.okE.2
  have hcv : ∀ e ∈ esL ts, CeV e ∧ e.ch.length ≤ 100000 := fun e he => hm.cev he (okE_v (hok e he))
  have h9 := cnt_le (freeP f ts) 1024
  have hpl := takP_len hc
  refine lay_walk f p _ ts H w .nilIface (takP f ts) (needL ts) _ ht (fun e he => (hcv e he).2) (by omega) rfl (fun w' hb => (take_own (freeP f ts) (needL ts) _ w' rfl hc h9 (hT.below hb)).mono (fun e w'' ⟨a, h1, h2, h3, h4⟩ => ⟨_, _, h1, ?_, h4⟩)) ?_
  · refine PgT.ev (n := needL ts) (is := takP f ts) ?_ hpl h3 (by unfold maxLen; omega)
    have e1 : (takP f ts).map (fun n : Nat => (n : Int)) = (eI (freeP f ts) 1024).take (needL ts) := by
      unfold takP eI; rw [List.map_take]
    rw [e1]; exact h2
  · rcases treeT_val ht with ⟨rfl, rfl, rfl⟩ | ⟨b, h, t, v, rfl, rfl, hnp, hnv, hz, hz3, hne, rfl⟩
    · refine .inr (.inl ⟨rfl, rfl, fun w' hb => ⟨none, nilS, [], rfl, TreeT.none w', World.ownsRow_nil _ _ _ _, ?_, hb⟩⟩)
      rw [wrL]; trivial
    · have hlt : t.need ≤ (takP f [t]).length := by rw [hpl, needL_one]; exact Nat.le_refl _
      rw [esL_one] at hcv hl ⊢
      have hcu : ∀ q, cU q (layT t (takP f [t])) = cUL q (layL [t] (takP f [t])) := fun q => by
        rw [layL, layL, cUL_cons, cUL_nil]; rfl
      refine .inr (.inr ⟨rfl, b, h, t, v, rfl, hnp, hnv, hz, hz3, hne, hl, hcv, hlt, fun x hx => ⟨(takP_mem hx).2.1, (takP_mem hx).2.2.1⟩, fun q => by rw [hcu]; exact one_lay hc hm.one q, fun q hq => by
        rw [hcu, ← mem_uL] at hq
        exact rg_lay hc hm.rg q hq, by rw [needL_one] at hc; omega, hwo, fun w' p' vw gs h1 h2 h3 h4 => ⟨p', vw, gs, rfl, ?_, h2, ?_, h4⟩⟩)
      · rw [layL, layL]; exact h1
      · rw [wrL, wrL, List.append_nil]; exact h3
end Go.Proofs.YtdgladhfibfdlaaGreatDoor
namespace Go.Proofs.YtdgladhfibfdlaaGreatDoor
open Go Go.RowKit
def WV (w : World) (vw : Value) (ws : List PgW) : Prop := ∃ gs, EV wrE0 w vw gs ∧ WRo w gs ws
theorem WV.nil (w : World) : WV w nilS [] := ⟨[], EV.none w, trivial⟩
theorem WV.ext {w w' : World} {vw : Value} {ws : List PgW} (h : WV w vw ws) (hb : Below w.heap.size w w') : WV w' vw ws := by
  obtain ⟨gs, h1, h2⟩ := h
  exact ⟨gs, h1.ext hb, h2.mono fun _ _ hr => hr.below hb hr.lt⟩
theorem WV.tur {w w' : World} {F : Nat → Prop} {T : TypeId} {vw : Value} {ws : List PgW} (h : WV w vw ws) (ht : Turn F w w') (hF : TyF w F T) (hT : (T == WRT) = false := by decide) (hT2 : T ≠ 5 := by decide) : WV w' vw ws := by
  obtain ⟨gs, h1, h2⟩ := h
  exact ⟨gs, h1.tur ht hF hT, h2.mono fun g l hr => ht.hg hr (hF.not hr hT2)⟩
def LayC (p : Option Addr) (n : Int) (f : Nat → Bool) (ER : Value) (n' : Nat) (ts' : List Tr) (H' : Nat) (ws : List PgW) (w : World) : Prop :=
  Calls Tryz.prog 13 #[.agg #[.pointer p, .int .i64 n], .agg (sc f)] w fun e w' => ∃ p' vw, e = .returned (.tuple #[.agg #[.pointer p', .int .i64 n'], vw, ER]) ∧ TreeT w' p' ts' H' ∧ WV w' vw ws ∧ Below w.heap.size w w'
structure LR (W w : World) (g : Nat) (p : Option Addr) (n : Nat) (vw : Value) (ts : List Tr) (H : Nat) (ws : List PgW) : Prop where
  t : TB w g p n
  lo : W.heap.size ≤ g
  tr : TreeT w p ts H
  wv : WV w vw ws
  b : Below W.heap.size W w
theorem LR.ext {W w w' : World} {g : Nat} {p : Option Addr} {n : Nat} {vw : Value} {ts : List Tr} {H : Nat} {ws : List PgW} (h : LR W w g p n vw ts H ws) (hb : Below w.heap.size w w') : LR W w' g p n vw ts H ws :=
  ⟨h.t.ext hb, h.lo, h.tr.ext hb, h.wv.ext hb, h.b.trans (hb.mono h.b.size)⟩
theorem LR.put {W w : World} {g : Nat} {p q : Option Addr} {n : Nat} {m : Int} {vw : Value} {ts : List Tr} {H : Nat} {ws : List PgW} (ht : TB w g q m) (hg : W.heap.size ≤ g) (htr : TreeT w p ts H) (hw : WV w vw ws) (hb : Below W.heap.size W w) :
    LR W ((w.setCell ⟨g, 0, none⟩ (.pointer p)).setCell ⟨g, 1, none⟩ (.int .i64 n)) g p n vw ts H ws :=
  ⟨ht.put p n, hg, htr.turn (turn_put w g (.pointer p) (.int .i64 n)) (TF.one ht), hw.tur (turn_put w g (.pointer p) (.int .i64 n)) (TyF.one ht), below_put hb hg⟩
theorem lay_yesC (P : Nat → List Nat) (f : Nat → Bool) (p : Option Addr) (ts : List Tr) (H : Nat) (n : Nat) (w : World) (ht : TreeT w p ts H) (hm : MixI P ts) (hn : (esL ts).length = n) (hl : n ≤ 100000) (hc : needL ts ≤ cnt (freeP f ts) 1024) (hwo : WorthIn w) (hT : TabIn w) :
    LayC p n f .nilIface n (layL ts (takP f ts)) H (wrL ts (takP f ts)) w := by
  subst hn
  refine (lay_ok P f p ts H w ht hm hl hc hwo hT).mono ?_
  rintro e w' ⟨p', vw, gs, h1, h2, h3, h4, h5⟩
  exact ⟨p', vw, h1, h2, ⟨gs, own_ev h3, h4⟩, h5⟩
theorem lay_noC (P : Nat → List Nat) (f : Nat → Bool) (p : Option Addr) (n : Int) (ts : List Tr) (H : Nat) (w : World) (ht : TreeT w p ts H) (hm : MixI P ts) (hnd : needL ts ≤ 1000000) (hc : cnt (freeP f ts) 1024 < needL ts) : LayC p n f (errC 8) 0 [] 0 [] w := by
  refine (lay_no f p n ts H w ht (fun e he => (hm.cev he (okE_v (ht.okE.2 e he))).2) hnd hc).mono ?_
  rintro e w' ⟨h1, h2⟩
  exact ⟨none, nilS, h1, TreeT.none w', WV.nil w', h2⟩
theorem TreeT.new {w : World} {p : Option Addr} {ts : List Tr} {H : Nat} (ht : TreeT w p ts H) : nwL ts ≤ 2 * (esL ts).length ∧ (ts ≠ [] → nwL ts + 1 ≤ 2 * (esL ts).length) := by
  rcases treeT_val ht with ⟨_, rfl, _⟩ | ⟨b, h, t, v, _, rfl, _, hnv, _, hz3, hne, _⟩
  · simp [nwL]
  · obtain ⟨W, _, hn, _⟩ := hnv.nd
    have h1 := tok_nw h (NdT.tok h hn) hz3 (fun _ => hne)
    rw [esL_one, nwL, nwL]
    exact ⟨by omega, fun _ => by omega⟩
theorem NewP.lay {w : World} {p : Option Addr} {es : List En} {H : Nat} (h : NewP w p es H) : ∃ ts, TreeT w p ts H ∧ esL ts = es ∧ uL ts = [] ∧ (∀ P, MixI P ts) ∧ needL ts ≤ 3 * es.length ∧ (es ≠ [] → ∃ t, ts = [t] ∧ t.pg = 0 ∧ 1 ≤ t.need ∧ t.need + 1 ≤ 2 * es.length + cNs es) := by
  obtain ⟨ts, h1, rfl, h2, h3⟩ := h
  have hch := fun e he => (h2 e he).1
  refine ⟨ts, h1, rfl, uL_new hch h3, fun P => MixI.new hch h3, ?_, fun hne => ?_⟩
  · have h4 := needB_le ts
    have h5 := h1.new.1
    have h6 := cNsB_le (esL ts) (fun e he => by have := (h2 e he).2; omega)
    omega
  · rcases treeT_val h1 with ⟨_, rfl, _⟩ | ⟨b, h, t, v, _, rfl, _⟩
    · exact absurd rfl hne
    · have h4 : t.pg = 0 := by
        have h5 := h3 t.pg
        rcases Nat.eq_zero_or_pos t.pg with h6 | h6
        · exact h6
        · rw [pgsL, pgsL, List.append_nil, t.pgs_eq, if_neg (by omega)] at h5
          simp at h5
      have h8 := needB_le [t]
      have h9 := h1.new.2 (by simp)
      rw [needL_one] at h8
      refine ⟨t, rfl, h4, ?_, by omega⟩
      cases t with
      | leaf pg cs => have h5 : pg = 0 := h4; rw [Tr.need, if_pos h5]; omega
      | bran pg ks ts => have h5 : pg = 0 := h4; rw [Tr.need, if_pos h5]; omega
theorem cnt_free {ts : List Tr} (k : Nat) (h2 : 2 ≤ k) (hk : k ≤ 1024) (hu : uL ts = []) : cnt (freeP (belowR k) ts) 1024 = k - 2 := by
  have h1 := cnt_part (fun m => decide (m < k)) (fun m => decide (m < 2)) 1024
  have e1 : cnt (fun m => decide (m < k) && decide (m < 2)) 1024 = 2 := by
    rw [cnt_ext (g := fun m => decide (m < 2)) (fun m _ => by
      by_cases h : m < 2
      · have h' : m < k := by omega
        simp [h, h']
      · simp [h]), cnt_below]; omega
  have e2 : cnt (fun m => decide (m < k)) 1024 = k := by rw [cnt_below]; omega
  have e3 : cnt (freeP (belowR k) ts) 1024 = cnt (fun m => decide (m < k) && !decide (m < 2)) 1024 := cnt_ext (fun m _ => by
    unfold freeP belowR addR
    rw [hu]
    simp)
  rw [e3]; omega
theorem layT_pgv (t : Tr) (ps : List Nat) (h : t.pg = 0) : (layT t ps).pg = na ps (t.need - 1) := by
  cases t with
  | leaf pg cs =>
    have h5 : pg = 0 := h
    rw [layT, Tr.need, if_pos h5, if_pos h5, Nat.add_sub_cancel]; rfl
  | bran pg ks ts =>
    have h5 : pg = 0 := h
    rw [layT, Tr.need, if_pos h5, if_pos h5, Nat.add_sub_cancel]; rfl
theorem need_mix (P : Nat → List Nat) (p : Option Addr) (n : Int) (ts : List Tr) (H N : Nat) (w : World) (ht : TreeT w p ts H) (hm : MixI P ts) (hN : needL ts = N) (hl : N ≤ 1000000) :
    Calls Tryz.prog 12 #[.agg #[.pointer p, .int .i64 n]] w fun e w' => e = .returned (.int .i64 (N : Nat)) ∧ Below w.heap.size w w' := by
  subst hN
  exact need_tree p n ts H w ht (fun e he => (hm.cev he (okE_v (ht.okE.2 e he))).2) hl
theorem used_mix (P : Nat → List Nat) (p : Option Addr) (n : Int) (ts : List Tr) (H : Nat) (w : World) (ht : TreeT w p ts H) (hm : MixI P ts) :
    Calls Tryz.prog 24 #[.agg #[.pointer p, .int .i64 n]] w fun e w' => e = .returned (.agg (sc (addR (fun _ => false) (uL ts)))) ∧ Below w.heap.size w w' :=
  used_tree p n ts H w ht (fun e he => (hm.cev he (okE_v (ht.okE.2 e he))).2)
theorem WV.cell {w : World} {g o n c i : Nat} {ws : List PgW} (h : WV w (.slice (some ⟨g, o, none⟩) n c) ws) (hi : i < ws.length) : w.cell? ⟨g, o + i * 2, none⟩ = some (.int .i64 ((ws.getD i (0, [])).1 : Nat)) := by
  obtain ⟨gs, ⟨a, d, e1, hs, _⟩, hr⟩ := h
  injection e1 with e1 _ _
  subst e1
  have hl := hr.len
  obtain ⟨g2, o2, e2, hc⟩ := hs.at (by omega)
  injection e2 with e2
  injection e2 with e2 e3 _
  subst e2 e3
  have h1 : gs[i]? = some (gs[i]'(by omega)) := List.getElem?_eq_getElem (by omega)
  have h2 : ws[i]? = some (ws[i]'hi) := List.getElem?_eq_getElem hi
  have h3 := (hr.at h1 h2).1
  have h4 := hc (i * 2) (.int .i64 ((gs[i]'(by omega)).1 : Nat)) (by
    have h := wrE0.row_at gs i 0 _ h1 (by decide)
    exact h)
  rw [h4, h3, List.getD_eq_getElem?_getD, h2]; rfl
theorem WV.slice {w : World} {vw : Value} {ws : List PgW} (h : WV w vw ws) : ∃ a c, vw = .slice a ws.length c ∧ (0 < ws.length → ∃ g o, a = some ⟨g, o, none⟩) ∧ (a = none → c = 0) ∧ ws.length ≤ c ∧ c ≤ maxLen := by
  obtain ⟨gs, ⟨a, d, rfl, hs, h1⟩, hr⟩ := h
  have hl := hr.len
  refine ⟨a, d, by rw [hl], fun h0 => ?_, by rw [hl] at h1; exact h1⟩
  obtain ⟨g, o, e, _⟩ := hs.at (by omega)
  exact ⟨g, o, e⟩
section
variable {f : Nat → Bool} {ts : List Tr}
theorem lay_at (hc : needL ts ≤ cnt (freeP f ts) 1024) {PL : List (List Nat)} (hlen : PL.length = 1024) : ∀ x ∈ wrL ts (takP f ts), pgF (layP PL (wrL ts (takP f ts))) x.1 = x.2 :=
  layP_at _ PL (by rw [takP_fst hc]; exact takP_nodup) (fun x hx => by
    have h1 : x.1 ∈ takP f ts := by rw [← takP_fst hc]; exact List.mem_map_of_mem hx
    rw [hlen]; exact (takP_mem h1).2.2.1)
theorem lay_far (hc : needL ts ≤ cnt (freeP f ts) 1024) {PL : List (List Nat)} {p : Nat} (hp : p ∉ takP f ts) : pgF (layP PL (wrL ts (takP f ts))) p = pgF PL p :=
  layP_not p _ PL (by rw [takP_fst hc]; exact hp)
theorem MixI.laid (hc : needL ts ≤ cnt (freeP f ts) 1024) {PL : List (List Nat)} (hlen : PL.length = 1024) (hm : MixI (pgF PL) ts) : LieI (pgF (layP PL (wrL ts (takP f ts)))) (layL ts (takP f ts)) :=
  hm.lay hc (lay_at hc hlen) (fun _ hp => lay_far hc (fun h => (takP_mem h).2.2.2 hp))
end
end Go.Proofs.YtdgladhfibfdlaaGreatDoor
