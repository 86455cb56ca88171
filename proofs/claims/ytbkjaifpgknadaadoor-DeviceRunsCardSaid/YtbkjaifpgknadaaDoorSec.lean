/-
  Maps keyed by a place, of sectors: what stands at each sector's number; and what has turned of a world.
-/
import Derived.Test.YtbkjaifpgknadaaDoorProg
import Derived.Test.YtbkjaifpgknadaaDoorMath2
import Derived.Test.YtbkjaifpgknadaaDoorOpen
import Derived.DeepKeys5
import Derived.Maps.OwnSet
import Derived.Maps.RangeWalk
import Derived.MapKept
namespace Go.Proofs.YtbkjaifpgknadaaDoor
open Go Go.RowKit Go.Maps Go.ChangeMaps Go.MapKept

/-! ### what has turned -/
/-- Of what was there nothing has turned but the blocks of F. -/
structure Turn (F : Nat → Prop) (w w' : World) : Prop where
  os : w'.os = w.os
  tape : w'.tape = w.tape
  output : w'.output = w.output
  size : w.heap.size ≤ w'.heap.size
  block : ∀ i, i < w.heap.size → ¬ F i → w'.heap[i]? = w.heap[i]?
theorem Turn.refl (F : Nat → Prop) (w : World) : Turn F w w := ⟨rfl, rfl, rfl, Nat.le_refl _, fun _ _ _ => rfl⟩
theorem Turn.step {F G : Nat → Prop} {a b c : World} (h : Turn F a b) (k : Turn G b c) (hs : ∀ i, G i → i < a.heap.size → F i) : Turn F a c :=
  ⟨k.os.trans h.os, k.tape.trans h.tape, k.output.trans h.output, Nat.le_trans h.size k.size, fun i hi hF =>
    (k.block i (Nat.lt_of_lt_of_le hi h.size) (fun hg => hF (hs i hg hi))).trans (h.block i hi hF)⟩
theorem Turn.trans {F : Nat → Prop} {a b c : World} (h : Turn F a b) (k : Turn F b c) : Turn F a c := h.step k (fun _ hg _ => hg)
theorem Turn.mono {F G : Nat → Prop} {a b : World} (h : Turn F a b) (hs : ∀ i, F i → i < a.heap.size → G i) : Turn G a b :=
  ⟨h.os, h.tape, h.output, h.size, fun i hi hG => h.block i hi (fun hf => hG (hs i hf hi))⟩
theorem Turn.ofBelow {F : Nat → Prop} {a b : World} (h : Below a.heap.size a b) : Turn F a b := ⟨h.os, h.tape, h.output, h.size, fun i hi _ => h.block i hi⟩
theorem Turn.below {F : Nat → Prop} {a b : World} (h : Turn F a b) {B : Nat} (hB : B ≤ a.heap.size) (hF : ∀ i, F i → B ≤ i) : Below B a b :=
  ⟨h.os, h.tape, h.output, h.size, fun i hi => h.block i (Nat.lt_of_lt_of_le hi hB) (fun hf => by have := hF i hf; omega)⟩
theorem Turn.alloc {F : Nat → Prop} {a b : World} (h : Turn F a b) (o : Obj) : Turn F a (b.alloc o) :=
  h.step (G := fun _ => False) (Turn.ofBelow ((Below.refl _ _).alloc (Nat.le_refl _) _)) (fun _ hg _ => hg.elim)
theorem Turn.drew {F : Nat → Prop} {a b : World} (h : Turn F a b) : Turn F a b.drew := ⟨h.os, h.tape, h.output, h.size, h.block⟩
theorem Turn.setCell {F : Nat → Prop} {a b : World} (h : Turn F a b) {p : Addr} (u : Value) (hp : p.block < a.heap.size → F p.block) : Turn F a (b.setCell p u) :=
  h.step (G := fun i => i = p.block) ⟨rfl, rfl, rfl, by simp [World.setCell], fun i _ hne => Below.heap_setCell _ _ _ _ hne⟩ (fun i hi hl => by subst hi; exact hp hl)
theorem Turn.grown {F : Nat → Prop} {a b c : World} {row : Option Nat} (h : Turn F a b) (hg : b.grownBy c row) (hr : ∀ k, row = some k → k < a.heap.size → F k) : Turn F a c :=
  h.step (G := fun i => row = some i) ⟨hg.os, hg.tape, hg.output, hg.size, fun i hi hne => hg.block i hi (fun e => hne e.symm)⟩ hr
theorem Turn.cell {F : Nat → Prop} {a b : World} (h : Turn F a b) {p : Addr} (hp : p.block < a.heap.size) (hF : ¬ F p.block) : b.cell? p = a.cell? p := World.cell?_of_block (w := a) (h.block p.block hp hF)
theorem Turn.hg {F : Nat → Prop} {a b : World} (h : Turn F a b) {k : Nat} {o : Obj} (ho : a.heap[k]? = some o) (hF : ¬ F k) : b.heap[k]? = some o :=
  (h.block k (Array.getElem?_eq_some_iff.1 ho).1 hF).trans ho

theorem Turn.ofGrown {w w' : World} {b : Nat} (hg : w.grownBy w' (some b)) : Turn (fun i => i = b) w w' :=
  ⟨hg.os, hg.tape, hg.output, hg.size, fun i hi hne => hg.block i hi (fun e => hne (Option.some.inj e))⟩

/-! ### keys -/
abbrev PT : TypeId := 66
abbrev ST : TypeId := 70
abbrev MT : TypeId := 62
def sec (l : List Nat) : Value := .agg (bv l).toArray
def zeros : List Nat := List.replicate 64 0
def plc (n : Nat) : Value := .agg #[.int .i64 ((n / 8 : Nat) : Int), .int .i64 ((n % 8 : Nat) : Int)]
def RS (v : Value) : Option (DataW Value × List MemPlace) := some (.held v, [])
theorem RS_val (v : Value) : RS v = some (.held v, []) := rfl
theorem place_keyed : Keyed Tryd.prog PT :=
  Keyed.of_law (deep_law_gate laidOut (of_decide_eq_true (by kernel_rfl)) (of_decide_eq_true (by kernel_rfl)) (by kernel_rfl) (by kernel_rfl))
theorem key_type : Tryd.prog.keyType PT = true := by kernel_rfl
theorem key_cells : Tryd.prog.cellsOf PT = 2 := by kernel_rfl
theorem int_cells : Tryd.prog.cellsOf 3 = 1 := by kernel_rfl
theorem key_size : ∃ d, Tryd.prog.types.size + 1 = d + 2 := ⟨160 - 1, by kernel_rfl⟩
theorem keyLits_int {P : Program} {d : Nat} {t : TypeId} {q : IntKind} {n : Int} (h : P.underlying t = some (.int q)) (hw : (Lit.int q n).wf = true) : P.keyLits (d + 1) t [.int q n] = some [.int q n] := by
  simp [Program.keyLits, h, hw]
theorem keyLits_two {P : Program} {d : Nat} {t : TypeId} {f0 f1 : Field} {a b : Int} (h : P.underlying t = some (.struct #[f0, f1])) (hc : P.cellsOf t = 2) (hn : (#[f0, f1] : Array Field).all (·.name != "_") = true) (o0 : f0.offset = 0) (o1 : f1.offset = 1)
    (c0 : P.cellsOf f0.type = 1) (c1 : P.cellsOf f1.type = 1) (u0 : P.underlying f0.type = some (.int .i64)) (u1 : P.underlying f1.type = some (.int .i64)) (ha : (Lit.int .i64 a).wf = true) (hb : (Lit.int .i64 b).wf = true) :
    P.keyLits (d + 2) t [.int .i64 a, .int .i64 b] = some [.int .i64 a, .int .i64 b] := by
  have e : P.keyLits (d + 2) t [.int .i64 a, .int .i64 b] = if ([Value.int .i64 a, Value.int .i64 b] : List Value).length = P.cellsOf t ∧ (#[f0, f1] : Array Field).all (·.name != "_") = true then ((#[f0, f1] : Array Field).toList.mapM fun f => P.keyLits (d + 1) f.type (([Value.int .i64 a, Value.int .i64 b].drop f.offset).take (P.cellsOf f.type))).map List.flatten else none := by
    simp only [Program.keyLits, h]
  rw [e, if_pos ⟨by rw [hc]; rfl, hn⟩]
  simp [o0, o1, c0, c1, keyLits_int u0 ha, keyLits_int u1 hb]
theorem keyOf_struct {P : Program} {k : TypeId} {v : Value} {fs : Array Field} {ls : List Lit} (h : P.underlying k = some (.struct fs)) (hk : P.keyType k = true) (hf : v.formed P k = true) (hl : P.keyLits (P.types.size + 1) k v.cells.toList = some ls) :
    keyOf P k v = some (.string (keyBytes ls)) := by
  simp [keyOf, h, hk, hf, hl]
theorem key_at (a b : Int) (h1 : -9223372036854775808 ≤ a) (h2 : a ≤ 9223372036854775807) (h3 : -9223372036854775808 ≤ b) (h4 : b ≤ 9223372036854775807) : ∃ l, keyOf Tryd.prog PT (.agg #[.int .i64 a, .int .i64 b]) = some l := by
  have ha : (Lit.int .i64 a).wf = true := WalkArith.wf_i64 ⟨h1, h2⟩
  have hb : (Lit.int .i64 b).wf = true := WalkArith.wf_i64 ⟨h3, h4⟩
  have hu := Tryd.underlying66
  have hi := Tryd.underlying3
  obtain ⟨d, hd⟩ := key_size
  have hk := keyLits_two (d := d) hu key_cells (by simp) rfl rfl int_cells int_cells hi hi ha hb
  have hf : Value.formed Tryd.prog PT (.agg #[.int .i64 a, .int .i64 b]) = true := by
    simp only [Value.formed]
    rw [hu, key_cells]; rfl
  exact ⟨_, keyOf_struct hu key_type hf (by rw [hd]; exact hk)⟩
theorem key_ex (n : Nat) : ∃ l, n < 8192 → keyOf Tryd.prog PT (plc n) = some l := by
  by_cases h : n < 8192
  · obtain ⟨l, hl⟩ := key_at ((n / 8 : Nat) : Int) ((n % 8 : Nat) : Int) (by omega) (by omega) (by omega) (by omega)
    exact ⟨l, fun _ => hl⟩
  · exact ⟨.bool false, fun h' => absurd h' h⟩
noncomputable def kl (n : Nat) : Lit := Classical.choose (key_ex n)
theorem key_plc (n : Nat) (h : n < 8192) : keyOf Tryd.prog PT (plc n) = some (kl n) := Classical.choose_spec (key_ex n) h
theorem plc_inj {n m : Nat} (h : plc n = plc m) : n = m := by
  simp only [plc, Value.agg.injEq, Array.mk.injEq, List.cons.injEq, Value.int.injEq, true_and, and_true] at h
  omega
theorem kl_inj {n m : Nat} (hn : n < 8192) (hm : m < 8192) (h : kl n = kl m) : n = m := by
  have h1 := key_plc n hn
  have h2 := key_plc m hm
  rw [← h] at h2
  have h3 := Keyed.inj place_keyed h1 h2
  exact plc_inj h3
theorem kl_key {n : Nat} (hn : n < 8192) : WideAt.IsKeyLit (kl n) := by
  have h1 := key_plc n hn
  generalize kl n = l at *
  exact Keyed.key place_keyed h1
theorem kl_ne {n m : Nat} (hn : n < 8192) (hm : m < 8192) (h : n ≠ m) : kl n ≠ kl m := fun e => h (kl_inj hn hm e)

/-! ### lists of keys -/
theorem length_le_of_sub_eq {α : Type} [DecidableEq α] : ∀ (l m : List α), l.Pairwise (fun a b => a ≠ b) → (∀ x ∈ l, x ∈ m) → l.length ≤ m.length
  | [], _, _, _ => Nat.zero_le _
  | a :: t, m, hp, hs => by
    obtain ⟨h1, h2⟩ := List.pairwise_cons.1 hp
    have ha : a ∈ m := hs a (by simp)
    have ih := length_le_of_sub_eq t (m.erase a) h2 (fun x hx => (List.mem_erase_of_ne (fun e => h1 x hx e.symm)).2 (hs x (by simp [hx])))
    rw [List.length_erase_of_mem ha] at ih
    have : 0 < m.length := List.length_pos_of_mem ha
    simp only [List.length_cons]
    omega

theorem length_le_of_sub {α : Type} (l m : List α) (h : l.Pairwise (fun a b => a ≠ b)) (hs : ∀ x ∈ l, x ∈ m) : l.length ≤ m.length := by
  haveI : DecidableEq α := fun a b => Classical.propDecidable (a = b)
  exact length_le_of_sub_eq l m h hs

/-! ### a map of sectors -/
abbrev Secs := Nat → Option (List Nat)
structure Rep (M : Nat) (D : DataW Value) (g : Secs) : Prop where
  keys : ∀ k, Maps.has D k = true → ∃ n, n < M ∧ k = kl n
  has : ∀ n, n < M → Maps.has D (kl n) = (g n).isSome
  val : ∀ n l, n < M → g n = some l → ∀ z, D.atKey (kl n) z = .held (sec l)
  form : ∀ n l, g n = some l → l.length = 64 ∧ B8 l ∧ n < M
def OM (w : World) (b M : Nat) (g : Secs) : Prop := M ≤ 8192 ∧ ∃ N D, w.ownsMap Tryd.prog PT RS b N D ∧ Rep M D g
def upd (g : Secs) (n : Nat) (x : Option (List Nat)) : Secs := fun i => if i = n then x else g i

theorem owns_tight {w : World} {b N : Nat} {D : DataW Value} (h : w.ownsMap Tryd.prog PT RS b N D) : w.ownsMap Tryd.prog PT RS b (Maps.size D) D := by
  obtain ⟨es, clock, hb, F, hs, rfl⟩ := h
  exact ⟨es, clock, hb, F, by simp [Maps.size, length_sorted], rfl⟩
theorem rep_size {w : World} {b N M : Nat} {D : DataW Value} {g : Secs} (h : w.ownsMap Tryd.prog PT RS b N D) (r : Rep M D g) : Maps.size D ≤ M := by
  obtain ⟨es, rfl, hp, hk⟩ := h.entries place_keyed
  have h1 : (es.map (·.1)).Pairwise (fun a b => a ≠ b) := by rw [List.pairwise_map]; exact hp
  have h2 := length_le_of_sub (es.map (·.1)) ((List.range M).map kl) h1 (fun x hx => by
    obtain ⟨p, hp1, rfl⟩ := List.mem_map.1 hx
    obtain ⟨n, hn, e⟩ := r.keys p.1 (List.any_eq_true.2 ⟨p, hp1, WideAt.sameKey_self (hk p hp1)⟩)
    exact List.mem_map.2 ⟨n, List.mem_range.2 hn, e.symm⟩)
  simpa [Maps.size] using h2
theorem OM.lt {w : World} {b M : Nat} {g : Secs} (h : OM w b M g) : b < w.heap.size := by
  obtain ⟨_, N, D, h, _⟩ := h; exact h.lt
theorem OM.keptAt {w w' : World} {b M : Nat} {g : Secs} (h : OM w b M g) (e : w'.heap[b]? = w.heap[b]?) : OM w' b M g := by
  obtain ⟨hM, N, D, ⟨es, clock, hb, F, hs, hD⟩, r⟩ := h
  exact ⟨hM, N, D, ⟨es, clock, e.trans hb, F, hs, hD⟩, r⟩
theorem OM.turn {F : Nat → Prop} {w w' : World} {b M : Nat} {g : Secs} (h : OM w b M g) (t : Turn F w w') (hF : ¬ F b) : OM w' b M g := h.keptAt (t.block b h.lt hF)
theorem OM.made (w : World) (M : Nat) (hM : M ≤ 8192) : OM (w.alloc (.map #[] 0)) w.heap.size M (fun _ => none) :=
  ⟨hM, 0, _, World.ownsMap_made w _ _ _, ⟨fun k h => (by cases h), fun n _ => rfl, fun n l _ h => (by cases h), fun n l h => (by cases h)⟩⟩
theorem rep_put {M : Nat} {D : DataW Value} {g : Secs} (r : Rep M D g) (hD : Maps.IsMap D) (hM : M ≤ 8192) (n : Nat) (hn : n < M) (l : List Nat) (hl : l.length = 64) (h8 : B8 l) : Rep M (D.put (kl n) (.held (sec l))) (upd g n (some l)) := by
  refine ⟨fun k hk => ?_, fun m hm => ?_, fun m x hm hx z => ?_, fun m x hx => ?_⟩
  · by_cases e : k = kl n
    · exact ⟨n, hn, e⟩
    · rw [Maps.has_put_other e] at hk; exact r.keys k hk
  · unfold upd
    by_cases e : m = n
    · subst e; rw [Maps.has_put_same hD (kl_key (by omega)), if_pos rfl]; rfl
    · rw [Maps.has_put_other (kl_ne (by omega) (by omega) e), if_neg e]; exact r.has m hm
  · unfold upd at hx
    by_cases e : m = n
    · subst e; rw [if_pos rfl] at hx; cases hx; exact Maps.atKey_put_same hD (kl_key (by omega)) _ _
    · rw [if_neg e] at hx; rw [Maps.atKey_put_other (kl_ne (by omega) (by omega) e)]; exact r.val m x hm hx z
  · unfold upd at hx
    by_cases e : m = n
    · subst e; rw [if_pos rfl] at hx; cases hx; exact ⟨hl, h8, hn⟩
    · rw [if_neg e] at hx; exact r.form m x hx
theorem rep_del {M : Nat} {D : DataW Value} {g : Secs} (r : Rep M D g) (hM : M ≤ 8192) (n : Nat) (hn : n < M) : Rep M (D.del (kl n)) (upd g n none) := by
  refine ⟨fun k hk => ?_, fun m hm => ?_, fun m x hm hx z => ?_, fun m x hx => ?_⟩
  · by_cases e : k = kl n
    · exact ⟨n, hn, e⟩
    · rw [Maps.has_del_other e] at hk; exact r.keys k hk
  · unfold upd
    by_cases e : m = n
    · subst e; rw [Maps.has_del_same, if_pos rfl]; rfl
    · rw [Maps.has_del_other (kl_ne (by omega) (by omega) e), if_neg e]; exact r.has m hm
  · unfold upd at hx
    by_cases e : m = n
    · subst e; rw [if_pos rfl] at hx; cases hx
    · rw [if_neg e] at hx; rw [Maps.atKey_del_other (kl_ne (by omega) (by omega) e)]; exact r.val m x hm hx z
  · unfold upd at hx
    by_cases e : m = n
    · subst e; rw [if_pos rfl] at hx; cases hx
    · rw [if_neg e] at hx; exact r.form m x hx
theorem map_under : Tryd.prog.underlying MT = some (.map PT ST) := Tryd.underlying62
theorem isMap_of {w : World} {b N : Nat} {D : DataW Value} (h : w.ownsMap Tryd.prog PT RS b N D) : Maps.IsMap D := by
  obtain ⟨es, _, _, _, _, rfl⟩ := h; exact ⟨_, rfl⟩
theorem OM.put {w : World} {b M : Nat} {g : Secs} (h : OM w b M g) (n : Nat) (hn : n < M) (l : List Nat) (hl : l.length = 64) (h8 : B8 l) :
    ∃ w', (Instr.mapUpdate MT (.map (some b)) (plc n) (sec l)).run Tryd.prog w = .ok () w' ∧ OM w' b M (upd g n (some l)) ∧ w.grownBy w' (some b) := by
  obtain ⟨hM, N, D, h, r⟩ := h
  have hsz := rep_size h r
  obtain ⟨w', h1, h2, h3⟩ := (owns_tight h).update place_keyed map_under (by unfold maxLen; omega) (key_plc n (by omega)) (RS_val (sec l))
  exact ⟨w', h1, ⟨hM, _, _, h2, rep_put r (isMap_of h) hM n hn l hl h8⟩, h3⟩
theorem OM.del {w : World} {b M : Nat} {g : Secs} (h : OM w b M g) (n : Nat) (hn : n < M) (ty : TypeId) :
    ∃ w', (Builtin.delete_ #[MT, PT] ty #[.map (some b), plc n]).run Tryd.prog w = .ok (.tuple #[]) w' ∧ OM w' b M (upd g n none) ∧ w.grownBy w' (some b) := by
  obtain ⟨hM, N, D, h, r⟩ := h
  obtain ⟨w', h1, h2, h3⟩ := h.drop place_keyed map_under (key_plc n (by omega)) ty
  exact ⟨w', h1, ⟨hM, _, _, h2, rep_del r hM n hn⟩, h3.grown⟩
theorem zero_sec (w : World) : (zeroValue ST).run Tryd.prog w = .ok (sec zeros) w := by kernel_rfl
theorem OM.look {w : World} {b M : Nat} {g : Secs} (h : OM w b M g) (n : Nat) (hn : n < M) :
    (Instr.lookup MT (.map (some b)) (plc n) false).run Tryd.prog w = .ok (sec ((g n).getD zeros)) w := by
  obtain ⟨hM, N, D, h, r⟩ := h
  obtain ⟨v, ps, h1, h2⟩ := h.lookup place_keyed map_under (zero_sec w) (RS_val _) (key_plc n (by omega))
  rw [h1]
  simp only [RS, Option.some.injEq, Prod.mk.injEq] at h2
  cases hg : g n with
  | none =>
    have := r.has n hn
    rw [hg] at this
    rw [Maps.atKey_of_not_has this] at h2
    simp only [DataW.held.injEq] at h2
    rw [h2.1]; rfl
  | some l =>
    rw [r.val n l hn hg] at h2
    simp only [DataW.held.injEq] at h2
    rw [h2.1]; rfl
theorem OM.look_ok {w : World} {b M : Nat} {g : Secs} (h : OM w b M g) (n : Nat) (hn : n < M) :
    (Instr.lookup MT (.map (some b)) (plc n) true).run Tryd.prog w = .ok (.tuple #[sec ((g n).getD zeros), .bool (g n).isSome]) w := by
  obtain ⟨hM, N, D, h, r⟩ := h
  obtain ⟨v, ps, h1, h2⟩ := h.look_ok place_keyed map_under (zero_sec w) (RS_val _) (key_plc n (by omega))
  rw [h1, r.has n hn]
  simp only [RS, Option.some.injEq, Prod.mk.injEq] at h2
  cases hg : g n with
  | none =>
    have := r.has n hn
    rw [hg] at this
    rw [Maps.atKey_of_not_has this] at h2
    simp only [DataW.held.injEq] at h2
    rw [h2.1]; rfl
  | some l =>
    rw [r.val n l hn hg] at h2
    simp only [DataW.held.injEq] at h2
    rw [h2.1]; rfl
theorem OM.clear {w : World} {b M : Nat} {g : Secs} (h : OM w b M g) (ty : TypeId) :
    ∃ w', (Builtin.clear_ #[MT] ty #[.map (some b)]).run Tryd.prog w = .ok (.tuple #[]) w' ∧ OM w' b M (fun _ => none) ∧ w.grownBy w' (some b) := by
  obtain ⟨hM, N, D, ⟨es, clock, hb, F, hs, rfl⟩, r⟩ := h
  refine ⟨setBlock w b (.map #[] clock), ?_, ⟨hM, 0, .map [], ⟨#[], clock, heap_setBlock_same hb _, ⟨by simp, stamped_empty clock, by simp⟩, by simp, rfl⟩, ⟨fun k h => (by cases h), fun n _ => rfl, fun n l _ h => (by cases h), fun n l h => (by cases h)⟩⟩, ?_⟩
  · simp [Builtin.clear_, run_underlying map_under, MapKept.run_getObj_map hb, MapKept.run_setObj_map _ hb, Result.andThen, setBlock]
  · exact ⟨rfl, rfl, rfl, by simp [setBlock], fun i _ hi => heap_setBlock_other hb _ (fun e => hi (by rw [e]))⟩
end Go.Proofs.YtbkjaifpgknadaaDoor
