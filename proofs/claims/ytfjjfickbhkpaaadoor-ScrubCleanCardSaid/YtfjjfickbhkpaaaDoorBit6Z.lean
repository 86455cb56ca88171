/-
  bitset's Take.
-/
import Derived.Test.YtfjjfickbhkpaaaDoorBit5Z
import Derived.Test.YtfjjfickbhkpaaaDoorBit2oZ
import Derived.Test.YtfjjfickbhkpaaaDoorTurnZ
import Derived.Test.YtfjjfickbhkpaaaDoorAsZ
namespace Go.Proofs.YtfjjfickbhkpaaaDoor
open Go Go.RowKit

/-- A set without its first k numbers. -/
def takeR (f : Nat → Bool) (k m : Nat) : Bool := f m && decide (k ≤ cnt f m)
theorem take_zero (f : Nat → Bool) : takeR f 0 = f := by
  funext m; unfold takeR; rw [decide_eq_true (by omega)]; simp
theorem take_step (f : Nat → Bool) (k : Nat) (h : k < cnt f 1024) : sc (outR (takeR f k) (el f k : Int)) = sc (takeR f (k + 1)) := sc_ext (fun m hm => by
  unfold outR takeR
  obtain ⟨_, h2, h3, _⟩ := el_get f k h
  cases hf : f m with
  | false => rfl
  | true =>
    rw [Bool.true_and, Bool.true_and, Bool.eq_iff_iff, Bool.and_eq_true, decide_eq_true_iff, decide_eq_true_iff, Bool.not_eq_true', decide_eq_false_iff_not]
    constructor
    · rintro ⟨h4, h5⟩
      rcases Nat.lt_or_ge k (cnt f m) with h6 | h6
      · exact h6
      · have := el_only h hf (show cnt f m = k by omega)
        omega
    · intro h4
      refine ⟨by omega, fun e => ?_⟩
      have : m = el f k := by omega
      rw [this, h3] at h4
      omega)
theorem PgS.turn {F : Nat → Prop} {w w' : World} {a : Option Addr} {is : List Int} (h : PgS w a is) (ht : Turn F w w') (hF : ∀ g o, a = some ⟨g, o, none⟩ → ¬ F g) : PgS w' a is := fun h0 => by
  obtain ⟨g, o, rfl, hc⟩ := h h0
  exact ⟨g, o, rfl, fun i hi => by rw [ht.cell (p := ⟨g, o + i, none⟩) (block_lt_of_cell (hc i hi)) (hF g o rfl)]; exact hc i hi⟩
theorem build_TS (w : World) : (Instr.build TS #[]).run Tryd.prog w = .ok (.agg (sc (fun _ => false))) w := by kernel_rfl
section
variable {ops : Array Oper} {rest : List Oper} {o : Oper} {a : Act} {w : World} {Q : Exit → Act → World → Prop}
theorem wpList_build_TS (hgd : o.guard = none) (ho : o.op = .build TS #[])
    (h : wpList Tryd.prog ops Q rest (a.put o.dst (.agg (sc (fun _ => false)))) w) : wpList Tryd.prog ops Q (o :: rest) a w := by
  refine wpList_plain hgd fun K hK => ?_
  have hk := hK _ _ h
  unfold Oper.wp execOp
  simp only [ho, Sem.run_bind, Sem.run_pure, Result.andThen_ok, Array.map_empty, build_TS]
  exact hk
end
theorem results_take {fn : Func} {p q r : Tmp} (h : fn.results = #[.tmp p, .cell q TS, .tmp r]) (tmps : Array Value) (w : World) (g : Nat) (f : Nat → Bool) (u v : Value) (hp : tmps.getD p undef = u) (hq : tmps.getD q undef = .pointer (some ⟨g, 0, none⟩)) (hr : tmps.getD r undef = v) (hg : Blk w g TS (sc f)) :
    (results fn tmps).run Tryd.prog w = .ok (.tuple #[u, .agg (sc f), v]) w := by
  have hp' : tmps[p]?.getD undef = u := by simpa using hp
  have hq' : tmps[q]?.getD undef = .pointer (some ⟨g, 0, none⟩) := by simpa using hq
  have hr' : tmps[r]?.getD undef = v := by simpa using hr
  simp [results, h, hp', hq', hr', asAddr, run_load_arr arr_TS w g _ hg (sc_size f)]
/-- A row of ints whose block's type is known. -/
def PgT (w : World) (a : Option Addr) (is : List Int) : Prop := PgS w a is ∧ ∀ ad, a = some ad → ∃ g o A fz, ad = ⟨g, o, none⟩ ∧ w.heap[g]? = some (.cells A 3 fz)
theorem PgT.below {w w' : World} {a : Option Addr} {is : List Int} {B : Nat} (h : PgT w a is) (hb : Below B w w') (hB : w.heap.size ≤ B) : PgT w' a is := ⟨h.1.below hb hB, fun ad e => by
  obtain ⟨g, o, A, fz, h0, h1⟩ := h.2 ad e
  exact ⟨g, o, A, fz, h0, (hb.block g (Nat.lt_of_lt_of_le (Array.getElem?_eq_some_iff.1 h1).1 hB)).trans h1⟩⟩
theorem PgT.turn {w w' : World} {a : Option Addr} {is : List Int} {F : Nat → Prop} (h : PgT w a is) (t : Turn F w w') (hF : ∀ ad, a = some ad → ¬ F ad.block) : PgT w' a is := ⟨h.1.turn t (fun g o e => hF ⟨g, o, none⟩ e), fun ad e => by
  obtain ⟨g, o, A, fz, rfl, h1⟩ := h.2 ad e
  exact ⟨g, o, A, fz, rfl, t.hg h1 (hF _ e)⟩⟩
theorem own_cellT {w : World} {B E sz n : Nat} {v : Value} {xs : List Value} (h : w.ownsRow B E sz v n xs) : ∀ g, v.ownBlock = some g → ∃ A fz, w.heap[g]? = some (.cells A E fz) := fun b hb => by
  rcases h.2 with ⟨rfl, _⟩ | ⟨g, cap, cur, rfl, _, hg, _⟩
  · cases hb
  · injection hb with hb
    subst hb
    exact ⟨cur, _, hg⟩
theorem own_addr {w : World} {B E sz n : Nat} {v : Value} {xs : List Value} (h : w.ownsRow B E sz v n xs) : ∀ ad m c, v = .slice (some ad) m c → ∃ g o A fz, ad = ⟨g, o, none⟩ ∧ w.heap[g]? = some (.cells A E fz) := fun ad m c hv => by
  rcases h.2 with ⟨rfl, _⟩ | ⟨g, cap, cur, rfl, _, hg, _⟩
  · cases hv
  · injection hv with hv _ _
    injection hv with hv
    exact ⟨g, 0, cur, _, hv.symm, hg⟩
end Go.Proofs.YtfjjfickbhkpaaaDoor
