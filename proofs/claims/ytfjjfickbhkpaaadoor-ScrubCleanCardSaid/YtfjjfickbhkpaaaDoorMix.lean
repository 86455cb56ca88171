/-
  Two sets, word by word.
-/
import Derived.Test.YtfjjfickbhkpaaaDoorBitMath
namespace Go.Proofs.YtfjjfickbhkpaaaDoor
open Go Go.RowKit

/-- The first k words done. -/
def mixR (h : Bool → Bool → Bool) (f g : Nat → Bool) (k m : Nat) : Bool := if m < 64 * k then h (f m) (g m) else f m
theorem mix_zero (h : Bool → Bool → Bool) (f g : Nat → Bool) : mixR h f g 0 = f := by
  funext m; unfold mixR; rw [if_neg (by omega)]
theorem mix_all (h : Bool → Bool → Bool) (f g : Nat → Bool) : sc (mixR h f g 16) = sc (fun m => h (f m) (g m)) := sc_ext (fun m hm => by
  unfold mixR; rw [if_pos (by omega)])
theorem mix_word (h : Bool → Bool → Bool) (f g : Nat → Bool) (k : Nat) : wd (mixR h f g k) k = wd f k := wd_ext (fun i hi => by
  unfold mixR; rw [if_neg (by omega)])
theorem mix_step (h : Bool → Bool → Bool) (f g : Nat → Bool) (k v : Nat) (hk : k < 16) (hv : v = wd (fun m => h (f m) (g m)) k) :
    (sc (mixR h f g k)).setIfInBounds k (.int .u64 (v : Nat)) = sc (mixR h f g (k + 1)) := by
  refine sc_put _ _ k v hk (hv.trans (wd_ext (fun i hi => ?_))) (fun m hm hne => ?_)
  · unfold mixR; rw [if_pos (by omega)]
  · unfold mixR
    by_cases e : m < 64 * k
    · rw [if_pos e, if_pos (by omega)]
    · rw [if_neg e, if_neg (by omega)]
end Go.Proofs.YtfjjfickbhkpaaaDoor

