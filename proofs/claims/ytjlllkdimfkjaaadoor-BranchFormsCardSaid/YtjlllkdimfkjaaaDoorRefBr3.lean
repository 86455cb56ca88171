/-
  The document's Decode.
-/
import Derived.Test.YtjlllkdimfkjaaaDoorBranch4
import Derived.Test.YtjlllkdimfkjaaaDoorRefBr1
import Derived.Test.YtjlllkdimfkjaaaDoorRefRdB
import Derived.Deep.CutBlock
import Derived.Deep.DeepCutAuto
namespace Go.Proofs.YtjlllkdimfkjaaaDoor
open Go Go.RowKit

theorem stF_bad {l : List Nat} {ks : List ByteArray} {is : List Int} {S : RS} (h : StF l ks is S) (hw : S.wr = true) : decFS l = none := by
  rcases h with ⟨h1, _⟩ | ⟨_, _, h2⟩
  · rw [hw] at h1; cases h1
  · exact h2
/-- What the document's Decode learns of the next key. -/
theorem stF_read {l : List Nat} {ks : List ByteArray} {is : List Int} {L : List Nat} (h : StF l ks is ⟨L, false⟩) (h0 : L ≠ []) :
    ((bytesS ⟨L, false⟩ 40).2.wr = true → decFS l = none) ∧ ((bytesS ⟨L, false⟩ 40).2.l.length < 2 → decFS l = none) ∧
    (2 ≤ (bytesS ⟨L, false⟩ 40).2.l.length → StF l (ks ++ [bstr (bytesS ⟨L, false⟩ 40).1]) (is ++ [(((bytesS ⟨L, false⟩ 40).2.l.getD 0 0 * 256 + (bytesS ⟨L, false⟩ 40).2.l.getD 1 0 : Nat) : Int)]) ⟨(bytesS ⟨L, false⟩ 40).2.l.drop 2, false⟩ ∧ ((bytesS ⟨L, false⟩ 40).2.l.drop 2).length < L.length) := by
  obtain ⟨hn, hlt⟩ := stF_next h h0
  have hsh := bytesS_shorter (S := ⟨L, false⟩) h0
  refine ⟨fun hw => stF_bad hn ?_, fun hs => stF_bad hn ?_, fun h2 => ?_⟩
  · rw [bytesS_wr hw, tk2_wr]
  · have := tk2_short (bytesS ⟨L, false⟩ 40).2.wr hs
    rw [show (⟨(bytesS ⟨L, false⟩ 40).2.l, (bytesS ⟨L, false⟩ 40).2.wr⟩ : RS) = (bytesS ⟨L, false⟩ 40).2 from rfl] at this
    rw [this]
  · have := tk2_ok (bytesS ⟨L, false⟩ 40).2.wr h2
    rw [show (⟨(bytesS ⟨L, false⟩ 40).2.l, (bytesS ⟨L, false⟩ 40).2.wr⟩ : RS) = (bytesS ⟨L, false⟩ 40).2 from rfl] at this
    rw [this] at hn hlt
    exact ⟨hn, hlt⟩
/-- What holds at the head of the loop. -/
structure RfI (w wr : World) (rb p : Nat) (ks : List ByteArray) (is : List Int) (rv u v : Value) : Prop where
  sb : SB wr rb RFT rv false
  fk : PB wr p RFK u v
  ku : wr.ownsRow w.heap.size STY 1 u ks.length (sv ks)
  kv : wr.ownsRow w.heap.size ITY 1 v is.length (iv is)
  res : PB wr w.heap.size RFK zF zF
  below : Below w.heap.size w wr
  hp : w.heap.size < p
  hrb : w.heap.size ≤ rb
theorem RfI.ext {w wr w' : World} {rb p : Nat} {ks : List ByteArray} {is : List Int} {rv u v : Value} (h : RfI w wr rb p ks is rv u v) (hb : Below wr.heap.size wr w') : RfI w w' rb p ks is rv u v :=
  ⟨h.sb.below hb h.sb.lt, h.fk.ext hb, own_below h.ku hb (Nat.le_refl _), own_below h.kv hb (Nat.le_refl _), h.res.ext hb, h.below.trans (hb.mono h.below.size), h.hp, h.hrb⟩
theorem sb_pb {w : World} {b p : Nat} {T T2 : TypeId} {x u v : Value} {y : Bool} (h : SB w b T x y) (k : PB w p T2 u v) (hT : T ≠ T2) : b ≠ p := fun e => by
  subst e
  have h' : w.heap[b]? = _ := h
  have k' : w.heap[b]? = _ := k
  rw [h'] at k'
  exact hT (by cases k'; rfl)
theorem RfI.keys {w wr w5 : World} {rb p : Nat} {ks : List ByteArray} {is : List Int} {rv u v u' : Value} {y : ByteArray} (h : RfI w wr rb p ks is rv u v) (hg : wr.grownBy w5 u.ownBlock) (ho : w5.ownsRow w.heap.size STY 1 u' (ks ++ [y]).length (sv (ks ++ [y]))) :
    RfI w (w5.setCell ⟨p, 0, none⟩ u') rb p (ks ++ [y]) is rv u' v ∧ PB w5 p RFK u v ∧ Turn (fun i => w.heap.size ≤ i) wr (w5.setCell ⟨p, 0, none⟩ u') ∧
    (∀ b2 x z, SB wr b2 RFT x z → SB (w5.setCell ⟨p, 0, none⟩ u') b2 RFT x z) := by
  have t5 := turn_grown hg
  have ts := turn_set1 w5 p 0 u'
  have k5 : PB w5 p RFK u v := h.fk.turn t5 (fun e => own_other h.ku h.fk (by decide) p e rfl)
  have v5 : w5.ownsRow w.heap.size ITY 1 v is.length (iv is) := own_turnF h.kv t5 (fun i hi e => own_apart h.ku h.kv (by decide) i e hi)
  have z5 : PB w5 w.heap.size RFK zF zF := h.res.turn t5 (fun e => own_other h.ku h.res (by decide) _ e rfl)
  have sb5 : ∀ b2 x z, SB wr b2 RFT x z → SB w5 b2 RFT x z := fun b2 x z hs => hs.turn t5 (fun e => own_other h.ku hs (by decide) _ e rfl)
  have sb6 : ∀ b2 x z, SB wr b2 RFT x z → SB (w5.setCell ⟨p, 0, none⟩ u') b2 RFT x z := fun b2 x z hs => (sb5 b2 x z hs).turn ts (sb_pb (sb5 b2 x z hs) k5 (by decide))
  have b5 : Below w.heap.size w w5 := h.below.grown hg h.below.size (fun i hi => own_ge h.ku i hi)
  have hp := h.hp
  refine ⟨⟨sb6 _ _ _ h.sb, k5.set0 u', own_turnF ho ts (fun i hi e => own_other ho k5 (by decide) i hi e), own_turnF v5 ts (fun i hi e => own_other v5 k5 (by decide) i hi e), z5.turn ts (fun e => by omega), b5.setCell (p := ⟨p, 0, none⟩) (by show w.heap.size ≤ p; omega) u', h.hp, h.hrb⟩, k5, ?_, sb6⟩
  exact (t5.mono (fun i hi _ => own_ge h.ku i hi)).trans (ts.mono (fun i hi _ => by subst hi; omega))
theorem RfI.pages {w wr w5 : World} {rb p : Nat} {ks : List ByteArray} {is : List Int} {rv u v v' : Value} {y : Int} (h : RfI w wr rb p ks is rv u v) (hg : wr.grownBy w5 v.ownBlock) (ho : w5.ownsRow w.heap.size ITY 1 v' (is ++ [y]).length (iv (is ++ [y]))) :
    RfI w (w5.setCell ⟨p, 1, none⟩ v') rb p ks (is ++ [y]) rv u v' ∧ PB w5 p RFK u v ∧ Turn (fun i => w.heap.size ≤ i) wr (w5.setCell ⟨p, 1, none⟩ v') ∧
    (∀ b2 x z, SB wr b2 RFT x z → SB (w5.setCell ⟨p, 1, none⟩ v') b2 RFT x z) := by
  have t5 := turn_grown hg
  have ts := turn_set1 w5 p 1 v'
  have k5 : PB w5 p RFK u v := h.fk.turn t5 (fun e => own_other h.kv h.fk (by decide) p e rfl)
  have u5 : w5.ownsRow w.heap.size STY 1 u ks.length (sv ks) := own_turnF h.ku t5 (fun i hi e => own_apart h.kv h.ku (by decide) i e hi)
  have z5 : PB w5 w.heap.size RFK zF zF := h.res.turn t5 (fun e => own_other h.kv h.res (by decide) _ e rfl)
  have sb5 : ∀ b2 x z, SB wr b2 RFT x z → SB w5 b2 RFT x z := fun b2 x z hs => hs.turn t5 (fun e => own_other h.kv hs (by decide) _ e rfl)
  have sb6 : ∀ b2 x z, SB wr b2 RFT x z → SB (w5.setCell ⟨p, 1, none⟩ v') b2 RFT x z := fun b2 x z hs => (sb5 b2 x z hs).turn ts (sb_pb (sb5 b2 x z hs) k5 (by decide))
  have b5 : Below w.heap.size w w5 := h.below.grown hg h.below.size (fun i hi => own_ge h.kv i hi)
  have hp := h.hp
  refine ⟨⟨sb6 _ _ _ h.sb, k5.set1 v', own_turnF u5 ts (fun i hi e => own_other u5 k5 (by decide) i hi e), own_turnF ho ts (fun i hi e => own_other ho k5 (by decide) i hi e), z5.turn ts (fun e => by omega), b5.setCell (p := ⟨p, 1, none⟩) (by show w.heap.size ≤ p; omega) v', h.hp, h.hrb⟩, k5, ?_, sb6⟩
  exact (t5.mono (fun i hi _ => own_ge h.kv i hi)).trans (ts.mono (fun i hi _ => by subst hi; omega))
theorem RfI.reader {w wr : World} {rb p : Nat} {ks : List ByteArray} {is : List Int} {rv u v : Value} (h : RfI w wr rb p ks is rv u v) (rv' : Value) :
    RfI w ((wr.setCell ⟨rb, 0, none⟩ rv').setCell ⟨rb, 1, none⟩ (.bool false)) rb p ks is rv' u v ∧ Turn (fun i => w.heap.size ≤ i) wr ((wr.setCell ⟨rb, 0, none⟩ rv').setCell ⟨rb, 1, none⟩ (.bool false)) := by
  have ts := turn_set2 wr rb rv' (.bool false)
  have hrb := h.hrb
  have tw : Turn (fun i => w.heap.size ≤ i) wr ((wr.setCell ⟨rb, 0, none⟩ rv').setCell ⟨rb, 1, none⟩ (.bool false)) := ts.mono (fun i hi _ => by subst hi; omega)
  refine ⟨⟨(h.sb.set0 rv').set1 false, h.fk.turn ts (fun e => sb_pb h.sb h.fk (by decide) e.symm), own_turnF h.ku ts (fun i hi e => own_other h.ku h.sb (by decide) i hi e), own_turnF h.kv ts (fun i hi e => own_other h.kv h.sb (by decide) i hi e), h.res.turn ts (fun e => sb_pb h.sb h.res (by decide) e.symm), h.below.trans (tw.below h.below.size (fun i hi => hi)), h.hp, h.hrb⟩, tw⟩
/-- The bytes behind the next two. -/
theorem sl_two {w : World} {g o n c B : Nat} {L : List Nat} (hc : Cs w g o L) (hn : L.length = n) (h2 : 2 ≤ n) (hnc : n ≤ c) (hcm : c ≤ maxLen) (hg : g < B) :
    (2 < c → Sl w (.slice (some ⟨g, o + 2, none⟩) (n - 2) (c - 2)) (L.drop 2) ∧ Lo (.slice (some ⟨g, o + 2, none⟩) (n - 2) (c - 2)) B) ∧ (c = 2 → Sl w (.slice (some ⟨g, o, none⟩) 0 0) (L.drop 2) ∧ n = 2 ∧ Lo (.slice (some ⟨g, o, none⟩) 0 0) B) := by
  refine ⟨fun h => ⟨sl_drop hc hn h2 hnc hcm, fun g' o' n' c' e h0 => ?_⟩, fun h => ?_⟩
  · cases e; exact hg
  · have e2 : n = 2 := by omega
    exact ⟨sl_end (by omega) (Nat.le_refl 2), e2, Lo.empty _ _ _⟩
end Go.Proofs.YtjlllkdimfkjaaaDoor
