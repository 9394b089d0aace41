/-
  How long the lists of a Jar are, all in all.
-/
import Derived.Test.YtpgapjdejelajaaDoorJaZ
import Derived.Test.YtpgapjdejelajaaDoorZoneI
namespace Go.Proofs.YtpgapjdejelajaaDoor.JaL
open Go.RowKit Go.Proofs.YtpgapjdejelajaaDoor.Mem Go.Proofs.YtpgapjdejelajaaDoor.Blk Go.Proofs.YtpgapjdejelajaaDoor.Zone Go.Proofs.YtpgapjdejelajaaDoor.ZoneI Go.Proofs.YtpgapjdejelajaaDoor.JaZ 
set_option maxRecDepth 100000 in
theorem ja_short_le {D : JaD} {n m : Nat} (h : JaShort D n) (hm : n ≤ m) : JaShort D m := ⟨Nat.le_trans h.secret hm⟩
set_option maxRecDepth 100000 in
theorem ja_sum_eq {w w' : World} {S S' : JaS} {D : JaD} (r : JaRd w S D) (r' : JaRd w' S' D) : jaSum S' = jaSum S := by
  have a0 := r.secret.len; have b0 := r'.secret.len
  unfold jaSum; omega
set_option maxRecDepth 100000 in
theorem ja_sum_le {w : World} {S : JaS} {D : JaD} {n : Nat} (r : JaRd w S D) (h : JaShort D n) : jaSum S ≤ 1 * n := by
  have a0 := r.secret.len; have b0 := h.secret
  unfold jaSum; omega
set_option maxRecDepth 100000 in
theorem ja_short_of {w : World} {S : JaS} {D : JaD} {n : Nat} (r : JaRd w S D) (h : jaSum S ≤ n) : JaShort D n := by
  unfold jaSum at h
  have a0 := r.secret.len
  exact ⟨by omega⟩
set_option maxRecDepth 100000 in
theorem ja_other {w : World} {g g' : Nat} {t : TypeId} {cs : List Value} (k : Blk w g' t cs) (ne : g' ≠ g) (v0 : Value) : Blk (w.setCell ⟨g, 0, none⟩ (v0)) g' t cs :=
  k.other (by exact ne) _
set_option maxRecDepth 100000 in
theorem ja_kept (w : World) (g : Nat) (v0 : Value) : Kept g (g + 1) w (w.setCell ⟨g, 0, none⟩ (v0)) := Kept.setCell _ _ _ _
set_option maxRecDepth 100000 in
theorem ja_size (w : World) (g : Nat) (v0 : Value) : (w.setCell ⟨g, 0, none⟩ (v0)).heap.size = w.heap.size := by simp
set_option maxRecDepth 100000 in
theorem ja_stored {w : World} {g lo hi : Nat} {u0 : Value} {D : JaD} {S : JaS} (k : Blk w g 24 [u0]) (o : JaOwn w lo hi S D) (d : g + 1 ≤ lo ∨ hi ≤ g) :
    Blk (w.setCell ⟨g, 0, none⟩ (.slice S.secret.a S.secret.n S.secret.c)) g 24 [.slice S.secret.a S.secret.n S.secret.c] ∧ JaOwn (w.setCell ⟨g, 0, none⟩ (.slice S.secret.a S.secret.n S.secret.c)) lo hi S D ∧ (∀ B a, B ≤ g → Below B a w → Below B a (w.setCell ⟨g, 0, none⟩ (.slice S.secret.a S.secret.n S.secret.c))) := by
  refine ⟨k.set 0 _ (by simp [maxLen]), o.carry (ja_kept w g _) (by omega), fun B a hB h => ?_⟩
  exact h.setCell (by exact hB) _
end Go.Proofs.YtpgapjdejelajaaDoor.JaL
