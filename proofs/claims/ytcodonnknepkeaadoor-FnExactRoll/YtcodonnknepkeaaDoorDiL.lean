/-
  How long the lists of a Dice are, all in all.
-/
import Derived.Test.YtcodonnknepkeaaDoorDiZ
import Derived.Test.YtcodonnknepkeaaDoorZoneI
namespace Go.Proofs.YtcodonnknepkeaaDoor.DiL
open Go.RowKit Go.Proofs.YtcodonnknepkeaaDoor.Mem Go.Proofs.YtcodonnknepkeaaDoor.Blk Go.Proofs.YtcodonnknepkeaaDoor.Zone Go.Proofs.YtcodonnknepkeaaDoor.ZoneI Go.Proofs.YtcodonnknepkeaaDoor.DiZ 
set_option maxRecDepth 100000 in
theorem di_short_le {D : DiD} {n m : Nat} (h : DiShort D n) (hm : n ≤ m) : DiShort D m := ⟨Nat.le_trans h.seed hm⟩
set_option maxRecDepth 100000 in
theorem di_sum_eq {w w' : World} {S S' : DiS} {D : DiD} (r : DiRd w S D) (r' : DiRd w' S' D) : diSum S' = diSum S := by
  have a0 := r.seed.len; have b0 := r'.seed.len
  unfold diSum; omega
set_option maxRecDepth 100000 in
theorem di_sum_le {w : World} {S : DiS} {D : DiD} {n : Nat} (r : DiRd w S D) (h : DiShort D n) : diSum S ≤ 1 * n := by
  have a0 := r.seed.len; have b0 := h.seed
  unfold diSum; omega
set_option maxRecDepth 100000 in
theorem di_short_of {w : World} {S : DiS} {D : DiD} {n : Nat} (r : DiRd w S D) (h : diSum S ≤ n) : DiShort D n := by
  unfold diSum at h
  have a0 := r.seed.len
  exact ⟨by omega⟩
set_option maxRecDepth 100000 in
theorem di_other {w : World} {g g' : Nat} {t : TypeId} {cs : List Value} (k : Blk w g' t cs) (ne : g' ≠ g) (v0 v1 : Value) : Blk ((w.setCell ⟨g, 0, none⟩ (v0)).setCell ⟨g, 1, none⟩ (v1)) g' t cs :=
  (k.other (by exact ne) _).other (by exact ne) _
set_option maxRecDepth 100000 in
theorem di_kept (w : World) (g : Nat) (v0 v1 : Value) : Kept g (g + 1) w ((w.setCell ⟨g, 0, none⟩ (v0)).setCell ⟨g, 1, none⟩ (v1)) := (Kept.setCell _ _ _ _).trans (Kept.setCell _ _ _ _)
set_option maxRecDepth 100000 in
theorem di_size (w : World) (g : Nat) (v0 v1 : Value) : ((w.setCell ⟨g, 0, none⟩ (v0)).setCell ⟨g, 1, none⟩ (v1)).heap.size = w.heap.size := by simp
set_option maxRecDepth 100000 in
theorem di_stored {w : World} {g lo hi : Nat} {u0 u1 : Value} {D : DiD} {S : DiS} (k : Blk w g 25 [u0, u1]) (o : DiOwn w lo hi S D) (d : g + 1 ≤ lo ∨ hi ≤ g) :
    Blk ((w.setCell ⟨g, 0, none⟩ (.slice S.seed.a S.seed.n S.seed.c)).setCell ⟨g, 1, none⟩ (.int .i64 D.num)) g 25 [.slice S.seed.a S.seed.n S.seed.c, .int .i64 D.num] ∧ DiOwn ((w.setCell ⟨g, 0, none⟩ (.slice S.seed.a S.seed.n S.seed.c)).setCell ⟨g, 1, none⟩ (.int .i64 D.num)) lo hi S D ∧ (∀ B a, B ≤ g → Below B a w → Below B a ((w.setCell ⟨g, 0, none⟩ (.slice S.seed.a S.seed.n S.seed.c)).setCell ⟨g, 1, none⟩ (.int .i64 D.num))) := by
  refine ⟨(k.set 0 _ (by simp [maxLen])).set 1 _ (by simp [maxLen]), o.carry (di_kept w g _ _) (by omega), fun B a hB h => ?_⟩
  exact (h.setCell (by exact hB) _).setCell (by exact hB) _
end Go.Proofs.YtcodonnknepkeaaDoor.DiL
