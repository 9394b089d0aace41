/-
  How long the lists of a Win are, all in all.
-/
import Derived.Test.YtmcflfpckpjphaaWnZ
namespace Go.Proofs.Ytmcflfpckpjphaa.WnL2
open Go.RowKit Go.Proofs.Ytmcflfpckpjphaa.Mem Go.Proofs.Ytmcflfpckpjphaa.Blk Go.Proofs.Ytmcflfpckpjphaa.Zone Go.Proofs.Ytmcflfpckpjphaa.ZoneI Go.Proofs.Ytmcflfpckpjphaa.WnZ 
theorem wn_short_le {D : WnD} {n m : Nat} (h : WnShort D n) (hm : n ≤ m) : WnShort D m := ⟨Nat.le_trans h.bits hm⟩
theorem wn_sum_eq {w w' : World} {S S' : WnS} {D : WnD} (r : WnRd w S D) (r' : WnRd w' S' D) : wnSum S' = wnSum S := by
  have a0 := r.bits.len; have b0 := r'.bits.len
  unfold wnSum; omega
theorem wn_sum_le {w : World} {S : WnS} {D : WnD} {n : Nat} (r : WnRd w S D) (h : WnShort D n) : wnSum S ≤ 1 * n := by
  have a0 := r.bits.len; have b0 := h.bits
  unfold wnSum; omega
theorem wn_short_of {w : World} {S : WnS} {D : WnD} {n : Nat} (r : WnRd w S D) (h : wnSum S ≤ n) : WnShort D n := by
  unfold wnSum at h
  have a0 := r.bits.len
  exact ⟨by omega⟩
theorem wn_other {w : World} {g g' : Nat} {t : TypeId} {cs : List Value} (k : Blk w g' t cs) (ne : g' ≠ g) (v0 v1 : Value) : Blk ((w.setCell ⟨g, 0, none⟩ (v0)).setCell ⟨g, 1, none⟩ (v1)) g' t cs :=
  (k.other (by exact ne) _).other (by exact ne) _
theorem wn_kept (w : World) (g : Nat) (v0 v1 : Value) : Kept g (g + 1) w ((w.setCell ⟨g, 0, none⟩ (v0)).setCell ⟨g, 1, none⟩ (v1)) := (Kept.setCell _ _ _ _).trans (Kept.setCell _ _ _ _)
theorem wn_size (w : World) (g : Nat) (v0 v1 : Value) : ((w.setCell ⟨g, 0, none⟩ (v0)).setCell ⟨g, 1, none⟩ (v1)).heap.size = w.heap.size := by simp
theorem wn_stored {w : World} {g lo hi : Nat} {u0 u1 : Value} {D : WnD} {S : WnS} (k : Blk w g 26 [u0, u1]) (o : WnOwn w lo hi S D) (d : g + 1 ≤ lo ∨ hi ≤ g) :
    Blk ((w.setCell ⟨g, 0, none⟩ (.int .i64 D.top)).setCell ⟨g, 1, none⟩ (.slice S.bits.a S.bits.n S.bits.c)) g 26 [.int .i64 D.top, .slice S.bits.a S.bits.n S.bits.c] ∧ WnOwn ((w.setCell ⟨g, 0, none⟩ (.int .i64 D.top)).setCell ⟨g, 1, none⟩ (.slice S.bits.a S.bits.n S.bits.c)) lo hi S D ∧ (∀ B a, B ≤ g → Below B a w → Below B a ((w.setCell ⟨g, 0, none⟩ (.int .i64 D.top)).setCell ⟨g, 1, none⟩ (.slice S.bits.a S.bits.n S.bits.c))) := by
  refine ⟨(k.set 0 _ (by simp [maxLen])).set 1 _ (by simp [maxLen]), o.carry (wn_kept w g _ _) (by omega), fun B a hB h => ?_⟩
  exact (h.setCell (by exact hB) _).setCell (by exact hB) _
end Go.Proofs.Ytmcflfpckpjphaa.WnL2
