/-
  How long the lists of a Ep are, all in all.
-/
import Derived.Test.YtmcflfpckpjphaaEpZ
import Derived.Test.YtmcflfpckpjphaaWnL2
namespace Go.Proofs.Ytmcflfpckpjphaa.EpL
open Go.RowKit Go.Proofs.Ytmcflfpckpjphaa.Mem Go.Proofs.Ytmcflfpckpjphaa.Blk Go.Proofs.Ytmcflfpckpjphaa.Zone Go.Proofs.Ytmcflfpckpjphaa.ZoneI Go.Proofs.Ytmcflfpckpjphaa.EpZ Go.Proofs.Ytmcflfpckpjphaa.WnZ Go.Proofs.Ytmcflfpckpjphaa.WnL2
theorem ep_short_le {D : EpD} {n m : Nat} (h : EpShort D n) (hm : n ≤ m) : EpShort D m := ⟨Nat.le_trans h.key hm, wn_short_le h.win hm⟩
theorem ep_sum_eq {w w' : World} {S S' : EpS} {D : EpD} (r : EpRd w S D) (r' : EpRd w' S' D) : epSum S' = epSum S := by
  have a0 := r.key.len; have b0 := r'.key.len
  have a1 := wn_sum_eq r.win r'.win
  unfold epSum; omega
theorem ep_sum_le {w : World} {S : EpS} {D : EpD} {n : Nat} (r : EpRd w S D) (h : EpShort D n) : epSum S ≤ 2 * n := by
  have a0 := r.key.len; have b0 := h.key
  have a1 := wn_sum_le r.win h.win
  unfold epSum; omega
theorem ep_short_of {w : World} {S : EpS} {D : EpD} {n : Nat} (r : EpRd w S D) (h : epSum S ≤ n) : EpShort D n := by
  unfold epSum at h
  have a0 := r.key.len
  exact ⟨by omega, wn_short_of r.win (by omega)⟩
theorem ep_other {w : World} {g g' : Nat} {t : TypeId} {cs : List Value} (k : Blk w g' t cs) (ne : g' ≠ g) (v0 v1 v2 v3 v4 : Value) : Blk (((((w.setCell ⟨g, 0, none⟩ (v0)).setCell ⟨g, 1, none⟩ (v1)).setCell ⟨g, 2, none⟩ (v2)).setCell ⟨g, 3, none⟩ (v3)).setCell ⟨g, 4, none⟩ (v4)) g' t cs :=
  ((((k.other (by exact ne) _).other (by exact ne) _).other (by exact ne) _).other (by exact ne) _).other (by exact ne) _
theorem ep_kept (w : World) (g : Nat) (v0 v1 v2 v3 v4 : Value) : Kept g (g + 1) w (((((w.setCell ⟨g, 0, none⟩ (v0)).setCell ⟨g, 1, none⟩ (v1)).setCell ⟨g, 2, none⟩ (v2)).setCell ⟨g, 3, none⟩ (v3)).setCell ⟨g, 4, none⟩ (v4)) := ((((Kept.setCell _ _ _ _).trans (Kept.setCell _ _ _ _)).trans (Kept.setCell _ _ _ _)).trans (Kept.setCell _ _ _ _)).trans (Kept.setCell _ _ _ _)
theorem ep_size (w : World) (g : Nat) (v0 v1 v2 v3 v4 : Value) : (((((w.setCell ⟨g, 0, none⟩ (v0)).setCell ⟨g, 1, none⟩ (v1)).setCell ⟨g, 2, none⟩ (v2)).setCell ⟨g, 3, none⟩ (v3)).setCell ⟨g, 4, none⟩ (v4)).heap.size = w.heap.size := by simp
theorem ep_stored {w : World} {g lo hi : Nat} {u0 u1 u2 u3 u4 : Value} {D : EpD} {S : EpS} (k : Blk w g 54 [u0, u1, u2, u3, u4]) (o : EpOwn w lo hi S D) (d : g + 1 ≤ lo ∨ hi ≤ g) :
    Blk (((((w.setCell ⟨g, 0, none⟩ (.int .i64 D.n)).setCell ⟨g, 1, none⟩ (.slice S.key.a S.key.n S.key.c)).setCell ⟨g, 2, none⟩ (.int .i64 D.seq)).setCell ⟨g, 3, none⟩ (.int .i64 D.win.top)).setCell ⟨g, 4, none⟩ (.slice S.win.bits.a S.win.bits.n S.win.bits.c)) g 54 [.int .i64 D.n, .slice S.key.a S.key.n S.key.c, .int .i64 D.seq, .int .i64 D.win.top, .slice S.win.bits.a S.win.bits.n S.win.bits.c] ∧ EpOwn (((((w.setCell ⟨g, 0, none⟩ (.int .i64 D.n)).setCell ⟨g, 1, none⟩ (.slice S.key.a S.key.n S.key.c)).setCell ⟨g, 2, none⟩ (.int .i64 D.seq)).setCell ⟨g, 3, none⟩ (.int .i64 D.win.top)).setCell ⟨g, 4, none⟩ (.slice S.win.bits.a S.win.bits.n S.win.bits.c)) lo hi S D ∧ (∀ B a, B ≤ g → Below B a w → Below B a (((((w.setCell ⟨g, 0, none⟩ (.int .i64 D.n)).setCell ⟨g, 1, none⟩ (.slice S.key.a S.key.n S.key.c)).setCell ⟨g, 2, none⟩ (.int .i64 D.seq)).setCell ⟨g, 3, none⟩ (.int .i64 D.win.top)).setCell ⟨g, 4, none⟩ (.slice S.win.bits.a S.win.bits.n S.win.bits.c))) := by
  refine ⟨((((k.set 0 _ (by simp [maxLen])).set 1 _ (by simp [maxLen])).set 2 _ (by simp [maxLen])).set 3 _ (by simp [maxLen])).set 4 _ (by simp [maxLen]), o.carry (ep_kept w g _ _ _ _ _) (by omega), fun B a hB h => ?_⟩
  exact ((((h.setCell (by exact hB) _).setCell (by exact hB) _).setCell (by exact hB) _).setCell (by exact hB) _).setCell (by exact hB) _
end Go.Proofs.Ytmcflfpckpjphaa.EpL
