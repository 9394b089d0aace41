/-
  What impl's Stream and Mix answer, where the table of round words holds what the program's text lays into it.
  What Diff and SameTag answer, impl's and spec's.
  How long the lists of a Frame are, all in all.
  One operation of a region that draws its order, under a guard: it runs where its guard holds; else its slot is left undefined.
-/
import Derived.Test.YtpenhliaelhnoaaGreatDoorVbGz14
import Derived.Test.YtpenhliaelhnoaaGreatDoorVbGz15
import Derived.Test.YtpenhliaelhnoaaGreatDoorVbGz5
import Derived.Test.YtpenhliaelhnoaaGreatDoorVbFrZ
import Derived.Test.YtpenhliaelhnoaaGreatDoorVbGz7
import Derived.Test.YtpenhliaelhnoaaGreatDoorVbGz8
set_option linter.unusedVariables false

set_option maxRecDepth 100000
namespace Go.Proofs.YtpenhliaelhnoaaGreatDoor.FrL
open Go.RowKit Mem Blk Zone FrZ
theorem fr_short_le {D : FrD} {n m : Nat} (h : FrShort D n) (hm : n ≤ m) : FrShort D m := ⟨Nat.le_trans h.cn hm, Nat.le_trans h.sn hm, Nat.le_trans h.cookie hm, Nat.le_trans h.proof hm, Nat.le_trans h.body hm, Nat.le_trans h.tag hm⟩
theorem fr_sum_eq {w w' : World} {S S' : FrS} {D : FrD} (r : FrRd w S D) (r' : FrRd w' S' D) : frSum S' = frSum S := by
 have a0 := r.cn.len; have b0 := r'.cn.len
 have a1 := r.sn.len; have b1 := r'.sn.len
 have a2 := r.cookie.len; have b2 := r'.cookie.len
 have a3 := r.proof.len; have b3 := r'.proof.len
 have a4 := r.body.len; have b4 := r'.body.len
 have a5 := r.tag.len; have b5 := r'.tag.len
 unfold frSum; omega
theorem fr_sum_le {w : World} {S : FrS} {D : FrD} {n : Nat} (r : FrRd w S D) (h : FrShort D n) : frSum S ≤ 6 * n := by
 have a0 := r.cn.len; have b0 := h.cn
 have a1 := r.sn.len; have b1 := h.sn
 have a2 := r.cookie.len; have b2 := h.cookie
 have a3 := r.proof.len; have b3 := h.proof
 have a4 := r.body.len; have b4 := h.body
 have a5 := r.tag.len; have b5 := h.tag
 unfold frSum; omega
theorem fr_short_of {w : World} {S : FrS} {D : FrD} {n : Nat} (r : FrRd w S D) (h : frSum S ≤ n) : FrShort D n := by
 unfold frSum at h
 have a0 := r.cn.len
 have a1 := r.sn.len
 have a2 := r.cookie.len
 have a3 := r.proof.len
 have a4 := r.body.len
 have a5 := r.tag.len
 exact ⟨by omega, by omega, by omega, by omega, by omega, by omega⟩
theorem fr_other {w : World} {g g' : Nat} {t : TypeId} {cs : List Value} (k : Blk w g' t cs) (ne : g' ≠ g) (v0 v1 v2 v3 v4 v5 v6 v7 v8 v9 v10 : Value) : Blk (((((((((((w.setCell ⟨g, 0, none⟩ (v0)).setCell ⟨g, 1, none⟩ (v1)).setCell ⟨g, 2, none⟩ (v2)).setCell ⟨g, 3, none⟩ (v3)).setCell ⟨g, 4, none⟩ (v4)).setCell ⟨g, 5, none⟩ (v5)).setCell ⟨g, 6, none⟩ (v6)).setCell ⟨g, 7, none⟩ (v7)).setCell ⟨g, 8, none⟩ (v8)).setCell ⟨g, 9, none⟩ (v9)).setCell ⟨g, 10, none⟩ (v10)) g' t cs :=
 ((((((((((k.other (by exact ne) _).other (by exact ne) _).other (by exact ne) _).other (by exact ne) _).other (by exact ne) _).other (by exact ne) _).other (by exact ne) _).other (by exact ne) _).other (by exact ne) _).other (by exact ne) _).other (by exact ne) _
theorem fr_kept (w : World) (g : Nat) (v0 v1 v2 v3 v4 v5 v6 v7 v8 v9 v10 : Value) : Kept g (g + 1) w (((((((((((w.setCell ⟨g, 0, none⟩ (v0)).setCell ⟨g, 1, none⟩ (v1)).setCell ⟨g, 2, none⟩ (v2)).setCell ⟨g, 3, none⟩ (v3)).setCell ⟨g, 4, none⟩ (v4)).setCell ⟨g, 5, none⟩ (v5)).setCell ⟨g, 6, none⟩ (v6)).setCell ⟨g, 7, none⟩ (v7)).setCell ⟨g, 8, none⟩ (v8)).setCell ⟨g, 9, none⟩ (v9)).setCell ⟨g, 10, none⟩ (v10)) := ((((((((((Kept.setCell _ _ _ _).trans (Kept.setCell _ _ _ _)).trans (Kept.setCell _ _ _ _)).trans (Kept.setCell _ _ _ _)).trans (Kept.setCell _ _ _ _)).trans (Kept.setCell _ _ _ _)).trans (Kept.setCell _ _ _ _)).trans (Kept.setCell _ _ _ _)).trans (Kept.setCell _ _ _ _)).trans (Kept.setCell _ _ _ _)).trans (Kept.setCell _ _ _ _)
theorem fr_size (w : World) (g : Nat) (v0 v1 v2 v3 v4 v5 v6 v7 v8 v9 v10 : Value) : (((((((((((w.setCell ⟨g, 0, none⟩ (v0)).setCell ⟨g, 1, none⟩ (v1)).setCell ⟨g, 2, none⟩ (v2)).setCell ⟨g, 3, none⟩ (v3)).setCell ⟨g, 4, none⟩ (v4)).setCell ⟨g, 5, none⟩ (v5)).setCell ⟨g, 6, none⟩ (v6)).setCell ⟨g, 7, none⟩ (v7)).setCell ⟨g, 8, none⟩ (v8)).setCell ⟨g, 9, none⟩ (v9)).setCell ⟨g, 10, none⟩ (v10)).heap.size = w.heap.size := by simp
theorem fr_stored {w : World} {g lo hi : Nat} {u0 u1 u2 u3 u4 u5 u6 u7 u8 u9 u10 : Value} {D : FrD} {S : FrS} (k : Blk w g 25 [u0, u1, u2, u3, u4, u5, u6, u7, u8, u9, u10]) (o : FrOwn w lo hi S D) (d : g + 1 ≤ lo ∨ hi ≤ g) :
  Blk (((((((((((w.setCell ⟨g, 0, none⟩ (.int .i64 D.kind)).setCell ⟨g, 1, none⟩ (.int .i64 D.id)).setCell ⟨g, 2, none⟩ (.slice S.cn.a S.cn.n S.cn.c)).setCell ⟨g, 3, none⟩ (.slice S.sn.a S.sn.n S.sn.c)).setCell ⟨g, 4, none⟩ (.int .i64 D.tick)).setCell ⟨g, 5, none⟩ (.slice S.cookie.a S.cookie.n S.cookie.c)).setCell ⟨g, 6, none⟩ (.slice S.proof.a S.proof.n S.proof.c)).setCell ⟨g, 7, none⟩ (.int .i64 D.epoch)).setCell ⟨g, 8, none⟩ (.int .i64 D.seq)).setCell ⟨g, 9, none⟩ (.slice S.body.a S.body.n S.body.c)).setCell ⟨g, 10, none⟩ (.slice S.tag.a S.tag.n S.tag.c)) g 25 [.int .i64 D.kind, .int .i64 D.id, .slice S.cn.a S.cn.n S.cn.c, .slice S.sn.a S.sn.n S.sn.c, .int .i64 D.tick, .slice S.cookie.a S.cookie.n S.cookie.c, .slice S.proof.a S.proof.n S.proof.c, .int .i64 D.epoch, .int .i64 D.seq, .slice S.body.a S.body.n S.body.c, .slice S.tag.a S.tag.n S.tag.c] ∧ FrOwn (((((((((((w.setCell ⟨g, 0, none⟩ (.int .i64 D.kind)).setCell ⟨g, 1, none⟩ (.int .i64 D.id)).setCell ⟨g, 2, none⟩ (.slice S.cn.a S.cn.n S.cn.c)).setCell ⟨g, 3, none⟩ (.slice S.sn.a S.sn.n S.sn.c)).setCell ⟨g, 4, none⟩ (.int .i64 D.tick)).setCell ⟨g, 5, none⟩ (.slice S.cookie.a S.cookie.n S.cookie.c)).setCell ⟨g, 6, none⟩ (.slice S.proof.a S.proof.n S.proof.c)).setCell ⟨g, 7, none⟩ (.int .i64 D.epoch)).setCell ⟨g, 8, none⟩ (.int .i64 D.seq)).setCell ⟨g, 9, none⟩ (.slice S.body.a S.body.n S.body.c)).setCell ⟨g, 10, none⟩ (.slice S.tag.a S.tag.n S.tag.c)) lo hi S D ∧ (∀ B a, B ≤ g → Below B a w → Below B a (((((((((((w.setCell ⟨g, 0, none⟩ (.int .i64 D.kind)).setCell ⟨g, 1, none⟩ (.int .i64 D.id)).setCell ⟨g, 2, none⟩ (.slice S.cn.a S.cn.n S.cn.c)).setCell ⟨g, 3, none⟩ (.slice S.sn.a S.sn.n S.sn.c)).setCell ⟨g, 4, none⟩ (.int .i64 D.tick)).setCell ⟨g, 5, none⟩ (.slice S.cookie.a S.cookie.n S.cookie.c)).setCell ⟨g, 6, none⟩ (.slice S.proof.a S.proof.n S.proof.c)).setCell ⟨g, 7, none⟩ (.int .i64 D.epoch)).setCell ⟨g, 8, none⟩ (.int .i64 D.seq)).setCell ⟨g, 9, none⟩ (.slice S.body.a S.body.n S.body.c)).setCell ⟨g, 10, none⟩ (.slice S.tag.a S.tag.n S.tag.c))) := by
 refine ⟨((((((((((k.set 0 _ (by simp [maxLen])).set 1 _ (by simp [maxLen])).set 2 _ (by simp [maxLen])).set 3 _ (by simp [maxLen])).set 4 _ (by simp [maxLen])).set 5 _ (by simp [maxLen])).set 6 _ (by simp [maxLen])).set 7 _ (by simp [maxLen])).set 8 _ (by simp [maxLen])).set 9 _ (by simp [maxLen])).set 10 _ (by simp [maxLen]), o.carry (fr_kept w g _ _ _ _ _ _ _ _ _ _ _) (by omega), fun B a hB h => ?_⟩
 exact ((((((((((h.setCell (by exact hB) _).setCell (by exact hB) _).setCell (by exact hB) _).setCell (by exact hB) _).setCell (by exact hB) _).setCell (by exact hB) _).setCell (by exact hB) _).setCell (by exact hB) _).setCell (by exact hB) _).setCell (by exact hB) _).setCell (by exact hB) _
end Go.Proofs.YtpenhliaelhnoaaGreatDoor.FrL

