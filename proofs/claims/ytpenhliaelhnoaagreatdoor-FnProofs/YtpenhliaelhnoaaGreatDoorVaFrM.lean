/-
  A Frame that is being made in a block of its own: what setting a field leaves.
-/
import Derived.Test.YtpenhliaelhnoaaGreatDoorVaFrZ
set_option maxRecDepth 100000
namespace Go.Proofs.YtpenhliaelhnoaaGreatDoor.FrM
open Go.RowKit Mem Blk Zone Res FrZ

structure FrMk (w : World) (g lo : Nat) (D : FrD) (S : FrS) : Prop where
 blk : Blk w g 25 [.int .i64 D.kind, .int .i64 D.id, .slice S.cn.a S.cn.n S.cn.c, .slice S.sn.a S.sn.n S.sn.c, .int .i64 D.tick, .slice S.cookie.a S.cookie.n S.cookie.c, .slice S.proof.a S.proof.n S.proof.c, .int .i64 D.epoch, .int .i64 D.seq, .slice S.body.a S.body.n S.body.c, .slice S.tag.a S.tag.n S.tag.c]
 own : FrOwn w lo w.heap.size S D
 lt : g < lo
theorem ne_new {w : World} {lo hi q : Nat} {s : Sl} {l : List Int} (h : SOwn w lo hi s l) (hq : hi ≤ q) : s.a ≠ some ⟨q, 0, none⟩ := by
 obtain ⟨_, ⟨h1, _⟩ | ⟨g, h1, _, _, h4, _⟩⟩ := h
 ·
  rw [h1]; intro e; cases e
 ·
  rw [h1]; intro e; cases e; omega
theorem FrMk.id {w : World} {g lo : Nat} {D : FrD} {S : FrS} (h : FrMk w g lo D S) (v : Int) : FrMk (w.setCell ⟨g, 1, none⟩ (.int .i64 v)) g lo { D with id := v } S := by
 have o := (h.own.carry (Kept.setCell w g 1 (.int .i64 v)) (.inr h.lt)).mono (Nat.le_refl _) (show w.heap.size ≤ (w.setCell ⟨g, 1, none⟩ (.int .i64 v)).heap.size by simp)
 exact ⟨h.blk.set 1 _ (by simp [maxLen]), ⟨o.cn, o.sn, o.cookie, o.proof, o.body, o.tag, o.apart⟩, h.lt⟩
theorem FrMk.tick {w : World} {g lo : Nat} {D : FrD} {S : FrS} (h : FrMk w g lo D S) (v : Int) : FrMk (w.setCell ⟨g, 4, none⟩ (.int .i64 v)) g lo { D with tick := v } S := by
 have o := (h.own.carry (Kept.setCell w g 4 (.int .i64 v)) (.inr h.lt)).mono (Nat.le_refl _) (show w.heap.size ≤ (w.setCell ⟨g, 4, none⟩ (.int .i64 v)).heap.size by simp)
 exact ⟨h.blk.set 4 _ (by simp [maxLen]), ⟨o.cn, o.sn, o.cookie, o.proof, o.body, o.tag, o.apart⟩, h.lt⟩
theorem FrMk.epoch {w : World} {g lo : Nat} {D : FrD} {S : FrS} (h : FrMk w g lo D S) (v : Int) : FrMk (w.setCell ⟨g, 7, none⟩ (.int .i64 v)) g lo { D with epoch := v } S := by
 have o := (h.own.carry (Kept.setCell w g 7 (.int .i64 v)) (.inr h.lt)).mono (Nat.le_refl _) (show w.heap.size ≤ (w.setCell ⟨g, 7, none⟩ (.int .i64 v)).heap.size by simp)
 exact ⟨h.blk.set 7 _ (by simp [maxLen]), ⟨o.cn, o.sn, o.cookie, o.proof, o.body, o.tag, o.apart⟩, h.lt⟩
theorem FrMk.seq {w : World} {g lo : Nat} {D : FrD} {S : FrS} (h : FrMk w g lo D S) (v : Int) : FrMk (w.setCell ⟨g, 8, none⟩ (.int .i64 v)) g lo { D with seq := v } S := by
 have o := (h.own.carry (Kept.setCell w g 8 (.int .i64 v)) (.inr h.lt)).mono (Nat.le_refl _) (show w.heap.size ≤ (w.setCell ⟨g, 8, none⟩ (.int .i64 v)).heap.size by simp)
 exact ⟨h.blk.set 8 _ (by simp [maxLen]), ⟨o.cn, o.sn, o.cookie, o.proof, o.body, o.tag, o.apart⟩, h.lt⟩
end Go.Proofs.YtpenhliaelhnoaaGreatDoor.FrM
