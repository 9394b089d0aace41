/-
  The laws' own words of whether two epochs are the same.
-/
import Derived.Test.YtmcflfpckpjphaaGreatDoorVdSmFr
import Derived.Test.YtmcflfpckpjphaaGreatDoorVdWnW
import Derived.Test.YtmcflfpckpjphaaGreatDoorVdBas3
set_option maxRecDepth 100000
namespace Go.Proofs.YtmcflfpckpjphaaGreatDoor.SmEp
open Go.RowKit Mem Blk Zone ZoneI WnZ FrZ EpZ SmFr
set_option maxHeartbeats 4000000 in
theorem sameEp (S S' : EpS) (D : EpD) (w : World) (h : EpRd w S D) (h' : EpRd w S' D) (hl : EpShort D 4194304) :
  Calls Tryz.prog 25 #[epV D S, epV D S'] w fun e w' => e = .returned (.bool true) ∧ Below w.heap.size w w' := by
 have HR := hid (h)
 have HR' : Hid (EpRd w S' D) := h'
 have HL := hid (hl)
 obtain ⟨x0, hx0⟩ : ∃ x0, (w.alloc (.cells #[.int .i64 D.n, .slice S.key.a S.key.n S.key.c, .int .i64 D.seq, .int .i64 D.win.top, .slice S.win.bits.a S.win.bits.n S.win.bits.c] 41)).alloc (.cells #[.int .i64 D.n, .slice S'.key.a S'.key.n S'.key.c, .int .i64 D.seq, .int .i64 D.win.top, .slice S'.win.bits.a S'.win.bits.n S'.win.bits.c] 41) = x0 := ⟨_, rfl⟩
 have HW0 := hid (hx0)
 have B0 : Hid (Below w.heap.size w x0) := by rw [← hx0]; exact ((Below.refl _ _).alloc (Nat.le_refl _) _).alloc (by simp) _
 have KA : Hid (Blk x0 w.heap.size 41 [.int .i64 D.n, .slice S.key.a S.key.n S.key.c, .int .i64 D.seq, .int .i64 D.win.top, .slice S.win.bits.a S.win.bits.n S.win.bits.c]) := by rw [← hx0]; exact (Blk.new w _ _).alloc _
 have KB : Hid (Blk x0 (w.heap.size + 1) 41 [.int .i64 D.n, .slice S'.key.a S'.key.n S'.key.c, .int .i64 D.seq, .int .i64 D.win.top, .slice S'.win.bits.a S'.win.bits.n S'.win.bits.c]) := by
  have := Blk.new (w.alloc (.cells #[.int .i64 D.n, .slice S.key.a S.key.n S.key.c, .int .i64 D.seq, .int .i64 D.win.top, .slice S.win.bits.a S.win.bits.n S.win.bits.c] 41)) 41 [.int .i64 D.n, .slice S'.key.a S'.key.n S'.key.c, .int .i64 D.seq, .int .i64 D.win.top, .slice S'.win.bits.a S'.win.bits.n S'.win.bits.c]
  rw [World.size_alloc] at this
  rw [← hx0]; exact this
 have e1 : (D.n == D.n) = true := by simp
 have e2 : (D.seq == D.seq) = true := by simp
 clear hx0 h h' hl
 unfold epV
 go_enter Tryz.func25, Tryz.ntmps25
 go_wp2_with fail
 rw [HW0.out]
 obtain ⟨ga, hga⟩ : ∃ ga, w.heap.size = ga := ⟨_, rfl⟩
 obtain ⟨gb, hgb⟩ : ∃ gb, w.heap.size + 1 = gb := ⟨_, rfl⟩
 rw [hgb] at KB ⊢
 rw [hga] at KA
 rw [hga]
 clear hgb
 have a0 := KA.out.cell 0 rfl
 have b0 := KB.out.cell 0 rfl
 have a1 := KA.out.cell 1 rfl
 have b1 := KB.out.cell 1 rfl
 have a2 := KA.out.cell 2 rfl
 have b2 := KB.out.cell 2 rfl
 have a3 := KA.out.cell 3 rfl
 have b3 := KB.out.cell 3 rfl
 have a4 := KA.out.cell 4 rfl
 have b4 := KB.out.cell 4 rfl
 refine (sameS S.key S'.key D.key x0 (HR.out.later B0.out).key (HR'.out.later B0.out).key).mono ?_
 rintro e y ⟨rfl, rfl⟩
 go_wp2_with fail
 refine (WnW.sameWin S.win S'.win D.win x0 (HR.out.later B0.out).win (HR'.out.later B0.out).win HL.out.win).mono ?_
 rintro e y ⟨rfl, b⟩
 have BY := hid (B0.out.trans (b.mono B0.out.size))
 clear b
 go_wp2
 go_ret
 exact ⟨by first | rfl | simp, by first | exact BY.out | (rw [← hga]; exact BY.out)⟩
theorem sameEpE (S S' : EpS) (D D' : EpD) (w : World) (h : EpRd w S D) (h' : EpRd w S' D') (e : D = D') (hl : EpShort D' 4194304) :
  Calls Tryz.prog 25 #[epV D S, epV D' S'] w fun e w' => e = .returned (.bool true) ∧ Below w.heap.size w w' := by
 subst e; exact sameEp S S' D w h h' hl
end Go.Proofs.YtmcflfpckpjphaaGreatDoor.SmEp
