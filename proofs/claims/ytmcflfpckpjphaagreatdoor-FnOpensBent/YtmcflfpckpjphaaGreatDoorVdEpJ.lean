/-
  What impl's codeOf, sealNext and EpSeal answer.
-/
import Derived.Test.YtmcflfpckpjphaaGreatDoorVdBas6
import Derived.Test.YtmcflfpckpjphaaGreatDoorVdSealI
import Derived.Test.YtmcflfpckpjphaaGreatDoorVdAsF
set_option maxRecDepth 100000
namespace Go.Proofs.YtmcflfpckpjphaaGreatDoor.EpJ
open Go.RowKit Mem App Blk Words Zone ZoneI Res Comp WnZ WinP WnK WnG FrZ FrL FrP FrG FrQ FrQ2 SlP SlQ Shp EpZ EpL EpP EpQ Each Copy Ops Guard SlI EpI AsF

def ErrAt (w : World) : Prop := w.cell? ⟨0, 0, none⟩ = some (.iface 195 (.agg #[.pointer (some ⟨2, 97, none⟩)]))
theorem ErrAt.later {w w' : World} (h : ErrAt w) (b : Below w.heap.size w w') : ErrAt w' := by
 unfold ErrAt at *
 rw [b.cell (World.block_lt_of_cell? w _ h)]; exact h
def errV (c : Int) : Value := if c = 0 then .nilIface else .iface 145 (.agg #[.int .i64 c])
theorem errV_0 : errV 0 = .nilIface := rfl
theorem errV_c {c : Int} (h : c ≠ 0) : errV c = .iface 145 (.agg #[.int .i64 c]) := by unfold errV; rw [if_neg h]

set_option maxHeartbeats 4000000 in
theorem codeOf (c : Int) (w : World) (hE : ErrAt w) :
  Calls Tryz.prog 78 #[.iface 145 (.agg #[.int .i64 c])] w fun e w' => e = .returned (.int .i64 c) ∧ Below w.heap.size w w' := by
 have HE := hid (hE)
 clear hE
 obtain ⟨x0, hx0⟩ : ∃ x0, w.alloc (.cells #[.int .i64 0] 145) = x0 := ⟨_, rfl⟩
 have HW0 := hid (hx0)
 have B0 : Hid (Below w.heap.size w x0) := by rw [← hx0]; exact (Below.refl _ _).alloc (Nat.le_refl _) _
 have K0 : Hid (Blk x0 w.heap.size 145 [.int .i64 0]) := by rw [← hx0]; exact Blk.new w _ _
 clear hx0
 go_enter Tryz.func78, Tryz.ntmps78
 go_upto_region 2 with fail
 rw [HW0.out]
 obtain ⟨gt, hgt⟩ : ∃ g, w.heap.size = g := ⟨_, rfl⟩
 have HG : Hid (w.heap.size = gt) := hgt
 rw [hgt] at K0
 rw [hgt]
 clear hgt HW0
 go_wp2_with fail
 refine (as_hit c ⟨gt, 0, none⟩ (.int .i64 0) x0 (HE.out.later B0.out) (K0.out.cell 0 rfl) (K0.out.frozen 0)).mono ?_
 rintro e x1 ⟨rfl, hw⟩
 have K1 : Hid (Blk x1 gt 145 [.int .i64 c]) := by rw [hw]; exact ((((K0.out.alloc _).alloc _).alloc _).alloc _).set 0 _ (by simp [maxLen])
 have B1 : Hid (Below w.heap.size w x1) := by
  rw [hw]
  have l := B0.out.size
  exact ((((B0.out.alloc l _).alloc (by simp; omega) _).alloc (by simp; omega) _).alloc (by simp; omega) _).setCell (by show _ ≤ gt; have := HG.out; omega) _
 clear hw
 have c0 := K1.out.cell 0 rfl
 go_wp2
 go_ret
 exact ⟨rfl, B1.out⟩

theorem epOkV (S : EpS) (D : EpD) (v : Bool) (w : World) (h : EpRd w S D) (hv : epOk D = v) : Calls Tryz.prog 29 #[epV D S] w fun e w' => e = .returned (.bool v) ∧ Below w.heap.size w w' := by
 subst hv; exact implEpOk S D w h
end Go.Proofs.YtmcflfpckpjphaaGreatDoor.EpJ
