/-
  Drawn windows: l8Draw; a number near one: l8Ask.
-/
import Derived.Test.YtmcflfpckpjphaaGreatDoorVdWnDr
import Derived.Deep.RegionHeld3
set_option maxRecDepth 100000
namespace Go.Proofs.YtmcflfpckpjphaaGreatDoor.WnDs
open Go.RowKit Mem MemI Blk Zone ZoneI WnZ Res Draw WinP WnK WnV WnG WnDr

def Drawn (W0 : World) (a : Option Addr) (len cap : Nat) (l : List Int) (p : Nat) (w : World) (e : Ending) (w' : World) : Prop :=
 ∃ (S : WnS) (D : WnD), e = .returned (wnV D S) ∧ D.bits.length = 32 ∧ WnOwn w' w.heap.size w'.heap.size S D ∧ Ready W0 a len cap l p w' ∧ But p w w'

set_option maxHeartbeats 4000000 in
theorem draw {W0 : World} {a : Option Addr} {len cap : Nat} {l : List Int} {p : Nat} {w : World} (h : Ready W0 a len cap l p w) :
  Calls Tryz.prog 153 #[.pointer (some ⟨p, 0, none⟩)] w (Drawn W0 a len cap l p w) := by
 have HP : Hid (p < w.heap.size) := h.hc.lt
 obtain ⟨x0, hx0⟩ : ∃ x0, w.alloc (.cells #[.int .i64 0, .slice none 0 0] 39) = x0 := ⟨_, rfl⟩
 have HW0 : Hid (_ = x0) := hx0
 have R0 : Hid (Ready W0 a len cap l p x0) := by rw [← hx0]; exact h.alloc _
 have B0 : Hid (But p w x0) := by rw [← hx0]; exact (But.refl p w).alloc _
 have KO0 : Hid (Blk x0 w.heap.size 39 [.int .i64 0, .slice none 0 0]) := by rw [← hx0]; exact Blk.new w _ _
 clear hx0 h
 go_enter Tryz.func153, Tryz.ntmps153
 go_upto_region 1 with fail
 rw [HW0.out]
 clear HW0
 go_wp2_with fail
 refine (nums R0.out 12 (by omega)).mono ?_
 rintro e x1 ⟨g, m, c, L, rfl, em, hm, hg, r1, q1, b1⟩
 have HRow : Hid (ISRd x1 ⟨some ⟨g, 0, none⟩, m, c⟩ L) := ⟨em, r1.rd, (fun e => by cases e), by have := r1.1; show m ≤ c; omega⟩
 have HL : Hid (L.length ≤ 4194304) := by show _ ≤ _; omega
 have R1 := hid (q1)
 have B1 := hid (B0.out.trans b1)
 have KO1 : Hid (Blk x1 w.heap.size 39 [.int .i64 0, .slice none 0 0]) := Blk.but KO0.out b1 (by have := HP.out; omega)
 clear em hg r1 q1 b1 R0 B0 KO0
 go_wp2_with fail
 refine (specWinOf (some ⟨g, 0, none⟩) m c L x1 HRow.out HL.out).mono ?_
 unfold Made
 rintro e x2 ⟨S, rfl, o2, b2⟩
 have HD : Hid ((ofD L L.length).bits.length = 32) := ofD_len _ _
 generalize ofD L L.length = D at *
 have O2 := hid (o2)
 have R2 : Hid (Ready W0 a len cap l p x2) := ready_below R1.out b2
 have B2 : Hid (But p w x2) := but_below B1.out b2
 have KO2 := hid (KO1.out.later b2)
 have HLT : Hid (w.heap.size + 1 ≤ x1.heap.size) := KO1.out.lt
 clear o2 b2 R1 B1 KO1
 have q0 := KO2.out.cell 0 rfl
 have q1 := KO2.out.cell 1 rfl
 have f0 := KO2.out.frozen 0
 have f1 := KO2.out.frozen 1
 unfold wnV
 go_wp2
 obtain ⟨k3, o3, _⟩ := WnK.stored KO2.out O2.out HLT.out
 have KP : Kept w.heap.size (w.heap.size + 1) x2 ((x2.setCell ⟨w.heap.size, 0, none⟩ (.int .i64 D.top)).setCell ⟨w.heap.size, 1, none⟩ (.slice S.bits.a S.bits.n S.bits.c)) := (Kept.setCell _ _ _ _).trans (Kept.setCell _ _ _ _)
 exact bodyPost_ret (v := wnV D S) (res1 rfl (is_cell rfl k3 aggWn)) rfl ⟨S, D, rfl, HD.out, o3.mono (by have := HLT.out; omega) (by rw [size2]; exact Nat.le_refl _), ready_kept R2.out KP HP.out, but_kept B2.out KP (Nat.le_refl _)⟩

end Go.Proofs.YtmcflfpckpjphaaGreatDoor.WnDs
