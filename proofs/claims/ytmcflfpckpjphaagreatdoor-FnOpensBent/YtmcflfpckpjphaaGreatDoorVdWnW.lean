/-
  The laws' own word of whether two windows are the same.
-/
import Derived.Test.YtmcflfpckpjphaaGreatDoorVdBas3
set_option maxRecDepth 100000
namespace Go.Proofs.YtmcflfpckpjphaaGreatDoor.WnW
open Go.RowKit Mem MemI Blk Zone ZoneI WnZ Res

set_option maxHeartbeats 800000 in
theorem sameIntsC (a b : Option Addr) (na ca nb cb : Nat) (x y : List Int) (w : World) (ha : na = x.length) (hb : nb = y.length) (hx : IRd w a x) (hy : IRd w b y) (_lx : x.length ≤ 4194304) (ly : y.length ≤ 4194304) :
  Calls Tryz.prog 83 #[.slice a na ca, .slice b nb cb] w fun e w' => e = .returned (.bool (decide (x = y))) ∧ ∃ m, w' = w.drewN m := by
 subst ha hb
 by_cases hl : x.length = y.length
 ·
  have hne : ((x.length : Int) != (y.length : Int)) = false := by simp [hl]
  have HL : Hid (x.length = y.length) := hl
  have hl1 : x.length ≤ y.length := by omega
  clear hl
  go_enter Tryz.func83, Tryz.ntmps83
  go_wp2
  go_loopw [5] (fun i wr => ∃ k m : Nat, k ≤ x.length ∧ i = .int .i64 k ∧ x.take k = y.take k ∧ wr = w.drewN m) (fun i _ => x.length - (intOf i).toNat)
  case atStart => exact ⟨0, 0, Nat.zero_le _, rfl, rfl, rfl⟩
  case round =>
   obtain ⟨k, m, hk, rfl, hs, rfl⟩ := hrel
   have HS : Hid (x.take k = y.take k) := hs
   clear hs
   by_cases hlt : k < x.length
   ·
    obtain ⟨b1, o1, rfl, _, c1⟩ := hx k hlt
    obtain ⟨b2, o2, rfl, _, c2⟩ := hy k (by omega)
    have hlt2 : (k : Int) < (y.length : Int) := by omega
    by_cases he : x.getD k 0 = y.getD k 0
    ·
     have HT : Hid (x.take (k + 1) = y.take (k + 1)) := take_eq_succ hlt (by omega) HS.out he
     rw [he] at c1
     clear hx hy he
     generalize y.getD k 0 = z at *
     go_wp2
     go_quiet (fail)
     go_wp2
     go_roundw
     case rel => exact ⟨k + 1, _, by omega, by go_num, HT.out, rfl⟩
     case measure => simp [intOf]; omega
    ·
     have HD : Hid (decide (x = y) = false) := dec_ne he
     clear hx hy
     generalize x.getD k 0 = z1 at *
     generalize y.getD k 0 = z2 at *
     have hbe : (z1 != z2) = true := by simpa using he
     clear he
     go_wp2
     go_quiet (fail)
     go_wp2
     go_ret
     exact ⟨by rw [HD.out]; rfl, _, World.drewN_drewN _ _ _⟩
   ·
    have HD : Hid (decide (x = y) = true) := dec_eq hlt HL.out HS.out
    clear hx hy
    go_wp2
    go_ret
    exact ⟨by rw [HD.out]; rfl, _, rfl⟩
 ·
  have hne : ((x.length : Int) != (y.length : Int)) = true := by simp; omega
  have HD : Hid (decide (x = y) = false) := by
   show decide (x = y) = false
   simp only [decide_eq_false_iff_not]; rintro rfl; exact hl rfl
  clear hl
  go_enter Tryz.func83, Tryz.ntmps83
  go_wp2
  go_ret
  exact ⟨by rw [HD.out]; rfl, 0, rfl⟩

set_option maxHeartbeats 4000000 in
theorem sameWin (S S' : WnS) (D : WnD) (w : World) (h : WnRd w S D) (h' : WnRd w S' D) (hl : WnShort D 4194304) :
  Calls Tryz.prog 28 #[wnV D S, wnV D S'] w fun e w' => e = .returned (.bool true) ∧ Below w.heap.size w w' := by
 have HR := hid (h)
 have HR' : Hid (WnRd w S' D) := h'
 have HL := hid (hl)
 obtain ⟨x0, hx0⟩ : ∃ x0, (w.alloc (.cells #[.int .i64 D.top, .slice S.bits.a S.bits.n S.bits.c] 39)).alloc (.cells #[.int .i64 D.top, .slice S'.bits.a S'.bits.n S'.bits.c] 39) = x0 := ⟨_, rfl⟩
 have HW0 : Hid (_ = x0) := hx0
 have B0 : Hid (Below w.heap.size w x0) := by rw [← hx0]; exact ((Below.refl _ _).alloc (Nat.le_refl _) _).alloc (by simp) _
 have KA : Hid (Blk x0 w.heap.size 39 [.int .i64 D.top, .slice S.bits.a S.bits.n S.bits.c]) := by rw [← hx0]; exact (Blk.new w _ _).alloc _
 have KB : Hid (Blk x0 (w.heap.size + 1) 39 [.int .i64 D.top, .slice S'.bits.a S'.bits.n S'.bits.c]) := by
  have := Blk.new (w.alloc (.cells #[.int .i64 D.top, .slice S.bits.a S.bits.n S.bits.c] 39)) 39 [.int .i64 D.top, .slice S'.bits.a S'.bits.n S'.bits.c]
  rw [World.size_alloc] at this
  rw [← hx0]; exact this
 clear h h' hl hx0
 have c0 := KA.out.cell 0 rfl
 have c1 := KA.out.cell 1 rfl
 have d0 := KB.out.cell 0 rfl
 have d1 := KB.out.cell 1 rfl
 unfold wnV
 go_enter Tryz.func28, Tryz.ntmps28
 go_upto_region 1 with fail
 rw [HW0.out]
 go_wp2_with fail
 refine (sameIntsC S.bits.a S'.bits.a S.bits.n S.bits.c S'.bits.n S'.bits.c D.bits D.bits x0 HR.out.bits.len HR'.out.bits.len (HR.out.bits.later B0.out).rd (HR'.out.bits.later B0.out).rd HL.out.bits HL.out.bits).mono ?_
 rw [decide_eq_true (show D.bits = D.bits from rfl)]
 rintro e x1 ⟨rfl, m, rfl⟩
 go_wp2
 go_ret
 exact ⟨by first | rfl | simp, below_drewN B0.out m⟩
end Go.Proofs.YtmcflfpckpjphaaGreatDoor.WnW
