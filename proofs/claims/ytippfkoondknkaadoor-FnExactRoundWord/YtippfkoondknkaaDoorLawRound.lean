/-
  laws.FnExactRoundWord answers true at every int, where the table of round words holds what the program's text lays into it.
-/
import Derived.Test.YtippfkoondknkaaDoorComp
import Derived.Test.YtippfkoondknkaaDoorWords
namespace Go.Proofs.YtippfkoondknkaaDoor.LawRound
open Go.RowKit Go.Proofs.YtippfkoondknkaaDoor.Mem Go.Proofs.YtippfkoondknkaaDoor.MemI Go.Proofs.YtippfkoondknkaaDoor.Blk Go.Proofs.YtippfkoondknkaaDoor.App Go.Proofs.YtippfkoondknkaaDoor.Get Go.Proofs.YtippfkoondknkaaDoor.ShaP Go.Proofs.YtippfkoondknkaaDoor.Words Go.Proofs.YtippfkoondknkaaDoor.Comp

def wordAt (i : Int) : Int := if 0 ≤ i ∧ i ≤ 63 then kk.getD i.toNat 0 else 0

theorem implRound (i : Int) (w : World) (hT : Tab w) :
    Calls Tryd.prog 32 #[.int .i64 i] w fun e w' => e = .returned (.int .i64 (wordAt i)) ∧ w = w' := by
  by_cases h : 0 ≤ i ∧ i ≤ 63
  · obtain ⟨h0, h1⟩ := h
    obtain ⟨I, rfl⟩ := Int.eq_ofNat_of_zero_le h0
    have HW : Hid (wordAt (I : Int) = kk.getD I 0) := by show wordAt _ = _; unfold wordAt; rw [if_pos ⟨h0, h1⟩, Int.toNat_natCast]
    have hc := hT.2 I (by omega)
    generalize kk.getD I 0 = z at *
    clear hT
    go_enter Tryd.func32, Tryd.ntmps32
    go_wp2
    go_ret
    exact ⟨by rw [HW.out]; rfl, rfl⟩
  · have HW : Hid (wordAt i = 0) := by show wordAt _ = _; unfold wordAt; rw [if_neg h]
    clear hT
    rcases (show i < 0 ∨ (0 ≤ i ∧ 63 < i) by omega) with hk | ⟨hk0, hk⟩
    all_goals
      clear h
      go_enter Tryd.func32, Tryd.ntmps32
      go_wp2
      go_ret
      exact ⟨by rw [HW.out]; rfl, rfl⟩

theorem specRound (i : Int) (w : World) :
    Calls Tryd.prog 31 #[.int .i64 i] w fun e w' => e = .returned (.int .i64 (wordAt i)) ∧ Below w.heap.size w w' := by
  by_cases h : 0 ≤ i ∧ i ≤ 63
  · obtain ⟨h0, h1⟩ := h
    obtain ⟨I, rfl⟩ := Int.eq_ofNat_of_zero_le h0
    have HW : Hid (wordAt (I : Int) = kk.getD I 0) := by show wordAt _ = _; unfold wordAt; rw [if_pos ⟨h0, h1⟩, Int.toNat_natCast]
    go_enter Tryd.func31, Tryd.ntmps31
    go_wp2_with fail
    refine (l2K w).mono ?_
    rintro e w1 ⟨rfl, r1, b1⟩
    have hc := r1.cell I (by rw [kk_length]; omega)
    have B1 : Hid (Below w.heap.size w w1) := b1
    generalize kk.getD I 0 = z at *
    clear r1 b1
    go_wp2
    go_ret
    exact ⟨by rw [HW.out]; rfl, B1.out⟩
  · have HW : Hid (wordAt i = 0) := by show wordAt _ = _; unfold wordAt; rw [if_neg h]
    rcases (show i < 0 ∨ (0 ≤ i ∧ 63 < i) by omega) with hk | ⟨hk0, hk⟩
    all_goals
      clear h
      go_enter Tryd.func31, Tryd.ntmps31
      go_wp2
      go_ret
      exact ⟨by rw [HW.out]; rfl, Below.refl _ _⟩

theorem walk (i : Int) (w : World) (hT : Tab w) :
    Calls Tryd.prog 5 #[.int .i64 i] w fun e w' => e = .returned (.bool true) ∧ Below w.heap.size w w' := by
  have HT : Hid (Tab w) := hT
  clear hT
  go_enter Tryd.func5, Tryd.ntmps5
  go_wp2_with fail
  refine (specRound i w).mono ?_
  rintro e w1 ⟨rfl, b1⟩
  have B1 : Hid (Below w.heap.size w w1) := b1
  clear b1
  go_wp2_with fail
  refine (implRound i w1 (HT.out.later B1.out)).mono ?_
  rintro e w2 ⟨rfl, rfl⟩
  generalize wordAt i = z at *
  have hz : (z != z) = false := by simp
  go_wp2
  go_ret
  exact ⟨rfl, B1.out⟩
end Go.Proofs.YtippfkoondknkaaDoor.LawRound
