/-
  laws.FnExactSameTag answers true at every two slices of bytes; nothing that was there is written into.
-/
import Derived.Test.YtfoilfbpbjfkcaaDiffs
namespace Go.Proofs.Ytfoilfbpbjfkcaa.LawSameTag
open Go.RowKit Go.Proofs.Ytfoilfbpbjfkcaa.Mem Go.Proofs.Ytfoilfbpbjfkcaa.DiffP Go.Proofs.Ytfoilfbpbjfkcaa.Diffs

theorem below_drewN {B : Nat} {a w : World} (h : Below B a w) (m : Nat) : Below B a (w.drewN m) := ⟨h.os, h.tape, h.output, h.size, h.block⟩

set_option maxRecDepth 100000 in
set_option maxHeartbeats 1600000 in
theorem small (aa : Option Addr) (na ca : Nat) (la : List Int) (ab : Option Addr) (nb cb : Nat) (lb : List Int) (w : World) (hla : na = la.length) (hra : Rd w aa la) (hba : Bytes la) (hza : na ≤ 1048576) (hlb : nb = lb.length) (hrb : Rd w ab lb) (hbb : Bytes lb) (hzb : nb ≤ 1048576) :
    Calls Try.prog 4 #[.slice aa na ca, .slice ab nb cb] w fun e w' => e = .returned (.bool true) ∧ Below w.heap.size w w' := by
  have HLa : Hid (na = la.length) := hla
  have HRa : Hid (Rd w aa la) := hra
  have HYa : Hid (Bytes la) := hba
  clear hla hra hba
  have HLb : Hid (nb = lb.length) := hlb
  have HRb : Hid (Rd w ab lb) := hrb
  have HYb : Hid (Bytes lb) := hbb
  clear hlb hrb hbb
  have hqa : la.length ≤ 1048576 := by rw [← HLa.out]; exact hza
  have hqb : lb.length ≤ 1048576 := by rw [← HLb.out]; exact hzb
  obtain ⟨v, hv⟩ : ∃ v, sameI la lb = v := ⟨_, rfl⟩
  have HO : Hid (sameI la lb = v) := hv
  clear hv
  go_enter Try.func4, Try.ntmps4
  go_wp2_with fail
  refine (toByteS aa na ca la _ HLa.out HRa.out (by omega)).mono ?_
  rintro e x1 ⟨rfl, rx1, bx1⟩
  have Nx1 : Hid (Row x1 w.heap.size na la) := rx1
  clear rx1
  have GEsa : Hid (w.heap.size ≤ w.heap.size) := (Nat.le_refl _)
  have Bx1 : Hid (Below w.heap.size w x1) := bx1
  clear bx1
  go_wp2_with fail
  refine (toByteS ab nb cb lb _ HLb.out (HRb.out.later Bx1.out (Nat.le_refl _)) (by omega)).mono ?_
  rintro e x2 ⟨rfl, rx2, bx2⟩
  have Nx2 : Hid (Row x2 x1.heap.size nb lb) := rx2
  clear rx2
  have NEsasb : Hid (w.heap.size ≠ x1.heap.size) := Nat.ne_of_lt (Nat.lt_of_lt_of_le Nx1.out.lt (Nat.le_refl _))
  have GEsb : Hid (w.heap.size ≤ x1.heap.size) := Nat.le_trans Bx1.out.size (Nat.le_refl _)
  have Rx2sa : Hid (Row x2 w.heap.size na la) := Nx1.out.later bx2
  clear Nx1
  have Bx2 : Hid (Below w.heap.size w x2) := Bx1.out.trans (bx2.mono Bx1.out.size)
  clear Bx1
  clear bx2
  go_wp2_with fail
  refine (specSameTag _ _ na na nb nb la lb _ HLa.out HLb.out Rx2sa.out.rd Nx2.out.rd HYa.out HYb.out (by omega) (by omega)).mono ?_
  rw [HO.out]
  rintro e x3 ⟨rfl, mx3, dx3⟩
  have bx3 : Below x2.heap.size x2 x3 := by rw [dx3]; exact below_drewN (Below.refl _ _) _
  clear dx3
  have Rx3sa : Hid (Row x3 w.heap.size na la) := Rx2sa.out.later bx3
  clear Rx2sa
  have Rx3sb : Hid (Row x3 x1.heap.size nb lb) := Nx2.out.later bx3
  clear Nx2
  have Bx3 : Hid (Below w.heap.size w x3) := Bx2.out.trans (bx3.mono Bx2.out.size)
  clear Bx2
  clear bx3
  clear Rx3sa
  clear Rx3sb
  go_wp2_with fail
  refine (toByteS aa na ca la _ HLa.out (HRa.out.later Bx3.out (Nat.le_refl _)) (by omega)).mono ?_
  rintro e x4 ⟨rfl, rx4, bx4⟩
  have Nx4 : Hid (Row x4 x3.heap.size na la) := rx4
  clear rx4
  have GExa : Hid (w.heap.size ≤ x3.heap.size) := Nat.le_trans Bx3.out.size (Nat.le_refl _)
  have Bx4 : Hid (Below w.heap.size w x4) := Bx3.out.trans (bx4.mono Bx3.out.size)
  clear Bx3
  clear bx4
  go_wp2_with fail
  refine (toByteS ab nb cb lb _ HLb.out (HRb.out.later Bx4.out (Nat.le_refl _)) (by omega)).mono ?_
  rintro e x5 ⟨rfl, rx5, bx5⟩
  have Nx5 : Hid (Row x5 x4.heap.size nb lb) := rx5
  clear rx5
  have NExaxb : Hid (x3.heap.size ≠ x4.heap.size) := Nat.ne_of_lt (Nat.lt_of_lt_of_le Nx4.out.lt (Nat.le_refl _))
  have GExb : Hid (w.heap.size ≤ x4.heap.size) := Nat.le_trans Bx4.out.size (Nat.le_refl _)
  have Rx5xa : Hid (Row x5 x3.heap.size na la) := Nx4.out.later bx5
  clear Nx4
  have Bx5 : Hid (Below w.heap.size w x5) := Bx4.out.trans (bx5.mono Bx4.out.size)
  clear Bx4
  clear bx5
  go_wp2_with fail
  refine (implSameTag _ _ na na nb nb la lb _ HLa.out HLb.out Rx5xa.out.rd Nx5.out.rd HYa.out HYb.out (by omega) (by omega)).mono ?_
  rw [HO.out]
  rintro e x6 ⟨rfl, mx6, dx6⟩
  have bx6 : Below x5.heap.size x5 x6 := by rw [dx6]; exact below_drewN (Below.refl _ _) _
  clear dx6
  have Rx6xa : Hid (Row x6 x3.heap.size na la) := Rx5xa.out.later bx6
  clear Rx5xa
  have Rx6xb : Hid (Row x6 x4.heap.size nb lb) := Nx5.out.later bx6
  clear Nx5
  have Bx6 : Hid (Below w.heap.size w x6) := Bx5.out.trans (bx6.mono Bx5.out.size)
  clear Bx5
  clear bx6
  have hbb : (v != v) = false := by simp
  go_wp2_with fail
  refine (toByteS aa na ca la _ HLa.out (HRa.out.later Bx6.out (Nat.le_refl _)) (by omega)).mono ?_
  rintro e x7 ⟨rfl, rx7, bx7⟩
  have Nx7 : Hid (Row x7 x6.heap.size na la) := rx7
  clear rx7
  have NExata : Hid (x3.heap.size ≠ x6.heap.size) := Nat.ne_of_lt (Nat.lt_of_lt_of_le Rx6xa.out.lt (Nat.le_refl _))
  have NExbta : Hid (x4.heap.size ≠ x6.heap.size) := Nat.ne_of_lt (Nat.lt_of_lt_of_le Rx6xb.out.lt (Nat.le_refl _))
  have GEta : Hid (w.heap.size ≤ x6.heap.size) := Nat.le_trans Bx6.out.size (Nat.le_refl _)
  have Rx7xa : Hid (Row x7 x3.heap.size na la) := Rx6xa.out.later bx7
  clear Rx6xa
  have Rx7xb : Hid (Row x7 x4.heap.size nb lb) := Rx6xb.out.later bx7
  clear Rx6xb
  have Bx7 : Hid (Below w.heap.size w x7) := Bx6.out.trans (bx7.mono Bx6.out.size)
  clear Bx6
  clear bx7
  go_wp2_with fail
  refine (eqByteS _ _ na na na na la la _ HLa.out HLa.out Rx7xa.out.rd Nx7.out.rd (by omega) (by omega)).mono ?_
  rintro e x8 ⟨rfl, mx8, dx8⟩
  have bx8 : Below x7.heap.size x7 x8 := by rw [dx8]; exact below_drewN (Below.refl _ _) _
  clear dx8
  have Rx8xa : Hid (Row x8 x3.heap.size na la) := Rx7xa.out.later bx8
  clear Rx7xa
  have Rx8xb : Hid (Row x8 x4.heap.size nb lb) := Rx7xb.out.later bx8
  clear Rx7xb
  have Rx8ta : Hid (Row x8 x6.heap.size na la) := Nx7.out.later bx8
  clear Nx7
  have Bx8 : Hid (Below w.heap.size w x8) := Bx7.out.trans (bx8.mono Bx7.out.size)
  clear Bx7
  clear bx8
  clear Rx8ta
  go_wp2_with fail
  refine (toByteS ab nb cb lb _ HLb.out (HRb.out.later Bx8.out (Nat.le_refl _)) (by omega)).mono ?_
  rintro e x9 ⟨rfl, rx9, bx9⟩
  have Nx9 : Hid (Row x9 x8.heap.size nb lb) := rx9
  clear rx9
  have NExatb : Hid (x3.heap.size ≠ x8.heap.size) := Nat.ne_of_lt (Nat.lt_of_lt_of_le Rx8xa.out.lt (Nat.le_refl _))
  have NExbtb : Hid (x4.heap.size ≠ x8.heap.size) := Nat.ne_of_lt (Nat.lt_of_lt_of_le Rx8xb.out.lt (Nat.le_refl _))
  have GEtb : Hid (w.heap.size ≤ x8.heap.size) := Nat.le_trans Bx8.out.size (Nat.le_refl _)
  have Rx9xa : Hid (Row x9 x3.heap.size na la) := Rx8xa.out.later bx9
  clear Rx8xa
  have Rx9xb : Hid (Row x9 x4.heap.size nb lb) := Rx8xb.out.later bx9
  clear Rx8xb
  have Bx9 : Hid (Below w.heap.size w x9) := Bx8.out.trans (bx9.mono Bx8.out.size)
  clear Bx8
  clear bx9
  go_wp2_with fail
  refine (eqByteS _ _ nb nb nb nb lb lb _ HLb.out HLb.out Rx9xb.out.rd Nx9.out.rd (by omega) (by omega)).mono ?_
  rintro e x10 ⟨rfl, mx10, dx10⟩
  have bx10 : Below x9.heap.size x9 x10 := by rw [dx10]; exact below_drewN (Below.refl _ _) _
  clear dx10
  have Rx10xa : Hid (Row x10 x3.heap.size na la) := Rx9xa.out.later bx10
  clear Rx9xa
  have Rx10xb : Hid (Row x10 x4.heap.size nb lb) := Rx9xb.out.later bx10
  clear Rx9xb
  have Rx10tb : Hid (Row x10 x8.heap.size nb lb) := Nx9.out.later bx10
  clear Nx9
  have Bx10 : Hid (Below w.heap.size w x10) := Bx9.out.trans (bx10.mono Bx9.out.size)
  clear Bx9
  clear bx10
  clear Rx10tb
  go_wp2
  go_ret
  exact ⟨rfl, Bx10.out⟩

theorem walk (aa : Option Addr) (na ca : Nat) (za : List Int) (ab : Option Addr) (nb cb : Nat) (zb : List Int) (w : World) (ha : IsRow .u8 w aa na ca za) (hb : IsRow .u8 w ab nb cb zb) :
    Calls Try.prog 4 #[.slice aa na ca, .slice ab nb cb] w fun e w' => e = .returned (.bool true) ∧ Below w.heap.size w w' := by
  obtain ⟨la, hla, hra, _, hba⟩ := ha.read
  obtain ⟨lb, hlb, hrb, _, hbb⟩ := hb.read
  by_cases hza : na ≤ 1048576
  · skip
    by_cases hzb : nb ≤ 1048576
    · skip
      exact small aa na ca la ab nb cb lb w hla hra hba hza hlb hrb hbb hzb
    · have hgb : (1048576 : Int) < (nb : Int) := by omega
      have hxa : (na : Int) ≤ 1048576 := by omega
      clear ha hla hra hba hb hlb hrb hbb hza hzb
      go_enter Try.func4, Try.ntmps4
      go_wp2
      go_ret
      exact ⟨rfl, Below.refl _ _⟩
  · have hga : (1048576 : Int) < (na : Int) := by omega
    clear ha hla hra hba hb hlb hrb hbb hza
    go_enter Try.func4, Try.ntmps4
    go_wp2
    go_ret
    exact ⟨rfl, Below.refl _ _⟩
end Go.Proofs.Ytfoilfbpbjfkcaa.LawSameTag
