/-
  The walks of the laws FnExactKindName and FnExactKindOf: at every argument they answer true, and nothing that was there is written.
-/
import Derived.Test.YtfapehmbecgjaaaDoorFrKn
import Derived.Test.YtfapehmbecgjaaaDoorFrJ
namespace Go.Proofs.YtfapehmbecgjaaaDoor.LawKinds1
open Go.RowKit Go.Proofs.YtfapehmbecgjaaaDoor.Mem Go.Proofs.YtfapehmbecgjaaaDoor.Words Go.Proofs.YtfapehmbecgjaaaDoor.FrKn Go.Proofs.YtfapehmbecgjaaaDoor.FrJ

theorem kindName_walk (k : Int) (w : World) (hN : NamesAt w) :
    Calls Tryd.prog 4 #[.int .i64 k] w fun e w' => e = .returned (.bool true) ∧ Below w.heap.size w w' := by
  have HN : Hid (NamesAt w) := hN
  clear hN
  obtain ⟨v, hv⟩ : ∃ v, nameOf k = v := ⟨_, rfl⟩
  have HV : Hid (nameOf k = v) := hv
  have hvv : (v.toList != v.toList) = false := by simp
  clear hv
  go_enter Tryd.func4, Tryd.ntmps4
  go_wp2_with fail
  refine (specKindName k w).mono ?_
  rw [HV.out]
  rintro e w1 ⟨rfl, b1⟩
  have B1 : Hid (Below w.heap.size w w1) := b1
  have N1 : Hid (NamesAt w1) := HN.out.later b1
  clear b1
  go_wp2_with fail
  refine (implKindName k w1 N1.out).mono ?_
  rw [HV.out]
  rintro e w2 ⟨rfl, rfl⟩
  go_wp2
  go_ret
  exact ⟨rfl, B1.out⟩
theorem kindOf_walk (s : ByteArray) (w : World) (hN : NamesAt w) :
    Calls Tryd.prog 5 #[.string s] w fun e w' => e = .returned (.bool true) ∧ Below w.heap.size w w' := by
  have HN : Hid (NamesAt w) := hN
  clear hN
  by_cases hs : s.size ≤ 1048576
  · have hsI : ¬ ((s.size : Int) > 1048576) := by omega
    go_enter Tryd.func5, Tryd.ntmps5
    go_wp2_with fail
    refine (specKindOf s w).mono ?_
    rintro e w1 ⟨k, rfl, h1, b1⟩
    have H1 : Hid (IsKind s k) := h1
    have B1 : Hid (Below w.heap.size w w1) := b1
    have N1 : Hid (NamesAt w1) := HN.out.later b1
    clear b1 h1
    go_wp2_with fail
    refine (implKindOf s w1 N1.out).mono ?_
    rintro e w2 ⟨k', rfl, h2, rfl⟩
    obtain rfl : k = k' := IsKind.unique H1.out h2
    have hvv : (k != k) = false := by simp
    clear h2
    go_wp2
    go_ret
    exact ⟨rfl, B1.out⟩
  · have hsI : (s.size : Int) > 1048576 := by omega
    clear hs
    go_enter Tryd.func5, Tryd.ntmps5
    go_wp2
    go_ret
    exact ⟨rfl, Below.refl _ _⟩
end Go.Proofs.YtfapehmbecgjaaaDoor.LawKinds1
