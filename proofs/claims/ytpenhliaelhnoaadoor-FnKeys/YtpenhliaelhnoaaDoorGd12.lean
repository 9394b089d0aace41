/-
  Closed facts on impl's interface: which word is of which type, and which method a word has.
  The words of impl's frames; which are sealed.
  What the laws' own tests of bytes answer: whether two slices hold the same bytes; whether one begins with the other.
-/
import Derived.Test.YtpenhliaelhnoaaDoorProg
import Derived.WalkKit
import Derived.KernelRfl
import Derived.Test.YtpenhliaelhnoaaDoorFrW2
import Derived.Deep.RegionHeld3
import Derived.Test.YtpenhliaelhnoaaDoorGd1
import Derived.Laws.BytesArg
import Derived.Lib.Bytes
set_option linter.unusedVariables false
namespace Go.Proofs.YtpenhliaelhnoaaDoor.FrT
open Go.RowKit

set_option maxRecDepth 100000 in
theorem mr2 (v : Value) (w : World) : (method 206 60 v "loop.example/g00478/impl.right").run Tryd.prog w = .ok (58, v) w := by kernel_rfl
end Go.Proofs.YtpenhliaelhnoaaDoor.FrT

namespace Go.Proofs.YtpenhliaelhnoaaDoor.FrW3
open Go.RowKit Go.Proofs.YtpenhliaelhnoaaDoor.Mem Go.Proofs.YtpenhliaelhnoaaDoor.Blk Go.Proofs.YtpenhliaelhnoaaDoor.Words Go.Proofs.YtpenhliaelhnoaaDoor.Zone Go.Proofs.YtpenhliaelhnoaaDoor.Res Go.Proofs.YtpenhliaelhnoaaDoor.FrZ Go.Proofs.YtpenhliaelhnoaaDoor.FrP Go.Proofs.YtpenhliaelhnoaaDoor.FrW Go.Proofs.YtpenhliaelhnoaaDoor.FrW2 Go.Proofs.YtpenhliaelhnoaaDoor.FrT

end Go.Proofs.YtpenhliaelhnoaaDoor.FrW3

namespace Go.Proofs.YtpenhliaelhnoaaDoor.Same
open Go.RowKit Go.Proofs.YtpenhliaelhnoaaDoor.Mem

set_option maxRecDepth 100000 in
theorem nums_inj {x y : List Int} (hx : Bytes x) (hy : Bytes y) (h : strOfNums x = strOfNums y) : x = y := by
  have h1 := congrArg (fun b : ByteArray => b.data.toList) h
  simp only [strOfNums_data] at h1
  have hl : x.length = y.length := by simpa using congrArg List.length h1
  apply List.ext_getElem hl
  intro i hi hj
  have h2 := congrArg (fun l : List UInt8 => l[i]?) h1
  simp only [List.getElem?_map, List.getElem?_eq_getElem hi, List.getElem?_eq_getElem hj, Option.map_some, Option.some.injEq] at h2
  have h3 := congrArg UInt8.toNat h2
  have a := hx _ (List.getElem_mem hi)
  have b := hy _ (List.getElem_mem hj)
  simp only [UInt8.toNat_ofNat'] at h3
  omega
set_option maxRecDepth 100000 in
theorem convRow {w : World} {g n c : Nat} {x : List Int} (hn : n = x.length) (h : Rd w (some ⟨g, 0, none⟩) x) :
    (convert 22 9 (.slice (some ⟨g, 0, none⟩) n c)).run Tryd.prog w = .ok (.string (strOfNums x)) w :=
  run_convert_bytes_arg (P := Tryd.prog) w 22 5 Tryd.underlying22 Tryd.underlying5 g 0 n c x hn.symm (fun i hi => by
    obtain ⟨b, off, e, _, hc⟩ := h i (by omega)
    simp only [Option.some.injEq, Addr.mk.injEq, and_true] at e
    obtain ⟨rfl, rfl⟩ := e
    exact hc) 9 Tryd.underlying9
set_option maxRecDepth 100000 in
theorem same_any (g c n g2 c2 n2 : Nat) (x y : List Int) (w : World) (hn : n = x.length) (hn2 : n2 = y.length) (h1 : Rd w (some ⟨g, 0, none⟩) x) (h2 : Rd w (some ⟨g2, 0, none⟩) y) (hx : Bytes x) (hy : Bytes y) :
    Calls Tryd.prog 12 #[.slice (some ⟨g, 0, none⟩) n c, .slice (some ⟨g2, 0, none⟩) n2 c2] w fun e w' => e = .returned (.bool (decide (x = y))) ∧ w = w' := by
  have cv1 := convRow (c := c) hn h1
  have cv2 := convRow (c := c2) hn2 h2
  have HD : Hid (decide (x = y) = ((strOfNums x).toList == (strOfNums y).toList)) := by
    show _ = _
    rw [Lib.strOfNums_toList, Lib.strOfNums_toList]
    by_cases e : x = y
    · subst e; simp
    · have : ¬ Lib.bytesOf x = Lib.bytesOf y := fun h => e (nums_inj hx hy (by unfold strOfNums; rw [show (x.map fun n => UInt8.ofNat n.toNat) = (y.map fun n => UInt8.ofNat n.toNat) from h]))
      simp [e, this]
  clear h1 h2 hn hn2 hx hy
  generalize strOfNums x = s at *
  generalize strOfNums y = u at *
  go_enter Tryd.func12, Tryd.ntmps12
  go_wp2
  go_ret
  exact ⟨by rw [HD.out]; rfl, rfl⟩
set_option maxRecDepth 100000 in
theorem same_yes (g c n g2 c2 n2 : Nat) (x : List Int) (w : World) (hn : n = x.length) (hn2 : n2 = x.length) (h1 : Rd w (some ⟨g, 0, none⟩) x) (h2 : Rd w (some ⟨g2, 0, none⟩) x) :
    Calls Tryd.prog 12 #[.slice (some ⟨g, 0, none⟩) n c, .slice (some ⟨g2, 0, none⟩) n2 c2] w fun e w' => e = .returned (.bool true) ∧ w = w' := by
  have cv1 := convRow (c := c) hn h1
  have cv2 := convRow (c := c2) hn2 h2
  clear h1 h2 hn hn2
  generalize strOfNums x = s at *
  go_enter Tryd.func12, Tryd.ntmps12
  go_wp2
  go_ret
  exact ⟨by simp, rfl⟩
set_option maxRecDepth 100000 in
theorem convAt {w : World} {g o n c : Nat} {x : List Int} (hn : n = x.length) (h : Rd w (some ⟨g, o, none⟩) x) :
    (convert 22 9 (.slice (some ⟨g, o, none⟩) n c)).run Tryd.prog w = .ok (.string (strOfNums x)) w :=
  run_convert_bytes_arg (P := Tryd.prog) w 22 5 Tryd.underlying22 Tryd.underlying5 g o n c x hn.symm (fun i hi => by
    obtain ⟨b, off, e, _, hc⟩ := h i (by omega)
    simp only [Option.some.injEq, Addr.mk.injEq, and_true] at e
    obtain ⟨rfl, rfl⟩ := e
    exact hc) 9 Tryd.underlying9
end Go.Proofs.YtpenhliaelhnoaaDoor.Same
