/-
  What impl's putWord answers, kind by kind.
  What the laws' own tests of bytes answer: whether two slices hold the same bytes; whether one begins with the other.
-/
import Derived.Test.YtpenhliaelhnoaaGreatDoorFrQ
import Derived.Test.YtpenhliaelhnoaaGreatDoorGz11
import Derived.Test.YtpenhliaelhnoaaGreatDoorGz1
import Derived.Laws.BytesArg
import Derived.Lib.Bytes
set_option linter.unusedVariables false
namespace Go.Proofs.YtpenhliaelhnoaaGreatDoor.FrQ2
open Go.RowKit Go.Proofs.YtpenhliaelhnoaaGreatDoor.Mem Go.Proofs.YtpenhliaelhnoaaGreatDoor.App Go.Proofs.YtpenhliaelhnoaaGreatDoor.Blk Go.Proofs.YtpenhliaelhnoaaGreatDoor.Words Go.Proofs.YtpenhliaelhnoaaGreatDoor.Zone Go.Proofs.YtpenhliaelhnoaaGreatDoor.Res Go.Proofs.YtpenhliaelhnoaaGreatDoor.FrZ Go.Proofs.YtpenhliaelhnoaaGreatDoor.FrP Go.Proofs.YtpenhliaelhnoaaGreatDoor.FrB Go.Proofs.YtpenhliaelhnoaaGreatDoor.FrT Go.Proofs.YtpenhliaelhnoaaGreatDoor.FrW Go.Proofs.YtpenhliaelhnoaaGreatDoor.FrW2 Go.Proofs.YtpenhliaelhnoaaGreatDoor.FrQ

set_option maxRecDepth 100000 in
theorem nilRd (w : World) : SRd w ⟨none, 0, 0⟩ [] := ⟨rfl, (fun i hi => by cases hi), fun _ => rfl, Nat.le_refl _, (fun z hz => by cases hz)⟩
set_option maxRecDepth 100000 in
theorem putN1_len (k : Int) : (putN k 1).length = 1 := by show (num k 1).length = 1; rw [num_length]

end Go.Proofs.YtpenhliaelhnoaaGreatDoor.FrQ2

namespace Go.Proofs.YtpenhliaelhnoaaGreatDoor.Same
open Go.RowKit Go.Proofs.YtpenhliaelhnoaaGreatDoor.Mem

set_option maxRecDepth 100000 in
theorem nums_inj {x y : List Int} (hx : Bytes x) (hy : Bytes y) (h : strOfNums x = strOfNums y) : x = y := by
  have h1 := congrArg (fun b : ByteArray => b.data.toList) h
  simp only [strOfNums_data] at h1
  have hl : x.length = y.length := by simpa using congrArg List.length h1
  apply List.ext_getElem hl
  intro i hi hj
  have h2 := congrArg (fun l : List UInt8 => l[i]?) h1
  simp only [List.getElem?_map, List.getElem?_eq_getElem hi, List.getElem?_eq_getElem hj, Option.map_some, Option.some.injEq] at h2
  have h3 := congrArg UInt8.toNat h2
  have a := hx _ (List.getElem_mem hi)
  have b := hy _ (List.getElem_mem hj)
  simp only [UInt8.toNat_ofNat'] at h3
  omega
set_option maxRecDepth 100000 in
theorem convRow {w : World} {g n c : Nat} {x : List Int} (hn : n = x.length) (h : Rd w (some ⟨g, 0, none⟩) x) :
    (convert 22 9 (.slice (some ⟨g, 0, none⟩) n c)).run Tryz.prog w = .ok (.string (strOfNums x)) w :=
  run_convert_bytes_arg (P := Tryz.prog) w 22 5 Tryz.underlying22 Tryz.underlying5 g 0 n c x hn.symm (fun i hi => by
    obtain ⟨b, off, e, _, hc⟩ := h i (by omega)
    simp only [Option.some.injEq, Addr.mk.injEq, and_true] at e
    obtain ⟨rfl, rfl⟩ := e
    exact hc) 9 Tryz.underlying9
set_option maxRecDepth 100000 in
theorem same_any (g c n g2 c2 n2 : Nat) (x y : List Int) (w : World) (hn : n = x.length) (hn2 : n2 = y.length) (h1 : Rd w (some ⟨g, 0, none⟩) x) (h2 : Rd w (some ⟨g2, 0, none⟩) y) (hx : Bytes x) (hy : Bytes y) :
    Calls Tryz.prog 16 #[.slice (some ⟨g, 0, none⟩) n c, .slice (some ⟨g2, 0, none⟩) n2 c2] w fun e w' => e = .returned (.bool (decide (x = y))) ∧ w = w' := by
  have cv1 := convRow (c := c) hn h1
  have cv2 := convRow (c := c2) hn2 h2
  have HD : Hid (decide (x = y) = ((strOfNums x).toList == (strOfNums y).toList)) := by
    show _ = _
    rw [Lib.strOfNums_toList, Lib.strOfNums_toList]
    by_cases e : x = y
    · subst e; simp
    · have : ¬ Lib.bytesOf x = Lib.bytesOf y := fun h => e (nums_inj hx hy (by unfold strOfNums; rw [show (x.map fun n => UInt8.ofNat n.toNat) = (y.map fun n => UInt8.ofNat n.toNat) from h]))
      simp [e, this]
  clear h1 h2 hn hn2 hx hy
  generalize strOfNums x = s at *
  generalize strOfNums y = u at *
  go_enter Tryz.func16, Tryz.ntmps16
  go_wp2
  go_ret
  exact ⟨by rw [HD.out]; rfl, rfl⟩
set_option maxRecDepth 100000 in
theorem same_yes (g c n g2 c2 n2 : Nat) (x : List Int) (w : World) (hn : n = x.length) (hn2 : n2 = x.length) (h1 : Rd w (some ⟨g, 0, none⟩) x) (h2 : Rd w (some ⟨g2, 0, none⟩) x) :
    Calls Tryz.prog 16 #[.slice (some ⟨g, 0, none⟩) n c, .slice (some ⟨g2, 0, none⟩) n2 c2] w fun e w' => e = .returned (.bool true) ∧ w = w' := by
  have cv1 := convRow (c := c) hn h1
  have cv2 := convRow (c := c2) hn2 h2
  clear h1 h2 hn hn2
  generalize strOfNums x = s at *
  go_enter Tryz.func16, Tryz.ntmps16
  go_wp2
  go_ret
  exact ⟨by simp, rfl⟩
set_option maxRecDepth 100000 in
theorem convAt {w : World} {g o n c : Nat} {x : List Int} (hn : n = x.length) (h : Rd w (some ⟨g, o, none⟩) x) :
    (convert 22 9 (.slice (some ⟨g, o, none⟩) n c)).run Tryz.prog w = .ok (.string (strOfNums x)) w :=
  run_convert_bytes_arg (P := Tryz.prog) w 22 5 Tryz.underlying22 Tryz.underlying5 g o n c x hn.symm (fun i hi => by
    obtain ⟨b, off, e, _, hc⟩ := h i (by omega)
    simp only [Option.some.injEq, Addr.mk.injEq, and_true] at e
    obtain ⟨rfl, rfl⟩ := e
    exact hc) 9 Tryz.underlying9
end Go.Proofs.YtpenhliaelhnoaaGreatDoor.Same
