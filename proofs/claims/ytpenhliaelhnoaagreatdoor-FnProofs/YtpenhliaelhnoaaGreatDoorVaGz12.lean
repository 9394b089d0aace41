/-
  What impl's putWord answers, kind by kind.
  What the laws' own tests of bytes answer: whether two slices hold the same bytes; whether one begins with the other.
-/
import Derived.Test.YtpenhliaelhnoaaGreatDoorVaFrQ
import Derived.Test.YtpenhliaelhnoaaGreatDoorVaGz11
import Derived.Test.YtpenhliaelhnoaaGreatDoorVaGz1
import Derived.Laws.BytesArg
import Derived.Lib.Bytes
set_option linter.unusedVariables false

set_option maxRecDepth 100000
namespace Go.Proofs.YtpenhliaelhnoaaGreatDoor.Same
open Go.RowKit Mem

theorem nums_inj {x y : List Int} (hx : Bytes x) (hy : Bytes y) (h : strOfNums x = strOfNums y) : x = y := by
 have h1 := congrArg (fun b : ByteArray => b.data.toList) h
 simp only [strOfNums_data] at h1
 have hl : x.length = y.length := by simpa using congrArg List.length h1
 apply List.ext_getElem hl
 intro i hi hj
 have h2 := congrArg (fun l : List UInt8 => l[i]?) h1
 simp only [List.getElem?_map, List.getElem?_eq_getElem hi, List.getElem?_eq_getElem hj, Option.map_some, Option.some.injEq] at h2
 have h3 := congrArg UInt8.toNat h2
 have a := hx _ (List.getElem_mem hi)
 have b := hy _ (List.getElem_mem hj)
 simp only [UInt8.toNat_ofNat'] at h3
 omega
theorem convAt {w : World} {g o n c : Nat} {x : List Int} (hn : n = x.length) (h : Rd w (some ⟨g, o, none⟩) x) :
  (convert 22 9 (.slice (some ⟨g, o, none⟩) n c)).run Tryz.prog w = .ok (.string (strOfNums x)) w :=
 run_convert_bytes_arg (P := Tryz.prog) w 22 5 Tryz.underlying22 Tryz.underlying5 g o n c x hn.symm (fun i hi => by
  obtain ⟨b, off, e, _, hc⟩ := h i (by omega)
  simp only [Option.some.injEq, Addr.mk.injEq, and_true] at e
  obtain ⟨rfl, rfl⟩ := e
  exact hc) 9 Tryz.underlying9
end Go.Proofs.YtpenhliaelhnoaaGreatDoor.Same
