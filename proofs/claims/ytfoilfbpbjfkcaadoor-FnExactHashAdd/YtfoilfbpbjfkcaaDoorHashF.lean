/-
  A hash that came in, opened: two slices and a number.
-/
import Derived.Test.YtfoilfbpbjfkcaaDoorHashH
import Derived.ProofKit
import Derived.OpenShut
import Derived.Deep.Strs
namespace Go.Proofs.YtfoilfbpbjfkcaaDoor.HashF
open Go.ChangeShapes Go.WideShapes Go.ChangeAt Go.RowKit Go.Proofs.YtfoilfbpbjfkcaaDoor.Mem Go.Proofs.YtfoilfbpbjfkcaaDoor.Hashs

theorem cellsS : Tryd.prog.cellsOf 39 = 3 := by kernel_rfl
theorem cellsA : Tryd.prog.cellsOf 25 = 1 := by kernel_rfl
theorem cellsB : Tryd.prog.cellsOf 22 = 1 := by kernel_rfl
theorem cellsI : Tryd.prog.cellsOf 3 = 1 := by kernel_rfl

theorem isRow_of {H : Type} {enc : TypeId × Value → H} {W : World} {t e : TypeId} {k : IntKind} {fuel : Nat} {c : Value} {x : DataW H × List MemPlace} (h1 : Tryd.prog.underlying t = some (.slice e)) (h2 : Tryd.prog.underlying e = some (.int k)) (h3 : Tryd.prog.cellsOf e = 1)
    (h : DataW.trod enc Tryd.prog W 0 (fun _ => true) true fuel t [c] = some x) : ∃ a len cap zs, c = .slice a len cap ∧ IsRow k W a len cap zs := by
  rcases open_ints h1 h2 h3 h with ⟨hcs, _⟩ | ⟨y, l, cc, zs, hcs, _, hl, hm, hz, _, hcell, hwz⟩
  · simp at hcs
    exact ⟨none, 0, 0, [], hcs, .inl ⟨rfl, rfl, rfl, rfl⟩⟩
  · simp at hcs
    exact ⟨some y, l, cc, zs, hcs, .inr ⟨_, rfl, hl, hm, by simpa using hz, hcell, hwz⟩⟩

theorem open_hash {H : Type} {enc : TypeId × Value → H} {W : World} {base : Nat} {v : Value} {d : DataW H} {p : List MemPlace} (hval : Value.okWide Tryd.prog W .any base 39 v)
    (h : DataW.Trod enc Tryd.prog W 0 (fun _ => true) true 39 v d p) :
    ∃ a0 n0 c0 z0 a1 n1 c1 z1 N, v = hashV a0 n0 c0 a1 n1 c1 N ∧ IsRow .i64 W a0 n0 c0 z0 ∧ IsRow .u8 W a1 n1 c1 z1 := by
  obtain ⟨cs, rfl, hsz⟩ := okWide_struct Tryd.underlying39 hval
  rw [cellsS] at hsz
  obtain ⟨fuel, hf⟩ := h
  obtain ⟨y0, y1, y2, n, _, _, f0, f1, f2⟩ := Deep.trod_struct3 Tryd.underlying39 hf
  obtain ⟨v0, v1, v2, rfl⟩ : ∃ v0 v1 v2, cs = #[v0, v1, v2] := by
    obtain ⟨l⟩ := cs
    match l, hsz with
    | [v0, v1, v2], _ => exact ⟨v0, v1, v2, rfl⟩
  rw [cellsA] at f0
  rw [cellsB] at f1
  rw [cellsI] at f2
  simp [Value.cells] at f0 f1 f2
  obtain ⟨a0, n0, c0, z0, rfl, r0⟩ := isRow_of Tryd.underlying25 Tryd.underlying3 cellsI f0
  obtain ⟨a1, n1, c1, z1, rfl, r1⟩ := isRow_of Tryd.underlying22 Tryd.underlying5 (by kernel_rfl) f1
  obtain ⟨N, hN, _, _⟩ := DataW.trod_int Tryd.underlying3 f2
  simp at hN
  subst hN
  exact ⟨a0, n0, c0, z0, a1, n1, c1, z1, N, rfl, r0, r1⟩
end Go.Proofs.YtfoilfbpbjfkcaaDoor.HashF
