/-
  A Jar that came in, opened: numbers and slices of bytes.
-/
import Derived.Test.YtpgapjdejelajaaGreatDoorGr5
import Derived.ProofKit
import Derived.OpenShut
import Derived.Deep.Strs
namespace Go.Proofs.YtpgapjdejelajaaGreatDoor.JaF
open Go.ChangeShapes Go.WideShapes Go.ChangeAt Go.RowKit Go.Proofs.YtpgapjdejelajaaGreatDoor.Mem Go.Proofs.YtpgapjdejelajaaGreatDoor.Zone Go.Proofs.YtpgapjdejelajaaGreatDoor.JaZ

set_option maxRecDepth 100000 in
theorem cellsT : Tryz.prog.cellsOf 46 = 1 := by kernel_rfl
set_option maxRecDepth 100000 in
theorem cellsI : Tryz.prog.cellsOf 3 = 1 := by kernel_rfl
set_option maxRecDepth 100000 in
theorem cellsB : Tryz.prog.cellsOf 22 = 1 := by kernel_rfl

set_option maxRecDepth 100000 in
theorem row_open {H : Type} {enc : TypeId × Value → H} {W : World} {fuel : Nat} {c : Value} {x : DataW H × List MemPlace} (h : DataW.trod enc Tryz.prog W 0 (fun _ => true) true fuel 22 [c] = some x) :
    ∃ (s : Sl) (l : List Int), c = .slice s.a s.n s.c ∧ SRd W s l ∧ s.n ≤ 9223372036854775807 := by
  have key : ∃ a len cap zs, c = .slice a len cap ∧ IsRow .u8 W a len cap zs := by
    rcases open_ints Tryz.underlying22 Tryz.underlying5 (by kernel_rfl) h with ⟨hcs, _⟩ | ⟨y, l, cc, zs, hcs, _, hl, hm, hz, _, hcell, hwz⟩
    · simp at hcs
      exact ⟨none, 0, 0, [], hcs, .inl ⟨rfl, rfl, rfl, rfl⟩⟩
    · simp at hcs
      exact ⟨some y, l, cc, zs, hcs, .inr ⟨_, rfl, hl, hm, by simpa using hz, hcell, hwz⟩⟩
  obtain ⟨a, len, cap, zs, rfl, hr⟩ := key
  have hcap : len ≤ cap ∧ cap ≤ maxLen ∧ (a = none → cap = 0) := by
    rcases hr with ⟨rfl, rfl, rfl, _⟩ | ⟨x, rfl, h1, h2, _⟩
    · exact ⟨Nat.le_refl _, by simp, fun _ => rfl⟩
    · exact ⟨h1, h2, fun e => by cases e⟩
  obtain ⟨l, h1, h2, _, h4⟩ := hr.read
  exact ⟨⟨a, len, cap⟩, l, rfl, ⟨h1, h2, hcap.2.2, hcap.1, h4⟩, by have := hcap.1; have := hcap.2.1; unfold maxLen at *; show len ≤ _; omega⟩

set_option maxRecDepth 100000 in
set_option maxHeartbeats 1600000 in
theorem open_it {H : Type} {enc : TypeId × Value → H} {W : World} {base : Nat} {v : Value} {d : DataW H} {p : List MemPlace} (hval : Value.okWide Tryz.prog W .any base 46 v)
    (h : DataW.Trod enc Tryz.prog W 0 (fun _ => true) true 46 v d p) :
    ∃ (D : JaD) (S : JaS), v = jaV D S ∧ JaRd W S D ∧ JaSmall S := by
  obtain ⟨cs, rfl, hsz⟩ := okWide_struct Tryz.underlying46 hval
  rw [cellsT] at hsz
  obtain ⟨fuel, hf⟩ := h
  obtain ⟨xs, n, _, _, _, hlen, hfs⟩ := DataW.trod_struct Tryz.underlying46 hf
  obtain ⟨y0, rfl⟩ : ∃ y0, xs = [y0] := by
    match xs, hlen with
    | [y0], _ => exact ⟨y0, rfl⟩
  obtain ⟨v0, rfl⟩ : ∃ v0, cs = #[v0] := by
    obtain ⟨l⟩ := cs
    match l, hsz with
    | [v0], _ => exact ⟨v0, rfl⟩
  have f0 : DataW.trod enc Tryz.prog W 0 (fun _ => true) true n 22 (([v0].drop 0).take (Tryz.prog.cellsOf 22)) = some y0 := hfs 0 _ rfl
  rw [cellsB] at f0
  obtain ⟨s0, l0, e0, r0, m0⟩ := row_open f0
  subst e0
  exact ⟨⟨l0⟩, ⟨s0⟩, rfl, ⟨r0⟩, ⟨m0⟩⟩
end Go.Proofs.YtpgapjdejelajaaGreatDoor.JaF
