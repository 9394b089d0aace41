/-
  A Ep that came in, opened.
-/
import Derived.Test.YtmcflfpckpjphaaEpZ
import Derived.Test.YtmcflfpckpjphaaShp
import Derived.ProofKit
import Derived.OpenShut
import Derived.Deep.Strs
namespace Go.Proofs.Ytmcflfpckpjphaa.EpF
open Go.ChangeShapes Go.WideShapes Go.ChangeAt Go.RowKit Go.Proofs.Ytmcflfpckpjphaa.Mem Go.Proofs.Ytmcflfpckpjphaa.MemI Go.Proofs.Ytmcflfpckpjphaa.Zone Go.Proofs.Ytmcflfpckpjphaa.ZoneI Go.Proofs.Ytmcflfpckpjphaa.Shp Go.Proofs.Ytmcflfpckpjphaa.EpZ

theorem cellsT : Try.prog.cellsOf 61 = 5 := by kernel_rfl
theorem cells_i : Try.prog.cellsOf 3 = 1 := by kernel_rfl
theorem cells_B : Try.prog.cellsOf 22 = 1 := by kernel_rfl
theorem cells_I : Try.prog.cellsOf 24 = 1 := by kernel_rfl
theorem cells_Win : Try.prog.cellsOf 59 = 2 := by kernel_rfl
theorem row_openB {H : Type} {enc : TypeId × Value → H} {W : World} {fuel : Nat} {c : Value} {x : DataW H × List MemPlace} (h : DataW.trod enc Try.prog W 0 (fun _ => true) true fuel 22 [c] = some x) :
    ∃ (s : Sl) (l : List Int), c = .slice s.a s.n s.c ∧ SRd W s l ∧ s.n ≤ 9223372036854775807 := by
  have key : ∃ a len cap zs, c = .slice a len cap ∧ IsRow .u8 W a len cap zs := by
    rcases open_ints Try.underlying22 Try.underlying5 (by kernel_rfl) h with ⟨hcs, _⟩ | ⟨y, l, cc, zs, hcs, _, hl, hm, hz, _, hcell, hwz⟩
    · simp at hcs
      exact ⟨none, 0, 0, [], hcs, .inl ⟨rfl, rfl, rfl, rfl⟩⟩
    · simp at hcs
      exact ⟨some y, l, cc, zs, hcs, .inr ⟨_, rfl, hl, hm, by simpa using hz, hcell, hwz⟩⟩
  obtain ⟨a, len, cap, zs, rfl, hr⟩ := key
  have hcap : len ≤ cap ∧ cap ≤ maxLen := by
    rcases hr with ⟨rfl, rfl, rfl, _⟩ | ⟨x, rfl, h1, h2, _⟩
    · exact ⟨Nat.le_refl _, by simp⟩
    · exact ⟨h1, h2⟩
  obtain ⟨l, h1⟩ := row_sl hr
  exact ⟨⟨a, len, cap⟩, l, rfl, h1, by have := hcap.1; have := hcap.2; unfold maxLen at *; show len ≤ _; omega⟩
theorem row_openI {H : Type} {enc : TypeId × Value → H} {W : World} {fuel : Nat} {c : Value} {x : DataW H × List MemPlace} (h : DataW.trod enc Try.prog W 0 (fun _ => true) true fuel 24 [c] = some x) :
    ∃ (s : Sl) (l : List Int), c = .slice s.a s.n s.c ∧ ISRd W s l ∧ s.n ≤ 9223372036854775807 := by
  have key : ∃ a len cap zs, c = .slice a len cap ∧ IsRow .i64 W a len cap zs := by
    rcases open_ints Try.underlying24 Try.underlying3 (by kernel_rfl) h with ⟨hcs, _⟩ | ⟨y, l, cc, zs, hcs, _, hl, hm, hz, _, hcell, hwz⟩
    · simp at hcs
      exact ⟨none, 0, 0, [], hcs, .inl ⟨rfl, rfl, rfl, rfl⟩⟩
    · simp at hcs
      exact ⟨some y, l, cc, zs, hcs, .inr ⟨_, rfl, hl, hm, by simpa using hz, hcell, hwz⟩⟩
  obtain ⟨a, len, cap, zs, rfl, hr⟩ := key
  have hcap : len ≤ cap ∧ cap ≤ maxLen := by
    rcases hr with ⟨rfl, rfl, rfl, _⟩ | ⟨x, rfl, h1, h2, _⟩
    · exact ⟨Nat.le_refl _, by simp⟩
    · exact ⟨h1, h2⟩
  obtain ⟨l, h1⟩ := row_isl hr
  exact ⟨⟨a, len, cap⟩, l, rfl, h1, by have := hcap.1; have := hcap.2; unfold maxLen at *; show len ≤ _; omega⟩
set_option maxRecDepth 100000 in
set_option maxHeartbeats 1600000 in
theorem open_it {H : Type} {enc : TypeId × Value → H} {W : World} {base : Nat} {v : Value} {d : DataW H} {p : List MemPlace} (hval : Value.okWide Try.prog W .any base 61 v)
    (h : DataW.Trod enc Try.prog W 0 (fun _ => true) true 61 v d p) :
    ∃ (D : EpD) (S : EpS), v = epV D S ∧ EpRd W S D ∧ EpSmall S := by
  obtain ⟨cs, rfl, hsz⟩ := okWide_struct Try.underlying61 hval
  rw [cellsT] at hsz
  obtain ⟨fuel, hf⟩ := h
  obtain ⟨v0, v1, v2, v3, v4, rfl⟩ : ∃ v0 v1 v2 v3 v4, cs = #[v0, v1, v2, v3, v4] := by
    obtain ⟨l⟩ := cs
    match l, hsz with
    | [v0, v1, v2, v3, v4], _ => exact ⟨v0, v1, v2, v3, v4, rfl⟩
  simp only [Value.cells] at hf
  obtain ⟨xs0, n0, _, _, _, hlen0, hfs0⟩ := DataW.trod_struct Try.underlying61 hf
  obtain ⟨y0_0, y0_1, y0_2, y0_3, rfl⟩ : ∃ y0_0 y0_1 y0_2 y0_3, xs0 = [y0_0, y0_1, y0_2, y0_3] := by
    match xs0, hlen0 with
    | [y0_0, y0_1, y0_2, y0_3], _ => exact ⟨y0_0, y0_1, y0_2, y0_3, rfl⟩
  have f0_0 : DataW.trod enc Try.prog W 0 (fun _ => true) true n0 3 (([v0, v1, v2, v3, v4].drop 0).take (Try.prog.cellsOf 3)) = some y0_0 := hfs0 0 _ rfl
  rw [cells_i] at f0_0
  have f0_1 : DataW.trod enc Try.prog W 0 (fun _ => true) true n0 22 (([v0, v1, v2, v3, v4].drop 1).take (Try.prog.cellsOf 22)) = some y0_1 := hfs0 1 _ rfl
  rw [cells_B] at f0_1
  have f0_2 : DataW.trod enc Try.prog W 0 (fun _ => true) true n0 3 (([v0, v1, v2, v3, v4].drop 2).take (Try.prog.cellsOf 3)) = some y0_2 := hfs0 2 _ rfl
  rw [cells_i] at f0_2
  have f0_3 : DataW.trod enc Try.prog W 0 (fun _ => true) true n0 59 (([v0, v1, v2, v3, v4].drop 3).take (Try.prog.cellsOf 59)) = some y0_3 := hfs0 3 _ rfl
  rw [cells_Win] at f0_3
  obtain ⟨xs1, n1, _, _, _, hlen1, hfs1⟩ := DataW.trod_struct Try.underlying59 f0_3
  obtain ⟨y1_0, y1_1, rfl⟩ : ∃ y1_0 y1_1, xs1 = [y1_0, y1_1] := by
    match xs1, hlen1 with
    | [y1_0, y1_1], _ => exact ⟨y1_0, y1_1, rfl⟩
  have f1_0 : DataW.trod enc Try.prog W 0 (fun _ => true) true n1 3 (([v3, v4].drop 0).take (Try.prog.cellsOf 3)) = some y1_0 := hfs1 0 _ rfl
  rw [cells_i] at f1_0
  have f1_1 : DataW.trod enc Try.prog W 0 (fun _ => true) true n1 24 (([v3, v4].drop 1).take (Try.prog.cellsOf 24)) = some y1_1 := hfs1 1 _ rfl
  rw [cells_I] at f1_1
  obtain ⟨a0, e0, _, _⟩ := DataW.trod_int Try.underlying3 f0_0
  simp at e0
  subst e0
  obtain ⟨s1, l1, e1, r1, m1⟩ := row_openB f0_1
  subst e1
  obtain ⟨a2, e2, _, _⟩ := DataW.trod_int Try.underlying3 f0_2
  simp at e2
  subst e2
  obtain ⟨a3, e3, _, _⟩ := DataW.trod_int Try.underlying3 f1_0
  simp at e3
  subst e3
  obtain ⟨s4, l4, e4, r4, m4⟩ := row_openI f1_1
  subst e4
  exact ⟨⟨a0, l1, a2, ⟨a3, l4⟩⟩, ⟨s1, ⟨s4⟩⟩, rfl, ⟨r1, ⟨r4⟩⟩, ⟨m1, ⟨m4⟩⟩⟩
end Go.Proofs.Ytmcflfpckpjphaa.EpF
