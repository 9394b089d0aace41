/-
  Epochs as plain data: which are right, a new one.
-/
import Derived.Test.YtmcflfpckpjphaaEpL
import Derived.Test.YtmcflfpckpjphaaWnG
import Derived.Test.YtmcflfpckpjphaaWords
namespace Go.Proofs.Ytmcflfpckpjphaa.EpP
open Go.RowKit Go.Proofs.Ytmcflfpckpjphaa.Mem Go.Proofs.Ytmcflfpckpjphaa.Words Go.Proofs.Ytmcflfpckpjphaa.Zone Go.Proofs.Ytmcflfpckpjphaa.ZoneI Go.Proofs.Ytmcflfpckpjphaa.WnZ Go.Proofs.Ytmcflfpckpjphaa.WinP Go.Proofs.Ytmcflfpckpjphaa.WnK Go.Proofs.Ytmcflfpckpjphaa.WnG Go.Proofs.Ytmcflfpckpjphaa.EpZ Go.Proofs.Ytmcflfpckpjphaa.EpL

noncomputable def epOk (D : EpD) : Bool := isIn D.n 0 4294967295 && (((D.key.length : Int) == 32) && (isIn D.seq 0 281474976710656 && winOk D.win.top D.win.bits))
theorem epOk_parts {D : EpD} (h : epOk D = true) : (0 ≤ D.n ∧ D.n ≤ 4294967295) ∧ D.key.length = 32 ∧ (0 ≤ D.seq ∧ D.seq ≤ 281474976710656) ∧ winOk D.win.top D.win.bits = true := by
  unfold epOk isIn at h; simp at h; exact ⟨h.1, by omega, h.2.2.1, h.2.2.2⟩
theorem epOk_of {D : EpD} (h1 : 0 ≤ D.n ∧ D.n ≤ 4294967295) (h2 : D.key.length = 32) (h3 : 0 ≤ D.seq ∧ D.seq ≤ 281474976710656) (h4 : winOk D.win.top D.win.bits = true) : epOk D = true := by
  unfold epOk isIn; simp [h1, h2, h3, h4]
/-- Whether there is an epoch of these. -/
def newB (n : Int) (k : Int) : Bool := isIn n 0 4294967295 && (k == 32)
def zeroE : EpD := ⟨0, [], 0, ⟨0, []⟩⟩
def newE (n : Int) (key : List Int) : EpD := if newB n key.length = true then ⟨n, key, 0, ⟨-1, zeros⟩⟩ else zeroE
theorem newE_yes {n : Int} {key : List Int} (h : newB n key.length = true) : newE n key = ⟨n, key, 0, ⟨-1, zeros⟩⟩ := by unfold newE; rw [if_pos h]
theorem newE_no {n : Int} {key : List Int} (h : newB n key.length = false) : newE n key = zeroE := by unfold newE; rw [if_neg (by rw [h]; simp)]
theorem newB_parts {n k : Int} (h : newB n k = true) : (0 ≤ n ∧ n ≤ 4294967295) ∧ k = 32 := by unfold newB isIn at h; simp at h; exact h
theorem zeroE_short (m : Nat) : EpShort zeroE m := ⟨Nat.zero_le _, ⟨Nat.zero_le _⟩⟩
theorem newE_short (n : Int) (key : List Int) : EpShort (newE n key) 65536 := by
  by_cases h : newB n key.length = true
  · rw [newE_yes h]
    have := (newB_parts h).2
    exact ⟨by show key.length ≤ _; omega, new_short⟩
  · rw [newE_no (by simpa using h)]; exact zeroE_short _
def AnsE (D : EpD) (w : World) : Ending → World → Prop := fun e w' => ∃ S0 : EpS, e = .returned (epV D S0) ∧ EpOwn w' w.heap.size w'.heap.size S0 D ∧ Below w.heap.size w w'
def zeroES : EpS := ⟨⟨none, 0, 0⟩, ⟨⟨none, 0, 0⟩⟩⟩
theorem zeroE_own (w : World) (lo hi : Nat) (h : lo ≤ hi) : EpOwn w lo hi zeroES zeroE := ⟨lo, lo, lo, lo, SOwn.nil _ _ _, ⟨ISOwn.nil _ _ _, ⟨⟩⟩, by omega⟩
end Go.Proofs.Ytmcflfpckpjphaa.EpP
