/-
  What an epoch seals another one with its key opens, once; what is opened is taken; how far it is sealed: as plain functions.
-/
import Derived.Test.YtmcflfpckpjphaaGreatDoorVdBas6
import Derived.Test.YtmcflfpckpjphaaGreatDoorVdWnBp
set_option maxRecDepth 100000
namespace Go.Proofs.YtmcflfpckpjphaaGreatDoor.OpP
open Go.RowKit Mem Words Zone ZoneI WnZ WinP WnK WnG WnBp FrZ FrP FrG EpZ EpL EpP SlP SlQ EpQ

theorem opened {E : EpD} {role : Int} {D : FrD} (h : eoCode E role D = 0) : epOk E = true ∧ eoForm E role D = true ∧ winMay E.win.top E.win.bits D.seq = true ∧ unsealB E.key role D = true := by
 have hf : eoForm E role D = true := by
  by_cases c : eoForm E role D = true
  ·
   exact c
  ·
   rw [eo_1 (by simpa using c)] at h; cases h
 have h3 : winMay E.win.top E.win.bits D.seq = true := by
  by_cases c : winMay E.win.top E.win.bits D.seq = true
  ·
   exact c
  ·
   rw [eo_3 hf (by simpa using c)] at h; cases h
 have h2 : unsealB E.key role D = true := by
  by_cases c : unsealB E.key role D = true
  ·
   exact c
  ·
   rw [eo_2 hf h3 (by simpa using c)] at h; cases h
 have h1 : epOk E = true := by unfold eoForm at hf; rw [Bool.and_eq_true] at hf; exact hf.1
 exact ⟨h1, hf, h3, h2⟩
theorem took_epOk {E : EpD} {role : Int} {D : FrD} (h : eoCode E role D = 0) : epOk { E with win := addD E.win D.seq } = true := by
 obtain ⟨h1, h2, h3, h4⟩ := opened h
 obtain ⟨e1, e2, e3, e4⟩ := epOk_parts h1
 exact epOk_of e1 e2 e3 (took_ok h3)
end Go.Proofs.YtmcflfpckpjphaaGreatDoor.OpP
