/-
  What is sealed with a byte of its tag turned is not opened.
-/
import Derived.Test.YtmcflfpckpjphaaGreatDoorVaBas6
set_option maxRecDepth 100000
namespace Go.Proofs.YtmcflfpckpjphaaGreatDoor.SlR
open Go.RowKit Mem Words Zone FrZ FrP FrG MacP KdfP SlP SlQ

theorem turned {key : List Int} {role : Int} {sn : List Int} {epoch seq kind : Int} {plain y : List Int} (h : sealB key role sn epoch seq kind plain = true) (hl : y.length = 16) (hy : y ≠ (sealD key role sn epoch seq kind plain).tag) :
  unsealB key role { sealD key role sn epoch seq kind plain with tag := y } = false := by
 have e : tagIn role { sealD key role sn epoch seq kind plain with tag := y } = tagIn role (sealD key role sn epoch seq kind plain) :=
  draft_tagIn role sn epoch seq kind _ y _ (by rw [hl]; exact (seal_tag_len h).symm)
 have t := seal_tag h
 unfold unsealB
 rw [e, ← t]
 have : decide (y = (sealD key role sn epoch seq kind plain).tag) = false := decide_eq_false hy
 show (_ && (_ && decide (y = (sealD key role sn epoch seq kind plain).tag))) = false
 rw [this]; simp
theorem parts (key : List Int) (role : Int) (sn : List Int) (epoch seq kind : Int) (plain : List Int) :
  (sealD key role sn epoch seq kind plain).epoch = epoch ∧ (sealD key role sn epoch seq kind plain).seq = seq ∧ (sealD key role sn epoch seq kind plain).kind = kind ∧ (sealD key role sn epoch seq kind plain).sn = sn := ⟨rfl, rfl, rfl, rfl⟩
end Go.Proofs.YtmcflfpckpjphaaGreatDoor.SlR
