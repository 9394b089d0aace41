/-
  Keys as plain functions, where sums with a key come in.
-/
import Derived.Test.YtpenhliaelhnoaaDoorKeP
import Derived.Test.YtpenhliaelhnoaaDoorKdfP
import Derived.Test.YtpenhliaelhnoaaDoorStr
namespace Go.Proofs.YtpenhliaelhnoaaDoor.KeQ
open Go.RowKit Go.Proofs.YtpenhliaelhnoaaDoor.Mem Go.Proofs.YtpenhliaelhnoaaDoor.App Go.Proofs.YtpenhliaelhnoaaDoor.Words Go.Proofs.YtpenhliaelhnoaaDoor.Str Go.Proofs.YtpenhliaelhnoaaDoor.KeP Go.Proofs.YtpenhliaelhnoaaDoor.MacP Go.Proofs.YtpenhliaelhnoaaDoor.KdfP

def roamB : ByteArray := ⟨#[114, 111, 97, 109]⟩
def finishB : ByteArray := ⟨#[102, 105, 110, 105, 115, 104]⟩
def epochB : ByteArray := ⟨#[101, 112, 111, 99, 104]⟩
set_option maxRecDepth 100000 in
theorem bs_roam : bs roamB = [114, 111, 97, 109] := rfl
set_option maxRecDepth 100000 in
theorem nilB : Bytes ([] : List Int) := fun z hz => by cases hz
/-- The key of a proof. -/
def finK (psk : List Int) : List Int := if pskOk psk.length = true then derI (hmacI (bs roamB) psk) (bs finishB) else []
set_option maxRecDepth 100000 in
theorem finK_yes {psk : List Int} (h : pskOk psk.length = true) : finK psk = derI (hmacI (bs roamB) psk) (bs finishB) := if_pos h
set_option maxRecDepth 100000 in
theorem finK_no {psk : List Int} (h : pskOk psk.length = false) : finK psk = [] := if_neg (by rw [h]; decide)
set_option maxRecDepth 100000 in
theorem finK_bytes (psk : List Int) : Bytes (finK psk) := by
  unfold finK; split
  · exact derI_bytes _ _
  · exact nilB
set_option maxRecDepth 100000 in
theorem finK_le (psk : List Int) : (finK psk).length ≤ 32 := by
  unfold finK; split
  · exact derI_le _ _
  · simp
set_option maxRecDepth 100000 in
theorem der_len {k f : List Int} (hk : k.length = 32) (hf : f.length ≤ 100) : (derI k f).length = 32 :=
  expI_len k f 32 ((mayExp_iff _ _ _).2 ⟨by decide, by decide, hf, by omega⟩)
set_option maxRecDepth 100000 in
theorem finK_len {psk : List Int} (h : pskOk psk.length = true) : (finK psk).length = 32 := by
  rw [finK_yes h]
  refine der_len (hmacI_len _ _ (by rw [bs_roam]; simp) (by have := pskOk_iff.1 h; omega)) (by rw [bs_length]; decide)
/-- The root of a session's keys. -/
def rootF (psk cn sn : Nat) : Bool := pskOk psk && ((cn : Int) == 12) && ((sn : Int) == 12)
def rootK (psk cn sn : List Int) : List Int := if rootF psk.length cn.length sn.length = true then hmacI (cn ++ sn) psk else []
set_option maxRecDepth 100000 in
theorem rootK_yes {psk cn sn : List Int} (h : rootF psk.length cn.length sn.length = true) : rootK psk cn sn = hmacI (cn ++ sn) psk := if_pos h
set_option maxRecDepth 100000 in
theorem rootK_no {psk cn sn : List Int} (h : rootF psk.length cn.length sn.length = false) : rootK psk cn sn = [] := if_neg (by rw [h]; decide)
set_option maxRecDepth 100000 in
theorem rootF_parts {psk cn sn : Nat} (h : rootF psk cn sn = true) : (1 ≤ psk ∧ psk ≤ 32) ∧ cn = 12 ∧ sn = 12 := by
  unfold rootF at h
  simp only [Bool.and_eq_true, beq_iff_eq] at h
  exact ⟨pskOk_iff.1 h.1.1, by omega, by omega⟩
set_option maxRecDepth 100000 in
theorem rootK_len {psk cn sn : List Int} (h : rootF psk.length cn.length sn.length = true) : (rootK psk cn sn).length = 32 := by
  obtain ⟨h1, h2, h3⟩ := rootF_parts h
  rw [rootK_yes h]; exact hmacI_len _ _ (by rw [List.length_append]; omega) (by omega)
set_option maxRecDepth 100000 in
theorem rootK_le (psk cn sn : List Int) : (rootK psk cn sn).length ≤ 32 := by
  unfold rootK; split
  · exact hmacI_le _ _
  · simp
set_option maxRecDepth 100000 in
theorem rootK_bytes (psk cn sn : List Int) : Bytes (rootK psk cn sn) := by
  unfold rootK; split
  · exact hmacI_bytes _ _
  · exact nilB
/-- The first key of a root. -/
def firstK (r : List Int) : List Int := if ((r.length : Int) == 32) = true then derI r (bs epochB) else []
set_option maxRecDepth 100000 in
theorem firstK_yes {r : List Int} (h : ((r.length : Int) == 32) = true) : firstK r = derI r (bs epochB) := if_pos h
set_option maxRecDepth 100000 in
theorem firstK_no {r : List Int} (h : ((r.length : Int) == 32) = false) : firstK r = [] := if_neg (by rw [h]; decide)
set_option maxRecDepth 100000 in
theorem firstK_le (r : List Int) : (firstK r).length ≤ 32 := by
  unfold firstK; split
  · exact derI_le _ _
  · simp
set_option maxRecDepth 100000 in
theorem firstK_bytes (r : List Int) : Bytes (firstK r) := by
  unfold firstK; split
  · exact derI_bytes _ _
  · exact nilB
set_option maxRecDepth 100000 in
theorem firstK_len {r : List Int} (h : ((r.length : Int) == 32) = true) : (firstK r).length = 32 := by
  rw [firstK_yes h]; exact der_len (by have : (r.length : Int) = 32 := (by simpa using h); omega) (by rw [bs_length]; decide)
/-- The key of an epoch. -/
def epochK (psk cn sn : List Int) (n : Int) : List Int := if ((firstK (rootK psk cn sn)).length == 0) = true then [] else chnI (firstK (rootK psk cn sn)) n
set_option maxRecDepth 100000 in
theorem epochK_no {psk cn sn : List Int} {n : Int} (h : firstK (rootK psk cn sn) = []) : epochK psk cn sn n = [] := by unfold epochK; rw [h]; rfl
set_option maxRecDepth 100000 in
theorem epochK_yes {psk cn sn : List Int} {n : Int} (h : (firstK (rootK psk cn sn)).length ≠ 0) : epochK psk cn sn n = chnI (firstK (rootK psk cn sn)) n := by
  unfold epochK; rw [if_neg (by simpa using h)]
/-- A proof. -/
def proofB (psk : Nat) (id : Int) (cn sn : Nat) (tick : Int) (ck : Nat) : Bool := pskOk psk && proofF id cn sn tick ck
def proofK (psk : List Int) (id : Int) (cn sn : List Int) (tick : Int) (ck : List Int) : List Int := if proofB psk.length id cn.length sn.length tick ck.length = true then tagI (finK psk) (proofL id cn sn tick ck) else []
set_option maxRecDepth 100000 in
theorem proofK_yes {psk : List Int} {id : Int} {cn sn : List Int} {tick : Int} {ck : List Int} (h : proofB psk.length id cn.length sn.length tick ck.length = true) : proofK psk id cn sn tick ck = tagI (finK psk) (proofL id cn sn tick ck) := if_pos h
set_option maxRecDepth 100000 in
theorem proofK_no {psk : List Int} {id : Int} {cn sn : List Int} {tick : Int} {ck : List Int} (h : proofB psk.length id cn.length sn.length tick ck.length = false) : proofK psk id cn sn tick ck = [] := if_neg (by rw [h]; decide)
set_option maxRecDepth 100000 in
theorem proofK_le (psk : List Int) (id : Int) (cn sn : List Int) (tick : Int) (ck : List Int) : (proofK psk id cn sn tick ck).length ≤ 16 := by
  unfold proofK; split
  · exact tagI_le _ _
  · simp
set_option maxRecDepth 100000 in
theorem proofK_bytes (psk : List Int) (id : Int) (cn sn : List Int) (tick : Int) (ck : List Int) : Bytes (proofK psk id cn sn tick ck) := by
  unfold proofK; split
  · exact tagI_bytes _ _
  · exact nilB
set_option maxRecDepth 100000 in
theorem proofK_len {psk : List Int} {id : Int} {cn sn : List Int} {tick : Int} {ck : List Int} (h : proofB psk.length id cn.length sn.length tick ck.length = true) : (proofK psk id cn sn tick ck).length = 16 := by
  obtain ⟨h1, h2⟩ := Bool.and_eq_true_iff.1 h
  rw [proofK_yes h]; exact tagI_len _ _ (by rw [finK_len h1]; omega) (by rw [proofL_len h2]; omega)
set_option maxRecDepth 100000 in
theorem epochK_le (psk cn sn : List Int) (n : Int) : (epochK psk cn sn n).length ≤ 32 := by
  have h := chnI_most (firstK (rootK psk cn sn)) n
  have h2 := firstK_le (rootK psk cn sn)
  unfold epochK; split
  · simp
  · omega
set_option maxRecDepth 100000 in
theorem chnI_bytes (k : List Int) (hk : Bytes k) (n : Int) : Bytes (chnI k n) := by
  unfold chnI; split
  · exact chn_bytes _ hk _
  · exact nilB
end Go.Proofs.YtpenhliaelhnoaaDoor.KeQ
