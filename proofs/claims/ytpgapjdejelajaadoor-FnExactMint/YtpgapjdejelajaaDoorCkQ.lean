/-
  Cookies as plain functions, where sums with a key come in.
-/
import Derived.Test.YtpgapjdejelajaaDoorCkP
import Derived.Test.YtpgapjdejelajaaDoorKdfP
import Derived.Test.YtpgapjdejelajaaDoorFrP
namespace Go.Proofs.YtpgapjdejelajaaDoor.CkQ
open Go.RowKit Go.Proofs.YtpgapjdejelajaaDoor.Mem Go.Proofs.YtpgapjdejelajaaDoor.App Go.Proofs.YtpgapjdejelajaaDoor.Words Go.Proofs.YtpgapjdejelajaaDoor.Zone Go.Proofs.YtpgapjdejelajaaDoor.JaZ Go.Proofs.YtpgapjdejelajaaDoor.AddrP Go.Proofs.YtpgapjdejelajaaDoor.AddrS Go.Proofs.YtpgapjdejelajaaDoor.Str Go.Proofs.YtpgapjdejelajaaDoor.CkP Go.Proofs.YtpgapjdejelajaaDoor.MacP Go.Proofs.YtpgapjdejelajaaDoor.DiffP Go.Proofs.YtpgapjdejelajaaDoor.KdfP

/-- The jar of a roll. -/
def newJ (l : List Int) : JaD := if ((l.length : Int) == 12) = true then ⟨derI l (bs jarB)⟩ else ⟨[]⟩
set_option maxRecDepth 100000 in
theorem newJ_yes {l : List Int} (h : ((l.length : Int) == 12) = true) : newJ l = ⟨derI l (bs jarB)⟩ := if_pos h
set_option maxRecDepth 100000 in
theorem newJ_no {l : List Int} (h : ((l.length : Int) == 12) = false) : newJ l = ⟨[]⟩ := if_neg (by rw [h]; decide)
set_option maxRecDepth 100000 in
theorem newJ_short (l : List Int) : JaShort (newJ l) 32 := by
  cases h : ((l.length : Int) == 12) with
  | true => rw [newJ_yes h]; exact ⟨derI_le _ _⟩
  | false => rw [newJ_no h]; exact ⟨Nat.zero_le _⟩
set_option maxRecDepth 100000 in
theorem newJ_bytes (l : List Int) : Bytes (newJ l).secret := by
  cases h : ((l.length : Int) == 12) with
  | true => rw [newJ_yes h]; exact derI_bytes _ _
  | false => rw [newJ_no h]; intro z hz; cases hz
def mintB (D : JaD) (h p id : Int) (cn sn : Nat) (tick : Int) : Bool := jarOk D && mintF h p id cn sn tick
/-- A cookie. -/
def mint (D : JaD) (h p id : Int) (cn sn : List Int) (tick : Int) : List Int := if mintB D h p id cn.length sn.length tick = true then tagI D.secret (mintL h p id cn sn tick) else []
set_option maxRecDepth 100000 in
theorem mint_yes {D : JaD} {h p id : Int} {cn sn : List Int} {tick : Int} (k : mintB D h p id cn.length sn.length tick = true) : mint D h p id cn sn tick = tagI D.secret (mintL h p id cn sn tick) := if_pos k
set_option maxRecDepth 100000 in
theorem mint_no {D : JaD} {h p id : Int} {cn sn : List Int} {tick : Int} (k : mintB D h p id cn.length sn.length tick = false) : mint D h p id cn sn tick = [] := if_neg (by rw [k]; decide)
set_option maxRecDepth 100000 in
theorem mint_le (D : JaD) (h p id : Int) (cn sn : List Int) (tick : Int) : (mint D h p id cn sn tick).length ≤ 16 := by
  cases k : mintB D h p id cn.length sn.length tick with
  | true => rw [mint_yes k]; exact tagI_le _ _
  | false => rw [mint_no k]; simp
set_option maxRecDepth 100000 in
theorem mint_bytes (D : JaD) (h p id : Int) (cn sn : List Int) (tick : Int) : Bytes (mint D h p id cn sn tick) := by
  cases k : mintB D h p id cn.length sn.length tick with
  | true => rw [mint_yes k]; exact tagI_bytes _ _
  | false => rw [mint_no k]; intro z hz; cases hz
set_option maxRecDepth 100000 in
theorem mint_len {D : JaD} {h p id : Int} {cn sn : List Int} {tick : Int} (k : mintB D h p id cn.length sn.length tick = true) : (mint D h p id cn sn tick).length = 16 := by
  obtain ⟨k1, k2⟩ := Bool.and_eq_true_iff.1 k
  have q := jarOk_iff.1 k1
  rw [mint_yes k, tagI_len _ _ (by omega) (by rw [mintL_len k2]; omega)]
set_option maxRecDepth 100000 in
theorem newJ_ok {l : List Int} : jarOk (newJ l) = ((l.length : Int) == 12) := by
  cases h : ((l.length : Int) == 12) with
  | true =>
    rw [newJ_yes h, jarOk_iff]
    exact expI_len l (bs jarB) 32 ((mayExp_iff _ _ _).2 (by have e : (bs jarB).length = 3 := rfl; have h2 : (l.length : Int) = 12 := (by simpa using h); exact ⟨by decide, by decide, by omega, by omega⟩))
  | false => rw [newJ_no h]; rfl
end Go.Proofs.YtpgapjdejelajaaDoor.CkQ
namespace Go.Proofs.YtpgapjdejelajaaDoor.CkQ
open Go.RowKit Go.Proofs.YtpgapjdejelajaaDoor.Mem Go.Proofs.YtpgapjdejelajaaDoor.App Go.Proofs.YtpgapjdejelajaaDoor.Words Go.Proofs.YtpgapjdejelajaaDoor.Zone Go.Proofs.YtpgapjdejelajaaDoor.JaZ Go.Proofs.YtpgapjdejelajaaDoor.AddrP Go.Proofs.YtpgapjdejelajaaDoor.AddrS Go.Proofs.YtpgapjdejelajaaDoor.Str Go.Proofs.YtpgapjdejelajaaDoor.CkP Go.Proofs.YtpgapjdejelajaaDoor.MacP Go.Proofs.YtpgapjdejelajaaDoor.DiffP Go.Proofs.YtpgapjdejelajaaDoor.KdfP Go.Proofs.YtpgapjdejelajaaDoor.FrZ Go.Proofs.YtpgapjdejelajaaDoor.FrP
def judgeF (D : JaD) (now h p : Int) (F : FrD) : Bool := jarOk D && isIn now 0 1000000 && addrOk h p && frameOk F && (F.kind == 3)
/-- How a finish is judged. -/
def judgeC (D : JaD) (now h p : Int) (F : FrD) : Int :=
  if judgeF D now h p F = true then (if freshB now F.tick = true then (if sameI F.cookie (mint D h p F.id F.cn F.sn F.tick) = true then 0 else 2) else 9) else 1
set_option maxRecDepth 100000 in
theorem judge_1 {D : JaD} {now h p : Int} {F : FrD} (k : judgeF D now h p F = false) : judgeC D now h p F = 1 := by unfold judgeC; rw [k]; rfl
set_option maxRecDepth 100000 in
theorem judge_9 {D : JaD} {now h p : Int} {F : FrD} (k : judgeF D now h p F = true) (k2 : freshB now F.tick = false) : judgeC D now h p F = 9 := by unfold judgeC; rw [k, k2]; rfl
set_option maxRecDepth 100000 in
theorem judge_2 {D : JaD} {now h p : Int} {F : FrD} (k : judgeF D now h p F = true) (k2 : freshB now F.tick = true) (k3 : sameI F.cookie (mint D h p F.id F.cn F.sn F.tick) = false) : judgeC D now h p F = 2 := by unfold judgeC; rw [k, k2, k3]; rfl
set_option maxRecDepth 100000 in
theorem judge_0 {D : JaD} {now h p : Int} {F : FrD} (k : judgeF D now h p F = true) (k2 : freshB now F.tick = true) (k3 : sameI F.cookie (mint D h p F.id F.cn F.sn F.tick) = true) : judgeC D now h p F = 0 := by unfold judgeC; rw [k, k2, k3]; rfl
end Go.Proofs.YtpgapjdejelajaaDoor.CkQ
