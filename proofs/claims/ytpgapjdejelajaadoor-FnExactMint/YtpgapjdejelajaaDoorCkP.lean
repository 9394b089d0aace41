/-
  Cookies as plain functions: jars, what a cookie is of, cookies, how long they live, and how a finish is judged.
-/
import Derived.Test.YtpgapjdejelajaaDoorCa1
import Derived.Test.YtpgapjdejelajaaDoorCa2
import Derived.Test.YtpgapjdejelajaaDoorAddrS
import Derived.Test.YtpgapjdejelajaaDoorStr
namespace Go.Proofs.YtpgapjdejelajaaDoor.CkP
open Go.RowKit Go.Proofs.YtpgapjdejelajaaDoor.Mem Go.Proofs.YtpgapjdejelajaaDoor.App Go.Proofs.YtpgapjdejelajaaDoor.Words Go.Proofs.YtpgapjdejelajaaDoor.Zone Go.Proofs.YtpgapjdejelajaaDoor.JaZ Go.Proofs.YtpgapjdejelajaaDoor.AddrP Go.Proofs.YtpgapjdejelajaaDoor.AddrS Go.Proofs.YtpgapjdejelajaaDoor.Str

/-- The label of a jar. -/
def jarB : ByteArray := ⟨#[106, 97, 114]⟩
def jarOk (D : JaD) : Bool := ((D.secret.length : Int) == 32)
set_option maxRecDepth 100000 in
theorem jarOk_iff {D : JaD} : jarOk D = true ↔ D.secret.length = 32 := by unfold jarOk; simp; omega
/-- Whether a cookie may be minted of these. -/
def mintF (h p id : Int) (cn sn : Nat) (tick : Int) : Bool := addrOk h p && isIn id 1 9 && ((cn : Int) == 12) && ((sn : Int) == 12) && isIn tick 0 1000000
set_option maxRecDepth 100000 in
theorem mintF_parts {h p id : Int} {cn sn : Nat} {tick : Int} (k : mintF h p id cn sn tick = true) : addrOk h p = true ∧ (1 ≤ id ∧ id ≤ 9) ∧ cn = 12 ∧ sn = 12 ∧ (0 ≤ tick ∧ tick ≤ 1000000) := by
  unfold mintF isIn at k
  simp only [Bool.and_eq_true, decide_eq_true_eq, beq_iff_eq] at k
  obtain ⟨⟨⟨⟨k1, k2⟩, k3⟩, k4⟩, k5⟩ := k
  exact ⟨k1, k2, by omega, by omega, k5⟩
/-- What a cookie is of. -/
def mintL (h p id : Int) (cn sn : List Int) (tick : Int) : List Int := if mintF h p id cn.length sn.length tick = true then putA [99] h p ++ [id] ++ cn ++ sn ++ putN tick 4 else []
set_option maxRecDepth 100000 in
theorem mintL_yes {h p id : Int} {cn sn : List Int} {tick : Int} (k : mintF h p id cn.length sn.length tick = true) : mintL h p id cn sn tick = putA [99] h p ++ [id] ++ cn ++ sn ++ putN tick 4 := if_pos k
set_option maxRecDepth 100000 in
theorem mintL_no {h p id : Int} {cn sn : List Int} {tick : Int} (k : mintF h p id cn.length sn.length tick = false) : mintL h p id cn sn tick = [] := if_neg (by rw [k]; decide)
set_option maxRecDepth 100000 in
theorem putA_len {h p : Int} (k : addrOk h p = true) (l : List Int) : (putA l h p).length = l.length + 6 := by
  unfold putA; rw [if_pos k, List.length_append, List.length_append, num_length, num_length]
set_option maxRecDepth 100000 in
theorem putN4_len (n : Int) : (putN n 4).length = 4 := by show (num n 4).length = 4; rw [num_length]
set_option maxRecDepth 100000 in
theorem mintL_len {h p id : Int} {cn sn : List Int} {tick : Int} (k : mintF h p id cn.length sn.length tick = true) : (mintL h p id cn sn tick).length = 36 := by
  obtain ⟨k1, _, k3, k4, _⟩ := mintF_parts k
  rw [mintL_yes k]
  simp only [List.length_append, putA_len k1, putN4_len, k3, k4]
  rfl
set_option maxRecDepth 100000 in
theorem mintL_le (h p id : Int) (cn sn : List Int) (tick : Int) : (mintL h p id cn sn tick).length ≤ 36 := by
  cases k : mintF h p id cn.length sn.length tick with
  | true => rw [mintL_len k]; exact Nat.le_refl _
  | false => rw [mintL_no k]; simp
set_option maxRecDepth 100000 in
theorem app_bytes {a b : List Int} (ha : Bytes a) (hb : Bytes b) : Bytes (a ++ b) := by
  intro z hz
  rcases List.mem_append.1 hz with h | h
  · exact ha z h
  · exact hb z h
set_option maxRecDepth 100000 in
theorem putA_bytes {l : List Int} (h p : Int) (hl : Bytes l) : Bytes (putA l h p) := by
  unfold putA; split
  · exact app_bytes (app_bytes hl (num_bytes _ _)) (num_bytes _ _)
  · exact hl
set_option maxRecDepth 100000 in
theorem one_bytes {x : Int} (h0 : 0 ≤ x) (h1 : x ≤ 255) : Bytes [x] := by
  intro z hz; simp at hz; omega
set_option maxRecDepth 100000 in
theorem num4_bytes (n : Int) : Bytes (putN n 4) := by
  show Bytes (num n 4); exact num_bytes _ _
set_option maxRecDepth 100000 in
theorem mintL_bytes {h p id : Int} {cn sn : List Int} {tick : Int} (hc : Bytes cn) (hs : Bytes sn) : Bytes (mintL h p id cn sn tick) := by
  cases k : mintF h p id cn.length sn.length tick with
  | true =>
    have q := (mintF_parts k).2.1
    rw [mintL_yes k]
    exact app_bytes (app_bytes (app_bytes (app_bytes (putA_bytes _ _ (one_bytes (by omega) (by omega))) (one_bytes (by omega) (by omega))) hc) hs) (num4_bytes _)
  | false => rw [mintL_no k]; intro z hz; cases hz
/-- Whether a cookie of this tick lives. -/
def freshB (now tick : Int) : Bool := isIn now 0 1000000 && isIn tick 0 1000000 && isIn (now - tick) 0 10
set_option maxRecDepth 100000 in
theorem freshB_iff {now tick : Int} : freshB now tick = true ↔ (0 ≤ now ∧ now ≤ 1000000) ∧ (0 ≤ tick ∧ tick ≤ 1000000) ∧ 0 ≤ now - tick ∧ now - tick ≤ 10 := by
  unfold freshB isIn; simp only [Bool.and_eq_true, decide_eq_true_eq]
  constructor
  · rintro ⟨⟨a, b⟩, c⟩; exact ⟨a, b, c⟩
  · rintro ⟨a, b, c⟩; exact ⟨⟨a, b⟩, c⟩
end Go.Proofs.YtpgapjdejelajaaDoor.CkP
