/-
  Numbers and their bytes as plain facts.
  Right frames with the same bytes are the same; what it is to be read out of bytes.
  The words behind impl's interface: what each asks of its parts, and the frame that it is.
-/
import Derived.Test.YtpgapjdejelajaaGreatDoorGr2
import Derived.Test.YtpgapjdejelajaaGreatDoorGr9
set_option linter.unusedVariables false
namespace Go.Proofs.YtpgapjdejelajaaGreatDoor.NumV
open Go.RowKit Go.Proofs.YtpgapjdejelajaaGreatDoor.Mem Go.Proofs.YtpgapjdejelajaaGreatDoor.App Go.Proofs.YtpgapjdejelajaaGreatDoor.Get

set_option maxRecDepth 100000 in
theorem fold_from (r : List Int) : ∀ a : Int, r.foldl (fun n z => n * 256 + z) a = a * 256 ^ r.length + val r := by
  induction r with
  | nil => intro a; simp [val]
  | cons z r ih =>
    intro a
    have hv : val (z :: r) = z * 256 ^ r.length + val r := by
      have := ih (0 * 256 + z)
      rw [show (0 : Int) * 256 + z = z by omega] at this
      show (z :: r).foldl (fun n z => n * 256 + z) 0 = _
      rw [List.foldl_cons, show (0 : Int) * 256 + z = z by omega, this]
    rw [List.foldl_cons, ih, hv, List.length_cons, Int.pow_succ, Int.add_mul, Int.mul_assoc, Int.mul_comm 256 (256 ^ r.length), Int.add_assoc]
set_option maxRecDepth 100000 in
theorem val_cons (z : Int) (r : List Int) : val (z :: r) = z * 256 ^ r.length + val r := by
  have := fold_from r (0 * 256 + z)
  rw [show (0 : Int) * 256 + z = z by omega] at this
  show (z :: r).foldl (fun n z => n * 256 + z) 0 = _
  rw [List.foldl_cons, show (0 : Int) * 256 + z = z by omega, this]
set_option maxRecDepth 100000 in
theorem pow8 (j : Nat) : (2 : Int) ^ (8 * j) = 256 ^ j := by
  rw [Int.pow_mul]
  rfl
set_option maxRecDepth 100000 in
theorem val_num (n : Int) (k : Nat) : val (num n k) = n % 256 ^ k := by
  induction k with
  | zero => simp [num, val]
  | succ j ih =>
    unfold num
    rw [val_cons, num_length, ih, pow8, Int.pow_succ]
    have hp : (0 : Int) < 256 ^ j := Int.pow_pos (by decide)
    generalize (256 : Int) ^ j = P at *
    have h1 := Int.emod_add_mul_ediv n P
    have h2 := Int.emod_add_mul_ediv (n / P) 256
    have a1 := Int.emod_nonneg n (show P ≠ 0 by omega)
    have a2 := Int.emod_lt_of_pos n hp
    have a3 := Int.emod_nonneg (n / P) (show (256 : Int) ≠ 0 by decide)
    have a4 := Int.emod_lt_of_pos (n / P) (show (0 : Int) < 256 by decide)
    generalize n / P / 256 = q at *
    generalize hu : n / P % 256 = u at *
    generalize n / P = m at *
    generalize n % P = v at *
    have e : n = (v + u * P) + P * 256 * q := by
      rw [← h1, ← h2, Int.mul_add, ← Int.mul_assoc, Int.mul_comm P u, Int.add_assoc]
    have hup : u * P ≤ 255 * P := Int.mul_le_mul_of_nonneg_right (by omega) (by omega)
    have hu0 : 0 ≤ u * P := Int.mul_nonneg a3 (by omega)
    rw [e, Int.add_mul_emod_self_left, Int.emod_eq_of_lt (by omega) (by omega)]
    omega

set_option maxRecDepth 100000 in
theorem piece_tail (r x : List Int) (k : Nat) (h : x.length = k) : piece (r ++ x) r.length k = x := by
  unfold piece
  rw [List.drop_left, List.take_of_length_le (by omega)]
set_option maxRecDepth 100000 in
theorem piece_mid (r x y : List Int) (k : Nat) (h : x.length = k) : piece (r ++ x ++ y) r.length k = x := by
  unfold piece
  rw [List.append_assoc, List.drop_left, List.take_left' h]
end Go.Proofs.YtpgapjdejelajaaGreatDoor.NumV

namespace Go.Proofs.YtpgapjdejelajaaGreatDoor.FrG
open Go.RowKit Go.Proofs.YtpgapjdejelajaaGreatDoor.Mem Go.Proofs.YtpgapjdejelajaaGreatDoor.App Go.Proofs.YtpgapjdejelajaaGreatDoor.Get Go.Proofs.YtpgapjdejelajaaGreatDoor.NumV Go.Proofs.YtpgapjdejelajaaGreatDoor.FrZ Go.Proofs.YtpgapjdejelajaaGreatDoor.FrP Go.Proofs.YtpgapjdejelajaaGreatDoor.FrB

set_option maxRecDepth 100000 in
theorem num_inj (a b : Int) (k : Nat) (ha : 0 ≤ a) (ha' : a < 256 ^ k) (hb : 0 ≤ b) (hb' : b < 256 ^ k) (h : num a k = num b k) : a = b := by
  have e := congrArg val h
  rwa [val_num, val_num, Int.emod_eq_of_lt ha ha', Int.emod_eq_of_lt hb hb'] at e
set_option maxRecDepth 100000 in
theorem nil_of {l : List Int} (h : l.length = 0) : l = [] := List.length_eq_zero_iff.1 h

set_option maxRecDepth 100000 in
theorem putF_inj (D E : FrD) (h : frameOk D = true) (k : frameOk E = true) (e : putF D = putF E) : D = E := by
  have hh := (ok_iff D).1 h
  have kk := (ok_iff E).1 k
  have hd : ∀ D : FrD, frameOk D = true → (putF D).head? = some D.kind := by
    intro D h
    unfold putF
    rw [if_pos h]
    split
    · simp
    · split
      · simp
      · split <;> simp
  have hk : D.kind = E.kind := by
    have a := hd D h
    rw [e, hd E k] at a
    exact (Option.some.inj a).symm
  obtain ⟨dk, did, dcn, dsn, dtk, dco, dpr, dep, dsq, dbo, dta⟩ := D
  obtain ⟨ek, eid, ecn, esn, etk, eco, epr, eep, esq, ebo, eta⟩ := E
  simp only at hh kk hk
  subst hk
  rcases hh with ⟨h1, h2, h3, h4, h5, h6, h7, h8, h9, h10, h11, h12, h13, h14⟩ | ⟨h1, h2, h3, h4, h5, h⟩
  · rcases kk with ⟨k1, k2, k3, k4, k5, k6, k7, k8, k9, k10, k11, k12, k13, k14⟩ | ⟨_, _, _, _, _, ⟨k, _⟩ | ⟨k, _⟩ | ⟨k, _⟩⟩
    · have c1 : (dk == 1) = false := by simp; omega
      have c2 : (dk == 2) = false := by simp; omega
      have c3 : (dk == 3) = false := by simp; omega
      rw [putF_s _ (by assumption) c1 c2 c3, putF_s _ (by assumption) c1 c2 c3] at e
      simp only [List.append_assoc] at e
      obtain ⟨_, e⟩ := List.append_inj e rfl
      obtain ⟨e1, e⟩ := List.append_inj e (by rw [h5, k5])
      obtain ⟨e2, e⟩ := List.append_inj e (by rw [num_length, num_length])
      obtain ⟨e3, e⟩ := List.append_inj e (by rw [num_length, num_length])
      obtain ⟨e4, e5⟩ := List.append_inj e (by rw [h14, k14])
      have e2' := num_inj _ _ 4 h9 (by omega) k9 (by omega) e2
      have e3' := num_inj _ _ 6 h11 (by omega) k11 (by omega) e3
      rw [nil_of h4, nil_of k4, nil_of h7, nil_of k7, nil_of h8, nil_of k8, h3, k3, h6, k6, e1, e2', e3', e4, e5]
    · omega
    · omega
    · omega
  · rcases kk with ⟨k1, k2, _⟩ | ⟨k1, k2, k3, k4, k5, k⟩
    · rcases h with ⟨h, _⟩ | ⟨h, _⟩ | ⟨h, _⟩ <;> omega
    · rcases h with ⟨h6, h7, h8, h9, h10, h11, h12⟩ | ⟨h6, h7, h8, h9, h10, h11, h12⟩ | ⟨h6, h7, h8, h9, h10, h11, h12, h13⟩
      · rcases k with ⟨k6, k7, k8, k9, k10, k11, k12⟩ | ⟨k6, _⟩ | ⟨k6, _⟩
        · subst h6
          rw [putF_1 _ (by assumption) rfl, putF_1 _ (by assumption) rfl] at e
          simp only [List.append_assoc] at e
          obtain ⟨_, e⟩ := List.append_inj e rfl
          obtain ⟨e1, e⟩ := List.append_inj e rfl
          obtain ⟨e2, _⟩ := List.append_inj e (by rw [h5, k5])
          have e1' : did = eid := by simpa using e1
          rw [nil_of h9, nil_of k9, nil_of h11, nil_of k11, nil_of h12, nil_of k12, nil_of h3, nil_of k3, nil_of h4, nil_of k4, h1, k1, h2, k2, h10, k10, e1', e2]
        · omega
        · omega
      · rcases k with ⟨k6, _⟩ | ⟨k6, k7, k8, k9, k10, k11, k12⟩ | ⟨k6, _⟩
        · omega
        · subst h6
          rw [putF_2 _ (by assumption) rfl rfl, putF_2 _ (by assumption) rfl rfl] at e
          simp only [List.append_assoc] at e
          obtain ⟨_, e⟩ := List.append_inj e rfl
          obtain ⟨e1, e⟩ := List.append_inj e (by rw [h5, k5])
          obtain ⟨e2, e⟩ := List.append_inj e (by rw [h8, k8])
          obtain ⟨e3, e4⟩ := List.append_inj e (by rw [num_length, num_length])
          have e3' := num_inj _ _ 4 h9 (by omega) k9 (by omega) e3
          rw [nil_of h12, nil_of k12, nil_of h3, nil_of k3, nil_of h4, nil_of k4, h1, k1, h2, k2, h7, k7, e1, e2, e3', e4]
        · omega
      · rcases k with ⟨k6, _⟩ | ⟨k6, _⟩ | ⟨k6, k7, k8, k9, k10, k11, k12, k13⟩
        · omega
        · omega
        · subst h6
          rw [putF_3 _ (by assumption) rfl rfl rfl, putF_3 _ (by assumption) rfl rfl rfl] at e
          simp only [List.append_assoc] at e
          obtain ⟨_, e⟩ := List.append_inj e rfl
          obtain ⟨e0, e⟩ := List.append_inj e rfl
          obtain ⟨e1, e⟩ := List.append_inj e (by rw [h5, k5])
          obtain ⟨e2, e⟩ := List.append_inj e (by rw [h9, k9])
          obtain ⟨e3, e⟩ := List.append_inj e (by rw [num_length, num_length])
          obtain ⟨e4, e5⟩ := List.append_inj e (by rw [h12, k12])
          have e3' := num_inj _ _ 4 h10 (by omega) k10 (by omega) e3
          have e0' : did = eid := by simpa using e0
          rw [nil_of h3, nil_of k3, nil_of h4, nil_of k4, h1, k1, h2, k2, e0', e1, e2, e3', e4, e5]

def zeroF : FrD := ⟨0, 0, [], [], 0, [], [], 0, 0, [], []⟩
/-- What is read out of the bytes b. -/
def IsGot (b : List Int) (D : FrD) (ok : Bool) : Prop := (ok = true ∧ frameOk D = true ∧ putF D = b) ∨ (ok = false ∧ D = zeroF ∧ ∀ E, frameOk E = true → putF E ≠ b)
set_option maxRecDepth 100000 in
theorem IsGot.unique {b : List Int} {D E : FrD} {x y : Bool} (h : IsGot b D x) (k : IsGot b E y) : D = E ∧ x = y := by
  rcases h with ⟨rfl, h1, h2⟩ | ⟨rfl, rfl, h2⟩
  · rcases k with ⟨rfl, k1, k2⟩ | ⟨rfl, rfl, k2⟩
    · exact ⟨putF_inj D E h1 k1 (h2.trans k2.symm), rfl⟩
    · exact absurd h2 (k2 D h1)
  · rcases k with ⟨rfl, k1, k2⟩ | ⟨rfl, rfl, k2⟩
    · exact absurd k2 (h2 E k1)
    · exact ⟨rfl, rfl⟩
end Go.Proofs.YtpgapjdejelajaaGreatDoor.FrG

namespace Go.Proofs.YtpgapjdejelajaaGreatDoor.FrW
open Go.RowKit Go.Proofs.YtpgapjdejelajaaGreatDoor.Mem Go.Proofs.YtpgapjdejelajaaGreatDoor.Blk Go.Proofs.YtpgapjdejelajaaGreatDoor.Words Go.Proofs.YtpgapjdejelajaaGreatDoor.Zone Go.Proofs.YtpgapjdejelajaaGreatDoor.Res Go.Proofs.YtpgapjdejelajaaGreatDoor.FrZ Go.Proofs.YtpgapjdejelajaaGreatDoor.FrP

set_option maxRecDepth 100000 in
theorem geq_leq {x a b : Int} {p : Prop} [Decidable p] (h : p ↔ (a ≤ x ∧ x ≤ b)) : decide p = isIn x a b := by
  unfold isIn; simp only [h]

set_option maxRecDepth 100000 in
theorem isId (x : Int) (w : World) :
    Calls Tryz.prog 73 #[.int .i64 x] w fun e w' => e = .returned (.bool (isIn x 1 9)) ∧ w = w' := by
  by_cases h1 : x ≥ 1
  · by_cases h2 : x ≤ 9
    · have H : Hid (isIn x 1 9 = true) := isIn_yes ⟨h1, by omega⟩
      go_enter Tryz.func73, Tryz.ntmps73
      go_wp2
      go_ret
      exact ⟨by rw [H.out]; simp, rfl⟩
    · have H : Hid (isIn x 1 9 = false) := isIn_no (fun h => h2 (by omega))
      go_enter Tryz.func73, Tryz.ntmps73
      go_wp2
      go_ret
      exact ⟨by rw [H.out]; simp, rfl⟩
  · have H : Hid (isIn x 1 9 = false) := isIn_no (fun h => h1 h.1)
    go_enter Tryz.func73, Tryz.ntmps73
    go_wp2
    go_ret
    exact ⟨by rw [H.out]; simp, rfl⟩

set_option maxRecDepth 100000 in
theorem isTime (x : Int) (w : World) :
    Calls Tryz.prog 48 #[.int .i64 x] w fun e w' => e = .returned (.bool (isIn x 0 1000000)) ∧ w = w' := by
  by_cases h1 : x ≥ 0
  · by_cases h2 : x ≤ 1000000
    · have H : Hid (isIn x 0 1000000 = true) := isIn_yes ⟨h1, by omega⟩
      go_enter Tryz.func48, Tryz.ntmps48
      go_wp2
      go_ret
      exact ⟨by rw [H.out]; simp, rfl⟩
    · have H : Hid (isIn x 0 1000000 = false) := isIn_no (fun h => h2 (by omega))
      go_enter Tryz.func48, Tryz.ntmps48
      go_wp2
      go_ret
      exact ⟨by rw [H.out]; simp, rfl⟩
  · have H : Hid (isIn x 0 1000000 = false) := isIn_no (fun h => h1 h.1)
    go_enter Tryz.func48, Tryz.ntmps48
    go_wp2
    go_ret
    exact ⟨by rw [H.out]; simp, rfl⟩

set_option maxRecDepth 100000 in
theorem isEpoch (x : Int) (w : World) :
    Calls Tryz.prog 145 #[.int .i64 x] w fun e w' => e = .returned (.bool (isIn x 0 4294967295)) ∧ w = w' := by
  by_cases h1 : x ≥ 0
  · by_cases h2 : x ≤ 4294967295
    · have H : Hid (isIn x 0 4294967295 = true) := isIn_yes ⟨h1, by omega⟩
      go_enter Tryz.func145, Tryz.ntmps145
      go_wp2
      go_ret
      exact ⟨by rw [H.out]; simp, rfl⟩
    · have H : Hid (isIn x 0 4294967295 = false) := isIn_no (fun h => h2 (by omega))
      go_enter Tryz.func145, Tryz.ntmps145
      go_wp2
      go_ret
      exact ⟨by rw [H.out]; simp, rfl⟩
  · have H : Hid (isIn x 0 4294967295 = false) := isIn_no (fun h => h1 h.1)
    go_enter Tryz.func145, Tryz.ntmps145
    go_wp2
    go_ret
    exact ⟨by rw [H.out]; simp, rfl⟩

set_option maxRecDepth 100000 in
theorem isSeq (x : Int) (w : World) :
    Calls Tryz.prog 146 #[.int .i64 x] w fun e w' => e = .returned (.bool (isIn x 0 281474976710655)) ∧ w = w' := by
  by_cases h1 : x ≥ 0
  · by_cases h2 : x < 281474976710656
    · have H : Hid (isIn x 0 281474976710655 = true) := isIn_yes ⟨h1, by omega⟩
      go_enter Tryz.func146, Tryz.ntmps146
      go_wp2
      go_ret
      exact ⟨by rw [H.out]; simp, rfl⟩
    · have H : Hid (isIn x 0 281474976710655 = false) := isIn_no (fun h => h2 (by omega))
      go_enter Tryz.func146, Tryz.ntmps146
      go_wp2
      go_ret
      exact ⟨by rw [H.out]; simp, rfl⟩
  · have H : Hid (isIn x 0 281474976710655 = false) := isIn_no (fun h => h1 h.1)
    go_enter Tryz.func146, Tryz.ntmps146
    go_wp2
    go_ret
    exact ⟨by rw [H.out]; simp, rfl⟩

set_option maxRecDepth 100000 in
theorem isNonce (a : Option Addr) (n c : Nat) (w : World) :
    Calls Tryz.prog 59 #[.slice a n c] w fun e w' => e = .returned (.bool ((n : Int) == 12)) ∧ w = w' := by
  go_enter Tryz.func59, Tryz.ntmps59
  go_wp2
  go_ret
  exact ⟨by simp, rfl⟩

set_option maxRecDepth 100000 in
theorem isTag (a : Option Addr) (n c : Nat) (w : World) :
    Calls Tryz.prog 94 #[.slice a n c] w fun e w' => e = .returned (.bool ((n : Int) == 16)) ∧ w = w' := by
  go_enter Tryz.func94, Tryz.ntmps94
  go_wp2
  go_ret
  exact ⟨by simp, rfl⟩

set_option maxRecDepth 100000 in
set_option maxHeartbeats 1600000 in
theorem initRight (id : Int) (cn : Sl) (w : World) :
    Calls Tryz.prog 140 #[.agg #[.int .i64 id, .slice cn.a cn.n cn.c]] w fun e w' => e = .returned (.bool (isIn id 1 9 && ((cn.n : Int) == 12))) ∧ Below w.heap.size w w' := by
  obtain ⟨x0, hx0⟩ : ∃ x0, w.alloc (.cells #[.int .i64 id, .slice cn.a cn.n cn.c] 116) = x0 := ⟨_, rfl⟩
  have HW0 : Hid (w.alloc (.cells #[.int .i64 id, .slice cn.a cn.n cn.c] 116) = x0) := hx0
  have B0 : Hid (Below w.heap.size w x0) := by rw [← hx0]; exact (Below.refl _ _).alloc (Nat.le_refl _) _
  have K0 : Hid (Blk x0 w.heap.size 116 [.int .i64 id, .slice cn.a cn.n cn.c]) := by rw [← hx0]; exact Blk.new w _ _
  clear hx0
  go_enter Tryz.func140, Tryz.ntmps140
  go_wp2_with fail
  rw [HW0.out]
  generalize hga : w.heap.size = ga at K0 ⊢
  have c0 := K0.out.cell 0 rfl
  have c1 := K0.out.cell 1 rfl
  refine (isId id x0).mono ?_
  rintro e y ⟨rfl, rfl⟩
  cases h0 : (isIn id 1 9) with
  | false =>
    go_wp2
    go_ret
    exact ⟨by rw [h0]; simp, hga ▸ B0.out⟩
  | true =>
    go_wp2_with fail
    refine (isNonce cn.a cn.n cn.c x0).mono ?_
    rintro e y ⟨rfl, rfl⟩
    go_wp2
    go_ret
    exact ⟨by rw [h0]; simp, hga ▸ B0.out⟩

set_option maxRecDepth 100000 in
set_option maxHeartbeats 1600000 in
theorem cookRight (cn sn : Sl) (tick : Int) (cookie : Sl) (w : World) :
    Calls Tryz.prog 74 #[.agg #[.slice cn.a cn.n cn.c, .slice sn.a sn.n sn.c, .int .i64 tick, .slice cookie.a cookie.n cookie.c]] w fun e w' => e = .returned (.bool ((cn.n : Int) == 12 && ((sn.n : Int) == 12 && (isIn tick 0 1000000 && ((cookie.n : Int) == 16))))) ∧ Below w.heap.size w w' := by
  obtain ⟨x0, hx0⟩ : ∃ x0, w.alloc (.cells #[.slice cn.a cn.n cn.c, .slice sn.a sn.n sn.c, .int .i64 tick, .slice cookie.a cookie.n cookie.c] 65) = x0 := ⟨_, rfl⟩
  have HW0 : Hid (w.alloc (.cells #[.slice cn.a cn.n cn.c, .slice sn.a sn.n sn.c, .int .i64 tick, .slice cookie.a cookie.n cookie.c] 65) = x0) := hx0
  have B0 : Hid (Below w.heap.size w x0) := by rw [← hx0]; exact (Below.refl _ _).alloc (Nat.le_refl _) _
  have K0 : Hid (Blk x0 w.heap.size 65 [.slice cn.a cn.n cn.c, .slice sn.a sn.n sn.c, .int .i64 tick, .slice cookie.a cookie.n cookie.c]) := by rw [← hx0]; exact Blk.new w _ _
  clear hx0
  go_enter Tryz.func74, Tryz.ntmps74
  go_wp2_with fail
  rw [HW0.out]
  generalize hga : w.heap.size = ga at K0 ⊢
  have c0 := K0.out.cell 0 rfl
  have c1 := K0.out.cell 1 rfl
  have c2 := K0.out.cell 2 rfl
  have c3 := K0.out.cell 3 rfl
  refine (isNonce cn.a cn.n cn.c x0).mono ?_
  rintro e y ⟨rfl, rfl⟩
  cases h0 : ((cn.n : Int) == 12) with
  | false =>
    go_wp2
    go_ret
    exact ⟨by rw [h0]; simp, hga ▸ B0.out⟩
  | true =>
    go_wp2_with fail
    refine (isNonce sn.a sn.n sn.c x0).mono ?_
    rintro e y ⟨rfl, rfl⟩
    cases h1 : ((sn.n : Int) == 12) with
    | false =>
      go_wp2
      go_ret
      exact ⟨by rw [h0, h1]; simp, hga ▸ B0.out⟩
    | true =>
      go_wp2_with fail
      refine (isTime tick x0).mono ?_
      rintro e y ⟨rfl, rfl⟩
      cases h2 : (isIn tick 0 1000000) with
      | false =>
        go_wp2
        go_ret
        exact ⟨by rw [h0, h1, h2]; simp, hga ▸ B0.out⟩
      | true =>
        go_wp2_with fail
        refine (isTag cookie.a cookie.n cookie.c x0).mono ?_
        rintro e y ⟨rfl, rfl⟩
        go_wp2
        go_ret
        exact ⟨by rw [h0, h1, h2]; simp, hga ▸ B0.out⟩

set_option maxRecDepth 100000 in
set_option maxHeartbeats 1600000 in
theorem finRight (id : Int) (cn sn : Sl) (tick : Int) (cookie proof : Sl) (w : World) :
    Calls Tryz.prog 142 #[.agg #[.int .i64 id, .slice cn.a cn.n cn.c, .slice sn.a sn.n sn.c, .int .i64 tick, .slice cookie.a cookie.n cookie.c, .slice proof.a proof.n proof.c]] w fun e w' => e = .returned (.bool (isIn id 1 9 && (((cn.n : Int) == 12) && (((sn.n : Int) == 12) && (isIn tick 0 1000000 && ((cookie.n : Int) == 16))) && ((proof.n : Int) == 16)))) ∧ Below w.heap.size w w' := by
  obtain ⟨x0, hx0⟩ : ∃ x0, w.alloc (.cells #[.int .i64 id, .slice cn.a cn.n cn.c, .slice sn.a sn.n sn.c, .int .i64 tick, .slice cookie.a cookie.n cookie.c, .slice proof.a proof.n proof.c] 119) = x0 := ⟨_, rfl⟩
  have HW0 : Hid (w.alloc (.cells #[.int .i64 id, .slice cn.a cn.n cn.c, .slice sn.a sn.n sn.c, .int .i64 tick, .slice cookie.a cookie.n cookie.c, .slice proof.a proof.n proof.c] 119) = x0) := hx0
  have B0 : Hid (Below w.heap.size w x0) := by rw [← hx0]; exact (Below.refl _ _).alloc (Nat.le_refl _) _
  have K0 : Hid (Blk x0 w.heap.size 119 [.int .i64 id, .slice cn.a cn.n cn.c, .slice sn.a sn.n sn.c, .int .i64 tick, .slice cookie.a cookie.n cookie.c, .slice proof.a proof.n proof.c]) := by rw [← hx0]; exact Blk.new w _ _
  clear hx0
  go_enter Tryz.func142, Tryz.ntmps142
  go_wp2_with fail
  rw [HW0.out]
  generalize hga : w.heap.size = ga at K0 ⊢
  have c0 := K0.out.cell 0 rfl
  have c1 := K0.out.cell 1 rfl
  have c2 := K0.out.cell 2 rfl
  have c3 := K0.out.cell 3 rfl
  have c4 := K0.out.cell 4 rfl
  have c5 := K0.out.cell 5 rfl
  refine (isId id x0).mono ?_
  rintro e y ⟨rfl, rfl⟩
  cases h0 : (isIn id 1 9) with
  | false =>
    go_wp2
    go_ret
    exact ⟨by rw [h0]; simp, hga ▸ B0.out⟩
  | true =>
    go_wp2_with fail
    refine (cookRight cn sn tick cookie x0).mono ?_
    rintro e x1 ⟨rfl, b1⟩
    have B1 : Hid (Below w.heap.size w x1) := B0.out.trans (b1.mono B0.out.size)
    have K1 : Hid (Blk x1 ga 119 [.int .i64 id, .slice cn.a cn.n cn.c, .slice sn.a sn.n sn.c, .int .i64 tick, .slice cookie.a cookie.n cookie.c, .slice proof.a proof.n proof.c]) := K0.out.later b1
    clear b1 c0 c1 c2 c3 c4 c5
    have c0 := K1.out.cell 0 rfl
    have c1 := K1.out.cell 1 rfl
    have c2 := K1.out.cell 2 rfl
    have c3 := K1.out.cell 3 rfl
    have c4 := K1.out.cell 4 rfl
    have c5 := K1.out.cell 5 rfl
    cases h1 : (((cn.n : Int) == 12) && (((sn.n : Int) == 12) && (isIn tick 0 1000000 && ((cookie.n : Int) == 16)))) with
    | false =>
      go_wp2
      go_ret
      exact ⟨by rw [h0, h1]; simp, hga ▸ B1.out⟩
    | true =>
      go_wp2_with fail
      refine (isTag proof.a proof.n proof.c x1).mono ?_
      rintro e y ⟨rfl, rfl⟩
      go_wp2
      go_ret
      exact ⟨by rw [h0, h1]; simp, hga ▸ B1.out⟩

set_option maxRecDepth 100000 in
set_option maxHeartbeats 1600000 in
theorem partsRight (sn : Sl) (epoch seq : Int) (tag body : Sl) (w : World) :
    Calls Tryz.prog 144 #[.agg #[.slice sn.a sn.n sn.c, .int .i64 epoch, .int .i64 seq, .slice tag.a tag.n tag.c, .slice body.a body.n body.c]] w fun e w' => e = .returned (.bool ((sn.n : Int) == 12 && (isIn epoch 0 4294967295 && (isIn seq 0 281474976710655 && ((tag.n : Int) == 16))))) ∧ Below w.heap.size w w' := by
  obtain ⟨x0, hx0⟩ : ∃ x0, w.alloc (.cells #[.slice sn.a sn.n sn.c, .int .i64 epoch, .int .i64 seq, .slice tag.a tag.n tag.c, .slice body.a body.n body.c] 121) = x0 := ⟨_, rfl⟩
  have HW0 : Hid (w.alloc (.cells #[.slice sn.a sn.n sn.c, .int .i64 epoch, .int .i64 seq, .slice tag.a tag.n tag.c, .slice body.a body.n body.c] 121) = x0) := hx0
  have B0 : Hid (Below w.heap.size w x0) := by rw [← hx0]; exact (Below.refl _ _).alloc (Nat.le_refl _) _
  have K0 : Hid (Blk x0 w.heap.size 121 [.slice sn.a sn.n sn.c, .int .i64 epoch, .int .i64 seq, .slice tag.a tag.n tag.c, .slice body.a body.n body.c]) := by rw [← hx0]; exact Blk.new w _ _
  clear hx0
  go_enter Tryz.func144, Tryz.ntmps144
  go_wp2_with fail
  rw [HW0.out]
  generalize hga : w.heap.size = ga at K0 ⊢
  have c0 := K0.out.cell 0 rfl
  have c1 := K0.out.cell 1 rfl
  have c2 := K0.out.cell 2 rfl
  have c3 := K0.out.cell 3 rfl
  have c4 := K0.out.cell 4 rfl
  refine (isNonce sn.a sn.n sn.c x0).mono ?_
  rintro e y ⟨rfl, rfl⟩
  cases h0 : ((sn.n : Int) == 12) with
  | false =>
    go_wp2
    go_ret
    exact ⟨by rw [h0]; simp, hga ▸ B0.out⟩
  | true =>
    go_wp2_with fail
    refine (isEpoch epoch x0).mono ?_
    rintro e y ⟨rfl, rfl⟩
    cases h1 : (isIn epoch 0 4294967295) with
    | false =>
      go_wp2
      go_ret
      exact ⟨by rw [h0, h1]; simp, hga ▸ B0.out⟩
    | true =>
      go_wp2_with fail
      refine (isSeq seq x0).mono ?_
      rintro e y ⟨rfl, rfl⟩
      cases h2 : (isIn seq 0 281474976710655) with
      | false =>
        go_wp2
        go_ret
        exact ⟨by rw [h0, h1, h2]; simp, hga ▸ B0.out⟩
      | true =>
        go_wp2_with fail
        refine (isTag tag.a tag.n tag.c x0).mono ?_
        rintro e y ⟨rfl, rfl⟩
        go_wp2
        go_ret
        exact ⟨by rw [h0, h1, h2]; simp, hga ▸ B0.out⟩

set_option maxRecDepth 100000 in
set_option maxHeartbeats 1600000 in
theorem dataRight (sn : Sl) (epoch seq : Int) (tag body : Sl) (w : World) :
    Calls Tryz.prog 148 #[.agg #[.slice sn.a sn.n sn.c, .int .i64 epoch, .int .i64 seq, .slice tag.a tag.n tag.c, .slice body.a body.n body.c]] w fun e w' => e = .returned (.bool (((sn.n : Int) == 12) && (isIn epoch 0 4294967295 && (isIn seq 0 281474976710655 && ((tag.n : Int) == 16))) && (decide ((body.n : Int) ≤ 40)))) ∧ Below w.heap.size w w' := by
  obtain ⟨x0, hx0⟩ : ∃ x0, w.alloc (.cells #[.slice sn.a sn.n sn.c, .int .i64 epoch, .int .i64 seq, .slice tag.a tag.n tag.c, .slice body.a body.n body.c] 124) = x0 := ⟨_, rfl⟩
  have HW0 : Hid (w.alloc (.cells #[.slice sn.a sn.n sn.c, .int .i64 epoch, .int .i64 seq, .slice tag.a tag.n tag.c, .slice body.a body.n body.c] 124) = x0) := hx0
  have B0 : Hid (Below w.heap.size w x0) := by rw [← hx0]; exact (Below.refl _ _).alloc (Nat.le_refl _) _
  have K0 : Hid (Blk x0 w.heap.size 124 [.slice sn.a sn.n sn.c, .int .i64 epoch, .int .i64 seq, .slice tag.a tag.n tag.c, .slice body.a body.n body.c]) := by rw [← hx0]; exact Blk.new w _ _
  clear hx0
  go_enter Tryz.func148, Tryz.ntmps148
  go_wp2_with fail
  rw [HW0.out]
  generalize hga : w.heap.size = ga at K0 ⊢
  have c0 := K0.out.cell 0 rfl
  have c1 := K0.out.cell 1 rfl
  have c2 := K0.out.cell 2 rfl
  have c3 := K0.out.cell 3 rfl
  have c4 := K0.out.cell 4 rfl
  refine (partsRight sn epoch seq tag body x0).mono ?_
  rintro e x1 ⟨rfl, b1⟩
  have B1 : Hid (Below w.heap.size w x1) := B0.out.trans (b1.mono B0.out.size)
  have K1 : Hid (Blk x1 ga 124 [.slice sn.a sn.n sn.c, .int .i64 epoch, .int .i64 seq, .slice tag.a tag.n tag.c, .slice body.a body.n body.c]) := K0.out.later b1
  clear b1 c0 c1 c2 c3 c4
  have c0 := K1.out.cell 0 rfl
  have c1 := K1.out.cell 1 rfl
  have c2 := K1.out.cell 2 rfl
  have c3 := K1.out.cell 3 rfl
  have c4 := K1.out.cell 4 rfl
  cases h0 : (((sn.n : Int) == 12) && (isIn epoch 0 4294967295 && (isIn seq 0 281474976710655 && ((tag.n : Int) == 16)))) with
  | false =>
    go_wp2
    go_ret
    exact ⟨by rw [h0]; simp, hga ▸ B1.out⟩
  | true =>
    go_wp2
    go_ret
    exact ⟨by rw [h0]; simp, hga ▸ B1.out⟩

set_option maxRecDepth 100000 in
set_option maxHeartbeats 1600000 in
theorem chalRight (sn : Sl) (epoch seq : Int) (tag body : Sl) (w : World) :
    Calls Tryz.prog 150 #[.agg #[.slice sn.a sn.n sn.c, .int .i64 epoch, .int .i64 seq, .slice tag.a tag.n tag.c, .slice body.a body.n body.c]] w fun e w' => e = .returned (.bool (((sn.n : Int) == 12) && (isIn epoch 0 4294967295 && (isIn seq 0 281474976710655 && ((tag.n : Int) == 16))) && ((body.n : Int) == 12))) ∧ Below w.heap.size w w' := by
  obtain ⟨x0, hx0⟩ : ∃ x0, w.alloc (.cells #[.slice sn.a sn.n sn.c, .int .i64 epoch, .int .i64 seq, .slice tag.a tag.n tag.c, .slice body.a body.n body.c] 125) = x0 := ⟨_, rfl⟩
  have HW0 : Hid (w.alloc (.cells #[.slice sn.a sn.n sn.c, .int .i64 epoch, .int .i64 seq, .slice tag.a tag.n tag.c, .slice body.a body.n body.c] 125) = x0) := hx0
  have B0 : Hid (Below w.heap.size w x0) := by rw [← hx0]; exact (Below.refl _ _).alloc (Nat.le_refl _) _
  have K0 : Hid (Blk x0 w.heap.size 125 [.slice sn.a sn.n sn.c, .int .i64 epoch, .int .i64 seq, .slice tag.a tag.n tag.c, .slice body.a body.n body.c]) := by rw [← hx0]; exact Blk.new w _ _
  clear hx0
  go_enter Tryz.func150, Tryz.ntmps150
  go_wp2_with fail
  rw [HW0.out]
  generalize hga : w.heap.size = ga at K0 ⊢
  have c0 := K0.out.cell 0 rfl
  have c1 := K0.out.cell 1 rfl
  have c2 := K0.out.cell 2 rfl
  have c3 := K0.out.cell 3 rfl
  have c4 := K0.out.cell 4 rfl
  refine (partsRight sn epoch seq tag body x0).mono ?_
  rintro e x1 ⟨rfl, b1⟩
  have B1 : Hid (Below w.heap.size w x1) := B0.out.trans (b1.mono B0.out.size)
  have K1 : Hid (Blk x1 ga 125 [.slice sn.a sn.n sn.c, .int .i64 epoch, .int .i64 seq, .slice tag.a tag.n tag.c, .slice body.a body.n body.c]) := K0.out.later b1
  clear b1 c0 c1 c2 c3 c4
  have c0 := K1.out.cell 0 rfl
  have c1 := K1.out.cell 1 rfl
  have c2 := K1.out.cell 2 rfl
  have c3 := K1.out.cell 3 rfl
  have c4 := K1.out.cell 4 rfl
  cases h0 : (((sn.n : Int) == 12) && (isIn epoch 0 4294967295 && (isIn seq 0 281474976710655 && ((tag.n : Int) == 16)))) with
  | false =>
    go_wp2
    go_ret
    exact ⟨by rw [h0]; simp, hga ▸ B1.out⟩
  | true =>
    go_wp2_with fail
    refine (isNonce body.a body.n body.c x1).mono ?_
    rintro e y ⟨rfl, rfl⟩
    go_wp2
    go_ret
    exact ⟨by rw [h0]; simp, hga ▸ B1.out⟩

set_option maxRecDepth 100000 in
set_option maxHeartbeats 1600000 in
theorem respRight (sn : Sl) (epoch seq : Int) (tag body : Sl) (w : World) :
    Calls Tryz.prog 152 #[.agg #[.slice sn.a sn.n sn.c, .int .i64 epoch, .int .i64 seq, .slice tag.a tag.n tag.c, .slice body.a body.n body.c]] w fun e w' => e = .returned (.bool (((sn.n : Int) == 12) && (isIn epoch 0 4294967295 && (isIn seq 0 281474976710655 && ((tag.n : Int) == 16))) && ((body.n : Int) == 12))) ∧ Below w.heap.size w w' := by
  obtain ⟨x0, hx0⟩ : ∃ x0, w.alloc (.cells #[.slice sn.a sn.n sn.c, .int .i64 epoch, .int .i64 seq, .slice tag.a tag.n tag.c, .slice body.a body.n body.c] 126) = x0 := ⟨_, rfl⟩
  have HW0 : Hid (w.alloc (.cells #[.slice sn.a sn.n sn.c, .int .i64 epoch, .int .i64 seq, .slice tag.a tag.n tag.c, .slice body.a body.n body.c] 126) = x0) := hx0
  have B0 : Hid (Below w.heap.size w x0) := by rw [← hx0]; exact (Below.refl _ _).alloc (Nat.le_refl _) _
  have K0 : Hid (Blk x0 w.heap.size 126 [.slice sn.a sn.n sn.c, .int .i64 epoch, .int .i64 seq, .slice tag.a tag.n tag.c, .slice body.a body.n body.c]) := by rw [← hx0]; exact Blk.new w _ _
  clear hx0
  go_enter Tryz.func152, Tryz.ntmps152
  go_wp2_with fail
  rw [HW0.out]
  generalize hga : w.heap.size = ga at K0 ⊢
  have c0 := K0.out.cell 0 rfl
  have c1 := K0.out.cell 1 rfl
  have c2 := K0.out.cell 2 rfl
  have c3 := K0.out.cell 3 rfl
  have c4 := K0.out.cell 4 rfl
  refine (partsRight sn epoch seq tag body x0).mono ?_
  rintro e x1 ⟨rfl, b1⟩
  have B1 : Hid (Below w.heap.size w x1) := B0.out.trans (b1.mono B0.out.size)
  have K1 : Hid (Blk x1 ga 126 [.slice sn.a sn.n sn.c, .int .i64 epoch, .int .i64 seq, .slice tag.a tag.n tag.c, .slice body.a body.n body.c]) := K0.out.later b1
  clear b1 c0 c1 c2 c3 c4
  have c0 := K1.out.cell 0 rfl
  have c1 := K1.out.cell 1 rfl
  have c2 := K1.out.cell 2 rfl
  have c3 := K1.out.cell 3 rfl
  have c4 := K1.out.cell 4 rfl
  cases h0 : (((sn.n : Int) == 12) && (isIn epoch 0 4294967295 && (isIn seq 0 281474976710655 && ((tag.n : Int) == 16)))) with
  | false =>
    go_wp2
    go_ret
    exact ⟨by rw [h0]; simp, hga ▸ B1.out⟩
  | true =>
    go_wp2_with fail
    refine (isNonce body.a body.n body.c x1).mono ?_
    rintro e y ⟨rfl, rfl⟩
    go_wp2
    go_ret
    exact ⟨by rw [h0]; simp, hga ▸ B1.out⟩

set_option maxRecDepth 100000 in
set_option maxHeartbeats 1600000 in
theorem rekRight (sn : Sl) (epoch seq : Int) (tag body : Sl) (w : World) :
    Calls Tryz.prog 154 #[.agg #[.slice sn.a sn.n sn.c, .int .i64 epoch, .int .i64 seq, .slice tag.a tag.n tag.c, .slice body.a body.n body.c]] w fun e w' => e = .returned (.bool (((sn.n : Int) == 12) && (isIn epoch 0 4294967295 && (isIn seq 0 281474976710655 && ((tag.n : Int) == 16))) && ((body.n : Int) == 4))) ∧ Below w.heap.size w w' := by
  obtain ⟨x0, hx0⟩ : ∃ x0, w.alloc (.cells #[.slice sn.a sn.n sn.c, .int .i64 epoch, .int .i64 seq, .slice tag.a tag.n tag.c, .slice body.a body.n body.c] 127) = x0 := ⟨_, rfl⟩
  have HW0 : Hid (w.alloc (.cells #[.slice sn.a sn.n sn.c, .int .i64 epoch, .int .i64 seq, .slice tag.a tag.n tag.c, .slice body.a body.n body.c] 127) = x0) := hx0
  have B0 : Hid (Below w.heap.size w x0) := by rw [← hx0]; exact (Below.refl _ _).alloc (Nat.le_refl _) _
  have K0 : Hid (Blk x0 w.heap.size 127 [.slice sn.a sn.n sn.c, .int .i64 epoch, .int .i64 seq, .slice tag.a tag.n tag.c, .slice body.a body.n body.c]) := by rw [← hx0]; exact Blk.new w _ _
  clear hx0
  go_enter Tryz.func154, Tryz.ntmps154
  go_wp2_with fail
  rw [HW0.out]
  generalize hga : w.heap.size = ga at K0 ⊢
  have c0 := K0.out.cell 0 rfl
  have c1 := K0.out.cell 1 rfl
  have c2 := K0.out.cell 2 rfl
  have c3 := K0.out.cell 3 rfl
  have c4 := K0.out.cell 4 rfl
  refine (partsRight sn epoch seq tag body x0).mono ?_
  rintro e x1 ⟨rfl, b1⟩
  have B1 : Hid (Below w.heap.size w x1) := B0.out.trans (b1.mono B0.out.size)
  have K1 : Hid (Blk x1 ga 127 [.slice sn.a sn.n sn.c, .int .i64 epoch, .int .i64 seq, .slice tag.a tag.n tag.c, .slice body.a body.n body.c]) := K0.out.later b1
  clear b1 c0 c1 c2 c3 c4
  have c0 := K1.out.cell 0 rfl
  have c1 := K1.out.cell 1 rfl
  have c2 := K1.out.cell 2 rfl
  have c3 := K1.out.cell 3 rfl
  have c4 := K1.out.cell 4 rfl
  cases h0 : (((sn.n : Int) == 12) && (isIn epoch 0 4294967295 && (isIn seq 0 281474976710655 && ((tag.n : Int) == 16)))) with
  | false =>
    go_wp2
    go_ret
    exact ⟨by rw [h0]; simp, hga ▸ B1.out⟩
  | true =>
    go_wp2
    go_ret
    exact ⟨by rw [h0]; simp, hga ▸ B1.out⟩

set_option maxRecDepth 100000 in
set_option maxHeartbeats 1600000 in
theorem ackRight (sn : Sl) (epoch seq : Int) (tag body : Sl) (w : World) :
    Calls Tryz.prog 156 #[.agg #[.slice sn.a sn.n sn.c, .int .i64 epoch, .int .i64 seq, .slice tag.a tag.n tag.c, .slice body.a body.n body.c]] w fun e w' => e = .returned (.bool (((sn.n : Int) == 12) && (isIn epoch 0 4294967295 && (isIn seq 0 281474976710655 && ((tag.n : Int) == 16))) && ((body.n : Int) == 4))) ∧ Below w.heap.size w w' := by
  obtain ⟨x0, hx0⟩ : ∃ x0, w.alloc (.cells #[.slice sn.a sn.n sn.c, .int .i64 epoch, .int .i64 seq, .slice tag.a tag.n tag.c, .slice body.a body.n body.c] 128) = x0 := ⟨_, rfl⟩
  have HW0 : Hid (w.alloc (.cells #[.slice sn.a sn.n sn.c, .int .i64 epoch, .int .i64 seq, .slice tag.a tag.n tag.c, .slice body.a body.n body.c] 128) = x0) := hx0
  have B0 : Hid (Below w.heap.size w x0) := by rw [← hx0]; exact (Below.refl _ _).alloc (Nat.le_refl _) _
  have K0 : Hid (Blk x0 w.heap.size 128 [.slice sn.a sn.n sn.c, .int .i64 epoch, .int .i64 seq, .slice tag.a tag.n tag.c, .slice body.a body.n body.c]) := by rw [← hx0]; exact Blk.new w _ _
  clear hx0
  go_enter Tryz.func156, Tryz.ntmps156
  go_wp2_with fail
  rw [HW0.out]
  generalize hga : w.heap.size = ga at K0 ⊢
  have c0 := K0.out.cell 0 rfl
  have c1 := K0.out.cell 1 rfl
  have c2 := K0.out.cell 2 rfl
  have c3 := K0.out.cell 3 rfl
  have c4 := K0.out.cell 4 rfl
  refine (partsRight sn epoch seq tag body x0).mono ?_
  rintro e x1 ⟨rfl, b1⟩
  have B1 : Hid (Below w.heap.size w x1) := B0.out.trans (b1.mono B0.out.size)
  have K1 : Hid (Blk x1 ga 128 [.slice sn.a sn.n sn.c, .int .i64 epoch, .int .i64 seq, .slice tag.a tag.n tag.c, .slice body.a body.n body.c]) := K0.out.later b1
  clear b1 c0 c1 c2 c3 c4
  have c0 := K1.out.cell 0 rfl
  have c1 := K1.out.cell 1 rfl
  have c2 := K1.out.cell 2 rfl
  have c3 := K1.out.cell 3 rfl
  have c4 := K1.out.cell 4 rfl
  cases h0 : (((sn.n : Int) == 12) && (isIn epoch 0 4294967295 && (isIn seq 0 281474976710655 && ((tag.n : Int) == 16)))) with
  | false =>
    go_wp2
    go_ret
    exact ⟨by rw [h0]; simp, hga ▸ B1.out⟩
  | true =>
    go_wp2
    go_ret
    exact ⟨by rw [h0]; simp, hga ▸ B1.out⟩

end Go.Proofs.YtpgapjdejelajaaGreatDoor.FrW
