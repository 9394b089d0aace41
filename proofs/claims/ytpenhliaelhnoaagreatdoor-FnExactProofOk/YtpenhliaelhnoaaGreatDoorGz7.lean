/-
  Frames as plain data: which are right, their bytes, and back.
  A frame's bytes as plain data.
  Numbers and their bytes as plain facts.
  Right frames with the same bytes are the same; what it is to be read out of bytes.
  Finishes as plain functions: whether a proof is right, and what finishes a cookie.
  Slices of ints as values whose memory lies in a zone, and what the laws' helpers over them answer.
  Slices that came in, as slices that read; answers in new memory, as slices that own theirs.
  impl's laidTogether: what lists come to that are laid one behind the other in new memory.
-/
import Derived.Test.YtpenhliaelhnoaaGreatDoorFrZ
import Derived.Test.YtpenhliaelhnoaaGreatDoorGz3
import Derived.Test.YtpenhliaelhnoaaGreatDoorGz1
import Derived.Test.YtpenhliaelhnoaaGreatDoorGz5
import Derived.Test.YtpenhliaelhnoaaGreatDoorGz2
import Derived.Test.YtpenhliaelhnoaaGreatDoorGz6
import Derived.Laws.CopyOwn
set_option linter.unusedVariables false
namespace Go.Proofs.YtpenhliaelhnoaaGreatDoor.FrP
open Go.RowKit Go.Proofs.YtpenhliaelhnoaaGreatDoor.Mem Go.Proofs.YtpenhliaelhnoaaGreatDoor.App Go.Proofs.YtpenhliaelhnoaaGreatDoor.Words Go.Proofs.YtpenhliaelhnoaaGreatDoor.FrZ

def bodyOk (k : Int) (n : Int) : Bool := if k == 4 then decide (n ≤ 40) else if k == 5 || k == 6 then n == 12 else n == 4
def okS (kind id : Int) (cn sn : Nat) (tick : Int) (cookie proof : Nat) (epoch seq : Int) (body tag : Nat) : Bool :=
  if isIn kind 4 8 = true then (id == 0) && (((cn : Int) == 0) && (((sn : Int) == 12) && ((tick == 0) && (((cookie : Int) == 0) && (((proof : Int) == 0) && (isIn epoch 0 4294967295 && (isIn seq 0 281474976710655 && (bodyOk kind body && ((tag : Int) == 16)))))))))
  else if ((epoch == 0) && ((seq == 0) && (((body : Int) == 0) && (((tag : Int) == 0) && ((cn : Int) == 12))))) = false then false
  else if (kind == 1) = true then isIn id 1 9 && (((sn : Int) == 0) && ((tick == 0) && (((cookie : Int) == 0) && ((proof : Int) == 0))))
  else if (kind == 2) = true then (id == 0) && (((sn : Int) == 12) && (isIn tick 0 1000000 && (((cookie : Int) == 16) && ((proof : Int) == 0))))
  else if (kind == 3) = true then isIn id 1 9 && (((sn : Int) == 12) && (isIn tick 0 1000000 && (((cookie : Int) == 16) && ((proof : Int) == 16))))
  else false
def frameOk (D : FrD) : Bool := okS D.kind D.id D.cn.length D.sn.length D.tick D.cookie.length D.proof.length D.epoch D.seq D.body.length D.tag.length
end Go.Proofs.YtpenhliaelhnoaaGreatDoor.FrP

namespace Go.Proofs.YtpenhliaelhnoaaGreatDoor.FrB
open Go.RowKit Go.Proofs.YtpenhliaelhnoaaGreatDoor.Mem Go.Proofs.YtpenhliaelhnoaaGreatDoor.App Go.Proofs.YtpenhliaelhnoaaGreatDoor.Words Go.Proofs.YtpenhliaelhnoaaGreatDoor.FrZ Go.Proofs.YtpenhliaelhnoaaGreatDoor.FrP

def putF (D : FrD) : List Int :=
  if frameOk D = true then
    if (D.kind == 1) = true then [D.kind] ++ [D.id] ++ D.cn ++ List.replicate 20 0
    else if (D.kind == 2) = true then [D.kind] ++ D.cn ++ D.sn ++ num D.tick 4 ++ D.cookie
    else if (D.kind == 3) = true then [D.kind] ++ [D.id] ++ D.cn ++ D.sn ++ num D.tick 4 ++ D.cookie ++ D.proof
    else [D.kind] ++ D.sn ++ num D.epoch 4 ++ num D.seq 6 ++ D.tag ++ D.body
  else []
set_option maxRecDepth 100000 in
theorem putF_no (D : FrD) (h : frameOk D = false) : putF D = [] := by unfold putF; rw [if_neg (by rw [h]; simp)]
set_option maxRecDepth 100000 in
theorem putF_1 (D : FrD) (h : frameOk D = true) (k : (D.kind == 1) = true) : putF D = [D.kind] ++ [D.id] ++ D.cn ++ List.replicate 20 0 := by unfold putF; rw [if_pos h, if_pos k]
set_option maxRecDepth 100000 in
theorem putF_2 (D : FrD) (h : frameOk D = true) (k1 : (D.kind == 1) = false) (k : (D.kind == 2) = true) : putF D = [D.kind] ++ D.cn ++ D.sn ++ num D.tick 4 ++ D.cookie := by
  unfold putF; rw [if_pos h, if_neg (by rw [k1]; simp), if_pos k]
set_option maxRecDepth 100000 in
theorem putF_3 (D : FrD) (h : frameOk D = true) (k1 : (D.kind == 1) = false) (k2 : (D.kind == 2) = false) (k : (D.kind == 3) = true) : putF D = [D.kind] ++ [D.id] ++ D.cn ++ D.sn ++ num D.tick 4 ++ D.cookie ++ D.proof := by
  unfold putF; rw [if_pos h, if_neg (by rw [k1]; simp), if_neg (by rw [k2]; simp), if_pos k]
set_option maxRecDepth 100000 in
theorem putF_s (D : FrD) (h : frameOk D = true) (k1 : (D.kind == 1) = false) (k2 : (D.kind == 2) = false) (k3 : (D.kind == 3) = false) : putF D = [D.kind] ++ D.sn ++ num D.epoch 4 ++ num D.seq 6 ++ D.tag ++ D.body := by
  unfold putF; rw [if_pos h, if_neg (by rw [k1]; simp), if_neg (by rw [k2]; simp), if_neg (by rw [k3]; simp)]
set_option maxRecDepth 100000 in
/-- What a right frame is, kind by kind. -/
theorem ok_iff (D : FrD) : frameOk D = true ↔
    (4 ≤ D.kind ∧ D.kind ≤ 8 ∧ D.id = 0 ∧ D.cn.length = 0 ∧ D.sn.length = 12 ∧ D.tick = 0 ∧ D.cookie.length = 0 ∧ D.proof.length = 0 ∧ 0 ≤ D.epoch ∧ D.epoch ≤ 4294967295 ∧ 0 ≤ D.seq ∧ D.seq ≤ 281474976710655 ∧ bodyOk D.kind D.body.length = true ∧ D.tag.length = 16) ∨
    (D.epoch = 0 ∧ D.seq = 0 ∧ D.body.length = 0 ∧ D.tag.length = 0 ∧ D.cn.length = 12 ∧
      ((D.kind = 1 ∧ 1 ≤ D.id ∧ D.id ≤ 9 ∧ D.sn.length = 0 ∧ D.tick = 0 ∧ D.cookie.length = 0 ∧ D.proof.length = 0) ∨
       (D.kind = 2 ∧ D.id = 0 ∧ D.sn.length = 12 ∧ 0 ≤ D.tick ∧ D.tick ≤ 1000000 ∧ D.cookie.length = 16 ∧ D.proof.length = 0) ∨
       (D.kind = 3 ∧ 1 ≤ D.id ∧ D.id ≤ 9 ∧ D.sn.length = 12 ∧ 0 ≤ D.tick ∧ D.tick ≤ 1000000 ∧ D.cookie.length = 16 ∧ D.proof.length = 16))) := by
  unfold frameOk okS isIn
  by_cases hs : 4 ≤ D.kind ∧ D.kind ≤ 8
  · rw [if_pos (by simpa using hs)]
    simp only [Bool.and_eq_true, beq_iff_eq, decide_eq_true_eq]
    constructor
    · rintro ⟨h1, h2, h3, h4, h5, h6, h7, h8, h9, h10⟩
      exact .inl ⟨hs.1, hs.2, h1, by omega, by omega, h4, by omega, by omega, h7.1, h7.2, h8.1, h8.2, h9, by omega⟩
    · rintro (⟨_, _, h1, h2, h3, h4, h5, h6, h7, h7', h8, h8', h9, h10⟩ | ⟨_, _, _, _, _, ⟨h, _⟩ | ⟨h, _⟩ | ⟨h, _⟩⟩)
      · exact ⟨h1, by omega, by omega, h4, by omega, by omega, ⟨h7, h7'⟩, ⟨h8, h8'⟩, h9, by omega⟩
      · omega
      · omega
      · omega
  · rw [if_neg (by simpa using hs)]
    by_cases he : D.epoch = 0 ∧ D.seq = 0 ∧ D.body.length = 0 ∧ D.tag.length = 0 ∧ D.cn.length = 12
    · obtain ⟨e1, e2, e3, e4, e5⟩ := he
      rw [if_neg (by rw [e1, e2, e3, e4, e5]; simp)]
      by_cases k1 : D.kind = 1
      · rw [k1]; simp only [beq_self_eq_true, if_true, Bool.and_eq_true, beq_iff_eq, decide_eq_true_eq]; constructor
        · rintro ⟨⟨a, a'⟩, b, c, d, e⟩; exact .inr ⟨e1, e2, e3, e4, e5, .inl ⟨trivial, a, a', by omega, c, by omega, by omega⟩⟩
        · rintro (h | ⟨_, _, _, _, _, ⟨_, a, a', b, c, d, e⟩ | ⟨h, _⟩ | ⟨h, _⟩⟩)
          · omega
          · exact ⟨⟨a, a'⟩, by omega, c, by omega, by omega⟩
          · omega
          · omega
      · rw [if_neg (by simpa using k1)]
        by_cases k2 : D.kind = 2
        · rw [k2]; simp only [beq_self_eq_true, if_true, Bool.and_eq_true, beq_iff_eq, decide_eq_true_eq]; constructor
          · rintro ⟨a, b, ⟨c, c'⟩, d, e⟩; exact .inr ⟨e1, e2, e3, e4, e5, .inr (.inl ⟨trivial, a, by omega, c, c', by omega, by omega⟩)⟩
          · rintro (h | ⟨_, _, _, _, _, ⟨h, _⟩ | ⟨_, a, b, c, c', d, e⟩ | ⟨h, _⟩⟩)
            · omega
            · omega
            · exact ⟨a, by omega, ⟨c, c'⟩, by omega, by omega⟩
            · omega
        · rw [if_neg (by simpa using k2)]
          by_cases k3 : D.kind = 3
          · rw [k3]; simp only [beq_self_eq_true, if_true, Bool.and_eq_true, beq_iff_eq, decide_eq_true_eq]; constructor
            · rintro ⟨⟨a, a'⟩, b, ⟨c, c'⟩, d, e⟩; exact .inr ⟨e1, e2, e3, e4, e5, .inr (.inr ⟨trivial, a, a', by omega, c, c', by omega, by omega⟩)⟩
            · rintro (h | ⟨_, _, _, _, _, ⟨h, _⟩ | ⟨h, _⟩ | ⟨_, a, a', b, c, c', d, e⟩⟩)
              · omega
              · omega
              · omega
              · exact ⟨⟨a, a'⟩, by omega, ⟨c, c'⟩, by omega, by omega⟩
          · rw [if_neg (by simpa using k3)]
            constructor
            · intro h; cases h
            · rintro (h | ⟨_, _, _, _, _, ⟨h, _⟩ | ⟨h, _⟩ | ⟨h, _⟩⟩)
              · omega
              · omega
              · omega
              · omega
    · rw [if_pos (by
        cases hc : ((D.epoch == 0) && ((D.seq == 0) && (((D.body.length : Int) == 0) && (((D.tag.length : Int) == 0) && ((D.cn.length : Int) == 12))))) with
        | false => rfl
        | true =>
          simp only [Bool.and_eq_true, beq_iff_eq] at hc
          exact absurd ⟨hc.1, hc.2.1, by omega, by omega, by omega⟩ he)]
      constructor
      · intro h; cases h
      · rintro (h | ⟨a, b, c, d, e, _⟩)
        · omega
        · exact absurd ⟨a, b, c, d, e⟩ he
set_option maxRecDepth 100000 in
theorem ok_kind (D : FrD) (h : frameOk D = true) : 1 ≤ D.kind ∧ D.kind ≤ 8 := by
  rcases (ok_iff D).1 h with h | ⟨_, _, _, _, _, h | h | h⟩ <;> omega
set_option maxRecDepth 100000 in
theorem ok_id1 (D : FrD) (h : frameOk D = true) (k : (D.kind == 1) = true) : 1 ≤ D.id ∧ D.id ≤ 9 := by
  simp only [beq_iff_eq] at k
  rcases (ok_iff D).1 h with h | ⟨_, _, _, _, _, h | h | h⟩ <;> omega
set_option maxRecDepth 100000 in
theorem ok_id3 (D : FrD) (h : frameOk D = true) (k : (D.kind == 3) = true) : 1 ≤ D.id ∧ D.id ≤ 9 := by
  simp only [beq_iff_eq] at k
  rcases (ok_iff D).1 h with h | ⟨_, _, _, _, _, h | h | h⟩ <;> omega
set_option maxRecDepth 100000 in
theorem ok_lens (D : FrD) (h : frameOk D = true) : D.cn.length ≤ 12 ∧ D.sn.length ≤ 12 ∧ D.cookie.length ≤ 16 ∧ D.proof.length ≤ 16 ∧ D.body.length ≤ 40 ∧ D.tag.length ≤ 16 := by
  rcases (ok_iff D).1 h with ⟨_, _, _, _, _, _, _, _, _, _, _, _, hb, _⟩ | ⟨_, _, _, _, _, h | h | h⟩
  · have : D.body.length ≤ 40 := by
      unfold bodyOk at hb
      split at hb
      · simp at hb; omega
      · split at hb <;> (simp at hb; omega)
    omega
  · omega
  · omega
  · omega
end Go.Proofs.YtpenhliaelhnoaaGreatDoor.FrB

namespace Go.Proofs.YtpenhliaelhnoaaGreatDoor.NumV
open Go.RowKit Go.Proofs.YtpenhliaelhnoaaGreatDoor.Mem Go.Proofs.YtpenhliaelhnoaaGreatDoor.App Go.Proofs.YtpenhliaelhnoaaGreatDoor.Get

set_option maxRecDepth 100000 in
theorem fold_from (r : List Int) : ∀ a : Int, r.foldl (fun n z => n * 256 + z) a = a * 256 ^ r.length + val r := by
  induction r with
  | nil => intro a; simp [val]
  | cons z r ih =>
    intro a
    have hv : val (z :: r) = z * 256 ^ r.length + val r := by
      have := ih (0 * 256 + z)
      rw [show (0 : Int) * 256 + z = z by omega] at this
      show (z :: r).foldl (fun n z => n * 256 + z) 0 = _
      rw [List.foldl_cons, show (0 : Int) * 256 + z = z by omega, this]
    rw [List.foldl_cons, ih, hv, List.length_cons, Int.pow_succ, Int.add_mul, Int.mul_assoc, Int.mul_comm 256 (256 ^ r.length), Int.add_assoc]
set_option maxRecDepth 100000 in
theorem val_cons (z : Int) (r : List Int) : val (z :: r) = z * 256 ^ r.length + val r := by
  have := fold_from r (0 * 256 + z)
  rw [show (0 : Int) * 256 + z = z by omega] at this
  show (z :: r).foldl (fun n z => n * 256 + z) 0 = _
  rw [List.foldl_cons, show (0 : Int) * 256 + z = z by omega, this]
set_option maxRecDepth 100000 in
theorem pow8 (j : Nat) : (2 : Int) ^ (8 * j) = 256 ^ j := by
  rw [Int.pow_mul]
  rfl
set_option maxRecDepth 100000 in
theorem val_num (n : Int) (k : Nat) : val (num n k) = n % 256 ^ k := by
  induction k with
  | zero => simp [num, val]
  | succ j ih =>
    unfold num
    rw [val_cons, num_length, ih, pow8, Int.pow_succ]
    have hp : (0 : Int) < 256 ^ j := Int.pow_pos (by decide)
    generalize (256 : Int) ^ j = P at *
    have h1 := Int.emod_add_mul_ediv n P
    have h2 := Int.emod_add_mul_ediv (n / P) 256
    have a1 := Int.emod_nonneg n (show P ≠ 0 by omega)
    have a2 := Int.emod_lt_of_pos n hp
    have a3 := Int.emod_nonneg (n / P) (show (256 : Int) ≠ 0 by decide)
    have a4 := Int.emod_lt_of_pos (n / P) (show (0 : Int) < 256 by decide)
    generalize n / P / 256 = q at *
    generalize hu : n / P % 256 = u at *
    generalize n / P = m at *
    generalize n % P = v at *
    have e : n = (v + u * P) + P * 256 * q := by
      rw [← h1, ← h2, Int.mul_add, ← Int.mul_assoc, Int.mul_comm P u, Int.add_assoc]
    have hup : u * P ≤ 255 * P := Int.mul_le_mul_of_nonneg_right (by omega) (by omega)
    have hu0 : 0 ≤ u * P := Int.mul_nonneg a3 (by omega)
    rw [e, Int.add_mul_emod_self_left, Int.emod_eq_of_lt (by omega) (by omega)]
    omega

set_option maxRecDepth 100000 in
theorem piece_tail (r x : List Int) (k : Nat) (h : x.length = k) : piece (r ++ x) r.length k = x := by
  unfold piece
  rw [List.drop_left, List.take_of_length_le (by omega)]
set_option maxRecDepth 100000 in
theorem piece_mid (r x y : List Int) (k : Nat) (h : x.length = k) : piece (r ++ x ++ y) r.length k = x := by
  unfold piece
  rw [List.append_assoc, List.drop_left, List.take_left' h]
end Go.Proofs.YtpenhliaelhnoaaGreatDoor.NumV

namespace Go.Proofs.YtpenhliaelhnoaaGreatDoor.FrG
open Go.RowKit Go.Proofs.YtpenhliaelhnoaaGreatDoor.Mem Go.Proofs.YtpenhliaelhnoaaGreatDoor.App Go.Proofs.YtpenhliaelhnoaaGreatDoor.Get Go.Proofs.YtpenhliaelhnoaaGreatDoor.NumV Go.Proofs.YtpenhliaelhnoaaGreatDoor.FrZ Go.Proofs.YtpenhliaelhnoaaGreatDoor.FrP Go.Proofs.YtpenhliaelhnoaaGreatDoor.FrB

set_option maxRecDepth 100000 in
theorem num_inj (a b : Int) (k : Nat) (ha : 0 ≤ a) (ha' : a < 256 ^ k) (hb : 0 ≤ b) (hb' : b < 256 ^ k) (h : num a k = num b k) : a = b := by
  have e := congrArg val h
  rwa [val_num, val_num, Int.emod_eq_of_lt ha ha', Int.emod_eq_of_lt hb hb'] at e
set_option maxRecDepth 100000 in
theorem nil_of {l : List Int} (h : l.length = 0) : l = [] := List.length_eq_zero_iff.1 h

set_option maxRecDepth 100000 in
theorem putF_inj (D E : FrD) (h : frameOk D = true) (k : frameOk E = true) (e : putF D = putF E) : D = E := by
  have hh := (ok_iff D).1 h
  have kk := (ok_iff E).1 k
  have hd : ∀ D : FrD, frameOk D = true → (putF D).head? = some D.kind := by
    intro D h
    unfold putF
    rw [if_pos h]
    split
    · simp
    · split
      · simp
      · split <;> simp
  have hk : D.kind = E.kind := by
    have a := hd D h
    rw [e, hd E k] at a
    exact (Option.some.inj a).symm
  obtain ⟨dk, did, dcn, dsn, dtk, dco, dpr, dep, dsq, dbo, dta⟩ := D
  obtain ⟨ek, eid, ecn, esn, etk, eco, epr, eep, esq, ebo, eta⟩ := E
  simp only at hh kk hk
  subst hk
  rcases hh with ⟨h1, h2, h3, h4, h5, h6, h7, h8, h9, h10, h11, h12, h13, h14⟩ | ⟨h1, h2, h3, h4, h5, h⟩
  · rcases kk with ⟨k1, k2, k3, k4, k5, k6, k7, k8, k9, k10, k11, k12, k13, k14⟩ | ⟨_, _, _, _, _, ⟨k, _⟩ | ⟨k, _⟩ | ⟨k, _⟩⟩
    · have c1 : (dk == 1) = false := by simp; omega
      have c2 : (dk == 2) = false := by simp; omega
      have c3 : (dk == 3) = false := by simp; omega
      rw [putF_s _ (by assumption) c1 c2 c3, putF_s _ (by assumption) c1 c2 c3] at e
      simp only [List.append_assoc] at e
      obtain ⟨_, e⟩ := List.append_inj e rfl
      obtain ⟨e1, e⟩ := List.append_inj e (by rw [h5, k5])
      obtain ⟨e2, e⟩ := List.append_inj e (by rw [num_length, num_length])
      obtain ⟨e3, e⟩ := List.append_inj e (by rw [num_length, num_length])
      obtain ⟨e4, e5⟩ := List.append_inj e (by rw [h14, k14])
      have e2' := num_inj _ _ 4 h9 (by omega) k9 (by omega) e2
      have e3' := num_inj _ _ 6 h11 (by omega) k11 (by omega) e3
      rw [nil_of h4, nil_of k4, nil_of h7, nil_of k7, nil_of h8, nil_of k8, h3, k3, h6, k6, e1, e2', e3', e4, e5]
    · omega
    · omega
    · omega
  · rcases kk with ⟨k1, k2, _⟩ | ⟨k1, k2, k3, k4, k5, k⟩
    · rcases h with ⟨h, _⟩ | ⟨h, _⟩ | ⟨h, _⟩ <;> omega
    · rcases h with ⟨h6, h7, h8, h9, h10, h11, h12⟩ | ⟨h6, h7, h8, h9, h10, h11, h12⟩ | ⟨h6, h7, h8, h9, h10, h11, h12, h13⟩
      · rcases k with ⟨k6, k7, k8, k9, k10, k11, k12⟩ | ⟨k6, _⟩ | ⟨k6, _⟩
        · subst h6
          rw [putF_1 _ (by assumption) rfl, putF_1 _ (by assumption) rfl] at e
          simp only [List.append_assoc] at e
          obtain ⟨_, e⟩ := List.append_inj e rfl
          obtain ⟨e1, e⟩ := List.append_inj e rfl
          obtain ⟨e2, _⟩ := List.append_inj e (by rw [h5, k5])
          have e1' : did = eid := by simpa using e1
          rw [nil_of h9, nil_of k9, nil_of h11, nil_of k11, nil_of h12, nil_of k12, nil_of h3, nil_of k3, nil_of h4, nil_of k4, h1, k1, h2, k2, h10, k10, e1', e2]
        · omega
        · omega
      · rcases k with ⟨k6, _⟩ | ⟨k6, k7, k8, k9, k10, k11, k12⟩ | ⟨k6, _⟩
        · omega
        · subst h6
          rw [putF_2 _ (by assumption) rfl rfl, putF_2 _ (by assumption) rfl rfl] at e
          simp only [List.append_assoc] at e
          obtain ⟨_, e⟩ := List.append_inj e rfl
          obtain ⟨e1, e⟩ := List.append_inj e (by rw [h5, k5])
          obtain ⟨e2, e⟩ := List.append_inj e (by rw [h8, k8])
          obtain ⟨e3, e4⟩ := List.append_inj e (by rw [num_length, num_length])
          have e3' := num_inj _ _ 4 h9 (by omega) k9 (by omega) e3
          rw [nil_of h12, nil_of k12, nil_of h3, nil_of k3, nil_of h4, nil_of k4, h1, k1, h2, k2, h7, k7, e1, e2, e3', e4]
        · omega
      · rcases k with ⟨k6, _⟩ | ⟨k6, _⟩ | ⟨k6, k7, k8, k9, k10, k11, k12, k13⟩
        · omega
        · omega
        · subst h6
          rw [putF_3 _ (by assumption) rfl rfl rfl, putF_3 _ (by assumption) rfl rfl rfl] at e
          simp only [List.append_assoc] at e
          obtain ⟨_, e⟩ := List.append_inj e rfl
          obtain ⟨e0, e⟩ := List.append_inj e rfl
          obtain ⟨e1, e⟩ := List.append_inj e (by rw [h5, k5])
          obtain ⟨e2, e⟩ := List.append_inj e (by rw [h9, k9])
          obtain ⟨e3, e⟩ := List.append_inj e (by rw [num_length, num_length])
          obtain ⟨e4, e5⟩ := List.append_inj e (by rw [h12, k12])
          have e3' := num_inj _ _ 4 h10 (by omega) k10 (by omega) e3
          have e0' : did = eid := by simpa using e0
          rw [nil_of h3, nil_of k3, nil_of h4, nil_of k4, h1, k1, h2, k2, e0', e1, e2, e3', e4, e5]

def zeroF : FrD := ⟨0, 0, [], [], 0, [], [], 0, 0, [], []⟩
/-- What is read out of the bytes b. -/
def IsGot (b : List Int) (D : FrD) (ok : Bool) : Prop := (ok = true ∧ frameOk D = true ∧ putF D = b) ∨ (ok = false ∧ D = zeroF ∧ ∀ E, frameOk E = true → putF E ≠ b)
set_option maxRecDepth 100000 in
theorem IsGot.unique {b : List Int} {D E : FrD} {x y : Bool} (h : IsGot b D x) (k : IsGot b E y) : D = E ∧ x = y := by
  rcases h with ⟨rfl, h1, h2⟩ | ⟨rfl, rfl, h2⟩
  · rcases k with ⟨rfl, k1, k2⟩ | ⟨rfl, rfl, k2⟩
    · exact ⟨putF_inj D E h1 k1 (h2.trans k2.symm), rfl⟩
    · exact absurd h2 (k2 D h1)
  · rcases k with ⟨rfl, k1, k2⟩ | ⟨rfl, rfl, k2⟩
    · exact absurd k2 (h2 E k1)
    · exact ⟨rfl, rfl⟩
end Go.Proofs.YtpenhliaelhnoaaGreatDoor.FrG

namespace Go.Proofs.YtpenhliaelhnoaaGreatDoor.KeW
open Go.RowKit Go.Proofs.YtpenhliaelhnoaaGreatDoor.Mem Go.Proofs.YtpenhliaelhnoaaGreatDoor.DiffP Go.Proofs.YtpenhliaelhnoaaGreatDoor.FrZ Go.Proofs.YtpenhliaelhnoaaGreatDoor.FrP Go.Proofs.YtpenhliaelhnoaaGreatDoor.FrG Go.Proofs.YtpenhliaelhnoaaGreatDoor.KeQ
/-- The proof that the frame should have. -/
def ofF (psk : List Int) (F : FrD) : List Int := proofK psk F.id F.cn F.sn F.tick F.cookie
def pOk (psk : List Int) (F : FrD) : Bool := frameOk F && (F.kind == 3) && sameI F.proof (ofF psk F)
set_option maxRecDepth 100000 in
theorem pOk_1 {psk : List Int} {F : FrD} (h : frameOk F = false) : pOk psk F = false := by unfold pOk; rw [h]; rfl
set_option maxRecDepth 100000 in
theorem pOk_2 {psk : List Int} {F : FrD} (h : (F.kind == 3) = false) : pOk psk F = false := by unfold pOk; rw [h]; simp
set_option maxRecDepth 100000 in
theorem pOk_3 {psk : List Int} {F : FrD} (h : frameOk F = true) (h2 : (F.kind == 3) = true) : pOk psk F = sameI F.proof (ofF psk F) := by unfold pOk; rw [h, h2]; rfl
/-- Whether a cookie may be finished. -/
def finF (psk : List Int) (id : Int) (F : FrD) : Bool := frameOk F && (F.kind == 2) && !((proofK psk id F.cn F.sn F.tick F.cookie).length == 0)
/-- What finishes a cookie. -/
def finD (psk : List Int) (id : Int) (F : FrD) : FrD := if finF psk id F = true then { F with kind := 3, id := id, proof := proofK psk id F.cn F.sn F.tick F.cookie } else zeroF
set_option maxRecDepth 100000 in
theorem finD_yes {psk : List Int} {id : Int} {F : FrD} (h : finF psk id F = true) : finD psk id F = { F with kind := 3, id := id, proof := proofK psk id F.cn F.sn F.tick F.cookie } := if_pos h
set_option maxRecDepth 100000 in
theorem finD_no {psk : List Int} {id : Int} {F : FrD} (h : finF psk id F = false) : finD psk id F = zeroF := if_neg (by rw [h]; decide)
set_option maxRecDepth 100000 in
theorem finF_ok {psk : List Int} {id : Int} {F : FrD} (h : finF psk id F = true) : frameOk F = true := by
  unfold finF at h
  cases k : frameOk F with
  | false => rw [k] at h; simp at h
  | true => rfl
set_option maxRecDepth 100000 in
theorem finD_short (psk : List Int) (id : Int) (F : FrD) : FrShort (finD psk id F) 100 := by
  cases h : finF psk id F with
  | false => rw [finD_no h]; exact ⟨by decide, by decide, by decide, by decide, by decide, by decide⟩
  | true =>
    have q := FrB.ok_lens F (finF_ok h)
    have r := proofK_le psk id F.cn F.sn F.tick F.cookie
    rw [finD_yes h]
    exact ⟨by show F.cn.length ≤ 100; omega, by show F.sn.length ≤ 100; omega, by show F.cookie.length ≤ 100; omega, by show (proofK psk id F.cn F.sn F.tick F.cookie).length ≤ 100; omega, by show F.body.length ≤ 100; omega, by show F.tag.length ≤ 100; omega⟩
end Go.Proofs.YtpenhliaelhnoaaGreatDoor.KeW

namespace Go.Proofs.YtpenhliaelhnoaaGreatDoor.ZoneI
open Go.RowKit Go.Proofs.YtpenhliaelhnoaaGreatDoor.Mem Go.Proofs.YtpenhliaelhnoaaGreatDoor.MemI Go.Proofs.YtpenhliaelhnoaaGreatDoor.Blk Go.Proofs.YtpenhliaelhnoaaGreatDoor.Zone

/-- The slice reads as the ints l. -/
structure ISRd (w : World) (s : Sl) (l : List Int) : Prop where
  len : s.n = l.length
  rd : IRd w s.a l
  nil : s.a = none → s.c = 0
  cap : s.n ≤ s.c
/-- The slice is none, or a row of its own in the zone [lo, hi). -/
def ISOwn (w : World) (lo hi : Nat) (s : Sl) (l : List Int) : Prop :=
  (s = ⟨none, 0, 0⟩ ∧ l = []) ∨ ∃ g, s.a = some ⟨g, 0, none⟩ ∧ s.n = l.length ∧ lo ≤ g ∧ g < hi ∧ IRow w g s.c l
set_option maxRecDepth 100000 in
theorem ISOwn.rd {w : World} {lo hi : Nat} {s : Sl} {l : List Int} (h : ISOwn w lo hi s l) : ISRd w s l := by
  obtain h | ⟨g, h1, h2, h3, h4, h5⟩ := h
  · obtain ⟨rfl, rfl⟩ := h
    exact ⟨rfl, (fun i hi => by cases hi), fun _ => rfl, Nat.le_refl _⟩
  · exact ⟨h2, by rw [h1]; exact h5.rd, (fun e => by rw [h1] at e; cases e), by rw [h2]; exact h5.1⟩
set_option maxRecDepth 100000 in
theorem ISOwn.carry {w w' : World} {lo hi a b : Nat} {s : Sl} {l : List Int} (h : ISOwn w lo hi s l) (k : Kept a b w w') (d : hi ≤ a ∨ b ≤ lo) : ISOwn w' lo hi s l := by
  obtain h | ⟨g, h1, h2, h3, h4, h5⟩ := h
  · exact .inl h
  · exact .inr ⟨g, h1, h2, h3, h4, h5.keep (k.block g h5.lt (by omega))⟩
set_option maxRecDepth 100000 in
theorem ISOwn.later {w w' : World} {lo hi : Nat} {s : Sl} {l : List Int} (h : ISOwn w lo hi s l) (k : Below w.heap.size w w') : ISOwn w' lo hi s l := h.carry (Kept.of_below k hi) (.inl (Nat.le_refl _))
set_option maxRecDepth 100000 in
theorem ISOwn.len {w : World} {lo hi : Nat} {s : Sl} {l : List Int} (h : ISOwn w lo hi s l) : s.n = l.length := h.rd.len
set_option maxRecDepth 100000 in
theorem ISOwn.mono {w : World} {lo hi lo' hi' : Nat} {s : Sl} {l : List Int} (h : ISOwn w lo hi s l) (h1 : lo' ≤ lo) (h2 : hi ≤ hi') : ISOwn w lo' hi' s l := by
  obtain h | ⟨g, q1, q2, q3, q4, q5⟩ := h
  · exact .inl h
  · exact .inr ⟨g, q1, q2, by omega, by omega, q5⟩
set_option maxRecDepth 100000 in
theorem ISOwn.nil (w : World) (lo hi : Nat) : ISOwn w lo hi ⟨none, 0, 0⟩ [] := .inl ⟨rfl, rfl⟩
set_option maxRecDepth 100000 in
theorem ISOwn.row {w : World} {lo hi g n c : Nat} {l : List Int} (h : IRow w g c l) (hn : n = l.length) (h1 : lo ≤ g) (h2 : g < hi) : ISOwn w lo hi ⟨some ⟨g, 0, none⟩, n, c⟩ l := .inr ⟨g, rfl, hn, h1, h2, h⟩
set_option maxRecDepth 100000 in
theorem ISRd.later {w w' : World} {s : Sl} {l : List Int} (h : ISRd w s l) (b : Below w.heap.size w w') : ISRd w' s l := ⟨h.len, h.rd.later b (Nat.le_refl _), h.nil, h.cap⟩

end Go.Proofs.YtpenhliaelhnoaaGreatDoor.ZoneI

namespace Go.Proofs.YtpenhliaelhnoaaGreatDoor.Zone
open Go.RowKit Go.Proofs.YtpenhliaelhnoaaGreatDoor.Mem
set_option maxRecDepth 100000 in
theorem SOwn.later {w w' : World} {lo hi : Nat} {s : Sl} {l : List Int} (h : SOwn w lo hi s l) (k : Below w.heap.size w w') : SOwn w' lo hi s l := h.carry (Kept.of_below k hi) (.inl (Nat.le_refl _))
end Go.Proofs.YtpenhliaelhnoaaGreatDoor.Zone
namespace Go.Proofs.YtpenhliaelhnoaaGreatDoor.Shp
open Go.RowKit Go.Proofs.YtpenhliaelhnoaaGreatDoor.Mem Go.Proofs.YtpenhliaelhnoaaGreatDoor.MemI Go.Proofs.YtpenhliaelhnoaaGreatDoor.Zone Go.Proofs.YtpenhliaelhnoaaGreatDoor.ZoneI
set_option maxRecDepth 100000 in
theorem row_cap {k : IntKind} {w : World} {a : Option Addr} {n c : Nat} {z : List Int} (h : IsRow k w a n c z) : n ≤ c := by
  rcases h with ⟨_, rfl, rfl, _⟩ | ⟨_, _, h, _⟩
  · exact Nat.le_refl _
  · exact h
set_option maxRecDepth 100000 in
theorem row_sl {w : World} {a : Option Addr} {n c : Nat} {z : List Int} (h : IsRow .u8 w a n c z) : ∃ l, SRd w ⟨a, n, c⟩ l := by
  obtain ⟨l, h1, h2, h3, h4⟩ := h.read
  exact ⟨l, h1, h2, h3, row_cap h, h4⟩
set_option maxRecDepth 100000 in
theorem row_isl {w : World} {a : Option Addr} {n c : Nat} {z : List Int} (h : IsRow .i64 w a n c z) : ∃ l, ISRd w ⟨a, n, c⟩ l := by
  obtain ⟨l, h1, h2, h3, _⟩ := readI h
  exact ⟨l, h1, h2, h3, row_cap h⟩
/-- A list of bytes in new memory. -/
def AnsB (l : List Int) (w : World) : Ending → World → Prop := fun e w' => ∃ S0 : Sl, e = .returned (.slice S0.a S0.n S0.c) ∧ SOwn w' w.heap.size w'.heap.size S0 l ∧ Below w.heap.size w w'
set_option maxRecDepth 100000 in
theorem AnsB.of {l : List Int} {w : World} {e : Ending} {w' : World} (hb : Bytes l) (h : ∃ g m cap, e = .returned (.slice (some ⟨g, 0, none⟩) m cap) ∧ m = l.length ∧ w.heap.size ≤ g ∧ Row w' g cap l ∧ Below w.heap.size w w') : AnsB l w e w' := by
  obtain ⟨g, m, c, h1, h2, h3, h4, h5⟩ := h
  exact ⟨⟨some ⟨g, 0, none⟩, m, c⟩, h1, SOwn.row h4 h2 hb h3 h4.lt, h5⟩
end Go.Proofs.YtpenhliaelhnoaaGreatDoor.Shp

namespace Go.Proofs.YtpenhliaelhnoaaGreatDoor.KeL
open Go.RowKit Go.Proofs.YtpenhliaelhnoaaGreatDoor.Mem Go.Proofs.YtpenhliaelhnoaaGreatDoor.App Go.Proofs.YtpenhliaelhnoaaGreatDoor.Blk Go.Proofs.YtpenhliaelhnoaaGreatDoor.Words Go.Proofs.YtpenhliaelhnoaaGreatDoor.Zone Go.Proofs.YtpenhliaelhnoaaGreatDoor.Res Go.Proofs.YtpenhliaelhnoaaGreatDoor.KeP Go.Proofs.YtpenhliaelhnoaaGreatDoor.Shp

/-- How many bytes the first k lists have. -/
def sz (ls : List (List Int)) (k : Nat) : Nat := (ls.take k).flatten.length
set_option maxRecDepth 100000 in
theorem sz_succ {ls : List (List Int)} {k : Nat} {l : List Int} (h : ls[k]? = some l) : sz ls (k + 1) = sz ls k + l.length := by
  unfold sz; rw [List.take_add_one, h]; simp
set_option maxRecDepth 100000 in
theorem sz_zero (ls : List (List Int)) : sz ls 0 = 0 := by unfold sz; simp
set_option maxRecDepth 100000 in
theorem sz_all (ls : List (List Int)) : sz ls ls.length = ls.flatten.length := by unfold sz; rw [List.take_length]
set_option maxRecDepth 100000 in
theorem sz_le (ls : List (List Int)) (k : Nat) : sz ls k ≤ ls.flatten.length := by
  unfold sz
  conv => rhs; rw [← List.take_append_drop k ls, List.flatten_append, List.length_append]
  omega
/-- The first k of them laid, the rest still 0. -/
def laidL (ls : List (List Int)) (k : Nat) : List Int := (ls.take k).flatten ++ List.replicate (ls.flatten.length - sz ls k) 0
set_option maxRecDepth 100000 in
theorem laidL_len (ls : List (List Int)) (k : Nat) : (laidL ls k).length = ls.flatten.length := by
  have := sz_le ls k
  unfold laidL; rw [List.length_append, List.length_replicate]; unfold sz at *; omega
set_option maxRecDepth 100000 in
theorem laidL_zero (ls : List (List Int)) : laidL ls 0 = List.replicate ls.flatten.length 0 := by unfold laidL; rw [sz_zero]; simp
set_option maxRecDepth 100000 in
theorem laidL_all (ls : List (List Int)) : laidL ls ls.length = ls.flatten := by unfold laidL; rw [sz_all, List.take_length]; simp
set_option maxRecDepth 100000 in
theorem laidL_splice {ls : List (List Int)} {k : Nat} {l : List Int} (h : ls[k]? = some l) : splice ((laidL ls k).map (Value.int .u8)) (sz ls k) (l.map (Value.int .u8)) = (laidL ls (k + 1)).map (Value.int .u8) := by
  have h1 := sz_succ h
  have h2 := sz_le ls (k + 1)
  have hl : ((ls.take k).flatten.map (Value.int .u8)).length = sz ls k := by rw [List.length_map]; rfl
  unfold splice
  have e1 : ((laidL ls k).map (Value.int .u8)).take (sz ls k) = (ls.take k).flatten.map (Value.int .u8) := by
    unfold laidL; rw [List.map_append, ← hl, List.take_left]
  have e2 : ((laidL ls k).map (Value.int .u8)).drop (sz ls k + (l.map (Value.int .u8)).length) = (List.replicate (ls.flatten.length - sz ls (k + 1)) (0 : Int)).map (Value.int .u8) := by
    unfold laidL; rw [List.map_append, ← hl, List.drop_append, hl, List.drop_eq_nil_of_le (by rw [hl, List.length_map]; omega), List.nil_append, ← List.map_drop, List.drop_replicate, List.length_map]
    congr 2; omega
  rw [e1, e2]
  unfold laidL
  rw [List.take_add_one, h]
  simp [List.flatten_append]
set_option maxRecDepth 100000 in
theorem laid_bytes {ls : List (List Int)} (h : ∀ l ∈ ls, Bytes l) : Bytes ls.flatten := by
  intro z hz
  obtain ⟨l, hl, hz⟩ := List.mem_flatten.1 hz
  exact h l hl z hz

/-- What came in: a block of slices that read as the lists. -/
structure Parts (w : World) (g : Nat) (ps : List Sl) (ls : List (List Int)) : Prop where
  blk : Blk w g 22 (ps.map Sl.v)
  len : ps.length = ls.length
  rd : ∀ (k : Nat) (p : Sl) (l : List Int), ps[k]? = some p → ls[k]? = some l → SRd w p l
set_option maxRecDepth 100000 in
theorem Parts.later {w w' : World} {g : Nat} {ps : List Sl} {ls : List (List Int)} (h : Parts w g ps ls) (b : Below w.heap.size w w') : Parts w' g ps ls :=
  ⟨h.blk.later b, h.len, fun k p l h1 h2 => (h.rd k p l h1 h2).later b⟩
set_option maxRecDepth 100000 in
theorem Parts.at {w : World} {g : Nat} {ps : List Sl} {ls : List (List Int)} (h : Parts w g ps ls) {k : Nat} (hk : k < ls.length) :
    ∃ p l, ls[k]? = some l ∧ SRd w p l ∧ w.cell? ⟨g, k, none⟩ = some (.slice p.a p.n p.c) := by
  have hp : k < ps.length := by rw [h.len]; exact hk
  refine ⟨ps[k], ls[k], List.getElem?_eq_getElem hk, h.rd k _ _ (List.getElem?_eq_getElem hp) (List.getElem?_eq_getElem hk), h.blk.cell k ?_⟩
  rw [List.getElem?_map, List.getElem?_eq_getElem hp]; rfl
set_option maxRecDepth 100000 in
theorem Parts.bytes {w : World} {g : Nat} {ps : List Sl} {ls : List (List Int)} (h : Parts w g ps ls) : Bytes ls.flatten := by
  refine laid_bytes fun l hl => ?_
  obtain ⟨k, hk, rfl⟩ := List.mem_iff_getElem.1 hl
  obtain ⟨p, l, e, q, _⟩ := h.at hk
  rw [List.getElem?_eq_getElem hk] at e
  cases e
  exact q.bytes

/-- Slices that read as the lists, one by one. -/
def Rds (w : World) : List Sl → List (List Int) → Prop
  | [], [] => True
  | p :: ps, l :: ls => SRd w p l ∧ Rds w ps ls
  | _, _ => False
set_option maxRecDepth 100000 in
theorem Rds.len {w : World} : ∀ {ps : List Sl} {ls : List (List Int)}, Rds w ps ls → ps.length = ls.length
  | [], [], _ => rfl
  | _ :: _, _ :: _, h => congrArg (· + 1) (Rds.len h.2)
set_option maxRecDepth 100000 in
theorem Rds.rd {w : World} : ∀ {ps : List Sl} {ls : List (List Int)}, Rds w ps ls → ∀ (k : Nat) (p : Sl) (l : List Int), ps[k]? = some p → ls[k]? = some l → SRd w p l
  | [], [], _, _, _, _, h, _ => by simp at h
  | _ :: _, _ :: _, h, 0, _, _, h1, h2 => by simp at h1 h2; rw [← h1, ← h2]; exact h.1
  | _ :: _, _ :: _, h, k + 1, _, _, h1, h2 => Rds.rd h.2 k _ _ (by simpa using h1) (by simpa using h2)
set_option maxRecDepth 100000 in
theorem Parts.of {w : World} {g : Nat} {ps : List Sl} {ls : List (List Int)} (h : Blk w g 22 (ps.map Sl.v)) (f : Rds w ps ls) : Parts w g ps ls := ⟨h, f.len, f.rd⟩

set_option maxRecDepth 100000 in
set_option maxHeartbeats 1600000 in
theorem laid (g c : Nat) (ps : List Sl) (ls : List (List Int)) (n : Nat) (w : World) (hn : n = ls.length) (h : Parts w g ps ls) (hs : ls.flatten.length ≤ 100000) (hn2 : n ≤ 100000) :
    Calls Tryz.prog 70 #[.slice (some ⟨g, 0, none⟩) n c] w fun e w' => ∃ g1 m1 c1, e = .returned (.slice (some ⟨g1, 0, none⟩) m1 c1) ∧ m1 = ls.flatten.length ∧ w.heap.size ≤ g1 ∧ Row w' g1 c1 ls.flatten ∧ Below w.heap.size w w' := by
  obtain ⟨i0, hi, hz0, hz1, hz2⟩ := info_parts info8
  have hsz : (Tryz.prog.info? 5).map (·.size) = some 1 := by rw [hi]; simp [hz1]
  have HP : Hid (Parts w g ps ls) := h
  have HN : Hid (n = ls.length) := hn
  obtain ⟨T, hT⟩ : ∃ T, ls.flatten.length = T := ⟨_, rfl⟩
  have HT : Hid (ls.flatten.length = T) := hT
  rw [hT] at hs
  clear h hn hT
  go_enter Tryz.func70, Tryz.ntmps70
  go_wp2
  go_loop [3, 12] (fun v i => ∃ k s : Nat, k ≤ n ∧ i = .int .i64 k ∧ v = .int .i64 s ∧ Hid (s = sz ls k)) (fun _ i => n - (intOf i).toNat)
  case atStart => exact ⟨0, 0, Nat.zero_le _, rfl, rfl, (sz_zero ls).symm⟩
  case round =>
    obtain ⟨k, s, hk, rfl, rfl, HS⟩ := hrel
    have HSL : Hid (s ≤ T) := by rw [HS.out, ← HT.out]; exact sz_le ls k
    by_cases hlt : k < n
    · obtain ⟨⟨pa, pn, pc⟩, l, hl, hrd, hcell⟩ := HP.out.at (k := k) (by rw [← HN.out]; exact hlt)
      have HS1 : Hid (s + pn = sz ls (k + 1)) := by have e := hrd.len; show _ = _; rw [sz_succ hl, HS.out, ← e]
      have hle : s + pn ≤ 100000 := by have := sz_le ls (k + 1); rw [← HS1.out, HT.out] at this; omega
      clear hl hrd
      go_wp2
      go_round
      case rel => exact ⟨k + 1, s + pn, by omega, by go_num, by go_num, HS1.out⟩
      case measure => simp [intOf]; omega
    · obtain rfl : k = n := by omega
      have HST : Hid (s = T) := by show _ = _; rw [HS.out, HN.out, sz_all, HT.out]
      obtain rfl : s = T := HST.out
      clear HST HSL
      go_wp2_with (at_make; refine wpList_make_full _ rfl _ _ 22 rfl w.heap.size 5 i0 (.int .u8 0) 1 Tryz.underlying22 hi hz0 hz1 _ _ _ _ s rfl rfl rfl rfl (by rw [hz2]; omega) (by unfold maxLen; omega) (Nat.le_refl _) ?_; intro w1 hown hgr; have B1 : Hid (Below w.heap.size w w1) := (Below.refl _ _).grown hgr (Nat.le_refl _) (fun k h => by cases h); have R1 : Hid (Row w1 w.heap.size s (laidL ls 0)) := (by rw [laidL_zero, HT.out]; exact (Row.of (l := List.replicate s (0 : Int)) (base := w.heap.size) (by simpa [Value.cells, toList_madeCells_one] using hown)).1); clear hown hgr)
      go_loopw [7, 25] (fun v i wr => ∃ j q : Nat, j ≤ k ∧ i = .int .i64 j ∧ v = .int .i64 q ∧ Hid (q = sz ls j) ∧ Row wr w.heap.size s (laidL ls j) ∧ Below w.heap.size w wr) (fun _ i _ => k - (intOf i).toNat)
      case atStart => exact ⟨0, 0, Nat.zero_le _, rfl, rfl, (sz_zero ls).symm, R1.out, B1.out⟩
      case round =>
        obtain ⟨j, q, hj, rfl, rfl, HQ, hRow, hbe⟩ := hrel
        have HRow : Hid (Row wr w.heap.size s (laidL ls j)) := hRow
        have HBe : Hid (Below w.heap.size w wr) := hbe
        have hqs : q ≤ s := by rw [HQ.out, ← HT.out]; exact sz_le ls j
        clear R1 B1 hRow hbe
        by_cases hlt : j < k
        · obtain ⟨⟨pa, pn, pc⟩, l, hl, hrd, hcell⟩ := (HP.out.later HBe.out).at (k := j) (by rw [← HN.out]; exact hlt)
          have HQ1 : Hid (q + pn = sz ls (j + 1)) := by have e := hrd.len; show _ = _; rw [sz_succ hl, HQ.out, ← e]
          have hle : q + pn ≤ s := by have := sz_le ls (j + 1); rw [← HQ1.out, HT.out] at this; omega
          obtain ⟨X, hX⟩ : ∃ X, l.map (Value.int .u8) = X := ⟨_, rfl⟩
          obtain ⟨C, hC⟩ : ∃ C, (laidL ls j).map (Value.int .u8) = C := ⟨_, rfl⟩
          have HXL : Hid (X.length = pn) := by rw [← hX]; show _ = _; rw [List.length_map]; exact hrd.len.symm
          have HXO : Hid (∀ v ∈ X, v.oneCell' = true) := by rw [← hX]; exact ints_oneCell _ _
          have HCL : Hid (C.length = s) := by rw [← hC]; show _ = _; rw [List.length_map, laidL_len, HT.out]
          have HSP : Hid (splice C q X = (laidL ls (j + 1)).map (Value.int .u8)) := by rw [← hC, ← hX, HQ.out]; exact laidL_splice hl
          have HSRC : Hid (0 < X.length → ∃ ad, pa = some ad ∧ ∀ j v, X[j]? = some v → wr.cell? (ad.add j) = some v) := by
            rw [← hX]
            intro h0
            cases pa with
            | none => obtain ⟨_, _, e, _⟩ := hrd.rd 0 (by simpa using h0); cases e
            | some ad => exact ⟨ad, rfl, Rd.cells hrd.rd⟩
          have HG : Hid (wr.heap[w.heap.size]? = some (.cells C.toArray 5 (0, 0))) := by
            obtain ⟨_, _, cur, h3, h4, h5⟩ := HRow.out
            have e : cur = C.toArray := by
              apply Array.toList_inj.1
              rw [List.take_of_length_le (by rw [Array.length_toList, laidL_len, HT.out]; omega), hC] at h5
              simpa using h5
            show _ = _
            rw [h3, e]
          have HCJ : Hid ((laidL ls j).map (Value.int .u8) = C) := hC
          clear hl hrd hX hC
          have HB1 : Hid (X.length = 0 → laidL ls (j + 1) = laidL ls j) := by
            intro h2
            have h1 := HSP.out
            have h3 : X = [] := List.eq_nil_of_length_eq_zero h2
            rw [h3, ← HCJ.out] at h1
            have h4 : (laidL ls j).map (Value.int .u8) = (laidL ls (j + 1)).map (Value.int .u8) := by rw [← h1]; simp [splice]
            exact (List.map_inj_right (by intro x y h; cases h; rfl)).1 h4.symm
          by_cases hsq : s = q
          · obtain rfl : pn = 0 := by omega
            subst hsq
            have R2 : Hid (Row wr w.heap.size s (laidL ls (j + 1))) := by rw [HB1.out HXL.out]; exact HRow.out
            have B2 : Hid (Below w.heap.size w wr) := HBe.out
            have HQ2 : Hid (s = sz ls (j + 1)) := HQ1.out
            clear HQ1
            have kc := run_copy_none (P := Tryz.prog) wr 22 22 3 5 (some ⟨w.heap.size, 0, none⟩) pa 0 0 0 pc Tryz.underlying22 hsz rfl
            go_wp2
            go_roundw
            case rel => exact ⟨j + 1, s, by omega, by go_num, by go_num, HQ2.out, R2.out, B2.out⟩
            case measure => simp [intOf]; omega
          · have hi0 : (0 : Int) ≤ q := by omega
            have hi1 : (q : Int) ≤ s := by omega
            by_cases hp0 : pn = 0
            · obtain rfl : pn = 0 := hp0
              have R2 : Hid (Row wr w.heap.size s (laidL ls (j + 1))) := by rw [HB1.out HXL.out]; exact HRow.out
              have B2 : Hid (Below w.heap.size w wr) := HBe.out
              have HQ2 : Hid (q = sz ls (j + 1)) := HQ1.out
              clear HQ1
              have kc := run_copy_none (P := Tryz.prog) wr 22 22 3 5 (some ⟨w.heap.size, q, none⟩) pa (s - q) (s - q) 0 pc Tryz.underlying22 hsz (by show min _ _ = 0; omega)
              go_wp2
              go_roundw
              case rel => exact ⟨j + 1, q, by omega, by go_num, by go_num, HQ2.out, R2.out, B2.out⟩
              case measure => simp [intOf]; omega
            · obtain ⟨ad, rfl, hsrc⟩ := HSRC.out (by rw [HXL.out]; omega)
              have kc := run_copy_row (P := Tryz.prog) wr 22 22 3 5 w.heap.size q (s - q) (s - q) ad pn pc C.toArray 5 X Tryz.underlying22 hsz HG.out (by rw [HXL.out]; show pn = min _ _; omega) hsrc (by rw [HXL.out]; have := HCL.out; simp; omega) HXO.out
              clear hsrc HSRC
              obtain ⟨N, hN⟩ : ∃ N, (List.take q C.toArray.toList ++ X ++ List.drop (q + X.length) C.toArray.toList).toArray = N := ⟨_, rfl⟩
              have HNL : N.toList = splice C q X := by rw [← hN]; simp [splice]
              obtain ⟨w2, hw2⟩ : ∃ w2, wr.setRow w.heap.size N = w2 := ⟨_, rfl⟩
              have HG2 := setRow_heap wr w.heap.size C.toArray N 5 _ HG.out
              rw [hw2] at HG2
              have HG3 : Hid (w2.heap[w.heap.size]? = some (.cells N 5 (0, 0))) := HG2
              have B2 : Hid (Below w.heap.size w w2) := by rw [← hw2]; exact below_setRow HBe.out (Nat.le_refl _) _
              have R2 : Hid (Row w2 w.heap.size s (laidL ls (j + 1))) := ⟨by rw [laidL_len, HT.out]; exact Nat.le_refl _, by unfold maxLen; omega, N, HG3.out, by rw [← Array.length_toList, HNL, HSP.out]; simp [laidL_len, HT.out], by rw [HNL, HSP.out]; simp [List.take_of_length_le]⟩
              have hN' := hN
              rw [HXL.out] at kc hN'
              rw [hN', hw2] at kc
              clear HG2 hw2 hN hN' HNL
              go_wp2
              go_roundw
              case rel => exact ⟨j + 1, q + pn, by omega, by go_num, by go_num, HQ1.out, R2.out, B2.out⟩
              case measure => simp [intOf]; omega
        · obtain rfl : j = k := by omega
          have HE : Hid (laidL ls j = ls.flatten) := by rw [HN.out]; exact laidL_all ls
          have R3 : Hid (Row wr w.heap.size s ls.flatten) := by rw [← HE.out]; exact HRow.out
          have E3 : Hid (s = ls.flatten.length) := HT.out.symm
          go_wp2
          go_ret
          exact ⟨w.heap.size, s, s, rfl, E3.out, Nat.le_refl _, R3.out, HBe.out⟩
end Go.Proofs.YtpenhliaelhnoaaGreatDoor.KeL
