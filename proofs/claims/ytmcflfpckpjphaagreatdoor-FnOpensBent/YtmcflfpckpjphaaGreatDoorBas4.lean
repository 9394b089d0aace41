/-
  Frames as plain data: which are right, their bytes, and back.
  A frame's bytes as plain data.
  Numbers and their bytes as plain facts.
  Right frames with the same bytes are the same; what it is to be read out of bytes.
  A frame's bytes are bytes, and few.
  What impl's putCookie and putSealed answer: bytes that are laid behind others.
  The words behind impl's interface: what each asks of its parts, and the frame that it is.
-/
import Derived.Test.YtmcflfpckpjphaaGreatDoorFrZ
import Derived.Test.YtmcflfpckpjphaaGreatDoorBas3
import Derived.Test.YtmcflfpckpjphaaGreatDoorBas1
import Derived.Deep.RegionHeld3
set_option linter.unusedVariables false
namespace Go.Proofs.YtmcflfpckpjphaaGreatDoor.FrP
open Go.RowKit Go.Proofs.YtmcflfpckpjphaaGreatDoor.Mem Go.Proofs.YtmcflfpckpjphaaGreatDoor.App Go.Proofs.YtmcflfpckpjphaaGreatDoor.Words Go.Proofs.YtmcflfpckpjphaaGreatDoor.FrZ

def bodyOk (k : Int) (n : Int) : Bool := if k == 4 then decide (n ≤ 40) else if k == 5 || k == 6 then n == 12 else n == 4
def okS (kind id : Int) (cn sn : Nat) (tick : Int) (cookie proof : Nat) (epoch seq : Int) (body tag : Nat) : Bool :=
  if isIn kind 4 8 = true then (id == 0) && (((cn : Int) == 0) && (((sn : Int) == 12) && ((tick == 0) && (((cookie : Int) == 0) && (((proof : Int) == 0) && (isIn epoch 0 4294967295 && (isIn seq 0 281474976710655 && (bodyOk kind body && ((tag : Int) == 16)))))))))
  else if ((epoch == 0) && ((seq == 0) && (((body : Int) == 0) && (((tag : Int) == 0) && ((cn : Int) == 12))))) = false then false
  else if (kind == 1) = true then isIn id 1 9 && (((sn : Int) == 0) && ((tick == 0) && (((cookie : Int) == 0) && ((proof : Int) == 0))))
  else if (kind == 2) = true then (id == 0) && (((sn : Int) == 12) && (isIn tick 0 1000000 && (((cookie : Int) == 16) && ((proof : Int) == 0))))
  else if (kind == 3) = true then isIn id 1 9 && (((sn : Int) == 12) && (isIn tick 0 1000000 && (((cookie : Int) == 16) && ((proof : Int) == 16))))
  else false
def frameOk (D : FrD) : Bool := okS D.kind D.id D.cn.length D.sn.length D.tick D.cookie.length D.proof.length D.epoch D.seq D.body.length D.tag.length
end Go.Proofs.YtmcflfpckpjphaaGreatDoor.FrP

namespace Go.Proofs.YtmcflfpckpjphaaGreatDoor.FrB
open Go.RowKit Go.Proofs.YtmcflfpckpjphaaGreatDoor.Mem Go.Proofs.YtmcflfpckpjphaaGreatDoor.App Go.Proofs.YtmcflfpckpjphaaGreatDoor.Words Go.Proofs.YtmcflfpckpjphaaGreatDoor.FrZ Go.Proofs.YtmcflfpckpjphaaGreatDoor.FrP

def putF (D : FrD) : List Int :=
  if frameOk D = true then
    if (D.kind == 1) = true then [D.kind] ++ [D.id] ++ D.cn ++ List.replicate 20 0
    else if (D.kind == 2) = true then [D.kind] ++ D.cn ++ D.sn ++ num D.tick 4 ++ D.cookie
    else if (D.kind == 3) = true then [D.kind] ++ [D.id] ++ D.cn ++ D.sn ++ num D.tick 4 ++ D.cookie ++ D.proof
    else [D.kind] ++ D.sn ++ num D.epoch 4 ++ num D.seq 6 ++ D.tag ++ D.body
  else []
set_option maxRecDepth 100000 in
theorem putF_no (D : FrD) (h : frameOk D = false) : putF D = [] := by unfold putF; rw [if_neg (by rw [h]; simp)]
set_option maxRecDepth 100000 in
theorem putF_1 (D : FrD) (h : frameOk D = true) (k : (D.kind == 1) = true) : putF D = [D.kind] ++ [D.id] ++ D.cn ++ List.replicate 20 0 := by unfold putF; rw [if_pos h, if_pos k]
set_option maxRecDepth 100000 in
theorem putF_2 (D : FrD) (h : frameOk D = true) (k1 : (D.kind == 1) = false) (k : (D.kind == 2) = true) : putF D = [D.kind] ++ D.cn ++ D.sn ++ num D.tick 4 ++ D.cookie := by
  unfold putF; rw [if_pos h, if_neg (by rw [k1]; simp), if_pos k]
set_option maxRecDepth 100000 in
theorem putF_3 (D : FrD) (h : frameOk D = true) (k1 : (D.kind == 1) = false) (k2 : (D.kind == 2) = false) (k : (D.kind == 3) = true) : putF D = [D.kind] ++ [D.id] ++ D.cn ++ D.sn ++ num D.tick 4 ++ D.cookie ++ D.proof := by
  unfold putF; rw [if_pos h, if_neg (by rw [k1]; simp), if_neg (by rw [k2]; simp), if_pos k]
set_option maxRecDepth 100000 in
theorem putF_s (D : FrD) (h : frameOk D = true) (k1 : (D.kind == 1) = false) (k2 : (D.kind == 2) = false) (k3 : (D.kind == 3) = false) : putF D = [D.kind] ++ D.sn ++ num D.epoch 4 ++ num D.seq 6 ++ D.tag ++ D.body := by
  unfold putF; rw [if_pos h, if_neg (by rw [k1]; simp), if_neg (by rw [k2]; simp), if_neg (by rw [k3]; simp)]
set_option maxRecDepth 100000 in
/-- What a right frame is, kind by kind. -/
theorem ok_iff (D : FrD) : frameOk D = true ↔
    (4 ≤ D.kind ∧ D.kind ≤ 8 ∧ D.id = 0 ∧ D.cn.length = 0 ∧ D.sn.length = 12 ∧ D.tick = 0 ∧ D.cookie.length = 0 ∧ D.proof.length = 0 ∧ 0 ≤ D.epoch ∧ D.epoch ≤ 4294967295 ∧ 0 ≤ D.seq ∧ D.seq ≤ 281474976710655 ∧ bodyOk D.kind D.body.length = true ∧ D.tag.length = 16) ∨
    (D.epoch = 0 ∧ D.seq = 0 ∧ D.body.length = 0 ∧ D.tag.length = 0 ∧ D.cn.length = 12 ∧
      ((D.kind = 1 ∧ 1 ≤ D.id ∧ D.id ≤ 9 ∧ D.sn.length = 0 ∧ D.tick = 0 ∧ D.cookie.length = 0 ∧ D.proof.length = 0) ∨
       (D.kind = 2 ∧ D.id = 0 ∧ D.sn.length = 12 ∧ 0 ≤ D.tick ∧ D.tick ≤ 1000000 ∧ D.cookie.length = 16 ∧ D.proof.length = 0) ∨
       (D.kind = 3 ∧ 1 ≤ D.id ∧ D.id ≤ 9 ∧ D.sn.length = 12 ∧ 0 ≤ D.tick ∧ D.tick ≤ 1000000 ∧ D.cookie.length = 16 ∧ D.proof.length = 16))) := by
  unfold frameOk okS isIn
  by_cases hs : 4 ≤ D.kind ∧ D.kind ≤ 8
  · rw [if_pos (by simpa using hs)]
    simp only [Bool.and_eq_true, beq_iff_eq, decide_eq_true_eq]
    constructor
    · rintro ⟨h1, h2, h3, h4, h5, h6, h7, h8, h9, h10⟩
      exact .inl ⟨hs.1, hs.2, h1, by omega, by omega, h4, by omega, by omega, h7.1, h7.2, h8.1, h8.2, h9, by omega⟩
    · rintro (⟨_, _, h1, h2, h3, h4, h5, h6, h7, h7', h8, h8', h9, h10⟩ | ⟨_, _, _, _, _, ⟨h, _⟩ | ⟨h, _⟩ | ⟨h, _⟩⟩)
      · exact ⟨h1, by omega, by omega, h4, by omega, by omega, ⟨h7, h7'⟩, ⟨h8, h8'⟩, h9, by omega⟩
      · omega
      · omega
      · omega
  · rw [if_neg (by simpa using hs)]
    by_cases he : D.epoch = 0 ∧ D.seq = 0 ∧ D.body.length = 0 ∧ D.tag.length = 0 ∧ D.cn.length = 12
    · obtain ⟨e1, e2, e3, e4, e5⟩ := he
      rw [if_neg (by rw [e1, e2, e3, e4, e5]; simp)]
      by_cases k1 : D.kind = 1
      · rw [k1]; simp only [beq_self_eq_true, if_true, Bool.and_eq_true, beq_iff_eq, decide_eq_true_eq]; constructor
        · rintro ⟨⟨a, a'⟩, b, c, d, e⟩; exact .inr ⟨e1, e2, e3, e4, e5, .inl ⟨trivial, a, a', by omega, c, by omega, by omega⟩⟩
        · rintro (h | ⟨_, _, _, _, _, ⟨_, a, a', b, c, d, e⟩ | ⟨h, _⟩ | ⟨h, _⟩⟩)
          · omega
          · exact ⟨⟨a, a'⟩, by omega, c, by omega, by omega⟩
          · omega
          · omega
      · rw [if_neg (by simpa using k1)]
        by_cases k2 : D.kind = 2
        · rw [k2]; simp only [beq_self_eq_true, if_true, Bool.and_eq_true, beq_iff_eq, decide_eq_true_eq]; constructor
          · rintro ⟨a, b, ⟨c, c'⟩, d, e⟩; exact .inr ⟨e1, e2, e3, e4, e5, .inr (.inl ⟨trivial, a, by omega, c, c', by omega, by omega⟩)⟩
          · rintro (h | ⟨_, _, _, _, _, ⟨h, _⟩ | ⟨_, a, b, c, c', d, e⟩ | ⟨h, _⟩⟩)
            · omega
            · omega
            · exact ⟨a, by omega, ⟨c, c'⟩, by omega, by omega⟩
            · omega
        · rw [if_neg (by simpa using k2)]
          by_cases k3 : D.kind = 3
          · rw [k3]; simp only [beq_self_eq_true, if_true, Bool.and_eq_true, beq_iff_eq, decide_eq_true_eq]; constructor
            · rintro ⟨⟨a, a'⟩, b, ⟨c, c'⟩, d, e⟩; exact .inr ⟨e1, e2, e3, e4, e5, .inr (.inr ⟨trivial, a, a', by omega, c, c', by omega, by omega⟩)⟩
            · rintro (h | ⟨_, _, _, _, _, ⟨h, _⟩ | ⟨h, _⟩ | ⟨_, a, a', b, c, c', d, e⟩⟩)
              · omega
              · omega
              · omega
              · exact ⟨⟨a, a'⟩, by omega, ⟨c, c'⟩, by omega, by omega⟩
          · rw [if_neg (by simpa using k3)]
            constructor
            · intro h; cases h
            · rintro (h | ⟨_, _, _, _, _, ⟨h, _⟩ | ⟨h, _⟩ | ⟨h, _⟩⟩)
              · omega
              · omega
              · omega
              · omega
    · rw [if_pos (by
        cases hc : ((D.epoch == 0) && ((D.seq == 0) && (((D.body.length : Int) == 0) && (((D.tag.length : Int) == 0) && ((D.cn.length : Int) == 12))))) with
        | false => rfl
        | true =>
          simp only [Bool.and_eq_true, beq_iff_eq] at hc
          exact absurd ⟨hc.1, hc.2.1, by omega, by omega, by omega⟩ he)]
      constructor
      · intro h; cases h
      · rintro (h | ⟨a, b, c, d, e, _⟩)
        · omega
        · exact absurd ⟨a, b, c, d, e⟩ he
set_option maxRecDepth 100000 in
theorem ok_kind (D : FrD) (h : frameOk D = true) : 1 ≤ D.kind ∧ D.kind ≤ 8 := by
  rcases (ok_iff D).1 h with h | ⟨_, _, _, _, _, h | h | h⟩ <;> omega
set_option maxRecDepth 100000 in
theorem ok_id1 (D : FrD) (h : frameOk D = true) (k : (D.kind == 1) = true) : 1 ≤ D.id ∧ D.id ≤ 9 := by
  simp only [beq_iff_eq] at k
  rcases (ok_iff D).1 h with h | ⟨_, _, _, _, _, h | h | h⟩ <;> omega
set_option maxRecDepth 100000 in
theorem ok_id3 (D : FrD) (h : frameOk D = true) (k : (D.kind == 3) = true) : 1 ≤ D.id ∧ D.id ≤ 9 := by
  simp only [beq_iff_eq] at k
  rcases (ok_iff D).1 h with h | ⟨_, _, _, _, _, h | h | h⟩ <;> omega
set_option maxRecDepth 100000 in
theorem ok_lens (D : FrD) (h : frameOk D = true) : D.cn.length ≤ 12 ∧ D.sn.length ≤ 12 ∧ D.cookie.length ≤ 16 ∧ D.proof.length ≤ 16 ∧ D.body.length ≤ 40 ∧ D.tag.length ≤ 16 := by
  rcases (ok_iff D).1 h with ⟨_, _, _, _, _, _, _, _, _, _, _, _, hb, _⟩ | ⟨_, _, _, _, _, h | h | h⟩
  · have : D.body.length ≤ 40 := by
      unfold bodyOk at hb
      split at hb
      · simp at hb; omega
      · split at hb <;> (simp at hb; omega)
    omega
  · omega
  · omega
  · omega
end Go.Proofs.YtmcflfpckpjphaaGreatDoor.FrB

namespace Go.Proofs.YtmcflfpckpjphaaGreatDoor.NumV
open Go.RowKit Go.Proofs.YtmcflfpckpjphaaGreatDoor.Mem Go.Proofs.YtmcflfpckpjphaaGreatDoor.App Go.Proofs.YtmcflfpckpjphaaGreatDoor.Get

set_option maxRecDepth 100000 in
theorem fold_from (r : List Int) : ∀ a : Int, r.foldl (fun n z => n * 256 + z) a = a * 256 ^ r.length + val r := by
  induction r with
  | nil => intro a; simp [val]
  | cons z r ih =>
    intro a
    have hv : val (z :: r) = z * 256 ^ r.length + val r := by
      have := ih (0 * 256 + z)
      rw [show (0 : Int) * 256 + z = z by omega] at this
      show (z :: r).foldl (fun n z => n * 256 + z) 0 = _
      rw [List.foldl_cons, show (0 : Int) * 256 + z = z by omega, this]
    rw [List.foldl_cons, ih, hv, List.length_cons, Int.pow_succ, Int.add_mul, Int.mul_assoc, Int.mul_comm 256 (256 ^ r.length), Int.add_assoc]
set_option maxRecDepth 100000 in
theorem val_cons (z : Int) (r : List Int) : val (z :: r) = z * 256 ^ r.length + val r := by
  have := fold_from r (0 * 256 + z)
  rw [show (0 : Int) * 256 + z = z by omega] at this
  show (z :: r).foldl (fun n z => n * 256 + z) 0 = _
  rw [List.foldl_cons, show (0 : Int) * 256 + z = z by omega, this]
set_option maxRecDepth 100000 in
theorem pow8 (j : Nat) : (2 : Int) ^ (8 * j) = 256 ^ j := by
  rw [Int.pow_mul]
  rfl
set_option maxRecDepth 100000 in
theorem val_num (n : Int) (k : Nat) : val (num n k) = n % 256 ^ k := by
  induction k with
  | zero => simp [num, val]
  | succ j ih =>
    unfold num
    rw [val_cons, num_length, ih, pow8, Int.pow_succ]
    have hp : (0 : Int) < 256 ^ j := Int.pow_pos (by decide)
    generalize (256 : Int) ^ j = P at *
    have h1 := Int.emod_add_mul_ediv n P
    have h2 := Int.emod_add_mul_ediv (n / P) 256
    have a1 := Int.emod_nonneg n (show P ≠ 0 by omega)
    have a2 := Int.emod_lt_of_pos n hp
    have a3 := Int.emod_nonneg (n / P) (show (256 : Int) ≠ 0 by decide)
    have a4 := Int.emod_lt_of_pos (n / P) (show (0 : Int) < 256 by decide)
    generalize n / P / 256 = q at *
    generalize hu : n / P % 256 = u at *
    generalize n / P = m at *
    generalize n % P = v at *
    have e : n = (v + u * P) + P * 256 * q := by
      rw [← h1, ← h2, Int.mul_add, ← Int.mul_assoc, Int.mul_comm P u, Int.add_assoc]
    have hup : u * P ≤ 255 * P := Int.mul_le_mul_of_nonneg_right (by omega) (by omega)
    have hu0 : 0 ≤ u * P := Int.mul_nonneg a3 (by omega)
    rw [e, Int.add_mul_emod_self_left, Int.emod_eq_of_lt (by omega) (by omega)]
    omega

set_option maxRecDepth 100000 in
theorem piece_tail (r x : List Int) (k : Nat) (h : x.length = k) : piece (r ++ x) r.length k = x := by
  unfold piece
  rw [List.drop_left, List.take_of_length_le (by omega)]
set_option maxRecDepth 100000 in
theorem piece_mid (r x y : List Int) (k : Nat) (h : x.length = k) : piece (r ++ x ++ y) r.length k = x := by
  unfold piece
  rw [List.append_assoc, List.drop_left, List.take_left' h]
end Go.Proofs.YtmcflfpckpjphaaGreatDoor.NumV

namespace Go.Proofs.YtmcflfpckpjphaaGreatDoor.FrG
open Go.RowKit Go.Proofs.YtmcflfpckpjphaaGreatDoor.Mem Go.Proofs.YtmcflfpckpjphaaGreatDoor.App Go.Proofs.YtmcflfpckpjphaaGreatDoor.Get Go.Proofs.YtmcflfpckpjphaaGreatDoor.NumV Go.Proofs.YtmcflfpckpjphaaGreatDoor.FrZ Go.Proofs.YtmcflfpckpjphaaGreatDoor.FrP Go.Proofs.YtmcflfpckpjphaaGreatDoor.FrB

set_option maxRecDepth 100000 in
theorem num_inj (a b : Int) (k : Nat) (ha : 0 ≤ a) (ha' : a < 256 ^ k) (hb : 0 ≤ b) (hb' : b < 256 ^ k) (h : num a k = num b k) : a = b := by
  have e := congrArg val h
  rwa [val_num, val_num, Int.emod_eq_of_lt ha ha', Int.emod_eq_of_lt hb hb'] at e
set_option maxRecDepth 100000 in
theorem nil_of {l : List Int} (h : l.length = 0) : l = [] := List.length_eq_zero_iff.1 h

set_option maxRecDepth 100000 in
theorem putF_inj (D E : FrD) (h : frameOk D = true) (k : frameOk E = true) (e : putF D = putF E) : D = E := by
  have hh := (ok_iff D).1 h
  have kk := (ok_iff E).1 k
  have hd : ∀ D : FrD, frameOk D = true → (putF D).head? = some D.kind := by
    intro D h
    unfold putF
    rw [if_pos h]
    split
    · simp
    · split
      · simp
      · split <;> simp
  have hk : D.kind = E.kind := by
    have a := hd D h
    rw [e, hd E k] at a
    exact (Option.some.inj a).symm
  obtain ⟨dk, did, dcn, dsn, dtk, dco, dpr, dep, dsq, dbo, dta⟩ := D
  obtain ⟨ek, eid, ecn, esn, etk, eco, epr, eep, esq, ebo, eta⟩ := E
  simp only at hh kk hk
  subst hk
  rcases hh with ⟨h1, h2, h3, h4, h5, h6, h7, h8, h9, h10, h11, h12, h13, h14⟩ | ⟨h1, h2, h3, h4, h5, h⟩
  · rcases kk with ⟨k1, k2, k3, k4, k5, k6, k7, k8, k9, k10, k11, k12, k13, k14⟩ | ⟨_, _, _, _, _, ⟨k, _⟩ | ⟨k, _⟩ | ⟨k, _⟩⟩
    · have c1 : (dk == 1) = false := by simp; omega
      have c2 : (dk == 2) = false := by simp; omega
      have c3 : (dk == 3) = false := by simp; omega
      rw [putF_s _ (by assumption) c1 c2 c3, putF_s _ (by assumption) c1 c2 c3] at e
      simp only [List.append_assoc] at e
      obtain ⟨_, e⟩ := List.append_inj e rfl
      obtain ⟨e1, e⟩ := List.append_inj e (by rw [h5, k5])
      obtain ⟨e2, e⟩ := List.append_inj e (by rw [num_length, num_length])
      obtain ⟨e3, e⟩ := List.append_inj e (by rw [num_length, num_length])
      obtain ⟨e4, e5⟩ := List.append_inj e (by rw [h14, k14])
      have e2' := num_inj _ _ 4 h9 (by omega) k9 (by omega) e2
      have e3' := num_inj _ _ 6 h11 (by omega) k11 (by omega) e3
      rw [nil_of h4, nil_of k4, nil_of h7, nil_of k7, nil_of h8, nil_of k8, h3, k3, h6, k6, e1, e2', e3', e4, e5]
    · omega
    · omega
    · omega
  · rcases kk with ⟨k1, k2, _⟩ | ⟨k1, k2, k3, k4, k5, k⟩
    · rcases h with ⟨h, _⟩ | ⟨h, _⟩ | ⟨h, _⟩ <;> omega
    · rcases h with ⟨h6, h7, h8, h9, h10, h11, h12⟩ | ⟨h6, h7, h8, h9, h10, h11, h12⟩ | ⟨h6, h7, h8, h9, h10, h11, h12, h13⟩
      · rcases k with ⟨k6, k7, k8, k9, k10, k11, k12⟩ | ⟨k6, _⟩ | ⟨k6, _⟩
        · subst h6
          rw [putF_1 _ (by assumption) rfl, putF_1 _ (by assumption) rfl] at e
          simp only [List.append_assoc] at e
          obtain ⟨_, e⟩ := List.append_inj e rfl
          obtain ⟨e1, e⟩ := List.append_inj e rfl
          obtain ⟨e2, _⟩ := List.append_inj e (by rw [h5, k5])
          have e1' : did = eid := by simpa using e1
          rw [nil_of h9, nil_of k9, nil_of h11, nil_of k11, nil_of h12, nil_of k12, nil_of h3, nil_of k3, nil_of h4, nil_of k4, h1, k1, h2, k2, h10, k10, e1', e2]
        · omega
        · omega
      · rcases k with ⟨k6, _⟩ | ⟨k6, k7, k8, k9, k10, k11, k12⟩ | ⟨k6, _⟩
        · omega
        · subst h6
          rw [putF_2 _ (by assumption) rfl rfl, putF_2 _ (by assumption) rfl rfl] at e
          simp only [List.append_assoc] at e
          obtain ⟨_, e⟩ := List.append_inj e rfl
          obtain ⟨e1, e⟩ := List.append_inj e (by rw [h5, k5])
          obtain ⟨e2, e⟩ := List.append_inj e (by rw [h8, k8])
          obtain ⟨e3, e4⟩ := List.append_inj e (by rw [num_length, num_length])
          have e3' := num_inj _ _ 4 h9 (by omega) k9 (by omega) e3
          rw [nil_of h12, nil_of k12, nil_of h3, nil_of k3, nil_of h4, nil_of k4, h1, k1, h2, k2, h7, k7, e1, e2, e3', e4]
        · omega
      · rcases k with ⟨k6, _⟩ | ⟨k6, _⟩ | ⟨k6, k7, k8, k9, k10, k11, k12, k13⟩
        · omega
        · omega
        · subst h6
          rw [putF_3 _ (by assumption) rfl rfl rfl, putF_3 _ (by assumption) rfl rfl rfl] at e
          simp only [List.append_assoc] at e
          obtain ⟨_, e⟩ := List.append_inj e rfl
          obtain ⟨e0, e⟩ := List.append_inj e rfl
          obtain ⟨e1, e⟩ := List.append_inj e (by rw [h5, k5])
          obtain ⟨e2, e⟩ := List.append_inj e (by rw [h9, k9])
          obtain ⟨e3, e⟩ := List.append_inj e (by rw [num_length, num_length])
          obtain ⟨e4, e5⟩ := List.append_inj e (by rw [h12, k12])
          have e3' := num_inj _ _ 4 h10 (by omega) k10 (by omega) e3
          have e0' : did = eid := by simpa using e0
          rw [nil_of h3, nil_of k3, nil_of h4, nil_of k4, h1, k1, h2, k2, e0', e1, e2, e3', e4, e5]

def zeroF : FrD := ⟨0, 0, [], [], 0, [], [], 0, 0, [], []⟩
/-- What is read out of the bytes b. -/
def IsGot (b : List Int) (D : FrD) (ok : Bool) : Prop := (ok = true ∧ frameOk D = true ∧ putF D = b) ∨ (ok = false ∧ D = zeroF ∧ ∀ E, frameOk E = true → putF E ≠ b)
set_option maxRecDepth 100000 in
theorem IsGot.unique {b : List Int} {D E : FrD} {x y : Bool} (h : IsGot b D x) (k : IsGot b E y) : D = E ∧ x = y := by
  rcases h with ⟨rfl, h1, h2⟩ | ⟨rfl, rfl, h2⟩
  · rcases k with ⟨rfl, k1, k2⟩ | ⟨rfl, rfl, k2⟩
    · exact ⟨putF_inj D E h1 k1 (h2.trans k2.symm), rfl⟩
    · exact absurd h2 (k2 D h1)
  · rcases k with ⟨rfl, k1, k2⟩ | ⟨rfl, rfl, k2⟩
    · exact absurd k2 (h2 E k1)
    · exact ⟨rfl, rfl⟩
end Go.Proofs.YtmcflfpckpjphaaGreatDoor.FrG

namespace Go.Proofs.YtmcflfpckpjphaaGreatDoor.FrB2
open Go.RowKit Go.Proofs.YtmcflfpckpjphaaGreatDoor.Mem Go.Proofs.YtmcflfpckpjphaaGreatDoor.App Go.Proofs.YtmcflfpckpjphaaGreatDoor.Zone Go.Proofs.YtmcflfpckpjphaaGreatDoor.FrZ Go.Proofs.YtmcflfpckpjphaaGreatDoor.FrP Go.Proofs.YtmcflfpckpjphaaGreatDoor.FrB

set_option maxRecDepth 100000 in
theorem app {a b : List Int} (ha : Bytes a) (hb : Bytes b) : Bytes (a ++ b) := by
  intro z hz
  rcases List.mem_append.1 hz with h | h
  · exact ha z h
  · exact hb z h
set_option maxRecDepth 100000 in
theorem one {x : Int} (h0 : 0 ≤ x) (h1 : x ≤ 255) : Bytes [x] := by intro z hz; simp at hz; omega
set_option maxRecDepth 100000 in
theorem rep (n : Nat) : Bytes (List.replicate n 0) := by intro z hz; have := List.eq_of_mem_replicate hz; omega
set_option maxRecDepth 100000 in
theorem putF_bytes {w : World} {S : FrS} {D : FrD} (h : FrRd w S D) : Bytes (putF D) := by
  cases hok : frameOk D with
  | false => rw [putF_no D hok]; intro z hz; cases hz
  | true =>
    have hk := ok_kind D hok
    have K : Bytes [D.kind] := one (by omega) (by omega)
    cases k1 : (D.kind == 1) with
    | true => rw [putF_1 D hok k1]; have hi := ok_id1 D hok k1; exact app (app (app K (one (by omega) (by omega))) h.cn.bytes) (rep 20)
    | false =>
      cases k2 : (D.kind == 2) with
      | true => rw [putF_2 D hok k1 k2]; exact app (app (app (app K h.cn.bytes) h.sn.bytes) (num_bytes _ _)) h.cookie.bytes
      | false =>
        cases k3 : (D.kind == 3) with
        | true => rw [putF_3 D hok k1 k2 k3]; have hi := ok_id3 D hok k3; exact app (app (app (app (app (app K (one (by omega) (by omega))) h.cn.bytes) h.sn.bytes) (num_bytes _ _)) h.cookie.bytes) h.proof.bytes
        | false => rw [putF_s D hok k1 k2 k3]; exact app (app (app (app (app K h.sn.bytes) (num_bytes _ _)) (num_bytes _ _)) h.tag.bytes) h.body.bytes
set_option maxRecDepth 100000 in
theorem putF_len {w : World} {S : FrS} {D : FrD} (_h : FrRd w S D) : (putF D).length ≤ 4194304 := by
  cases hok : frameOk D with
  | false => rw [putF_no D hok]; simp
  | true =>
    have hl := ok_lens D hok
    unfold putF
    rw [if_pos hok]
    split
    · simp only [List.length_append, List.length_singleton, List.length_replicate]; omega
    · split
      · simp only [List.length_append, List.length_singleton, num_length]; omega
      · split
        · simp only [List.length_append, List.length_singleton, num_length]; omega
        · simp only [List.length_append, List.length_singleton, num_length]; omega
end Go.Proofs.YtmcflfpckpjphaaGreatDoor.FrB2

namespace Go.Proofs.YtmcflfpckpjphaaGreatDoor.FrQ
open Go.RowKit Go.Proofs.YtmcflfpckpjphaaGreatDoor.Mem Go.Proofs.YtmcflfpckpjphaaGreatDoor.App Go.Proofs.YtmcflfpckpjphaaGreatDoor.Blk Go.Proofs.YtmcflfpckpjphaaGreatDoor.Words Go.Proofs.YtmcflfpckpjphaaGreatDoor.Zone Go.Proofs.YtmcflfpckpjphaaGreatDoor.Res Go.Proofs.YtmcflfpckpjphaaGreatDoor.FrZ Go.Proofs.YtmcflfpckpjphaaGreatDoor.FrP Go.Proofs.YtmcflfpckpjphaaGreatDoor.FrB Go.Proofs.YtmcflfpckpjphaaGreatDoor.FrB2

/-- A new slice of the bytes l. -/
def New (w : World) (l : List Int) : Ending → World → Prop := fun e w' => ∃ g m cap, e = .returned (.slice (some ⟨g, 0, none⟩) m cap) ∧ m = l.length ∧ w.heap.size ≤ g ∧ Row w' g cap l ∧ Below w.heap.size w w'
set_option maxRecDepth 100000 in
theorem rowRd {w : World} {g m cap : Nat} {l : List Int} (r : Row w g cap l) (em : m = l.length) (hb : Bytes l) : SRd w ⟨some ⟨g, 0, none⟩, m, cap⟩ l :=
  ⟨em, r.rd, (fun e => by cases e), by rw [em]; exact r.1, hb⟩
set_option maxRecDepth 100000 in
theorem putN_bytes (n k : Int) : Bytes (putN n k) := by
  unfold putN; split
  · exact num_bytes _ _
  · intro z hz; cases hz
set_option maxRecDepth 100000 in
theorem putB (s t : Sl) (x y : List Int) (w : World) (hx : SRd w s x) (hy : SRd w t y) (lx : x.length ≤ 100000) (ly : y.length ≤ 100000) :
    Calls Tryz.prog 57 #[.slice s.a s.n s.c, .slice t.a t.n t.c] w (New w (x ++ y)) := by
  refine (putBytes s.a t.a s.n s.c t.n t.c x y w hx.len hy.len hx.rd hy.rd hx.nil hy.nil (by omega) (by omega)).mono ?_
  rintro e w' ⟨rfl, r, b⟩
  exact ⟨_, _, _, rfl, by rw [List.length_append, hx.len, hy.len], Nat.le_refl _, r, b⟩
set_option maxRecDepth 100000 in
theorem putK (s : Sl) (x : List Int) (n k : Int) (w : World) (hx : SRd w s x) (lx : x.length ≤ 100000) :
    Calls Tryz.prog 73 #[.slice s.a s.n s.c, .int .i64 n, .int .i64 k] w (New w (x ++ putN n k)) :=
  implPutN s.a s.n s.c x n k w hx.len hx.rd hx.nil (by omega)

end Go.Proofs.YtmcflfpckpjphaaGreatDoor.FrQ

namespace Go.Proofs.YtmcflfpckpjphaaGreatDoor.FrW
open Go.RowKit Go.Proofs.YtmcflfpckpjphaaGreatDoor.Mem Go.Proofs.YtmcflfpckpjphaaGreatDoor.Blk Go.Proofs.YtmcflfpckpjphaaGreatDoor.Words Go.Proofs.YtmcflfpckpjphaaGreatDoor.Zone Go.Proofs.YtmcflfpckpjphaaGreatDoor.Res Go.Proofs.YtmcflfpckpjphaaGreatDoor.FrZ Go.Proofs.YtmcflfpckpjphaaGreatDoor.FrP

set_option maxRecDepth 100000 in
theorem geq_leq {x a b : Int} {p : Prop} [Decidable p] (h : p ↔ (a ≤ x ∧ x ≤ b)) : decide p = isIn x a b := by
  unfold isIn; simp only [h]

set_option maxRecDepth 100000 in
theorem isId (x : Int) (w : World) :
    Calls Tryz.prog 205 #[.int .i64 x] w fun e w' => e = .returned (.bool (isIn x 1 9)) ∧ w = w' := by
  by_cases h1 : x ≥ 1
  · by_cases h2 : x ≤ 9
    · have H : Hid (isIn x 1 9 = true) := isIn_yes ⟨h1, by omega⟩
      go_enter Tryz.func205, Tryz.ntmps205
      go_wp2
      go_ret
      exact ⟨by rw [H.out]; simp, rfl⟩
    · have H : Hid (isIn x 1 9 = false) := isIn_no (fun h => h2 (by omega))
      go_enter Tryz.func205, Tryz.ntmps205
      go_wp2
      go_ret
      exact ⟨by rw [H.out]; simp, rfl⟩
  · have H : Hid (isIn x 1 9 = false) := isIn_no (fun h => h1 h.1)
    go_enter Tryz.func205, Tryz.ntmps205
    go_wp2
    go_ret
    exact ⟨by rw [H.out]; simp, rfl⟩

set_option maxRecDepth 100000 in
theorem isTime (x : Int) (w : World) :
    Calls Tryz.prog 208 #[.int .i64 x] w fun e w' => e = .returned (.bool (isIn x 0 1000000)) ∧ w = w' := by
  by_cases h1 : x ≥ 0
  · by_cases h2 : x ≤ 1000000
    · have H : Hid (isIn x 0 1000000 = true) := isIn_yes ⟨h1, by omega⟩
      go_enter Tryz.func208, Tryz.ntmps208
      go_wp2
      go_ret
      exact ⟨by rw [H.out]; simp, rfl⟩
    · have H : Hid (isIn x 0 1000000 = false) := isIn_no (fun h => h2 (by omega))
      go_enter Tryz.func208, Tryz.ntmps208
      go_wp2
      go_ret
      exact ⟨by rw [H.out]; simp, rfl⟩
  · have H : Hid (isIn x 0 1000000 = false) := isIn_no (fun h => h1 h.1)
    go_enter Tryz.func208, Tryz.ntmps208
    go_wp2
    go_ret
    exact ⟨by rw [H.out]; simp, rfl⟩

set_option maxRecDepth 100000 in
theorem isEpoch (x : Int) (w : World) :
    Calls Tryz.prog 80 #[.int .i64 x] w fun e w' => e = .returned (.bool (isIn x 0 4294967295)) ∧ w = w' := by
  by_cases h1 : x ≥ 0
  · by_cases h2 : x ≤ 4294967295
    · have H : Hid (isIn x 0 4294967295 = true) := isIn_yes ⟨h1, by omega⟩
      go_enter Tryz.func80, Tryz.ntmps80
      go_wp2
      go_ret
      exact ⟨by rw [H.out]; simp, rfl⟩
    · have H : Hid (isIn x 0 4294967295 = false) := isIn_no (fun h => h2 (by omega))
      go_enter Tryz.func80, Tryz.ntmps80
      go_wp2
      go_ret
      exact ⟨by rw [H.out]; simp, rfl⟩
  · have H : Hid (isIn x 0 4294967295 = false) := isIn_no (fun h => h1 h.1)
    go_enter Tryz.func80, Tryz.ntmps80
    go_wp2
    go_ret
    exact ⟨by rw [H.out]; simp, rfl⟩

set_option maxRecDepth 100000 in
theorem isSeq (x : Int) (w : World) :
    Calls Tryz.prog 127 #[.int .i64 x] w fun e w' => e = .returned (.bool (isIn x 0 281474976710655)) ∧ w = w' := by
  by_cases h1 : x ≥ 0
  · by_cases h2 : x < 281474976710656
    · have H : Hid (isIn x 0 281474976710655 = true) := isIn_yes ⟨h1, by omega⟩
      go_enter Tryz.func127, Tryz.ntmps127
      go_wp2
      go_ret
      exact ⟨by rw [H.out]; simp, rfl⟩
    · have H : Hid (isIn x 0 281474976710655 = false) := isIn_no (fun h => h2 (by omega))
      go_enter Tryz.func127, Tryz.ntmps127
      go_wp2
      go_ret
      exact ⟨by rw [H.out]; simp, rfl⟩
  · have H : Hid (isIn x 0 281474976710655 = false) := isIn_no (fun h => h1 h.1)
    go_enter Tryz.func127, Tryz.ntmps127
    go_wp2
    go_ret
    exact ⟨by rw [H.out]; simp, rfl⟩

set_option maxRecDepth 100000 in
theorem isNonce (a : Option Addr) (n c : Nat) (w : World) :
    Calls Tryz.prog 142 #[.slice a n c] w fun e w' => e = .returned (.bool ((n : Int) == 12)) ∧ w = w' := by
  go_enter Tryz.func142, Tryz.ntmps142
  go_wp2
  go_ret
  exact ⟨by simp, rfl⟩

set_option maxRecDepth 100000 in
theorem isTag (a : Option Addr) (n c : Nat) (w : World) :
    Calls Tryz.prog 209 #[.slice a n c] w fun e w' => e = .returned (.bool ((n : Int) == 16)) ∧ w = w' := by
  go_enter Tryz.func209, Tryz.ntmps209
  go_wp2
  go_ret
  exact ⟨by simp, rfl⟩

set_option maxRecDepth 100000 in
set_option maxHeartbeats 1600000 in
theorem initRight (id : Int) (cn : Sl) (w : World) :
    Calls Tryz.prog 204 #[.agg #[.int .i64 id, .slice cn.a cn.n cn.c]] w fun e w' => e = .returned (.bool (isIn id 1 9 && ((cn.n : Int) == 12))) ∧ Below w.heap.size w w' := by
  obtain ⟨x0, hx0⟩ : ∃ x0, w.alloc (.cells #[.int .i64 id, .slice cn.a cn.n cn.c] 122) = x0 := ⟨_, rfl⟩
  have HW0 : Hid (w.alloc (.cells #[.int .i64 id, .slice cn.a cn.n cn.c] 122) = x0) := hx0
  have B0 : Hid (Below w.heap.size w x0) := by rw [← hx0]; exact (Below.refl _ _).alloc (Nat.le_refl _) _
  have K0 : Hid (Blk x0 w.heap.size 122 [.int .i64 id, .slice cn.a cn.n cn.c]) := by rw [← hx0]; exact Blk.new w _ _
  clear hx0
  go_enter Tryz.func204, Tryz.ntmps204
  go_wp2_with fail
  rw [HW0.out]
  generalize hga : w.heap.size = ga at K0 ⊢
  have c0 := K0.out.cell 0 rfl
  have c1 := K0.out.cell 1 rfl
  refine (isId id x0).mono ?_
  rintro e y ⟨rfl, rfl⟩
  cases h0 : (isIn id 1 9) with
  | false =>
    go_wp2
    go_ret
    exact ⟨by rw [h0]; simp, hga ▸ B0.out⟩
  | true =>
    go_wp2_with fail
    refine (isNonce cn.a cn.n cn.c x0).mono ?_
    rintro e y ⟨rfl, rfl⟩
    go_wp2
    go_ret
    exact ⟨by rw [h0]; simp, hga ▸ B0.out⟩

set_option maxRecDepth 100000 in
set_option maxHeartbeats 1600000 in
theorem cookRight (cn sn : Sl) (tick : Int) (cookie : Sl) (w : World) :
    Calls Tryz.prog 207 #[.agg #[.slice cn.a cn.n cn.c, .slice sn.a sn.n sn.c, .int .i64 tick, .slice cookie.a cookie.n cookie.c]] w fun e w' => e = .returned (.bool ((cn.n : Int) == 12 && ((sn.n : Int) == 12 && (isIn tick 0 1000000 && ((cookie.n : Int) == 16))))) ∧ Below w.heap.size w w' := by
  obtain ⟨x0, hx0⟩ : ∃ x0, w.alloc (.cells #[.slice cn.a cn.n cn.c, .slice sn.a sn.n sn.c, .int .i64 tick, .slice cookie.a cookie.n cookie.c] 124) = x0 := ⟨_, rfl⟩
  have HW0 : Hid (w.alloc (.cells #[.slice cn.a cn.n cn.c, .slice sn.a sn.n sn.c, .int .i64 tick, .slice cookie.a cookie.n cookie.c] 124) = x0) := hx0
  have B0 : Hid (Below w.heap.size w x0) := by rw [← hx0]; exact (Below.refl _ _).alloc (Nat.le_refl _) _
  have K0 : Hid (Blk x0 w.heap.size 124 [.slice cn.a cn.n cn.c, .slice sn.a sn.n sn.c, .int .i64 tick, .slice cookie.a cookie.n cookie.c]) := by rw [← hx0]; exact Blk.new w _ _
  clear hx0
  go_enter Tryz.func207, Tryz.ntmps207
  go_wp2_with fail
  rw [HW0.out]
  generalize hga : w.heap.size = ga at K0 ⊢
  have c0 := K0.out.cell 0 rfl
  have c1 := K0.out.cell 1 rfl
  have c2 := K0.out.cell 2 rfl
  have c3 := K0.out.cell 3 rfl
  refine (isNonce cn.a cn.n cn.c x0).mono ?_
  rintro e y ⟨rfl, rfl⟩
  cases h0 : ((cn.n : Int) == 12) with
  | false =>
    go_wp2
    go_ret
    exact ⟨by rw [h0]; simp, hga ▸ B0.out⟩
  | true =>
    go_wp2_with fail
    refine (isNonce sn.a sn.n sn.c x0).mono ?_
    rintro e y ⟨rfl, rfl⟩
    cases h1 : ((sn.n : Int) == 12) with
    | false =>
      go_wp2
      go_ret
      exact ⟨by rw [h0, h1]; simp, hga ▸ B0.out⟩
    | true =>
      go_wp2_with fail
      refine (isTime tick x0).mono ?_
      rintro e y ⟨rfl, rfl⟩
      cases h2 : (isIn tick 0 1000000) with
      | false =>
        go_wp2
        go_ret
        exact ⟨by rw [h0, h1, h2]; simp, hga ▸ B0.out⟩
      | true =>
        go_wp2_with fail
        refine (isTag cookie.a cookie.n cookie.c x0).mono ?_
        rintro e y ⟨rfl, rfl⟩
        go_wp2
        go_ret
        exact ⟨by rw [h0, h1, h2]; simp, hga ▸ B0.out⟩

set_option maxRecDepth 100000 in
set_option maxHeartbeats 1600000 in
theorem finRight (id : Int) (cn sn : Sl) (tick : Int) (cookie proof : Sl) (w : World) :
    Calls Tryz.prog 211 #[.agg #[.int .i64 id, .slice cn.a cn.n cn.c, .slice sn.a sn.n sn.c, .int .i64 tick, .slice cookie.a cookie.n cookie.c, .slice proof.a proof.n proof.c]] w fun e w' => e = .returned (.bool (isIn id 1 9 && (((cn.n : Int) == 12) && (((sn.n : Int) == 12) && (isIn tick 0 1000000 && ((cookie.n : Int) == 16))) && ((proof.n : Int) == 16)))) ∧ Below w.heap.size w w' := by
  obtain ⟨x0, hx0⟩ : ∃ x0, w.alloc (.cells #[.int .i64 id, .slice cn.a cn.n cn.c, .slice sn.a sn.n sn.c, .int .i64 tick, .slice cookie.a cookie.n cookie.c, .slice proof.a proof.n proof.c] 127) = x0 := ⟨_, rfl⟩
  have HW0 : Hid (w.alloc (.cells #[.int .i64 id, .slice cn.a cn.n cn.c, .slice sn.a sn.n sn.c, .int .i64 tick, .slice cookie.a cookie.n cookie.c, .slice proof.a proof.n proof.c] 127) = x0) := hx0
  have B0 : Hid (Below w.heap.size w x0) := by rw [← hx0]; exact (Below.refl _ _).alloc (Nat.le_refl _) _
  have K0 : Hid (Blk x0 w.heap.size 127 [.int .i64 id, .slice cn.a cn.n cn.c, .slice sn.a sn.n sn.c, .int .i64 tick, .slice cookie.a cookie.n cookie.c, .slice proof.a proof.n proof.c]) := by rw [← hx0]; exact Blk.new w _ _
  clear hx0
  go_enter Tryz.func211, Tryz.ntmps211
  go_wp2_with fail
  rw [HW0.out]
  generalize hga : w.heap.size = ga at K0 ⊢
  have c0 := K0.out.cell 0 rfl
  have c1 := K0.out.cell 1 rfl
  have c2 := K0.out.cell 2 rfl
  have c3 := K0.out.cell 3 rfl
  have c4 := K0.out.cell 4 rfl
  have c5 := K0.out.cell 5 rfl
  refine (isId id x0).mono ?_
  rintro e y ⟨rfl, rfl⟩
  cases h0 : (isIn id 1 9) with
  | false =>
    go_wp2
    go_ret
    exact ⟨by rw [h0]; simp, hga ▸ B0.out⟩
  | true =>
    go_wp2_with fail
    refine (cookRight cn sn tick cookie x0).mono ?_
    rintro e x1 ⟨rfl, b1⟩
    have B1 : Hid (Below w.heap.size w x1) := B0.out.trans (b1.mono B0.out.size)
    have K1 : Hid (Blk x1 ga 127 [.int .i64 id, .slice cn.a cn.n cn.c, .slice sn.a sn.n sn.c, .int .i64 tick, .slice cookie.a cookie.n cookie.c, .slice proof.a proof.n proof.c]) := K0.out.later b1
    clear b1 c0 c1 c2 c3 c4 c5
    have c0 := K1.out.cell 0 rfl
    have c1 := K1.out.cell 1 rfl
    have c2 := K1.out.cell 2 rfl
    have c3 := K1.out.cell 3 rfl
    have c4 := K1.out.cell 4 rfl
    have c5 := K1.out.cell 5 rfl
    cases h1 : (((cn.n : Int) == 12) && (((sn.n : Int) == 12) && (isIn tick 0 1000000 && ((cookie.n : Int) == 16)))) with
    | false =>
      go_wp2
      go_ret
      exact ⟨by rw [h0, h1]; simp, hga ▸ B1.out⟩
    | true =>
      go_wp2_with fail
      refine (isTag proof.a proof.n proof.c x1).mono ?_
      rintro e y ⟨rfl, rfl⟩
      go_wp2
      go_ret
      exact ⟨by rw [h0, h1]; simp, hga ▸ B1.out⟩

set_option maxRecDepth 100000 in
set_option maxHeartbeats 1600000 in
theorem partsRight (sn : Sl) (epoch seq : Int) (tag body : Sl) (w : World) :
    Calls Tryz.prog 213 #[.agg #[.slice sn.a sn.n sn.c, .int .i64 epoch, .int .i64 seq, .slice tag.a tag.n tag.c, .slice body.a body.n body.c]] w fun e w' => e = .returned (.bool ((sn.n : Int) == 12 && (isIn epoch 0 4294967295 && (isIn seq 0 281474976710655 && ((tag.n : Int) == 16))))) ∧ Below w.heap.size w w' := by
  obtain ⟨x0, hx0⟩ : ∃ x0, w.alloc (.cells #[.slice sn.a sn.n sn.c, .int .i64 epoch, .int .i64 seq, .slice tag.a tag.n tag.c, .slice body.a body.n body.c] 129) = x0 := ⟨_, rfl⟩
  have HW0 : Hid (w.alloc (.cells #[.slice sn.a sn.n sn.c, .int .i64 epoch, .int .i64 seq, .slice tag.a tag.n tag.c, .slice body.a body.n body.c] 129) = x0) := hx0
  have B0 : Hid (Below w.heap.size w x0) := by rw [← hx0]; exact (Below.refl _ _).alloc (Nat.le_refl _) _
  have K0 : Hid (Blk x0 w.heap.size 129 [.slice sn.a sn.n sn.c, .int .i64 epoch, .int .i64 seq, .slice tag.a tag.n tag.c, .slice body.a body.n body.c]) := by rw [← hx0]; exact Blk.new w _ _
  clear hx0
  go_enter Tryz.func213, Tryz.ntmps213
  go_wp2_with fail
  rw [HW0.out]
  generalize hga : w.heap.size = ga at K0 ⊢
  have c0 := K0.out.cell 0 rfl
  have c1 := K0.out.cell 1 rfl
  have c2 := K0.out.cell 2 rfl
  have c3 := K0.out.cell 3 rfl
  have c4 := K0.out.cell 4 rfl
  refine (isNonce sn.a sn.n sn.c x0).mono ?_
  rintro e y ⟨rfl, rfl⟩
  cases h0 : ((sn.n : Int) == 12) with
  | false =>
    go_wp2
    go_ret
    exact ⟨by rw [h0]; simp, hga ▸ B0.out⟩
  | true =>
    go_wp2_with fail
    refine (isEpoch epoch x0).mono ?_
    rintro e y ⟨rfl, rfl⟩
    cases h1 : (isIn epoch 0 4294967295) with
    | false =>
      go_wp2
      go_ret
      exact ⟨by rw [h0, h1]; simp, hga ▸ B0.out⟩
    | true =>
      go_wp2_with fail
      refine (isSeq seq x0).mono ?_
      rintro e y ⟨rfl, rfl⟩
      cases h2 : (isIn seq 0 281474976710655) with
      | false =>
        go_wp2
        go_ret
        exact ⟨by rw [h0, h1, h2]; simp, hga ▸ B0.out⟩
      | true =>
        go_wp2_with fail
        refine (isTag tag.a tag.n tag.c x0).mono ?_
        rintro e y ⟨rfl, rfl⟩
        go_wp2
        go_ret
        exact ⟨by rw [h0, h1, h2]; simp, hga ▸ B0.out⟩

set_option maxRecDepth 100000 in
set_option maxHeartbeats 1600000 in
theorem dataRight (sn : Sl) (epoch seq : Int) (tag body : Sl) (w : World) :
    Calls Tryz.prog 215 #[.agg #[.slice sn.a sn.n sn.c, .int .i64 epoch, .int .i64 seq, .slice tag.a tag.n tag.c, .slice body.a body.n body.c]] w fun e w' => e = .returned (.bool (((sn.n : Int) == 12) && (isIn epoch 0 4294967295 && (isIn seq 0 281474976710655 && ((tag.n : Int) == 16))) && (decide ((body.n : Int) ≤ 40)))) ∧ Below w.heap.size w w' := by
  obtain ⟨x0, hx0⟩ : ∃ x0, w.alloc (.cells #[.slice sn.a sn.n sn.c, .int .i64 epoch, .int .i64 seq, .slice tag.a tag.n tag.c, .slice body.a body.n body.c] 132) = x0 := ⟨_, rfl⟩
  have HW0 : Hid (w.alloc (.cells #[.slice sn.a sn.n sn.c, .int .i64 epoch, .int .i64 seq, .slice tag.a tag.n tag.c, .slice body.a body.n body.c] 132) = x0) := hx0
  have B0 : Hid (Below w.heap.size w x0) := by rw [← hx0]; exact (Below.refl _ _).alloc (Nat.le_refl _) _
  have K0 : Hid (Blk x0 w.heap.size 132 [.slice sn.a sn.n sn.c, .int .i64 epoch, .int .i64 seq, .slice tag.a tag.n tag.c, .slice body.a body.n body.c]) := by rw [← hx0]; exact Blk.new w _ _
  clear hx0
  go_enter Tryz.func215, Tryz.ntmps215
  go_wp2_with fail
  rw [HW0.out]
  generalize hga : w.heap.size = ga at K0 ⊢
  have c0 := K0.out.cell 0 rfl
  have c1 := K0.out.cell 1 rfl
  have c2 := K0.out.cell 2 rfl
  have c3 := K0.out.cell 3 rfl
  have c4 := K0.out.cell 4 rfl
  refine (partsRight sn epoch seq tag body x0).mono ?_
  rintro e x1 ⟨rfl, b1⟩
  have B1 : Hid (Below w.heap.size w x1) := B0.out.trans (b1.mono B0.out.size)
  have K1 : Hid (Blk x1 ga 132 [.slice sn.a sn.n sn.c, .int .i64 epoch, .int .i64 seq, .slice tag.a tag.n tag.c, .slice body.a body.n body.c]) := K0.out.later b1
  clear b1 c0 c1 c2 c3 c4
  have c0 := K1.out.cell 0 rfl
  have c1 := K1.out.cell 1 rfl
  have c2 := K1.out.cell 2 rfl
  have c3 := K1.out.cell 3 rfl
  have c4 := K1.out.cell 4 rfl
  cases h0 : (((sn.n : Int) == 12) && (isIn epoch 0 4294967295 && (isIn seq 0 281474976710655 && ((tag.n : Int) == 16)))) with
  | false =>
    go_wp2
    go_ret
    exact ⟨by rw [h0]; simp, hga ▸ B1.out⟩
  | true =>
    go_wp2
    go_ret
    exact ⟨by rw [h0]; simp, hga ▸ B1.out⟩

set_option maxRecDepth 100000 in
set_option maxHeartbeats 1600000 in
theorem chalRight (sn : Sl) (epoch seq : Int) (tag body : Sl) (w : World) :
    Calls Tryz.prog 217 #[.agg #[.slice sn.a sn.n sn.c, .int .i64 epoch, .int .i64 seq, .slice tag.a tag.n tag.c, .slice body.a body.n body.c]] w fun e w' => e = .returned (.bool (((sn.n : Int) == 12) && (isIn epoch 0 4294967295 && (isIn seq 0 281474976710655 && ((tag.n : Int) == 16))) && ((body.n : Int) == 12))) ∧ Below w.heap.size w w' := by
  obtain ⟨x0, hx0⟩ : ∃ x0, w.alloc (.cells #[.slice sn.a sn.n sn.c, .int .i64 epoch, .int .i64 seq, .slice tag.a tag.n tag.c, .slice body.a body.n body.c] 133) = x0 := ⟨_, rfl⟩
  have HW0 : Hid (w.alloc (.cells #[.slice sn.a sn.n sn.c, .int .i64 epoch, .int .i64 seq, .slice tag.a tag.n tag.c, .slice body.a body.n body.c] 133) = x0) := hx0
  have B0 : Hid (Below w.heap.size w x0) := by rw [← hx0]; exact (Below.refl _ _).alloc (Nat.le_refl _) _
  have K0 : Hid (Blk x0 w.heap.size 133 [.slice sn.a sn.n sn.c, .int .i64 epoch, .int .i64 seq, .slice tag.a tag.n tag.c, .slice body.a body.n body.c]) := by rw [← hx0]; exact Blk.new w _ _
  clear hx0
  go_enter Tryz.func217, Tryz.ntmps217
  go_wp2_with fail
  rw [HW0.out]
  generalize hga : w.heap.size = ga at K0 ⊢
  have c0 := K0.out.cell 0 rfl
  have c1 := K0.out.cell 1 rfl
  have c2 := K0.out.cell 2 rfl
  have c3 := K0.out.cell 3 rfl
  have c4 := K0.out.cell 4 rfl
  refine (partsRight sn epoch seq tag body x0).mono ?_
  rintro e x1 ⟨rfl, b1⟩
  have B1 : Hid (Below w.heap.size w x1) := B0.out.trans (b1.mono B0.out.size)
  have K1 : Hid (Blk x1 ga 133 [.slice sn.a sn.n sn.c, .int .i64 epoch, .int .i64 seq, .slice tag.a tag.n tag.c, .slice body.a body.n body.c]) := K0.out.later b1
  clear b1 c0 c1 c2 c3 c4
  have c0 := K1.out.cell 0 rfl
  have c1 := K1.out.cell 1 rfl
  have c2 := K1.out.cell 2 rfl
  have c3 := K1.out.cell 3 rfl
  have c4 := K1.out.cell 4 rfl
  cases h0 : (((sn.n : Int) == 12) && (isIn epoch 0 4294967295 && (isIn seq 0 281474976710655 && ((tag.n : Int) == 16)))) with
  | false =>
    go_wp2
    go_ret
    exact ⟨by rw [h0]; simp, hga ▸ B1.out⟩
  | true =>
    go_wp2_with fail
    refine (isNonce body.a body.n body.c x1).mono ?_
    rintro e y ⟨rfl, rfl⟩
    go_wp2
    go_ret
    exact ⟨by rw [h0]; simp, hga ▸ B1.out⟩

set_option maxRecDepth 100000 in
set_option maxHeartbeats 1600000 in
theorem respRight (sn : Sl) (epoch seq : Int) (tag body : Sl) (w : World) :
    Calls Tryz.prog 219 #[.agg #[.slice sn.a sn.n sn.c, .int .i64 epoch, .int .i64 seq, .slice tag.a tag.n tag.c, .slice body.a body.n body.c]] w fun e w' => e = .returned (.bool (((sn.n : Int) == 12) && (isIn epoch 0 4294967295 && (isIn seq 0 281474976710655 && ((tag.n : Int) == 16))) && ((body.n : Int) == 12))) ∧ Below w.heap.size w w' := by
  obtain ⟨x0, hx0⟩ : ∃ x0, w.alloc (.cells #[.slice sn.a sn.n sn.c, .int .i64 epoch, .int .i64 seq, .slice tag.a tag.n tag.c, .slice body.a body.n body.c] 134) = x0 := ⟨_, rfl⟩
  have HW0 : Hid (w.alloc (.cells #[.slice sn.a sn.n sn.c, .int .i64 epoch, .int .i64 seq, .slice tag.a tag.n tag.c, .slice body.a body.n body.c] 134) = x0) := hx0
  have B0 : Hid (Below w.heap.size w x0) := by rw [← hx0]; exact (Below.refl _ _).alloc (Nat.le_refl _) _
  have K0 : Hid (Blk x0 w.heap.size 134 [.slice sn.a sn.n sn.c, .int .i64 epoch, .int .i64 seq, .slice tag.a tag.n tag.c, .slice body.a body.n body.c]) := by rw [← hx0]; exact Blk.new w _ _
  clear hx0
  go_enter Tryz.func219, Tryz.ntmps219
  go_wp2_with fail
  rw [HW0.out]
  generalize hga : w.heap.size = ga at K0 ⊢
  have c0 := K0.out.cell 0 rfl
  have c1 := K0.out.cell 1 rfl
  have c2 := K0.out.cell 2 rfl
  have c3 := K0.out.cell 3 rfl
  have c4 := K0.out.cell 4 rfl
  refine (partsRight sn epoch seq tag body x0).mono ?_
  rintro e x1 ⟨rfl, b1⟩
  have B1 : Hid (Below w.heap.size w x1) := B0.out.trans (b1.mono B0.out.size)
  have K1 : Hid (Blk x1 ga 134 [.slice sn.a sn.n sn.c, .int .i64 epoch, .int .i64 seq, .slice tag.a tag.n tag.c, .slice body.a body.n body.c]) := K0.out.later b1
  clear b1 c0 c1 c2 c3 c4
  have c0 := K1.out.cell 0 rfl
  have c1 := K1.out.cell 1 rfl
  have c2 := K1.out.cell 2 rfl
  have c3 := K1.out.cell 3 rfl
  have c4 := K1.out.cell 4 rfl
  cases h0 : (((sn.n : Int) == 12) && (isIn epoch 0 4294967295 && (isIn seq 0 281474976710655 && ((tag.n : Int) == 16)))) with
  | false =>
    go_wp2
    go_ret
    exact ⟨by rw [h0]; simp, hga ▸ B1.out⟩
  | true =>
    go_wp2_with fail
    refine (isNonce body.a body.n body.c x1).mono ?_
    rintro e y ⟨rfl, rfl⟩
    go_wp2
    go_ret
    exact ⟨by rw [h0]; simp, hga ▸ B1.out⟩

set_option maxRecDepth 100000 in
set_option maxHeartbeats 1600000 in
theorem rekRight (sn : Sl) (epoch seq : Int) (tag body : Sl) (w : World) :
    Calls Tryz.prog 221 #[.agg #[.slice sn.a sn.n sn.c, .int .i64 epoch, .int .i64 seq, .slice tag.a tag.n tag.c, .slice body.a body.n body.c]] w fun e w' => e = .returned (.bool (((sn.n : Int) == 12) && (isIn epoch 0 4294967295 && (isIn seq 0 281474976710655 && ((tag.n : Int) == 16))) && ((body.n : Int) == 4))) ∧ Below w.heap.size w w' := by
  obtain ⟨x0, hx0⟩ : ∃ x0, w.alloc (.cells #[.slice sn.a sn.n sn.c, .int .i64 epoch, .int .i64 seq, .slice tag.a tag.n tag.c, .slice body.a body.n body.c] 135) = x0 := ⟨_, rfl⟩
  have HW0 : Hid (w.alloc (.cells #[.slice sn.a sn.n sn.c, .int .i64 epoch, .int .i64 seq, .slice tag.a tag.n tag.c, .slice body.a body.n body.c] 135) = x0) := hx0
  have B0 : Hid (Below w.heap.size w x0) := by rw [← hx0]; exact (Below.refl _ _).alloc (Nat.le_refl _) _
  have K0 : Hid (Blk x0 w.heap.size 135 [.slice sn.a sn.n sn.c, .int .i64 epoch, .int .i64 seq, .slice tag.a tag.n tag.c, .slice body.a body.n body.c]) := by rw [← hx0]; exact Blk.new w _ _
  clear hx0
  go_enter Tryz.func221, Tryz.ntmps221
  go_wp2_with fail
  rw [HW0.out]
  generalize hga : w.heap.size = ga at K0 ⊢
  have c0 := K0.out.cell 0 rfl
  have c1 := K0.out.cell 1 rfl
  have c2 := K0.out.cell 2 rfl
  have c3 := K0.out.cell 3 rfl
  have c4 := K0.out.cell 4 rfl
  refine (partsRight sn epoch seq tag body x0).mono ?_
  rintro e x1 ⟨rfl, b1⟩
  have B1 : Hid (Below w.heap.size w x1) := B0.out.trans (b1.mono B0.out.size)
  have K1 : Hid (Blk x1 ga 135 [.slice sn.a sn.n sn.c, .int .i64 epoch, .int .i64 seq, .slice tag.a tag.n tag.c, .slice body.a body.n body.c]) := K0.out.later b1
  clear b1 c0 c1 c2 c3 c4
  have c0 := K1.out.cell 0 rfl
  have c1 := K1.out.cell 1 rfl
  have c2 := K1.out.cell 2 rfl
  have c3 := K1.out.cell 3 rfl
  have c4 := K1.out.cell 4 rfl
  cases h0 : (((sn.n : Int) == 12) && (isIn epoch 0 4294967295 && (isIn seq 0 281474976710655 && ((tag.n : Int) == 16)))) with
  | false =>
    go_wp2
    go_ret
    exact ⟨by rw [h0]; simp, hga ▸ B1.out⟩
  | true =>
    go_wp2
    go_ret
    exact ⟨by rw [h0]; simp, hga ▸ B1.out⟩

set_option maxRecDepth 100000 in
set_option maxHeartbeats 1600000 in
theorem ackRight (sn : Sl) (epoch seq : Int) (tag body : Sl) (w : World) :
    Calls Tryz.prog 223 #[.agg #[.slice sn.a sn.n sn.c, .int .i64 epoch, .int .i64 seq, .slice tag.a tag.n tag.c, .slice body.a body.n body.c]] w fun e w' => e = .returned (.bool (((sn.n : Int) == 12) && (isIn epoch 0 4294967295 && (isIn seq 0 281474976710655 && ((tag.n : Int) == 16))) && ((body.n : Int) == 4))) ∧ Below w.heap.size w w' := by
  obtain ⟨x0, hx0⟩ : ∃ x0, w.alloc (.cells #[.slice sn.a sn.n sn.c, .int .i64 epoch, .int .i64 seq, .slice tag.a tag.n tag.c, .slice body.a body.n body.c] 136) = x0 := ⟨_, rfl⟩
  have HW0 : Hid (w.alloc (.cells #[.slice sn.a sn.n sn.c, .int .i64 epoch, .int .i64 seq, .slice tag.a tag.n tag.c, .slice body.a body.n body.c] 136) = x0) := hx0
  have B0 : Hid (Below w.heap.size w x0) := by rw [← hx0]; exact (Below.refl _ _).alloc (Nat.le_refl _) _
  have K0 : Hid (Blk x0 w.heap.size 136 [.slice sn.a sn.n sn.c, .int .i64 epoch, .int .i64 seq, .slice tag.a tag.n tag.c, .slice body.a body.n body.c]) := by rw [← hx0]; exact Blk.new w _ _
  clear hx0
  go_enter Tryz.func223, Tryz.ntmps223
  go_wp2_with fail
  rw [HW0.out]
  generalize hga : w.heap.size = ga at K0 ⊢
  have c0 := K0.out.cell 0 rfl
  have c1 := K0.out.cell 1 rfl
  have c2 := K0.out.cell 2 rfl
  have c3 := K0.out.cell 3 rfl
  have c4 := K0.out.cell 4 rfl
  refine (partsRight sn epoch seq tag body x0).mono ?_
  rintro e x1 ⟨rfl, b1⟩
  have B1 : Hid (Below w.heap.size w x1) := B0.out.trans (b1.mono B0.out.size)
  have K1 : Hid (Blk x1 ga 136 [.slice sn.a sn.n sn.c, .int .i64 epoch, .int .i64 seq, .slice tag.a tag.n tag.c, .slice body.a body.n body.c]) := K0.out.later b1
  clear b1 c0 c1 c2 c3 c4
  have c0 := K1.out.cell 0 rfl
  have c1 := K1.out.cell 1 rfl
  have c2 := K1.out.cell 2 rfl
  have c3 := K1.out.cell 3 rfl
  have c4 := K1.out.cell 4 rfl
  cases h0 : (((sn.n : Int) == 12) && (isIn epoch 0 4294967295 && (isIn seq 0 281474976710655 && ((tag.n : Int) == 16)))) with
  | false =>
    go_wp2
    go_ret
    exact ⟨by rw [h0]; simp, hga ▸ B1.out⟩
  | true =>
    go_wp2
    go_ret
    exact ⟨by rw [h0]; simp, hga ▸ B1.out⟩

end Go.Proofs.YtmcflfpckpjphaaGreatDoor.FrW
