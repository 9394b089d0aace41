/-
  A frame's bytes as plain data.
-/
import Derived.Test.YtpenhliaelhnoaaDoorFrP
namespace Go.Proofs.YtpenhliaelhnoaaDoor.FrB
open Go.RowKit Go.Proofs.YtpenhliaelhnoaaDoor.Mem Go.Proofs.YtpenhliaelhnoaaDoor.App Go.Proofs.YtpenhliaelhnoaaDoor.Words Go.Proofs.YtpenhliaelhnoaaDoor.FrZ Go.Proofs.YtpenhliaelhnoaaDoor.FrP

def putF (D : FrD) : List Int :=
  if frameOk D = true then
    if (D.kind == 1) = true then [D.kind] ++ [D.id] ++ D.cn ++ List.replicate 20 0
    else if (D.kind == 2) = true then [D.kind] ++ D.cn ++ D.sn ++ num D.tick 4 ++ D.cookie
    else if (D.kind == 3) = true then [D.kind] ++ [D.id] ++ D.cn ++ D.sn ++ num D.tick 4 ++ D.cookie ++ D.proof
    else [D.kind] ++ D.sn ++ num D.epoch 4 ++ num D.seq 6 ++ D.tag ++ D.body
  else []
set_option maxRecDepth 100000 in
theorem putF_no (D : FrD) (h : frameOk D = false) : putF D = [] := by unfold putF; rw [if_neg (by rw [h]; simp)]
set_option maxRecDepth 100000 in
theorem putF_1 (D : FrD) (h : frameOk D = true) (k : (D.kind == 1) = true) : putF D = [D.kind] ++ [D.id] ++ D.cn ++ List.replicate 20 0 := by unfold putF; rw [if_pos h, if_pos k]
set_option maxRecDepth 100000 in
theorem putF_2 (D : FrD) (h : frameOk D = true) (k1 : (D.kind == 1) = false) (k : (D.kind == 2) = true) : putF D = [D.kind] ++ D.cn ++ D.sn ++ num D.tick 4 ++ D.cookie := by
  unfold putF; rw [if_pos h, if_neg (by rw [k1]; simp), if_pos k]
set_option maxRecDepth 100000 in
theorem putF_3 (D : FrD) (h : frameOk D = true) (k1 : (D.kind == 1) = false) (k2 : (D.kind == 2) = false) (k : (D.kind == 3) = true) : putF D = [D.kind] ++ [D.id] ++ D.cn ++ D.sn ++ num D.tick 4 ++ D.cookie ++ D.proof := by
  unfold putF; rw [if_pos h, if_neg (by rw [k1]; simp), if_neg (by rw [k2]; simp), if_pos k]
set_option maxRecDepth 100000 in
theorem putF_s (D : FrD) (h : frameOk D = true) (k1 : (D.kind == 1) = false) (k2 : (D.kind == 2) = false) (k3 : (D.kind == 3) = false) : putF D = [D.kind] ++ D.sn ++ num D.epoch 4 ++ num D.seq 6 ++ D.tag ++ D.body := by
  unfold putF; rw [if_pos h, if_neg (by rw [k1]; simp), if_neg (by rw [k2]; simp), if_neg (by rw [k3]; simp)]
set_option maxRecDepth 100000 in
/-- What a right frame is, kind by kind. -/
theorem ok_iff (D : FrD) : frameOk D = true ↔
    (4 ≤ D.kind ∧ D.kind ≤ 8 ∧ D.id = 0 ∧ D.cn.length = 0 ∧ D.sn.length = 12 ∧ D.tick = 0 ∧ D.cookie.length = 0 ∧ D.proof.length = 0 ∧ 0 ≤ D.epoch ∧ D.epoch ≤ 4294967295 ∧ 0 ≤ D.seq ∧ D.seq ≤ 281474976710655 ∧ bodyOk D.kind D.body.length = true ∧ D.tag.length = 16) ∨
    (D.epoch = 0 ∧ D.seq = 0 ∧ D.body.length = 0 ∧ D.tag.length = 0 ∧ D.cn.length = 12 ∧
      ((D.kind = 1 ∧ 1 ≤ D.id ∧ D.id ≤ 9 ∧ D.sn.length = 0 ∧ D.tick = 0 ∧ D.cookie.length = 0 ∧ D.proof.length = 0) ∨
       (D.kind = 2 ∧ D.id = 0 ∧ D.sn.length = 12 ∧ 0 ≤ D.tick ∧ D.tick ≤ 1000000 ∧ D.cookie.length = 16 ∧ D.proof.length = 0) ∨
       (D.kind = 3 ∧ 1 ≤ D.id ∧ D.id ≤ 9 ∧ D.sn.length = 12 ∧ 0 ≤ D.tick ∧ D.tick ≤ 1000000 ∧ D.cookie.length = 16 ∧ D.proof.length = 16))) := by
  unfold frameOk okS isIn
  by_cases hs : 4 ≤ D.kind ∧ D.kind ≤ 8
  · rw [if_pos (by simpa using hs)]
    simp only [Bool.and_eq_true, beq_iff_eq, decide_eq_true_eq]
    constructor
    · rintro ⟨h1, h2, h3, h4, h5, h6, h7, h8, h9, h10⟩
      exact .inl ⟨hs.1, hs.2, h1, by omega, by omega, h4, by omega, by omega, h7.1, h7.2, h8.1, h8.2, h9, by omega⟩
    · rintro (⟨_, _, h1, h2, h3, h4, h5, h6, h7, h7', h8, h8', h9, h10⟩ | ⟨_, _, _, _, _, ⟨h, _⟩ | ⟨h, _⟩ | ⟨h, _⟩⟩)
      · exact ⟨h1, by omega, by omega, h4, by omega, by omega, ⟨h7, h7'⟩, ⟨h8, h8'⟩, h9, by omega⟩
      · omega
      · omega
      · omega
  · rw [if_neg (by simpa using hs)]
    by_cases he : D.epoch = 0 ∧ D.seq = 0 ∧ D.body.length = 0 ∧ D.tag.length = 0 ∧ D.cn.length = 12
    · obtain ⟨e1, e2, e3, e4, e5⟩ := he
      rw [if_neg (by rw [e1, e2, e3, e4, e5]; simp)]
      by_cases k1 : D.kind = 1
      · rw [k1]; simp only [beq_self_eq_true, if_true, Bool.and_eq_true, beq_iff_eq, decide_eq_true_eq]; constructor
        · rintro ⟨⟨a, a'⟩, b, c, d, e⟩; exact .inr ⟨e1, e2, e3, e4, e5, .inl ⟨trivial, a, a', by omega, c, by omega, by omega⟩⟩
        · rintro (h | ⟨_, _, _, _, _, ⟨_, a, a', b, c, d, e⟩ | ⟨h, _⟩ | ⟨h, _⟩⟩)
          · omega
          · exact ⟨⟨a, a'⟩, by omega, c, by omega, by omega⟩
          · omega
          · omega
      · rw [if_neg (by simpa using k1)]
        by_cases k2 : D.kind = 2
        · rw [k2]; simp only [beq_self_eq_true, if_true, Bool.and_eq_true, beq_iff_eq, decide_eq_true_eq]; constructor
          · rintro ⟨a, b, ⟨c, c'⟩, d, e⟩; exact .inr ⟨e1, e2, e3, e4, e5, .inr (.inl ⟨trivial, a, by omega, c, c', by omega, by omega⟩)⟩
          · rintro (h | ⟨_, _, _, _, _, ⟨h, _⟩ | ⟨_, a, b, c, c', d, e⟩ | ⟨h, _⟩⟩)
            · omega
            · omega
            · exact ⟨a, by omega, ⟨c, c'⟩, by omega, by omega⟩
            · omega
        · rw [if_neg (by simpa using k2)]
          by_cases k3 : D.kind = 3
          · rw [k3]; simp only [beq_self_eq_true, if_true, Bool.and_eq_true, beq_iff_eq, decide_eq_true_eq]; constructor
            · rintro ⟨⟨a, a'⟩, b, ⟨c, c'⟩, d, e⟩; exact .inr ⟨e1, e2, e3, e4, e5, .inr (.inr ⟨trivial, a, a', by omega, c, c', by omega, by omega⟩)⟩
            · rintro (h | ⟨_, _, _, _, _, ⟨h, _⟩ | ⟨h, _⟩ | ⟨_, a, a', b, c, c', d, e⟩⟩)
              · omega
              · omega
              · omega
              · exact ⟨⟨a, a'⟩, by omega, ⟨c, c'⟩, by omega, by omega⟩
          · rw [if_neg (by simpa using k3)]
            constructor
            · intro h; cases h
            · rintro (h | ⟨_, _, _, _, _, ⟨h, _⟩ | ⟨h, _⟩ | ⟨h, _⟩⟩)
              · omega
              · omega
              · omega
              · omega
    · rw [if_pos (by
        cases hc : ((D.epoch == 0) && ((D.seq == 0) && (((D.body.length : Int) == 0) && (((D.tag.length : Int) == 0) && ((D.cn.length : Int) == 12))))) with
        | false => rfl
        | true =>
          simp only [Bool.and_eq_true, beq_iff_eq] at hc
          exact absurd ⟨hc.1, hc.2.1, by omega, by omega, by omega⟩ he)]
      constructor
      · intro h; cases h
      · rintro (h | ⟨a, b, c, d, e, _⟩)
        · omega
        · exact absurd ⟨a, b, c, d, e⟩ he
set_option maxRecDepth 100000 in
theorem ok_kind (D : FrD) (h : frameOk D = true) : 1 ≤ D.kind ∧ D.kind ≤ 8 := by
  rcases (ok_iff D).1 h with h | ⟨_, _, _, _, _, h | h | h⟩ <;> omega
set_option maxRecDepth 100000 in
theorem ok_id1 (D : FrD) (h : frameOk D = true) (k : (D.kind == 1) = true) : 1 ≤ D.id ∧ D.id ≤ 9 := by
  simp only [beq_iff_eq] at k
  rcases (ok_iff D).1 h with h | ⟨_, _, _, _, _, h | h | h⟩ <;> omega
set_option maxRecDepth 100000 in
theorem ok_id3 (D : FrD) (h : frameOk D = true) (k : (D.kind == 3) = true) : 1 ≤ D.id ∧ D.id ≤ 9 := by
  simp only [beq_iff_eq] at k
  rcases (ok_iff D).1 h with h | ⟨_, _, _, _, _, h | h | h⟩ <;> omega
set_option maxRecDepth 100000 in
theorem ok_lens (D : FrD) (h : frameOk D = true) : D.cn.length ≤ 12 ∧ D.sn.length ≤ 12 ∧ D.cookie.length ≤ 16 ∧ D.proof.length ≤ 16 ∧ D.body.length ≤ 40 ∧ D.tag.length ≤ 16 := by
  rcases (ok_iff D).1 h with ⟨_, _, _, _, _, _, _, _, _, _, _, _, hb, _⟩ | ⟨_, _, _, _, _, h | h | h⟩
  · have : D.body.length ≤ 40 := by
      unfold bodyOk at hb
      split at hb
      · simp at hb; omega
      · split at hb <;> (simp at hb; omega)
    omega
  · omega
  · omega
  · omega
end Go.Proofs.YtpenhliaelhnoaaDoor.FrB
