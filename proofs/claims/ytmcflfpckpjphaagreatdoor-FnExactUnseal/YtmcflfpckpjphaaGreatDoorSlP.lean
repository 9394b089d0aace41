/-
  Heads, and what a tag is of, as plain functions.
-/
import Derived.Test.YtmcflfpckpjphaaGreatDoorFrB
import Derived.Test.YtmcflfpckpjphaaGreatDoorFrG
import Derived.Test.YtmcflfpckpjphaaGreatDoorFrQ3
namespace Go.Proofs.YtmcflfpckpjphaaGreatDoor.SlP
open Go.RowKit Go.Proofs.YtmcflfpckpjphaaGreatDoor.Mem Go.Proofs.YtmcflfpckpjphaaGreatDoor.App Go.Proofs.YtmcflfpckpjphaaGreatDoor.Words Go.Proofs.YtmcflfpckpjphaaGreatDoor.FrZ Go.Proofs.YtmcflfpckpjphaaGreatDoor.FrP Go.Proofs.YtmcflfpckpjphaaGreatDoor.FrG Go.Proofs.YtmcflfpckpjphaaGreatDoor.Get

/-- Whether there is a head of these. -/
def headOk (role : Int) (n : Int) (epoch seq : Int) : Bool := isIn role 0 1 && ((n == 12) && (isIn epoch 0 4294967295 && isIn seq 0 281474976710655))
set_option maxRecDepth 100000 in
theorem headOk_iff (role n epoch seq : Int) : headOk role n epoch seq = true ↔ (0 ≤ role ∧ role ≤ 1) ∧ n = 12 ∧ (0 ≤ epoch ∧ epoch ≤ 4294967295) ∧ (0 ≤ seq ∧ seq ≤ 281474976710655) := by
  unfold headOk isIn; simp [and_assoc]
/-- The head. -/
def headL (role : Int) (sn : List Int) (epoch seq : Int) : List Int := if headOk role sn.length epoch seq = true then [role] ++ sn ++ num epoch 4 ++ num seq 6 else []
set_option maxRecDepth 100000 in
theorem headL_no (role : Int) (sn : List Int) (epoch seq : Int) (h : headOk role sn.length epoch seq = false) : headL role sn epoch seq = [] := by unfold headL; rw [if_neg (by rw [h]; simp)]
set_option maxRecDepth 100000 in
theorem headL_yes (role : Int) (sn : List Int) (epoch seq : Int) (h : headOk role sn.length epoch seq = true) : headL role sn epoch seq = [role] ++ sn ++ num epoch 4 ++ num seq 6 := by unfold headL; rw [if_pos h]
set_option maxRecDepth 100000 in
theorem headL_len (role : Int) (sn : List Int) (epoch seq : Int) (h : headOk role sn.length epoch seq = true) : (headL role sn epoch seq).length = 23 := by
  rw [headL_yes role sn epoch seq h]
  have := ((headOk_iff _ _ _ _).1 h).2.1
  simp [num_length]; omega
set_option maxRecDepth 100000 in
theorem headL_le (role : Int) (sn : List Int) (epoch seq : Int) : (headL role sn epoch seq).length ≤ 23 := by
  by_cases h : headOk role sn.length epoch seq = true
  · rw [headL_len role sn epoch seq h]; exact Nat.le_refl _
  · rw [headL_no role sn epoch seq (by simpa using h)]; simp
set_option maxRecDepth 100000 in
theorem bytes_app {a b : List Int} (ha : Bytes a) (hb : Bytes b) : Bytes (a ++ b) := fun z hz => by
  rcases List.mem_append.1 hz with h | h
  · exact ha z h
  · exact hb z h
set_option maxRecDepth 100000 in
theorem bytes_one {z : Int} (h0 : 0 ≤ z) (h1 : z ≤ 255) : Bytes [z] := fun y hy => by simp at hy; omega
set_option maxRecDepth 100000 in
theorem headL_bytes (role : Int) (sn : List Int) (epoch seq : Int) (hb : Bytes sn) : Bytes (headL role sn epoch seq) := by
  by_cases h : headOk role sn.length epoch seq = true
  · rw [headL_yes role sn epoch seq h]
    have h1 := ((headOk_iff _ _ _ _).1 h).1
    exact bytes_app (bytes_app (bytes_app (bytes_one h1.1 (by omega)) hb) (num_bytes _ _)) (num_bytes _ _)
  · rw [headL_no role sn epoch seq (by simpa using h)]; exact fun z hz => by cases hz
set_option maxRecDepth 100000 in
theorem headL_nil (role : Int) (sn : List Int) (epoch seq : Int) : ((headL role sn epoch seq).length = 0) ↔ headOk role sn.length epoch seq = false := by
  constructor
  · intro h
    by_cases k : headOk role sn.length epoch seq = true
    · rw [headL_len _ _ _ _ k] at h; cases h
    · simpa using k
  · intro h; rw [headL_no _ _ _ _ h]; rfl

/-- Whether a frame's tag can be made. -/
def canTag (role : Int) (D : FrD) : Bool := isIn role 0 1 && (isIn D.kind 4 8 && frameOk D)
/-- What the tag is of. -/
def tagIn (role : Int) (D : FrD) : List Int := if canTag role D = true then [116] ++ headL role D.sn D.epoch D.seq ++ [D.kind] ++ D.body else []
set_option maxRecDepth 100000 in
theorem tagIn_no (role : Int) (D : FrD) (h : canTag role D = false) : tagIn role D = [] := by unfold tagIn; rw [if_neg (by rw [h]; simp)]
set_option maxRecDepth 100000 in
theorem tagIn_yes (role : Int) (D : FrD) (h : canTag role D = true) : tagIn role D = [116] ++ headL role D.sn D.epoch D.seq ++ [D.kind] ++ D.body := by unfold tagIn; rw [if_pos h]
set_option maxRecDepth 100000 in
theorem canTag_parts {role : Int} {D : FrD} (h : canTag role D = true) : (0 ≤ role ∧ role ≤ 1) ∧ (4 ≤ D.kind ∧ D.kind ≤ 8) ∧ frameOk D = true := by
  unfold canTag isIn at h; simp at h; exact ⟨h.1, h.2.1, h.2.2⟩
set_option maxRecDepth 100000 in
theorem canTag_of {role : Int} {D : FrD} (h1 : 0 ≤ role ∧ role ≤ 1) (h2 : 4 ≤ D.kind ∧ D.kind ≤ 8) (h3 : frameOk D = true) : canTag role D = true := by
  unfold canTag isIn; simp [h1, h2, h3]
set_option maxRecDepth 100000 in
theorem canTag_eq (role : Int) (D : FrD) : (isIn role 0 1 && (frameOk D && isIn D.kind 4 8)) = canTag role D := by
  unfold canTag; cases isIn role 0 1 <;> cases frameOk D <;> cases isIn D.kind 4 8 <;> rfl
set_option maxRecDepth 100000 in
/-- A right sealed frame's parts. -/
theorem sealed_parts {D : FrD} (hk : 4 ≤ D.kind ∧ D.kind ≤ 8) : frameOk D = true ↔ D.id = 0 ∧ D.cn = [] ∧ D.sn.length = 12 ∧ D.tick = 0 ∧ D.cookie = [] ∧ D.proof = [] ∧ (0 ≤ D.epoch ∧ D.epoch ≤ 4294967295) ∧ (0 ≤ D.seq ∧ D.seq ≤ 281474976710655) ∧ bodyOk D.kind D.body.length = true ∧ D.tag.length = 16 := by
  unfold frameOk okS
  rw [if_pos (isIn_yes hk)]
  unfold isIn
  simp only [Bool.and_eq_true, beq_iff_eq, decide_eq_true_eq]
  constructor
  · rintro ⟨h1, h2, h3, h4, h5, h6, h7, h8, h9, h10⟩
    exact ⟨h1, List.length_eq_zero_iff.1 (by omega), by omega, h4, List.length_eq_zero_iff.1 (by omega), List.length_eq_zero_iff.1 (by omega), h7, h8, h9, by omega⟩
  · rintro ⟨h1, h2, h3, h4, h5, h6, h7, h8, h9, h10⟩
    exact ⟨h1, by rw [h2]; rfl, by omega, h4, by rw [h5]; rfl, by rw [h6]; rfl, h7, h8, h9, by omega⟩
set_option maxRecDepth 100000 in
theorem canTag_head {role : Int} {D : FrD} (h : canTag role D = true) : headOk role D.sn.length D.epoch D.seq = true := by
  obtain ⟨h1, h2, h3⟩ := canTag_parts h
  obtain ⟨_, _, h6, _, _, _, h7, h8, _, _⟩ := (sealed_parts h2).1 h3
  exact (headOk_iff _ _ _ _).2 ⟨h1, by omega, h7, h8⟩
set_option maxRecDepth 100000 in
theorem bodyOk_le {k n : Int} (h : bodyOk k n = true) : n ≤ 40 := by
  unfold bodyOk at h
  split at h
  · simpa using h
  · split at h <;> simp at h <;> omega
set_option maxRecDepth 100000 in
theorem canTag_body {role : Int} {D : FrD} (h : canTag role D = true) : D.body.length ≤ 40 := by
  obtain ⟨h1, h2, h3⟩ := canTag_parts h
  obtain ⟨_, _, h6, _, _, _, h7, h8, h9, _⟩ := (sealed_parts h2).1 h3
  have := bodyOk_le h9; omega
set_option maxRecDepth 100000 in
theorem tagIn_len {role : Int} {D : FrD} (h : canTag role D = true) : (tagIn role D).length = 25 + D.body.length := by
  rw [tagIn_yes role D h]
  have := headL_len _ _ _ _ (canTag_head h)
  simp [this]; omega
set_option maxRecDepth 100000 in
theorem tagIn_le (role : Int) (D : FrD) : (tagIn role D).length ≤ 65 := by
  by_cases h : canTag role D = true
  · rw [tagIn_len h]; have := canTag_body h; omega
  · rw [tagIn_no role D (by simpa using h)]; simp
set_option maxRecDepth 100000 in
theorem tagIn_bytes (role : Int) (D : FrD) (h1 : Bytes D.sn) (h2 : Bytes D.body) : Bytes (tagIn role D) := by
  by_cases h : canTag role D = true
  · rw [tagIn_yes role D h]
    have hk := (canTag_parts h).2.1
    exact bytes_app (bytes_app (bytes_app (bytes_one (by omega) (by omega)) (headL_bytes _ _ _ _ h1)) (bytes_one (by omega) (by omega))) h2
  · rw [tagIn_no role D (by simpa using h)]; exact fun z hz => by cases hz
set_option maxRecDepth 100000 in
theorem tagIn_nil (role : Int) (D : FrD) : ((tagIn role D).length = 0) ↔ canTag role D = false := by
  constructor
  · intro h
    by_cases k : canTag role D = true
    · rw [tagIn_len k] at h; omega
    · simpa using k
  · intro h; rw [tagIn_no _ _ h]; rfl
set_option maxRecDepth 100000 in
/-- Heads of unlike parts are unlike. -/
theorem headL_inj {r r' : Int} {sn sn' : List Int} {e e' s s' : Int} (h : headOk r sn.length e s = true) (h' : headOk r' sn'.length e' s' = true) (he : headL r sn e s = headL r' sn' e' s') : r = r' ∧ sn = sn' ∧ e = e' ∧ s = s' := by
  rw [headL_yes _ _ _ _ h, headL_yes _ _ _ _ h'] at he
  obtain ⟨_, a1, a2, a3⟩ := (headOk_iff _ _ _ _).1 h
  obtain ⟨_, b1, b2, b3⟩ := (headOk_iff _ _ _ _).1 h'
  have l1 : sn.length = sn'.length := by omega
  rw [List.append_assoc, List.append_assoc, List.append_assoc, List.append_assoc] at he
  obtain ⟨h0, hA⟩ := List.append_inj he rfl
  obtain ⟨h1, hB⟩ := List.append_inj hA l1
  obtain ⟨he1, he2⟩ := List.append_inj hB (by rw [num_length, num_length])
  have h2 : r = r' := by simpa using h0
  exact ⟨h2, h1, num_inj e e' 4 a2.1 (by omega) b2.1 (by omega) he1, num_inj s s' 6 a3.1 (by omega) b3.1 (by omega) he2⟩
end Go.Proofs.YtmcflfpckpjphaaGreatDoor.SlP
