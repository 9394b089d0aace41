/-
  Right frames with the same bytes are the same; what it is to be read out of bytes.
-/
import Derived.Test.YtmcflfpckpjphaaGreatDoorFrB
import Derived.Test.YtmcflfpckpjphaaGreatDoorNumV
namespace Go.Proofs.YtmcflfpckpjphaaGreatDoor.FrG
open Go.RowKit Go.Proofs.YtmcflfpckpjphaaGreatDoor.Mem Go.Proofs.YtmcflfpckpjphaaGreatDoor.App Go.Proofs.YtmcflfpckpjphaaGreatDoor.Get Go.Proofs.YtmcflfpckpjphaaGreatDoor.NumV Go.Proofs.YtmcflfpckpjphaaGreatDoor.FrZ Go.Proofs.YtmcflfpckpjphaaGreatDoor.FrP Go.Proofs.YtmcflfpckpjphaaGreatDoor.FrB

set_option maxRecDepth 100000 in
theorem num_inj (a b : Int) (k : Nat) (ha : 0 ≤ a) (ha' : a < 256 ^ k) (hb : 0 ≤ b) (hb' : b < 256 ^ k) (h : num a k = num b k) : a = b := by
  have e := congrArg val h
  rwa [val_num, val_num, Int.emod_eq_of_lt ha ha', Int.emod_eq_of_lt hb hb'] at e
set_option maxRecDepth 100000 in
theorem nil_of {l : List Int} (h : l.length = 0) : l = [] := List.length_eq_zero_iff.1 h

set_option maxRecDepth 100000 in
theorem putF_inj (D E : FrD) (h : frameOk D = true) (k : frameOk E = true) (e : putF D = putF E) : D = E := by
  have hh := (ok_iff D).1 h
  have kk := (ok_iff E).1 k
  have hd : ∀ D : FrD, frameOk D = true → (putF D).head? = some D.kind := by
    intro D h
    unfold putF
    rw [if_pos h]
    split
    · simp
    · split
      · simp
      · split <;> simp
  have hk : D.kind = E.kind := by
    have a := hd D h
    rw [e, hd E k] at a
    exact (Option.some.inj a).symm
  obtain ⟨dk, did, dcn, dsn, dtk, dco, dpr, dep, dsq, dbo, dta⟩ := D
  obtain ⟨ek, eid, ecn, esn, etk, eco, epr, eep, esq, ebo, eta⟩ := E
  simp only at hh kk hk
  subst hk
  rcases hh with ⟨h1, h2, h3, h4, h5, h6, h7, h8, h9, h10, h11, h12, h13, h14⟩ | ⟨h1, h2, h3, h4, h5, h⟩
  · rcases kk with ⟨k1, k2, k3, k4, k5, k6, k7, k8, k9, k10, k11, k12, k13, k14⟩ | ⟨_, _, _, _, _, ⟨k, _⟩ | ⟨k, _⟩ | ⟨k, _⟩⟩
    · have c1 : (dk == 1) = false := by simp; omega
      have c2 : (dk == 2) = false := by simp; omega
      have c3 : (dk == 3) = false := by simp; omega
      rw [putF_s _ (by assumption) c1 c2 c3, putF_s _ (by assumption) c1 c2 c3] at e
      simp only [List.append_assoc] at e
      obtain ⟨_, e⟩ := List.append_inj e rfl
      obtain ⟨e1, e⟩ := List.append_inj e (by rw [h5, k5])
      obtain ⟨e2, e⟩ := List.append_inj e (by rw [num_length, num_length])
      obtain ⟨e3, e⟩ := List.append_inj e (by rw [num_length, num_length])
      obtain ⟨e4, e5⟩ := List.append_inj e (by rw [h14, k14])
      have e2' := num_inj _ _ 4 h9 (by omega) k9 (by omega) e2
      have e3' := num_inj _ _ 6 h11 (by omega) k11 (by omega) e3
      rw [nil_of h4, nil_of k4, nil_of h7, nil_of k7, nil_of h8, nil_of k8, h3, k3, h6, k6, e1, e2', e3', e4, e5]
    · omega
    · omega
    · omega
  · rcases kk with ⟨k1, k2, _⟩ | ⟨k1, k2, k3, k4, k5, k⟩
    · rcases h with ⟨h, _⟩ | ⟨h, _⟩ | ⟨h, _⟩ <;> omega
    · rcases h with ⟨h6, h7, h8, h9, h10, h11, h12⟩ | ⟨h6, h7, h8, h9, h10, h11, h12⟩ | ⟨h6, h7, h8, h9, h10, h11, h12, h13⟩
      · rcases k with ⟨k6, k7, k8, k9, k10, k11, k12⟩ | ⟨k6, _⟩ | ⟨k6, _⟩
        · subst h6
          rw [putF_1 _ (by assumption) rfl, putF_1 _ (by assumption) rfl] at e
          simp only [List.append_assoc] at e
          obtain ⟨_, e⟩ := List.append_inj e rfl
          obtain ⟨e1, e⟩ := List.append_inj e rfl
          obtain ⟨e2, _⟩ := List.append_inj e (by rw [h5, k5])
          have e1' : did = eid := by simpa using e1
          rw [nil_of h9, nil_of k9, nil_of h11, nil_of k11, nil_of h12, nil_of k12, nil_of h3, nil_of k3, nil_of h4, nil_of k4, h1, k1, h2, k2, h10, k10, e1', e2]
        · omega
        · omega
      · rcases k with ⟨k6, _⟩ | ⟨k6, k7, k8, k9, k10, k11, k12⟩ | ⟨k6, _⟩
        · omega
        · subst h6
          rw [putF_2 _ (by assumption) rfl rfl, putF_2 _ (by assumption) rfl rfl] at e
          simp only [List.append_assoc] at e
          obtain ⟨_, e⟩ := List.append_inj e rfl
          obtain ⟨e1, e⟩ := List.append_inj e (by rw [h5, k5])
          obtain ⟨e2, e⟩ := List.append_inj e (by rw [h8, k8])
          obtain ⟨e3, e4⟩ := List.append_inj e (by rw [num_length, num_length])
          have e3' := num_inj _ _ 4 h9 (by omega) k9 (by omega) e3
          rw [nil_of h12, nil_of k12, nil_of h3, nil_of k3, nil_of h4, nil_of k4, h1, k1, h2, k2, h7, k7, e1, e2, e3', e4]
        · omega
      · rcases k with ⟨k6, _⟩ | ⟨k6, _⟩ | ⟨k6, k7, k8, k9, k10, k11, k12, k13⟩
        · omega
        · omega
        · subst h6
          rw [putF_3 _ (by assumption) rfl rfl rfl, putF_3 _ (by assumption) rfl rfl rfl] at e
          simp only [List.append_assoc] at e
          obtain ⟨_, e⟩ := List.append_inj e rfl
          obtain ⟨e0, e⟩ := List.append_inj e rfl
          obtain ⟨e1, e⟩ := List.append_inj e (by rw [h5, k5])
          obtain ⟨e2, e⟩ := List.append_inj e (by rw [h9, k9])
          obtain ⟨e3, e⟩ := List.append_inj e (by rw [num_length, num_length])
          obtain ⟨e4, e5⟩ := List.append_inj e (by rw [h12, k12])
          have e3' := num_inj _ _ 4 h10 (by omega) k10 (by omega) e3
          have e0' : did = eid := by simpa using e0
          rw [nil_of h3, nil_of k3, nil_of h4, nil_of k4, h1, k1, h2, k2, e0', e1, e2, e3', e4, e5]

def zeroF : FrD := ⟨0, 0, [], [], 0, [], [], 0, 0, [], []⟩
/-- What is read out of the bytes b. -/
def IsGot (b : List Int) (D : FrD) (ok : Bool) : Prop := (ok = true ∧ frameOk D = true ∧ putF D = b) ∨ (ok = false ∧ D = zeroF ∧ ∀ E, frameOk E = true → putF E ≠ b)
set_option maxRecDepth 100000 in
theorem IsGot.unique {b : List Int} {D E : FrD} {x y : Bool} (h : IsGot b D x) (k : IsGot b E y) : D = E ∧ x = y := by
  rcases h with ⟨rfl, h1, h2⟩ | ⟨rfl, rfl, h2⟩
  · rcases k with ⟨rfl, k1, k2⟩ | ⟨rfl, rfl, k2⟩
    · exact ⟨putF_inj D E h1 k1 (h2.trans k2.symm), rfl⟩
    · exact absurd h2 (k2 D h1)
  · rcases k with ⟨rfl, k1, k2⟩ | ⟨rfl, rfl, k2⟩
    · exact absurd k2 (h2 E k1)
    · exact ⟨rfl, rfl⟩
end Go.Proofs.YtmcflfpckpjphaaGreatDoor.FrG
