/-
  Frames read back out of their bytes, kind by kind: what stands at each place of a right frame's bytes.
-/
import Derived.Test.YtfapehmbecgjaaaFrG
namespace Go.Proofs.Ytfapehmbecgjaaa.FrH
open Go.RowKit Go.Proofs.Ytfapehmbecgjaaa.Mem Go.Proofs.Ytfapehmbecgjaaa.App Go.Proofs.Ytfapehmbecgjaaa.Get Go.Proofs.Ytfapehmbecgjaaa.NumV Go.Proofs.Ytfapehmbecgjaaa.FrZ Go.Proofs.Ytfapehmbecgjaaa.FrP Go.Proofs.Ytfapehmbecgjaaa.FrB Go.Proofs.Ytfapehmbecgjaaa.FrG

def get1 (b : List Int) : FrD := ⟨b.getD 0 0, b.getD 1 0, piece b 2 12, [], 0, [], [], 0, 0, [], []⟩
def get2 (b : List Int) : FrD := ⟨b.getD 0 0, 0, piece b 1 12, piece b 13 12, val (piece b 25 4), b.drop 29, [], 0, 0, [], []⟩
def get3 (b : List Int) : FrD := ⟨b.getD 0 0, b.getD 1 0, piece b 2 12, piece b 14 12, val (piece b 26 4), piece b 30 16, b.drop 46, 0, 0, [], []⟩
def getS (b : List Int) : FrD := ⟨b.getD 0 0, 0, [], piece b 1 12, 0, [], [], val (piece b 13 4), val (piece b 17 6), b.drop 39, piece b 23 16⟩
theorem piece_at {b r x y : List Int} (e : b = r ++ (x ++ y)) {i k : Nat} (hr : r.length = i) (hx : x.length = k) : piece b i k = x := by
  subst e hr hx
  unfold piece
  rw [List.drop_left, List.take_left]
theorem drop_at {b r y : List Int} (e : b = r ++ y) {i : Nat} (hr : r.length = i) : b.drop i = y := by
  subst e hr
  rw [List.drop_left]
theorem back1 (E : FrD) (h : frameOk E = true) (k : E.kind = 1) : (putF E).length = 34 ∧ get1 (putF E) = E := by
  rcases (ok_iff E).1 h with ⟨h1, _⟩ | ⟨h1, h2, h3, h4, h5, ⟨h6, h7, h8, h9, h10, h11, h12⟩ | ⟨h6, _⟩ | ⟨h6, _⟩⟩
  · omega
  · have e := putF_1 E h (by rw [k]; rfl)
    obtain ⟨b, hb⟩ : ∃ b, putF E = b := ⟨_, rfl⟩
    rw [hb] at e ⊢
    clear hb h
    obtain ⟨ek, ei, ecn, esn, et, eco, epr, eep, esq, ebo, eta⟩ := E
    simp only at h1 h2 h3 h4 h5 h6 h7 h8 h9 h10 h11 h12 k e
    have g0 : b.getD 0 0 = ek := by rw [e]; simp
    have g1 : b.getD 1 0 = ei := by rw [e]; simp
    have p0 : piece b 2 12 = ecn := piece_at (r := [ek] ++ [ei]) (x := ecn) (y := List.replicate 20 0) (by rw [e]; simp) rfl h5
    refine ⟨by rw [e]; simp only [List.length_append, List.length_singleton, List.length_replicate]; omega, ?_⟩
    unfold get1
    rw [g0, g1, p0, h1, h2, nil_of h3, nil_of h4, nil_of h9, h10, nil_of h11, nil_of h12]
  · omega
  · omega
theorem back2 (E : FrD) (h : frameOk E = true) (k : E.kind = 2) : (putF E).length = 45 ∧ get2 (putF E) = E := by
  rcases (ok_iff E).1 h with ⟨h1, _⟩ | ⟨h1, h2, h3, h4, h5, ⟨h6, _⟩ | ⟨h6, h7, h8, h9, h10, h11, h12⟩ | ⟨h6, _⟩⟩
  · omega
  · omega
  · have e := putF_2 E h (by rw [k]; rfl) (by rw [k]; rfl)
    obtain ⟨b, hb⟩ : ∃ b, putF E = b := ⟨_, rfl⟩
    rw [hb] at e ⊢
    clear hb h
    obtain ⟨ek, ei, ecn, esn, et, eco, epr, eep, esq, ebo, eta⟩ := E
    simp only at h1 h2 h3 h4 h5 h6 h7 h8 h9 h10 h11 h12 k e
    have g0 : b.getD 0 0 = ek := by rw [e]; simp
    have p0 : piece b 1 12 = ecn := piece_at (r := [ek]) (x := ecn) (y := esn ++ num et 4 ++ eco) (by rw [e]; simp) rfl h5
    have p1 : piece b 13 12 = esn := piece_at (r := [ek] ++ ecn) (x := esn) (y := num et 4 ++ eco) (by rw [e]; simp) (by simp only [List.length_append, List.length_singleton]; omega) h8
    have p2 : piece b 25 4 = num et 4 := piece_at (r := [ek] ++ ecn ++ esn) (x := num et 4) (y := eco) (by rw [e]; simp) (by simp only [List.length_append, List.length_singleton]; omega) (num_length _ _)
    have p3 : b.drop 29 = eco := drop_at (r := [ek] ++ ecn ++ esn ++ num et 4) (y := eco) (by rw [e]) (by simp only [List.length_append, List.length_singleton, num_length]; omega)
    have v0 : val (piece b 25 4) = et := by rw [p2, val_num]; exact Int.emod_eq_of_lt h9 (by omega)
    refine ⟨by rw [e]; simp only [List.length_append, List.length_singleton, num_length]; omega, ?_⟩
    unfold get2
    rw [g0, p0, p1, v0, p3, h1, h2, nil_of h3, nil_of h4, h7, nil_of h12]
  · omega
theorem back3 (E : FrD) (h : frameOk E = true) (k : E.kind = 3) : (putF E).length = 62 ∧ get3 (putF E) = E := by
  rcases (ok_iff E).1 h with ⟨h1, _⟩ | ⟨h1, h2, h3, h4, h5, ⟨h6, _⟩ | ⟨h6, _⟩ | ⟨h6, h7, h8, h9, h10, h11, h12, h13⟩⟩
  · omega
  · omega
  · omega
  · have e := putF_3 E h (by rw [k]; rfl) (by rw [k]; rfl) (by rw [k]; rfl)
    obtain ⟨b, hb⟩ : ∃ b, putF E = b := ⟨_, rfl⟩
    rw [hb] at e ⊢
    clear hb h
    obtain ⟨ek, ei, ecn, esn, et, eco, epr, eep, esq, ebo, eta⟩ := E
    simp only at h1 h2 h3 h4 h5 h6 h7 h8 h9 h10 h11 h12 h13 k e
    have g0 : b.getD 0 0 = ek := by rw [e]; simp
    have g1 : b.getD 1 0 = ei := by rw [e]; simp
    have p0 : piece b 2 12 = ecn := piece_at (r := [ek] ++ [ei]) (x := ecn) (y := esn ++ num et 4 ++ eco ++ epr) (by rw [e]; simp) rfl h5
    have p1 : piece b 14 12 = esn := piece_at (r := [ek] ++ [ei] ++ ecn) (x := esn) (y := num et 4 ++ eco ++ epr) (by rw [e]; simp) (by simp only [List.length_append, List.length_singleton]; omega) h9
    have p2 : piece b 26 4 = num et 4 := piece_at (r := [ek] ++ [ei] ++ ecn ++ esn) (x := num et 4) (y := eco ++ epr) (by rw [e]; simp) (by simp only [List.length_append, List.length_singleton]; omega) (num_length _ _)
    have p3 : piece b 30 16 = eco := piece_at (r := [ek] ++ [ei] ++ ecn ++ esn ++ num et 4) (x := eco) (y := epr) (by rw [e]; simp) (by simp only [List.length_append, List.length_singleton, num_length]; omega) h12
    have p4 : b.drop 46 = epr := drop_at (r := [ek] ++ [ei] ++ ecn ++ esn ++ num et 4 ++ eco) (y := epr) (by rw [e]) (by simp only [List.length_append, List.length_singleton, num_length]; omega)
    have v0 : val (piece b 26 4) = et := by rw [p2, val_num]; exact Int.emod_eq_of_lt h10 (by omega)
    refine ⟨by rw [e]; simp only [List.length_append, List.length_singleton, num_length]; omega, ?_⟩
    unfold get3
    rw [g0, g1, p0, p1, v0, p3, p4, h1, h2, nil_of h3, nil_of h4]
theorem backS (E : FrD) (h : frameOk E = true) (k1 : E.kind ≠ 1) (k2 : E.kind ≠ 2) (k3 : E.kind ≠ 3) : 39 ≤ (putF E).length ∧ getS (putF E) = E := by
  rcases (ok_iff E).1 h with ⟨h1, h2, h3, h4, h5, h6, h7, h8, h9, h10, h11, h12, h13, h14⟩ | ⟨_, _, _, _, _, ⟨h6, _⟩ | ⟨h6, _⟩ | ⟨h6, _⟩⟩
  · have e := putF_s E h (by simp; omega) (by simp; omega) (by simp; omega)
    obtain ⟨b, hb⟩ : ∃ b, putF E = b := ⟨_, rfl⟩
    rw [hb] at e ⊢
    clear hb h
    obtain ⟨ek, ei, ecn, esn, et, eco, epr, eep, esq, ebo, eta⟩ := E
    simp only at h1 h2 h3 h4 h5 h6 h7 h8 h9 h10 h11 h12 h13 h14 k1 e
    have g0 : b.getD 0 0 = ek := by rw [e]; simp
    have p0 : piece b 1 12 = esn := piece_at (r := [ek]) (x := esn) (y := num eep 4 ++ num esq 6 ++ eta ++ ebo) (by rw [e]; simp) rfl h5
    have p1 : piece b 13 4 = num eep 4 := piece_at (r := [ek] ++ esn) (x := num eep 4) (y := num esq 6 ++ eta ++ ebo) (by rw [e]; simp) (by simp only [List.length_append, List.length_singleton]; omega) (num_length _ _)
    have p2 : piece b 17 6 = num esq 6 := piece_at (r := [ek] ++ esn ++ num eep 4) (x := num esq 6) (y := eta ++ ebo) (by rw [e]; simp) (by simp only [List.length_append, List.length_singleton, num_length]; omega) (num_length _ _)
    have p3 : piece b 23 16 = eta := piece_at (r := [ek] ++ esn ++ num eep 4 ++ num esq 6) (x := eta) (y := ebo) (by rw [e]; simp) (by simp only [List.length_append, List.length_singleton, num_length]; omega) h14
    have p4 : b.drop 39 = ebo := drop_at (r := [ek] ++ esn ++ num eep 4 ++ num esq 6 ++ eta) (y := ebo) (by rw [e]) (by simp only [List.length_append, List.length_singleton, num_length]; omega)
    have v0 : val (piece b 13 4) = eep := by rw [p1, val_num]; exact Int.emod_eq_of_lt h9 (by omega)
    have v1 : val (piece b 17 6) = esq := by rw [p2, val_num]; exact Int.emod_eq_of_lt h11 (by omega)
    refine ⟨by rw [e]; simp only [List.length_append, List.length_singleton, num_length]; omega, ?_⟩
    unfold getS
    rw [g0, p0, v0, v1, p3, p4, h3, nil_of h4, h6, nil_of h7, nil_of h8]
  · exact absurd h6 k1
  · exact absurd h6 k2
  · exact absurd h6 k3
theorem kind_at (E : FrD) (h : frameOk E = true) : (putF E).getD 0 0 = E.kind ∧ putF E ≠ [] := by
  by_cases k1 : E.kind = 1
  · rw [putF_1 E h (by rw [k1]; rfl)]; simp
  · by_cases k2 : E.kind = 2
    · rw [putF_2 E h (by rw [k2]; rfl) (by rw [k2]; rfl)]; simp
    · by_cases k3 : E.kind = 3
      · rw [putF_3 E h (by rw [k3]; rfl) (by rw [k3]; rfl) (by rw [k3]; rfl)]; simp
      · rw [putF_s E h (by simpa using k1) (by simpa using k2) (by simpa using k3)]; simp
theorem got_no {b : List Int} (h : ∀ E, frameOk E = true → putF E ≠ b) : IsGot b zeroF false := .inr ⟨rfl, rfl, h⟩
theorem got_nil : IsGot [] zeroF false := got_no fun E h => (kind_at E h).2
theorem got_len1 {b : List Int} (k : b.getD 0 0 = 1) (hl : b.length ≠ 34) : IsGot b zeroF false := got_no fun E h e => by
  subst e; exact hl (back1 E h (by rw [← (kind_at E h).1]; exact k)).1
theorem got_len2 {b : List Int} (k : b.getD 0 0 = 2) (hl : b.length ≠ 45) : IsGot b zeroF false := got_no fun E h e => by
  subst e; exact hl (back2 E h (by rw [← (kind_at E h).1]; exact k)).1
theorem got_len3 {b : List Int} (k : b.getD 0 0 = 3) (hl : b.length ≠ 62) : IsGot b zeroF false := got_no fun E h e => by
  subst e; exact hl (back3 E h (by rw [← (kind_at E h).1]; exact k)).1
theorem got_lenS {b : List Int} (k1 : b.getD 0 0 ≠ 1) (k2 : b.getD 0 0 ≠ 2) (k3 : b.getD 0 0 ≠ 3) (hl : b.length < 39) : IsGot b zeroF false := got_no fun E h e => by
  subst e
  rw [(kind_at E h).1] at k1 k2 k3
  have := (backS E h k1 k2 k3).1
  omega
/-- What was read is what it is, if its own bytes are those that were read. -/
def Cand (b : List Int) (D : FrD) : Prop := b ≠ [] ∧ ∀ E, frameOk E = true → putF E = b → E = D
theorem cand1 {b : List Int} (k : b.getD 0 0 = 1) : Cand b (get1 b) := ⟨by intro e; subst e; simp at k, fun E h e => by subst e; exact ((back1 E h (by rw [← (kind_at E h).1]; exact k)).2).symm⟩
theorem cand2 {b : List Int} (k : b.getD 0 0 = 2) : Cand b (get2 b) := ⟨by intro e; subst e; simp at k, fun E h e => by subst e; exact ((back2 E h (by rw [← (kind_at E h).1]; exact k)).2).symm⟩
theorem cand3 {b : List Int} (k : b.getD 0 0 = 3) : Cand b (get3 b) := ⟨by intro e; subst e; simp at k, fun E h e => by subst e; exact ((back3 E h (by rw [← (kind_at E h).1]; exact k)).2).symm⟩
theorem candS {b : List Int} (hb : b ≠ []) (k1 : b.getD 0 0 ≠ 1) (k2 : b.getD 0 0 ≠ 2) (k3 : b.getD 0 0 ≠ 3) : Cand b (getS b) := ⟨hb, fun E h e => by
  subst e
  rw [(kind_at E h).1] at k1 k2 k3
  exact ((backS E h k1 k2 k3).2).symm⟩
theorem Cand.yes {b : List Int} {D : FrD} (c : Cand b D) (e : putF D = b) : IsGot b D true := by
  refine .inl ⟨rfl, ?_, e⟩
  cases h : frameOk D with
  | true => rfl
  | false => rw [putF_no D h] at e; exact absurd e.symm c.1
theorem Cand.no {b : List Int} {D : FrD} (c : Cand b D) (e : putF D ≠ b) : IsGot b zeroF false := got_no fun E h k => by
  have := c.2 E h k
  subst this
  exact e k
end Go.Proofs.Ytfapehmbecgjaaa.FrH
