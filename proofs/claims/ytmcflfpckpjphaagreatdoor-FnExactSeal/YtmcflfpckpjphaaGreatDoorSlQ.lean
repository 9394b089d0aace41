/-
  What is sealed, and opened, as plain functions.
-/
import Derived.Test.YtmcflfpckpjphaaGreatDoorSlP
import Derived.Test.YtmcflfpckpjphaaGreatDoorKdfP
namespace Go.Proofs.YtmcflfpckpjphaaGreatDoor.SlQ
open Go.RowKit Go.Proofs.YtmcflfpckpjphaaGreatDoor.Mem Go.Proofs.YtmcflfpckpjphaaGreatDoor.App Go.Proofs.YtmcflfpckpjphaaGreatDoor.Words Go.Proofs.YtmcflfpckpjphaaGreatDoor.FrZ Go.Proofs.YtmcflfpckpjphaaGreatDoor.FrP Go.Proofs.YtmcflfpckpjphaaGreatDoor.FrG Go.Proofs.YtmcflfpckpjphaaGreatDoor.KdfP Go.Proofs.YtmcflfpckpjphaaGreatDoor.MacP Go.Proofs.YtmcflfpckpjphaaGreatDoor.SlP

/-- Whether a frame of these is sealed: key of k bytes, name of n, text of p. -/
def sealOk (k : Int) (role n epoch seq kind p : Int) : Bool := (k == 32) && (headOk role n epoch seq && (isIn kind 4 8 && bodyOk kind p))
set_option maxRecDepth 100000 in
theorem sealOk_iff (k role n epoch seq kind p : Int) : sealOk k role n epoch seq kind p = true ↔ k = 32 ∧ headOk role n epoch seq = true ∧ (4 ≤ kind ∧ kind ≤ 8) ∧ bodyOk kind p = true := by
  unfold sealOk isIn; simp [and_assoc]
/-- The frame as it is tagged: with whatever tag of 16 bytes. -/
def draftD (sn : List Int) (epoch seq kind : Int) (body tag : List Int) : FrD := ⟨kind, 0, [], sn, 0, [], [], epoch, seq, body, tag⟩
set_option maxRecDepth 100000 in
theorem draft_tagIn (role : Int) (sn : List Int) (epoch seq kind : Int) (body tag tag' : List Int) (h : tag.length = tag'.length) : tagIn role (draftD sn epoch seq kind body tag) = tagIn role (draftD sn epoch seq kind body tag') := by
  have e : canTag role (draftD sn epoch seq kind body tag) = canTag role (draftD sn epoch seq kind body tag') := by
    unfold canTag frameOk draftD; simp only [h]
  unfold tagIn; rw [e]; rfl
set_option maxRecDepth 100000 in
theorem draft_can (role : Int) (sn : List Int) (epoch seq kind : Int) (body tag : List Int) (ht : tag.length = 16) : canTag role (draftD sn epoch seq kind body tag) = (headOk role sn.length epoch seq && (isIn kind 4 8 && bodyOk kind body.length)) := by
  rw [Bool.eq_iff_iff]
  constructor
  · intro h
    obtain ⟨h1, h2, h3⟩ := canTag_parts h
    have h4 := canTag_head h
    obtain ⟨_, _, h6, _, _, _, h7, h8, h9, _⟩ := (sealed_parts h2).1 h3
    rw [Bool.and_eq_true, Bool.and_eq_true]
    exact ⟨h4, isIn_yes h2, h9⟩
  · intro h
    rw [Bool.and_eq_true, Bool.and_eq_true] at h
    obtain ⟨h1, h2, h3⟩ := h
    obtain ⟨r1, r2, r3, r4⟩ := (headOk_iff _ _ _ _).1 h1
    have hk : 4 ≤ kind ∧ kind ≤ 8 := by unfold isIn at h2; simpa using h2
    exact canTag_of r1 hk ((sealed_parts (D := draftD sn epoch seq kind body tag) hk).2 ⟨rfl, rfl, by show sn.length = 12; omega, rfl, rfl, rfl, r3, r4, h3, ht⟩)
/-- What is sealed. -/
def sealD (key : List Int) (role : Int) (sn : List Int) (epoch seq kind : Int) (plain : List Int) : FrD :=
  draftD sn epoch seq kind (mixI key (headL role sn epoch seq) plain) (tagI key (tagIn role (draftD sn epoch seq kind (mixI key (headL role sn epoch seq) plain) (List.replicate 16 0))))
/-- Whether it is sealed, and what. -/
def sealB (key : List Int) (role : Int) (sn : List Int) (epoch seq kind : Int) (plain : List Int) : Bool := sealOk key.length role sn.length epoch seq kind plain.length
def sealF (key : List Int) (role : Int) (sn : List Int) (epoch seq kind : Int) (plain : List Int) : FrD := if sealB key role sn epoch seq kind plain = true then sealD key role sn epoch seq kind plain else zeroF
/-- Whether it is opened, and what it was. -/
def unsealB (key : List Int) (role : Int) (D : FrD) : Bool := ((key.length : Int) == 32) && (canTag role D && decide (D.tag = tagI key (tagIn role D)))
def unsealL (key : List Int) (role : Int) (D : FrD) : List Int := if unsealB key role D = true then mixI key (headL role D.sn D.epoch D.seq) D.body else []

set_option maxRecDepth 100000 in
theorem seal_may {key : List Int} {role : Int} {sn : List Int} {epoch seq kind : Int} {plain : List Int} (h : sealB key role sn epoch seq kind plain = true) :
    key.length = 32 ∧ headOk role sn.length epoch seq = true ∧ (4 ≤ kind ∧ kind ≤ 8) ∧ bodyOk kind plain.length = true ∧ plain.length ≤ 40 ∧ mayStr key (headL role sn epoch seq) (plain.length : Int) = true := by
  obtain ⟨h1, h2, h3, h4⟩ := (sealOk_iff _ _ _ _ _ _ _).1 h
  have h5 := bodyOk_le h4
  have h6 := headL_le role sn epoch seq
  exact ⟨by omega, h2, h3, h4, by omega, (mayStr_iff _ _ _).2 ⟨by omega, by omega, by omega, by omega⟩⟩
set_option maxRecDepth 100000 in
theorem seal_body {key : List Int} {role : Int} {sn : List Int} {epoch seq kind : Int} {plain : List Int} (h : sealB key role sn epoch seq kind plain = true) : (mixI key (headL role sn epoch seq) plain).length = plain.length := by
  exact mixI_len _ _ _ (seal_may h).2.2.2.2.2
set_option maxRecDepth 100000 in
theorem seal_can {key : List Int} {role : Int} {sn : List Int} {epoch seq kind : Int} {plain : List Int} (tag : List Int) (ht : tag.length = 16) (h : sealB key role sn epoch seq kind plain = true) : canTag role (draftD sn epoch seq kind (mixI key (headL role sn epoch seq) plain) tag) = true := by
  rw [draft_can _ _ _ _ _ _ _ ht, seal_body h]
  obtain ⟨_, h2, h3, h4, _⟩ := seal_may h
  rw [h2, isIn_yes h3, h4]; rfl
set_option maxRecDepth 100000 in
theorem seal_tag_len {key : List Int} {role : Int} {sn : List Int} {epoch seq kind : Int} {plain : List Int} (h : sealB key role sn epoch seq kind plain = true) : (sealD key role sn epoch seq kind plain).tag.length = 16 := by
  exact tagI_len _ _ (by have := (seal_may h).1; omega) (by have := tagIn_le role (draftD sn epoch seq kind (mixI key (headL role sn epoch seq) plain) (List.replicate 16 0)); omega)
set_option maxRecDepth 100000 in
theorem seal_canD {key : List Int} {role : Int} {sn : List Int} {epoch seq kind : Int} {plain : List Int} (h : sealB key role sn epoch seq kind plain = true) : canTag role (sealD key role sn epoch seq kind plain) = true := seal_can _ (seal_tag_len h) h
set_option maxRecDepth 100000 in
theorem seal_ok {key : List Int} {role : Int} {sn : List Int} {epoch seq kind : Int} {plain : List Int} (h : sealB key role sn epoch seq kind plain = true) : frameOk (sealD key role sn epoch seq kind plain) = true := (canTag_parts (seal_canD h)).2.2
set_option maxRecDepth 100000 in
theorem seal_tag {key : List Int} {role : Int} {sn : List Int} {epoch seq kind : Int} {plain : List Int} (h : sealB key role sn epoch seq kind plain = true) : (sealD key role sn epoch seq kind plain).tag = tagI key (tagIn role (sealD key role sn epoch seq kind plain)) := by
  exact congrArg (tagI key) (draft_tagIn role sn epoch seq kind _ _ _ (by rw [List.length_replicate]; exact (seal_tag_len h).symm))
set_option maxRecDepth 100000 in
theorem seal_unseal {key : List Int} {role : Int} {sn : List Int} {epoch seq kind : Int} {plain : List Int} (h : sealB key role sn epoch seq kind plain = true) : unsealB key role (sealD key role sn epoch seq kind plain) = true := by
  unfold unsealB
  rw [seal_canD h, decide_eq_true (seal_tag h)]
  have := (seal_may h).1
  simp [this]
set_option maxRecDepth 100000 in
theorem seal_back {key : List Int} {role : Int} {sn : List Int} {epoch seq kind : Int} {plain : List Int} (hb : Bytes plain) (h : sealB key role sn epoch seq kind plain = true) : unsealL key role (sealD key role sn epoch seq kind plain) = plain := by
  unfold unsealL
  rw [if_pos (seal_unseal h)]
  exact mixI_twice _ _ _ hb (seal_may h).2.2.2.2.2
set_option maxRecDepth 100000 in
theorem sealF_yes {key : List Int} {role : Int} {sn : List Int} {epoch seq kind : Int} {plain : List Int} (h : sealB key role sn epoch seq kind plain = true) : sealF key role sn epoch seq kind plain = sealD key role sn epoch seq kind plain := by unfold sealF; rw [if_pos h]
set_option maxRecDepth 100000 in
theorem sealF_no {key : List Int} {role : Int} {sn : List Int} {epoch seq kind : Int} {plain : List Int} (h : sealB key role sn epoch seq kind plain = false) : sealF key role sn epoch seq kind plain = zeroF := by unfold sealF; rw [if_neg (by rw [h]; simp)]
set_option maxRecDepth 100000 in
theorem unsealL_yes {key : List Int} {role : Int} {D : FrD} (h : unsealB key role D = true) : unsealL key role D = mixI key (headL role D.sn D.epoch D.seq) D.body := by unfold unsealL; rw [if_pos h]
set_option maxRecDepth 100000 in
theorem unsealL_no {key : List Int} {role : Int} {D : FrD} (h : unsealB key role D = false) : unsealL key role D = [] := by unfold unsealL; rw [if_neg (by rw [h]; simp)]
set_option maxRecDepth 100000 in
theorem unseal_parts {key : List Int} {role : Int} {D : FrD} (h : unsealB key role D = true) : key.length = 32 ∧ canTag role D = true ∧ D.tag = tagI key (tagIn role D) := by
  unfold unsealB at h; simp at h; exact ⟨by omega, h.2.1, h.2.2⟩
set_option maxRecDepth 100000 in
theorem mixI_bytes (k h b : List Int) (hb : Bytes b) : Bytes (mixI k h b) := by
  by_cases e : mayStr k h (b.length : Int) = true
  · rw [mixI_of _ _ _ e]; exact xors_bytes hb (strI_bytes _ _ _)
  · rw [mixI_no _ _ _ (by simpa using e)]; exact fun z hz => by cases hz
set_option maxRecDepth 100000 in
theorem unsealL_le (key : List Int) (role : Int) (D : FrD) : (unsealL key role D).length ≤ 200 := by
  unfold unsealL; split
  · exact mixI_le _ _ _
  · simp
set_option maxRecDepth 100000 in
theorem sealD_short {key : List Int} {role : Int} {sn : List Int} {epoch seq kind : Int} {plain : List Int} (h : sealB key role sn epoch seq kind plain = true) : FrShort (sealD key role sn epoch seq kind plain) 100 := FrQ3.short_ok _ (seal_ok h)
set_option maxRecDepth 100000 in
theorem zeroF_short (n : Nat) : FrShort zeroF n := ⟨Nat.zero_le _, Nat.zero_le _, Nat.zero_le _, Nat.zero_le _, Nat.zero_le _, Nat.zero_le _⟩
set_option maxRecDepth 100000 in
theorem short_le {D : FrD} {n m : Nat} (h : FrShort D n) (hm : n ≤ m) : FrShort D m := ⟨by have := h.cn; omega, by have := h.sn; omega, by have := h.cookie; omega, by have := h.proof; omega, by have := h.body; omega, by have := h.tag; omega⟩
set_option maxRecDepth 100000 in
theorem sealF_short (key : List Int) (role : Int) (sn : List Int) (epoch seq kind : Int) (plain : List Int) : FrShort (sealF key role sn epoch seq kind plain) 100 := by
  by_cases h : sealB key role sn epoch seq kind plain = true
  · rw [sealF_yes h]; exact sealD_short h
  · rw [sealF_no (by simpa using h)]; exact zeroF_short _
end Go.Proofs.YtmcflfpckpjphaaGreatDoor.SlQ
