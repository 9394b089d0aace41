/-
  The struct Jar: its data, its value, what it reads as, what it owns; and what the laws' helpers over it answer.
-/
import Derived.Test.YtpgapjdejelajaaDoorZoneB
import Derived.Test.YtpgapjdejelajaaDoorRes
import Derived.Deep.CutBlock
namespace Go.Proofs.YtpgapjdejelajaaDoor.JaZ
open Go.RowKit Go.Proofs.YtpgapjdejelajaaDoor.Mem Go.Proofs.YtpgapjdejelajaaDoor.Blk Go.Proofs.YtpgapjdejelajaaDoor.Zone Go.Proofs.YtpgapjdejelajaaDoor.ZoneB Go.Proofs.YtpgapjdejelajaaDoor.Res

/-- The data. -/
structure JaD where
  secret : List Int
/-- The slices. -/
structure JaS where
  secret : Sl
def jaV (_D : JaD) (S : JaS) : Value := .agg #[.slice S.secret.a S.secret.n S.secret.c]
/-- It reads as D. -/
structure JaRd (w : World) (S : JaS) (D : JaD) : Prop where
  secret : SRd w S.secret D.secret
/-- No two slices lie in one block. -/
structure JaApart (S : JaS) : Prop where
/-- It owns its memory, in the zone [lo, hi). -/
structure JaOwn (w : World) (lo hi : Nat) (S : JaS) (D : JaD) : Prop where
  secret : SOwn w lo hi S.secret D.secret
  apart : JaApart S
set_option maxRecDepth 100000 in
theorem JaOwn.rd {w : World} {lo hi : Nat} {S : JaS} {D : JaD} (h : JaOwn w lo hi S D) : JaRd w S D := ⟨h.secret.rd⟩
set_option maxRecDepth 100000 in
theorem JaOwn.carry {w w' : World} {lo hi a b : Nat} {S : JaS} {D : JaD} (h : JaOwn w lo hi S D) (k : Kept a b w w') (d : hi ≤ a ∨ b ≤ lo) : JaOwn w' lo hi S D := ⟨h.secret.carry k d, h.apart⟩
set_option maxRecDepth 100000 in
theorem JaOwn.later {w w' : World} {lo hi : Nat} {S : JaS} {D : JaD} (h : JaOwn w lo hi S D) (k : Below w.heap.size w w') : JaOwn w' lo hi S D := h.carry (Kept.of_below k hi) (.inl (Nat.le_refl _))
set_option maxRecDepth 100000 in
theorem JaOwn.mono {w : World} {lo hi lo' hi' : Nat} {S : JaS} {D : JaD} (h : JaOwn w lo hi S D) (h1 : lo' ≤ lo) (h2 : hi ≤ hi') : JaOwn w lo' hi' S D := ⟨h.secret.mono h1 h2, h.apart⟩
set_option maxRecDepth 100000 in
theorem JaRd.later {w w' : World} {S : JaS} {D : JaD} (h : JaRd w S D) (k : Below w.heap.size w w') : JaRd w' S D := ⟨h.secret.later k⟩
/-- All lists are short. -/
structure JaShort (D : JaD) (n : Nat) : Prop where
  secret : D.secret.length ≤ n
set_option maxRecDepth 100000 in
theorem aggJa : aggB Tryd.prog 24 1 = true := by kernel_rfl

set_option maxRecDepth 100000 in
set_option maxHeartbeats 4000000 in
theorem toJar (S : JaS) (D : JaD) (w : World) (h : JaRd w S D) (hl : JaShort D 4194304) :
    Calls Tryd.prog 15 #[jaV D S] w fun e w' => ∃ S', e = .returned (jaV D S') ∧ JaOwn w' w.heap.size w'.heap.size S' D ∧ Below w.heap.size w w' := by
  have HR : Hid (JaRd w S D) := h
  have HL : Hid (JaShort D 4194304) := hl
  obtain ⟨x0, hx0⟩ : ∃ x0, ((w.alloc (.cells #[.slice S.secret.a S.secret.n S.secret.c] 32)).alloc (.cells #[.slice none 0 0] 24)).alloc (.cells #[.slice none 0 0] 24) = x0 := ⟨_, rfl⟩
  have HW0 : Hid (((w.alloc (.cells #[.slice S.secret.a S.secret.n S.secret.c] 32)).alloc (.cells #[.slice none 0 0] 24)).alloc (.cells #[.slice none 0 0] 24) = x0) := hx0
  have B0 : Hid (Below w.heap.size w x0) := by rw [← hx0]; exact (((Below.refl _ _).alloc (Nat.le_refl _) _).alloc (by simp) _).alloc (by simp; omega) _
  have KA0 : Hid (Blk x0 w.heap.size 32 [.slice S.secret.a S.secret.n S.secret.c]) := by rw [← hx0]; exact ((Blk.new w _ _).alloc _).alloc _
  have KR0 : Hid (Blk x0 (w.heap.size + 1) 24 [.slice none 0 0]) := by
    have := Blk.new (w.alloc (.cells #[.slice S.secret.a S.secret.n S.secret.c] 32)) 24 [.slice none 0 0]
    rw [World.size_alloc] at this
    rw [← hx0]; exact this.alloc _
  have KO0 : Hid (Blk x0 (w.heap.size + 1 + 1) 24 [.slice none 0 0]) := by
    have := Blk.new ((w.alloc (.cells #[.slice S.secret.a S.secret.n S.secret.c] 32)).alloc (.cells #[.slice none 0 0] 24)) 24 [.slice none 0 0]
    rw [World.size_alloc, World.size_alloc] at this
    rw [← hx0]; exact this
  have Z0 : Hid (w.heap.size + 1 + 1 < x0.heap.size) := KO0.out.lt
  clear h hl hx0
  unfold jaV
  go_enter Tryd.func15, Tryd.ntmps15
  go_upto_region 2 with fail
  rw [HW0.out]
  obtain ⟨ga, hga⟩ : ∃ ga, w.heap.size = ga := ⟨_, rfl⟩
  obtain ⟨gr, hgr⟩ : ∃ gr, w.heap.size + 1 = gr := ⟨_, rfl⟩
  obtain ⟨go, hgo⟩ : ∃ go, w.heap.size + 1 + 1 = go := ⟨_, rfl⟩
  have HGS : Hid (ga = w.heap.size ∧ gr = ga + 1 ∧ go = gr + 1) := ⟨hga.symm, by omega, by omega⟩
  rw [hgo] at KO0 Z0
  rw [hgr] at KR0
  rw [hga] at KA0
  rw [hgo, hgr, hga]
  clear HW0 hga hgr hgo
  have ca := KA0.out.cell 0 rfl
  go_wp2_with fail
  refine (toB S.secret D.secret x0 (HR.out.secret.later (Below.mono B0.out (Nat.le_refl _))) HL.out.secret).mono ?_
  rintro e y0 ⟨rfl, o0, b0⟩
  have Osecret : Hid (SOwn y0 x0.heap.size y0.heap.size ⟨some ⟨x0.heap.size, 0, none⟩, S.secret.n, S.secret.n⟩ D.secret) := o0
  have LTsecret : Hid (x0.heap.size < y0.heap.size) := by obtain ⟨_, ⟨h1, _⟩ | ⟨g, h1, _, h3, h4, _⟩⟩ := o0; (· cases h1); (· show _ < _; omega)
  have BN0 : Hid (Below w.heap.size w y0) := B0.out.trans (b0.mono B0.out.size)
  have KA0b : Hid (Blk y0 ga 32 [.slice S.secret.a S.secret.n S.secret.c]) := KA0.out.later b0
  have KR0b : Hid (Blk y0 gr 24 [.slice none 0 0]) := KR0.out.later b0
  have KO0b : Hid (Blk y0 go 24 [.slice none 0 0]) := KO0.out.later b0
  have KP0 : Hid (Kept go (go + 1) x0 y0) := (Kept.of_below b0 0).any
  have LOsecret : Hid (go + 1 ≤ x0.heap.size) := KO0.out.lt
  clear o0 b0 ca
  obtain ⟨x1, hx1⟩ : ∃ x1, y0.setCell ⟨go, 0, none⟩ (.slice (some ⟨x0.heap.size, 0, none⟩) S.secret.n S.secret.n) = x1 := ⟨_, rfl⟩
  have HW : Hid (y0.setCell ⟨go, 0, none⟩ (.slice (some ⟨x0.heap.size, 0, none⟩) S.secret.n S.secret.n) = x1) := hx1
  have co := KO0b.out.cell 0 rfl
  have fo := KO0b.out.frozen 0
  have KA1 : Hid (Blk x1 ga 32 [.slice S.secret.a S.secret.n S.secret.c]) := by rw [← hx1]; exact KA0b.out.other (by show ga ≠ go; have := HGS.out; omega) _
  have KR1 : Hid (Blk x1 gr 24 [.slice none 0 0]) := by rw [← hx1]; exact KR0b.out.other (by show gr ≠ go; have := HGS.out; omega) _
  have KO1 : Hid (Blk x1 go 24 [.slice (some ⟨x0.heap.size, 0, none⟩) S.secret.n S.secret.n]) := by rw [← hx1]; exact KO0b.out.set 0 _ (by simp [maxLen])
  have B1 : Hid (Below w.heap.size w x1) := by rw [← hx1]; exact BN0.out.setCell (by show _ ≤ go; have := HGS.out; omega) _
  have KS1 : Hid (Kept go (go + 1) y0 x1) := by rw [← hx1]; exact Kept.setCell _ _ _ _
  have ZS1 : Hid (x1.heap.size = y0.heap.size) := by rw [← hx1]; show _ = _; simp
  clear hx1
  go_upto_region 3 with fail
  rw [HW.out]
  clear HW co fo KA0 KR0 KO0 KA0b KR0b KO0b B0
  -- the whole is handed over
  have co0 := KO1.out.cell 0 rfl
  have cr0 := KR1.out.cell 0 rfl
  have fr0 := KR1.out.frozen 0
  go_wp2
  have KF : Blk (x1.setCell ⟨gr, 0, none⟩ (.slice (some ⟨x0.heap.size, 0, none⟩) S.secret.n S.secret.n)) gr 24 [.slice (some ⟨x0.heap.size, 0, none⟩) S.secret.n S.secret.n] := KR1.out.set 0 _ (by simp [maxLen])
  have BF : Below w.heap.size w (x1.setCell ⟨gr, 0, none⟩ (.slice (some ⟨x0.heap.size, 0, none⟩) S.secret.n S.secret.n)) := B1.out.setCell (by show _ ≤ gr; have := HGS.out; omega) _
  have KF2 : Kept gr (gr + 1) x1 (x1.setCell ⟨gr, 0, none⟩ (.slice (some ⟨x0.heap.size, 0, none⟩) S.secret.n S.secret.n)) := (Kept.setCell _ _ _ _)
  have Fsecret := (Osecret.out.carry KS1.out (.inr LOsecret.out)).carry KF2 (.inr (Nat.le_trans (by have := HGS.out; omega) LOsecret.out))
  have ST : Hid (w.heap.size ≤ x0.heap.size ∧ y0.heap.size ≤ (x1.setCell ⟨gr, 0, none⟩ (.slice (some ⟨x0.heap.size, 0, none⟩) S.secret.n S.secret.n)).heap.size) := by
    have s0 := KP0.out.size; have s1 := KS1.out.size; have sf := KF2.size; have lsecret := LTsecret.out; have hg := HGS.out; have z0 := Z0.out
    exact ⟨by omega, by omega⟩
  exact bodyPost_ret (v := jaV D ⟨⟨some ⟨x0.heap.size, 0, none⟩, S.secret.n, S.secret.n⟩⟩) (res1 rfl (is_cell rfl KF aggJa)) rfl ⟨⟨⟨some ⟨x0.heap.size, 0, none⟩, S.secret.n, S.secret.n⟩⟩, rfl, ⟨Fsecret.mono ST.out.1 ST.out.2, ⟨⟩⟩, BF⟩

set_option maxRecDepth 100000 in
set_option maxHeartbeats 4000000 in
theorem eqJar (S S' : JaS) (D : JaD) (w : World) (h : JaRd w S D) (h' : JaRd w S' D) (hl : JaShort D 4194304) :
    Calls Tryd.prog 8 #[jaV D S, jaV D S'] w fun e w' => e = .returned (.bool true) ∧ Below w.heap.size w w' := by
  have HR : Hid (JaRd w S D) := h
  have HQ : Hid (JaRd w S' D) := h'
  have HL : Hid (JaShort D 4194304) := hl
  obtain ⟨x0, hx0⟩ : ∃ x0, (w.alloc (.cells #[.slice S.secret.a S.secret.n S.secret.c] 24)).alloc (.cells #[.slice S'.secret.a S'.secret.n S'.secret.c] 24) = x0 := ⟨_, rfl⟩
  have HW0 : Hid ((w.alloc (.cells #[.slice S.secret.a S.secret.n S.secret.c] 24)).alloc (.cells #[.slice S'.secret.a S'.secret.n S'.secret.c] 24) = x0) := hx0
  have B0 : Hid (Below w.heap.size w x0) := by rw [← hx0]; exact ((Below.refl _ _).alloc (Nat.le_refl _) _).alloc (by simp) _
  have KA0 : Hid (Blk x0 w.heap.size 24 [.slice S.secret.a S.secret.n S.secret.c]) := by rw [← hx0]; exact (Blk.new w _ _).alloc _
  have KB0 : Hid (Blk x0 (w.heap.size + 1) 24 [.slice S'.secret.a S'.secret.n S'.secret.c]) := by
    have := Blk.new (w.alloc (.cells #[.slice S.secret.a S.secret.n S.secret.c] 24)) 24 [.slice S'.secret.a S'.secret.n S'.secret.c]
    rw [World.size_alloc] at this
    rw [← hx0]; exact this
  clear h h' hl hx0
  unfold jaV
  go_enter Tryd.func8, Tryd.ntmps8
  go_upto_region 1 with fail
  rw [HW0.out]
  generalize w.heap.size + 1 = gb at *
  obtain ⟨ga, hga⟩ : ∃ ga, w.heap.size = ga := ⟨_, rfl⟩
  have HGA : Hid (w.heap.size = ga) := hga
  rw [hga] at KA0
  rw [hga]
  clear HW0 hga
  have ca0 := KA0.out.cell 0 rfl
  have cb0 := KB0.out.cell 0 rfl
  go_wp2_with fail
  refine (eqB S.secret S'.secret D.secret D.secret x0 (HR.out.secret.later B0.out) (HQ.out.secret.later B0.out) HL.out.secret HL.out.secret).mono ?_
  rw [decide_eq_true (show D.secret = D.secret from rfl)]
  rintro e x1 ⟨rfl, b⟩
  have KA1 : Hid (Blk x1 ga 24 [.slice S.secret.a S.secret.n S.secret.c]) := KA0.out.later b
  have KB1 : Hid (Blk x1 gb 24 [.slice S'.secret.a S'.secret.n S'.secret.c]) := KB0.out.later b
  have B1 : Hid (Below w.heap.size w x1) := B0.out.trans (b.mono B0.out.size)
  clear b KA0 KB0 B0 ca0 cb0
  go_wp2
  go_ret
  exact ⟨rfl, B1.out⟩
/-- The lists marked, one behind the other. -/
def jaMarks (k : Int) (S : JaS) (D : JaD) : JaD := { D with secret := marks k S.secret.n }
def jaSum (S : JaS) : Nat := S.secret.n

set_option maxRecDepth 100000 in
set_option maxHeartbeats 4000000 in
theorem markJar (S : JaS) (D : JaD) (k : Int) (w : World) (lo hi : Nat) (h : JaOwn w lo hi S D) (hh : hi ≤ w.heap.size) (k0 : 0 ≤ k) (k1 : k + jaSum S ≤ 4194304) :
    Calls Tryd.prog 11 #[jaV D S, .int .i64 k] w fun e w' => e = .returned (.int .i64 (k + jaSum S)) ∧ JaOwn w' lo hi S (jaMarks k S D) ∧ Kept lo hi w w' := by
  have HA : Hid (JaApart S) := h.apart
  obtain ⟨x0, hx0⟩ : ∃ x0, w.alloc (.cells #[.slice S.secret.a S.secret.n S.secret.c] 24) = x0 := ⟨_, rfl⟩
  have HW0 : Hid (w.alloc (.cells #[.slice S.secret.a S.secret.n S.secret.c] 24) = x0) := hx0
  have b0 : Below w.heap.size w x0 := by rw [← hx0]; exact (Below.refl _ _).alloc (Nat.le_refl _) _
  have Q0 : Hid (Kept lo hi w x0) := (Kept.of_below b0 0).any
  have KA0 : Hid (Blk x0 w.heap.size 24 [.slice S.secret.a S.secret.n S.secret.c]) := by rw [← hx0]; exact Blk.new w _ _
  have Osecret0 : Hid (SOwn x0 lo hi S.secret D.secret) := h.secret.carry (Kept.of_below b0 hi) (.inl (Nat.le_refl _))
  have HZ : Hid (w.heap.size < x0.heap.size) := KA0.out.lt
  have HS : Hid (jaSum S = S.secret.n) := rfl
  have k1' : k + (S.secret.n : Int) ≤ 4194304 := by have := HS.out; omega
  have HE : Hid (k + (jaSum S : Int) = (k + (S.secret.n : Int))) := by have := HS.out; show _ = _; omega
  rw [HE.out]
  clear h hx0 b0 k1
  unfold jaV
  go_enter Tryd.func11, Tryd.ntmps11
  go_upto_region 1 with fail
  rw [HW0.out]
  obtain ⟨ga, hga⟩ : ∃ ga, w.heap.size = ga := ⟨_, rfl⟩
  have HGA : Hid (hi ≤ ga) := by show hi ≤ ga; omega
  rw [hga] at KA0
  rw [hga]
  clear HW0 hga
  have ca := KA0.out.cell 0 rfl
  go_wp2_with fail
  refine (markB S.secret D.secret k x0 lo hi Osecret0.out (by rw [← Osecret0.out.len]; omega) (by omega) (by omega)).mono ?_
  rintro e x1 ⟨rfl, o, kp, ne⟩
  have KA1 : Hid (Blk x1 ga 24 [.slice S.secret.a S.secret.n S.secret.c]) := KA0.out.keep (kp.block ga KA0.out.lt (.inr HGA.out))
  have Q1 : Hid (Kept lo hi w x1) := Q0.out.trans kp
  have Osecret1 : Hid (SOwn x1 lo hi S.secret (marks k S.secret.n)) := o
  clear o kp ne ca KA0 Q0 Osecret0
  go_wp2
  go_ret
  exact ⟨rfl, ⟨Osecret1.out, HA.out⟩, Q1.out⟩

set_option maxRecDepth 100000 in
set_option maxHeartbeats 4000000 in
theorem heldJar (S : JaS) (D : JaD) (k : Int) (w : World) (h : JaRd w S (jaMarks k S D)) (k0 : 0 ≤ k) (k1 : k + jaSum S ≤ 4194304) :
    Calls Tryd.prog 12 #[jaV D S, .int .i64 k] w fun e w' => e = .returned (.int .i64 (k + jaSum S)) ∧ Below w.heap.size w w' := by
  have HR : Hid (JaRd w S (jaMarks k S D)) := h
  obtain ⟨x0, hx0⟩ : ∃ x0, w.alloc (.cells #[.slice S.secret.a S.secret.n S.secret.c] 24) = x0 := ⟨_, rfl⟩
  have HW0 : Hid (w.alloc (.cells #[.slice S.secret.a S.secret.n S.secret.c] 24) = x0) := hx0
  have B0 : Hid (Below w.heap.size w x0) := by rw [← hx0]; exact (Below.refl _ _).alloc (Nat.le_refl _) _
  have KA0 : Hid (Blk x0 w.heap.size 24 [.slice S.secret.a S.secret.n S.secret.c]) := by rw [← hx0]; exact Blk.new w _ _
  have HS : Hid (jaSum S = S.secret.n) := rfl
  have k1' : k + (S.secret.n : Int) ≤ 4194304 := by have := HS.out; omega
  have HE : Hid (k + (jaSum S : Int) = (k + (S.secret.n : Int))) := by have := HS.out; show _ = _; omega
  rw [HE.out]
  clear h hx0 k1
  unfold jaV
  go_enter Tryd.func12, Tryd.ntmps12
  go_upto_region 1 with fail
  rw [HW0.out]
  generalize w.heap.size = ga at KA0 ⊢
  clear HW0
  have ca := KA0.out.cell 0 rfl
  go_wp2_with fail
  refine (heldB S.secret k x0 (HR.out.secret.later B0.out) (by omega) (by omega) (by omega)).mono ?_
  rintro e x1 ⟨rfl, rfl⟩
  have kn0 : ¬ ((k + (S.secret.n : Int)) < 0) := by omega
  clear ca
  go_wp2
  go_ret
  exact ⟨rfl, B0.out⟩
/-- All slices are of a length that there is. -/
structure JaSmall (S : JaS) : Prop where
  secret : S.secret.n ≤ 9223372036854775807

set_option maxRecDepth 100000 in
set_option maxHeartbeats 4000000 in
theorem szJar (S : JaS) (D : JaD) (k : Int) (w : World) (h : JaSmall S) (k0 : 0 ≤ k) (k1 : k ≤ 4194304) :
    Calls Tryd.prog 13 #[jaV D S, .int .i64 k] w fun e w' => e = .returned (.int .i64 (if k - jaSum S < 0 then -1 else k - jaSum S)) ∧ Below w.heap.size w w' := by
  obtain ⟨x0, hx0⟩ : ∃ x0, w.alloc (.cells #[.slice S.secret.a S.secret.n S.secret.c] 32) = x0 := ⟨_, rfl⟩
  have HW0 : Hid (w.alloc (.cells #[.slice S.secret.a S.secret.n S.secret.c] 32) = x0) := hx0
  have B0 : Hid (Below w.heap.size w x0) := by rw [← hx0]; exact (Below.refl _ _).alloc (Nat.le_refl _) _
  have KA0 : Hid (Blk x0 w.heap.size 32 [.slice S.secret.a S.secret.n S.secret.c]) := by rw [← hx0]; exact Blk.new w _ _
  have HS : Hid (jaSum S = S.secret.n) := rfl
  have HM : Hid (JaSmall S) := h
  obtain ⟨v, hv⟩ : ∃ v, (if k - (jaSum S : Int) < 0 then -1 else k - (jaSum S : Int)) = v := ⟨_, rfl⟩
  have HV : Hid ((if k - (jaSum S : Int) < 0 then -1 else k - (jaSum S : Int)) = v) := hv
  rw [hv]
  clear h hx0 hv
  unfold jaV
  go_enter Tryd.func13, Tryd.ntmps13
  go_upto_region 1 with fail
  rw [HW0.out]
  generalize w.heap.size = ga at KA0 ⊢
  clear HW0
  have ca := KA0.out.cell 0 rfl
  go_wp2_with fail
  refine (szB S.secret (k) x0 HM.out.secret (by omega) (by omega)).mono ?_
  rintro e x1 ⟨rfl, rfl⟩
  clear ca
  by_cases c0 : k - (S.secret.n : Int) < 0
  · obtain rfl : v = -1 := by rw [← HV.out]; exact if_pos (by have := HS.out; omega)
    rw [if_pos c0]
    go_wp2
    go_ret
    exact ⟨rfl, B0.out⟩
  · rw [if_neg c0]
    obtain rfl : v = k - (S.secret.n : Int) := by have := HS.out; rw [← HV.out, if_neg (by omega)]; omega
    go_wp2
    go_ret
    exact ⟨rfl, B0.out⟩
end Go.Proofs.YtpgapjdejelajaaDoor.JaZ
