/-
  The struct Dice: its data, its value, what it reads as, what it owns; and what the laws' helpers over it answer.
  How long the lists of a Dice are, all in all.
  Dice as plain functions: which are dice, and dice that are wound.
  What dice roll, as plain functions.
-/
import Derived.Test.YtcodonnknepkeaaDoorZoneB
import Derived.Test.YtcodonnknepkeaaDoorRes
import Derived.Deep.CutBlock
import Derived.Test.YtcodonnknepkeaaDoorZoneI
import Derived.Test.YtcodonnknepkeaaDoorWords
import Derived.Test.YtcodonnknepkeaaDoorMacP
import Derived.Test.YtcodonnknepkeaaDoorStr
set_option linter.unusedVariables false
namespace Go.Proofs.YtcodonnknepkeaaDoor.DiZ
open Go.RowKit Go.Proofs.YtcodonnknepkeaaDoor.Mem Go.Proofs.YtcodonnknepkeaaDoor.Blk Go.Proofs.YtcodonnknepkeaaDoor.Zone Go.Proofs.YtcodonnknepkeaaDoor.ZoneB Go.Proofs.YtcodonnknepkeaaDoor.Res

/-- The data. -/
structure DiD where
  seed : List Int
  num : Int
/-- The slices. -/
structure DiS where
  seed : Sl
def diV (D : DiD) (S : DiS) : Value := .agg #[.slice S.seed.a S.seed.n S.seed.c, .int .i64 D.num]
/-- It reads as D. -/
structure DiRd (w : World) (S : DiS) (D : DiD) : Prop where
  seed : SRd w S.seed D.seed
/-- No two slices lie in one block. -/
structure DiApart (S : DiS) : Prop where
/-- It owns its memory, in the zone [lo, hi). -/
structure DiOwn (w : World) (lo hi : Nat) (S : DiS) (D : DiD) : Prop where
  seed : SOwn w lo hi S.seed D.seed
  apart : DiApart S
set_option maxRecDepth 100000 in
theorem DiOwn.rd {w : World} {lo hi : Nat} {S : DiS} {D : DiD} (h : DiOwn w lo hi S D) : DiRd w S D := ⟨h.seed.rd⟩
set_option maxRecDepth 100000 in
theorem DiOwn.carry {w w' : World} {lo hi a b : Nat} {S : DiS} {D : DiD} (h : DiOwn w lo hi S D) (k : Kept a b w w') (d : hi ≤ a ∨ b ≤ lo) : DiOwn w' lo hi S D := ⟨h.seed.carry k d, h.apart⟩
set_option maxRecDepth 100000 in
theorem DiOwn.later {w w' : World} {lo hi : Nat} {S : DiS} {D : DiD} (h : DiOwn w lo hi S D) (k : Below w.heap.size w w') : DiOwn w' lo hi S D := h.carry (Kept.of_below k hi) (.inl (Nat.le_refl _))
set_option maxRecDepth 100000 in
theorem DiOwn.mono {w : World} {lo hi lo' hi' : Nat} {S : DiS} {D : DiD} (h : DiOwn w lo hi S D) (h1 : lo' ≤ lo) (h2 : hi ≤ hi') : DiOwn w lo' hi' S D := ⟨h.seed.mono h1 h2, h.apart⟩
set_option maxRecDepth 100000 in
theorem DiRd.later {w w' : World} {S : DiS} {D : DiD} (h : DiRd w S D) (k : Below w.heap.size w w') : DiRd w' S D := ⟨h.seed.later k⟩
/-- All lists are short. -/
structure DiShort (D : DiD) (n : Nat) : Prop where
  seed : D.seed.length ≤ n
set_option maxRecDepth 100000 in
theorem aggDi : aggB Tryd.prog 25 2 = true := by kernel_rfl

set_option maxRecDepth 100000 in
set_option maxHeartbeats 4000000 in
theorem toDice (S : DiS) (D : DiD) (w : World) (h : DiRd w S D) (hl : DiShort D 4194304) :
    Calls Tryd.prog 21 #[diV D S] w fun e w' => ∃ S', e = .returned (diV D S') ∧ DiOwn w' w.heap.size w'.heap.size S' D ∧ Below w.heap.size w w' := by
  have HR : Hid (DiRd w S D) := h
  have HL : Hid (DiShort D 4194304) := hl
  obtain ⟨x0, hx0⟩ : ∃ x0, ((w.alloc (.cells #[.slice S.seed.a S.seed.n S.seed.c, .int .i64 D.num] 36)).alloc (.cells #[.slice none 0 0, .int .i64 0] 25)).alloc (.cells #[.slice none 0 0, .int .i64 0] 25) = x0 := ⟨_, rfl⟩
  have HW0 : Hid (((w.alloc (.cells #[.slice S.seed.a S.seed.n S.seed.c, .int .i64 D.num] 36)).alloc (.cells #[.slice none 0 0, .int .i64 0] 25)).alloc (.cells #[.slice none 0 0, .int .i64 0] 25) = x0) := hx0
  have B0 : Hid (Below w.heap.size w x0) := by rw [← hx0]; exact (((Below.refl _ _).alloc (Nat.le_refl _) _).alloc (by simp) _).alloc (by simp; omega) _
  have KA0 : Hid (Blk x0 w.heap.size 36 [.slice S.seed.a S.seed.n S.seed.c, .int .i64 D.num]) := by rw [← hx0]; exact ((Blk.new w _ _).alloc _).alloc _
  have KR0 : Hid (Blk x0 (w.heap.size + 1) 25 [.slice none 0 0, .int .i64 0]) := by
    have := Blk.new (w.alloc (.cells #[.slice S.seed.a S.seed.n S.seed.c, .int .i64 D.num] 36)) 25 [.slice none 0 0, .int .i64 0]
    rw [World.size_alloc] at this
    rw [← hx0]; exact this.alloc _
  have KO0 : Hid (Blk x0 (w.heap.size + 1 + 1) 25 [.slice none 0 0, .int .i64 0]) := by
    have := Blk.new ((w.alloc (.cells #[.slice S.seed.a S.seed.n S.seed.c, .int .i64 D.num] 36)).alloc (.cells #[.slice none 0 0, .int .i64 0] 25)) 25 [.slice none 0 0, .int .i64 0]
    rw [World.size_alloc, World.size_alloc] at this
    rw [← hx0]; exact this
  have Z0 : Hid (w.heap.size + 1 + 1 < x0.heap.size) := KO0.out.lt
  clear h hl hx0
  unfold diV
  go_enter Tryd.func21, Tryd.ntmps21
  go_upto_region 2 with fail
  rw [HW0.out]
  obtain ⟨ga, hga⟩ : ∃ ga, w.heap.size = ga := ⟨_, rfl⟩
  obtain ⟨gr, hgr⟩ : ∃ gr, w.heap.size + 1 = gr := ⟨_, rfl⟩
  obtain ⟨go, hgo⟩ : ∃ go, w.heap.size + 1 + 1 = go := ⟨_, rfl⟩
  have HGS : Hid (ga = w.heap.size ∧ gr = ga + 1 ∧ go = gr + 1) := ⟨hga.symm, by omega, by omega⟩
  rw [hgo] at KO0 Z0
  rw [hgr] at KR0
  rw [hga] at KA0
  rw [hgo, hgr, hga]
  clear HW0 hga hgr hgo
  have ca := KA0.out.cell 0 rfl
  go_wp2_with fail
  refine (toB S.seed D.seed x0 (HR.out.seed.later (Below.mono B0.out (Nat.le_refl _))) HL.out.seed).mono ?_
  rintro e y0 ⟨rfl, o0, b0⟩
  have Oseed : Hid (SOwn y0 x0.heap.size y0.heap.size ⟨some ⟨x0.heap.size, 0, none⟩, S.seed.n, S.seed.n⟩ D.seed) := o0
  have LTseed : Hid (x0.heap.size < y0.heap.size) := by obtain ⟨_, ⟨h1, _⟩ | ⟨g, h1, _, h3, h4, _⟩⟩ := o0; (· cases h1); (· show _ < _; omega)
  have BN0 : Hid (Below w.heap.size w y0) := B0.out.trans (b0.mono B0.out.size)
  have KA0b : Hid (Blk y0 ga 36 [.slice S.seed.a S.seed.n S.seed.c, .int .i64 D.num]) := KA0.out.later b0
  have KR0b : Hid (Blk y0 gr 25 [.slice none 0 0, .int .i64 0]) := KR0.out.later b0
  have KO0b : Hid (Blk y0 go 25 [.slice none 0 0, .int .i64 0]) := KO0.out.later b0
  have KP0 : Hid (Kept go (go + 1) x0 y0) := (Kept.of_below b0 0).any
  have LOseed : Hid (go + 1 ≤ x0.heap.size) := KO0.out.lt
  clear o0 b0 ca
  obtain ⟨x1, hx1⟩ : ∃ x1, y0.setCell ⟨go, 0, none⟩ (.slice (some ⟨x0.heap.size, 0, none⟩) S.seed.n S.seed.n) = x1 := ⟨_, rfl⟩
  have HW : Hid (y0.setCell ⟨go, 0, none⟩ (.slice (some ⟨x0.heap.size, 0, none⟩) S.seed.n S.seed.n) = x1) := hx1
  have co := KO0b.out.cell 0 rfl
  have fo := KO0b.out.frozen 0
  have KA1 : Hid (Blk x1 ga 36 [.slice S.seed.a S.seed.n S.seed.c, .int .i64 D.num]) := by rw [← hx1]; exact KA0b.out.other (by show ga ≠ go; have := HGS.out; omega) _
  have KR1 : Hid (Blk x1 gr 25 [.slice none 0 0, .int .i64 0]) := by rw [← hx1]; exact KR0b.out.other (by show gr ≠ go; have := HGS.out; omega) _
  have KO1 : Hid (Blk x1 go 25 [.slice (some ⟨x0.heap.size, 0, none⟩) S.seed.n S.seed.n, .int .i64 0]) := by rw [← hx1]; exact KO0b.out.set 0 _ (by simp [maxLen])
  have B1 : Hid (Below w.heap.size w x1) := by rw [← hx1]; exact BN0.out.setCell (by show _ ≤ go; have := HGS.out; omega) _
  have KS1 : Hid (Kept go (go + 1) y0 x1) := by rw [← hx1]; exact Kept.setCell _ _ _ _
  have ZS1 : Hid (x1.heap.size = y0.heap.size) := by rw [← hx1]; show _ = _; simp
  clear hx1
  go_upto_region 3 with fail
  rw [HW.out]
  clear HW co fo KA0 KR0 KO0 KA0b KR0b KO0b B0
  have ca := KA1.out.cell 1 rfl
  obtain ⟨x2, hx2⟩ : ∃ x2, x1.setCell ⟨go, 1, none⟩ (.int .i64 D.num) = x2 := ⟨_, rfl⟩
  have HW : Hid (x1.setCell ⟨go, 1, none⟩ (.int .i64 D.num) = x2) := hx2
  have co := KO1.out.cell 1 rfl
  have fo := KO1.out.frozen 1
  have KA2 : Hid (Blk x2 ga 36 [.slice S.seed.a S.seed.n S.seed.c, .int .i64 D.num]) := by rw [← hx2]; exact KA1.out.other (by show ga ≠ go; have := HGS.out; omega) _
  have KR2 : Hid (Blk x2 gr 25 [.slice none 0 0, .int .i64 0]) := by rw [← hx2]; exact KR1.out.other (by show gr ≠ go; have := HGS.out; omega) _
  have KO2 : Hid (Blk x2 go 25 [.slice (some ⟨x0.heap.size, 0, none⟩) S.seed.n S.seed.n, .int .i64 D.num]) := by rw [← hx2]; exact KO1.out.set 1 _ (by simp [maxLen])
  have B2 : Hid (Below w.heap.size w x2) := by rw [← hx2]; exact B1.out.setCell (by show _ ≤ go; have := HGS.out; omega) _
  have KS2 : Hid (Kept go (go + 1) x1 x2) := by rw [← hx2]; exact Kept.setCell _ _ _ _
  have ZS2 : Hid (x2.heap.size = x1.heap.size) := by rw [← hx2]; show _ = _; simp
  clear hx2
  go_upto_region 4 with fail
  rw [HW.out]
  clear HW co fo KA1 KR1 KO1 ca B1
  -- the whole is handed over
  have co0 := KO2.out.cell 0 rfl
  have co1 := KO2.out.cell 1 rfl
  have cr0 := KR2.out.cell 0 rfl
  have cr1 := KR2.out.cell 1 rfl
  have fr0 := KR2.out.frozen 0
  have fr1 := KR2.out.frozen 1
  go_wp2
  have KF : Blk ((x2.setCell ⟨gr, 0, none⟩ (.slice (some ⟨x0.heap.size, 0, none⟩) S.seed.n S.seed.n)).setCell ⟨gr, 1, none⟩ (.int .i64 D.num)) gr 25 [.slice (some ⟨x0.heap.size, 0, none⟩) S.seed.n S.seed.n, .int .i64 D.num] := (KR2.out.set 0 _ (by simp [maxLen])).set 1 _ (by simp [maxLen])
  have BF : Below w.heap.size w ((x2.setCell ⟨gr, 0, none⟩ (.slice (some ⟨x0.heap.size, 0, none⟩) S.seed.n S.seed.n)).setCell ⟨gr, 1, none⟩ (.int .i64 D.num)) := (B2.out.setCell (by show _ ≤ gr; have := HGS.out; omega) _).setCell (by show _ ≤ gr; have := HGS.out; omega) _
  have KF2 : Kept gr (gr + 1) x2 ((x2.setCell ⟨gr, 0, none⟩ (.slice (some ⟨x0.heap.size, 0, none⟩) S.seed.n S.seed.n)).setCell ⟨gr, 1, none⟩ (.int .i64 D.num)) := (Kept.setCell _ _ _ _).trans (Kept.setCell _ _ _ _)
  have Fseed := ((Oseed.out.carry KS1.out (.inr LOseed.out)).carry KS2.out (.inr LOseed.out)).carry KF2 (.inr (Nat.le_trans (by have := HGS.out; omega) LOseed.out))
  have ST : Hid (w.heap.size ≤ x0.heap.size ∧ y0.heap.size ≤ ((x2.setCell ⟨gr, 0, none⟩ (.slice (some ⟨x0.heap.size, 0, none⟩) S.seed.n S.seed.n)).setCell ⟨gr, 1, none⟩ (.int .i64 D.num)).heap.size) := by
    have s0 := KP0.out.size; have s1 := KS1.out.size; have s2 := KS2.out.size; have sf := KF2.size; have lseed := LTseed.out; have hg := HGS.out; have z0 := Z0.out
    exact ⟨by omega, by omega⟩
  exact bodyPost_ret (v := diV D ⟨⟨some ⟨x0.heap.size, 0, none⟩, S.seed.n, S.seed.n⟩⟩) (res1 rfl (is_cell rfl KF aggDi)) rfl ⟨⟨⟨some ⟨x0.heap.size, 0, none⟩, S.seed.n, S.seed.n⟩⟩, rfl, ⟨Fseed.mono ST.out.1 ST.out.2, ⟨⟩⟩, BF⟩

set_option maxRecDepth 100000 in
set_option maxHeartbeats 4000000 in
theorem eqDice (S S' : DiS) (D : DiD) (w : World) (h : DiRd w S D) (h' : DiRd w S' D) (hl : DiShort D 4194304) :
    Calls Tryd.prog 22 #[diV D S, diV D S'] w fun e w' => e = .returned (.bool true) ∧ Below w.heap.size w w' := by
  have HR : Hid (DiRd w S D) := h
  have HQ : Hid (DiRd w S' D) := h'
  have HL : Hid (DiShort D 4194304) := hl
  obtain ⟨x0, hx0⟩ : ∃ x0, (w.alloc (.cells #[.slice S.seed.a S.seed.n S.seed.c, .int .i64 D.num] 25)).alloc (.cells #[.slice S'.seed.a S'.seed.n S'.seed.c, .int .i64 D.num] 25) = x0 := ⟨_, rfl⟩
  have HW0 : Hid ((w.alloc (.cells #[.slice S.seed.a S.seed.n S.seed.c, .int .i64 D.num] 25)).alloc (.cells #[.slice S'.seed.a S'.seed.n S'.seed.c, .int .i64 D.num] 25) = x0) := hx0
  have B0 : Hid (Below w.heap.size w x0) := by rw [← hx0]; exact ((Below.refl _ _).alloc (Nat.le_refl _) _).alloc (by simp) _
  have KA0 : Hid (Blk x0 w.heap.size 25 [.slice S.seed.a S.seed.n S.seed.c, .int .i64 D.num]) := by rw [← hx0]; exact (Blk.new w _ _).alloc _
  have KB0 : Hid (Blk x0 (w.heap.size + 1) 25 [.slice S'.seed.a S'.seed.n S'.seed.c, .int .i64 D.num]) := by
    have := Blk.new (w.alloc (.cells #[.slice S.seed.a S.seed.n S.seed.c, .int .i64 D.num] 25)) 25 [.slice S'.seed.a S'.seed.n S'.seed.c, .int .i64 D.num]
    rw [World.size_alloc] at this
    rw [← hx0]; exact this
  clear h h' hl hx0
  unfold diV
  go_enter Tryd.func22, Tryd.ntmps22
  go_upto_region 1 with fail
  rw [HW0.out]
  generalize w.heap.size + 1 = gb at *
  obtain ⟨ga, hga⟩ : ∃ ga, w.heap.size = ga := ⟨_, rfl⟩
  have HGA : Hid (w.heap.size = ga) := hga
  rw [hga] at KA0
  rw [hga]
  clear HW0 hga
  have ca0 := KA0.out.cell 0 rfl
  have cb0 := KB0.out.cell 0 rfl
  go_wp2_with fail
  refine (eqB S.seed S'.seed D.seed D.seed x0 (HR.out.seed.later B0.out) (HQ.out.seed.later B0.out) HL.out.seed HL.out.seed).mono ?_
  rw [decide_eq_true (show D.seed = D.seed from rfl)]
  rintro e x1 ⟨rfl, b⟩
  have KA1 : Hid (Blk x1 ga 25 [.slice S.seed.a S.seed.n S.seed.c, .int .i64 D.num]) := KA0.out.later b
  have KB1 : Hid (Blk x1 gb 25 [.slice S'.seed.a S'.seed.n S'.seed.c, .int .i64 D.num]) := KB0.out.later b
  have B1 : Hid (Below w.heap.size w x1) := B0.out.trans (b.mono B0.out.size)
  clear b KA0 KB0 B0 ca0 cb0
  have ca1 := KA1.out.cell 1 rfl
  have cb1 := KB1.out.cell 1 rfl
  go_wp2
  go_ret
  exact ⟨rfl, B1.out⟩
/-- The lists marked, one behind the other. -/
def diMarks (k : Int) (S : DiS) (D : DiD) : DiD := { D with seed := marks k S.seed.n }
def diSum (S : DiS) : Nat := S.seed.n

set_option maxRecDepth 100000 in
set_option maxHeartbeats 4000000 in
theorem markDice (S : DiS) (D : DiD) (k : Int) (w : World) (lo hi : Nat) (h : DiOwn w lo hi S D) (hh : hi ≤ w.heap.size) (k0 : 0 ≤ k) (k1 : k + diSum S ≤ 4194304) :
    Calls Tryd.prog 23 #[diV D S, .int .i64 k] w fun e w' => e = .returned (.int .i64 (k + diSum S)) ∧ DiOwn w' lo hi S (diMarks k S D) ∧ Kept lo hi w w' := by
  have HA : Hid (DiApart S) := h.apart
  obtain ⟨x0, hx0⟩ : ∃ x0, w.alloc (.cells #[.slice S.seed.a S.seed.n S.seed.c, .int .i64 D.num] 25) = x0 := ⟨_, rfl⟩
  have HW0 : Hid (w.alloc (.cells #[.slice S.seed.a S.seed.n S.seed.c, .int .i64 D.num] 25) = x0) := hx0
  have b0 : Below w.heap.size w x0 := by rw [← hx0]; exact (Below.refl _ _).alloc (Nat.le_refl _) _
  have Q0 : Hid (Kept lo hi w x0) := (Kept.of_below b0 0).any
  have KA0 : Hid (Blk x0 w.heap.size 25 [.slice S.seed.a S.seed.n S.seed.c, .int .i64 D.num]) := by rw [← hx0]; exact Blk.new w _ _
  have Oseed0 : Hid (SOwn x0 lo hi S.seed D.seed) := h.seed.carry (Kept.of_below b0 hi) (.inl (Nat.le_refl _))
  have HZ : Hid (w.heap.size < x0.heap.size) := KA0.out.lt
  have HS : Hid (diSum S = S.seed.n) := rfl
  have k1' : k + (S.seed.n : Int) ≤ 4194304 := by have := HS.out; omega
  have HE : Hid (k + (diSum S : Int) = (k + (S.seed.n : Int))) := by have := HS.out; show _ = _; omega
  rw [HE.out]
  clear h hx0 b0 k1
  unfold diV
  go_enter Tryd.func23, Tryd.ntmps23
  go_upto_region 1 with fail
  rw [HW0.out]
  obtain ⟨ga, hga⟩ : ∃ ga, w.heap.size = ga := ⟨_, rfl⟩
  have HGA : Hid (hi ≤ ga) := by show hi ≤ ga; omega
  rw [hga] at KA0
  rw [hga]
  clear HW0 hga
  have ca := KA0.out.cell 0 rfl
  go_wp2_with fail
  refine (markB S.seed D.seed k x0 lo hi Oseed0.out (by rw [← Oseed0.out.len]; omega) (by omega) (by omega)).mono ?_
  rintro e x1 ⟨rfl, o, kp, ne⟩
  have KA1 : Hid (Blk x1 ga 25 [.slice S.seed.a S.seed.n S.seed.c, .int .i64 D.num]) := KA0.out.keep (kp.block ga KA0.out.lt (.inr HGA.out))
  have Q1 : Hid (Kept lo hi w x1) := Q0.out.trans kp
  have Oseed1 : Hid (SOwn x1 lo hi S.seed (marks k S.seed.n)) := o
  clear o kp ne ca KA0 Q0 Oseed0
  go_wp2
  go_ret
  exact ⟨rfl, ⟨Oseed1.out, HA.out⟩, Q1.out⟩

set_option maxRecDepth 100000 in
set_option maxHeartbeats 4000000 in
theorem heldDice (S : DiS) (D : DiD) (k : Int) (w : World) (h : DiRd w S (diMarks k S D)) (k0 : 0 ≤ k) (k1 : k + diSum S ≤ 4194304) :
    Calls Tryd.prog 24 #[diV D S, .int .i64 k] w fun e w' => e = .returned (.int .i64 (k + diSum S)) ∧ Below w.heap.size w w' := by
  have HR : Hid (DiRd w S (diMarks k S D)) := h
  obtain ⟨x0, hx0⟩ : ∃ x0, w.alloc (.cells #[.slice S.seed.a S.seed.n S.seed.c, .int .i64 D.num] 25) = x0 := ⟨_, rfl⟩
  have HW0 : Hid (w.alloc (.cells #[.slice S.seed.a S.seed.n S.seed.c, .int .i64 D.num] 25) = x0) := hx0
  have B0 : Hid (Below w.heap.size w x0) := by rw [← hx0]; exact (Below.refl _ _).alloc (Nat.le_refl _) _
  have KA0 : Hid (Blk x0 w.heap.size 25 [.slice S.seed.a S.seed.n S.seed.c, .int .i64 D.num]) := by rw [← hx0]; exact Blk.new w _ _
  have HS : Hid (diSum S = S.seed.n) := rfl
  have k1' : k + (S.seed.n : Int) ≤ 4194304 := by have := HS.out; omega
  have HE : Hid (k + (diSum S : Int) = (k + (S.seed.n : Int))) := by have := HS.out; show _ = _; omega
  rw [HE.out]
  clear h hx0 k1
  unfold diV
  go_enter Tryd.func24, Tryd.ntmps24
  go_upto_region 1 with fail
  rw [HW0.out]
  generalize w.heap.size = ga at KA0 ⊢
  clear HW0
  have ca := KA0.out.cell 0 rfl
  go_wp2_with fail
  refine (heldB S.seed k x0 (HR.out.seed.later B0.out) (by omega) (by omega) (by omega)).mono ?_
  rintro e x1 ⟨rfl, rfl⟩
  have kn0 : ¬ ((k + (S.seed.n : Int)) < 0) := by omega
  clear ca
  go_wp2
  go_ret
  exact ⟨rfl, B0.out⟩
/-- All slices are of a length that there is. -/
structure DiSmall (S : DiS) : Prop where
  seed : S.seed.n ≤ 9223372036854775807

set_option maxRecDepth 100000 in
set_option maxHeartbeats 4000000 in
theorem szDice (S : DiS) (D : DiD) (k : Int) (w : World) (h : DiSmall S) (k0 : 0 ≤ k) (k1 : k ≤ 4194304) :
    Calls Tryd.prog 19 #[diV D S, .int .i64 k] w fun e w' => e = .returned (.int .i64 (if k - diSum S < 0 then -1 else k - diSum S)) ∧ Below w.heap.size w w' := by
  obtain ⟨x0, hx0⟩ : ∃ x0, w.alloc (.cells #[.slice S.seed.a S.seed.n S.seed.c, .int .i64 D.num] 36) = x0 := ⟨_, rfl⟩
  have HW0 : Hid (w.alloc (.cells #[.slice S.seed.a S.seed.n S.seed.c, .int .i64 D.num] 36) = x0) := hx0
  have B0 : Hid (Below w.heap.size w x0) := by rw [← hx0]; exact (Below.refl _ _).alloc (Nat.le_refl _) _
  have KA0 : Hid (Blk x0 w.heap.size 36 [.slice S.seed.a S.seed.n S.seed.c, .int .i64 D.num]) := by rw [← hx0]; exact Blk.new w _ _
  have HS : Hid (diSum S = S.seed.n) := rfl
  have HM : Hid (DiSmall S) := h
  obtain ⟨v, hv⟩ : ∃ v, (if k - (diSum S : Int) < 0 then -1 else k - (diSum S : Int)) = v := ⟨_, rfl⟩
  have HV : Hid ((if k - (diSum S : Int) < 0 then -1 else k - (diSum S : Int)) = v) := hv
  rw [hv]
  clear h hx0 hv
  unfold diV
  go_enter Tryd.func19, Tryd.ntmps19
  go_upto_region 1 with fail
  rw [HW0.out]
  generalize w.heap.size = ga at KA0 ⊢
  clear HW0
  have ca := KA0.out.cell 0 rfl
  go_wp2_with fail
  refine (szB S.seed (k) x0 HM.out.seed (by omega) (by omega)).mono ?_
  rintro e x1 ⟨rfl, rfl⟩
  clear ca
  by_cases c0 : k - (S.seed.n : Int) < 0
  · obtain rfl : v = -1 := by rw [← HV.out]; exact if_pos (by have := HS.out; omega)
    rw [if_pos c0]
    go_wp2
    go_ret
    exact ⟨rfl, B0.out⟩
  · rw [if_neg c0]
    obtain rfl : v = k - (S.seed.n : Int) := by have := HS.out; rw [← HV.out, if_neg (by omega)]; omega
    go_wp2
    go_ret
    exact ⟨rfl, B0.out⟩
end Go.Proofs.YtcodonnknepkeaaDoor.DiZ

namespace Go.Proofs.YtcodonnknepkeaaDoor.DiL
open Go.RowKit Go.Proofs.YtcodonnknepkeaaDoor.Mem Go.Proofs.YtcodonnknepkeaaDoor.Blk Go.Proofs.YtcodonnknepkeaaDoor.Zone Go.Proofs.YtcodonnknepkeaaDoor.ZoneI Go.Proofs.YtcodonnknepkeaaDoor.DiZ 
set_option maxRecDepth 100000 in
theorem di_short_le {D : DiD} {n m : Nat} (h : DiShort D n) (hm : n ≤ m) : DiShort D m := ⟨Nat.le_trans h.seed hm⟩
set_option maxRecDepth 100000 in
theorem di_sum_eq {w w' : World} {S S' : DiS} {D : DiD} (r : DiRd w S D) (r' : DiRd w' S' D) : diSum S' = diSum S := by
  have a0 := r.seed.len; have b0 := r'.seed.len
  unfold diSum; omega
set_option maxRecDepth 100000 in
theorem di_sum_le {w : World} {S : DiS} {D : DiD} {n : Nat} (r : DiRd w S D) (h : DiShort D n) : diSum S ≤ 1 * n := by
  have a0 := r.seed.len; have b0 := h.seed
  unfold diSum; omega
set_option maxRecDepth 100000 in
theorem di_short_of {w : World} {S : DiS} {D : DiD} {n : Nat} (r : DiRd w S D) (h : diSum S ≤ n) : DiShort D n := by
  unfold diSum at h
  have a0 := r.seed.len
  exact ⟨by omega⟩
set_option maxRecDepth 100000 in
theorem di_other {w : World} {g g' : Nat} {t : TypeId} {cs : List Value} (k : Blk w g' t cs) (ne : g' ≠ g) (v0 v1 : Value) : Blk ((w.setCell ⟨g, 0, none⟩ (v0)).setCell ⟨g, 1, none⟩ (v1)) g' t cs :=
  (k.other (by exact ne) _).other (by exact ne) _
set_option maxRecDepth 100000 in
theorem di_kept (w : World) (g : Nat) (v0 v1 : Value) : Kept g (g + 1) w ((w.setCell ⟨g, 0, none⟩ (v0)).setCell ⟨g, 1, none⟩ (v1)) := (Kept.setCell _ _ _ _).trans (Kept.setCell _ _ _ _)
set_option maxRecDepth 100000 in
theorem di_size (w : World) (g : Nat) (v0 v1 : Value) : ((w.setCell ⟨g, 0, none⟩ (v0)).setCell ⟨g, 1, none⟩ (v1)).heap.size = w.heap.size := by simp
set_option maxRecDepth 100000 in
theorem di_stored {w : World} {g lo hi : Nat} {u0 u1 : Value} {D : DiD} {S : DiS} (k : Blk w g 25 [u0, u1]) (o : DiOwn w lo hi S D) (d : g + 1 ≤ lo ∨ hi ≤ g) :
    Blk ((w.setCell ⟨g, 0, none⟩ (.slice S.seed.a S.seed.n S.seed.c)).setCell ⟨g, 1, none⟩ (.int .i64 D.num)) g 25 [.slice S.seed.a S.seed.n S.seed.c, .int .i64 D.num] ∧ DiOwn ((w.setCell ⟨g, 0, none⟩ (.slice S.seed.a S.seed.n S.seed.c)).setCell ⟨g, 1, none⟩ (.int .i64 D.num)) lo hi S D ∧ (∀ B a, B ≤ g → Below B a w → Below B a ((w.setCell ⟨g, 0, none⟩ (.slice S.seed.a S.seed.n S.seed.c)).setCell ⟨g, 1, none⟩ (.int .i64 D.num))) := by
  refine ⟨(k.set 0 _ (by simp [maxLen])).set 1 _ (by simp [maxLen]), o.carry (di_kept w g _ _) (by omega), fun B a hB h => ?_⟩
  exact (h.setCell (by exact hB) _).setCell (by exact hB) _
end Go.Proofs.YtcodonnknepkeaaDoor.DiL

namespace Go.Proofs.YtcodonnknepkeaaDoor.DiP
open Go.RowKit Go.Proofs.YtcodonnknepkeaaDoor.Mem Go.Proofs.YtcodonnknepkeaaDoor.Words Go.Proofs.YtcodonnknepkeaaDoor.Zone Go.Proofs.YtcodonnknepkeaaDoor.DiZ

def seedOk (n : Nat) : Bool := isIn (n : Int) 1 32
def rollOk (n : Int) : Bool := isIn n 0 10000
def diOk (D : DiD) : Bool := seedOk D.seed.length && rollOk D.num
/-- The dice wound to n. -/
def windD (D : DiD) (n : Int) : DiD := if (diOk D && rollOk n) = true then ⟨D.seed, n⟩ else D
set_option maxRecDepth 100000 in
theorem wind_yes {D : DiD} {n : Int} (h : (diOk D && rollOk n) = true) : windD D n = ⟨D.seed, n⟩ := if_pos h
set_option maxRecDepth 100000 in
theorem wind_no {D : DiD} {n : Int} (h : (diOk D && rollOk n) = false) : windD D n = D := if_neg (by rw [h]; decide)
set_option maxRecDepth 100000 in
theorem wind_seed (D : DiD) (n : Int) : (windD D n).seed = D.seed := by unfold windD; split <;> rfl
set_option maxRecDepth 100000 in
theorem wind_short {D : DiD} {n : Int} {m : Nat} (h : DiShort D m) : DiShort (windD D n) m := ⟨by rw [wind_seed]; exact h.seed⟩
set_option maxRecDepth 100000 in
theorem seedOk_iff {n : Nat} : seedOk n = true ↔ 1 ≤ n ∧ n ≤ 32 := by unfold seedOk isIn; simp; omega
set_option maxRecDepth 100000 in
theorem rollOk_iff {n : Int} : rollOk n = true ↔ 0 ≤ n ∧ n ≤ 10000 := by unfold rollOk isIn; simp
/-- Dice in memory of their own. -/
def AnsD (D : DiD) (w : World) : Ending → World → Prop := fun e w' => ∃ S0 : DiS, e = .returned (diV D S0) ∧ DiOwn w' w.heap.size w'.heap.size S0 D ∧ Below w.heap.size w w'
end Go.Proofs.YtcodonnknepkeaaDoor.DiP

namespace Go.Proofs.YtcodonnknepkeaaDoor.DiQ
open Go.RowKit Go.Proofs.YtcodonnknepkeaaDoor.Mem Go.Proofs.YtcodonnknepkeaaDoor.App Go.Proofs.YtcodonnknepkeaaDoor.Words Go.Proofs.YtcodonnknepkeaaDoor.Zone Go.Proofs.YtcodonnknepkeaaDoor.DiZ Go.Proofs.YtcodonnknepkeaaDoor.DiP Go.Proofs.YtcodonnknepkeaaDoor.MacP Go.Proofs.YtcodonnknepkeaaDoor.Str

/-- The bytes of 'roll'. -/
def rollB : ByteArray := ⟨#[114, 111, 108, 108]⟩
set_option maxRecDepth 100000 in
theorem roll_len : (bs rollB).length = 4 := by rw [bs_length]; rfl
/-- What a number is rolled of. -/
def ofN (n : Int) : List Int := bs rollB ++ putN n 4
set_option maxRecDepth 100000 in
theorem putN_bytes (n k : Int) : Bytes (putN n k) := by
  unfold putN; split
  · exact num_bytes _ _
  · intro z hz; cases hz
set_option maxRecDepth 100000 in
theorem ofN_len (n : Int) : (ofN n).length ≤ 10 := by
  have := putN_length n 4
  unfold ofN; rw [List.length_append, roll_len]; omega
set_option maxRecDepth 100000 in
theorem ofN_bytes (n : Int) : Bytes (ofN n) := bytes_append (bs_bytes _) (putN_bytes _ _)
def atB (l : List Int) (n : Int) : Bool := seedOk l.length && rollOk n
/-- What is rolled at n. -/
def atL (l : List Int) (n : Int) : List Int := if atB l n = true then (hmacI l (ofN n)).take 12 else []
set_option maxRecDepth 100000 in
theorem at_yes {l : List Int} {n : Int} (h : atB l n = true) : atL l n = (hmacI l (ofN n)).take 12 := if_pos h
set_option maxRecDepth 100000 in
theorem at_no {l : List Int} {n : Int} (h : atB l n = false) : atL l n = [] := if_neg (by rw [h]; decide)
set_option maxRecDepth 100000 in
theorem hm_len {l : List Int} {n : Int} (h : atB l n = true) : (hmacI l (ofN n)).length = 32 := by
  have h1 := seedOk_iff.1 (Bool.and_eq_true_iff.1 h).1
  have h2 := ofN_len n
  exact hmacI_len _ _ (by omega) (by omega)
set_option maxRecDepth 100000 in
theorem at_len {l : List Int} {n : Int} (h : atB l n = true) : (atL l n).length = 12 := by rw [at_yes h, List.length_take, hm_len h]; rfl
set_option maxRecDepth 100000 in
theorem at_le (l : List Int) (n : Int) : (atL l n).length ≤ 12 := by
  cases h : atB l n with
  | true => rw [at_len h]; exact Nat.le_refl _
  | false => rw [at_no h]; simp
set_option maxRecDepth 100000 in
theorem at_bytes (l : List Int) (n : Int) : Bytes (atL l n) := by
  cases h : atB l n with
  | true => rw [at_yes h]; exact fun z hz => hmacI_bytes _ _ z (List.mem_of_mem_take hz)
  | false => rw [at_no h]; intro z hz; cases hz
/-- Whether the dice can roll. -/
def mayRoll (D : DiD) : Bool := diOk D && decide (D.num < 10000)
def rollD (D : DiD) : DiD := if mayRoll D = true then ⟨D.seed, D.num + 1⟩ else D
def rollL (D : DiD) : List Int := if mayRoll D = true then atL D.seed D.num else []
set_option maxRecDepth 100000 in
theorem rollD_yes {D : DiD} (h : mayRoll D = true) : rollD D = ⟨D.seed, D.num + 1⟩ := if_pos h
set_option maxRecDepth 100000 in
theorem rollD_no {D : DiD} (h : mayRoll D = false) : rollD D = D := if_neg (by rw [h]; decide)
set_option maxRecDepth 100000 in
theorem rollL_yes {D : DiD} (h : mayRoll D = true) : rollL D = atL D.seed D.num := if_pos h
set_option maxRecDepth 100000 in
theorem rollL_no {D : DiD} (h : mayRoll D = false) : rollL D = [] := if_neg (by rw [h]; decide)
set_option maxRecDepth 100000 in
theorem rollD_seed (D : DiD) : (rollD D).seed = D.seed := by unfold rollD; split <;> rfl
set_option maxRecDepth 100000 in
theorem rollD_short {D : DiD} {m : Nat} (h : DiShort D m) : DiShort (rollD D) m := ⟨by rw [rollD_seed]; exact h.seed⟩
set_option maxRecDepth 100000 in
theorem rollL_le (D : DiD) : (rollL D).length ≤ 12 := by
  unfold rollL; split
  · exact at_le _ _
  · simp
set_option maxRecDepth 100000 in
theorem rollL_bytes (D : DiD) : Bytes (rollL D) := by
  unfold rollL; split
  · exact at_bytes _ _
  · intro z hz; cases hz
set_option maxRecDepth 100000 in
theorem may_parts {D : DiD} (h : mayRoll D = true) : seedOk D.seed.length = true ∧ 0 ≤ D.num ∧ D.num < 10000 := by
  obtain ⟨h1, h2⟩ := Bool.and_eq_true_iff.1 h
  obtain ⟨h3, h4⟩ := Bool.and_eq_true_iff.1 h1
  exact ⟨h3, (rollOk_iff.1 h4).1, of_decide_eq_true h2⟩
/-- Dice, and what they rolled, each in memory of its own. -/
def AnsR (D : DiD) (l : List Int) (w : World) : Ending → World → Prop := fun e w' => ∃ (S0 : DiS) (S1 : Sl) (p0 q0 p1 q1 : Nat), e = .returned (.tuple #[diV D S0, .slice S1.a S1.n S1.c]) ∧ DiOwn w' p0 q0 S0 D ∧ SOwn w' p1 q1 S1 l ∧ (w.heap.size ≤ p0 ∧ q0 ≤ w'.heap.size ∧ w.heap.size ≤ p1 ∧ q1 ≤ w'.heap.size ∧ (q0 ≤ p1 ∨ q1 ≤ p0)) ∧ Below w.heap.size w w'
end Go.Proofs.YtcodonnknepkeaaDoor.DiQ
