/-
  The struct Ep: its data, its value, what it reads as, what it owns; and what the laws' helpers over it answer.
-/
import Derived.Test.YtmcflfpckpjphaaZoneB
import Derived.Test.YtmcflfpckpjphaaZoneI
import Derived.Test.YtmcflfpckpjphaaRes
import Derived.Test.YtmcflfpckpjphaaWnZ
import Derived.Deep.CutBlock
namespace Go.Proofs.Ytmcflfpckpjphaa.EpZ
open Go.RowKit Go.Proofs.Ytmcflfpckpjphaa.Mem Go.Proofs.Ytmcflfpckpjphaa.MemI Go.Proofs.Ytmcflfpckpjphaa.Blk Go.Proofs.Ytmcflfpckpjphaa.Zone Go.Proofs.Ytmcflfpckpjphaa.ZoneB Go.Proofs.Ytmcflfpckpjphaa.ZoneI Go.Proofs.Ytmcflfpckpjphaa.Res Go.Proofs.Ytmcflfpckpjphaa.WnZ

/-- The data. -/
structure EpD where
  n : Int
  key : List Int
  seq : Int
  win : WnD
/-- The slices. -/
structure EpS where
  key : Sl
  win : WnS
def epV (D : EpD) (S : EpS) : Value := .agg #[.int .i64 D.n, .slice S.key.a S.key.n S.key.c, .int .i64 D.seq, .int .i64 D.win.top, .slice S.win.bits.a S.win.bits.n S.win.bits.c]
/-- It reads as D. -/
structure EpRd (w : World) (S : EpS) (D : EpD) : Prop where
  key : SRd w S.key D.key
  win : WnRd w S.win D.win
/-- It owns its memory, in the zone [lo, hi): each part in a zone of its own. -/
def EpOwn (w : World) (lo hi : Nat) (S : EpS) (D : EpD) : Prop :=
  ∃ a0 b0 a1 b1 : Nat, SOwn w a0 b0 S.key D.key ∧ WnOwn w a1 b1 S.win D.win ∧ (lo ≤ a0 ∧ b0 ≤ hi ∧ lo ≤ a1 ∧ b1 ≤ hi ∧ (b0 ≤ a1 ∨ b1 ≤ a0))
theorem EpOwn.rd {w : World} {lo hi : Nat} {S : EpS} {D : EpD} (h : EpOwn w lo hi S D) : EpRd w S D := by
  obtain ⟨a0, b0, a1, b1, o0, o1, z⟩ := h
  exact ⟨o0.rd, o1.rd⟩
theorem EpOwn.carry {w w' : World} {lo hi a b : Nat} {S : EpS} {D : EpD} (h : EpOwn w lo hi S D) (k : Kept a b w w') (d : hi ≤ a ∨ b ≤ lo) : EpOwn w' lo hi S D := by
  obtain ⟨a0, b0, a1, b1, o0, o1, z⟩ := h
  exact ⟨a0, b0, a1, b1, o0.carry k (by omega), o1.carry k (by omega), z⟩
theorem EpOwn.later {w w' : World} {lo hi : Nat} {S : EpS} {D : EpD} (h : EpOwn w lo hi S D) (k : Below w.heap.size w w') : EpOwn w' lo hi S D := h.carry (Kept.of_below k hi) (.inl (Nat.le_refl _))
theorem EpOwn.mono {w : World} {lo hi lo' hi' : Nat} {S : EpS} {D : EpD} (h : EpOwn w lo hi S D) (h1 : lo' ≤ lo) (h2 : hi ≤ hi') : EpOwn w lo' hi' S D := by
  obtain ⟨a0, b0, a1, b1, o0, o1, z⟩ := h
  exact ⟨a0, b0, a1, b1, o0, o1, by omega⟩
theorem EpRd.later {w w' : World} {S : EpS} {D : EpD} (h : EpRd w S D) (k : Below w.heap.size w w') : EpRd w' S D := ⟨h.key.later k, h.win.later k⟩
/-- All lists are short. -/
structure EpShort (D : EpD) (n : Nat) : Prop where
  key : D.key.length ≤ n
  win : WnShort D.win n
theorem aggEp : aggB Try.prog 54 5 = true := by kernel_rfl

set_option maxRecDepth 100000 in
set_option maxHeartbeats 4000000 in
theorem toEp (S : EpS) (D : EpD) (w : World) (h : EpRd w S D) (hl : EpShort D 4194304) :
    Calls Try.prog 43 #[epV D S] w fun e w' => ∃ S', e = .returned (epV D S') ∧ EpOwn w' w.heap.size w'.heap.size S' D ∧ Below w.heap.size w w' := by
  have HR : Hid (EpRd w S D) := h
  have HL : Hid (EpShort D 4194304) := hl
  obtain ⟨x0, hx0⟩ : ∃ x0, ((w.alloc (.cells #[.int .i64 D.n, .slice S.key.a S.key.n S.key.c, .int .i64 D.seq, .int .i64 D.win.top, .slice S.win.bits.a S.win.bits.n S.win.bits.c] 61)).alloc (.cells #[.int .i64 0, .slice none 0 0, .int .i64 0, .int .i64 0, .slice none 0 0] 54)).alloc (.cells #[.int .i64 0, .slice none 0 0, .int .i64 0, .int .i64 0, .slice none 0 0] 54) = x0 := ⟨_, rfl⟩
  have HW0 : Hid (((w.alloc (.cells #[.int .i64 D.n, .slice S.key.a S.key.n S.key.c, .int .i64 D.seq, .int .i64 D.win.top, .slice S.win.bits.a S.win.bits.n S.win.bits.c] 61)).alloc (.cells #[.int .i64 0, .slice none 0 0, .int .i64 0, .int .i64 0, .slice none 0 0] 54)).alloc (.cells #[.int .i64 0, .slice none 0 0, .int .i64 0, .int .i64 0, .slice none 0 0] 54) = x0) := hx0
  have B0 : Hid (Below w.heap.size w x0) := by rw [← hx0]; exact (((Below.refl _ _).alloc (Nat.le_refl _) _).alloc (by simp) _).alloc (by simp; omega) _
  have KA0 : Hid (Blk x0 w.heap.size 61 [.int .i64 D.n, .slice S.key.a S.key.n S.key.c, .int .i64 D.seq, .int .i64 D.win.top, .slice S.win.bits.a S.win.bits.n S.win.bits.c]) := by rw [← hx0]; exact ((Blk.new w _ _).alloc _).alloc _
  have KR0 : Hid (Blk x0 (w.heap.size + 1) 54 [.int .i64 0, .slice none 0 0, .int .i64 0, .int .i64 0, .slice none 0 0]) := by
    have := Blk.new (w.alloc (.cells #[.int .i64 D.n, .slice S.key.a S.key.n S.key.c, .int .i64 D.seq, .int .i64 D.win.top, .slice S.win.bits.a S.win.bits.n S.win.bits.c] 61)) 54 [.int .i64 0, .slice none 0 0, .int .i64 0, .int .i64 0, .slice none 0 0]
    rw [World.size_alloc] at this
    rw [← hx0]; exact this.alloc _
  have KO0 : Hid (Blk x0 (w.heap.size + 1 + 1) 54 [.int .i64 0, .slice none 0 0, .int .i64 0, .int .i64 0, .slice none 0 0]) := by
    have := Blk.new ((w.alloc (.cells #[.int .i64 D.n, .slice S.key.a S.key.n S.key.c, .int .i64 D.seq, .int .i64 D.win.top, .slice S.win.bits.a S.win.bits.n S.win.bits.c] 61)).alloc (.cells #[.int .i64 0, .slice none 0 0, .int .i64 0, .int .i64 0, .slice none 0 0] 54)) 54 [.int .i64 0, .slice none 0 0, .int .i64 0, .int .i64 0, .slice none 0 0]
    rw [World.size_alloc, World.size_alloc] at this
    rw [← hx0]; exact this
  have Z0 : Hid (w.heap.size + 1 + 1 < x0.heap.size) := KO0.out.lt
  clear h hl hx0
  unfold epV
  go_enter Try.func43, Try.ntmps43
  go_upto_region 2 with fail
  rw [HW0.out]
  obtain ⟨ga, hga⟩ : ∃ ga, w.heap.size = ga := ⟨_, rfl⟩
  obtain ⟨gr, hgr⟩ : ∃ gr, w.heap.size + 1 = gr := ⟨_, rfl⟩
  obtain ⟨go, hgo⟩ : ∃ go, w.heap.size + 1 + 1 = go := ⟨_, rfl⟩
  have HGS : Hid (ga = w.heap.size ∧ gr = ga + 1 ∧ go = gr + 1) := ⟨hga.symm, by omega, by omega⟩
  rw [hgo] at KO0 Z0
  rw [hgr] at KR0
  rw [hga] at KA0
  rw [hgo, hgr, hga]
  clear HW0 hga hgr hgo
  have ca0 := KA0.out.cell 0 rfl
  obtain ⟨x1, hx1⟩ : ∃ x1, x0.setCell ⟨go, 0, none⟩ (.int .i64 D.n) = x1 := ⟨_, rfl⟩
  have HW : Hid (x0.setCell ⟨go, 0, none⟩ (.int .i64 D.n) = x1) := hx1
  have co0 := KO0.out.cell 0 rfl
  have fo0 := KO0.out.frozen 0
  have KA1 : Hid (Blk x1 ga 61 [.int .i64 D.n, .slice S.key.a S.key.n S.key.c, .int .i64 D.seq, .int .i64 D.win.top, .slice S.win.bits.a S.win.bits.n S.win.bits.c]) := by rw [← hx1]; exact KA0.out.other (by show ga ≠ go; have := HGS.out; omega) _
  have KR1 : Hid (Blk x1 gr 54 [.int .i64 0, .slice none 0 0, .int .i64 0, .int .i64 0, .slice none 0 0]) := by rw [← hx1]; exact KR0.out.other (by show gr ≠ go; have := HGS.out; omega) _
  have KO1 : Hid (Blk x1 go 54 [.int .i64 D.n, .slice none 0 0, .int .i64 0, .int .i64 0, .slice none 0 0]) := by rw [← hx1]; exact KO0.out.set 0 _ (by simp [maxLen])
  have B1 : Hid (Below w.heap.size w x1) := by rw [← hx1]; exact B0.out.setCell (by show _ ≤ go; have := HGS.out; omega) _
  have KS1 : Hid (Kept go (go + 1) x0 x1) := by rw [← hx1]; exact Kept.setCell _ _ _ _
  clear hx1
  go_upto_region 3 with fail
  rw [HW.out]
  clear HW co0 fo0 KA0 KR0 KO0 B0 ca0
  have ca0 := KA1.out.cell 1 rfl
  go_wp2_with fail
  refine (toB S.key D.key x1 (HR.out.key.later (Below.mono B1.out (Nat.le_refl _))) HL.out.key).mono ?_
  rintro e y1 ⟨rfl, o1, b1⟩
  have Okey : Hid (SOwn y1 x1.heap.size y1.heap.size ⟨some ⟨x1.heap.size, 0, none⟩, S.key.n, S.key.n⟩ D.key) := o1
  have BN1 : Hid (Below w.heap.size w y1) := B1.out.trans (b1.mono B1.out.size)
  have KA1b : Hid (Blk y1 ga 61 [.int .i64 D.n, .slice S.key.a S.key.n S.key.c, .int .i64 D.seq, .int .i64 D.win.top, .slice S.win.bits.a S.win.bits.n S.win.bits.c]) := KA1.out.later b1
  have KR1b : Hid (Blk y1 gr 54 [.int .i64 0, .slice none 0 0, .int .i64 0, .int .i64 0, .slice none 0 0]) := KR1.out.later b1
  have KO1b : Hid (Blk y1 go 54 [.int .i64 D.n, .slice none 0 0, .int .i64 0, .int .i64 0, .slice none 0 0]) := KO1.out.later b1
  have KP1 : Hid (Kept go (go + 1) x1 y1) := (Kept.of_below b1 0).any
  have LOkey : Hid (go + 1 ≤ x1.heap.size) := KO1.out.lt
  clear o1 b1 ca0
  obtain ⟨x2, hx2⟩ : ∃ x2, y1.setCell ⟨go, 1, none⟩ (.slice (some ⟨x1.heap.size, 0, none⟩) S.key.n S.key.n) = x2 := ⟨_, rfl⟩
  have HW : Hid (y1.setCell ⟨go, 1, none⟩ (.slice (some ⟨x1.heap.size, 0, none⟩) S.key.n S.key.n) = x2) := hx2
  have co0 := KO1b.out.cell 1 rfl
  have fo0 := KO1b.out.frozen 1
  have KA2 : Hid (Blk x2 ga 61 [.int .i64 D.n, .slice S.key.a S.key.n S.key.c, .int .i64 D.seq, .int .i64 D.win.top, .slice S.win.bits.a S.win.bits.n S.win.bits.c]) := by rw [← hx2]; exact KA1b.out.other (by show ga ≠ go; have := HGS.out; omega) _
  have KR2 : Hid (Blk x2 gr 54 [.int .i64 0, .slice none 0 0, .int .i64 0, .int .i64 0, .slice none 0 0]) := by rw [← hx2]; exact KR1b.out.other (by show gr ≠ go; have := HGS.out; omega) _
  have KO2 : Hid (Blk x2 go 54 [.int .i64 D.n, .slice (some ⟨x1.heap.size, 0, none⟩) S.key.n S.key.n, .int .i64 0, .int .i64 0, .slice none 0 0]) := by rw [← hx2]; exact KO1b.out.set 1 _ (by simp [maxLen])
  have B2 : Hid (Below w.heap.size w x2) := by rw [← hx2]; exact BN1.out.setCell (by show _ ≤ go; have := HGS.out; omega) _
  have KS2 : Hid (Kept go (go + 1) y1 x2) := by rw [← hx2]; exact Kept.setCell _ _ _ _
  clear hx2
  go_upto_region 4 with fail
  rw [HW.out]
  clear HW co0 fo0 KA1 KR1 KO1 B1 KA1b KR1b KO1b BN1
  have ca0 := KA2.out.cell 2 rfl
  obtain ⟨x3, hx3⟩ : ∃ x3, x2.setCell ⟨go, 2, none⟩ (.int .i64 D.seq) = x3 := ⟨_, rfl⟩
  have HW : Hid (x2.setCell ⟨go, 2, none⟩ (.int .i64 D.seq) = x3) := hx3
  have co0 := KO2.out.cell 2 rfl
  have fo0 := KO2.out.frozen 2
  have KA3 : Hid (Blk x3 ga 61 [.int .i64 D.n, .slice S.key.a S.key.n S.key.c, .int .i64 D.seq, .int .i64 D.win.top, .slice S.win.bits.a S.win.bits.n S.win.bits.c]) := by rw [← hx3]; exact KA2.out.other (by show ga ≠ go; have := HGS.out; omega) _
  have KR3 : Hid (Blk x3 gr 54 [.int .i64 0, .slice none 0 0, .int .i64 0, .int .i64 0, .slice none 0 0]) := by rw [← hx3]; exact KR2.out.other (by show gr ≠ go; have := HGS.out; omega) _
  have KO3 : Hid (Blk x3 go 54 [.int .i64 D.n, .slice (some ⟨x1.heap.size, 0, none⟩) S.key.n S.key.n, .int .i64 D.seq, .int .i64 0, .slice none 0 0]) := by rw [← hx3]; exact KO2.out.set 2 _ (by simp [maxLen])
  have B3 : Hid (Below w.heap.size w x3) := by rw [← hx3]; exact B2.out.setCell (by show _ ≤ go; have := HGS.out; omega) _
  have KS3 : Hid (Kept go (go + 1) x2 x3) := by rw [← hx3]; exact Kept.setCell _ _ _ _
  clear hx3
  go_upto_region 5 with fail
  rw [HW.out]
  clear HW co0 fo0 KA2 KR2 KO2 B2 ca0
  have ca0 := KA3.out.cell 3 rfl
  have ca1 := KA3.out.cell 4 rfl
  go_wp2_with fail
  refine (toWin S.win D.win x3 (HR.out.win.later (Below.mono B3.out (Nat.le_refl _))) HL.out.win).mono ?_
  rintro e y3 ⟨Twin, rfl, o3, b3⟩
  unfold wnV
  have Owin : Hid (WnOwn y3 x3.heap.size y3.heap.size Twin D.win) := o3
  have BN3 : Hid (Below w.heap.size w y3) := B3.out.trans (b3.mono B3.out.size)
  have KA3b : Hid (Blk y3 ga 61 [.int .i64 D.n, .slice S.key.a S.key.n S.key.c, .int .i64 D.seq, .int .i64 D.win.top, .slice S.win.bits.a S.win.bits.n S.win.bits.c]) := KA3.out.later b3
  have KR3b : Hid (Blk y3 gr 54 [.int .i64 0, .slice none 0 0, .int .i64 0, .int .i64 0, .slice none 0 0]) := KR3.out.later b3
  have KO3b : Hid (Blk y3 go 54 [.int .i64 D.n, .slice (some ⟨x1.heap.size, 0, none⟩) S.key.n S.key.n, .int .i64 D.seq, .int .i64 0, .slice none 0 0]) := KO3.out.later b3
  have KP3 : Hid (Kept go (go + 1) x3 y3) := (Kept.of_below b3 0).any
  have LOwin : Hid (go + 1 ≤ x3.heap.size) := KO3.out.lt
  clear o3 b3 ca0 ca1
  obtain ⟨x4, hx4⟩ : ∃ x4, (y3.setCell ⟨go, 3, none⟩ (.int .i64 D.win.top)).setCell ⟨go, 4, none⟩ (.slice Twin.bits.a Twin.bits.n Twin.bits.c) = x4 := ⟨_, rfl⟩
  have HW : Hid ((y3.setCell ⟨go, 3, none⟩ (.int .i64 D.win.top)).setCell ⟨go, 4, none⟩ (.slice Twin.bits.a Twin.bits.n Twin.bits.c) = x4) := hx4
  have co0 := KO3b.out.cell 3 rfl
  have fo0 := KO3b.out.frozen 3
  have co1 := KO3b.out.cell 4 rfl
  have fo1 := KO3b.out.frozen 4
  have KA4 : Hid (Blk x4 ga 61 [.int .i64 D.n, .slice S.key.a S.key.n S.key.c, .int .i64 D.seq, .int .i64 D.win.top, .slice S.win.bits.a S.win.bits.n S.win.bits.c]) := by rw [← hx4]; exact (KA3b.out.other (by show ga ≠ go; have := HGS.out; omega) _).other (by show ga ≠ go; have := HGS.out; omega) _
  have KR4 : Hid (Blk x4 gr 54 [.int .i64 0, .slice none 0 0, .int .i64 0, .int .i64 0, .slice none 0 0]) := by rw [← hx4]; exact (KR3b.out.other (by show gr ≠ go; have := HGS.out; omega) _).other (by show gr ≠ go; have := HGS.out; omega) _
  have KO4 : Hid (Blk x4 go 54 [.int .i64 D.n, .slice (some ⟨x1.heap.size, 0, none⟩) S.key.n S.key.n, .int .i64 D.seq, .int .i64 D.win.top, .slice Twin.bits.a Twin.bits.n Twin.bits.c]) := by rw [← hx4]; exact (KO3b.out.set 3 _ (by simp [maxLen])).set 4 _ (by simp [maxLen])
  have B4 : Hid (Below w.heap.size w x4) := by rw [← hx4]; exact (BN3.out.setCell (by show _ ≤ go; have := HGS.out; omega) _).setCell (by show _ ≤ go; have := HGS.out; omega) _
  have KS4 : Hid (Kept go (go + 1) y3 x4) := by rw [← hx4]; exact (Kept.setCell _ _ _ _).trans (Kept.setCell _ _ _ _)
  clear hx4
  go_upto_region 6 with fail
  rw [HW.out]
  clear HW co0 fo0 co1 fo1 KA3 KR3 KO3 B3 KA3b KR3b KO3b BN3
  -- the whole is handed over
  have co0 := KO4.out.cell 0 rfl
  have co1 := KO4.out.cell 1 rfl
  have co2 := KO4.out.cell 2 rfl
  have co3 := KO4.out.cell 3 rfl
  have co4 := KO4.out.cell 4 rfl
  have cr0 := KR4.out.cell 0 rfl
  have cr1 := KR4.out.cell 1 rfl
  have cr2 := KR4.out.cell 2 rfl
  have cr3 := KR4.out.cell 3 rfl
  have cr4 := KR4.out.cell 4 rfl
  have fr0 := KR4.out.frozen 0
  have fr1 := KR4.out.frozen 1
  have fr2 := KR4.out.frozen 2
  have fr3 := KR4.out.frozen 3
  have fr4 := KR4.out.frozen 4
  go_wp2
  have KF : Blk (((((x4.setCell ⟨gr, 0, none⟩ (.int .i64 D.n)).setCell ⟨gr, 1, none⟩ (.slice (some ⟨x1.heap.size, 0, none⟩) S.key.n S.key.n)).setCell ⟨gr, 2, none⟩ (.int .i64 D.seq)).setCell ⟨gr, 3, none⟩ (.int .i64 D.win.top)).setCell ⟨gr, 4, none⟩ (.slice Twin.bits.a Twin.bits.n Twin.bits.c)) gr 54 [.int .i64 D.n, .slice (some ⟨x1.heap.size, 0, none⟩) S.key.n S.key.n, .int .i64 D.seq, .int .i64 D.win.top, .slice Twin.bits.a Twin.bits.n Twin.bits.c] := ((((KR4.out.set 0 _ (by simp [maxLen])).set 1 _ (by simp [maxLen])).set 2 _ (by simp [maxLen])).set 3 _ (by simp [maxLen])).set 4 _ (by simp [maxLen])
  have BF : Below w.heap.size w (((((x4.setCell ⟨gr, 0, none⟩ (.int .i64 D.n)).setCell ⟨gr, 1, none⟩ (.slice (some ⟨x1.heap.size, 0, none⟩) S.key.n S.key.n)).setCell ⟨gr, 2, none⟩ (.int .i64 D.seq)).setCell ⟨gr, 3, none⟩ (.int .i64 D.win.top)).setCell ⟨gr, 4, none⟩ (.slice Twin.bits.a Twin.bits.n Twin.bits.c)) := ((((B4.out.setCell (by show _ ≤ gr; have := HGS.out; omega) _).setCell (by show _ ≤ gr; have := HGS.out; omega) _).setCell (by show _ ≤ gr; have := HGS.out; omega) _).setCell (by show _ ≤ gr; have := HGS.out; omega) _).setCell (by show _ ≤ gr; have := HGS.out; omega) _
  have KF2 : Kept gr (gr + 1) x4 (((((x4.setCell ⟨gr, 0, none⟩ (.int .i64 D.n)).setCell ⟨gr, 1, none⟩ (.slice (some ⟨x1.heap.size, 0, none⟩) S.key.n S.key.n)).setCell ⟨gr, 2, none⟩ (.int .i64 D.seq)).setCell ⟨gr, 3, none⟩ (.int .i64 D.win.top)).setCell ⟨gr, 4, none⟩ (.slice Twin.bits.a Twin.bits.n Twin.bits.c)) := ((((Kept.setCell _ _ _ _).trans (Kept.setCell _ _ _ _)).trans (Kept.setCell _ _ _ _)).trans (Kept.setCell _ _ _ _)).trans (Kept.setCell _ _ _ _)
  have Fkey := ((((Okey.out.carry KS2.out (.inr LOkey.out)).carry KS3.out (.inr LOkey.out)).carry KP3.out (.inr LOkey.out)).carry KS4.out (.inr LOkey.out)).carry KF2 (.inr (Nat.le_trans (by have := HGS.out; omega) LOkey.out))
  have Fwin := (Owin.out.carry KS4.out (.inr LOwin.out)).carry KF2 (.inr (Nat.le_trans (by have := HGS.out; omega) LOwin.out))
  have ST : Hid (w.heap.size ≤ x1.heap.size ∧ y1.heap.size ≤ (((((x4.setCell ⟨gr, 0, none⟩ (.int .i64 D.n)).setCell ⟨gr, 1, none⟩ (.slice (some ⟨x1.heap.size, 0, none⟩) S.key.n S.key.n)).setCell ⟨gr, 2, none⟩ (.int .i64 D.seq)).setCell ⟨gr, 3, none⟩ (.int .i64 D.win.top)).setCell ⟨gr, 4, none⟩ (.slice Twin.bits.a Twin.bits.n Twin.bits.c)).heap.size ∧ w.heap.size ≤ x3.heap.size ∧ y3.heap.size ≤ (((((x4.setCell ⟨gr, 0, none⟩ (.int .i64 D.n)).setCell ⟨gr, 1, none⟩ (.slice (some ⟨x1.heap.size, 0, none⟩) S.key.n S.key.n)).setCell ⟨gr, 2, none⟩ (.int .i64 D.seq)).setCell ⟨gr, 3, none⟩ (.int .i64 D.win.top)).setCell ⟨gr, 4, none⟩ (.slice Twin.bits.a Twin.bits.n Twin.bits.c)).heap.size ∧ (y1.heap.size ≤ x3.heap.size ∨ y3.heap.size ≤ x1.heap.size)) := by
    have s0 := KS1.out.size; have s1 := KP1.out.size; have s2 := KS2.out.size; have s3 := KS3.out.size; have s4 := KP3.out.size; have s5 := KS4.out.size; have sf := KF2.size; have hg := HGS.out; have z0 := Z0.out
    show _ ∧ _; omega
  exact bodyPost_ret (v := epV D ⟨⟨some ⟨x1.heap.size, 0, none⟩, S.key.n, S.key.n⟩, Twin⟩) (res1 rfl (is_cell rfl KF aggEp)) rfl ⟨⟨⟨some ⟨x1.heap.size, 0, none⟩, S.key.n, S.key.n⟩, Twin⟩, rfl, ⟨x1.heap.size, y1.heap.size, x3.heap.size, y3.heap.size, Fkey, Fwin, ST.out⟩, BF⟩

set_option maxRecDepth 100000 in
set_option maxHeartbeats 4000000 in
theorem eqEp (S S' : EpS) (D : EpD) (w : World) (h : EpRd w S D) (h' : EpRd w S' D) (hl : EpShort D 4194304) :
    Calls Try.prog 38 #[epV D S, epV D S'] w fun e w' => e = .returned (.bool true) ∧ Below w.heap.size w w' := by
  have HR : Hid (EpRd w S D) := h
  have HQ : Hid (EpRd w S' D) := h'
  have HL : Hid (EpShort D 4194304) := hl
  obtain ⟨x0, hx0⟩ : ∃ x0, (w.alloc (.cells #[.int .i64 D.n, .slice S.key.a S.key.n S.key.c, .int .i64 D.seq, .int .i64 D.win.top, .slice S.win.bits.a S.win.bits.n S.win.bits.c] 54)).alloc (.cells #[.int .i64 D.n, .slice S'.key.a S'.key.n S'.key.c, .int .i64 D.seq, .int .i64 D.win.top, .slice S'.win.bits.a S'.win.bits.n S'.win.bits.c] 54) = x0 := ⟨_, rfl⟩
  have HW0 : Hid ((w.alloc (.cells #[.int .i64 D.n, .slice S.key.a S.key.n S.key.c, .int .i64 D.seq, .int .i64 D.win.top, .slice S.win.bits.a S.win.bits.n S.win.bits.c] 54)).alloc (.cells #[.int .i64 D.n, .slice S'.key.a S'.key.n S'.key.c, .int .i64 D.seq, .int .i64 D.win.top, .slice S'.win.bits.a S'.win.bits.n S'.win.bits.c] 54) = x0) := hx0
  have B0 : Hid (Below w.heap.size w x0) := by rw [← hx0]; exact ((Below.refl _ _).alloc (Nat.le_refl _) _).alloc (by simp) _
  have KA0 : Hid (Blk x0 w.heap.size 54 [.int .i64 D.n, .slice S.key.a S.key.n S.key.c, .int .i64 D.seq, .int .i64 D.win.top, .slice S.win.bits.a S.win.bits.n S.win.bits.c]) := by rw [← hx0]; exact (Blk.new w _ _).alloc _
  have KB0 : Hid (Blk x0 (w.heap.size + 1) 54 [.int .i64 D.n, .slice S'.key.a S'.key.n S'.key.c, .int .i64 D.seq, .int .i64 D.win.top, .slice S'.win.bits.a S'.win.bits.n S'.win.bits.c]) := by
    have := Blk.new (w.alloc (.cells #[.int .i64 D.n, .slice S.key.a S.key.n S.key.c, .int .i64 D.seq, .int .i64 D.win.top, .slice S.win.bits.a S.win.bits.n S.win.bits.c] 54)) 54 [.int .i64 D.n, .slice S'.key.a S'.key.n S'.key.c, .int .i64 D.seq, .int .i64 D.win.top, .slice S'.win.bits.a S'.win.bits.n S'.win.bits.c]
    rw [World.size_alloc] at this
    rw [← hx0]; exact this
  clear h h' hl hx0
  unfold epV
  go_enter Try.func38, Try.ntmps38
  go_upto_region 1 with fail
  rw [HW0.out]
  generalize w.heap.size + 1 = gb at *
  obtain ⟨ga, hga⟩ : ∃ ga, w.heap.size = ga := ⟨_, rfl⟩
  have HGA : Hid (w.heap.size = ga) := hga
  rw [hga] at KA0
  rw [hga]
  clear HW0 hga
  have ca0 := KA0.out.cell 0 rfl
  have cb0 := KB0.out.cell 0 rfl
  have ca1 := KA0.out.cell 1 rfl
  have cb1 := KB0.out.cell 1 rfl
  go_wp2_with fail
  refine (eqB S.key S'.key D.key D.key x0 (HR.out.key.later B0.out) (HQ.out.key.later B0.out) HL.out.key HL.out.key).mono ?_
  rw [decide_eq_true (show D.key = D.key from rfl)]
  rintro e x1 ⟨rfl, b⟩
  have KA1 : Hid (Blk x1 ga 54 [.int .i64 D.n, .slice S.key.a S.key.n S.key.c, .int .i64 D.seq, .int .i64 D.win.top, .slice S.win.bits.a S.win.bits.n S.win.bits.c]) := KA0.out.later b
  have KB1 : Hid (Blk x1 gb 54 [.int .i64 D.n, .slice S'.key.a S'.key.n S'.key.c, .int .i64 D.seq, .int .i64 D.win.top, .slice S'.win.bits.a S'.win.bits.n S'.win.bits.c]) := KB0.out.later b
  have B1 : Hid (Below w.heap.size w x1) := B0.out.trans (b.mono B0.out.size)
  clear b KA0 KB0 B0 ca0 cb0 ca1 cb1
  have ca2 := KA1.out.cell 2 rfl
  have cb2 := KB1.out.cell 2 rfl
  have ca3 := KA1.out.cell 3 rfl
  have cb3 := KB1.out.cell 3 rfl
  have ca4 := KA1.out.cell 4 rfl
  have cb4 := KB1.out.cell 4 rfl
  go_wp2_with fail
  refine (eqWin S.win S'.win D.win x1 (HR.out.win.later B1.out) (HQ.out.win.later B1.out) HL.out.win).mono ?_
  rintro e x2 ⟨rfl, b⟩
  have KA2 : Hid (Blk x2 ga 54 [.int .i64 D.n, .slice S.key.a S.key.n S.key.c, .int .i64 D.seq, .int .i64 D.win.top, .slice S.win.bits.a S.win.bits.n S.win.bits.c]) := KA1.out.later b
  have KB2 : Hid (Blk x2 gb 54 [.int .i64 D.n, .slice S'.key.a S'.key.n S'.key.c, .int .i64 D.seq, .int .i64 D.win.top, .slice S'.win.bits.a S'.win.bits.n S'.win.bits.c]) := KB1.out.later b
  have B2 : Hid (Below w.heap.size w x2) := B1.out.trans (b.mono B1.out.size)
  clear b KA1 KB1 B1 ca2 cb2 ca3 cb3 ca4 cb4
  go_wp2
  go_ret
  exact ⟨rfl, B2.out⟩
/-- The lists marked, one behind the other. -/
def epMarks (k : Int) (S : EpS) (D : EpD) : EpD := { D with key := marks k S.key.n, win := wnMarks (k + (S.key.n : Int)) S.win D.win }
def epSum (S : EpS) : Nat := S.key.n + wnSum S.win

set_option maxRecDepth 100000 in
set_option maxHeartbeats 4000000 in
theorem markEp (S : EpS) (D : EpD) (k : Int) (w : World) (lo hi : Nat) (h : EpOwn w lo hi S D) (hh : hi ≤ w.heap.size) (k0 : 0 ≤ k) (k1 : k + epSum S ≤ 4194304) :
    Calls Try.prog 39 #[epV D S, .int .i64 k] w fun e w' => e = .returned (.int .i64 (k + epSum S)) ∧ EpOwn w' lo hi S (epMarks k S D) ∧ Kept lo hi w w' := by
  obtain ⟨a0, b0, a1, b1, o0, o1, hz⟩ := h
  have HZ : Hid (lo ≤ a0 ∧ b0 ≤ hi ∧ lo ≤ a1 ∧ b1 ≤ hi ∧ (b0 ≤ a1 ∨ b1 ≤ a0)) := hz
  obtain ⟨x0, hx0⟩ : ∃ x0, w.alloc (.cells #[.int .i64 D.n, .slice S.key.a S.key.n S.key.c, .int .i64 D.seq, .int .i64 D.win.top, .slice S.win.bits.a S.win.bits.n S.win.bits.c] 54) = x0 := ⟨_, rfl⟩
  have HW0 : Hid (w.alloc (.cells #[.int .i64 D.n, .slice S.key.a S.key.n S.key.c, .int .i64 D.seq, .int .i64 D.win.top, .slice S.win.bits.a S.win.bits.n S.win.bits.c] 54) = x0) := hx0
  have bw : Below w.heap.size w x0 := by rw [← hx0]; exact (Below.refl _ _).alloc (Nat.le_refl _) _
  have Q0 : Hid (Kept lo hi w x0) := (Kept.of_below bw 0).any
  have LH0 : Hid (hi ≤ x0.heap.size) := Nat.le_trans hh bw.size
  have KA0 : Hid (Blk x0 w.heap.size 54 [.int .i64 D.n, .slice S.key.a S.key.n S.key.c, .int .i64 D.seq, .int .i64 D.win.top, .slice S.win.bits.a S.win.bits.n S.win.bits.c]) := by rw [← hx0]; exact Blk.new w _ _
  have Okey0 : Hid (SOwn x0 a0 b0 S.key D.key) := o0.carry (Kept.of_below bw hi) (.inl (by omega))
  have Owin0 : Hid (WnOwn x0 a1 b1 S.win D.win) := o1.carry (Kept.of_below bw hi) (.inl (by omega))
  have HS : Hid (epSum S = S.key.n + wnSum S.win) := rfl
  have k1' : k + (S.key.n : Int) + (wnSum S.win : Int) ≤ 4194304 := by have := HS.out; omega
  have HE : Hid (k + (epSum S : Int) = ((k + (S.key.n : Int)) + (wnSum S.win : Int))) := by have := HS.out; show _ = _; omega
  rw [HE.out]
  clear hz hx0 bw k1 o0 o1
  unfold epV
  go_enter Try.func39, Try.ntmps39
  go_upto_region 1 with fail
  rw [HW0.out]
  obtain ⟨ga, hga⟩ : ∃ ga, w.heap.size = ga := ⟨_, rfl⟩
  have HGA : Hid (hi ≤ ga) := by show hi ≤ ga; omega
  rw [hga] at KA0
  rw [hga]
  clear HW0 hga
  have ca0 := KA0.out.cell 1 rfl
  go_wp2_with fail
  refine (markB S.key D.key k x0 a0 b0 Okey0.out (by rw [← Okey0.out.len]; omega) (by omega) (by omega)).mono ?_
  rintro e x1 ⟨rfl, o, kp, _⟩
  have KA1 : Hid (Blk x1 ga 54 [.int .i64 D.n, .slice S.key.a S.key.n S.key.c, .int .i64 D.seq, .int .i64 D.win.top, .slice S.win.bits.a S.win.bits.n S.win.bits.c]) := KA0.out.keep (kp.block ga KA0.out.lt (.inr (by have := HGA.out; have := HZ.out; omega)))
  have Q1 : Hid (Kept lo hi w x1) := Q0.out.trans (kp.mono (by have := HZ.out; omega) (by have := HZ.out; omega))
  have LH1 : Hid (hi ≤ x1.heap.size) := Nat.le_trans LH0.out kp.size
  have Okey1 : Hid (SOwn x1 a0 b0 S.key (marks k S.key.n)) := o
  have Owin1 : Hid (WnOwn x1 a1 b1 S.win D.win) := Owin0.out.carry kp (by have := HZ.out; omega)
  clear o kp KA0 Q0 LH0 ca0 Okey0 Owin0
  have ca0 := KA1.out.cell 3 rfl
  have ca1 := KA1.out.cell 4 rfl
  go_wp2_with fail
  refine (markWin S.win D.win (k + (S.key.n : Int)) x1 a1 b1 Owin1.out (by have := HZ.out; have := LH1.out; omega) (by omega) (by omega)).mono ?_
  rintro e x2 ⟨rfl, o, kp⟩
  have KA2 : Hid (Blk x2 ga 54 [.int .i64 D.n, .slice S.key.a S.key.n S.key.c, .int .i64 D.seq, .int .i64 D.win.top, .slice S.win.bits.a S.win.bits.n S.win.bits.c]) := KA1.out.keep (kp.block ga KA1.out.lt (.inr (by have := HGA.out; have := HZ.out; omega)))
  have Q2 : Hid (Kept lo hi w x2) := Q1.out.trans (kp.mono (by have := HZ.out; omega) (by have := HZ.out; omega))
  have LH2 : Hid (hi ≤ x2.heap.size) := Nat.le_trans LH1.out kp.size
  have Owin2 : Hid (WnOwn x2 a1 b1 S.win (wnMarks (k + (S.key.n : Int)) S.win D.win)) := o
  have Okey2 : Hid (SOwn x2 a0 b0 S.key (marks k S.key.n)) := Okey1.out.carry kp (by have := HZ.out; omega)
  clear o kp KA1 Q1 LH1 ca0 ca1 Okey1 Owin1
  go_wp2
  go_ret
  exact ⟨rfl, ⟨a0, b0, a1, b1, Okey2.out, Owin2.out, HZ.out⟩, Q2.out⟩

set_option maxRecDepth 100000 in
set_option maxHeartbeats 4000000 in
theorem heldEp (S : EpS) (D : EpD) (k : Int) (w : World) (h : EpRd w S (epMarks k S D)) (k0 : 0 ≤ k) (k1 : k + epSum S ≤ 4194304) :
    Calls Try.prog 40 #[epV D S, .int .i64 k] w fun e w' => e = .returned (.int .i64 (k + epSum S)) ∧ Below w.heap.size w w' := by
  have HR : Hid (EpRd w S (epMarks k S D)) := h
  obtain ⟨x0, hx0⟩ : ∃ x0, w.alloc (.cells #[.int .i64 D.n, .slice S.key.a S.key.n S.key.c, .int .i64 D.seq, .int .i64 D.win.top, .slice S.win.bits.a S.win.bits.n S.win.bits.c] 54) = x0 := ⟨_, rfl⟩
  have HW0 : Hid (w.alloc (.cells #[.int .i64 D.n, .slice S.key.a S.key.n S.key.c, .int .i64 D.seq, .int .i64 D.win.top, .slice S.win.bits.a S.win.bits.n S.win.bits.c] 54) = x0) := hx0
  have B0 : Hid (Below w.heap.size w x0) := by rw [← hx0]; exact (Below.refl _ _).alloc (Nat.le_refl _) _
  have KA0 : Hid (Blk x0 w.heap.size 54 [.int .i64 D.n, .slice S.key.a S.key.n S.key.c, .int .i64 D.seq, .int .i64 D.win.top, .slice S.win.bits.a S.win.bits.n S.win.bits.c]) := by rw [← hx0]; exact Blk.new w _ _
  have HS : Hid (epSum S = S.key.n + wnSum S.win) := rfl
  have k1' : k + (S.key.n : Int) + (wnSum S.win : Int) ≤ 4194304 := by have := HS.out; omega
  have HE : Hid (k + (epSum S : Int) = ((k + (S.key.n : Int)) + (wnSum S.win : Int))) := by have := HS.out; show _ = _; omega
  rw [HE.out]
  clear h hx0 k1
  unfold epV
  go_enter Try.func40, Try.ntmps40
  go_upto_region 1 with fail
  rw [HW0.out]
  generalize w.heap.size = ga at KA0 ⊢
  clear HW0
  have ca0 := KA0.out.cell 1 rfl
  go_wp2_with fail
  refine (heldB S.key k x0 (HR.out.key.later B0.out) (by omega) (by omega) (by omega)).mono ?_
  rintro e xz ⟨rfl, rfl⟩
  have kn0 : ¬ ((k + (S.key.n : Int)) < 0) := by omega
  clear ca0
  have ca0 := KA0.out.cell 3 rfl
  have ca1 := KA0.out.cell 4 rfl
  go_wp2_with fail
  refine (heldWin S.win D.win (k + (S.key.n : Int)) x0 (HR.out.win.later B0.out) (by omega) (by omega)).mono ?_
  rintro e x1 ⟨rfl, b⟩
  have KA1 : Hid (Blk x1 ga 54 [.int .i64 D.n, .slice S.key.a S.key.n S.key.c, .int .i64 D.seq, .int .i64 D.win.top, .slice S.win.bits.a S.win.bits.n S.win.bits.c]) := KA0.out.later b
  have B1 : Hid (Below _ w x1) := B0.out.trans (b.mono B0.out.size)
  clear b KA0 B0
  have kn1 : ¬ (((k + (S.key.n : Int)) + (wnSum S.win : Int)) < 0) := by omega
  clear ca0 ca1
  go_wp2
  go_ret
  exact ⟨rfl, B1.out⟩
/-- All slices are of a length that there is. -/
structure EpSmall (S : EpS) : Prop where
  key : S.key.n ≤ 9223372036854775807
  win : WnSmall S.win

set_option maxRecDepth 100000 in
set_option maxHeartbeats 4000000 in
theorem szEp (S : EpS) (D : EpD) (k : Int) (w : World) (h : EpSmall S) (k0 : 0 ≤ k) (k1 : k ≤ 4194304) :
    Calls Try.prog 41 #[epV D S, .int .i64 k] w fun e w' => e = .returned (.int .i64 (if k - epSum S < 0 then -1 else k - epSum S)) ∧ Below w.heap.size w w' := by
  obtain ⟨x0, hx0⟩ : ∃ x0, w.alloc (.cells #[.int .i64 D.n, .slice S.key.a S.key.n S.key.c, .int .i64 D.seq, .int .i64 D.win.top, .slice S.win.bits.a S.win.bits.n S.win.bits.c] 61) = x0 := ⟨_, rfl⟩
  have HW0 : Hid (w.alloc (.cells #[.int .i64 D.n, .slice S.key.a S.key.n S.key.c, .int .i64 D.seq, .int .i64 D.win.top, .slice S.win.bits.a S.win.bits.n S.win.bits.c] 61) = x0) := hx0
  have B0 : Hid (Below w.heap.size w x0) := by rw [← hx0]; exact (Below.refl _ _).alloc (Nat.le_refl _) _
  have KA0 : Hid (Blk x0 w.heap.size 61 [.int .i64 D.n, .slice S.key.a S.key.n S.key.c, .int .i64 D.seq, .int .i64 D.win.top, .slice S.win.bits.a S.win.bits.n S.win.bits.c]) := by rw [← hx0]; exact Blk.new w _ _
  have HS : Hid (epSum S = S.key.n + wnSum S.win) := rfl
  have HM : Hid (EpSmall S) := h
  obtain ⟨v, hv⟩ : ∃ v, (if k - (epSum S : Int) < 0 then -1 else k - (epSum S : Int)) = v := ⟨_, rfl⟩
  have HV : Hid ((if k - (epSum S : Int) < 0 then -1 else k - (epSum S : Int)) = v) := hv
  rw [hv]
  clear h hx0 hv
  unfold epV
  go_enter Try.func41, Try.ntmps41
  go_upto_region 1 with fail
  rw [HW0.out]
  generalize w.heap.size = ga at KA0 ⊢
  clear HW0
  have ca0 := KA0.out.cell 1 rfl
  go_wp2_with fail
  refine (szB S.key (k) x0 HM.out.key (by omega) (by omega)).mono ?_
  rintro e xz ⟨rfl, rfl⟩
  clear ca0
  by_cases c0 : k - (S.key.n : Int) < 0
  · obtain rfl : v = -1 := by rw [← HV.out]; exact if_pos (by have := HS.out; omega)
    rw [if_pos c0]
    go_wp2
    go_ret
    exact ⟨rfl, B0.out⟩
  · rw [if_neg c0]
    have ca0 := KA0.out.cell 3 rfl
    have ca1 := KA0.out.cell 4 rfl
    go_wp2_with fail
    refine (szWin S.win D.win (k - (S.key.n : Int)) x0 HM.out.win (by omega) (by omega)).mono ?_
    rintro e x1 ⟨rfl, b⟩
    have KA1 : Hid (Blk x1 ga 61 [.int .i64 D.n, .slice S.key.a S.key.n S.key.c, .int .i64 D.seq, .int .i64 D.win.top, .slice S.win.bits.a S.win.bits.n S.win.bits.c]) := KA0.out.later b
    have B1 : Hid (Below _ w x1) := B0.out.trans (b.mono B0.out.size)
    clear b KA0 B0
    clear ca0 ca1
    by_cases c1 : k - (S.key.n : Int) - (wnSum S.win : Int) < 0
    · obtain rfl : v = -1 := by rw [← HV.out]; exact if_pos (by have := HS.out; omega)
      rw [if_pos c1]
      go_wp2
      go_ret
      exact ⟨rfl, B1.out⟩
    · rw [if_neg c1]
      obtain rfl : v = k - (S.key.n : Int) - (wnSum S.win : Int) := by have := HS.out; rw [← HV.out, if_neg (by omega)]; omega
      go_wp2
      go_ret
      exact ⟨rfl, B1.out⟩
end Go.Proofs.Ytmcflfpckpjphaa.EpZ
