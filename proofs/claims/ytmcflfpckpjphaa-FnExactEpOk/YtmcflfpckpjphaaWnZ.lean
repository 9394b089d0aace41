/-
  The struct Win: its data, its value, what it reads as, what it owns; and what the laws' helpers over it answer.
-/
import Derived.Test.YtmcflfpckpjphaaZoneI
import Derived.Test.YtmcflfpckpjphaaRes
import Derived.Deep.CutBlock
namespace Go.Proofs.Ytmcflfpckpjphaa.WnZ
open Go.RowKit Go.Proofs.Ytmcflfpckpjphaa.Mem Go.Proofs.Ytmcflfpckpjphaa.Blk Go.Proofs.Ytmcflfpckpjphaa.Zone Go.Proofs.Ytmcflfpckpjphaa.ZoneI Go.Proofs.Ytmcflfpckpjphaa.MemI Go.Proofs.Ytmcflfpckpjphaa.Res

/-- The data. -/
structure WnD where
  top : Int
  bits : List Int
/-- The slices. -/
structure WnS where
  bits : Sl
def wnV (D : WnD) (S : WnS) : Value := .agg #[.int .i64 D.top, .slice S.bits.a S.bits.n S.bits.c]
/-- It reads as D. -/
structure WnRd (w : World) (S : WnS) (D : WnD) : Prop where
  bits : ISRd w S.bits D.bits
/-- No two slices lie in one block. -/
structure WnApart (S : WnS) : Prop where
/-- It owns its memory, in the zone [lo, hi). -/
structure WnOwn (w : World) (lo hi : Nat) (S : WnS) (D : WnD) : Prop where
  bits : ISOwn w lo hi S.bits D.bits
  apart : WnApart S
theorem WnOwn.rd {w : World} {lo hi : Nat} {S : WnS} {D : WnD} (h : WnOwn w lo hi S D) : WnRd w S D := ⟨h.bits.rd⟩
theorem WnOwn.carry {w w' : World} {lo hi a b : Nat} {S : WnS} {D : WnD} (h : WnOwn w lo hi S D) (k : Kept a b w w') (d : hi ≤ a ∨ b ≤ lo) : WnOwn w' lo hi S D := ⟨h.bits.carry k d, h.apart⟩
theorem WnOwn.later {w w' : World} {lo hi : Nat} {S : WnS} {D : WnD} (h : WnOwn w lo hi S D) (k : Below w.heap.size w w') : WnOwn w' lo hi S D := h.carry (Kept.of_below k hi) (.inl (Nat.le_refl _))
theorem WnOwn.mono {w : World} {lo hi lo' hi' : Nat} {S : WnS} {D : WnD} (h : WnOwn w lo hi S D) (h1 : lo' ≤ lo) (h2 : hi ≤ hi') : WnOwn w lo' hi' S D := ⟨h.bits.mono h1 h2, h.apart⟩
theorem WnRd.later {w w' : World} {S : WnS} {D : WnD} (h : WnRd w S D) (k : Below w.heap.size w w') : WnRd w' S D := ⟨h.bits.later k⟩
/-- All lists are short. -/
structure WnShort (D : WnD) (n : Nat) : Prop where
  bits : D.bits.length ≤ n
theorem aggWn : aggB Try.prog 26 2 = true := by kernel_rfl

set_option maxRecDepth 100000 in
set_option maxHeartbeats 4000000 in
theorem toWin (S : WnS) (D : WnD) (w : World) (h : WnRd w S D) (hl : WnShort D 4194304) :
    Calls Try.prog 83 #[wnV D S] w fun e w' => ∃ S', e = .returned (wnV D S') ∧ WnOwn w' w.heap.size w'.heap.size S' D ∧ Below w.heap.size w w' := by
  have HR : Hid (WnRd w S D) := h
  have HL : Hid (WnShort D 4194304) := hl
  obtain ⟨x0, hx0⟩ : ∃ x0, ((w.alloc (.cells #[.int .i64 D.top, .slice S.bits.a S.bits.n S.bits.c] 59)).alloc (.cells #[.int .i64 0, .slice none 0 0] 26)).alloc (.cells #[.int .i64 0, .slice none 0 0] 26) = x0 := ⟨_, rfl⟩
  have HW0 : Hid (((w.alloc (.cells #[.int .i64 D.top, .slice S.bits.a S.bits.n S.bits.c] 59)).alloc (.cells #[.int .i64 0, .slice none 0 0] 26)).alloc (.cells #[.int .i64 0, .slice none 0 0] 26) = x0) := hx0
  have B0 : Hid (Below w.heap.size w x0) := by rw [← hx0]; exact (((Below.refl _ _).alloc (Nat.le_refl _) _).alloc (by simp) _).alloc (by simp; omega) _
  have KA0 : Hid (Blk x0 w.heap.size 59 [.int .i64 D.top, .slice S.bits.a S.bits.n S.bits.c]) := by rw [← hx0]; exact ((Blk.new w _ _).alloc _).alloc _
  have KR0 : Hid (Blk x0 (w.heap.size + 1) 26 [.int .i64 0, .slice none 0 0]) := by
    have := Blk.new (w.alloc (.cells #[.int .i64 D.top, .slice S.bits.a S.bits.n S.bits.c] 59)) 26 [.int .i64 0, .slice none 0 0]
    rw [World.size_alloc] at this
    rw [← hx0]; exact this.alloc _
  have KO0 : Hid (Blk x0 (w.heap.size + 1 + 1) 26 [.int .i64 0, .slice none 0 0]) := by
    have := Blk.new ((w.alloc (.cells #[.int .i64 D.top, .slice S.bits.a S.bits.n S.bits.c] 59)).alloc (.cells #[.int .i64 0, .slice none 0 0] 26)) 26 [.int .i64 0, .slice none 0 0]
    rw [World.size_alloc, World.size_alloc] at this
    rw [← hx0]; exact this
  have Z0 : Hid (w.heap.size + 1 + 1 < x0.heap.size) := KO0.out.lt
  clear h hl hx0
  unfold wnV
  go_enter Try.func83, Try.ntmps83
  go_upto_region 2 with fail
  rw [HW0.out]
  obtain ⟨ga, hga⟩ : ∃ ga, w.heap.size = ga := ⟨_, rfl⟩
  obtain ⟨gr, hgr⟩ : ∃ gr, w.heap.size + 1 = gr := ⟨_, rfl⟩
  obtain ⟨go, hgo⟩ : ∃ go, w.heap.size + 1 + 1 = go := ⟨_, rfl⟩
  have HGS : Hid (ga = w.heap.size ∧ gr = ga + 1 ∧ go = gr + 1) := ⟨hga.symm, by omega, by omega⟩
  rw [hgo] at KO0 Z0
  rw [hgr] at KR0
  rw [hga] at KA0
  rw [hgo, hgr, hga]
  clear HW0 hga hgr hgo
  have ca := KA0.out.cell 0 rfl
  obtain ⟨x1, hx1⟩ : ∃ x1, x0.setCell ⟨go, 0, none⟩ (.int .i64 D.top) = x1 := ⟨_, rfl⟩
  have HW : Hid (x0.setCell ⟨go, 0, none⟩ (.int .i64 D.top) = x1) := hx1
  have co := KO0.out.cell 0 rfl
  have fo := KO0.out.frozen 0
  have KA1 : Hid (Blk x1 ga 59 [.int .i64 D.top, .slice S.bits.a S.bits.n S.bits.c]) := by rw [← hx1]; exact KA0.out.other (by show ga ≠ go; have := HGS.out; omega) _
  have KR1 : Hid (Blk x1 gr 26 [.int .i64 0, .slice none 0 0]) := by rw [← hx1]; exact KR0.out.other (by show gr ≠ go; have := HGS.out; omega) _
  have KO1 : Hid (Blk x1 go 26 [.int .i64 D.top, .slice none 0 0]) := by rw [← hx1]; exact KO0.out.set 0 _ (by simp [maxLen])
  have B1 : Hid (Below w.heap.size w x1) := by rw [← hx1]; exact B0.out.setCell (by show _ ≤ go; have := HGS.out; omega) _
  have KS1 : Hid (Kept go (go + 1) x0 x1) := by rw [← hx1]; exact Kept.setCell _ _ _ _
  have ZS1 : Hid (x1.heap.size = x0.heap.size) := by rw [← hx1]; show _ = _; simp
  clear hx1
  go_upto_region 3 with fail
  rw [HW.out]
  clear HW co fo KA0 KR0 KO0 ca B0
  have ca := KA1.out.cell 1 rfl
  go_wp2_with fail
  refine (toI S.bits D.bits x1 (HR.out.bits.later (Below.mono B1.out (Nat.le_refl _))) HL.out.bits).mono ?_
  rintro e y1 ⟨rfl, o1, b1⟩
  have Obits : Hid (ISOwn y1 x1.heap.size y1.heap.size ⟨some ⟨x1.heap.size, 0, none⟩, S.bits.n, S.bits.n⟩ D.bits) := o1
  have LTbits : Hid (x1.heap.size < y1.heap.size) := by obtain ⟨h1, _⟩ | ⟨g, h1, _, h3, h4, _⟩ := o1; (· cases h1); (· show _ < _; omega)
  have BN1 : Hid (Below w.heap.size w y1) := B1.out.trans (b1.mono B1.out.size)
  have KA1b : Hid (Blk y1 ga 59 [.int .i64 D.top, .slice S.bits.a S.bits.n S.bits.c]) := KA1.out.later b1
  have KR1b : Hid (Blk y1 gr 26 [.int .i64 0, .slice none 0 0]) := KR1.out.later b1
  have KO1b : Hid (Blk y1 go 26 [.int .i64 D.top, .slice none 0 0]) := KO1.out.later b1
  have KP1 : Hid (Kept go (go + 1) x1 y1) := (Kept.of_below b1 0).any
  have LObits : Hid (go + 1 ≤ x1.heap.size) := KO1.out.lt
  clear o1 b1 ca
  obtain ⟨x2, hx2⟩ : ∃ x2, y1.setCell ⟨go, 1, none⟩ (.slice (some ⟨x1.heap.size, 0, none⟩) S.bits.n S.bits.n) = x2 := ⟨_, rfl⟩
  have HW : Hid (y1.setCell ⟨go, 1, none⟩ (.slice (some ⟨x1.heap.size, 0, none⟩) S.bits.n S.bits.n) = x2) := hx2
  have co := KO1b.out.cell 1 rfl
  have fo := KO1b.out.frozen 1
  have KA2 : Hid (Blk x2 ga 59 [.int .i64 D.top, .slice S.bits.a S.bits.n S.bits.c]) := by rw [← hx2]; exact KA1b.out.other (by show ga ≠ go; have := HGS.out; omega) _
  have KR2 : Hid (Blk x2 gr 26 [.int .i64 0, .slice none 0 0]) := by rw [← hx2]; exact KR1b.out.other (by show gr ≠ go; have := HGS.out; omega) _
  have KO2 : Hid (Blk x2 go 26 [.int .i64 D.top, .slice (some ⟨x1.heap.size, 0, none⟩) S.bits.n S.bits.n]) := by rw [← hx2]; exact KO1b.out.set 1 _ (by simp [maxLen])
  have B2 : Hid (Below w.heap.size w x2) := by rw [← hx2]; exact BN1.out.setCell (by show _ ≤ go; have := HGS.out; omega) _
  have KS2 : Hid (Kept go (go + 1) y1 x2) := by rw [← hx2]; exact Kept.setCell _ _ _ _
  have ZS2 : Hid (x2.heap.size = y1.heap.size) := by rw [← hx2]; show _ = _; simp
  clear hx2
  go_upto_region 4 with fail
  rw [HW.out]
  clear HW co fo KA1 KR1 KO1 KA1b KR1b KO1b B1
  -- the whole is handed over
  have co0 := KO2.out.cell 0 rfl
  have co1 := KO2.out.cell 1 rfl
  have cr0 := KR2.out.cell 0 rfl
  have cr1 := KR2.out.cell 1 rfl
  have fr0 := KR2.out.frozen 0
  have fr1 := KR2.out.frozen 1
  go_wp2
  have KF : Blk ((x2.setCell ⟨gr, 0, none⟩ (.int .i64 D.top)).setCell ⟨gr, 1, none⟩ (.slice (some ⟨x1.heap.size, 0, none⟩) S.bits.n S.bits.n)) gr 26 [.int .i64 D.top, .slice (some ⟨x1.heap.size, 0, none⟩) S.bits.n S.bits.n] := (KR2.out.set 0 _ (by simp [maxLen])).set 1 _ (by simp [maxLen])
  have BF : Below w.heap.size w ((x2.setCell ⟨gr, 0, none⟩ (.int .i64 D.top)).setCell ⟨gr, 1, none⟩ (.slice (some ⟨x1.heap.size, 0, none⟩) S.bits.n S.bits.n)) := (B2.out.setCell (by show _ ≤ gr; have := HGS.out; omega) _).setCell (by show _ ≤ gr; have := HGS.out; omega) _
  have KF2 : Kept gr (gr + 1) x2 ((x2.setCell ⟨gr, 0, none⟩ (.int .i64 D.top)).setCell ⟨gr, 1, none⟩ (.slice (some ⟨x1.heap.size, 0, none⟩) S.bits.n S.bits.n)) := (Kept.setCell _ _ _ _).trans (Kept.setCell _ _ _ _)
  have Fbits := (Obits.out.carry KS2.out (.inr LObits.out)).carry KF2 (.inr (Nat.le_trans (by have := HGS.out; omega) LObits.out))
  have ST : Hid (w.heap.size ≤ x1.heap.size ∧ y1.heap.size ≤ ((x2.setCell ⟨gr, 0, none⟩ (.int .i64 D.top)).setCell ⟨gr, 1, none⟩ (.slice (some ⟨x1.heap.size, 0, none⟩) S.bits.n S.bits.n)).heap.size) := by
    have s0 := KS1.out.size; have s1 := KP1.out.size; have s2 := KS2.out.size; have sf := KF2.size; have lbits := LTbits.out; have hg := HGS.out; have z0 := Z0.out
    exact ⟨by omega, by omega⟩
  exact bodyPost_ret (v := wnV D ⟨⟨some ⟨x1.heap.size, 0, none⟩, S.bits.n, S.bits.n⟩⟩) (res1 rfl (is_cell rfl KF aggWn)) rfl ⟨⟨⟨some ⟨x1.heap.size, 0, none⟩, S.bits.n, S.bits.n⟩⟩, rfl, ⟨Fbits.mono ST.out.1 ST.out.2, ⟨⟩⟩, BF⟩

set_option maxRecDepth 100000 in
set_option maxHeartbeats 4000000 in
theorem eqWin (S S' : WnS) (D : WnD) (w : World) (h : WnRd w S D) (h' : WnRd w S' D) (hl : WnShort D 4194304) :
    Calls Try.prog 79 #[wnV D S, wnV D S'] w fun e w' => e = .returned (.bool true) ∧ Below w.heap.size w w' := by
  have HR : Hid (WnRd w S D) := h
  have HQ : Hid (WnRd w S' D) := h'
  have HL : Hid (WnShort D 4194304) := hl
  obtain ⟨x0, hx0⟩ : ∃ x0, (w.alloc (.cells #[.int .i64 D.top, .slice S.bits.a S.bits.n S.bits.c] 26)).alloc (.cells #[.int .i64 D.top, .slice S'.bits.a S'.bits.n S'.bits.c] 26) = x0 := ⟨_, rfl⟩
  have HW0 : Hid ((w.alloc (.cells #[.int .i64 D.top, .slice S.bits.a S.bits.n S.bits.c] 26)).alloc (.cells #[.int .i64 D.top, .slice S'.bits.a S'.bits.n S'.bits.c] 26) = x0) := hx0
  have B0 : Hid (Below w.heap.size w x0) := by rw [← hx0]; exact ((Below.refl _ _).alloc (Nat.le_refl _) _).alloc (by simp) _
  have KA0 : Hid (Blk x0 w.heap.size 26 [.int .i64 D.top, .slice S.bits.a S.bits.n S.bits.c]) := by rw [← hx0]; exact (Blk.new w _ _).alloc _
  have KB0 : Hid (Blk x0 (w.heap.size + 1) 26 [.int .i64 D.top, .slice S'.bits.a S'.bits.n S'.bits.c]) := by
    have := Blk.new (w.alloc (.cells #[.int .i64 D.top, .slice S.bits.a S.bits.n S.bits.c] 26)) 26 [.int .i64 D.top, .slice S'.bits.a S'.bits.n S'.bits.c]
    rw [World.size_alloc] at this
    rw [← hx0]; exact this
  clear h h' hl hx0
  unfold wnV
  go_enter Try.func79, Try.ntmps79
  go_upto_region 1 with fail
  rw [HW0.out]
  generalize w.heap.size + 1 = gb at *
  obtain ⟨ga, hga⟩ : ∃ ga, w.heap.size = ga := ⟨_, rfl⟩
  have HGA : Hid (w.heap.size = ga) := hga
  rw [hga] at KA0
  rw [hga]
  clear HW0 hga
  have ca0 := KA0.out.cell 0 rfl
  have cb0 := KB0.out.cell 0 rfl
  have ca1 := KA0.out.cell 1 rfl
  have cb1 := KB0.out.cell 1 rfl
  go_wp2_with fail
  refine (eqI S.bits S'.bits D.bits D.bits x0 (HR.out.bits.later B0.out) (HQ.out.bits.later B0.out) HL.out.bits HL.out.bits).mono ?_
  rw [decide_eq_true (show D.bits = D.bits from rfl)]
  rintro e x1 ⟨rfl, b⟩
  have KA1 : Hid (Blk x1 ga 26 [.int .i64 D.top, .slice S.bits.a S.bits.n S.bits.c]) := KA0.out.later b
  have KB1 : Hid (Blk x1 gb 26 [.int .i64 D.top, .slice S'.bits.a S'.bits.n S'.bits.c]) := KB0.out.later b
  have B1 : Hid (Below w.heap.size w x1) := B0.out.trans (b.mono B0.out.size)
  clear b KA0 KB0 B0 ca0 cb0 ca1 cb1
  go_wp2
  go_ret
  exact ⟨rfl, B1.out⟩
/-- The lists marked, one behind the other. -/
def wnMarks (k : Int) (S : WnS) (D : WnD) : WnD := { D with bits := imarks k S.bits.n }
def wnSum (S : WnS) : Nat := S.bits.n

set_option maxRecDepth 100000 in
set_option maxHeartbeats 4000000 in
theorem markWin (S : WnS) (D : WnD) (k : Int) (w : World) (lo hi : Nat) (h : WnOwn w lo hi S D) (hh : hi ≤ w.heap.size) (k0 : 0 ≤ k) (k1 : k + wnSum S ≤ 4194304) :
    Calls Try.prog 80 #[wnV D S, .int .i64 k] w fun e w' => e = .returned (.int .i64 (k + wnSum S)) ∧ WnOwn w' lo hi S (wnMarks k S D) ∧ Kept lo hi w w' := by
  have HA : Hid (WnApart S) := h.apart
  obtain ⟨x0, hx0⟩ : ∃ x0, w.alloc (.cells #[.int .i64 D.top, .slice S.bits.a S.bits.n S.bits.c] 26) = x0 := ⟨_, rfl⟩
  have HW0 : Hid (w.alloc (.cells #[.int .i64 D.top, .slice S.bits.a S.bits.n S.bits.c] 26) = x0) := hx0
  have b0 : Below w.heap.size w x0 := by rw [← hx0]; exact (Below.refl _ _).alloc (Nat.le_refl _) _
  have Q0 : Hid (Kept lo hi w x0) := (Kept.of_below b0 0).any
  have KA0 : Hid (Blk x0 w.heap.size 26 [.int .i64 D.top, .slice S.bits.a S.bits.n S.bits.c]) := by rw [← hx0]; exact Blk.new w _ _
  have Obits0 : Hid (ISOwn x0 lo hi S.bits D.bits) := h.bits.carry (Kept.of_below b0 hi) (.inl (Nat.le_refl _))
  have HZ : Hid (w.heap.size < x0.heap.size) := KA0.out.lt
  have HS : Hid (wnSum S = S.bits.n) := rfl
  have k1' : k + (S.bits.n : Int) ≤ 4194304 := by have := HS.out; omega
  have HE : Hid (k + (wnSum S : Int) = (k + (S.bits.n : Int))) := by have := HS.out; show _ = _; omega
  rw [HE.out]
  clear h hx0 b0 k1
  unfold wnV
  go_enter Try.func80, Try.ntmps80
  go_upto_region 1 with fail
  rw [HW0.out]
  obtain ⟨ga, hga⟩ : ∃ ga, w.heap.size = ga := ⟨_, rfl⟩
  have HGA : Hid (hi ≤ ga) := by show hi ≤ ga; omega
  rw [hga] at KA0
  rw [hga]
  clear HW0 hga
  have ca := KA0.out.cell 1 rfl
  go_wp2_with fail
  refine (markI S.bits D.bits k x0 lo hi Obits0.out (by rw [← Obits0.out.len]; omega) (by omega) (by omega)).mono ?_
  rintro e x1 ⟨rfl, o, kp⟩
  have KA1 : Hid (Blk x1 ga 26 [.int .i64 D.top, .slice S.bits.a S.bits.n S.bits.c]) := KA0.out.keep (kp.block ga KA0.out.lt (.inr HGA.out))
  have Q1 : Hid (Kept lo hi w x1) := Q0.out.trans kp
  have Obits1 : Hid (ISOwn x1 lo hi S.bits (imarks k S.bits.n)) := o
  clear o kp ca KA0 Q0 Obits0
  go_wp2
  go_ret
  exact ⟨rfl, ⟨Obits1.out, HA.out⟩, Q1.out⟩

set_option maxRecDepth 100000 in
set_option maxHeartbeats 4000000 in
theorem heldWin (S : WnS) (D : WnD) (k : Int) (w : World) (h : WnRd w S (wnMarks k S D)) (k0 : 0 ≤ k) (k1 : k + wnSum S ≤ 4194304) :
    Calls Try.prog 81 #[wnV D S, .int .i64 k] w fun e w' => e = .returned (.int .i64 (k + wnSum S)) ∧ Below w.heap.size w w' := by
  have HR : Hid (WnRd w S (wnMarks k S D)) := h
  obtain ⟨x0, hx0⟩ : ∃ x0, w.alloc (.cells #[.int .i64 D.top, .slice S.bits.a S.bits.n S.bits.c] 26) = x0 := ⟨_, rfl⟩
  have HW0 : Hid (w.alloc (.cells #[.int .i64 D.top, .slice S.bits.a S.bits.n S.bits.c] 26) = x0) := hx0
  have B0 : Hid (Below w.heap.size w x0) := by rw [← hx0]; exact (Below.refl _ _).alloc (Nat.le_refl _) _
  have KA0 : Hid (Blk x0 w.heap.size 26 [.int .i64 D.top, .slice S.bits.a S.bits.n S.bits.c]) := by rw [← hx0]; exact Blk.new w _ _
  have HS : Hid (wnSum S = S.bits.n) := rfl
  have k1' : k + (S.bits.n : Int) ≤ 4194304 := by have := HS.out; omega
  have HE : Hid (k + (wnSum S : Int) = (k + (S.bits.n : Int))) := by have := HS.out; show _ = _; omega
  rw [HE.out]
  clear h hx0 k1
  unfold wnV
  go_enter Try.func81, Try.ntmps81
  go_upto_region 1 with fail
  rw [HW0.out]
  generalize w.heap.size = ga at KA0 ⊢
  clear HW0
  have ca := KA0.out.cell 1 rfl
  go_wp2_with fail
  refine (heldI S.bits k x0 (HR.out.bits.later B0.out) (by omega) (by omega) (by omega)).mono ?_
  rintro e x1 ⟨rfl, rfl⟩
  have kn0 : ¬ ((k + (S.bits.n : Int)) < 0) := by omega
  clear ca
  go_wp2
  go_ret
  exact ⟨rfl, B0.out⟩
/-- All slices are of a length that there is. -/
structure WnSmall (S : WnS) : Prop where
  bits : S.bits.n ≤ 9223372036854775807

set_option maxRecDepth 100000 in
set_option maxHeartbeats 4000000 in
theorem szWin (S : WnS) (D : WnD) (k : Int) (w : World) (h : WnSmall S) (k0 : 0 ≤ k) (k1 : k ≤ 4194304) :
    Calls Try.prog 82 #[wnV D S, .int .i64 k] w fun e w' => e = .returned (.int .i64 (if k - wnSum S < 0 then -1 else k - wnSum S)) ∧ Below w.heap.size w w' := by
  obtain ⟨x0, hx0⟩ : ∃ x0, w.alloc (.cells #[.int .i64 D.top, .slice S.bits.a S.bits.n S.bits.c] 59) = x0 := ⟨_, rfl⟩
  have HW0 : Hid (w.alloc (.cells #[.int .i64 D.top, .slice S.bits.a S.bits.n S.bits.c] 59) = x0) := hx0
  have B0 : Hid (Below w.heap.size w x0) := by rw [← hx0]; exact (Below.refl _ _).alloc (Nat.le_refl _) _
  have KA0 : Hid (Blk x0 w.heap.size 59 [.int .i64 D.top, .slice S.bits.a S.bits.n S.bits.c]) := by rw [← hx0]; exact Blk.new w _ _
  have HS : Hid (wnSum S = S.bits.n) := rfl
  have HM : Hid (WnSmall S) := h
  obtain ⟨v, hv⟩ : ∃ v, (if k - (wnSum S : Int) < 0 then -1 else k - (wnSum S : Int)) = v := ⟨_, rfl⟩
  have HV : Hid ((if k - (wnSum S : Int) < 0 then -1 else k - (wnSum S : Int)) = v) := hv
  rw [hv]
  clear h hx0 hv
  unfold wnV
  go_enter Try.func82, Try.ntmps82
  go_upto_region 1 with fail
  rw [HW0.out]
  generalize w.heap.size = ga at KA0 ⊢
  clear HW0
  have ca := KA0.out.cell 1 rfl
  go_wp2_with fail
  refine (szI S.bits (k) x0 HM.out.bits (by omega) (by omega)).mono ?_
  rintro e x1 ⟨rfl, rfl⟩
  clear ca
  by_cases c0 : k - (S.bits.n : Int) < 0
  · obtain rfl : v = -1 := by rw [← HV.out]; exact if_pos (by have := HS.out; omega)
    rw [if_pos c0]
    go_wp2
    go_ret
    exact ⟨rfl, B0.out⟩
  · rw [if_neg c0]
    obtain rfl : v = k - (S.bits.n : Int) := by have := HS.out; rw [← HV.out, if_neg (by omega)]; omega
    go_wp2
    go_ret
    exact ⟨rfl, B0.out⟩
end Go.Proofs.Ytmcflfpckpjphaa.WnZ
