/-
  The struct Win: its data, its value, what it reads as, what it owns; and what the laws' helpers over it answer.
  A region that draws its order, told by what each of its operations leaves: each operation is shown once, from what those that it waits for have left; the last one, for which all wait, from what all have left.
  One operation of a region that draws its order: one that runs to its end; and 'append' of a slice onto an empty one without room: what was there stays as it was.
  One operation of a region that draws its order: a call of a Go function, by its contract.
  A window's copy: spec.l8Copy, impl.copyWin: the same window, in memory of its own.
  Windows as plain functions: a greatest number and 32 words; which numbers are taken, which may be, what is left when one is added, and what a list of them leaves.
  Words and their bits, as the program's and the specification's operations reckon them.
-/
import Derived.Test.YtmcflfpckpjphaaWb1
import Derived.Deep.CutBlock
import Derived.Deep.RegionLaw
import Derived.Deep.RegionLawGrows
import Derived.Laws.AppendOwnNone
set_option linter.unusedVariables false
namespace Go.Proofs.Ytmcflfpckpjphaa.WnZ
open Go.RowKit Go.Proofs.Ytmcflfpckpjphaa.Mem Go.Proofs.Ytmcflfpckpjphaa.Blk Go.Proofs.Ytmcflfpckpjphaa.Zone Go.Proofs.Ytmcflfpckpjphaa.ZoneI Go.Proofs.Ytmcflfpckpjphaa.MemI Go.Proofs.Ytmcflfpckpjphaa.Res

/-- The data. -/
structure WnD where
  top : Int
  bits : List Int
/-- The slices. -/
structure WnS where
  bits : Sl
def wnV (D : WnD) (S : WnS) : Value := .agg #[.int .i64 D.top, .slice S.bits.a S.bits.n S.bits.c]
/-- It reads as D. -/
structure WnRd (w : World) (S : WnS) (D : WnD) : Prop where
  bits : ISRd w S.bits D.bits
/-- No two slices lie in one block. -/
structure WnApart (S : WnS) : Prop where
/-- It owns its memory, in the zone [lo, hi). -/
structure WnOwn (w : World) (lo hi : Nat) (S : WnS) (D : WnD) : Prop where
  bits : ISOwn w lo hi S.bits D.bits
  apart : WnApart S
set_option maxRecDepth 100000 in
theorem WnOwn.rd {w : World} {lo hi : Nat} {S : WnS} {D : WnD} (h : WnOwn w lo hi S D) : WnRd w S D := ⟨h.bits.rd⟩
set_option maxRecDepth 100000 in
theorem WnOwn.carry {w w' : World} {lo hi a b : Nat} {S : WnS} {D : WnD} (h : WnOwn w lo hi S D) (k : Kept a b w w') (d : hi ≤ a ∨ b ≤ lo) : WnOwn w' lo hi S D := ⟨h.bits.carry k d, h.apart⟩
set_option maxRecDepth 100000 in
theorem WnOwn.later {w w' : World} {lo hi : Nat} {S : WnS} {D : WnD} (h : WnOwn w lo hi S D) (k : Below w.heap.size w w') : WnOwn w' lo hi S D := h.carry (Kept.of_below k hi) (.inl (Nat.le_refl _))
set_option maxRecDepth 100000 in
theorem WnOwn.mono {w : World} {lo hi lo' hi' : Nat} {S : WnS} {D : WnD} (h : WnOwn w lo hi S D) (h1 : lo' ≤ lo) (h2 : hi ≤ hi') : WnOwn w lo' hi' S D := ⟨h.bits.mono h1 h2, h.apart⟩
set_option maxRecDepth 100000 in
theorem WnRd.later {w w' : World} {S : WnS} {D : WnD} (h : WnRd w S D) (k : Below w.heap.size w w') : WnRd w' S D := ⟨h.bits.later k⟩
/-- All lists are short. -/
structure WnShort (D : WnD) (n : Nat) : Prop where
  bits : D.bits.length ≤ n
set_option maxRecDepth 100000 in
theorem aggWn : aggB Try.prog 26 2 = true := by kernel_rfl

set_option maxRecDepth 100000 in
set_option maxHeartbeats 4000000 in
theorem toWin (S : WnS) (D : WnD) (w : World) (h : WnRd w S D) (hl : WnShort D 4194304) :
    Calls Try.prog 83 #[wnV D S] w fun e w' => ∃ S', e = .returned (wnV D S') ∧ WnOwn w' w.heap.size w'.heap.size S' D ∧ Below w.heap.size w w' := by
  have HR : Hid (WnRd w S D) := h
  have HL : Hid (WnShort D 4194304) := hl
  obtain ⟨x0, hx0⟩ : ∃ x0, ((w.alloc (.cells #[.int .i64 D.top, .slice S.bits.a S.bits.n S.bits.c] 59)).alloc (.cells #[.int .i64 0, .slice none 0 0] 26)).alloc (.cells #[.int .i64 0, .slice none 0 0] 26) = x0 := ⟨_, rfl⟩
  have HW0 : Hid (((w.alloc (.cells #[.int .i64 D.top, .slice S.bits.a S.bits.n S.bits.c] 59)).alloc (.cells #[.int .i64 0, .slice none 0 0] 26)).alloc (.cells #[.int .i64 0, .slice none 0 0] 26) = x0) := hx0
  have B0 : Hid (Below w.heap.size w x0) := by rw [← hx0]; exact (((Below.refl _ _).alloc (Nat.le_refl _) _).alloc (by simp) _).alloc (by simp; omega) _
  have KA0 : Hid (Blk x0 w.heap.size 59 [.int .i64 D.top, .slice S.bits.a S.bits.n S.bits.c]) := by rw [← hx0]; exact ((Blk.new w _ _).alloc _).alloc _
  have KR0 : Hid (Blk x0 (w.heap.size + 1) 26 [.int .i64 0, .slice none 0 0]) := by
    have := Blk.new (w.alloc (.cells #[.int .i64 D.top, .slice S.bits.a S.bits.n S.bits.c] 59)) 26 [.int .i64 0, .slice none 0 0]
    rw [World.size_alloc] at this
    rw [← hx0]; exact this.alloc _
  have KO0 : Hid (Blk x0 (w.heap.size + 1 + 1) 26 [.int .i64 0, .slice none 0 0]) := by
    have := Blk.new ((w.alloc (.cells #[.int .i64 D.top, .slice S.bits.a S.bits.n S.bits.c] 59)).alloc (.cells #[.int .i64 0, .slice none 0 0] 26)) 26 [.int .i64 0, .slice none 0 0]
    rw [World.size_alloc, World.size_alloc] at this
    rw [← hx0]; exact this
  have Z0 : Hid (w.heap.size + 1 + 1 < x0.heap.size) := KO0.out.lt
  clear h hl hx0
  unfold wnV
  go_enter Try.func83, Try.ntmps83
  go_upto_region 2 with fail
  rw [HW0.out]
  obtain ⟨ga, hga⟩ : ∃ ga, w.heap.size = ga := ⟨_, rfl⟩
  obtain ⟨gr, hgr⟩ : ∃ gr, w.heap.size + 1 = gr := ⟨_, rfl⟩
  obtain ⟨go, hgo⟩ : ∃ go, w.heap.size + 1 + 1 = go := ⟨_, rfl⟩
  have HGS : Hid (ga = w.heap.size ∧ gr = ga + 1 ∧ go = gr + 1) := ⟨hga.symm, by omega, by omega⟩
  rw [hgo] at KO0 Z0
  rw [hgr] at KR0
  rw [hga] at KA0
  rw [hgo, hgr, hga]
  clear HW0 hga hgr hgo
  have ca := KA0.out.cell 0 rfl
  obtain ⟨x1, hx1⟩ : ∃ x1, x0.setCell ⟨go, 0, none⟩ (.int .i64 D.top) = x1 := ⟨_, rfl⟩
  have HW : Hid (x0.setCell ⟨go, 0, none⟩ (.int .i64 D.top) = x1) := hx1
  have co := KO0.out.cell 0 rfl
  have fo := KO0.out.frozen 0
  have KA1 : Hid (Blk x1 ga 59 [.int .i64 D.top, .slice S.bits.a S.bits.n S.bits.c]) := by rw [← hx1]; exact KA0.out.other (by show ga ≠ go; have := HGS.out; omega) _
  have KR1 : Hid (Blk x1 gr 26 [.int .i64 0, .slice none 0 0]) := by rw [← hx1]; exact KR0.out.other (by show gr ≠ go; have := HGS.out; omega) _
  have KO1 : Hid (Blk x1 go 26 [.int .i64 D.top, .slice none 0 0]) := by rw [← hx1]; exact KO0.out.set 0 _ (by simp [maxLen])
  have B1 : Hid (Below w.heap.size w x1) := by rw [← hx1]; exact B0.out.setCell (by show _ ≤ go; have := HGS.out; omega) _
  have KS1 : Hid (Kept go (go + 1) x0 x1) := by rw [← hx1]; exact Kept.setCell _ _ _ _
  have ZS1 : Hid (x1.heap.size = x0.heap.size) := by rw [← hx1]; show _ = _; simp
  clear hx1
  go_upto_region 3 with fail
  rw [HW.out]
  clear HW co fo KA0 KR0 KO0 ca B0
  have ca := KA1.out.cell 1 rfl
  go_wp2_with fail
  refine (toI S.bits D.bits x1 (HR.out.bits.later (Below.mono B1.out (Nat.le_refl _))) HL.out.bits).mono ?_
  rintro e y1 ⟨rfl, o1, b1⟩
  have Obits : Hid (ISOwn y1 x1.heap.size y1.heap.size ⟨some ⟨x1.heap.size, 0, none⟩, S.bits.n, S.bits.n⟩ D.bits) := o1
  have LTbits : Hid (x1.heap.size < y1.heap.size) := by obtain ⟨h1, _⟩ | ⟨g, h1, _, h3, h4, _⟩ := o1; (· cases h1); (· show _ < _; omega)
  have BN1 : Hid (Below w.heap.size w y1) := B1.out.trans (b1.mono B1.out.size)
  have KA1b : Hid (Blk y1 ga 59 [.int .i64 D.top, .slice S.bits.a S.bits.n S.bits.c]) := KA1.out.later b1
  have KR1b : Hid (Blk y1 gr 26 [.int .i64 0, .slice none 0 0]) := KR1.out.later b1
  have KO1b : Hid (Blk y1 go 26 [.int .i64 D.top, .slice none 0 0]) := KO1.out.later b1
  have KP1 : Hid (Kept go (go + 1) x1 y1) := (Kept.of_below b1 0).any
  have LObits : Hid (go + 1 ≤ x1.heap.size) := KO1.out.lt
  clear o1 b1 ca
  obtain ⟨x2, hx2⟩ : ∃ x2, y1.setCell ⟨go, 1, none⟩ (.slice (some ⟨x1.heap.size, 0, none⟩) S.bits.n S.bits.n) = x2 := ⟨_, rfl⟩
  have HW : Hid (y1.setCell ⟨go, 1, none⟩ (.slice (some ⟨x1.heap.size, 0, none⟩) S.bits.n S.bits.n) = x2) := hx2
  have co := KO1b.out.cell 1 rfl
  have fo := KO1b.out.frozen 1
  have KA2 : Hid (Blk x2 ga 59 [.int .i64 D.top, .slice S.bits.a S.bits.n S.bits.c]) := by rw [← hx2]; exact KA1b.out.other (by show ga ≠ go; have := HGS.out; omega) _
  have KR2 : Hid (Blk x2 gr 26 [.int .i64 0, .slice none 0 0]) := by rw [← hx2]; exact KR1b.out.other (by show gr ≠ go; have := HGS.out; omega) _
  have KO2 : Hid (Blk x2 go 26 [.int .i64 D.top, .slice (some ⟨x1.heap.size, 0, none⟩) S.bits.n S.bits.n]) := by rw [← hx2]; exact KO1b.out.set 1 _ (by simp [maxLen])
  have B2 : Hid (Below w.heap.size w x2) := by rw [← hx2]; exact BN1.out.setCell (by show _ ≤ go; have := HGS.out; omega) _
  have KS2 : Hid (Kept go (go + 1) y1 x2) := by rw [← hx2]; exact Kept.setCell _ _ _ _
  have ZS2 : Hid (x2.heap.size = y1.heap.size) := by rw [← hx2]; show _ = _; simp
  clear hx2
  go_upto_region 4 with fail
  rw [HW.out]
  clear HW co fo KA1 KR1 KO1 KA1b KR1b KO1b B1
  -- the whole is handed over
  have co0 := KO2.out.cell 0 rfl
  have co1 := KO2.out.cell 1 rfl
  have cr0 := KR2.out.cell 0 rfl
  have cr1 := KR2.out.cell 1 rfl
  have fr0 := KR2.out.frozen 0
  have fr1 := KR2.out.frozen 1
  go_wp2
  have KF : Blk ((x2.setCell ⟨gr, 0, none⟩ (.int .i64 D.top)).setCell ⟨gr, 1, none⟩ (.slice (some ⟨x1.heap.size, 0, none⟩) S.bits.n S.bits.n)) gr 26 [.int .i64 D.top, .slice (some ⟨x1.heap.size, 0, none⟩) S.bits.n S.bits.n] := (KR2.out.set 0 _ (by simp [maxLen])).set 1 _ (by simp [maxLen])
  have BF : Below w.heap.size w ((x2.setCell ⟨gr, 0, none⟩ (.int .i64 D.top)).setCell ⟨gr, 1, none⟩ (.slice (some ⟨x1.heap.size, 0, none⟩) S.bits.n S.bits.n)) := (B2.out.setCell (by show _ ≤ gr; have := HGS.out; omega) _).setCell (by show _ ≤ gr; have := HGS.out; omega) _
  have KF2 : Kept gr (gr + 1) x2 ((x2.setCell ⟨gr, 0, none⟩ (.int .i64 D.top)).setCell ⟨gr, 1, none⟩ (.slice (some ⟨x1.heap.size, 0, none⟩) S.bits.n S.bits.n)) := (Kept.setCell _ _ _ _).trans (Kept.setCell _ _ _ _)
  have Fbits := (Obits.out.carry KS2.out (.inr LObits.out)).carry KF2 (.inr (Nat.le_trans (by have := HGS.out; omega) LObits.out))
  have ST : Hid (w.heap.size ≤ x1.heap.size ∧ y1.heap.size ≤ ((x2.setCell ⟨gr, 0, none⟩ (.int .i64 D.top)).setCell ⟨gr, 1, none⟩ (.slice (some ⟨x1.heap.size, 0, none⟩) S.bits.n S.bits.n)).heap.size) := by
    have s0 := KS1.out.size; have s1 := KP1.out.size; have s2 := KS2.out.size; have sf := KF2.size; have lbits := LTbits.out; have hg := HGS.out; have z0 := Z0.out
    exact ⟨by omega, by omega⟩
  exact bodyPost_ret (v := wnV D ⟨⟨some ⟨x1.heap.size, 0, none⟩, S.bits.n, S.bits.n⟩⟩) (res1 rfl (is_cell rfl KF aggWn)) rfl ⟨⟨⟨some ⟨x1.heap.size, 0, none⟩, S.bits.n, S.bits.n⟩⟩, rfl, ⟨Fbits.mono ST.out.1 ST.out.2, ⟨⟩⟩, BF⟩

set_option maxRecDepth 100000 in
set_option maxHeartbeats 4000000 in
theorem eqWin (S S' : WnS) (D : WnD) (w : World) (h : WnRd w S D) (h' : WnRd w S' D) (hl : WnShort D 4194304) :
    Calls Try.prog 79 #[wnV D S, wnV D S'] w fun e w' => e = .returned (.bool true) ∧ Below w.heap.size w w' := by
  have HR : Hid (WnRd w S D) := h
  have HQ : Hid (WnRd w S' D) := h'
  have HL : Hid (WnShort D 4194304) := hl
  obtain ⟨x0, hx0⟩ : ∃ x0, (w.alloc (.cells #[.int .i64 D.top, .slice S.bits.a S.bits.n S.bits.c] 26)).alloc (.cells #[.int .i64 D.top, .slice S'.bits.a S'.bits.n S'.bits.c] 26) = x0 := ⟨_, rfl⟩
  have HW0 : Hid ((w.alloc (.cells #[.int .i64 D.top, .slice S.bits.a S.bits.n S.bits.c] 26)).alloc (.cells #[.int .i64 D.top, .slice S'.bits.a S'.bits.n S'.bits.c] 26) = x0) := hx0
  have B0 : Hid (Below w.heap.size w x0) := by rw [← hx0]; exact ((Below.refl _ _).alloc (Nat.le_refl _) _).alloc (by simp) _
  have KA0 : Hid (Blk x0 w.heap.size 26 [.int .i64 D.top, .slice S.bits.a S.bits.n S.bits.c]) := by rw [← hx0]; exact (Blk.new w _ _).alloc _
  have KB0 : Hid (Blk x0 (w.heap.size + 1) 26 [.int .i64 D.top, .slice S'.bits.a S'.bits.n S'.bits.c]) := by
    have := Blk.new (w.alloc (.cells #[.int .i64 D.top, .slice S.bits.a S.bits.n S.bits.c] 26)) 26 [.int .i64 D.top, .slice S'.bits.a S'.bits.n S'.bits.c]
    rw [World.size_alloc] at this
    rw [← hx0]; exact this
  clear h h' hl hx0
  unfold wnV
  go_enter Try.func79, Try.ntmps79
  go_upto_region 1 with fail
  rw [HW0.out]
  generalize w.heap.size + 1 = gb at *
  obtain ⟨ga, hga⟩ : ∃ ga, w.heap.size = ga := ⟨_, rfl⟩
  have HGA : Hid (w.heap.size = ga) := hga
  rw [hga] at KA0
  rw [hga]
  clear HW0 hga
  have ca0 := KA0.out.cell 0 rfl
  have cb0 := KB0.out.cell 0 rfl
  have ca1 := KA0.out.cell 1 rfl
  have cb1 := KB0.out.cell 1 rfl
  go_wp2_with fail
  refine (eqI S.bits S'.bits D.bits D.bits x0 (HR.out.bits.later B0.out) (HQ.out.bits.later B0.out) HL.out.bits HL.out.bits).mono ?_
  rw [decide_eq_true (show D.bits = D.bits from rfl)]
  rintro e x1 ⟨rfl, b⟩
  have KA1 : Hid (Blk x1 ga 26 [.int .i64 D.top, .slice S.bits.a S.bits.n S.bits.c]) := KA0.out.later b
  have KB1 : Hid (Blk x1 gb 26 [.int .i64 D.top, .slice S'.bits.a S'.bits.n S'.bits.c]) := KB0.out.later b
  have B1 : Hid (Below w.heap.size w x1) := B0.out.trans (b.mono B0.out.size)
  clear b KA0 KB0 B0 ca0 cb0 ca1 cb1
  go_wp2
  go_ret
  exact ⟨rfl, B1.out⟩
/-- The lists marked, one behind the other. -/
def wnMarks (k : Int) (S : WnS) (D : WnD) : WnD := { D with bits := imarks k S.bits.n }
def wnSum (S : WnS) : Nat := S.bits.n

set_option maxRecDepth 100000 in
set_option maxHeartbeats 4000000 in
theorem markWin (S : WnS) (D : WnD) (k : Int) (w : World) (lo hi : Nat) (h : WnOwn w lo hi S D) (hh : hi ≤ w.heap.size) (k0 : 0 ≤ k) (k1 : k + wnSum S ≤ 4194304) :
    Calls Try.prog 80 #[wnV D S, .int .i64 k] w fun e w' => e = .returned (.int .i64 (k + wnSum S)) ∧ WnOwn w' lo hi S (wnMarks k S D) ∧ Kept lo hi w w' := by
  have HA : Hid (WnApart S) := h.apart
  obtain ⟨x0, hx0⟩ : ∃ x0, w.alloc (.cells #[.int .i64 D.top, .slice S.bits.a S.bits.n S.bits.c] 26) = x0 := ⟨_, rfl⟩
  have HW0 : Hid (w.alloc (.cells #[.int .i64 D.top, .slice S.bits.a S.bits.n S.bits.c] 26) = x0) := hx0
  have b0 : Below w.heap.size w x0 := by rw [← hx0]; exact (Below.refl _ _).alloc (Nat.le_refl _) _
  have Q0 : Hid (Kept lo hi w x0) := (Kept.of_below b0 0).any
  have KA0 : Hid (Blk x0 w.heap.size 26 [.int .i64 D.top, .slice S.bits.a S.bits.n S.bits.c]) := by rw [← hx0]; exact Blk.new w _ _
  have Obits0 : Hid (ISOwn x0 lo hi S.bits D.bits) := h.bits.carry (Kept.of_below b0 hi) (.inl (Nat.le_refl _))
  have HZ : Hid (w.heap.size < x0.heap.size) := KA0.out.lt
  have HS : Hid (wnSum S = S.bits.n) := rfl
  have k1' : k + (S.bits.n : Int) ≤ 4194304 := by have := HS.out; omega
  have HE : Hid (k + (wnSum S : Int) = (k + (S.bits.n : Int))) := by have := HS.out; show _ = _; omega
  rw [HE.out]
  clear h hx0 b0 k1
  unfold wnV
  go_enter Try.func80, Try.ntmps80
  go_upto_region 1 with fail
  rw [HW0.out]
  obtain ⟨ga, hga⟩ : ∃ ga, w.heap.size = ga := ⟨_, rfl⟩
  have HGA : Hid (hi ≤ ga) := by show hi ≤ ga; omega
  rw [hga] at KA0
  rw [hga]
  clear HW0 hga
  have ca := KA0.out.cell 1 rfl
  go_wp2_with fail
  refine (markI S.bits D.bits k x0 lo hi Obits0.out (by rw [← Obits0.out.len]; omega) (by omega) (by omega)).mono ?_
  rintro e x1 ⟨rfl, o, kp⟩
  have KA1 : Hid (Blk x1 ga 26 [.int .i64 D.top, .slice S.bits.a S.bits.n S.bits.c]) := KA0.out.keep (kp.block ga KA0.out.lt (.inr HGA.out))
  have Q1 : Hid (Kept lo hi w x1) := Q0.out.trans kp
  have Obits1 : Hid (ISOwn x1 lo hi S.bits (imarks k S.bits.n)) := o
  clear o kp ca KA0 Q0 Obits0
  go_wp2
  go_ret
  exact ⟨rfl, ⟨Obits1.out, HA.out⟩, Q1.out⟩

set_option maxRecDepth 100000 in
set_option maxHeartbeats 4000000 in
theorem heldWin (S : WnS) (D : WnD) (k : Int) (w : World) (h : WnRd w S (wnMarks k S D)) (k0 : 0 ≤ k) (k1 : k + wnSum S ≤ 4194304) :
    Calls Try.prog 81 #[wnV D S, .int .i64 k] w fun e w' => e = .returned (.int .i64 (k + wnSum S)) ∧ Below w.heap.size w w' := by
  have HR : Hid (WnRd w S (wnMarks k S D)) := h
  obtain ⟨x0, hx0⟩ : ∃ x0, w.alloc (.cells #[.int .i64 D.top, .slice S.bits.a S.bits.n S.bits.c] 26) = x0 := ⟨_, rfl⟩
  have HW0 : Hid (w.alloc (.cells #[.int .i64 D.top, .slice S.bits.a S.bits.n S.bits.c] 26) = x0) := hx0
  have B0 : Hid (Below w.heap.size w x0) := by rw [← hx0]; exact (Below.refl _ _).alloc (Nat.le_refl _) _
  have KA0 : Hid (Blk x0 w.heap.size 26 [.int .i64 D.top, .slice S.bits.a S.bits.n S.bits.c]) := by rw [← hx0]; exact Blk.new w _ _
  have HS : Hid (wnSum S = S.bits.n) := rfl
  have k1' : k + (S.bits.n : Int) ≤ 4194304 := by have := HS.out; omega
  have HE : Hid (k + (wnSum S : Int) = (k + (S.bits.n : Int))) := by have := HS.out; show _ = _; omega
  rw [HE.out]
  clear h hx0 k1
  unfold wnV
  go_enter Try.func81, Try.ntmps81
  go_upto_region 1 with fail
  rw [HW0.out]
  generalize w.heap.size = ga at KA0 ⊢
  clear HW0
  have ca := KA0.out.cell 1 rfl
  go_wp2_with fail
  refine (heldI S.bits k x0 (HR.out.bits.later B0.out) (by omega) (by omega) (by omega)).mono ?_
  rintro e x1 ⟨rfl, rfl⟩
  have kn0 : ¬ ((k + (S.bits.n : Int)) < 0) := by omega
  clear ca
  go_wp2
  go_ret
  exact ⟨rfl, B0.out⟩
/-- All slices are of a length that there is. -/
structure WnSmall (S : WnS) : Prop where
  bits : S.bits.n ≤ 9223372036854775807

set_option maxRecDepth 100000 in
set_option maxHeartbeats 4000000 in
theorem szWin (S : WnS) (D : WnD) (k : Int) (w : World) (h : WnSmall S) (k0 : 0 ≤ k) (k1 : k ≤ 4194304) :
    Calls Try.prog 82 #[wnV D S, .int .i64 k] w fun e w' => e = .returned (.int .i64 (if k - wnSum S < 0 then -1 else k - wnSum S)) ∧ Below w.heap.size w w' := by
  obtain ⟨x0, hx0⟩ : ∃ x0, w.alloc (.cells #[.int .i64 D.top, .slice S.bits.a S.bits.n S.bits.c] 59) = x0 := ⟨_, rfl⟩
  have HW0 : Hid (w.alloc (.cells #[.int .i64 D.top, .slice S.bits.a S.bits.n S.bits.c] 59) = x0) := hx0
  have B0 : Hid (Below w.heap.size w x0) := by rw [← hx0]; exact (Below.refl _ _).alloc (Nat.le_refl _) _
  have KA0 : Hid (Blk x0 w.heap.size 59 [.int .i64 D.top, .slice S.bits.a S.bits.n S.bits.c]) := by rw [← hx0]; exact Blk.new w _ _
  have HS : Hid (wnSum S = S.bits.n) := rfl
  have HM : Hid (WnSmall S) := h
  obtain ⟨v, hv⟩ : ∃ v, (if k - (wnSum S : Int) < 0 then -1 else k - (wnSum S : Int)) = v := ⟨_, rfl⟩
  have HV : Hid ((if k - (wnSum S : Int) < 0 then -1 else k - (wnSum S : Int)) = v) := hv
  rw [hv]
  clear h hx0 hv
  unfold wnV
  go_enter Try.func82, Try.ntmps82
  go_upto_region 1 with fail
  rw [HW0.out]
  generalize w.heap.size = ga at KA0 ⊢
  clear HW0
  have ca := KA0.out.cell 1 rfl
  go_wp2_with fail
  refine (szI S.bits (k) x0 HM.out.bits (by omega) (by omega)).mono ?_
  rintro e x1 ⟨rfl, rfl⟩
  clear ca
  by_cases c0 : k - (S.bits.n : Int) < 0
  · obtain rfl : v = -1 := by rw [← HV.out]; exact if_pos (by have := HS.out; omega)
    rw [if_pos c0]
    go_wp2
    go_ret
    exact ⟨rfl, B0.out⟩
  · rw [if_neg c0]
    obtain rfl : v = k - (S.bits.n : Int) := by have := HS.out; rw [← HV.out, if_neg (by omega)]; omega
    go_wp2
    go_ret
    exact ⟨rfl, B0.out⟩
end Go.Proofs.Ytmcflfpckpjphaa.WnZ

namespace Go.Proofs.Ytmcflfpckpjphaa.Each
open Go.RowKit

/-- A list whose places D, counted from i on, are told by t, all others as in l. -/
def frL (D : List Nat) (t : Nat → Value) : Nat → List Value → List Value
  | _, [] => []
  | i, v :: r => (if D.contains i then t i else v) :: frL D t (i + 1) r
/-- A frame whose temporaries D are told by t, all others as in a. -/
def fr (D : List Nat) (a : Act) (t : Nat → Value) : Act := { tmps := (frL D t 0 a.tmps.toList).toArray, defers := a.defers }
set_option maxRecDepth 100000 in
theorem frL_at (D : List Nat) (t : Nat → Value) (l : List Value) : ∀ i k, (frL D t i l)[k]? = (l[k]?).map (fun v => if D.contains (i + k) then t (i + k) else v) := by
  induction l with
  | nil => intro i k; simp [frL]
  | cons v r ih =>
    intro i k
    cases k with
    | zero => simp [frL]
    | succ k =>
      have := ih (i + 1) k
      rw [show i + 1 + k = i + (k + 1) by omega] at this
      simpa [frL] using this
set_option maxRecDepth 100000 in
theorem fr_eq (D : List Nat) (a : Act) (t : Nat → Value) : fr D a t = { tmps := a.tmps.mapIdx (fun i v => if D.contains i then t i else v), defers := a.defers } := by
  unfold fr
  congr 1
  apply Array.ext_getElem?
  intro k
  rw [Array.getElem?_mapIdx, List.getElem?_toArray, frL_at, Nat.zero_add, Array.getElem?_toList]
def upd (t : Nat → Value) (d : Nat) (v : Value) : Nat → Value := fun i => if i = d then v else t i
set_option maxRecDepth 100000 in
theorem upd_same (t : Nat → Value) (d : Nat) (v : Value) : upd t d v d = v := by simp [upd]
set_option maxRecDepth 100000 in
theorem upd_other (t : Nat → Value) (d : Nat) (v : Value) (i : Nat) (h : i ≠ d) : upd t d v i = t i := by simp [upd, h]
set_option maxRecDepth 100000 in
theorem fr_start (D : List Nat) (a : Act) : fr D a (fun i => a.tmps.getD i undef) = a := by
  cases a with | mk tmps defers =>
  rw [fr_eq]
  congr 1
  apply Array.ext
  · simp
  · intro i h1 h2
    simp at h1
    simp [h2]
set_option maxRecDepth 100000 in
theorem fr_put (D : List Nat) (a : Act) (t : Nat → Value) (d : Nat) (v : Value) (hd : D.contains d = true) : (fr D a t).put (some d) v = fr D a (upd t d v) := by
  rw [fr_eq, fr_eq]
  simp only [Act.put]
  congr 1
  apply Array.ext
  · simp
  · intro i h1 h2
    simp only [Array.size_setIfInBounds, Array.size_mapIdx] at h1
    rw [Array.getElem_setIfInBounds (by simpa using h1)]
    by_cases hid : d = i
    · subst hid
      simp only [if_true, Array.getElem_mapIdx, hd, upd_same]
    · simp only [hid, if_false, Array.getElem_mapIdx]
      split
      · rw [upd_other _ _ _ _ (Ne.symm hid)]
      · rfl
set_option maxRecDepth 100000 in
theorem fr_eval (D : List Nat) (a : Act) (t : Nat → Value) (d : Nat) (hd : D.contains d = true) (hl : d < a.tmps.size) : (fr D a t).eval (.tmp d) = t d := by
  have hd' : d ∈ D := by simpa using hd
  rw [fr_eq]
  simp [Act.eval, Array.getD, hl, hd']
set_option maxRecDepth 100000 in
theorem fr_eval_old (D : List Nat) (a : Act) (t : Nat → Value) (d : Nat) (hd : D.contains d = false) : (fr D a t).eval (.tmp d) = a.eval (.tmp d) := by
  have hd' : ¬ d ∈ D := by simpa using hd
  rw [fr_eq]
  by_cases hl : d < a.tmps.size
  · simp [Act.eval, Array.getD, hl, hd']
  · simp [Act.eval, Array.getD, hl]

/-- Those that operation i waits for. -/
def pre (ops : Array Oper) (i : Nat) : List Nat := match ops[i]? with
  | some o => (o.after.toList.filter (Region.binds .any)).map (·.on)
  | none => []
set_option maxRecDepth 100000 in
theorem mem_pre {ops : Array Oper} {i : Nat} {o : Oper} (h : ops[i]? = some o) {j : Nat} : j ∈ pre ops i ↔ ∃ e ∈ o.after, Region.binds .any e = true ∧ e.on = j := by
  unfold pre
  rw [h]
  simp only [List.mem_map, List.mem_filter, Array.mem_toList_iff]
  constructor
  · rintro ⟨e, ⟨h1, h2⟩, h3⟩; exact ⟨e, h1, h2, h3⟩
  · rintro ⟨e, h1, h2, h3⟩; exact ⟨e, ⟨h1, h2⟩, h3⟩

set_option maxRecDepth 100000 in
theorem pre_mem {ops : Array Oper} {i j : Nat} (h : (pre ops i).contains j = true) : j ∈ pre ops i := by simpa using h

/-- Who waits waits for one ahead; all ahead of the last are waited for; where they leave what they leave lies apart. -/
def fitB (ops : Array Oper) (last : Nat) (D : List Nat) (dst : Nat → Nat) : Bool :=
  ops.size == last + 1 &&
  (List.range (last + 1)).all (fun i => (pre ops i).all (fun j => decide (j < i))) &&
  (List.range last).all (fun j => (List.range (last + 1)).any (fun k => decide (j < k) && (pre ops k).contains j)) &&
  (List.range last).all (fun i => D.contains (dst i) && (List.range last).all (fun j => i == j || dst i != dst j))

set_option maxRecDepth 100000 in
theorem region_each {P : Program} {ops : Array Oper} {Q : Exit → Act → World → Prop} {id : Nat} {a0 : Act} {w0 : World}
    (hm : P.follows .mixedOrders = true) (D : List Nat) (last : Nat) (dst : Nat → Nat) (cls : Nat → Nat)
    (F : Nat → Nat → Value → World → Prop) (B : World → Prop) (hfit : fitB ops last D dst = true)
    (hB : B w0.drew)
    (hkeep : ∀ i g v w w', i < last → F i g v w → Below w.heap.size w w' → B w' → F i g v w')
    (hstep : ∀ i, i < last → ∀ (t : Nat → Value) (ρ : Nat → Nat) (w : World), B w → (∀ j ∈ pre ops i, F j (ρ j) (t (dst j)) w) → (∀ x y, x ∈ pre ops i → y ∈ pre ops i → cls x ≠ 0 → cls y ≠ 0 → cls x ≠ cls y → ρ x ≠ ρ y) →
      wpOp P ops Q i (fun a' w' => ∃ v g, a' = (fr D a0 t).put (some (dst i)) v ∧ B w' ∧ Below w.heap.size w w' ∧ F i g v w' ∧ (cls i = 0 ∨ g < w'.heap.size ∧ (w.heap.size ≤ g ∨ ∃ j ∈ pre ops i, cls j = cls i ∧ g = ρ j))) (fr D a0 t) w)
    (hlast : ∀ (t : Nat → Value) (ρ : Nat → Nat) (w : World), B w → (∀ j, j < last → F j (ρ j) (t (dst j)) w) →
      (∀ i j, i < last → j < last → cls i ≠ 0 → cls j ≠ 0 → cls i ≠ cls j → ρ i ≠ ρ j) →
      wpOp P ops Q last (fun a' w' => Q .normal a' w') (fr D a0 t) w) :
    (Code.region id ops true).wp P Q a0 w0 := by
  unfold fitB at hfit
  simp only [Bool.and_eq_true, beq_iff_eq, List.all_eq_true, List.mem_range, decide_eq_true_eq, List.any_eq_true, Bool.or_eq_true, bne_iff_ne, ne_eq] at hfit
  obtain ⟨⟨⟨hsz, hord⟩, hcov⟩, hdst⟩ := hfit
  have main : ∀ (fuel : Nat) (listed : Array Bool) (a : Act) (w : World), listed.size = ops.size → listed.getD last true = false → listed.toList.count false ≤ fuel →
      (∀ i, i < last + 1 → listed.getD i true = true → ∀ j ∈ pre ops i, listed.getD j true = true) →
      (∃ (t : Nat → Value) (ρ : Nat → Nat), a = fr D a0 t ∧ B w ∧ (∀ i, i < last → listed.getD i true = true → F i (ρ i) (t (dst i)) w ∧ (cls i = 0 ∨ ρ i < w.heap.size)) ∧
        (∀ i j, i < last → j < last → listed.getD i true = true → listed.getD j true = true → cls i ≠ 0 → cls j ≠ 0 → cls i ≠ cls j → ρ i ≠ ρ j)) →
      wpAny P .any ops Q fuel listed a w := by
    intro fuel
    induction fuel with
    | zero =>
      intro listed a w hls hl hc _ _
      exfalso
      have hlt : last < listed.size := by omega
      have : false ∈ listed.toList := by
        rw [Array.mem_toList_iff]
        have : listed[last] = false := by simpa [Array.getD, hlt] using hl
        rw [← this]; exact Array.getElem_mem hlt
      have := List.count_pos_iff.2 this
      omega
    | succ fuel ih =>
      intro listed a w hls hl hc hcl ⟨t, ρ, ha, hBw, hF, hne⟩
      have hop : ∀ i, i < last + 1 → ∃ o, ops[i]? = some o := fun i hi => ⟨ops[i]'(by omega), by simp⟩
      refine ⟨fun h0 => ?_, fun i hi => ?_⟩
      · exfalso
        -- the least that is not listed may come up
        have : ∃ i, i < last + 1 ∧ listed.getD i true = false ∧ ∀ j, j < i → listed.getD j true = true := by
          have aux : ∀ m, m ≤ last + 1 → (∀ j, j < m → listed.getD j true = true) ∨ ∃ i, i < m ∧ listed.getD i true = false ∧ ∀ j, j < i → listed.getD j true = true := by
            intro m
            induction m with
            | zero => intro _; exact .inl fun j hj => by omega
            | succ m ihm =>
              intro hm1
              rcases ihm (by omega) with h | ⟨i, h1, h2, h3⟩
              · cases hv : listed.getD m true with
                | false => exact .inr ⟨m, by omega, hv, h⟩
                | true =>
                  left; intro j hj
                  rcases Nat.lt_or_ge j m with h' | h'
                  · exact h j h'
                  · obtain rfl : j = m := by omega
                    exact hv
              · exact .inr ⟨i, by omega, h2, h3⟩
          rcases aux (last + 1) (Nat.le_refl _) with h | h
          · have := h last (by omega); rw [hl] at this; cases this
          · exact h
        obtain ⟨i, hi, hu, hb⟩ := this
        obtain ⟨o, ho⟩ := hop i hi
        have : i ∈ Region.ready .any ops listed := mem_ready.2 ⟨hu, o, ho, fun e he hbi => by
          have hj := hord i hi e.on ((mem_pre ho).2 ⟨e, he, hbi, rfl⟩)
          have := hb e.on hj
          have hlt : e.on < listed.size := by omega
          simpa [Array.getD, hlt] using this⟩
        rw [h0] at this; cases this
      · obtain ⟨hu, o, ho, hpre⟩ := mem_ready.1 hi
        have hil : i < last + 1 := by
          have := (Array.getElem?_eq_some_iff.1 ho).1; omega
        have hpre' : ∀ j ∈ pre ops i, listed.getD j true = true := fun j hj => by
          obtain ⟨e, he, hbi, rfl⟩ := (mem_pre ho).1 hj
          have h1 := hpre e he hbi
          have hlt : e.on < listed.size := by
            have := hord i hil e.on hj; omega
          simpa [Array.getD, hlt] using h1
        have hset : ∀ j, (listed.setIfInBounds i true).getD j true = true ↔ j = i ∨ listed.getD j true = true := fun j => by
          by_cases hji : j = i
          · subst hji
            have hlt : j < listed.size := by omega
            simp [Array.getD, hlt]
          · simp only [hji, false_or]
            rw [getD_set_ne true (Ne.symm hji)]
        by_cases hlast' : i = last
        · subst hlast'
          have hall : ∀ d j, j + d = i → j < i → listed.getD j true = true := by
            intro d
            induction d using Nat.strongRecOn with
            | ind d ihd =>
              intro j hjd hji
              obtain ⟨k, hk, hjk, hmem⟩ := hcov j hji
              have hmem' : j ∈ pre ops k := by simpa using hmem
              by_cases hki : k = i
              · subst hki; exact hpre' j hmem'
              · exact hcl k hk (ihd (i - k) (by omega) k (by omega) (by omega)) j hmem'
          have hl2 := hlast t ρ w hBw (fun j hj => (hF j hj (hall (i - j) j (by omega) hj)).1) (fun x y hx hy => hne x y hx hy (hall (i - x) x (by omega) hx) (hall (i - y) y (by omega) hy))
          rw [ha]
          refine wpOp_mono (fun a' w' hQ => wpAny_done ?_ hQ fuel) hl2
          apply List.eq_nil_iff_forall_not_mem.2
          intro k hk
          obtain ⟨hku, ok, hok, _⟩ := mem_ready.1 hk
          have hkl : k < i + 1 := by have := (Array.getElem?_eq_some_iff.1 hok).1; omega
          have : (listed.setIfInBounds i true).getD k true = true := (hset k).2 (by
            by_cases hki : k = i
            · exact .inl hki
            · exact .inr (hall (i - k) k (by omega) (by omega)))
          rw [hku] at this; cases this
        · have hilt : i < last := by omega
          have hs := hstep i hilt t ρ w hBw (fun j hj => (hF j (by have := hord i hil j hj; omega) (hpre' j hj)).1) (fun x y hx hy => hne x y (by have := hord i hil x hx; omega) (by have := hord i hil y hy; omega) (hpre' x hx) (hpre' y hy))
          rw [ha]
          refine wpOp_mono (fun a' w' h => ?_) hs
          obtain ⟨v, g, rfl, hB', hbe, hFi, hg⟩ := h
          rw [fr_put D a0 t (dst i) v (hdst i hilt).1]
          apply ih
          · simp [hls]
          · cases hx : (listed.setIfInBounds i true).getD last true with
            | false => rfl
            | true =>
              rcases (hset last).1 hx with h | h
              · exact absurd h.symm hlast'
              · rw [hl] at h; cases h
          · have hlt : i < listed.toList.length := by simp; omega
            have hfi : listed.toList[i] = false := by
              have hlt' : i < listed.size := by omega
              simpa [Array.getD, hlt'] using hu
            rw [Array.toList_setIfInBounds, List.count_set hlt, hfi]
            have : 0 < listed.toList.count false := List.count_pos_iff.2 (by rw [← hfi]; exact List.getElem_mem hlt)
            rw [if_pos (by rfl), if_neg (by decide)]
            omega
          · intro k hk hkl j hj
            rcases (hset k).1 hkl with rfl | h
            · exact (hset j).2 (.inr (hpre' j hj))
            · exact (hset j).2 (.inr (hcl k hk h j hj))
          · refine ⟨upd t (dst i) v, fun k => if k = i then g else ρ k, rfl, hB', ?_, ?_⟩
            · intro k hk hkl
              by_cases hki : k = i
              · subst hki
                simp only [if_true, upd_same]
                exact ⟨hFi, hg.imp (fun h => h) And.left⟩
              · have hdk : dst k ≠ dst i := by
                  have := (hdst k hk).2 i hilt
                  rcases this with h | h
                  · exact absurd h hki
                  · exact h
                have := hF k hk (((hset k).1 hkl).resolve_left hki)
                simp only [hki, if_false, upd_other _ _ _ _ hdk]
                exact ⟨hkeep k _ _ w w' hk this.1 hbe hB', this.2.imp (fun h => h) (fun h => Nat.lt_of_lt_of_le h hbe.size)⟩
            · intro x y hx hy hxl hyl cx cy cxy
              have key : ∀ y, y < last → y ≠ i → (listed.setIfInBounds i true).getD y true = true → cls i ≠ 0 → cls y ≠ 0 → cls i ≠ cls y → g ≠ ρ y := by
                intro y hy hyi hyl ci cy ciy
                have hyl' := ((hset y).1 hyl).resolve_left hyi
                rcases hg with h | ⟨_, h | ⟨j, hj, hcj, rfl⟩⟩
                · exact absurd h ci
                · have := (hF y hy hyl').2
                  rcases this with h' | h'
                  · exact absurd h' cy
                  · omega
                · have hjl : j < last := by have := hord i hil j hj; omega
                  exact hne j y hjl hy (hpre' j hj) hyl' (by rw [hcj]; exact ci) cy (by rw [hcj]; exact ciy)
              by_cases hxi : x = i
              · subst hxi
                have hyx : y ≠ x := fun h => cxy (by rw [h])
                simp only [if_true, hyx, if_false]
                exact key y hy hyx hyl cx cy cxy
              · by_cases hyi : y = i
                · subst hyi
                  simp only [if_true, hxi, if_false]
                  exact Ne.symm (key x hx hxi hxl cy cx (Ne.symm cxy))
                · simp only [hxi, hyi, if_false]
                  exact hne x y hx hy (((hset x).1 hxl).resolve_left hxi) (((hset y).1 hyl).resolve_left hyi) cx cy cxy
  refine wp_region_any hm ?_
  have hrep : ∀ i, i < last + 1 → (Array.replicate ops.size false).getD i true = false := fun i hi => by
    have : i < ops.size := by omega
    simp [Array.getD, this]
  refine main ops.size (Array.replicate ops.size false) a0 w0.drew (by simp) (hrep last (by omega)) (by simp) (fun i hi h => by rw [hrep i hi] at h; cases h) ?_
  exact ⟨_, fun _ => 0, (fr_start D a0).symm, hB, (fun i hi h => by rw [hrep i (by omega)] at h; cases h), (fun i j hi _ h => by rw [hrep i (by omega)] at h; cases h)⟩
end Go.Proofs.Ytmcflfpckpjphaa.Each

namespace Go.Proofs.Ytmcflfpckpjphaa.Copy
open Go.RowKit Go.Proofs.Ytmcflfpckpjphaa.Mem Go.Proofs.Ytmcflfpckpjphaa.MemI Go.Proofs.Ytmcflfpckpjphaa.App Go.Proofs.Ytmcflfpckpjphaa.Blk Go.Proofs.Ytmcflfpckpjphaa.Each

set_option maxRecDepth 100000 in
set_option maxHeartbeats 400000 in
theorem op_wp {P : Program} {ops : Array Oper} {Q : Exit → Act → World → Prop} {i : Nat} {o : Oper} {K : Act → World → Prop} {a : Act} {w : World}
    (hi : ops[i]? = some o) (hg : o.guard = none) (h : Oper.wp P o a w K Q) : wpOp P ops Q i K a w := by
  unfold wpOp
  rw [hi]
  have hw : Region.wanted o (yielded ops a.tmps) = true := by simp [Region.wanted, hg]
  simp only [hw, if_true]
  exact .inl h
set_option maxRecDepth 100000 in
set_option maxHeartbeats 400000 in
theorem op_run {P : Program} {ops : Array Oper} {Q : Exit → Act → World → Prop} {i : Nat} {o : Oper} {K : Act → World → Prop} {a : Act} {w w' : World} {v : Value}
    (hi : ops[i]? = some o) (hg : o.guard = none) (hr : (execOp a.eval o).run P w = .ok (.value v) w') (hk : K (a.put o.dst v) w') : wpOp P ops Q i K a w := by
  refine op_wp hi hg ?_
  unfold Oper.wp
  rw [hr]
  exact hk

set_option maxRecDepth 100000 in
set_option maxHeartbeats 400000 in
theorem grown_none_below {w w' : World} (h : w.grownBy w' none) : Below w.heap.size w w' :=
  (Below.refl _ _).grown h (Nat.le_refl _) (fun k e => by cases e)

set_option maxRecDepth 100000 in
set_option maxHeartbeats 400000 in
theorem op_copy {ops : Array Oper} {Q : Exit → Act → World → Prop} {i : Nat} {o : Oper} {K : Act → World → Prop} {a : Act} {w : World}
    (hi : ops[i]? = some o) (hgd : o.guard = none) (s x : Operand) (hop : o.op = .call { callee := .builtin .append, args := #[s, x], argTypes := #[22, 22] })
    (g : Nat) (hs : a.eval s = .slice (some ⟨g, 0, none⟩) 0 0) (hrow : Row w g 0 [])
    (ao : Option Addr) (m c : Nat) (y : List Int) (hx : a.eval x = .slice ao m c) (hm : m = y.length) (hrd : Rd w ao y) (hnone : ao = none → c = 0) (hsum : y.length ≤ 100000000)
    (hK : ∀ g' cap' w', Row w' g' cap' y → g' < w'.heap.size → (w.heap.size ≤ g' ∨ g' = g) → Below w.heap.size w w' → K (a.put o.dst (.slice (some ⟨g', 0, none⟩) m cap')) w') : wpOp Try.prog ops Q i K a w := by
  obtain ⟨i0, h2, hz0, hz1, hz2⟩ := info_parts info8
  refine op_wp hi hgd ?_
  have hw : Region.wanted o (yielded ops a.tmps) = true := by simp [Region.wanted, hgd]
  cases y with
  | nil =>
    have hm0 : m = 0 := hm
    subst hm0
    have hK' := hK g 0 w hrow hrow.lt (.inr rfl) (Below.refl _ _)
    cases ao with
    | none =>
      have hc0 := hnone rfl
      subst hc0

      unfold Oper.wp
      simp [execOp, hop, resolve, invoke, builtin, hs, hx, Result.andThen]
      exact hK'
    | some ad =>
      have h := step_append_room (P := Try.prog) (ops := ops) (o := o) (a := a) (w := w) (K := K) (Q := Q) (E := True) hgd s x 22 hop 5 i0 1 Try.underlying22 h2 hz1 g 0 0 0 hs ad 0 c [] hx rfl (by intro j u hu; simp at hu) (by simp) (by simp) (by intro j hj; simp at hj) hK'
      rw [if_pos hw] at h
      exact h
  | cons z r =>
    cases ao with
    | none => obtain ⟨_, _, e, _⟩ := hrd 0 (by simp); cases e
    | some ad =>
      have h := step_append_grows (P := Try.prog) (ops := ops) (o := o) (a := a) (w := w) (K := K) (Q := Q) (E := True) hgd s x 22 hop 5 i0 (.int .u8 0) 1 1 Try.underlying22 h2 hz0 hz1 hz2 rfl (by decide) (some ⟨g, 0, none⟩) 0 0 [] hs (by intro e; cases e) rfl (by intro b _ j u hu; simp at hu) ad m c ((z :: r).map (Value.int .u8)) hx (by simp [hm]) (Rd.cells hrd) (ints_oneCell _ _) (by rw [hm]; simp) (by rw [hm]; unfold maxLen; omega) (by rw [hm]; omega) (by
        intro v' w' hown hgr
        rw [List.nil_append, Nat.zero_add] at hown
        rcases hown.2 with ⟨hv, h0⟩ | ⟨g', cap', cur, rfl, hb, hg', _⟩
        · rw [hm] at h0; simp at h0
        · obtain ⟨r1, r2, _, r4⟩ := Row.of hown
          exact hK g' cap' w' r1 r4 (.inl r2) (grown_none_below hgr))
      rw [if_pos hw] at h
      exact h
set_option maxRecDepth 100000 in
set_option maxHeartbeats 400000 in
theorem op_icopy {ops : Array Oper} {Q : Exit → Act → World → Prop} {i : Nat} {o : Oper} {K : Act → World → Prop} {a : Act} {w : World}
    (hi : ops[i]? = some o) (hgd : o.guard = none) (s x : Operand) (hop : o.op = .call { callee := .builtin .append, args := #[s, x], argTypes := #[24, 24] })
    (g : Nat) (hs : a.eval s = .slice (some ⟨g, 0, none⟩) 0 0) (hrow : IRow w g 0 [])
    (ao : Option Addr) (m c : Nat) (y : List Int) (hx : a.eval x = .slice ao m c) (hm : m = y.length) (hrd : IRd w ao y) (hnone : ao = none → c = 0) (hsum : y.length ≤ 10000000)
    (hK : ∀ g' cap' w', IRow w' g' cap' y → g' < w'.heap.size → (w.heap.size ≤ g' ∨ g' = g) → Below w.heap.size w w' → K (a.put o.dst (.slice (some ⟨g', 0, none⟩) m cap')) w') : wpOp Try.prog ops Q i K a w := by
  obtain ⟨i0, h2, hz0, hz1, hz2⟩ := info_parts info64
  refine op_wp hi hgd ?_
  have hw : Region.wanted o (yielded ops a.tmps) = true := by simp [Region.wanted, hgd]
  cases y with
  | nil =>
    have hm0 : m = 0 := hm
    subst hm0
    have hK' := hK g 0 w hrow hrow.lt (.inr rfl) (Below.refl _ _)
    cases ao with
    | none =>
      have hc0 := hnone rfl
      subst hc0

      unfold Oper.wp
      simp [execOp, hop, resolve, invoke, builtin, hs, hx, Result.andThen]
      exact hK'
    | some ad =>
      have h := step_append_room (P := Try.prog) (ops := ops) (o := o) (a := a) (w := w) (K := K) (Q := Q) (E := True) hgd s x 24 hop 3 i0 1 Try.underlying24 h2 hz1 g 0 0 0 hs ad 0 c [] hx rfl (by intro j u hu; simp at hu) (by simp) (by simp) (by intro j hj; simp at hj) hK'
      rw [if_pos hw] at h
      exact h
  | cons z r =>
    cases ao with
    | none => obtain ⟨_, _, e, _⟩ := hrd 0 (by simp); cases e
    | some ad =>
      have h := step_append_grows (P := Try.prog) (ops := ops) (o := o) (a := a) (w := w) (K := K) (Q := Q) (E := True) hgd s x 24 hop 3 i0 (.int .i64 0) 1 8 Try.underlying24 h2 hz0 hz1 hz2 rfl (by decide) (some ⟨g, 0, none⟩) 0 0 [] hs (by intro e; cases e) rfl (by intro b _ j u hu; simp at hu) ad m c ((z :: r).map (Value.int .i64)) hx (by simp [hm]) (IRd.cells hrd) (ints_oneCell _ _) (by rw [hm]; simp) (by rw [hm]; unfold maxLen; omega) (by rw [hm]; omega) (by
        intro v' w' hown hgr
        rw [List.nil_append, Nat.zero_add] at hown
        rcases hown.2 with ⟨hv, h0⟩ | ⟨g', cap', cur, rfl, hb, hg', _⟩
        · rw [hm] at h0; simp at h0
        · obtain ⟨r1, r2, _, r4⟩ := IRow.of hown
          exact hK g' cap' w' r1 r4 (.inl r2) (grown_none_below hgr))
      rw [if_pos hw] at h
      exact h
end Go.Proofs.Ytmcflfpckpjphaa.Copy

namespace Go.Proofs.Ytmcflfpckpjphaa.Ops
open Go.RowKit Go.Proofs.Ytmcflfpckpjphaa.Mem Go.Proofs.Ytmcflfpckpjphaa.App Go.Proofs.Ytmcflfpckpjphaa.Blk Go.Proofs.Ytmcflfpckpjphaa.Each Go.Proofs.Ytmcflfpckpjphaa.Copy

set_option maxRecDepth 100000 in
theorem op_call {P : Program} {ops : Array Oper} {Q : Exit → Act → World → Prop} {i : Nat} {o : Oper} {K : Act → World → Prop} {a : Act} {w : World} {f : FuncId} {args : Array Value} {R : Ending → World → Prop}
    (hi : ops[i]? = some o) (hg : o.guard = none) (hr : (execOp a.eval o).run P w = .ok (.enter f args) w) (hc : Calls P f args w R)
    (hk : ∀ e w', R e w' → ∃ v, e = .returned v ∧ K (a.put o.dst v) w') : wpOp P ops Q i K a w := by
  refine op_wp hi hg ?_
  unfold Oper.wp
  rw [hr]
  refine hc.mono ?_
  intro e w' h
  obtain ⟨v, rfl, h2⟩ := hk e w' h
  exact h2
end Go.Proofs.Ytmcflfpckpjphaa.Ops

namespace Go.Proofs.Ytmcflfpckpjphaa.WnC
open Go.RowKit Go.Proofs.Ytmcflfpckpjphaa.Mem Go.Proofs.Ytmcflfpckpjphaa.MemI Go.Proofs.Ytmcflfpckpjphaa.Blk Go.Proofs.Ytmcflfpckpjphaa.Zone Go.Proofs.Ytmcflfpckpjphaa.ZoneI Go.Proofs.Ytmcflfpckpjphaa.WnZ Go.Proofs.Ytmcflfpckpjphaa.Res Go.Proofs.Ytmcflfpckpjphaa.Each Go.Proofs.Ytmcflfpckpjphaa.Copy Go.Proofs.Ytmcflfpckpjphaa.Ops
/-- What a copy has left. -/
def Copied (w wx : World) (q c n : Nat) (D : WnD) : Prop := Blk wx (w.heap.size + 1) 26 [.int .i64 D.top, .slice (some ⟨q, 0, none⟩) n c] ∧ IRow wx q c D.bits ∧ w.heap.size + 2 ≤ q ∧ Below w.heap.size w wx
set_option maxRecDepth 100000 in
theorem copied {w x0 wx : World} {q c n : Nat} {D : WnD} (k : Blk wx (w.heap.size + 1) 26 [.int .i64 0, .slice none 0 0]) (r : IRow wx q c D.bits) (l : w.heap.size + 2 ≤ q) (b0 : Below w.heap.size w x0) (b : Below x0.heap.size x0 wx) :
    Copied w ((wx.setCell ⟨w.heap.size + 1, 0, none⟩ (.int .i64 D.top)).setCell ⟨w.heap.size + 1, 1, none⟩ (.slice (some ⟨q, 0, none⟩) n c)) q c n D :=
  ⟨(k.set 0 _ (by simp [maxLen])).set 1 _ (by simp [maxLen]), (r.keep (Below.heap_setCell _ _ _ _ (by show q ≠ w.heap.size + 1; omega))).keep (Below.heap_setCell _ _ _ _ (by show q ≠ w.heap.size + 1; omega)), l, ((b0.trans (b.mono b0.size)).setCell (by show w.heap.size ≤ w.heap.size + 1; omega) _).setCell (by show w.heap.size ≤ w.heap.size + 1; omega) _⟩

set_option maxRecDepth 100000 in
set_option maxHeartbeats 4000000 in
theorem specCopy (S : WnS) (D : WnD) (w : World) (h : WnRd w S D) (hl : D.bits.length ≤ 4194304) :
    Calls Try.prog 121 #[wnV D S] w fun e w' => ∃ S', e = .returned (wnV D S') ∧ WnOwn w' w.heap.size w'.heap.size S' D ∧ Below w.heap.size w w' := by
  have HR : Hid (WnRd w S D) := h
  have HLen : Hid (S.bits.n = D.bits.length) := h.bits.len
  obtain ⟨x0, hx0⟩ : ∃ x0, (w.alloc (.cells #[.int .i64 D.top, .slice S.bits.a S.bits.n S.bits.c] 26)).alloc (.cells #[.int .i64 0, .slice none 0 0] 26) = x0 := ⟨_, rfl⟩
  have HW0 : Hid (_ = x0) := hx0
  have B0 : Hid (Below w.heap.size w x0) := by rw [← hx0]; exact ((Below.refl _ _).alloc (Nat.le_refl _) _).alloc (by simp) _
  have KA : Hid (Blk x0 w.heap.size 26 [.int .i64 D.top, .slice S.bits.a S.bits.n S.bits.c]) := by rw [← hx0]; exact (Blk.new w _ _).alloc _
  have KO : Hid (Blk x0 (w.heap.size + 1) 26 [.int .i64 0, .slice none 0 0]) := by
    have := Blk.new (w.alloc (.cells #[.int .i64 D.top, .slice S.bits.a S.bits.n S.bits.c] 26)) 26 [.int .i64 0, .slice none 0 0]
    rw [World.size_alloc] at this
    rw [← hx0]; exact this
  have HSZ : Hid (w.heap.size + 2 ≤ x0.heap.size) := by rw [← hx0]; show _ ≤ _; simp
  clear h hx0
  unfold wnV
  go_enter Try.func121, Try.ntmps121
  go_upto_region 1 with fail
  rw [HW0.out]
  clear HW0
  go_cut [9] from 3 to 8 (fun s9 wx => ∃ q c, s9 = .agg #[.int .i64 D.top, .slice (some ⟨q, 0, none⟩) S.bits.n c] ∧ Copied w wx q c S.bits.n D)
  case first =>
    rename_i J K' hRJ hMet
    generalize hA : Act.mk _ _ = A
    have a1' : A.eval (.tmp 1) = .pointer (some ⟨w.heap.size, 0, none⟩) := by rw [← hA]; rfl
    have a2' : A.eval (.tmp 2) = .pointer (some ⟨w.heap.size + 1, 0, none⟩) := by rw [← hA]; rfl
    have asz : A.tmps.size = 10 := by rw [← hA]; rfl
    have hKA : ∀ wx, Below x0.heap.size x0 wx → Blk wx w.heap.size 26 [.int .i64 D.top, .slice S.bits.a S.bits.n S.bits.c] := fun wx hb => KA.out.later hb
    have hKO : ∀ wx, Below x0.heap.size x0 wx → Blk wx (w.heap.size + 1) 26 [.int .i64 0, .slice none 0 0] := fun wx hb => KO.out.later hb
    have hRS : ∀ wx, Below x0.heap.size x0 wx → ISRd wx S.bits D.bits := fun wx hb => HR.out.bits.later (B0.out.trans (hb.mono B0.out.size))
    refine region_each (by kernel_rfl) [3, 4, 5, 6, 7, 8, 9] 7 (fun i => [3, 4, 5, 6, 7, 8, 9].getD i 0) (fun _ => 0)
      (fun i gB v wx => match i with
        | 0 => v = .pointer (some ⟨w.heap.size, 0, none⟩)
        | 1 => v = .int .i64 D.top
        | 2 => v = .slice (some ⟨gB, 0, none⟩) 0 0 ∧ IRow wx gB 0 [] ∧ x0.heap.size ≤ gB
        | 3 => v = .pointer (some ⟨w.heap.size, 1, none⟩)
        | 4 => v = .slice S.bits.a S.bits.n S.bits.c
        | 5 => ∃ c, v = .slice (some ⟨gB, 0, none⟩) S.bits.n c ∧ IRow wx gB c (D.bits) ∧ x0.heap.size ≤ gB
        | 6 => ∃ G c, v = .agg #[.int .i64 D.top, .slice (some ⟨G, 0, none⟩) S.bits.n c] ∧ IRow wx G c D.bits ∧ x0.heap.size ≤ G
        | _ => False) (fun wx => Below x0.heap.size x0 wx) (by kernel_rfl) (Below.refl _ _).drew ?_ ?_ ?_
    · intro i gB v wx wy hi hF hb _
      match i, hi with
      | 0, _ => exact hF
      | 1, _ => exact hF
      | 2, _ => obtain ⟨h0, h1, h2⟩ := hF; exact ⟨h0, h1.later hb, h2⟩
      | 3, _ => exact hF
      | 4, _ => exact hF
      | 5, _ => obtain ⟨c, h0, h1, h2⟩ := hF; exact ⟨c, h0, h1.later hb, h2⟩
      | 6, _ => obtain ⟨G, c, h0, h1, h2⟩ := hF; exact ⟨G, c, h0, h1.later hb, h2⟩
    · intro i hi t ρ wx hB hp hd
      match i, hi with
      | 0, _ =>
        have e1 : (fr [3, 4, 5, 6, 7, 8, 9] A t).eval (.tmp 1) = .pointer (some ⟨w.heap.size, 0, none⟩) := (fr_eval_old _ _ _ 1 rfl).trans a1'
        refine op_run (v := .pointer (some ⟨w.heap.size, 0, none⟩)) (w' := wx) rfl rfl ?_ ?_
        · clear hp hd; have ec : ∀ v, (fr [3, 4, 5, 6, 7, 8, 9] A t).eval (.const v) = v := fun _ => rfl; generalize (fr [3, 4, 5, 6, 7, 8, 9] A t).eval = ev at ec e1 ⊢; go_simp
        · exact ⟨_, 0, rfl, hB, Below.refl _ _, rfl, .inl rfl⟩
      | 1, _ =>
        have e3 : (fr [3, 4, 5, 6, 7, 8, 9] A t).eval (.tmp 3) = .pointer (some ⟨w.heap.size, 0, none⟩) := (fr_eval _ _ _ 3 rfl (by rw [asz]; decide)).trans (hp 0 (pre_mem (by kernel_rfl)))
        have hc := (hKA wx hB).cell 0 rfl
        refine op_run (v := .int .i64 D.top) (w' := wx) rfl rfl ?_ ?_
        · clear hp hd; have ec : ∀ v, (fr [3, 4, 5, 6, 7, 8, 9] A t).eval (.const v) = v := fun _ => rfl; generalize (fr [3, 4, 5, 6, 7, 8, 9] A t).eval = ev at ec e3 ⊢; go_simp
        · exact ⟨_, 0, rfl, hB, Below.refl _ _, rfl, .inl rfl⟩
      | 2, _ =>
        refine op_run (v := .slice (some ⟨wx.heap.size, 0, none⟩) 0 0) (w' := wx.alloc (.cells #[] 3)) rfl rfl ?_ ?_
        · clear hp hd; have ec : ∀ v, (fr [3, 4, 5, 6, 7, 8, 9] A t).eval (.const v) = v := fun _ => rfl; generalize (fr [3, 4, 5, 6, 7, 8, 9] A t).eval = ev at ec  ⊢; go_simp
        · exact ⟨_, wx.heap.size, rfl, hB.alloc hB.size _, (Below.refl _ _).alloc (Nat.le_refl _) _, ⟨rfl, irow_new wx [] (by simp), hB.size⟩, .inl rfl⟩
      | 3, _ =>
        have e1 : (fr [3, 4, 5, 6, 7, 8, 9] A t).eval (.tmp 1) = .pointer (some ⟨w.heap.size, 0, none⟩) := (fr_eval_old _ _ _ 1 rfl).trans a1'
        refine op_run (v := .pointer (some ⟨w.heap.size, 1, none⟩)) (w' := wx) rfl rfl ?_ ?_
        · clear hp hd; have ec : ∀ v, (fr [3, 4, 5, 6, 7, 8, 9] A t).eval (.const v) = v := fun _ => rfl; generalize (fr [3, 4, 5, 6, 7, 8, 9] A t).eval = ev at ec e1 ⊢; go_simp
        · exact ⟨_, 0, rfl, hB, Below.refl _ _, rfl, .inl rfl⟩
      | 4, _ =>
        have e6 : (fr [3, 4, 5, 6, 7, 8, 9] A t).eval (.tmp 6) = .pointer (some ⟨w.heap.size, 1, none⟩) := (fr_eval _ _ _ 6 rfl (by rw [asz]; decide)).trans (hp 3 (pre_mem (by kernel_rfl)))
        have hc := (hKA wx hB).cell 1 rfl
        refine op_run (v := .slice S.bits.a S.bits.n S.bits.c) (w' := wx) rfl rfl ?_ ?_
        · clear hp hd; have ec : ∀ v, (fr [3, 4, 5, 6, 7, 8, 9] A t).eval (.const v) = v := fun _ => rfl; generalize (fr [3, 4, 5, 6, 7, 8, 9] A t).eval = ev at ec e6 ⊢; go_simp
        · exact ⟨_, 0, rfl, hB, Below.refl _ _, rfl, .inl rfl⟩
      | 5, _ =>
        obtain ⟨hv2, q2_0, q2_1⟩ := hp 2 (pre_mem (by kernel_rfl))
        have e5 : (fr [3, 4, 5, 6, 7, 8, 9] A t).eval (.tmp 5) = .slice (some ⟨(ρ 2), 0, none⟩) 0 0 := (fr_eval _ _ _ 5 rfl (by rw [asz]; decide)).trans hv2
        have e7 : (fr [3, 4, 5, 6, 7, 8, 9] A t).eval (.tmp 7) = .slice S.bits.a S.bits.n S.bits.c := (fr_eval _ _ _ 7 rfl (by rw [asz]; decide)).trans (hp 4 (pre_mem (by kernel_rfl)))
        refine op_icopy rfl rfl (.tmp 5) (.tmp 7) rfl ((ρ 2)) e5 (q2_0) (S.bits.a) S.bits.n S.bits.c (D.bits) e7 ((hRS wx hB).len) ((hRS wx hB).rd) ((hRS wx hB).nil) (by omega) ?_
        intro g2 c2 wy r2 l2 d2 b2
        exact ⟨_, g2, rfl, hB.trans (b2.mono hB.size), b2, ⟨c2, rfl, r2, by rcases d2 with d2 | d2; (· exact Nat.le_trans hB.size d2); (· rw [d2]; exact q2_1)⟩, .inl rfl⟩
      | 6, _ =>
        have e4 : (fr [3, 4, 5, 6, 7, 8, 9] A t).eval (.tmp 4) = .int .i64 D.top := (fr_eval _ _ _ 4 rfl (by rw [asz]; decide)).trans (hp 1 (pre_mem (by kernel_rfl)))
        obtain ⟨c5, hv5, q5_0, q5_1⟩ := hp 5 (pre_mem (by kernel_rfl))
        have e8 : (fr [3, 4, 5, 6, 7, 8, 9] A t).eval (.tmp 8) = .slice (some ⟨(ρ 5), 0, none⟩) S.bits.n c5 := (fr_eval _ _ _ 8 rfl (by rw [asz]; decide)).trans hv5
        refine op_run (v := .agg #[.int .i64 D.top, .slice (some ⟨(ρ 5), 0, none⟩) S.bits.n c5]) (w' := wx) rfl rfl ?_ ?_
        · clear hp hd q5_0 q5_1; have ec : ∀ v, (fr [3, 4, 5, 6, 7, 8, 9] A t).eval (.const v) = v := fun _ => rfl; generalize (fr [3, 4, 5, 6, 7, 8, 9] A t).eval = ev at ec e4 e8 ⊢; go_simp
        · exact ⟨_, 0, rfl, hB, Below.refl _ _, ⟨_, _, rfl, q5_0, q5_1⟩, .inl rfl⟩
    · intro t ρ wx hB hF hne
      obtain ⟨G6, c6, hv6, q6_0, q6_1⟩ := hF 6 (by decide)
      have e9 : (fr [3, 4, 5, 6, 7, 8, 9] A t).eval (.tmp 9) = .agg #[.int .i64 D.top, .slice (some ⟨G6, 0, none⟩) S.bits.n c6] := (fr_eval _ _ _ 9 rfl (by rw [asz]; decide)).trans hv6
      have e2 : (fr [3, 4, 5, 6, 7, 8, 9] A t).eval (.tmp 2) = .pointer (some ⟨w.heap.size + 1, 0, none⟩) := (fr_eval_old _ _ _ 2 rfl).trans a2'
      clear hne
      have q0 := (hKO wx hB).cell 0 rfl
      have q1 := (hKO wx hB).cell 1 rfl
      have f0 := (hKO wx hB).frozen 0
      have f1 := (hKO wx hB).frozen 1
      have kO : Hid (Blk wx (w.heap.size + 1) 26 [.int .i64 0, .slice none 0 0]) := hKO wx hB
      have rC : Hid (IRow wx G6 c6 D.bits) := q6_0
      have lC : Hid (x0.heap.size ≤ G6) := q6_1
      refine op_wp rfl rfl ?_
      clear hF q6_0 q6_1
      generalize hE : (fr [3, 4, 5, 6, 7, 8, 9] A t).eval = ev at e9 e2
      unfold Oper.wp
      rw [hE]
      go_simp
      refine hMet _ _ (Met.intro (hRJ _ _ ⟨t 3, t 4, t 5, t 6, t 7, t 8, t 9, ⟨G6, c6, hv6, copied kO.out rC.out (Nat.le_trans HSZ.out lC.out) B0.out hB⟩, ?_⟩))
      rw [← hA]; rfl
  case rest =>
    obtain ⟨q, c, rfl, hcp⟩ := hcut
    have HC : Hid (Copied w wc q c S.bits.n D) := hcp
    clear hcp
    go_wp2
    obtain ⟨k1, r1, l1, b1⟩ := HC.out
    exact bodyPost_ret (v := wnV D ⟨⟨some ⟨q, 0, none⟩, S.bits.n, c⟩⟩) (res1 rfl (is_cell rfl k1 aggWn)) rfl ⟨⟨⟨some ⟨q, 0, none⟩, S.bits.n, c⟩⟩, rfl, ⟨ISOwn.row r1 HLen.out (by omega) r1.lt, ⟨⟩⟩, b1⟩
set_option maxRecDepth 100000 in
set_option maxHeartbeats 4000000 in
theorem implCopy (S : WnS) (D : WnD) (w : World) (h : WnRd w S D) (hl : D.bits.length ≤ 4194304) :
    Calls Try.prog 50 #[wnV D S] w fun e w' => ∃ S', e = .returned (wnV D S') ∧ WnOwn w' w.heap.size w'.heap.size S' D ∧ Below w.heap.size w w' := by
  have HR : Hid (WnRd w S D) := h
  have HLen : Hid (S.bits.n = D.bits.length) := h.bits.len
  obtain ⟨x0, hx0⟩ : ∃ x0, (w.alloc (.cells #[.int .i64 D.top, .slice S.bits.a S.bits.n S.bits.c] 26)).alloc (.cells #[.int .i64 0, .slice none 0 0] 26) = x0 := ⟨_, rfl⟩
  have HW0 : Hid (_ = x0) := hx0
  have B0 : Hid (Below w.heap.size w x0) := by rw [← hx0]; exact ((Below.refl _ _).alloc (Nat.le_refl _) _).alloc (by simp) _
  have KA : Hid (Blk x0 w.heap.size 26 [.int .i64 D.top, .slice S.bits.a S.bits.n S.bits.c]) := by rw [← hx0]; exact (Blk.new w _ _).alloc _
  have KO : Hid (Blk x0 (w.heap.size + 1) 26 [.int .i64 0, .slice none 0 0]) := by
    have := Blk.new (w.alloc (.cells #[.int .i64 D.top, .slice S.bits.a S.bits.n S.bits.c] 26)) 26 [.int .i64 0, .slice none 0 0]
    rw [World.size_alloc] at this
    rw [← hx0]; exact this
  have HSZ : Hid (w.heap.size + 2 ≤ x0.heap.size) := by rw [← hx0]; show _ ≤ _; simp
  clear h hx0
  unfold wnV
  go_enter Try.func50, Try.ntmps50
  go_upto_region 1 with fail
  rw [HW0.out]
  clear HW0
  go_cut [9] from 3 to 8 (fun s9 wx => ∃ q c, s9 = .agg #[.int .i64 D.top, .slice (some ⟨q, 0, none⟩) S.bits.n c] ∧ Copied w wx q c S.bits.n D)
  case first =>
    rename_i J K' hRJ hMet
    generalize hA : Act.mk _ _ = A
    have a1' : A.eval (.tmp 1) = .pointer (some ⟨w.heap.size, 0, none⟩) := by rw [← hA]; rfl
    have a2' : A.eval (.tmp 2) = .pointer (some ⟨w.heap.size + 1, 0, none⟩) := by rw [← hA]; rfl
    have asz : A.tmps.size = 10 := by rw [← hA]; rfl
    have hKA : ∀ wx, Below x0.heap.size x0 wx → Blk wx w.heap.size 26 [.int .i64 D.top, .slice S.bits.a S.bits.n S.bits.c] := fun wx hb => KA.out.later hb
    have hKO : ∀ wx, Below x0.heap.size x0 wx → Blk wx (w.heap.size + 1) 26 [.int .i64 0, .slice none 0 0] := fun wx hb => KO.out.later hb
    have hRS : ∀ wx, Below x0.heap.size x0 wx → ISRd wx S.bits D.bits := fun wx hb => HR.out.bits.later (B0.out.trans (hb.mono B0.out.size))
    refine region_each (by kernel_rfl) [3, 4, 5, 6, 7, 8, 9] 7 (fun i => [3, 4, 5, 6, 7, 8, 9].getD i 0) (fun _ => 0)
      (fun i gB v wx => match i with
        | 0 => v = .pointer (some ⟨w.heap.size, 0, none⟩)
        | 1 => v = .int .i64 D.top
        | 2 => v = .slice (some ⟨gB, 0, none⟩) 0 0 ∧ IRow wx gB 0 [] ∧ x0.heap.size ≤ gB
        | 3 => v = .pointer (some ⟨w.heap.size, 1, none⟩)
        | 4 => v = .slice S.bits.a S.bits.n S.bits.c
        | 5 => ∃ c, v = .slice (some ⟨gB, 0, none⟩) S.bits.n c ∧ IRow wx gB c (D.bits) ∧ x0.heap.size ≤ gB
        | 6 => ∃ G c, v = .agg #[.int .i64 D.top, .slice (some ⟨G, 0, none⟩) S.bits.n c] ∧ IRow wx G c D.bits ∧ x0.heap.size ≤ G
        | _ => False) (fun wx => Below x0.heap.size x0 wx) (by kernel_rfl) (Below.refl _ _).drew ?_ ?_ ?_
    · intro i gB v wx wy hi hF hb _
      match i, hi with
      | 0, _ => exact hF
      | 1, _ => exact hF
      | 2, _ => obtain ⟨h0, h1, h2⟩ := hF; exact ⟨h0, h1.later hb, h2⟩
      | 3, _ => exact hF
      | 4, _ => exact hF
      | 5, _ => obtain ⟨c, h0, h1, h2⟩ := hF; exact ⟨c, h0, h1.later hb, h2⟩
      | 6, _ => obtain ⟨G, c, h0, h1, h2⟩ := hF; exact ⟨G, c, h0, h1.later hb, h2⟩
    · intro i hi t ρ wx hB hp hd
      match i, hi with
      | 0, _ =>
        have e1 : (fr [3, 4, 5, 6, 7, 8, 9] A t).eval (.tmp 1) = .pointer (some ⟨w.heap.size, 0, none⟩) := (fr_eval_old _ _ _ 1 rfl).trans a1'
        refine op_run (v := .pointer (some ⟨w.heap.size, 0, none⟩)) (w' := wx) rfl rfl ?_ ?_
        · clear hp hd; have ec : ∀ v, (fr [3, 4, 5, 6, 7, 8, 9] A t).eval (.const v) = v := fun _ => rfl; generalize (fr [3, 4, 5, 6, 7, 8, 9] A t).eval = ev at ec e1 ⊢; go_simp
        · exact ⟨_, 0, rfl, hB, Below.refl _ _, rfl, .inl rfl⟩
      | 1, _ =>
        have e3 : (fr [3, 4, 5, 6, 7, 8, 9] A t).eval (.tmp 3) = .pointer (some ⟨w.heap.size, 0, none⟩) := (fr_eval _ _ _ 3 rfl (by rw [asz]; decide)).trans (hp 0 (pre_mem (by kernel_rfl)))
        have hc := (hKA wx hB).cell 0 rfl
        refine op_run (v := .int .i64 D.top) (w' := wx) rfl rfl ?_ ?_
        · clear hp hd; have ec : ∀ v, (fr [3, 4, 5, 6, 7, 8, 9] A t).eval (.const v) = v := fun _ => rfl; generalize (fr [3, 4, 5, 6, 7, 8, 9] A t).eval = ev at ec e3 ⊢; go_simp
        · exact ⟨_, 0, rfl, hB, Below.refl _ _, rfl, .inl rfl⟩
      | 2, _ =>
        refine op_run (v := .slice (some ⟨wx.heap.size, 0, none⟩) 0 0) (w' := wx.alloc (.cells #[] 3)) rfl rfl ?_ ?_
        · clear hp hd; have ec : ∀ v, (fr [3, 4, 5, 6, 7, 8, 9] A t).eval (.const v) = v := fun _ => rfl; generalize (fr [3, 4, 5, 6, 7, 8, 9] A t).eval = ev at ec  ⊢; go_simp
        · exact ⟨_, wx.heap.size, rfl, hB.alloc hB.size _, (Below.refl _ _).alloc (Nat.le_refl _) _, ⟨rfl, irow_new wx [] (by simp), hB.size⟩, .inl rfl⟩
      | 3, _ =>
        have e1 : (fr [3, 4, 5, 6, 7, 8, 9] A t).eval (.tmp 1) = .pointer (some ⟨w.heap.size, 0, none⟩) := (fr_eval_old _ _ _ 1 rfl).trans a1'
        refine op_run (v := .pointer (some ⟨w.heap.size, 1, none⟩)) (w' := wx) rfl rfl ?_ ?_
        · clear hp hd; have ec : ∀ v, (fr [3, 4, 5, 6, 7, 8, 9] A t).eval (.const v) = v := fun _ => rfl; generalize (fr [3, 4, 5, 6, 7, 8, 9] A t).eval = ev at ec e1 ⊢; go_simp
        · exact ⟨_, 0, rfl, hB, Below.refl _ _, rfl, .inl rfl⟩
      | 4, _ =>
        have e6 : (fr [3, 4, 5, 6, 7, 8, 9] A t).eval (.tmp 6) = .pointer (some ⟨w.heap.size, 1, none⟩) := (fr_eval _ _ _ 6 rfl (by rw [asz]; decide)).trans (hp 3 (pre_mem (by kernel_rfl)))
        have hc := (hKA wx hB).cell 1 rfl
        refine op_run (v := .slice S.bits.a S.bits.n S.bits.c) (w' := wx) rfl rfl ?_ ?_
        · clear hp hd; have ec : ∀ v, (fr [3, 4, 5, 6, 7, 8, 9] A t).eval (.const v) = v := fun _ => rfl; generalize (fr [3, 4, 5, 6, 7, 8, 9] A t).eval = ev at ec e6 ⊢; go_simp
        · exact ⟨_, 0, rfl, hB, Below.refl _ _, rfl, .inl rfl⟩
      | 5, _ =>
        obtain ⟨hv2, q2_0, q2_1⟩ := hp 2 (pre_mem (by kernel_rfl))
        have e5 : (fr [3, 4, 5, 6, 7, 8, 9] A t).eval (.tmp 5) = .slice (some ⟨(ρ 2), 0, none⟩) 0 0 := (fr_eval _ _ _ 5 rfl (by rw [asz]; decide)).trans hv2
        have e7 : (fr [3, 4, 5, 6, 7, 8, 9] A t).eval (.tmp 7) = .slice S.bits.a S.bits.n S.bits.c := (fr_eval _ _ _ 7 rfl (by rw [asz]; decide)).trans (hp 4 (pre_mem (by kernel_rfl)))
        refine op_icopy rfl rfl (.tmp 5) (.tmp 7) rfl ((ρ 2)) e5 (q2_0) (S.bits.a) S.bits.n S.bits.c (D.bits) e7 ((hRS wx hB).len) ((hRS wx hB).rd) ((hRS wx hB).nil) (by omega) ?_
        intro g2 c2 wy r2 l2 d2 b2
        exact ⟨_, g2, rfl, hB.trans (b2.mono hB.size), b2, ⟨c2, rfl, r2, by rcases d2 with d2 | d2; (· exact Nat.le_trans hB.size d2); (· rw [d2]; exact q2_1)⟩, .inl rfl⟩
      | 6, _ =>
        have e4 : (fr [3, 4, 5, 6, 7, 8, 9] A t).eval (.tmp 4) = .int .i64 D.top := (fr_eval _ _ _ 4 rfl (by rw [asz]; decide)).trans (hp 1 (pre_mem (by kernel_rfl)))
        obtain ⟨c5, hv5, q5_0, q5_1⟩ := hp 5 (pre_mem (by kernel_rfl))
        have e8 : (fr [3, 4, 5, 6, 7, 8, 9] A t).eval (.tmp 8) = .slice (some ⟨(ρ 5), 0, none⟩) S.bits.n c5 := (fr_eval _ _ _ 8 rfl (by rw [asz]; decide)).trans hv5
        refine op_run (v := .agg #[.int .i64 D.top, .slice (some ⟨(ρ 5), 0, none⟩) S.bits.n c5]) (w' := wx) rfl rfl ?_ ?_
        · clear hp hd q5_0 q5_1; have ec : ∀ v, (fr [3, 4, 5, 6, 7, 8, 9] A t).eval (.const v) = v := fun _ => rfl; generalize (fr [3, 4, 5, 6, 7, 8, 9] A t).eval = ev at ec e4 e8 ⊢; go_simp
        · exact ⟨_, 0, rfl, hB, Below.refl _ _, ⟨_, _, rfl, q5_0, q5_1⟩, .inl rfl⟩
    · intro t ρ wx hB hF hne
      obtain ⟨G6, c6, hv6, q6_0, q6_1⟩ := hF 6 (by decide)
      have e9 : (fr [3, 4, 5, 6, 7, 8, 9] A t).eval (.tmp 9) = .agg #[.int .i64 D.top, .slice (some ⟨G6, 0, none⟩) S.bits.n c6] := (fr_eval _ _ _ 9 rfl (by rw [asz]; decide)).trans hv6
      have e2 : (fr [3, 4, 5, 6, 7, 8, 9] A t).eval (.tmp 2) = .pointer (some ⟨w.heap.size + 1, 0, none⟩) := (fr_eval_old _ _ _ 2 rfl).trans a2'
      clear hne
      have q0 := (hKO wx hB).cell 0 rfl
      have q1 := (hKO wx hB).cell 1 rfl
      have f0 := (hKO wx hB).frozen 0
      have f1 := (hKO wx hB).frozen 1
      have kO : Hid (Blk wx (w.heap.size + 1) 26 [.int .i64 0, .slice none 0 0]) := hKO wx hB
      have rC : Hid (IRow wx G6 c6 D.bits) := q6_0
      have lC : Hid (x0.heap.size ≤ G6) := q6_1
      refine op_wp rfl rfl ?_
      clear hF q6_0 q6_1
      generalize hE : (fr [3, 4, 5, 6, 7, 8, 9] A t).eval = ev at e9 e2
      unfold Oper.wp
      rw [hE]
      go_simp
      refine hMet _ _ (Met.intro (hRJ _ _ ⟨t 3, t 4, t 5, t 6, t 7, t 8, t 9, ⟨G6, c6, hv6, copied kO.out rC.out (Nat.le_trans HSZ.out lC.out) B0.out hB⟩, ?_⟩))
      rw [← hA]; rfl
  case rest =>
    obtain ⟨q, c, rfl, hcp⟩ := hcut
    have HC : Hid (Copied w wc q c S.bits.n D) := hcp
    clear hcp
    go_wp2
    obtain ⟨k1, r1, l1, b1⟩ := HC.out
    exact bodyPost_ret (v := wnV D ⟨⟨some ⟨q, 0, none⟩, S.bits.n, c⟩⟩) (res1 rfl (is_cell rfl k1 aggWn)) rfl ⟨⟨⟨some ⟨q, 0, none⟩, S.bits.n, c⟩⟩, rfl, ⟨ISOwn.row r1 HLen.out (by omega) r1.lt, ⟨⟩⟩, b1⟩
end Go.Proofs.Ytmcflfpckpjphaa.WnC

namespace Go.Proofs.Ytmcflfpckpjphaa.WinP
open Go.Proofs.Ytmcflfpckpjphaa.Bits

/-- Every number is a word of 32 bits. -/
def Words (l : List Int) : Prop := ∀ z ∈ l, 0 ≤ z ∧ z ≤ 4294967295
set_option maxRecDepth 100000 in
theorem Words.at {l : List Int} (h : Words l) (i : Nat) : 0 ≤ l.getD i 0 ∧ l.getD i 0 ≤ 4294967295 := by
  by_cases hi : i < l.length
  · simpa [List.getD, hi] using h _ (List.getElem_mem hi)
  · simp [List.getD, List.getElem?_eq_none (Nat.le_of_not_lt hi)]
set_option maxRecDepth 100000 in
theorem Words.set {l : List Int} (h : Words l) (i : Nat) (z : Int) (hz : 0 ≤ z ∧ z ≤ 4294967295) : Words (l.set i z) := by
  intro x hx
  rcases List.mem_or_eq_of_mem_set hx with h1 | rfl
  · exact h x h1
  · exact hz

/-- The bit of the number n. -/
def bit (l : List Int) (n : Nat) : Bool := (l.getD (n % 1024 / 32) 0).toNat.testBit (n % 32)
set_option maxRecDepth 100000 in
theorem bit_mod (l : List Int) (n : Nat) : bit l (n % 1024) = bit l n := by
  unfold bit
  rw [Nat.mod_mod, show n % 1024 % 32 = n % 32 by omega]

def clrN (x k : Nat) : Nat := x ^^^ (x &&& 2 ^ k)
def setN (x k : Nat) : Nat := x ||| 2 ^ k
set_option maxRecDepth 100000 in
theorem clrN_bit (x k j : Nat) : (clrN x k).testBit j = (x.testBit j && !decide (k = j)) := by
  unfold clrN
  rw [Nat.testBit_xor, Nat.testBit_and, Nat.testBit_two_pow]
  cases x.testBit j <;> cases decide (k = j) <;> rfl
set_option maxRecDepth 100000 in
theorem setN_bit (x k j : Nat) : (setN x k).testBit j = (x.testBit j || decide (k = j)) := by
  unfold setN
  rw [Nat.testBit_or, Nat.testBit_two_pow]
set_option maxRecDepth 100000 in
theorem clrN_lt (x k : Nat) (h : x < 4294967296) : clrN x k < 4294967296 := by
  have := Nat.xor_lt_two_pow (n := 32) (show x < 2 ^ 32 by omega) (Nat.lt_of_le_of_lt Nat.and_le_left (show x < 2 ^ 32 by omega) : x &&& 2 ^ k < 2 ^ 32)
  unfold clrN; omega
set_option maxRecDepth 100000 in
theorem setN_lt (x k : Nat) (h : x < 4294967296) (hk : k < 32) : setN x k < 4294967296 := by
  have := Nat.or_lt_two_pow (n := 32) (show x < 2 ^ 32 by omega) (Nat.pow_lt_pow_right (by omega) hk : 2 ^ k < 2 ^ 32)
  unfold setN; omega

/-- The bit of place j cleared, set. -/
def clrL (l : List Int) (j : Nat) : List Int := l.set (j / 32) (clrN (l.getD (j / 32) 0).toNat (j % 32) : Nat)
def setL (l : List Int) (j : Nat) : List Int := l.set (j / 32) (setN (l.getD (j / 32) 0).toNat (j % 32) : Nat)
set_option maxRecDepth 100000 in
theorem clrL_length (l : List Int) (j : Nat) : (clrL l j).length = l.length := by simp [clrL]
set_option maxRecDepth 100000 in
theorem setL_length (l : List Int) (j : Nat) : (setL l j).length = l.length := by simp [setL]
set_option maxRecDepth 100000 in
theorem clrL_words {l : List Int} (h : Words l) (j : Nat) : Words (clrL l j) := by
  have := h.at (j / 32)
  have := clrN_lt (l.getD (j / 32) 0).toNat (j % 32) (by omega)
  exact h.set _ _ (by omega)
set_option maxRecDepth 100000 in
theorem setL_words {l : List Int} (h : Words l) (j : Nat) : Words (setL l j) := by
  have := h.at (j / 32)
  have := setN_lt (l.getD (j / 32) 0).toNat (j % 32) (by omega) (by omega)
  exact h.set _ _ (by omega)
set_option maxRecDepth 100000 in
theorem getD_set_self (l : List Int) (i : Nat) (z : Int) (h : i < l.length) : (l.set i z).getD i 0 = z := by simp [List.getD, h]
set_option maxRecDepth 100000 in
theorem getD_set_ne (l : List Int) (i k : Nat) (z : Int) (h : i ≠ k) : (l.set i z).getD k 0 = l.getD k 0 := by simp [List.getD, List.getElem?_set_ne h]
set_option maxRecDepth 100000 in
theorem clrL_bit (l : List Int) (j m : Nat) (hl : l.length = 32) (hj : j < 1024) : bit (clrL l j) m = (bit l m && !decide (j = m % 1024)) := by
  unfold bit clrL
  by_cases h : j / 32 = m % 1024 / 32
  · rw [← h, getD_set_self _ _ _ (by omega), Int.toNat_natCast, clrN_bit]
    congr 2
    exact decide_eq_decide.2 ⟨fun _ => by omega, fun _ => by omega⟩
  · rw [getD_set_ne _ _ _ _ h, decide_eq_false (by omega)]
    simp
set_option maxRecDepth 100000 in
theorem setL_bit (l : List Int) (j m : Nat) (hl : l.length = 32) (hj : j < 1024) : bit (setL l j) m = (bit l m || decide (j = m % 1024)) := by
  unfold bit setL
  by_cases h : j / 32 = m % 1024 / 32
  · rw [← h, getD_set_self _ _ _ (by omega), Int.toNat_natCast, setN_bit]
    congr 1
    exact decide_eq_decide.2 ⟨fun _ => by omega, fun _ => by omega⟩
  · rw [getD_set_ne _ _ _ _ h, decide_eq_false (by omega)]
    simp
set_option maxRecDepth 100000 in
/-- Words are told by their bits. -/
theorem bit_ext {l l' : List Int} (h : l.length = 32) (h' : l'.length = 32) (w : Words l) (w' : Words l') (e : ∀ m, m < 1024 → bit l m = bit l' m) : l = l' := by
  apply List.ext_getElem (by omega)
  intro i h1 h2
  have a1 := w.at i
  have a2 := w'.at i
  have e1 : l.getD i 0 = l[i] := by simp [List.getD, h1]
  have e2 : l'.getD i 0 = l'[i] := by simp [List.getD, h2]
  rw [← e1, ← e2]
  have : (l.getD i 0).toNat = (l'.getD i 0).toNat := by
    apply Nat.eq_of_testBit_eq
    intro k
    by_cases hk : k < 32
    · have := e (32 * i + k) (by omega)
      unfold bit at this
      rwa [show (32 * i + k) % 1024 / 32 = i by omega, show (32 * i + k) % 32 = k by omega] at this
    · have p : (2 : Nat) ^ 32 ≤ 2 ^ k := Nat.pow_le_pow_right (by omega) (by omega)
      rw [Nat.testBit_lt_two_pow (by omega), Nat.testBit_lt_two_pow (by omega)]
  omega

/-- The places of a, a + 1, .. cleared, k of them. -/
def clrs (l : List Int) (a : Nat) : Nat → List Int
  | 0 => l
  | k + 1 => clrL (clrs l a k) ((a + k) % 1024)
set_option maxRecDepth 100000 in
theorem clrs_length (l : List Int) (a k : Nat) : (clrs l a k).length = l.length := by
  induction k with
  | zero => rfl
  | succ k ih => rw [clrs, clrL_length, ih]
set_option maxRecDepth 100000 in
theorem clrs_words {l : List Int} (h : Words l) (a k : Nat) : Words (clrs l a k) := by
  induction k with
  | zero => exact h
  | succ k ih => exact clrL_words ih _
set_option maxRecDepth 100000 in
theorem clrs_bit (l : List Int) (a k m : Nat) (hl : l.length = 32) : bit (clrs l a k) m = true ↔ (bit l m = true ∧ ∀ i, a ≤ i → i < a + k → i % 1024 ≠ m % 1024) := by
  induction k with
  | zero => exact ⟨fun h => ⟨h, fun i h1 h2 => by omega⟩, fun h => h.1⟩
  | succ k ih =>
    rw [clrs, clrL_bit _ _ _ (by rw [clrs_length, hl]) (by omega)]
    simp only [Bool.and_eq_true, ih, Bool.not_eq_true', decide_eq_false_iff_not]
    constructor
    · rintro ⟨⟨h1, h2⟩, h3⟩
      refine ⟨h1, fun i h4 h5 => ?_⟩
      by_cases hi : i = a + k
      · rw [hi]; exact h3
      · exact h2 i h4 (by omega)
    · rintro ⟨h1, h2⟩
      exact ⟨⟨h1, fun i h3 h4 => h2 i h3 (by omega)⟩, h2 _ (by omega) (by omega)⟩
/-- The places of n, n - 1, .. cleared, k of them. -/
def down (l : List Int) (n : Nat) : Nat → List Int
  | 0 => l
  | k + 1 => clrL (down l n k) ((n - k) % 1024)
set_option maxRecDepth 100000 in
theorem down_length (l : List Int) (a k : Nat) : (down l a k).length = l.length := by
  induction k with
  | zero => rfl
  | succ k ih => rw [down, clrL_length, ih]
set_option maxRecDepth 100000 in
theorem down_words {l : List Int} (h : Words l) (a k : Nat) : Words (down l a k) := by
  induction k with
  | zero => exact h
  | succ k ih => exact clrL_words ih _
set_option maxRecDepth 100000 in
theorem down_bit (l : List Int) (n k m : Nat) (hl : l.length = 32) (hk : k ≤ n + 1) : bit (down l n k) m = true ↔ (bit l m = true ∧ ∀ i, n + 1 - k ≤ i → i ≤ n → i % 1024 ≠ m % 1024) := by
  induction k with
  | zero => exact ⟨fun h => ⟨h, fun i h1 h2 => by omega⟩, fun h => h.1⟩
  | succ k ih =>
    rw [down, clrL_bit _ _ _ (by rw [down_length, hl]) (by omega)]
    simp only [Bool.and_eq_true, ih (by omega), Bool.not_eq_true', decide_eq_false_iff_not]
    constructor
    · rintro ⟨⟨h1, h2⟩, h3⟩
      refine ⟨h1, fun i h4 h5 => ?_⟩
      by_cases hi : i = n - k
      · rw [hi]; exact h3
      · exact h2 i (by omega) h5
    · rintro ⟨h1, h2⟩
      exact ⟨⟨h1, fun i h3 h4 => h2 i (by omega) h4⟩, h2 _ (by omega) (by omega)⟩
set_option maxRecDepth 100000 in
/-- However the places of a leap are gone through, the same is left. -/
theorem down_clrs (l : List Int) (a n : Nat) (hl : l.length = 32) (w : Words l) (h : a ≤ n + 1) : down l n (min (n + 1 - a) 1024) = clrs l a (min (n + 1 - a) 1024) := by
  apply bit_ext (by rw [down_length, hl]) (by rw [clrs_length, hl]) (down_words w _ _) (clrs_words w _ _)
  intro m hm
  rw [Bool.eq_iff_iff, down_bit l n _ m hl (by omega), clrs_bit l a _ m hl]
  by_cases hk : n + 1 - a ≤ 1024
  · rw [Nat.min_eq_left hk]
    exact ⟨fun h => ⟨h.1, fun i h1 h2 => h.2 i (by omega) (by omega)⟩, fun h => ⟨h.1, fun i h1 h2 => h.2 i (by omega) (by omega)⟩⟩
  · rw [Nat.min_eq_right (by omega)]
    constructor
    · rintro ⟨_, h2⟩
      exact absurd (by omega) (h2 (n - (n % 1024 + 1024 - m) % 1024) (by omega) (by omega))
    · rintro ⟨_, h2⟩
      exact absurd (by omega) (h2 (a + (m + 1024 - a % 1024) % 1024) (by omega) (by omega))

/-- A window is right. -/
structure WOk (top : Int) (l : List Int) : Prop where
  len : l.length = 32
  lo : -1 ≤ top
  hi : top ≤ 281474976710655
  words : Words l
  taken : 0 ≤ top → bit l top.toNat = true
  free : ∀ n : Nat, top < (n : Int) → n < 1024 → bit l n = false
open Classical in
noncomputable def winOk (top : Int) (l : List Int) : Bool := decide (WOk top l)
set_option maxRecDepth 100000 in
theorem winOk_iff {top : Int} {l : List Int} : winOk top l = true ↔ WOk top l := by unfold winOk; simp
set_option maxRecDepth 100000 in
theorem winOk_true {top : Int} {l : List Int} (h : WOk top l) : winOk top l = true := winOk_iff.2 h
set_option maxRecDepth 100000 in
theorem winOk_false {top : Int} {l : List Int} (h : ¬ WOk top l) : winOk top l = false := Bool.eq_false_iff.2 fun e => h (winOk_iff.1 e)

def has (top : Int) (l : List Int) (n : Int) : Bool := decide (0 ≤ n ∧ n ≤ top ∧ top - 1024 < n) && bit l n.toNat
def may (top : Int) (l : List Int) (n : Int) : Bool := decide (0 ≤ n ∧ n ≤ 281474976710655 ∧ top - 1024 < n) && (decide (top < n) || !bit l n.toNat)
noncomputable def winHas (top : Int) (l : List Int) (n : Int) : Bool := winOk top l && has top l n
noncomputable def winMay (top : Int) (l : List Int) (n : Int) : Bool := winOk top l && may top l n

def addL (top : Int) (l : List Int) (n : Nat) : List Int := setL (clrs l (top + 1).toNat (min ((n : Int) - top).toNat 1024)) (n % 1024)
noncomputable def addTop (top : Int) (l : List Int) (n : Int) : Int := if winMay top l n then max top n else top
noncomputable def addBits (top : Int) (l : List Int) (n : Int) : List Int := if winMay top l n then addL top l n.toNat else l

set_option maxRecDepth 100000 in
theorem addL_length (top : Int) (l : List Int) (n : Nat) : (addL top l n).length = l.length := by unfold addL; rw [setL_length, clrs_length]
set_option maxRecDepth 100000 in
theorem addL_words {l : List Int} (h : Words l) (top : Int) (n : Nat) : Words (addL top l n) := setL_words (clrs_words h _ _) _
set_option maxRecDepth 100000 in
theorem addL_bit (top : Int) (l : List Int) (n m : Nat) (hl : l.length = 32) (ht : -1 ≤ top) :
    bit (addL top l n) m = true ↔ (n % 1024 = m % 1024 ∨ (bit l m = true ∧ ∀ i : Nat, top < (i : Int) → i ≤ n → (i : Int) ≤ top + 1024 → i % 1024 ≠ m % 1024)) := by
  unfold addL
  rw [setL_bit _ _ _ (by rw [clrs_length, hl]) (by omega), Bool.or_eq_true, clrs_bit _ _ _ _ hl, decide_eq_true_iff]
  constructor
  · rintro (⟨h1, h2⟩ | h)
    · exact .inr ⟨h1, fun i h3 h4 h5 => h2 i (by omega) (by omega)⟩
    · exact .inl h
  · rintro (h | ⟨h1, h2⟩)
    · exact .inr h
    · exact .inl ⟨h1, fun i h3 h4 => h2 i (by omega) (by omega) (by omega)⟩
set_option maxRecDepth 100000 in
/-- What is taken behind: n, and what was, as far as it is not too old. -/
theorem add_taken {top : Int} {l : List Int} (n m : Nat) (hl : l.length = 32) (ht : -1 ≤ top) (h1 : top - 1024 < (n : Int)) (h2 : (m : Int) ≤ max top n) (h3 : max top n - 1024 < (m : Int)) :
    bit (addL top l n) m = true ↔ (m = n ∨ ((m : Int) ≤ top ∧ bit l m = true)) := by
  rw [addL_bit top l n m hl ht]
  constructor
  · rintro (h | ⟨h4, h5⟩)
    · exact .inl (by omega)
    · by_cases hm : (m : Int) ≤ top
      · exact .inr ⟨hm, h4⟩
      · exfalso
        by_cases hk : (m : Int) ≤ top + 1024
        · exact h5 m (by omega) (by omega) hk rfl
        · exact h5 ((top + 1).toNat + (m + 1024 - (top + 1).toNat % 1024) % 1024) (by omega) (by omega) (by omega) (by omega)
  · rintro (rfl | ⟨h4, h5⟩)
    · exact .inl rfl
    · exact .inr ⟨h5, fun i h6 h7 h8 => by omega⟩
set_option maxRecDepth 100000 in
theorem add_ok {top : Int} {l : List Int} {n : Int} (h : WOk top l) (hm : may top l n = true) : WOk (max top n) (addL top l n.toNat) := by
  unfold may at hm
  rw [Bool.and_eq_true, decide_eq_true_iff] at hm
  obtain ⟨⟨h1, h2, h3⟩, h4⟩ := hm
  have := h.lo
  have := h.hi
  refine ⟨by rw [addL_length, h.len], by omega, by omega, addL_words h.words _ _, ?_, ?_⟩
  · intro h5
    rw [add_taken n.toNat _ h.len h.lo (by omega) (by omega) (by omega)]
    by_cases hn : top < n
    · exact .inl (by omega)
    · have e : max top n = top := by omega
      rw [e]
      exact .inr ⟨by omega, h.taken (by omega)⟩
  · intro m h5 h6
    rw [Bool.eq_false_iff, ne_eq, addL_bit top l _ m h.len h.lo]
    rintro (h7 | ⟨h7, _⟩)
    · omega
    · rw [h.free m (by omega) h6] at h7
      cases h7
set_option maxRecDepth 100000 in
theorem winMay_ok {top : Int} {l : List Int} {n : Int} (h : winMay top l n = true) : WOk top l ∧ may top l n = true := by
  unfold winMay at h
  rw [Bool.and_eq_true, winOk_iff] at h
  exact h
set_option maxRecDepth 100000 in
theorem addBits_ok {top : Int} {l : List Int} (n : Int) (h : WOk top l) : WOk (addTop top l n) (addBits top l n) := by
  unfold addTop addBits
  by_cases hm : winMay top l n = true
  · rw [if_pos hm, if_pos hm]
    exact add_ok h (winMay_ok hm).2
  · rw [if_neg hm, if_neg hm]
    exact h

/-- The least number that is not too old. -/
def least (top : Int) : Int := if top < 1024 then 0 else top - 1024 + 1
def lst (l : List Int) (a : Nat) : Nat → List Int
  | 0 => []
  | k + 1 => lst l a k ++ (if bit l (a + k) then [((a + k : Nat) : Int)] else [])
set_option maxRecDepth 100000 in
theorem lst_length (l : List Int) (a k : Nat) : (lst l a k).length ≤ k := by
  induction k with
  | zero => exact Nat.le_refl _
  | succ k ih =>
    rw [lst, List.length_append]
    split
    · simp; omega
    · simp; omega
set_option maxRecDepth 100000 in
theorem lst_mem (l : List Int) (a k : Nat) (z : Int) : z ∈ lst l a k ↔ ∃ n : Nat, z = n ∧ a ≤ n ∧ n < a + k ∧ bit l n = true := by
  induction k with
  | zero => exact ⟨(fun h => by cases h), (fun ⟨n, _, h1, h2, _⟩ => by omega)⟩
  | succ k ih =>
    rw [lst, List.mem_append, ih]
    constructor
    · rintro (⟨n, h1, h2, h3, h4⟩ | h)
      · exact ⟨n, h1, h2, by omega, h4⟩
      · split at h
        · rename_i hb
          exact ⟨a + k, by simpa using h, by omega, by omega, hb⟩
        · cases h
    · rintro ⟨n, h1, h2, h3, h4⟩
      by_cases hn : n = a + k
      · refine .inr ?_
        rw [← hn, if_pos h4, h1]
        exact List.mem_singleton.2 rfl
      · exact .inl ⟨n, h1, h2, by omega, h4⟩
set_option maxRecDepth 100000 in
theorem lst_sorted (l : List Int) (a k : Nat) : (lst l a k).Pairwise (· < ·) := by
  induction k with
  | zero => exact List.Pairwise.nil
  | succ k ih =>
    rw [lst, List.pairwise_append]
    refine ⟨ih, ?_, ?_⟩
    · split
      · exact List.pairwise_singleton _ _
      · exact List.Pairwise.nil
    · intro x hx y hy
      obtain ⟨n, rfl, _, h1, _⟩ := (lst_mem l a k x).1 hx
      split at hy
      · obtain rfl : y = ((a + k : Nat) : Int) := by simpa using hy
        omega
      · cases hy
noncomputable def winList (top : Int) (l : List Int) : List Int := if winOk top l then lst l (least top).toNat (top + 1 - least top).toNat else []
set_option maxRecDepth 100000 in
theorem winList_length (top : Int) (l : List Int) : (winList top l).length ≤ 1024 := by
  unfold winList
  split
  · refine Nat.le_trans (lst_length _ _ _) ?_
    unfold least
    split <;> omega
  · exact Nat.zero_le _
set_option maxRecDepth 100000 in
theorem winList_mem (top : Int) (l : List Int) (z : Int) : z ∈ winList top l ↔ winHas top l z = true := by
  unfold winList winHas has
  by_cases h : winOk top l = true
  · have w := winOk_iff.1 h
    rw [if_pos h, h, lst_mem]
    simp only [Bool.true_and, Bool.and_eq_true, decide_eq_true_iff]
    unfold least
    have := w.lo
    constructor
    · rintro ⟨n, rfl, h1, h2, h3⟩
      refine ⟨?_, by simpa using h3⟩
      split at h1 <;> split at h2 <;> omega
    · rintro ⟨h1, h2⟩
      refine ⟨z.toNat, by omega, ?_, ?_, h2⟩
      · split <;> omega
      · split <;> omega
  · rw [if_neg h, Bool.eq_false_iff.2 h]
    simp
set_option maxRecDepth 100000 in
theorem winList_sorted (top : Int) (l : List Int) : (winList top l).Pairwise (· < ·) := by
  unfold winList
  split
  · exact lst_sorted _ _ _
  · exact List.Pairwise.nil

def zeros : List Int := List.replicate 32 0
set_option maxRecDepth 100000 in
theorem zeros_bit (m : Nat) : bit zeros m = false := by
  unfold bit zeros
  have : (List.replicate 32 (0 : Int)).getD (m % 1024 / 32) 0 = 0 := by
    rw [List.getD, List.getElem?_replicate]
    split <;> rfl
  rw [this]; simp
set_option maxRecDepth 100000 in
theorem new_ok : WOk (-1) zeros := by
  refine ⟨rfl, by omega, by omega, ?_, fun h => by omega, fun n _ _ => zeros_bit n⟩
  intro z hz
  have := List.eq_of_mem_replicate hz
  omega
/-- What a list leaves. -/
noncomputable def ofTop (l : List Int) : Nat → Int × List Int
  | 0 => (-1, zeros)
  | k + 1 => (addTop (ofTop l k).1 (ofTop l k).2 (l.getD k 0), addBits (ofTop l k).1 (ofTop l k).2 (l.getD k 0))
set_option maxRecDepth 100000 in
theorem of_ok (l : List Int) (k : Nat) : WOk (ofTop l k).1 (ofTop l k).2 := by
  induction k with
  | zero => exact new_ok
  | succ k ih => exact addBits_ok _ ih
end Go.Proofs.Ytmcflfpckpjphaa.WinP

namespace Go.Proofs.Ytmcflfpckpjphaa.WinB
open Go.RowKit Go.Proofs.Ytmcflfpckpjphaa.Bits Go.Proofs.Ytmcflfpckpjphaa.WinP

set_option maxRecDepth 100000 in
theorem tb_i64 (X k : Nat) : (bits .and .i64 ((X : Int) / 2 ^ k) 1 == 1) = X.testBit k := by
  have e : bits .and .i64 ((X : Int) / 2 ^ k) 1 = ((X : Int) / 2 ^ k) % 2 := mask_i64 1 (by omega) _
  have e2 : ((X : Int) / 2 ^ k) % 2 = ((X / 2 ^ k % 2 : Nat) : Int) := by simp
  rw [e, e2, Nat.testBit_eq_decide_div_mod_eq, Bool.eq_iff_iff]
  simp only [beq_iff_eq, decide_eq_true_iff]
  omega
set_option maxRecDepth 100000 in
theorem andNot_nat (v X M : Nat) (hX : X < 2 ^ v) (hM : M < 2 ^ v) : (BitVec.ofInt v (X : Int) &&& ~~~ BitVec.ofInt v (M : Int)).toNat = X ^^^ (X &&& M) := by
  apply Nat.eq_of_testBit_eq
  intro j
  rw [BitVec.testBit_toNat, BitVec.getLsbD_and, BitVec.getLsbD_not, BitVec.ofInt_natCast, BitVec.ofInt_natCast, BitVec.getLsbD_ofNat, BitVec.getLsbD_ofNat, Nat.testBit_xor, Nat.testBit_and]
  by_cases hj : j < v
  · rw [decide_eq_true hj]
    cases X.testBit j <;> cases M.testBit j <;> rfl
  · have : (2 : Nat) ^ v ≤ 2 ^ j := Nat.pow_le_pow_right (by omega) (by omega)
    rw [decide_eq_false hj, Nat.testBit_lt_two_pow (x := X) (by omega), Nat.testBit_lt_two_pow (x := M) (by omega)]
    rfl
set_option maxRecDepth 100000 in
theorem andNot_i64 (X M : Nat) (hX : X < 4294967296) (hM : M < 4294967296) : bits .andNot .i64 (X : Int) (M : Int) = ((X ^^^ (X &&& M) : Nat) : Int) := by
  show IntKind.i64.wrap ((BitVec.ofInt 64 (X : Int) &&& ~~~ BitVec.ofInt 64 (M : Int)).toNat : Int) = _
  have h : X ^^^ (X &&& M) < 2 ^ 32 := Nat.xor_lt_two_pow (by omega) (Nat.lt_of_le_of_lt Nat.and_le_left (by omega))
  rw [andNot_nat 64 X M (by omega) (by omega), wrap_i64_nat _ (by omega)]
set_option maxRecDepth 100000 in
theorem wrap_u32 (n : Int) : IntKind.u32.wrap n = n % 4294967296 := by simp [IntKind.wrap, IntKind.bits, IntKind.signed]
set_option maxRecDepth 100000 in
theorem andNot_u32 (X M : Nat) (hX : X < 4294967296) (hM : M < 4294967296) : bits .andNot .u32 (X : Int) (M : Int) = ((X ^^^ (X &&& M) : Nat) : Int) := by
  show IntKind.u32.wrap ((BitVec.ofInt 32 (X : Int) &&& ~~~ BitVec.ofInt 32 (M : Int)).toNat : Int) = _
  have h : X ^^^ (X &&& M) < 2 ^ 32 := Nat.xor_lt_two_pow (by omega) (Nat.lt_of_le_of_lt Nat.and_le_left (by omega))
  rw [andNot_nat 32 X M (by omega) (by omega), wrap_u32]
  omega
set_option maxRecDepth 100000 in
theorem and_u32 (X M : Nat) (hX : X < 4294967296) (hM : M < 4294967296) : bits .and .u32 (X : Int) (M : Int) = ((X &&& M : Nat) : Int) := by
  have e : ∀ c : Nat, c < 4294967296 → (BitVec.ofInt 32 (c : Int)).toNat = c := fun c hc => by rw [BitVec.ofInt_natCast, BitVec.toNat_ofNat]; exact Nat.mod_eq_of_lt (by omega)
  show IntKind.u32.wrap ((BitVec.ofInt 32 (X : Int) &&& BitVec.ofInt 32 (M : Int)).toNat : Int) = _
  have h : X &&& M < 4294967296 := Nat.lt_of_le_of_lt Nat.and_le_left hX
  rw [BitVec.toNat_and, e X hX, e M hM, wrap_u32]
  omega
set_option maxRecDepth 100000 in
theorem pow_lt (k : Nat) (hk : k < 32) : 2 ^ k < 4294967296 := by
  have := Nat.pow_lt_pow_right (a := 2) (by omega) hk
  omega
set_option maxRecDepth 100000 in
theorem and_pow (X k : Nat) : (X &&& 2 ^ k ≠ 0) ↔ X.testBit k = true := by
  constructor
  · intro h
    by_cases hb : X.testBit k = true
    · exact hb
    · exfalso; apply h
      apply Nat.eq_of_testBit_eq
      intro j
      rw [Nat.testBit_and, Nat.testBit_two_pow, Nat.zero_testBit]
      by_cases hj : k = j
      · subst hj; rw [Bool.eq_false_iff.2 hb]; rfl
      · rw [decide_eq_false hj, Bool.and_false]
  · intro h e
    have := congrArg (Nat.testBit · k) e
    simp [Nat.testBit_and, h] at this
set_option maxRecDepth 100000 in
theorem tb_u32 (X k : Nat) (hX : X < 4294967296) (hk : k < 32) : (bits .and .u32 (X : Int) ((2 ^ k : Nat) : Int) != 0) = X.testBit k := by
  rw [and_u32 X (2 ^ k) hX (pow_lt k hk), Bool.eq_iff_iff, ← and_pow X k]
  simp only [bne_iff_ne, ne_eq]
  omega
set_option maxRecDepth 100000 in
theorem clr_u32 (X k : Nat) (hX : X < 4294967296) (hk : k < 32) : bits .andNot .u32 (X : Int) ((2 ^ k : Nat) : Int) = (clrN X k : Nat) := andNot_u32 X (2 ^ k) hX (pow_lt k hk)
set_option maxRecDepth 100000 in
theorem set_u32 (X k : Nat) (hX : X < 4294967296) (hk : k < 32) : bits .or .u32 (X : Int) ((2 ^ k : Nat) : Int) = (setN X k : Nat) := or_u32 X (2 ^ k) hX (pow_lt k hk)
set_option maxRecDepth 100000 in
theorem clr_i64 (X k : Nat) (hX : X < 4294967296) (hk : k < 32) : bits .andNot .i64 (X : Int) ((2 ^ k : Nat) : Int) = (clrN X k : Nat) := andNot_i64 X (2 ^ k) hX (pow_lt k hk)
set_option maxRecDepth 100000 in
theorem set_i64 (X k : Nat) (hX : X < 4294967296) (hk : k < 32) : bits .or .i64 (X : Int) ((2 ^ k : Nat) : Int) = (setN X k : Nat) := by
  have := pow_lt k hk
  exact or_i64 X (2 ^ k) (by omega) (by omega)
set_option maxRecDepth 100000 in
/-- Nothing is set above the a lowest bits. -/
theorem room_zero (X a : Nat) (hX : X < 4294967296) : X ^^^ (X &&& (2 ^ min a 32 - 1)) = 0 ↔ ∀ j, a ≤ j → j < 32 → X.testBit j = false := by
  rw [Nat.and_two_pow_sub_one_eq_mod]
  constructor
  · intro h j h1 h2
    have := congrArg (Nat.testBit · j) h
    simp only [Nat.testBit_xor, Nat.testBit_mod_two_pow, Nat.zero_testBit] at this
    rw [decide_eq_false (by omega)] at this
    simpa using this
  · intro h
    apply Nat.eq_of_testBit_eq
    intro j
    rw [Nat.testBit_xor, Nat.testBit_mod_two_pow, Nat.zero_testBit]
    by_cases hj : j < min a 32
    · rw [decide_eq_true hj]; simp
    · by_cases hk : j < 32
      · rw [h j (by omega) hk]; simp
      · have : (2 : Nat) ^ 32 ≤ 2 ^ j := Nat.pow_le_pow_right (by omega) (by omega)
        rw [Nat.testBit_lt_two_pow (x := X) (by omega)]; simp
end Go.Proofs.Ytmcflfpckpjphaa.WinB
