/-
  What spec's WinOf answers.
  Short windows; what the answers' lists are long at most.
-/
import Derived.Test.YtmcflfpckpjphaaWnU
set_option linter.unusedVariables false
namespace Go.Proofs.Ytmcflfpckpjphaa.WnV
open Go.RowKit Go.Proofs.Ytmcflfpckpjphaa.Mem Go.Proofs.Ytmcflfpckpjphaa.MemI Go.Proofs.Ytmcflfpckpjphaa.Blk Go.Proofs.Ytmcflfpckpjphaa.Zone Go.Proofs.Ytmcflfpckpjphaa.ZoneI Go.Proofs.Ytmcflfpckpjphaa.WnZ Go.Proofs.Ytmcflfpckpjphaa.Res Go.Proofs.Ytmcflfpckpjphaa.Each Go.Proofs.Ytmcflfpckpjphaa.Copy Go.Proofs.Ytmcflfpckpjphaa.Ops Go.Proofs.Ytmcflfpckpjphaa.WinP Go.Proofs.Ytmcflfpckpjphaa.WnK Go.Proofs.Ytmcflfpckpjphaa.WnT Go.Proofs.Ytmcflfpckpjphaa.WnU

/-- It owns its memory, from lo on. -/
def Own1 (w : World) (lo : Nat) (S : WnS) (D : WnD) : Prop := ∃ hi, hi ≤ w.heap.size ∧ WnOwn w lo hi S D
set_option maxRecDepth 100000 in
theorem ofD_step (l : List Int) (k : Nat) : ofD l (k + 1) = addD (ofD l k) (l.getD k 0) := rfl
set_option maxRecDepth 100000 in
theorem ofD_len (l : List Int) (k : Nat) : (ofD l k).bits.length = 32 := (of_ok l k).len
set_option maxRecDepth 100000 in
set_option maxHeartbeats 8000000 in
theorem specWinOf (a : Option Addr) (n c : Nat) (l : List Int) (w : World) (h : ISRd w ⟨a, n, c⟩ l) (hl : l.length ≤ 4194304) : Calls Try.prog 105 #[.slice a n c] w (Made (ofD l l.length) w) := by
  have HR : Hid (ISRd w ⟨a, n, c⟩ l) := h
  have HN : Hid (n = l.length) := h.len
  have hn4 : n ≤ 4194304 := by have := HN.out; omega
  obtain ⟨x0, hx0⟩ : ∃ x0, w.alloc (.cells #[.int .i64 0, .slice none 0 0] 26) = x0 := ⟨_, rfl⟩
  have HW0 : Hid (_ = x0) := hx0
  have B0 : Hid (Below w.heap.size w x0) := by rw [← hx0]; exact (Below.refl _ _).alloc (Nat.le_refl _) _
  have KR0 : Hid (Blk x0 w.heap.size 26 [.int .i64 0, .slice none 0 0]) := by rw [← hx0]; exact Blk.new w _ _
  have HSZ : Hid (x0.heap.size = w.heap.size + 1) := by rw [← hx0]; show _ = _; simp
  clear hx0 h
  go_enter Try.func105, Try.ntmps105
  go_upto_region 1 with fail
  rw [HW0.out]
  go_wp2_with fail
  refine (specWinNew x0).mono ?_
  rintro e x1 ⟨S0, rfl, o1, b1⟩
  obtain ⟨x2, hx2⟩ : ∃ x2, x1.alloc (.cells #[.int .i64 (-1), .slice S0.bits.a S0.bits.n S0.bits.c] 26) = x2 := ⟨_, rfl⟩
  have HW2 : Hid (_ = x2) := hx2
  have b2 : Below x1.heap.size x1 x2 := by rw [← hx2]; exact (Below.refl _ _).alloc (Nat.le_refl _) _
  have b12 : Below x0.heap.size x0 x2 := b1.trans (b2.mono b1.size)
  have B2 : Hid (Below w.heap.size w x2) := B0.out.trans (b12.mono B0.out.size)
  have KR2 : Hid (Blk x2 w.heap.size 26 [.int .i64 0, .slice none 0 0]) := KR0.out.later b12
  have KO2 : Hid (Blk x2 x1.heap.size 26 [.int .i64 (ofD l 0).top, .slice S0.bits.a S0.bits.n S0.bits.c]) := by rw [← hx2]; exact Blk.new x1 _ _
  have O2 : Hid (Own1 x2 (w.heap.size + 1) S0 (ofD l 0)) := ⟨_, b2.size, by have := o1.later b2; rw [HSZ.out] at this; exact this⟩
  have HGO : Hid (w.heap.size + 1 ≤ x1.heap.size) := by have := b1.size; show _ ≤ _; have := HSZ.out; omega
  clear o1 b1 b2 b12 hx2 B0 KR0 HW0
  unfold wnV
  simp only
  go_upto_region 2 with fail
  rw [HW2.out]
  generalize x1.heap.size = go at *
  clear HW2
  go_wp2
  go_loopw [4] (fun i wr => ∃ (k : Nat) (S : WnS), k ≤ n ∧ i = .int .i64 k ∧ Blk wr go 26 [.int .i64 (ofD l k).top, .slice S.bits.a S.bits.n S.bits.c] ∧ Own1 wr (w.heap.size + 1) S (ofD l k) ∧ Blk wr w.heap.size 26 [.int .i64 0, .slice none 0 0] ∧ Below w.heap.size w wr) (fun i _ => n - (intOf i).toNat)
  case atStart => exact ⟨0, S0, Nat.zero_le _, rfl, KO2.out, O2.out, KR2.out, B2.out⟩
  case round =>
    obtain ⟨k, S, hk, rfl, hko, hown, hkr, hbe⟩ := hrel
    have HKR : Hid (Blk wr w.heap.size 26 [.int .i64 0, .slice none 0 0]) := hkr
    have HBe : Hid (Below w.heap.size w wr) := hbe
    obtain ⟨Dk, hDk⟩ : ∃ Dk, ofD l k = Dk := ⟨_, rfl⟩
    have HDk : Hid (ofD l k = Dk) := hDk
    have HDL : Hid (Dk.bits.length = 32) := by show _ = _; rw [← hDk]; exact ofD_len l k
    rw [hDk] at hko hown
    have HKO : Hid (Blk wr go 26 [.int .i64 Dk.top, .slice S.bits.a S.bits.n S.bits.c]) := hko
    have HOw : Hid (Own1 wr (w.heap.size + 1) S Dk) := hown
    clear hko hown hkr hbe hDk O2 KO2 KR2 B2
    by_cases hlt : k < n
    · have hltI : (k : Int) < (n : Int) := by omega
      obtain ⟨b, off, rfl, hb, hc⟩ := HR.out.rd k (by have := HN.out; omega)
      obtain ⟨z, hz⟩ : ∃ z, l.getD k 0 = z := ⟨_, rfl⟩
      rw [hz] at hc
      have HST : Hid (ofD l (k + 1) = addD Dk z) := by show _ = _; rw [ofD_step, HDk.out, hz]
      have HZ : Hid (wr.cell? ⟨b, off + k, none⟩ = some (.int .i64 z)) := by show _ = _; rw [HBe.out.cell hb]; exact hc
      have HBL : Hid (b < wr.heap.size) := Nat.lt_of_lt_of_le hb HBe.out.size
      have HRd : Hid (WnRd wr S Dk) := by obtain ⟨hi, _, ho⟩ := HOw.out; exact ho.rd
      clear hz hc hb
      go_upto_region 5 with fail
      have d0 : wr.drew.cell? ⟨go, 0, none⟩ = some (.int .i64 Dk.top) := HKO.out.cell 0 rfl
      have d1 : wr.drew.cell? ⟨go, 1, none⟩ = some (.slice S.bits.a S.bits.n S.bits.c) := HKO.out.cell 1 rfl
      have dz : wr.drew.cell? ⟨b, off + k, none⟩ = some (.int .i64 z) := HZ.out
      have HRD : Hid (WnRd wr.drew S Dk) := HRd.out.later (below_drewN (Below.refl _ _) 1)
      have HC0 : Hid (Calls Try.prog 114 #[.agg #[.int .i64 Dk.top, .slice S.bits.a S.bits.n S.bits.c], .int .i64 z] wr.drew fun e w' => ∃ S', e = .returned (.tuple #[.agg #[.int .i64 (ofD l (k + 1)).top, .slice S'.bits.a S'.bits.n S'.bits.c], .bool (winMay Dk.top Dk.bits z)]) ∧ WnOwn w' wr.heap.size w'.heap.size S' (ofD l (k + 1)) ∧ Below wr.heap.size wr.drew w') := by
        rw [HST.out]
        exact specWinAdd S Dk z wr.drew HRD.out (by rw [HDL.out]; omega)
      go_region_with (go_at_call 114; refine HC0.out.mono ?_; rintro e w6 ⟨S', rfl, o6, b6⟩; have q0 := (Blk.later (w := wr.drew) HKO.out b6).cell 0 rfl; have q1 := (Blk.later (w := wr.drew) HKO.out b6).cell 1 rfl; have f0 := (Blk.later (w := wr.drew) HKO.out b6).frozen 0; have f1 := (Blk.later (w := wr.drew) HKO.out b6).frozen 1)
      all_goals (
        have hKO6 : Blk w6 go 26 [.int .i64 Dk.top, .slice S.bits.a S.bits.n S.bits.c] := Blk.later (w := wr.drew) HKO.out b6
        have hO6 : Own1 w6 wr.heap.size S' (ofD l (k + 1)) := ⟨_, Nat.le_refl _, o6⟩
        obtain ⟨hi7, h71, h72⟩ := hO6
        obtain ⟨k7, o7, _⟩ := WnK.stored hKO6 h72 HKO.out.lt
        obtain ⟨wc, hwc⟩ : ∃ wc, (w6.setCell ⟨go, 0, none⟩ (.int .i64 (ofD l (k + 1)).top)).setCell ⟨go, 1, none⟩ (.slice S'.bits.a S'.bits.n S'.bits.c) = wc := ⟨_, rfl⟩
        have HWC : Hid (_ = wc) := hwc
        rw [hwc] at k7 o7
        have KO3 : Hid (Blk wc go 26 [.int .i64 (ofD l (k + 1)).top, .slice S'.bits.a S'.bits.n S'.bits.c]) := k7
        have O3 : Hid (Own1 wc (w.heap.size + 1) S' (ofD l (k + 1))) := ⟨hi7, by rw [← hwc, size2]; exact h71, o7.mono (by have := HKR.out.lt; omega) (Nat.le_refl _)⟩
        have KR3 : Hid (Blk wc w.heap.size 26 [.int .i64 0, .slice none 0 0]) := by rw [← hwc]; exact ((Blk.later (w := wr.drew) HKR.out b6).other (by show w.heap.size ≠ go; have := HGO.out; omega) _).other (by show w.heap.size ≠ go; have := HGO.out; omega) _
        have B3 : Hid (Below w.heap.size w wc) := by rw [← hwc]; exact ((HBe.out.drew.trans (b6.mono HBe.out.size)).setCell (by show w.heap.size ≤ go; have := HGO.out; omega) _).setCell (by show w.heap.size ≤ go; have := HGO.out; omega) _
        rw [HWC.out]
        clear hwc HWC hKO6 h71 h72 k7 o7 o6 b6 q0 q1 f0 f1 d0 d1 dz HKO HOw HKR HBe HZ HRd HRD HC0
        go_wp2
        go_roundw
        case rel => exact ⟨k + 1, S', by omega, by go_num, KO3.out, O3.out, KR3.out, B3.out⟩
        case measure => simp [intOf]; omega)
    · obtain rfl : k = n := by omega
      have HDD : Hid (ofD l l.length = Dk) := by show _ = _; rw [← HN.out, HDk.out]
      have o0 := HKO.out.cell 0 rfl
      have o1 := HKO.out.cell 1 rfl
      have q0 := HKR.out.cell 0 rfl
      have q1 := HKR.out.cell 1 rfl
      have f0 := HKR.out.frozen 0
      have f1 := HKR.out.frozen 1
      go_wp2
      obtain ⟨hi, h1, h2⟩ := HOw.out
      obtain ⟨k3, o3, b3⟩ := WnK.stored HKR.out h2 (Nat.le_refl _)
      exact bodyPost_ret (v := wnV Dk S) (res1 rfl (is_cell rfl k3 aggWn)) rfl (by rw [HDD.out]; exact ⟨S, rfl, o3.mono (by omega) (by rw [size2]; exact h1), b3 _ _ (Nat.le_refl _) HBe.out⟩)
end Go.Proofs.Ytmcflfpckpjphaa.WnV

namespace Go.Proofs.Ytmcflfpckpjphaa.WnG
open Go.RowKit Go.Proofs.Ytmcflfpckpjphaa.Zone Go.Proofs.Ytmcflfpckpjphaa.ZoneI Go.Proofs.Ytmcflfpckpjphaa.WnZ Go.Proofs.Ytmcflfpckpjphaa.WinP Go.Proofs.Ytmcflfpckpjphaa.WnK Go.Proofs.Ytmcflfpckpjphaa.WnV
set_option maxRecDepth 100000 in
theorem short_big {D : WnD} (h : WnShort D 65536) : WnShort D 4194304 := ⟨by have := h.bits; omega⟩
set_option maxRecDepth 100000 in
theorem short_big2 {D : WnD} (h : WnShort D 1048576) : WnShort D 4194304 := ⟨by have := h.bits; omega⟩
set_option maxRecDepth 100000 in
theorem short_mid {D : WnD} (h : WnShort D 65536) : WnShort D 1048576 := ⟨by have := h.bits; omega⟩
set_option maxRecDepth 100000 in
theorem sum_le {w : World} {S : WnS} {D : WnD} (r : WnRd w S D) (h : WnShort D 1048576) : (1 : Int) + (wnSum S : Int) ≤ 4194304 := by
  unfold wnSum
  have a1 := r.bits.len
  have b1 := h.bits
  omega
set_option maxRecDepth 100000 in
theorem new_short : WnShort ⟨-1, zeros⟩ 65536 := ⟨by decide⟩
set_option maxRecDepth 100000 in
theorem of_short (l : List Int) (k : Nat) : WnShort (ofD l k) 65536 := ⟨by rw [ofD_len]; omega⟩
set_option maxRecDepth 100000 in
theorem add_short {D : WnD} (n : Int) (h : WnShort D 1048576) : WnShort (addD D n) 1048576 := ⟨by
  have := h.bits
  show (addBits D.top D.bits n).length ≤ _
  unfold addBits
  split
  · rw [addL_length]; omega
  · omega⟩
set_option maxRecDepth 100000 in
theorem add_bits_len (D : WnD) (n : Int) (h : D.bits.length = 32) : (addD D n).bits.length = 32 := by
  show (addBits D.top D.bits n).length = 32
  unfold addBits
  split
  · rw [addL_length, h]
  · exact h
end Go.Proofs.Ytmcflfpckpjphaa.WnG
