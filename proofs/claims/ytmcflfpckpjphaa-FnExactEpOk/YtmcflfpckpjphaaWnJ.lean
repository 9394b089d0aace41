/-
  impl's windows: what room a word has, whether a window is right, reading one from what it tells, telling it, listing it.
-/
import Derived.Test.YtmcflfpckpjphaaWnI
namespace Go.Proofs.Ytmcflfpckpjphaa.WnJ
open Go.RowKit Go.Proofs.Ytmcflfpckpjphaa.Mem Go.Proofs.Ytmcflfpckpjphaa.MemI Go.Proofs.Ytmcflfpckpjphaa.Blk Go.Proofs.Ytmcflfpckpjphaa.Zone Go.Proofs.Ytmcflfpckpjphaa.ZoneI Go.Proofs.Ytmcflfpckpjphaa.WnZ Go.Proofs.Ytmcflfpckpjphaa.Res Go.Proofs.Ytmcflfpckpjphaa.Each Go.Proofs.Ytmcflfpckpjphaa.Copy Go.Proofs.Ytmcflfpckpjphaa.Ops Go.Proofs.Ytmcflfpckpjphaa.WinP Go.Proofs.Ytmcflfpckpjphaa.WinB Go.Proofs.Ytmcflfpckpjphaa.Bits Go.Proofs.Ytmcflfpckpjphaa.WnI

def room (i : Nat) (top : Int) : Nat := 2 ^ min (top + 1 - 32 * i).toNat 32 - 1
set_option maxRecDepth 100000 in
set_option maxHeartbeats 800000 in
theorem roomIn (i : Nat) (top : Int) (w : World) (hi : i < 32) (lo : -1 ≤ top) (ht : top ≤ 281474976710655) :
    Calls Try.prog 107 #[.int .i64 i, .int .i64 top] w fun e w' => e = .returned (.int .u32 (room i top : Nat)) ∧ w = w' := by
  by_cases h : 0 < top + 1 - (i : Int) * 32
  · obtain ⟨A, hA⟩ : ∃ A : Nat, top + 1 - (i : Int) * 32 = (A : Int) := ⟨(top + 1 - (i : Int) * 32).toNat, by omega⟩
    have h0 : (0 : Int) ≤ A := by omega
    rw [hA] at h
    have HR : Hid (room i top = 2 ^ min A 32 - 1) := by show _ = _; unfold room; rw [show (top + 1 - 32 * (i : Int)).toNat = A by omega]
    go_enter Try.func107, Try.ntmps107
    go_wp2
    go_ret
    refine ⟨?_, rfl⟩
    show Ending.returned (.int .u32 (((2 : Int) ^ min A 32 % 4294967296 - 1) % 4294967296)) = _
    rw [HR.out]
    have p1 : 2 ^ min A 32 ≤ 2 ^ 32 := Nat.pow_le_pow_right (by omega) (by omega)
    have p0 : 0 < 2 ^ min A 32 := Nat.two_pow_pos _
    obtain ⟨M, hM⟩ : ∃ M : Nat, 2 ^ min A 32 = M := ⟨_, rfl⟩
    have e2 : (2 : Int) ^ min A 32 = (M : Int) := by rw [← hM]; simp
    rw [hM] at p1 p0
    rw [e2, hM, show ((M : Int) % 4294967296 - 1) % 4294967296 = ((M - 1 : Nat) : Int) by omega]
  · go_enter Try.func107, Try.ntmps107
    go_wp2
    go_ret
    refine ⟨?_, rfl⟩
    unfold room
    rw [show (top + 1 - 32 * (i : Int)).toNat = 0 by omega]
    rfl

/-- Nothing is set above the top. -/
def Free (top : Int) (l : List Int) : Prop := ∀ n : Nat, top < (n : Int) → n < 1024 → bit l n = false
open Classical in
noncomputable def winRight (top : Int) (l : List Int) : Bool := decide (Free top l) && (decide (top = -1) || WinP.has top l top)
theorem right_true {top : Int} {l : List Int} : winRight top l = true ↔ Free top l ∧ (top = -1 ∨ WinP.has top l top = true) := by
  unfold winRight; simp
theorem ok_right {top : Int} {l : List Int} (hl : l.length = 32) (lo : -1 ≤ top) (hi : top ≤ 281474976710655) (hw : Words l) : winRight top l = winOk top l := by
  rw [Bool.eq_iff_iff, winOk_iff, right_true]
  constructor
  · rintro ⟨h1, h2⟩
    refine ⟨hl, lo, hi, hw, fun h0 => ?_, h1⟩
    rcases h2 with h2 | h2
    · omega
    · rwa [has_yes (by omega)] at h2
  · intro h
    refine ⟨h.free, ?_⟩
    by_cases h0 : top = -1
    · exact .inl h0
    · right
      rw [has_yes (by omega)]
      exact h.taken (by omega)
theorem word_free {top : Int} {l : List Int} {i X : Nat} (hi : i < 32) (hx : l.getD i 0 = (X : Int)) (hX : X < 4294967296) :
    (bits .andNot .u32 (X : Int) ((room i top : Nat) : Int) != 0) = false ↔ ∀ n : Nat, top < (n : Int) → 32 * i ≤ n → n < 32 * i + 32 → bit l n = false := by
  have hR : room i top < 4294967296 := by
    unfold room
    have : 2 ^ min (top + 1 - 32 * (i : Int)).toNat 32 ≤ 2 ^ 32 := Nat.pow_le_pow_right (by omega) (by omega)
    omega
  have e : (bits .andNot .u32 (X : Int) ((room i top : Nat) : Int) != 0) = false ↔ X ^^^ (X &&& room i top) = 0 := by
    rw [andNot_u32 X _ hX hR, bne_eq_false_iff_eq]
    omega
  have hb : ∀ n : Nat, 32 * i ≤ n → n < 32 * i + 32 → bit l n = X.testBit (n - 32 * i) := by
    intro n h1 h2
    unfold bit
    rw [show n % 1024 / 32 = i by omega, show n % 32 = n - 32 * i by omega, hx, Int.toNat_natCast]
  rw [e]
  unfold room
  rw [room_zero X _ hX]
  constructor
  · intro h n h1 h2 h3
    rw [hb n h2 h3]
    exact h _ (by omega) (by omega)
  · intro h j h1 h2
    have := h (32 * i + j) (by omega) (by omega) (by omega)
    rw [hb _ (by omega) (by omega)] at this
    rwa [show 32 * i + j - 32 * i = j by omega] at this

set_option maxRecDepth 100000 in
set_option maxHeartbeats 4000000 in
theorem right (g : Nat) (top : Int) (l : List Int) (w : World) (h : Wnd w g top l) (lo : -1 ≤ top) (ht : top ≤ 281474976710655) :
    Calls Try.prog 87 #[.pointer (some ⟨g, 0, none⟩)] w fun e w' => e = .returned (.bool (winRight top l)) ∧ Below w.heap.size w w' := by
  have H0 : Hid (Wnd w g top l) := h
  obtain ⟨v, hv⟩ : ∃ v, winRight top l = v := ⟨_, rfl⟩
  have HV : Hid (winRight top l = v) := hv
  rw [hv]
  clear hv h
  go_enter Try.func87, Try.ntmps87
  go_wp2
  go_loopw [4] (fun i wr => ∃ k : Nat, k ≤ 32 ∧ i = .int .i64 k ∧ Hid (∀ n : Nat, top < (n : Int) → n < 32 * k → bit l n = false) ∧ Below w.heap.size w wr) (fun i _ => 32 - (intOf i).toNat)
  case atStart => exact ⟨0, Nat.zero_le _, rfl, fun n _ h => absurd h (by omega), Below.refl _ _⟩
  case round =>
    obtain ⟨k, hk, rfl, HF, hbe⟩ := hrel
    have HBe : Hid (Below w.heap.size w wr) := hbe
    have HW : Hid (Wnd wr g top l) := H0.out.later hbe
    have c0 := HW.out.topCell
    clear hbe
    by_cases hlt : k < 32
    · obtain ⟨x, hx⟩ : ∃ x, l.getD k 0 = x := ⟨_, rfl⟩
      have HX : Hid (l.getD k 0 = x) := hx
      have hx2 := HW.out.2.1.at k
      rw [hx] at hx2
      obtain ⟨X, rfl⟩ := Int.eq_ofNat_of_zero_le hx2.1
      have hxl : X < 4294967296 := by omega
      have c1 : wr.cell? ⟨g, 1 + k, none⟩ = some (.int .u32 (X : Int)) := by rw [HW.out.word k hlt, hx]
      have HWF := word_free (top := top) hlt hx hxl
      clear hx hx2 hxl
      obtain ⟨R, hR⟩ : ∃ R : Int, ((room k top : Nat) : Int) = R := ⟨_, rfl⟩
      have HR : Hid (((room k top : Nat) : Int) = R) := hR
      have HRI : Hid (∀ wz : World, Calls Try.prog 107 #[.int .i64 k, .int .i64 top] wz fun e w' => e = .returned (.int .u32 R) ∧ ∃ m, w' = wz.drewN m) := by
        intro wz
        rw [← hR]
        refine (roomIn k top wz hlt lo ht).mono ?_
        rintro e w' ⟨rfl, rfl⟩
        exact ⟨rfl, 0, rfl⟩
      rw [hR] at HWF
      clear hR HR
      have HWF2 : Hid _ := HWF
      clear HWF
      generalize (X : Int) = x at *
      cases hz : (bits .andNot .u32 x R != 0) with
      | false =>
        have HF2 : Hid (∀ n : Nat, top < (n : Int) → n < 32 * (k + 1) → bit l n = false) := by
          intro n h1 h2
          by_cases h3 : n < 32 * k
          · exact HF.out n h1 h3
          · exact HWF2.out.1 hz n h1 (by omega) (by omega)
        go_wp2
        go_quiet (first | (go_at_call 107; refine Calls.quiet_of (HRI.out _)))
        go_wp2
        go_roundw
        case rel => exact ⟨k + 1, by omega, by go_num, HF2, below_drewN HBe.out _⟩
        case measure => simp [intOf]; omega
      | true =>
        have HFF : Hid (v = false) := by
          show v = false
          rw [← HV.out]
          refine Bool.eq_false_iff.2 fun e => ?_
          have hfree := (right_true.1 e).1
          rw [HWF2.out.2 (fun n h1 h2 h3 => hfree n h1 (by omega))] at hz
          cases hz
        go_wp2
        go_quiet (first | (go_at_call 107; refine Calls.quiet_of (HRI.out _)))
        go_wp2
        go_ret
        exact ⟨by rw [HFF.out]; rfl, below_drewN HBe.out _⟩
    · have HFr : Hid (Free top l) := fun n h1 h2 => HF.out n h1 (by omega)
      by_cases h1 : top = -1
      · have HT : Hid (v = true) := by
          show v = true
          rw [← HV.out]
          exact right_true.2 ⟨HFr.out, .inl h1⟩
        subst h1
        go_wp2
        go_ret
        exact ⟨by rw [HT.out]; rfl, HBe.out⟩
      · have hb1 : (top == -1) = false := by simpa using h1
        have HT : Hid (WinP.has top l top = v) := by
          show _ = v
          rw [← HV.out]
          rw [Bool.eq_iff_iff, right_true]
          exact ⟨fun h => ⟨HFr.out, .inr h⟩, fun h => h.2.resolve_left h1⟩
        go_wp2_with fail
        refine (has g top l top wr HW.out lo ht).mono ?_
        rw [HT.out]
        rintro e w2 ⟨rfl, b2⟩
        have B2 : Hid (Below w.heap.size w w2) := HBe.out.trans (b2.mono HBe.out.size)
        clear b2 c0
        go_wp2
        go_ret
        exact ⟨by first | rfl | simp, B2.out⟩
end Go.Proofs.Ytmcflfpckpjphaa.WnJ
