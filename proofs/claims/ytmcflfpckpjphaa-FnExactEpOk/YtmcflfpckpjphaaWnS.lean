/-
  The specification's windows: whether one is right, has a number, may take one.
-/
import Derived.Test.YtmcflfpckpjphaaWnZ
import Derived.Test.YtmcflfpckpjphaaWinB
namespace Go.Proofs.Ytmcflfpckpjphaa.WnS
open Go.RowKit Go.Proofs.Ytmcflfpckpjphaa.Mem Go.Proofs.Ytmcflfpckpjphaa.MemI Go.Proofs.Ytmcflfpckpjphaa.Blk Go.Proofs.Ytmcflfpckpjphaa.Zone Go.Proofs.Ytmcflfpckpjphaa.ZoneI Go.Proofs.Ytmcflfpckpjphaa.WnZ Go.Proofs.Ytmcflfpckpjphaa.WinP Go.Proofs.Ytmcflfpckpjphaa.Bits Go.Proofs.Ytmcflfpckpjphaa.WinB

set_option maxRecDepth 100000 in
set_option maxHeartbeats 400000 in
theorem l1In (x a b : Int) (w : World) :
    Calls Try.prog 53 #[.int .i64 x, .int .i64 a, .int .i64 b] w fun e w' => e = .returned (.bool (decide (a ≤ x ∧ x ≤ b))) ∧ w = w' := by
  by_cases h1 : a ≤ x
  · by_cases h2 : x ≤ b
    · rw [decide_eq_true ⟨h1, h2⟩]
      go_enter Try.func53, Try.ntmps53
      go_wp2
      go_ret
      exact ⟨rfl, rfl⟩
    · rw [decide_eq_false (fun h => h2 h.2)]
      go_enter Try.func53, Try.ntmps53
      go_wp2
      go_ret
      exact ⟨rfl, rfl⟩
  · rw [decide_eq_false (fun h => h1 h.1)]
    go_enter Try.func53, Try.ntmps53
    go_wp2
    go_ret
    exact ⟨rfl, rfl⟩
set_option maxRecDepth 100000 in
set_option maxHeartbeats 400000 in
theorem l8Least (t : Int) (w : World) (h0 : -1 ≤ t) (h1 : t ≤ 281474976710655) :
    Calls Try.prog 55 #[.int .i64 t] w fun e w' => e = .returned (.int .i64 (least t)) ∧ w = w' := by
  unfold least
  by_cases h : t < 1024
  · rw [if_pos h]
    go_enter Try.func55, Try.ntmps55
    go_wp2
    go_ret
    exact ⟨rfl, rfl⟩
  · rw [if_neg h]
    have e1 : IntKind.i64.wrap (t - 1024) = t - 1024 := by rw [IntKind.wrap_i64]; omega
    have e2 : IntKind.i64.wrap (t - 1024 + 1) = t - 1024 + 1 := by rw [IntKind.wrap_i64]; omega
    go_enter Try.func55, Try.ntmps55
    go_wp2
    go_ret
    exact ⟨by rfl, rfl⟩
set_option maxRecDepth 100000 in
set_option maxHeartbeats 800000 in
theorem l8Bit (D : WnD) (S : WnS) (z : Int) (w : World) (h : WnRd w S D) (hl : D.bits.length = 32) (hw : Words D.bits) (hz : 0 ≤ z) (hn : z ≤ 281474976710655) :
    Calls Try.prog 54 #[wnV D S, .int .i64 z] w fun e w' => e = .returned (.bool (bit D.bits z.toNat)) ∧ Below w.heap.size w w' := by
  obtain ⟨n, rfl⟩ := Int.eq_ofNat_of_zero_le hz
  rw [Int.toNat_natCast]
  obtain ⟨b, off, ha, hb, hc⟩ := h.bits.rd (n % 1024 / 32) (by omega)
  have hx := hw.at (n % 1024 / 32)
  have HB : Hid (bit D.bits n = (D.bits.getD (n % 1024 / 32) 0).toNat.testBit (n % 32)) := rfl
  rw [HB.out]
  have hlen := h.bits.len
  rw [hl] at hlen
  obtain ⟨top, bits⟩ := D
  obtain ⟨⟨sa, sn, sc⟩⟩ := S
  simp only at *
  subst ha
  subst hlen
  have b0 : Hid (Below w.heap.size w (w.alloc (.cells #[.int .i64 top, .slice (some ⟨b, off, none⟩) 32 sc] 26))) := (Below.refl _ _).alloc (Nat.le_refl _) _
  have hc' : (w.alloc (.cells #[.int .i64 top, .slice (some ⟨b, off, none⟩) 32 sc] 26)).cell? ⟨b, off + n % 1024 / 32, none⟩ = some (.int .i64 (bits.getD (n % 1024 / 32) 0)) := by
    rw [b0.out.cell hb]; exact hc
  generalize bits.getD (n % 1024 / 32) 0 = x at *
  obtain ⟨X, rfl⟩ := Int.eq_ofNat_of_zero_le hx.1
  clear hc h hl hw HB
  unfold wnV
  simp only [Int.toNat_natCast]
  obtain ⟨p, hp⟩ : ∃ p, n % 1024 / 32 = p := ⟨_, rfl⟩
  obtain ⟨k, hk⟩ : ∃ k, n % 32 = k := ⟨_, rfl⟩
  rw [hp] at hc'
  rw [hk]
  have hpl : p < 32 := by omega
  have hkl : k < 32 := by omega
  go_enter Try.func54, Try.ntmps54
  go_wp2
  go_ret
  exact ⟨by rw [tb_i64]; rfl, b0.out⟩

/-- The struct in a block of its own. -/
theorem boxed (w : World) (D : WnD) (S : WnS) : ∃ x0, w.alloc (.cells #[.int .i64 D.top, .slice S.bits.a S.bits.n S.bits.c] 26) = x0 ∧ Blk x0 w.heap.size 26 [.int .i64 D.top, .slice S.bits.a S.bits.n S.bits.c] ∧ Below w.heap.size w x0 ∧ x0.heap.size = w.heap.size + 1 :=
  ⟨_, rfl, Blk.new w _ _, (Below.refl _ _).alloc (Nat.le_refl _) _, by simp⟩
/-- Where its words lie. -/
theorem based {w : World} {s : Sl} {l : List Int} (h : ISRd w s l) (hl : l.length = 32) : ∃ b off c, s = ⟨some ⟨b, off, none⟩, 32, c⟩ ∧ b < w.heap.size ∧ ∀ i : Nat, i < 32 → w.cell? ⟨b, off + i, none⟩ = some (.int .i64 (l.getD i 0)) := by
  obtain ⟨b, off, e, hb, _⟩ := h.rd 0 (by omega)
  obtain ⟨sa, sn, sc⟩ := s
  have hn := h.len
  simp only at e hn
  subst e
  refine ⟨b, off, sc, by rw [hn, hl], hb, fun i hi => ?_⟩
  obtain ⟨b', off', e', _, hc⟩ := h.rd i (by omega)
  simp only [Option.some.injEq, Addr.mk.injEq, and_true] at e'
  obtain ⟨rfl, rfl⟩ := e'
  exact hc
theorem words_take {l : List Int} {k : Nat} (h : ∀ i : Nat, i < k → 0 ≤ l.getD i 0 ∧ l.getD i 0 ≤ 4294967295) (hk : k = l.length) : Words l := by
  intro z hz
  obtain ⟨i, hi, rfl⟩ := List.getElem_of_mem hz
  have := h i (by omega)
  simpa [List.getD, hi] using this

set_option maxRecDepth 100000 in
set_option maxHeartbeats 4000000 in
theorem specWinOk (S : WnS) (D : WnD) (w : World) (h : WnRd w S D) :
    Calls Try.prog 13 #[wnV D S] w fun e w' => e = .returned (.bool (winOk D.top D.bits)) ∧ Below w.heap.size w w' := by
  have HR : Hid (WnRd w S D) := h
  obtain ⟨v, hv⟩ : ∃ v, winOk D.top D.bits = v := ⟨_, rfl⟩
  have HV : Hid (winOk D.top D.bits = v) := hv
  obtain ⟨x0, hx0, k0, b0, _⟩ := boxed w D S
  have HW0 : Hid (_ = x0) := hx0
  have B0 : Hid (Below w.heap.size w x0) := b0
  have KA : Hid (Blk x0 w.heap.size 26 [.int .i64 D.top, .slice S.bits.a S.bits.n S.bits.c]) := k0
  rw [hv]
  clear h hv hx0 k0 b0
  have hlen := HR.out.bits.len
  by_cases hl : D.bits.length = 32
  · obtain ⟨b, off, c, rfl, hb, hce⟩ : ∃ b off c, S = ⟨⟨some ⟨b, off, none⟩, 32, c⟩⟩ ∧ b < w.heap.size ∧ ∀ i : Nat, i < 32 → w.cell? ⟨b, off + i, none⟩ = some (.int .i64 (D.bits.getD i 0)) := by
      obtain ⟨b, off, c, h1, h2, h3⟩ := based HR.out.bits hl
      exact ⟨b, off, c, by cases S; simp only at h1; rw [h1], h2, h3⟩
    have HCE : Hid (∀ i : Nat, i < 32 → w.cell? ⟨b, off + i, none⟩ = some (.int .i64 (D.bits.getD i 0))) := hce
    have HL : Hid (D.bits.length = 32) := hl
    clear hl hlen hce
    simp only at KA HW0
    have c0 := KA.out.cell 0 rfl
    have c1 := KA.out.cell 1 rfl
    by_cases ht : -1 ≤ D.top ∧ D.top ≤ 281474976710655
    · have HT : Hid (-1 ≤ D.top ∧ D.top ≤ 281474976710655) := ht
      clear ht
      unfold wnV
      simp only
      go_enter Try.func13, Try.ntmps13
      go_upto_region 1 with fail
      rw [HW0.out]
      go_wp2_with fail
      refine (l1In D.top (-1) 281474976710655 x0).mono ?_
      rw [decide_eq_true HT.out]
      rintro e w2 ⟨rfl, rfl⟩
      go_wp2
      go_loop [3] (fun i => ∃ k : Nat, k ≤ 32 ∧ i = .int .i64 k ∧ Hid (∀ i : Nat, i < k → 0 ≤ D.bits.getD i 0 ∧ D.bits.getD i 0 ≤ 4294967295)) (fun i => 32 - (intOf i).toNat)
      case atStart => exact ⟨0, Nat.zero_le _, rfl, fun i hi => absurd hi (Nat.not_lt_zero _)⟩
      case round =>
        obtain ⟨k, hk, rfl, HK⟩ := hrel
        by_cases hlt : k < 32
        · obtain ⟨x, hx⟩ : ∃ x, D.bits.getD k 0 = x := ⟨_, rfl⟩
          have HX : Hid (D.bits.getD k 0 = x) := hx
          have hc : x0.cell? ⟨b, off + k, none⟩ = some (.int .i64 x) := by rw [B0.out.cell hb, HCE.out k hlt, hx]
          clear hx
          go_wp2_with fail
          refine (l1In x 0 4294967295 x0).mono ?_
          by_cases hin : 0 ≤ x ∧ x ≤ 4294967295
          · rw [decide_eq_true hin]
            rintro e w2 ⟨rfl, rfl⟩
            have HK2 : Hid (∀ i : Nat, i < k + 1 → 0 ≤ D.bits.getD i 0 ∧ D.bits.getD i 0 ≤ 4294967295) := by
              intro i hi
              by_cases hik : i = k
              · rw [hik, HX.out]; exact hin
              · exact HK.out i (by omega)
            clear hin hc
            go_wp2
            go_round
            case rel => exact ⟨k + 1, by omega, by go_num, HK2⟩
            case measure => simp [intOf]; omega
          · rw [decide_eq_false hin]
            rintro e w2 ⟨rfl, rfl⟩
            have HF : Hid (v = false) := by
              show v = false
              rw [← HV.out]
              refine winOk_false fun hok => hin ?_
              have := hok.words.at k
              rwa [HX.out] at this
            clear hin hc
            go_wp2
            go_ret
            exact ⟨by rw [HF.out]; rfl, B0.out⟩
        · have HWd : Hid (Words D.bits) := words_take HK.out (by have := HL.out; omega)
          clear HK HCE
          -- the top
          have HWT : Hid (IntKind.i64.wrap (D.top + 1) = D.top + 1) := by show _ = _; rw [IntKind.wrap_i64]; have := HT.out; omega
          -- the top
          have HWT : Hid (wrap64 (D.top + 1) = D.top + 1) := by show wrap64 _ = _; unfold wrap64; have := HT.out; omega
          -- the top
          have HWT : Hid (wrap64 (D.top + 1) = D.top + 1) := by show wrap64 _ = _; unfold wrap64; have := HT.out; omega
          -- the top
          have HWT : Hid (wrap64 (D.top + 1) = D.top + 1) := by show wrap64 _ = _; unfold wrap64; have := HT.out; omega
          -- the top
          have HWT : Hid (wrap64 (D.top + 1) = D.top + 1) := by show wrap64 _ = _; unfold wrap64; have := HT.out; omega
          -- the top
          have HWT : Hid (wrap64 (D.top + 1) = D.top + 1) := by show wrap64 _ = _; unfold wrap64; have := HT.out; omega
          by_cases h0 : 0 ≤ D.top
          · have h0' : D.top ≥ 0 := h0
            go_wp2_with fail
            refine (l8Bit D ⟨⟨some ⟨b, off, none⟩, 32, c⟩⟩ D.top x0 (HR.out.later B0.out) HL.out HWd.out h0 HT.out.2).mono ?_
            cases hbit : bit D.bits D.top.toNat with
            | false =>
              have HF : Hid (v = false) := by
                show v = false
                rw [← HV.out]
                refine winOk_false fun hok => ?_
                have := hok.taken h0
                rw [hbit] at this
                cases this
              clear hbit
              rintro e w3 ⟨rfl, b3⟩
              have B3 : Hid (Below w.heap.size w w3) := B0.out.trans (b3.mono B0.out.size)
              clear b3
              go_wp2
              go_ret
              exact ⟨by rw [HF.out]; rfl, B3.out⟩
            | true =>
            have HBit : Hid (bit D.bits D.top.toNat = true) := hbit
            clear hbit
            rintro e x1 ⟨rfl, b3⟩
            have B1 : Hid (Below w.heap.size w x1) := B0.out.trans (b3.mono B0.out.size)
            have KA1 : Hid (Blk x1 w.heap.size 26 [.int .i64 D.top, .slice (some ⟨b, off, none⟩) 32 c]) := KA.out.later b3
            clear b3 c0 c1 B0 KA
            have c0 := KA1.out.cell 0 rfl
            have c1 := KA1.out.cell 1 rfl
            go_wp2
            clear c0 c1
            go_loopw [4] (fun i wr => ∃ k : Int, -1 < k ∧ D.top < k ∧ (k ≤ 1024 ∨ k = D.top + 1) ∧ i = .int .i64 k ∧ Hid (∀ n : Nat, D.top < (n : Int) → (n : Int) < k → bit D.bits n = false) ∧ Blk wr w.heap.size 26 [.int .i64 D.top, .slice (some ⟨b, off, none⟩) 32 c] ∧ Below w.heap.size w wr)
              (fun i _ => (1024 - intOf i).toNat)
            case atStart => exact ⟨D.top + 1, by have := HT.out; omega, by omega, .inr rfl, by rw [HWT.out], fun n h1 h2 => by omega, KA1.out, B1.out⟩
            case round =>
              obtain ⟨k, hk0, hk1, hk2, rfl, HK, hka, hbe⟩ := hrel
              have KB : Hid (Blk wr w.heap.size 26 [.int .i64 D.top, .slice (some ⟨b, off, none⟩) 32 c]) := hka
              have BB : Hid (Below w.heap.size w wr) := hbe
              have c0 := KB.out.cell 0 rfl
              have c1 := KB.out.cell 1 rfl
              clear hka hbe KA1 B1
              by_cases hlt : k < 1024
              · go_wp2_with fail
                refine (l8Bit D ⟨⟨some ⟨b, off, none⟩, 32, c⟩⟩ k wr (HR.out.later BB.out) HL.out HWd.out (by omega) (by omega)).mono ?_
                cases hbit : bit D.bits k.toNat with
                | true =>
                  have HF : Hid (v = false) := by
                    show v = false
                    rw [← HV.out]
                    refine winOk_false fun hok => ?_
                    have := hok.free k.toNat (by omega) (by omega)
                    rw [hbit] at this
                    cases this
                  clear hbit
                  rintro e w3 ⟨rfl, b3⟩
                  have B3 : Hid (Below w.heap.size w w3) := BB.out.trans (b3.mono BB.out.size)
                  clear b3
                  go_wp2
                  go_ret
                  exact ⟨by rw [HF.out]; rfl, B3.out⟩
                | false =>
                  have HK2 : Hid (∀ n : Nat, D.top < (n : Int) → (n : Int) < k + 1 → bit D.bits n = false) := by
                    intro n h1 h2
                    by_cases hnk : (n : Int) = k
                    · rw [show n = k.toNat by omega]; exact hbit
                    · exact HK.out n h1 (by omega)
                  clear hbit
                  rintro e w3 ⟨rfl, b3⟩
                  have B3 : Hid (Below w.heap.size w w3) := BB.out.trans (b3.mono BB.out.size)
                  have K3 : Hid (Blk w3 w.heap.size 26 [.int .i64 D.top, .slice (some ⟨b, off, none⟩) 32 c]) := KB.out.later b3
                  clear b3
                  go_wp2
                  go_roundw
                  case rel => exact ⟨k + 1, by omega, by omega, by omega, rfl, HK2, K3.out, B3.out⟩
                  case measure => simp [intOf]; omega
              · have HF : Hid (v = true) := by
                  show v = true
                  rw [← HV.out]
                  exact winOk_true ⟨HL.out, HT.out.1, HT.out.2, HWd.out, fun _ => HBit.out, fun n h1 h2 => HK.out n h1 (by omega)⟩
                go_wp2
                go_ret
                exact ⟨by rw [HF.out]; rfl, BB.out⟩
          · have h0' : ¬ D.top ≥ 0 := h0
            have B1 : Hid (Below w.heap.size w x0) := B0.out
            have KA1 : Hid (Blk x0 w.heap.size 26 [.int .i64 D.top, .slice (some ⟨b, off, none⟩) 32 c]) := KA.out
            clear B0 KA
            go_wp2
            clear c0 c1
            go_loopw [4] (fun i wr => ∃ k : Int, -1 < k ∧ D.top < k ∧ (k ≤ 1024 ∨ k = D.top + 1) ∧ i = .int .i64 k ∧ Hid (∀ n : Nat, D.top < (n : Int) → (n : Int) < k → bit D.bits n = false) ∧ Blk wr w.heap.size 26 [.int .i64 D.top, .slice (some ⟨b, off, none⟩) 32 c] ∧ Below w.heap.size w wr)
              (fun i _ => (1024 - intOf i).toNat)
            case atStart => exact ⟨D.top + 1, by have := HT.out; omega, by omega, .inr rfl, by rw [HWT.out], fun n h1 h2 => by omega, KA1.out, B1.out⟩
            case round =>
              obtain ⟨k, hk0, hk1, hk2, rfl, HK, hka, hbe⟩ := hrel
              have KB : Hid (Blk wr w.heap.size 26 [.int .i64 D.top, .slice (some ⟨b, off, none⟩) 32 c]) := hka
              have BB : Hid (Below w.heap.size w wr) := hbe
              have c0 := KB.out.cell 0 rfl
              have c1 := KB.out.cell 1 rfl
              clear hka hbe KA1 B1
              by_cases hlt : k < 1024
              · go_wp2_with fail
                refine (l8Bit D ⟨⟨some ⟨b, off, none⟩, 32, c⟩⟩ k wr (HR.out.later BB.out) HL.out HWd.out (by omega) (by omega)).mono ?_
                cases hbit : bit D.bits k.toNat with
                | true =>
                  have HF : Hid (v = false) := by
                    show v = false
                    rw [← HV.out]
                    refine winOk_false fun hok => ?_
                    have := hok.free k.toNat (by omega) (by omega)
                    rw [hbit] at this
                    cases this
                  clear hbit
                  rintro e w3 ⟨rfl, b3⟩
                  have B3 : Hid (Below w.heap.size w w3) := BB.out.trans (b3.mono BB.out.size)
                  clear b3
                  go_wp2
                  go_ret
                  exact ⟨by rw [HF.out]; rfl, B3.out⟩
                | false =>
                  have HK2 : Hid (∀ n : Nat, D.top < (n : Int) → (n : Int) < k + 1 → bit D.bits n = false) := by
                    intro n h1 h2
                    by_cases hnk : (n : Int) = k
                    · rw [show n = k.toNat by omega]; exact hbit
                    · exact HK.out n h1 (by omega)
                  clear hbit
                  rintro e w3 ⟨rfl, b3⟩
                  have B3 : Hid (Below w.heap.size w w3) := BB.out.trans (b3.mono BB.out.size)
                  have K3 : Hid (Blk w3 w.heap.size 26 [.int .i64 D.top, .slice (some ⟨b, off, none⟩) 32 c]) := KB.out.later b3
                  clear b3
                  go_wp2
                  go_roundw
                  case rel => exact ⟨k + 1, by omega, by omega, by omega, rfl, HK2, K3.out, B3.out⟩
                  case measure => simp [intOf]; omega
              · have HF : Hid (v = true) := by
                  show v = true
                  rw [← HV.out]
                  exact winOk_true ⟨HL.out, HT.out.1, HT.out.2, HWd.out, fun h => absurd h (by omega), fun n h1 h2 => HK.out n h1 (by omega)⟩
                go_wp2
                go_ret
                exact ⟨by rw [HF.out]; rfl, BB.out⟩
    · have HF : Hid (v = false) := by
        show v = false
        rw [← HV.out]
        exact winOk_false fun hok => ht ⟨hok.lo, hok.hi⟩
      have hd : decide (-1 ≤ D.top ∧ D.top ≤ 281474976710655) = false := decide_eq_false ht
      clear ht
      unfold wnV
      simp only
      go_enter Try.func13, Try.ntmps13
      go_upto_region 1 with fail
      rw [HW0.out]
      go_wp2_with fail
      refine (l1In D.top (-1) 281474976710655 x0).mono ?_
      rw [hd]
      rintro e w2 ⟨rfl, rfl⟩
      clear hd
      go_wp2
      go_ret
      exact ⟨by rw [HF.out]; rfl, B0.out⟩
  · have HF : Hid (v = false) := by
      show v = false
      rw [← HV.out]
      exact winOk_false fun hok => hl hok.len
    have hnI : ((S.bits.n : Int) != 32) = true := by
      have : ¬ (S.bits.n : Int) = 32 := by omega
      simpa using this
    have c0 := KA.out.cell 0 rfl
    have c1 := KA.out.cell 1 rfl
    clear hl hlen
    unfold wnV
    go_enter Try.func13, Try.ntmps13
    go_upto_region 1 with fail
    rw [HW0.out]
    go_wp2
    go_ret
    exact ⟨by rw [HF.out]; rfl, B0.out⟩

theorem has_no {top : Int} {l : List Int} {n : Int} (h : ¬ (0 ≤ n ∧ n ≤ top ∧ top - 1024 < n)) : has top l n = false := by unfold has; rw [decide_eq_false h, Bool.false_and]
theorem has_yes {top : Int} {l : List Int} {n : Int} (h : 0 ≤ n ∧ n ≤ top ∧ top - 1024 < n) : has top l n = bit l n.toNat := by unfold has; rw [decide_eq_true h, Bool.true_and]
theorem least_iff {t n : Int} (h0 : 0 ≤ n) : least t ≤ n ↔ t - 1024 < n := by unfold least; split <;> omega

theorem may_no {top : Int} {l : List Int} {n : Int} (h : ¬ (0 ≤ n ∧ n ≤ 281474976710655 ∧ top - 1024 < n)) : may top l n = false := by unfold may; rw [decide_eq_false h, Bool.false_and]
theorem may_up {top : Int} {l : List Int} {n : Int} (h : 0 ≤ n ∧ n ≤ 281474976710655) (k : top < n) : may top l n = true := by unfold may; rw [decide_eq_true ⟨h.1, h.2, by omega⟩, decide_eq_true k]; rfl
theorem may_old {top : Int} {l : List Int} {n : Int} (h : 0 ≤ n ∧ n ≤ 281474976710655 ∧ top - 1024 < n) (k : ¬ top < n) : may top l n = !bit l n.toNat := by unfold may; rw [decide_eq_true h, decide_eq_false k]; simp

set_option maxRecDepth 100000 in
set_option maxHeartbeats 4000000 in
theorem specWinMay (S : WnS) (D : WnD) (n : Int) (w : World) (h : WnRd w S D) :
    Calls Try.prog 14 #[wnV D S, .int .i64 n] w fun e w' => e = .returned (.bool (winMay D.top D.bits n)) ∧ Below w.heap.size w w' := by
  have HR : Hid (WnRd w S D) := h
  obtain ⟨v, hv⟩ : ∃ v, winMay D.top D.bits n = v := ⟨_, rfl⟩
  have HV : Hid (winMay D.top D.bits n = v) := hv
  obtain ⟨x0, hx0, k0, b0, _⟩ := boxed w D S
  have HW0 : Hid (_ = x0) := hx0
  have B0 : Hid (Below w.heap.size w x0) := b0
  have KA : Hid (Blk x0 w.heap.size 26 [.int .i64 D.top, .slice S.bits.a S.bits.n S.bits.c]) := k0
  rw [hv]
  clear h hv hx0 k0 b0
  have c0 := KA.out.cell 0 rfl
  have c1 := KA.out.cell 1 rfl
  unfold wnV
  go_enter Try.func14, Try.ntmps14
  go_upto_region 1 with fail
  rw [HW0.out]
  go_wp2_with fail
  refine (specWinOk S D x0 (HR.out.later B0.out)).mono ?_
  cases hok : winOk D.top D.bits with
  | false =>
    have HF : Hid (v = false) := by show v = false; rw [← HV.out]; unfold winMay; rw [hok]; rfl
    clear hok
    rintro e x1 ⟨rfl, b1⟩
    have B1 : Hid (Below w.heap.size w x1) := B0.out.trans (b1.mono B0.out.size)
    clear b1
    go_wp2
    go_ret
    exact ⟨by rw [HF.out]; rfl, B1.out⟩
  | true =>
    have HV2 : Hid (may D.top D.bits n = v) := by show _ = v; rw [← HV.out]; unfold winMay; rw [hok]; rfl
    have HOK : Hid (WOk D.top D.bits) := winOk_iff.1 hok
    clear hok HV
    rintro e x1 ⟨rfl, b1⟩
    have B1 : Hid (Below w.heap.size w x1) := B0.out.trans (b1.mono B0.out.size)
    have K1 : Hid (Blk x1 w.heap.size 26 [.int .i64 D.top, .slice S.bits.a S.bits.n S.bits.c]) := KA.out.later b1
    clear b1 c0 c1 B0 KA HW0
    have c0 := K1.out.cell 0 rfl
    have c1 := K1.out.cell 1 rfl
    go_wp2_with fail
    refine (l1In n 0 281474976710655 x1).mono ?_
    by_cases hn : 0 ≤ n ∧ n ≤ 281474976710655
    · rw [decide_eq_true hn]
      rintro e x2 ⟨rfl, rfl⟩
      have HN : Hid (0 ≤ n ∧ n ≤ 281474976710655) := hn
      clear hn
      by_cases h1 : n > D.top
      · have HF : Hid (v = true) := by show v = true; rw [← HV2.out]; exact may_up HN.out h1
        go_wp2
        go_ret
        exact ⟨by rw [HF.out]; rfl, B1.out⟩
      · go_wp2_with fail
        refine (l8Least D.top x1 HOK.out.lo HOK.out.hi).mono ?_
        have HLI : Hid (least D.top ≤ n ↔ D.top - 1024 < n) := least_iff HN.out.1
        generalize least D.top = q at *
        rintro e x2 ⟨rfl, rfl⟩
        by_cases h3 : n ≥ q
        · have HB : Hid ((!bit D.bits n.toNat) = v) := by show _ = v; rw [← HV2.out, may_old ⟨HN.out.1, HN.out.2, HLI.out.1 h3⟩ (by omega)]
          go_wp2_with fail
          refine (l8Bit D S n x1 (HR.out.later B1.out) HOK.out.len HOK.out.words HN.out.1 HN.out.2).mono ?_
          generalize bit D.bits n.toNat = u at *
          rintro e x2 ⟨rfl, b2⟩
          have B2 : Hid (Below w.heap.size w x2) := B1.out.trans (b2.mono B1.out.size)
          clear b2 c0 c1 h3
          go_wp2
          go_ret
          exact ⟨by rw [← HB.out]; simp; intro hh; omega, B2.out⟩
        · have HF : Hid (v = false) := by show v = false; rw [← HV2.out]; exact may_no (fun h => h3 (HLI.out.2 h.2.2))
          go_wp2
          go_ret
          exact ⟨by rw [HF.out]; simp; omega, B1.out⟩
    · have HF : Hid (v = false) := by show v = false; rw [← HV2.out]; exact may_no (fun h => hn ⟨h.1, h.2.1⟩)
      rw [decide_eq_false hn]
      rintro e x2 ⟨rfl, rfl⟩
      clear hn
      go_wp2
      go_ret
      exact ⟨by rw [HF.out]; rfl, B1.out⟩
end Go.Proofs.Ytmcflfpckpjphaa.WnS
