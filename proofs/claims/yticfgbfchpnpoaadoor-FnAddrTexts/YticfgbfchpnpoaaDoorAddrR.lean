/-
  What spec's ParseAddr answers: the address whose text it is, if there is one.
-/
import Derived.Test.YticfgbfchpnpoaaDoorAddrT
namespace Go.Proofs.YticfgbfchpnpoaaDoor.AddrR
open Go.RowKit Go.Proofs.YticfgbfchpnpoaaDoor.Mem Go.Proofs.YticfgbfchpnpoaaDoor.MemI Go.Proofs.YticfgbfchpnpoaaDoor.App Go.Proofs.YticfgbfchpnpoaaDoor.Get Go.Proofs.YticfgbfchpnpoaaDoor.Blk Go.Proofs.YticfgbfchpnpoaaDoor.Str Go.Proofs.YticfgbfchpnpoaaDoor.Bits Go.Proofs.YticfgbfchpnpoaaDoor.Words Go.Proofs.YticfgbfchpnpoaaDoor.AddrP Go.Proofs.YticfgbfchpnpoaaDoor.Res Go.Proofs.YticfgbfchpnpoaaDoor.Each Go.Proofs.YticfgbfchpnpoaaDoor.Copy Go.Proofs.YticfgbfchpnpoaaDoor.Ops Go.Proofs.YticfgbfchpnpoaaDoor.AddrS Go.Proofs.YticfgbfchpnpoaaDoor.AddrT

theorem ird_one (w : World) (z : Int) : IRd (w.alloc (.cells #[.int .i64 z] 3)) (some ⟨w.heap.size, 0, none⟩) [z] := (irow_new w [z] (by simp [maxLen])).rd
theorem irow_alloc {w : World} {g cap : Nat} {l : List Int} (h : IRow w g cap l) (o : Obj) : IRow (w.alloc o) g cap l := h.keep (Below.heap_alloc w o g h.lt)
theorem or_nat (A B k : Nat) (h : B < 2 ^ k) (h1 : A * 2 ^ k < 9223372036854775808) (h2 : B < 9223372036854775808) : bits .or .i64 ((A * 2 ^ k : Nat) : Int) (B : Int) = ((A * 2 ^ k + B : Nat) : Int) := by
  rw [or_i64 _ _ h1 h2, Nat.mul_comm A, Nat.two_pow_add_eq_or_of_lt h A]
theorem or24 (a b : Int) (ha : 0 ≤ a ∧ a ≤ 255) (hb : 0 ≤ b ∧ b ≤ 255) : bits .or .i64 (a * 16777216) (b * 65536) = a * 16777216 + b * 65536 := by
  obtain ⟨A, rfl⟩ := Int.eq_ofNat_of_zero_le ha.1
  obtain ⟨B, rfl⟩ := Int.eq_ofNat_of_zero_le hb.1
  have := or_nat A (B * 65536) 24 (by omega) (by omega) (by omega)
  rw [show ((A : Int) * 16777216) = ((A * 2 ^ 24 : Nat) : Int) by omega, show ((B : Int) * 65536) = ((B * 65536 : Nat) : Int) by omega, this]
  omega
theorem or16 (a b c : Int) (ha : 0 ≤ a ∧ a ≤ 255) (hb : 0 ≤ b ∧ b ≤ 255) (hc : 0 ≤ c ∧ c ≤ 255) : bits .or .i64 (a * 16777216 + b * 65536) (c * 256) = a * 16777216 + b * 65536 + c * 256 := by
  obtain ⟨A, rfl⟩ := Int.eq_ofNat_of_zero_le ha.1
  obtain ⟨B, rfl⟩ := Int.eq_ofNat_of_zero_le hb.1
  obtain ⟨C, rfl⟩ := Int.eq_ofNat_of_zero_le hc.1
  have := or_nat (A * 256 + B) (C * 256) 16 (by omega) (by omega) (by omega)
  rw [show ((A : Int) * 16777216 + (B : Int) * 65536) = (((A * 256 + B) * 2 ^ 16 : Nat) : Int) by omega, show ((C : Int) * 256) = ((C * 256 : Nat) : Int) by omega, this]
  omega
theorem or8 (a b c d : Int) (ha : 0 ≤ a ∧ a ≤ 255) (hb : 0 ≤ b ∧ b ≤ 255) (hc : 0 ≤ c ∧ c ≤ 255) (hd : 0 ≤ d ∧ d ≤ 255) : bits .or .i64 (a * 16777216 + b * 65536 + c * 256) d = a * 16777216 + b * 65536 + c * 256 + d := by
  obtain ⟨A, rfl⟩ := Int.eq_ofNat_of_zero_le ha.1
  obtain ⟨B, rfl⟩ := Int.eq_ofNat_of_zero_le hb.1
  obtain ⟨C, rfl⟩ := Int.eq_ofNat_of_zero_le hc.1
  obtain ⟨D, rfl⟩ := Int.eq_ofNat_of_zero_le hd.1
  have := or_nat (A * 65536 + B * 256 + C) D 8 (by omega) (by omega) (by omega)
  rw [show ((A : Int) * 16777216 + (B : Int) * 65536 + (C : Int) * 256) = (((A * 65536 + B * 256 + C) * 2 ^ 8 : Nat) : Int) by omega, this]
  omega

theorem beq_bytes (a b : ByteArray) : (a == b) = true ↔ a = b := by
  obtain ⟨x⟩ := a
  obtain ⟨y⟩ := b
  show (x == y) = true ↔ _
  rw [beq_iff_eq, ByteArray.mk.injEq]
/-- What a call that reads a text as an address answers. -/
def Parsed (s : ByteArray) (w : World) (e : Ending) (w' : World) : Prop := ∃ h p ok, e = .returned (.tuple #[addrV h p, .bool ok]) ∧ Reads (bs s) h p ok ∧ Below w.heap.size w w'

set_option maxRecDepth 100000 in
set_option maxHeartbeats 8000000 in
theorem specParseAddr (s : ByteArray) (w : World) (hs : s.size ≤ 1048576) :
    Calls Tryd.prog 17 #[.string s] w (Parsed s w) := by
  have HL : Hid ((bs s).length = s.size) := bs_length s
  obtain ⟨w1, hw1⟩ : ∃ w1, (w.alloc (.cells #[.int .i64 0, .int .i64 0] 25)).alloc (.cells #[] 3) = w1 := ⟨_, rfl⟩
  have HW1 : Hid ((w.alloc (.cells #[.int .i64 0, .int .i64 0] 25)).alloc (.cells #[] 3) = w1) := hw1
  have B1 : Hid (Below w.heap.size w w1) := by rw [← hw1]; exact ((Below.refl _ _).alloc (Nat.le_refl _) _).alloc (by simp) _
  have K1 : Hid (Blk w1 w.heap.size 25 [.int .i64 0, .int .i64 0]) := by rw [← hw1]; exact (Blk.new w _ _).alloc _
  have R1 : Hid (IRow w1 (w.heap.size + 1) 0 []) := by
    have := irow_new (w.alloc (.cells #[.int .i64 0, .int .i64 0] 25)) [] (by simp)
    rw [show (w.alloc (.cells #[.int .i64 0, .int .i64 0] 25)).heap.size = w.heap.size + 1 by simp] at this
    rw [← hw1]; exact this
  clear hw1
  go_enter Tryd.func17, Tryd.ntmps17
  go_wp2
  rw [HW1.out]
  go_loopw [4, 5, 6] (fun v4 v5 v6 wr => ∃ (k : Nat) (L : List Int) (n : Int) (g m c : Nat), v6 = .int .i64 (k : Int) ∧ v5 = .int .i64 n ∧ v4 = .slice (some ⟨g, 0, none⟩) m c ∧ m = L.length ∧ IRow wr g c L ∧ w.heap.size + 1 ≤ g ∧ SoFar (L, n) ∧ ((k ≤ s.size ∧ steps ([], -1) ((bs s).take k) = some (L, n)) ∨ (k = s.size + 1 ∧ nums (bs s) = some L)) ∧ Blk wr w.heap.size 25 [.int .i64 0, .int .i64 0] ∧ Below w.heap.size w wr)
    (fun _ _ v6 _ => s.size + 2 - (intOf v6).toNat)
  case atStart => exact ⟨0, [], -1, w.heap.size + 1, 0, 0, rfl, rfl, rfl, rfl, R1.out, Nat.le_refl _, good_start, .inl ⟨by omega, rfl⟩, K1.out, B1.out⟩
  case round =>
    obtain ⟨k, L, n, g, m, c, rfl, rfl, rfl, em, hRow, hg, hG, hst, hK, hbe⟩ := hrel
    have EM : Hid (m = L.length) := em
    have HRow : Hid (IRow wr g c L) := hRow
    have HG : Hid (SoFar (L, n)) := hG
    have HK : Hid (Blk wr w.heap.size 25 [.int .i64 0, .int .i64 0]) := hK
    have HBe : Hid (Below w.heap.size w wr) := hbe
    have hm5 : m ≤ 5 := by rw [em]; exact hG.1
    have hnb : -1 ≤ n ∧ n ≤ 65539 := ⟨hG.2.1, hG.2.2.1⟩
    have o0 := hK.cell 0 rfl
    have o1 := hK.cell 1 rfl
    have f0 := hK.frozen 0
    have f1 := hK.frozen 1
    clear em hRow hG hK hbe R1 B1 K1 HW1
    rcases hst with ⟨hk, hst⟩ | ⟨rfl, hst⟩
    · have HS : Hid (steps ([], -1) ((bs s).take k) = some (L, n)) := hst
      clear hst
      have hkI : (k : Int) ≤ (s.size : Int) := by omega
      by_cases hke : k = s.size
      · subst hke
        have BAD : Hid (∀ _ : n < 0 ∨ 4 < L.length, nums (bs s) = none) := by
          intro h
          have e := HS.out
          rw [← HL.out, List.take_length] at e
          unfold nums
          rw [e]
          simp only
          rw [if_pos h]
        have GOOD : Hid (∀ _ : ¬ (n < 0 ∨ 4 < L.length), nums (bs s) = some (L ++ [n])) := by
          intro h
          have e := HS.out
          rw [← HL.out, List.take_length] at e
          unfold nums
          rw [e]
          simp only
          rw [if_neg h]
        by_cases hn0 : n < 0
        · have NO : Hid (Reads (bs s) 0 0 false) := reads_no (BAD.out (.inl hn0))
          clear HS
          go_wp2
          exact ret_addr2 rfl rfl ((HK.out.set 0 _ (by simp [maxLen])).set 1 _ (by simp [maxLen])) rfl rfl ⟨0, 0, false, rfl, NO.out, (HBe.out.setCell (Nat.le_refl _) _).setCell (Nat.le_refl _) _⟩
        · by_cases hm4 : 4 < m
          · have NO : Hid (Reads (bs s) 0 0 false) := reads_no (BAD.out (.inr (by rw [← EM.out]; exact hm4)))
            have hm4I : (m : Int) > 4 := by omega
            clear HS
            go_wp2
            exact ret_addr2 rfl rfl ((HK.out.set 0 _ (by simp [maxLen])).set 1 _ (by simp [maxLen])) rfl rfl ⟨0, 0, false, rfl, NO.out, (HBe.out.setCell (Nat.le_refl _) _).setCell (Nat.le_refl _) _⟩
          · have hm4I : ¬ ((m : Int) > 4) := by omega
            have NX : Hid (nums (bs s) = some (L ++ [n])) := GOOD.out (by rw [← EM.out]; omega)
            have GX : Hid (SoFar (L ++ [n], -1)) := by
              obtain ⟨q1, q2, q3, q4⟩ := HG.out
              refine ⟨by have := EM.out; simp; omega, by simp, by simp, ?_⟩
              intro z hz
              rcases List.mem_append.1 hz with h | h
              · exact q4 z h
              · simp at h q3; omega
            have EX : Hid (m + 1 = (L ++ [n]).length) := by show _ = _; rw [List.length_append, ← EM.out]; rfl
            clear HS
            go_wp2_with (at_builtin; refine iwpList_app _ rfl (.tmp 40) (.tmp 42) rfl (w.heap.size + 1) g m c L [n] rfl EM.out (irow_alloc HRow.out _) hg (some ⟨wr.heap.size, 0, none⟩) 1 1 rfl rfl (ird_one wr n) (by intro e; cases e) (by rw [← EM.out, List.length_singleton]; omega) ?_; intro g3 c3 w3 r3 k3 l3 gr3; have R3 : Hid (IRow w3 g3 c3 (L ++ [n])) := r3; have G3 : Hid (w.heap.size + 1 ≤ g3) := k3; have K3 : Hid (Blk w3 w.heap.size 25 [.int .i64 0, .int .i64 0]) := (HK.out.alloc _).keep (gr3.block _ (HK.out.alloc _).lt (by simp only [ne_eq, Option.some.injEq]; omega)); have B3 : Hid (Below w.heap.size w w3) := (HBe.out.alloc HBe.out.size _).grown gr3 (Below.size (HBe.out.alloc HBe.out.size _)) (fun k h => by cases h; omega); clear r3 k3 l3 gr3)
            exact ⟨⟨s.size + 1, L ++ [n], -1, g3, m + 1, c3, by go_num, rfl, rfl, EX.out, R3.out, G3.out, GX.out, .inr ⟨rfl, NX.out⟩, K3.out, B3.out⟩, by simp [intOf]; try omega⟩
      · have hlt : k < s.size := by omega
        have hltI : (k : Int) < (s.size : Int) := by omega
        have hneI : ((k : Int) == (s.size : Int)) = false := by simp; omega
        have hc := bs_getD s k hlt
        have HST := steps_take (bs s) k (by rw [HL.out]; exact hlt) L n HS.out
        rw [hc] at HST
        have hx := (s[k]'hlt).toNat_lt
        obtain ⟨x, hxe⟩ : ∃ x, (s[k]'hlt).toNat = x := ⟨_, rfl⟩
        rw [hxe] at HST hx
        have HST' : Hid (steps ([], -1) ((bs s).take (k + 1)) = rdStep (L, n) (x : Int)) := HST
        have hx255 : x ≤ 255 := by omega
        have BAD0 : Hid (∀ _ : rdStep (L, n) (x : Int) = none, nums (bs s) = none) := fun e => steps_none (bs s) (k + 1) (HST'.out.trans e)
        clear hc HST hke
        by_cases hsep : x = 46 ∨ x = 58
        · have BAD : Hid (∀ _ : n < 0 ∨ 4 < L.length, nums (bs s) = none) := by
            intro h
            apply BAD0.out
            unfold rdStep
            rw [if_pos (by omega), if_pos h]
          have GOOD : Hid (∀ _ : ¬ (n < 0 ∨ 4 < L.length), steps ([], -1) ((bs s).take (k + 1)) = some (L ++ [n], -1)) := by
            intro h
            rw [HST'.out]
            unfold rdStep
            rw [if_pos (by omega), if_neg h]
          rcases hsep with rfl | rfl
          · by_cases hn0 : n < 0
            · have NO : Hid (Reads (bs s) 0 0 false) := reads_no (BAD.out (.inl hn0))
              clear HS
              go_wp2
              exact ret_addr2 rfl rfl ((HK.out.set 0 _ (by simp [maxLen])).set 1 _ (by simp [maxLen])) rfl rfl ⟨0, 0, false, rfl, NO.out, (HBe.out.setCell (Nat.le_refl _) _).setCell (Nat.le_refl _) _⟩
            · by_cases hm4 : 4 < m
              · have NO : Hid (Reads (bs s) 0 0 false) := reads_no (BAD.out (.inr (by rw [← EM.out]; exact hm4)))
                have hm4I : (m : Int) > 4 := by omega
                clear HS
                go_wp2
                exact ret_addr2 rfl rfl ((HK.out.set 0 _ (by simp [maxLen])).set 1 _ (by simp [maxLen])) rfl rfl ⟨0, 0, false, rfl, NO.out, (HBe.out.setCell (Nat.le_refl _) _).setCell (Nat.le_refl _) _⟩
              · have hm4I : ¬ ((m : Int) > 4) := by omega
                have NX : Hid (steps ([], -1) ((bs s).take (k + 1)) = some (L ++ [n], -1)) := GOOD.out (by rw [← EM.out]; omega)
                have GX : Hid (SoFar (L ++ [n], -1)) := by
                  obtain ⟨q1, q2, q3, q4⟩ := HG.out
                  refine ⟨by have := EM.out; simp; omega, by simp, by simp, ?_⟩
                  intro z hz
                  rcases List.mem_append.1 hz with h | h
                  · exact q4 z h
                  · simp at h q3; omega
                have EX : Hid (m + 1 = (L ++ [n]).length) := by show _ = _; rw [List.length_append, ← EM.out]; rfl
                clear HS
                go_wp2_with (at_builtin; refine iwpList_app _ rfl (.tmp 40) (.tmp 42) rfl (w.heap.size + 1) g m c L [n] rfl EM.out (irow_alloc HRow.out _) hg (some ⟨wr.heap.size, 0, none⟩) 1 1 rfl rfl (ird_one wr n) (by intro e; cases e) (by rw [← EM.out, List.length_singleton]; omega) ?_; intro g3 c3 w3 r3 k3 l3 gr3; have R3 : Hid (IRow w3 g3 c3 (L ++ [n])) := r3; have G3 : Hid (w.heap.size + 1 ≤ g3) := k3; have K3 : Hid (Blk w3 w.heap.size 25 [.int .i64 0, .int .i64 0]) := (HK.out.alloc _).keep (gr3.block _ (HK.out.alloc _).lt (by simp only [ne_eq, Option.some.injEq]; omega)); have B3 : Hid (Below w.heap.size w w3) := (HBe.out.alloc HBe.out.size _).grown gr3 (Below.size (HBe.out.alloc HBe.out.size _)) (fun k h => by cases h; omega); clear r3 k3 l3 gr3)
                exact ⟨⟨k + 1, L ++ [n], -1, g3, m + 1, c3, by go_num, rfl, rfl, EX.out, R3.out, G3.out, GX.out, .inl ⟨by omega, NX.out⟩, K3.out, B3.out⟩, by simp [intOf]; try omega⟩
          · by_cases hn0 : n < 0
            · have NO : Hid (Reads (bs s) 0 0 false) := reads_no (BAD.out (.inl hn0))
              clear HS
              go_wp2
              exact ret_addr2 rfl rfl ((HK.out.set 0 _ (by simp [maxLen])).set 1 _ (by simp [maxLen])) rfl rfl ⟨0, 0, false, rfl, NO.out, (HBe.out.setCell (Nat.le_refl _) _).setCell (Nat.le_refl _) _⟩
            · by_cases hm4 : 4 < m
              · have NO : Hid (Reads (bs s) 0 0 false) := reads_no (BAD.out (.inr (by rw [← EM.out]; exact hm4)))
                have hm4I : (m : Int) > 4 := by omega
                clear HS
                go_wp2
                exact ret_addr2 rfl rfl ((HK.out.set 0 _ (by simp [maxLen])).set 1 _ (by simp [maxLen])) rfl rfl ⟨0, 0, false, rfl, NO.out, (HBe.out.setCell (Nat.le_refl _) _).setCell (Nat.le_refl _) _⟩
              · have hm4I : ¬ ((m : Int) > 4) := by omega
                have NX : Hid (steps ([], -1) ((bs s).take (k + 1)) = some (L ++ [n], -1)) := GOOD.out (by rw [← EM.out]; omega)
                have GX : Hid (SoFar (L ++ [n], -1)) := by
                  obtain ⟨q1, q2, q3, q4⟩ := HG.out
                  refine ⟨by have := EM.out; simp; omega, by simp, by simp, ?_⟩
                  intro z hz
                  rcases List.mem_append.1 hz with h | h
                  · exact q4 z h
                  · simp at h q3; omega
                have EX : Hid (m + 1 = (L ++ [n]).length) := by show _ = _; rw [List.length_append, ← EM.out]; rfl
                clear HS
                go_wp2_with (at_builtin; refine iwpList_app _ rfl (.tmp 40) (.tmp 42) rfl (w.heap.size + 1) g m c L [n] rfl EM.out (irow_alloc HRow.out _) hg (some ⟨wr.heap.size, 0, none⟩) 1 1 rfl rfl (ird_one wr n) (by intro e; cases e) (by rw [← EM.out, List.length_singleton]; omega) ?_; intro g3 c3 w3 r3 k3 l3 gr3; have R3 : Hid (IRow w3 g3 c3 (L ++ [n])) := r3; have G3 : Hid (w.heap.size + 1 ≤ g3) := k3; have K3 : Hid (Blk w3 w.heap.size 25 [.int .i64 0, .int .i64 0]) := (HK.out.alloc _).keep (gr3.block _ (HK.out.alloc _).lt (by simp only [ne_eq, Option.some.injEq]; omega)); have B3 : Hid (Below w.heap.size w w3) := (HBe.out.alloc HBe.out.size _).grown gr3 (Below.size (HBe.out.alloc HBe.out.size _)) (fun k h => by cases h; omega); clear r3 k3 l3 gr3)
                exact ⟨⟨k + 1, L ++ [n], -1, g3, m + 1, c3, by go_num, rfl, rfl, EX.out, R3.out, G3.out, GX.out, .inl ⟨by omega, NX.out⟩, K3.out, B3.out⟩, by simp [intOf]; try omega⟩
        · have hs1 : ((x : Int) == 46) = false := by simp; omega
          have hs2 : ((x : Int) == 58) = false := by simp; omega
          by_cases hd : 48 ≤ x ∧ x ≤ 57
          · have hin : isIn (x : Int) 48 57 = true := isIn_yes (by omega)
            by_cases hn1 : 6553 < n
            · have NO : Hid (Reads (bs s) 0 0 false) := by
                apply reads_no
                apply BAD0.out
                unfold rdStep
                rw [if_neg (by omega), if_pos (by simp; omega)]
              have hn1I : n > 6553 := hn1
              clear HS
              go_wp2_with fail
              refine (l1In _ _ _ _).mono ?_
              rintro e y1 ⟨rfl, rfl⟩
              rw [hin]
              go_wp2
              exact ret_addr2 rfl rfl ((HK.out.set 0 _ (by simp [maxLen])).set 1 _ (by simp [maxLen])) rfl rfl ⟨0, 0, false, rfl, NO.out, (HBe.out.setCell (Nat.le_refl _) _).setCell (Nat.le_refl _) _⟩
            · have hn1I : ¬ (n > 6553) := hn1
              have hw1 : IntKind.u8.wrap ((x : Int) - 48) = (x : Int) - 48 := by rw [IntKind.wrap_u8']; omega
              by_cases hn0 : n < 0
              · have NX : Hid (steps ([], -1) ((bs s).take (k + 1)) = some (L, (x : Int) - 48)) := by
                  show _ = _
                  rw [HST'.out]
                  unfold rdStep
                  rw [if_neg (by omega), if_neg (by simp; omega)]
                  simp only [hn0, if_true]
                  congr 2; omega
                have GX : Hid (SoFar (L, (x : Int) - 48)) := steps_good _ _ _ good_start NX.out
                clear HS
                go_wp2_with fail
                refine (l1In _ _ _ _).mono ?_
                rintro e y1 ⟨rfl, rfl⟩
                rw [hin]
                go_wp2
                exact ⟨⟨k + 1, L, (x : Int) - 48, g, m, c, by go_num, by go_num, rfl, EM.out, HRow.out, hg, GX.out, .inl ⟨by omega, NX.out⟩, HK.out, HBe.out⟩, by simp [intOf]; try omega⟩
              · have NX : Hid (steps ([], -1) ((bs s).take (k + 1)) = some (L, 10 * n + ((x : Int) - 48))) := by
                  show _ = _
                  rw [HST'.out]
                  unfold rdStep
                  rw [if_neg (by omega), if_neg (by simp; omega)]
                  simp only [hn0, if_false]
                have GX : Hid (SoFar (L, 10 * n + ((x : Int) - 48))) := steps_good _ _ _ good_start NX.out
                clear HS
                go_wp2_with fail
                refine (l1In _ _ _ _).mono ?_
                rintro e y1 ⟨rfl, rfl⟩
                rw [hin]
                go_wp2
                exact ⟨⟨k + 1, L, 10 * n + ((x : Int) - 48), g, m, c, by go_num, by go_num, rfl, EM.out, HRow.out, hg, GX.out, .inl ⟨by omega, NX.out⟩, HK.out, HBe.out⟩, by simp [intOf]; try omega⟩
          · have hin : isIn (x : Int) 48 57 = false := isIn_no (by omega)
            have NO : Hid (Reads (bs s) 0 0 false) := by
              apply reads_no
              apply BAD0.out
              unfold rdStep
              rw [if_neg (by omega), if_pos (by simp; omega)]
            clear HS
            go_wp2_with fail
            refine (l1In _ _ _ _).mono ?_
            rintro e y1 ⟨rfl, rfl⟩
            rw [hin]
            go_wp2
            exact ret_addr2 rfl rfl ((HK.out.set 0 _ (by simp [maxLen])).set 1 _ (by simp [maxLen])) rfl rfl ⟨0, 0, false, rfl, NO.out, (HBe.out.setCell (Nat.le_refl _) _).setCell (Nat.le_refl _) _⟩
    · have HN : Hid (nums (bs s) = some L) := hst
      clear hst
      have hout : ¬ (((s.size + 1 : Nat) : Int) ≤ (s.size : Int)) := by omega
      by_cases hl5 : m = 5
      · subst hl5
        have HB : Hid (∀ z ∈ L, 0 ≤ z ∧ z ≤ 65539) := (nums_good _ _ HN.out).2
        have hc5 : 5 ≤ c := by have := HRow.out.1; rw [← EM.out] at this; exact this
        go_wp2
        go_loop [7] (fun v7 => ∃ j : Nat, j ≤ 4 ∧ v7 = .int .i64 (j : Int) ∧ ∀ i, i < j → L.getD i 0 ≤ 255) (fun v7 => 4 - (intOf v7).toNat)
        case atStart => exact ⟨0, by omega, rfl, by intro i hi; omega⟩
        case round =>
          obtain ⟨j, hj, rfl, hall⟩ := hrel
          have HALL : Hid (∀ i, i < j → L.getD i 0 ≤ 255) := hall
          clear hall
          by_cases hj4 : j < 4
          · have hj4I : (j : Int) < 4 := by omega
            have hcell := HRow.out.cell j (by rw [← EM.out]; omega)
            obtain ⟨z, hz⟩ : ∃ z, L.getD j 0 = z := ⟨_, rfl⟩
            rw [hz] at hcell
            by_cases hbig : 255 < z
            · have NO : Hid (Reads (bs s) 0 0 false) := reads_big HN.out j hj4 (by rw [hz]; exact hbig)
              have hbigI : z > 255 := hbig
              clear hz
              go_wp2
              exact ret_addr2 rfl rfl ((HK.out.set 0 _ (by simp [maxLen])).set 1 _ (by simp [maxLen])) rfl rfl ⟨0, 0, false, rfl, NO.out, (HBe.out.setCell (Nat.le_refl _) _).setCell (Nat.le_refl _) _⟩
            · have hbigI : ¬ (z > 255) := hbig
              have NX : Hid (∀ i, i < j + 1 → L.getD i 0 ≤ 255) := by
                intro i hi
                by_cases e : i = j
                · subst e; rw [hz]; omega
                · exact HALL.out i (by omega)
              clear hz
              go_wp2
              go_round
              case rel => exact ⟨j + 1, by omega, by go_num, NX.out⟩
              case measure => simp [intOf]; omega
          · obtain rfl : j = 4 := by omega
            obtain ⟨x0, x1, x2, x3, x4, rfl⟩ : ∃ x0 x1 x2 x3 x4, L = [x0, x1, x2, x3, x4] := by
              match L, EM.out with
              | [x0, x1, x2, x3, x4], _ => exact ⟨x0, x1, x2, x3, x4, rfl⟩
            have p0 : 0 ≤ x0 ∧ x0 ≤ 255 := ⟨(HB.out x0 (by simp)).1, HALL.out 0 (by omega)⟩
            have p1 : 0 ≤ x1 ∧ x1 ≤ 255 := ⟨(HB.out x1 (by simp)).1, HALL.out 1 (by omega)⟩
            have p2 : 0 ≤ x2 ∧ x2 ≤ 255 := ⟨(HB.out x2 (by simp)).1, HALL.out 2 (by omega)⟩
            have p3 : 0 ≤ x3 ∧ x3 ≤ 255 := ⟨(HB.out x3 (by simp)).1, HALL.out 3 (by omega)⟩
            have w0' : IntKind.i64.wrap (x0 * 16777216) = x0 * 16777216 := by rw [IntKind.wrap_i64]; omega
            have w1' : IntKind.i64.wrap (x1 * 65536) = x1 * 65536 := by rw [IntKind.wrap_i64]; omega
            have w2' : IntKind.i64.wrap (x2 * 256) = x2 * 256 := by rw [IntKind.wrap_i64]; omega
            have b1' := or24 x0 x1 p0 p1
            have b2' := or16 x0 x1 x2 p0 p1 p2
            have b3' := or8 x0 x1 x2 x3 p0 p1 p2 p3
            go_upto_region 23 with fail
            go_cut [8] from 79 to 100 (fun s8 wx => ∃ O, s8 = .pointer (some ⟨O, 0, none⟩) ∧ wr.heap.size ≤ O ∧ Blk wx O 25 [.int .i64 (x0 * 16777216 + x1 * 65536 + x2 * 256 + x3), .int .i64 x4] ∧ Below wr.heap.size wr wx)
            case first =>
              rename_i J K' hRJ hMet
              generalize hA : Act.mk _ _ = A
              have a4' : A.eval (.tmp 4) = .slice (some ⟨g, 0, none⟩) 5 c := by rw [← hA]; rfl
              have asz : A.tmps.size = 107 := by rw [← hA]; rfl
              have hI : ∀ wx, Below wr.heap.size wr wx → IRow wx g c [x0, x1, x2, x3, x4] := fun wx hb => HRow.out.later hb
              refine region_each (by kernel_rfl) [79, 80, 81, 82, 83, 84, 85, 86, 87, 88, 89, 90, 91, 92, 93, 94, 95, 96, 97, 98, 99, 100, 8] 23 (fun i => [79, 80, 81, 82, 83, 84, 85, 86, 87, 88, 89, 90, 91, 92, 93, 94, 95, 96, 97, 98, 99, 100, 8].getD i 0) (fun _ => 0)
                (fun i gB v wx => match i with
                  | 0 => v = .slice (some ⟨g, 0, none⟩) 5 c
                  | 1 => v = .pointer (some ⟨g, 0, none⟩)
                  | 2 => v = .int .i64 x0
                  | 3 => v = .int .i64 (x0 * 16777216)
                  | 4 => v = .slice (some ⟨g, 0, none⟩) 5 c
                  | 5 => v = .pointer (some ⟨g, 1, none⟩)
                  | 6 => v = .int .i64 x1
                  | 7 => v = .int .i64 (x1 * 65536)
                  | 8 => v = .int .i64 (x0 * 16777216 + x1 * 65536)
                  | 9 => v = .slice (some ⟨g, 0, none⟩) 5 c
                  | 10 => v = .pointer (some ⟨g, 2, none⟩)
                  | 11 => v = .int .i64 x2
                  | 12 => v = .int .i64 (x2 * 256)
                  | 13 => v = .int .i64 (x0 * 16777216 + x1 * 65536 + x2 * 256)
                  | 14 => v = .slice (some ⟨g, 0, none⟩) 5 c
                  | 15 => v = .pointer (some ⟨g, 3, none⟩)
                  | 16 => v = .int .i64 x3
                  | 17 => v = .int .i64 (x0 * 16777216 + x1 * 65536 + x2 * 256 + x3)
                  | 18 => v = .slice (some ⟨g, 0, none⟩) 5 c
                  | 19 => v = .pointer (some ⟨g, 4, none⟩)
                  | 20 => v = .int .i64 x4
                  | 21 => v = .agg #[.int .i64 (x0 * 16777216 + x1 * 65536 + x2 * 256 + x3), .int .i64 x4]
                  | 22 => v = .pointer (some ⟨gB, 0, none⟩) ∧ Blk wx gB 25 [.int .i64 0, .int .i64 0] ∧ wr.heap.size ≤ gB
                  | _ => False) (fun wx => Below wr.heap.size wr wx) (by kernel_rfl) (Below.refl _ _).drew ?_ ?_ ?_
              · intro i gB v wx wy hi hF hb _
                match i, hi with
                | 0, _ => exact hF
                | 1, _ => exact hF
                | 2, _ => exact hF
                | 3, _ => exact hF
                | 4, _ => exact hF
                | 5, _ => exact hF
                | 6, _ => exact hF
                | 7, _ => exact hF
                | 8, _ => exact hF
                | 9, _ => exact hF
                | 10, _ => exact hF
                | 11, _ => exact hF
                | 12, _ => exact hF
                | 13, _ => exact hF
                | 14, _ => exact hF
                | 15, _ => exact hF
                | 16, _ => exact hF
                | 17, _ => exact hF
                | 18, _ => exact hF
                | 19, _ => exact hF
                | 20, _ => exact hF
                | 21, _ => exact hF
                | 22, _ => obtain ⟨h0, h1, h2⟩ := hF; exact ⟨h0, h1.later hb, h2⟩
                | n + 23, hi => exact absurd hi (by omega)
              · intro i hi t ρ wx hB hp hd
                match i, hi with
                | 0, _ =>
                  have e4 : (fr [79, 80, 81, 82, 83, 84, 85, 86, 87, 88, 89, 90, 91, 92, 93, 94, 95, 96, 97, 98, 99, 100, 8] A t).eval (.tmp 4) = .slice (some ⟨g, 0, none⟩) 5 c := (fr_eval_old _ _ _ 4 rfl).trans a4'
                  refine op_run (v := .slice (some ⟨g, 0, none⟩) 5 c) (w' := wx) rfl rfl ?_ ?_
                  · clear hp hd; have ec : ∀ v, (fr [79, 80, 81, 82, 83, 84, 85, 86, 87, 88, 89, 90, 91, 92, 93, 94, 95, 96, 97, 98, 99, 100, 8] A t).eval (.const v) = v := fun _ => rfl; generalize (fr [79, 80, 81, 82, 83, 84, 85, 86, 87, 88, 89, 90, 91, 92, 93, 94, 95, 96, 97, 98, 99, 100, 8] A t).eval = ev at ec e4 ⊢; go_simp
                  · exact ⟨_, 0, rfl, hB, Below.refl _ _, rfl, .inl rfl⟩
                | 1, _ =>
                  have e79 : (fr [79, 80, 81, 82, 83, 84, 85, 86, 87, 88, 89, 90, 91, 92, 93, 94, 95, 96, 97, 98, 99, 100, 8] A t).eval (.tmp 79) = .slice (some ⟨g, 0, none⟩) 5 c := (fr_eval _ _ _ 79 rfl (by rw [asz]; decide)).trans (hp 0 (pre_mem (by kernel_rfl)))
                  refine op_run (v := .pointer (some ⟨g, 0, none⟩)) (w' := wx) rfl rfl ?_ ?_
                  · clear hp hd; have ec : ∀ v, (fr [79, 80, 81, 82, 83, 84, 85, 86, 87, 88, 89, 90, 91, 92, 93, 94, 95, 96, 97, 98, 99, 100, 8] A t).eval (.const v) = v := fun _ => rfl; generalize (fr [79, 80, 81, 82, 83, 84, 85, 86, 87, 88, 89, 90, 91, 92, 93, 94, 95, 96, 97, 98, 99, 100, 8] A t).eval = ev at ec e79 ⊢; go_simp
                  · exact ⟨_, 0, rfl, hB, Below.refl _ _, rfl, .inl rfl⟩
                | 2, _ =>
                  have e80 : (fr [79, 80, 81, 82, 83, 84, 85, 86, 87, 88, 89, 90, 91, 92, 93, 94, 95, 96, 97, 98, 99, 100, 8] A t).eval (.tmp 80) = .pointer (some ⟨g, 0, none⟩) := (fr_eval _ _ _ 80 rfl (by rw [asz]; decide)).trans (hp 1 (pre_mem (by kernel_rfl)))
                  have hc : wx.cell? ⟨g, 0, none⟩ = some (.int .i64 x0) := (hI wx hB).cell 0 (by simp)
                  refine op_run (v := .int .i64 x0) (w' := wx) rfl rfl ?_ ?_
                  · clear hp hd; have ec : ∀ v, (fr [79, 80, 81, 82, 83, 84, 85, 86, 87, 88, 89, 90, 91, 92, 93, 94, 95, 96, 97, 98, 99, 100, 8] A t).eval (.const v) = v := fun _ => rfl; generalize (fr [79, 80, 81, 82, 83, 84, 85, 86, 87, 88, 89, 90, 91, 92, 93, 94, 95, 96, 97, 98, 99, 100, 8] A t).eval = ev at ec e80 ⊢; go_simp
                  · exact ⟨_, 0, rfl, hB, Below.refl _ _, rfl, .inl rfl⟩
                | 3, _ =>
                  have e81 : (fr [79, 80, 81, 82, 83, 84, 85, 86, 87, 88, 89, 90, 91, 92, 93, 94, 95, 96, 97, 98, 99, 100, 8] A t).eval (.tmp 81) = .int .i64 x0 := (fr_eval _ _ _ 81 rfl (by rw [asz]; decide)).trans (hp 2 (pre_mem (by kernel_rfl)))
                  refine op_run (v := .int .i64 (x0 * 16777216)) (w' := wx) rfl rfl ?_ ?_
                  · clear hp hd; have ec : ∀ v, (fr [79, 80, 81, 82, 83, 84, 85, 86, 87, 88, 89, 90, 91, 92, 93, 94, 95, 96, 97, 98, 99, 100, 8] A t).eval (.const v) = v := fun _ => rfl; generalize (fr [79, 80, 81, 82, 83, 84, 85, 86, 87, 88, 89, 90, 91, 92, 93, 94, 95, 96, 97, 98, 99, 100, 8] A t).eval = ev at ec e81 ⊢; go_simp
                  · exact ⟨_, 0, rfl, hB, Below.refl _ _, rfl, .inl rfl⟩
                | 4, _ =>
                  have e4 : (fr [79, 80, 81, 82, 83, 84, 85, 86, 87, 88, 89, 90, 91, 92, 93, 94, 95, 96, 97, 98, 99, 100, 8] A t).eval (.tmp 4) = .slice (some ⟨g, 0, none⟩) 5 c := (fr_eval_old _ _ _ 4 rfl).trans a4'
                  refine op_run (v := .slice (some ⟨g, 0, none⟩) 5 c) (w' := wx) rfl rfl ?_ ?_
                  · clear hp hd; have ec : ∀ v, (fr [79, 80, 81, 82, 83, 84, 85, 86, 87, 88, 89, 90, 91, 92, 93, 94, 95, 96, 97, 98, 99, 100, 8] A t).eval (.const v) = v := fun _ => rfl; generalize (fr [79, 80, 81, 82, 83, 84, 85, 86, 87, 88, 89, 90, 91, 92, 93, 94, 95, 96, 97, 98, 99, 100, 8] A t).eval = ev at ec e4 ⊢; go_simp
                  · exact ⟨_, 0, rfl, hB, Below.refl _ _, rfl, .inl rfl⟩
                | 5, _ =>
                  have e83 : (fr [79, 80, 81, 82, 83, 84, 85, 86, 87, 88, 89, 90, 91, 92, 93, 94, 95, 96, 97, 98, 99, 100, 8] A t).eval (.tmp 83) = .slice (some ⟨g, 0, none⟩) 5 c := (fr_eval _ _ _ 83 rfl (by rw [asz]; decide)).trans (hp 4 (pre_mem (by kernel_rfl)))
                  refine op_run (v := .pointer (some ⟨g, 1, none⟩)) (w' := wx) rfl rfl ?_ ?_
                  · clear hp hd; have ec : ∀ v, (fr [79, 80, 81, 82, 83, 84, 85, 86, 87, 88, 89, 90, 91, 92, 93, 94, 95, 96, 97, 98, 99, 100, 8] A t).eval (.const v) = v := fun _ => rfl; generalize (fr [79, 80, 81, 82, 83, 84, 85, 86, 87, 88, 89, 90, 91, 92, 93, 94, 95, 96, 97, 98, 99, 100, 8] A t).eval = ev at ec e83 ⊢; go_simp
                  · exact ⟨_, 0, rfl, hB, Below.refl _ _, rfl, .inl rfl⟩
                | 6, _ =>
                  have e84 : (fr [79, 80, 81, 82, 83, 84, 85, 86, 87, 88, 89, 90, 91, 92, 93, 94, 95, 96, 97, 98, 99, 100, 8] A t).eval (.tmp 84) = .pointer (some ⟨g, 1, none⟩) := (fr_eval _ _ _ 84 rfl (by rw [asz]; decide)).trans (hp 5 (pre_mem (by kernel_rfl)))
                  have hc : wx.cell? ⟨g, 1, none⟩ = some (.int .i64 x1) := (hI wx hB).cell 1 (by simp)
                  refine op_run (v := .int .i64 x1) (w' := wx) rfl rfl ?_ ?_
                  · clear hp hd; have ec : ∀ v, (fr [79, 80, 81, 82, 83, 84, 85, 86, 87, 88, 89, 90, 91, 92, 93, 94, 95, 96, 97, 98, 99, 100, 8] A t).eval (.const v) = v := fun _ => rfl; generalize (fr [79, 80, 81, 82, 83, 84, 85, 86, 87, 88, 89, 90, 91, 92, 93, 94, 95, 96, 97, 98, 99, 100, 8] A t).eval = ev at ec e84 ⊢; go_simp
                  · exact ⟨_, 0, rfl, hB, Below.refl _ _, rfl, .inl rfl⟩
                | 7, _ =>
                  have e85 : (fr [79, 80, 81, 82, 83, 84, 85, 86, 87, 88, 89, 90, 91, 92, 93, 94, 95, 96, 97, 98, 99, 100, 8] A t).eval (.tmp 85) = .int .i64 x1 := (fr_eval _ _ _ 85 rfl (by rw [asz]; decide)).trans (hp 6 (pre_mem (by kernel_rfl)))
                  refine op_run (v := .int .i64 (x1 * 65536)) (w' := wx) rfl rfl ?_ ?_
                  · clear hp hd; have ec : ∀ v, (fr [79, 80, 81, 82, 83, 84, 85, 86, 87, 88, 89, 90, 91, 92, 93, 94, 95, 96, 97, 98, 99, 100, 8] A t).eval (.const v) = v := fun _ => rfl; generalize (fr [79, 80, 81, 82, 83, 84, 85, 86, 87, 88, 89, 90, 91, 92, 93, 94, 95, 96, 97, 98, 99, 100, 8] A t).eval = ev at ec e85 ⊢; go_simp
                  · exact ⟨_, 0, rfl, hB, Below.refl _ _, rfl, .inl rfl⟩
                | 8, _ =>
                  have e82 : (fr [79, 80, 81, 82, 83, 84, 85, 86, 87, 88, 89, 90, 91, 92, 93, 94, 95, 96, 97, 98, 99, 100, 8] A t).eval (.tmp 82) = .int .i64 (x0 * 16777216) := (fr_eval _ _ _ 82 rfl (by rw [asz]; decide)).trans (hp 3 (pre_mem (by kernel_rfl)))
                  have e86 : (fr [79, 80, 81, 82, 83, 84, 85, 86, 87, 88, 89, 90, 91, 92, 93, 94, 95, 96, 97, 98, 99, 100, 8] A t).eval (.tmp 86) = .int .i64 (x1 * 65536) := (fr_eval _ _ _ 86 rfl (by rw [asz]; decide)).trans (hp 7 (pre_mem (by kernel_rfl)))
                  refine op_run (v := .int .i64 (x0 * 16777216 + x1 * 65536)) (w' := wx) rfl rfl ?_ ?_
                  · clear hp hd; have ec : ∀ v, (fr [79, 80, 81, 82, 83, 84, 85, 86, 87, 88, 89, 90, 91, 92, 93, 94, 95, 96, 97, 98, 99, 100, 8] A t).eval (.const v) = v := fun _ => rfl; generalize (fr [79, 80, 81, 82, 83, 84, 85, 86, 87, 88, 89, 90, 91, 92, 93, 94, 95, 96, 97, 98, 99, 100, 8] A t).eval = ev at ec e82 e86 ⊢; go_simp
                  · exact ⟨_, 0, rfl, hB, Below.refl _ _, rfl, .inl rfl⟩
                | 9, _ =>
                  have e4 : (fr [79, 80, 81, 82, 83, 84, 85, 86, 87, 88, 89, 90, 91, 92, 93, 94, 95, 96, 97, 98, 99, 100, 8] A t).eval (.tmp 4) = .slice (some ⟨g, 0, none⟩) 5 c := (fr_eval_old _ _ _ 4 rfl).trans a4'
                  refine op_run (v := .slice (some ⟨g, 0, none⟩) 5 c) (w' := wx) rfl rfl ?_ ?_
                  · clear hp hd; have ec : ∀ v, (fr [79, 80, 81, 82, 83, 84, 85, 86, 87, 88, 89, 90, 91, 92, 93, 94, 95, 96, 97, 98, 99, 100, 8] A t).eval (.const v) = v := fun _ => rfl; generalize (fr [79, 80, 81, 82, 83, 84, 85, 86, 87, 88, 89, 90, 91, 92, 93, 94, 95, 96, 97, 98, 99, 100, 8] A t).eval = ev at ec e4 ⊢; go_simp
                  · exact ⟨_, 0, rfl, hB, Below.refl _ _, rfl, .inl rfl⟩
                | 10, _ =>
                  have e88 : (fr [79, 80, 81, 82, 83, 84, 85, 86, 87, 88, 89, 90, 91, 92, 93, 94, 95, 96, 97, 98, 99, 100, 8] A t).eval (.tmp 88) = .slice (some ⟨g, 0, none⟩) 5 c := (fr_eval _ _ _ 88 rfl (by rw [asz]; decide)).trans (hp 9 (pre_mem (by kernel_rfl)))
                  refine op_run (v := .pointer (some ⟨g, 2, none⟩)) (w' := wx) rfl rfl ?_ ?_
                  · clear hp hd; have ec : ∀ v, (fr [79, 80, 81, 82, 83, 84, 85, 86, 87, 88, 89, 90, 91, 92, 93, 94, 95, 96, 97, 98, 99, 100, 8] A t).eval (.const v) = v := fun _ => rfl; generalize (fr [79, 80, 81, 82, 83, 84, 85, 86, 87, 88, 89, 90, 91, 92, 93, 94, 95, 96, 97, 98, 99, 100, 8] A t).eval = ev at ec e88 ⊢; go_simp
                  · exact ⟨_, 0, rfl, hB, Below.refl _ _, rfl, .inl rfl⟩
                | 11, _ =>
                  have e89 : (fr [79, 80, 81, 82, 83, 84, 85, 86, 87, 88, 89, 90, 91, 92, 93, 94, 95, 96, 97, 98, 99, 100, 8] A t).eval (.tmp 89) = .pointer (some ⟨g, 2, none⟩) := (fr_eval _ _ _ 89 rfl (by rw [asz]; decide)).trans (hp 10 (pre_mem (by kernel_rfl)))
                  have hc : wx.cell? ⟨g, 2, none⟩ = some (.int .i64 x2) := (hI wx hB).cell 2 (by simp)
                  refine op_run (v := .int .i64 x2) (w' := wx) rfl rfl ?_ ?_
                  · clear hp hd; have ec : ∀ v, (fr [79, 80, 81, 82, 83, 84, 85, 86, 87, 88, 89, 90, 91, 92, 93, 94, 95, 96, 97, 98, 99, 100, 8] A t).eval (.const v) = v := fun _ => rfl; generalize (fr [79, 80, 81, 82, 83, 84, 85, 86, 87, 88, 89, 90, 91, 92, 93, 94, 95, 96, 97, 98, 99, 100, 8] A t).eval = ev at ec e89 ⊢; go_simp
                  · exact ⟨_, 0, rfl, hB, Below.refl _ _, rfl, .inl rfl⟩
                | 12, _ =>
                  have e90 : (fr [79, 80, 81, 82, 83, 84, 85, 86, 87, 88, 89, 90, 91, 92, 93, 94, 95, 96, 97, 98, 99, 100, 8] A t).eval (.tmp 90) = .int .i64 x2 := (fr_eval _ _ _ 90 rfl (by rw [asz]; decide)).trans (hp 11 (pre_mem (by kernel_rfl)))
                  refine op_run (v := .int .i64 (x2 * 256)) (w' := wx) rfl rfl ?_ ?_
                  · clear hp hd; have ec : ∀ v, (fr [79, 80, 81, 82, 83, 84, 85, 86, 87, 88, 89, 90, 91, 92, 93, 94, 95, 96, 97, 98, 99, 100, 8] A t).eval (.const v) = v := fun _ => rfl; generalize (fr [79, 80, 81, 82, 83, 84, 85, 86, 87, 88, 89, 90, 91, 92, 93, 94, 95, 96, 97, 98, 99, 100, 8] A t).eval = ev at ec e90 ⊢; go_simp
                  · exact ⟨_, 0, rfl, hB, Below.refl _ _, rfl, .inl rfl⟩
                | 13, _ =>
                  have e87 : (fr [79, 80, 81, 82, 83, 84, 85, 86, 87, 88, 89, 90, 91, 92, 93, 94, 95, 96, 97, 98, 99, 100, 8] A t).eval (.tmp 87) = .int .i64 (x0 * 16777216 + x1 * 65536) := (fr_eval _ _ _ 87 rfl (by rw [asz]; decide)).trans (hp 8 (pre_mem (by kernel_rfl)))
                  have e91 : (fr [79, 80, 81, 82, 83, 84, 85, 86, 87, 88, 89, 90, 91, 92, 93, 94, 95, 96, 97, 98, 99, 100, 8] A t).eval (.tmp 91) = .int .i64 (x2 * 256) := (fr_eval _ _ _ 91 rfl (by rw [asz]; decide)).trans (hp 12 (pre_mem (by kernel_rfl)))
                  refine op_run (v := .int .i64 (x0 * 16777216 + x1 * 65536 + x2 * 256)) (w' := wx) rfl rfl ?_ ?_
                  · clear hp hd; have ec : ∀ v, (fr [79, 80, 81, 82, 83, 84, 85, 86, 87, 88, 89, 90, 91, 92, 93, 94, 95, 96, 97, 98, 99, 100, 8] A t).eval (.const v) = v := fun _ => rfl; generalize (fr [79, 80, 81, 82, 83, 84, 85, 86, 87, 88, 89, 90, 91, 92, 93, 94, 95, 96, 97, 98, 99, 100, 8] A t).eval = ev at ec e87 e91 ⊢; go_simp
                  · exact ⟨_, 0, rfl, hB, Below.refl _ _, rfl, .inl rfl⟩
                | 14, _ =>
                  have e4 : (fr [79, 80, 81, 82, 83, 84, 85, 86, 87, 88, 89, 90, 91, 92, 93, 94, 95, 96, 97, 98, 99, 100, 8] A t).eval (.tmp 4) = .slice (some ⟨g, 0, none⟩) 5 c := (fr_eval_old _ _ _ 4 rfl).trans a4'
                  refine op_run (v := .slice (some ⟨g, 0, none⟩) 5 c) (w' := wx) rfl rfl ?_ ?_
                  · clear hp hd; have ec : ∀ v, (fr [79, 80, 81, 82, 83, 84, 85, 86, 87, 88, 89, 90, 91, 92, 93, 94, 95, 96, 97, 98, 99, 100, 8] A t).eval (.const v) = v := fun _ => rfl; generalize (fr [79, 80, 81, 82, 83, 84, 85, 86, 87, 88, 89, 90, 91, 92, 93, 94, 95, 96, 97, 98, 99, 100, 8] A t).eval = ev at ec e4 ⊢; go_simp
                  · exact ⟨_, 0, rfl, hB, Below.refl _ _, rfl, .inl rfl⟩
                | 15, _ =>
                  have e93 : (fr [79, 80, 81, 82, 83, 84, 85, 86, 87, 88, 89, 90, 91, 92, 93, 94, 95, 96, 97, 98, 99, 100, 8] A t).eval (.tmp 93) = .slice (some ⟨g, 0, none⟩) 5 c := (fr_eval _ _ _ 93 rfl (by rw [asz]; decide)).trans (hp 14 (pre_mem (by kernel_rfl)))
                  refine op_run (v := .pointer (some ⟨g, 3, none⟩)) (w' := wx) rfl rfl ?_ ?_
                  · clear hp hd; have ec : ∀ v, (fr [79, 80, 81, 82, 83, 84, 85, 86, 87, 88, 89, 90, 91, 92, 93, 94, 95, 96, 97, 98, 99, 100, 8] A t).eval (.const v) = v := fun _ => rfl; generalize (fr [79, 80, 81, 82, 83, 84, 85, 86, 87, 88, 89, 90, 91, 92, 93, 94, 95, 96, 97, 98, 99, 100, 8] A t).eval = ev at ec e93 ⊢; go_simp
                  · exact ⟨_, 0, rfl, hB, Below.refl _ _, rfl, .inl rfl⟩
                | 16, _ =>
                  have e94 : (fr [79, 80, 81, 82, 83, 84, 85, 86, 87, 88, 89, 90, 91, 92, 93, 94, 95, 96, 97, 98, 99, 100, 8] A t).eval (.tmp 94) = .pointer (some ⟨g, 3, none⟩) := (fr_eval _ _ _ 94 rfl (by rw [asz]; decide)).trans (hp 15 (pre_mem (by kernel_rfl)))
                  have hc : wx.cell? ⟨g, 3, none⟩ = some (.int .i64 x3) := (hI wx hB).cell 3 (by simp)
                  refine op_run (v := .int .i64 x3) (w' := wx) rfl rfl ?_ ?_
                  · clear hp hd; have ec : ∀ v, (fr [79, 80, 81, 82, 83, 84, 85, 86, 87, 88, 89, 90, 91, 92, 93, 94, 95, 96, 97, 98, 99, 100, 8] A t).eval (.const v) = v := fun _ => rfl; generalize (fr [79, 80, 81, 82, 83, 84, 85, 86, 87, 88, 89, 90, 91, 92, 93, 94, 95, 96, 97, 98, 99, 100, 8] A t).eval = ev at ec e94 ⊢; go_simp
                  · exact ⟨_, 0, rfl, hB, Below.refl _ _, rfl, .inl rfl⟩
                | 17, _ =>
                  have e92 : (fr [79, 80, 81, 82, 83, 84, 85, 86, 87, 88, 89, 90, 91, 92, 93, 94, 95, 96, 97, 98, 99, 100, 8] A t).eval (.tmp 92) = .int .i64 (x0 * 16777216 + x1 * 65536 + x2 * 256) := (fr_eval _ _ _ 92 rfl (by rw [asz]; decide)).trans (hp 13 (pre_mem (by kernel_rfl)))
                  have e95 : (fr [79, 80, 81, 82, 83, 84, 85, 86, 87, 88, 89, 90, 91, 92, 93, 94, 95, 96, 97, 98, 99, 100, 8] A t).eval (.tmp 95) = .int .i64 x3 := (fr_eval _ _ _ 95 rfl (by rw [asz]; decide)).trans (hp 16 (pre_mem (by kernel_rfl)))
                  refine op_run (v := .int .i64 (x0 * 16777216 + x1 * 65536 + x2 * 256 + x3)) (w' := wx) rfl rfl ?_ ?_
                  · clear hp hd; have ec : ∀ v, (fr [79, 80, 81, 82, 83, 84, 85, 86, 87, 88, 89, 90, 91, 92, 93, 94, 95, 96, 97, 98, 99, 100, 8] A t).eval (.const v) = v := fun _ => rfl; generalize (fr [79, 80, 81, 82, 83, 84, 85, 86, 87, 88, 89, 90, 91, 92, 93, 94, 95, 96, 97, 98, 99, 100, 8] A t).eval = ev at ec e92 e95 ⊢; go_simp
                  · exact ⟨_, 0, rfl, hB, Below.refl _ _, rfl, .inl rfl⟩
                | 18, _ =>
                  have e4 : (fr [79, 80, 81, 82, 83, 84, 85, 86, 87, 88, 89, 90, 91, 92, 93, 94, 95, 96, 97, 98, 99, 100, 8] A t).eval (.tmp 4) = .slice (some ⟨g, 0, none⟩) 5 c := (fr_eval_old _ _ _ 4 rfl).trans a4'
                  refine op_run (v := .slice (some ⟨g, 0, none⟩) 5 c) (w' := wx) rfl rfl ?_ ?_
                  · clear hp hd; have ec : ∀ v, (fr [79, 80, 81, 82, 83, 84, 85, 86, 87, 88, 89, 90, 91, 92, 93, 94, 95, 96, 97, 98, 99, 100, 8] A t).eval (.const v) = v := fun _ => rfl; generalize (fr [79, 80, 81, 82, 83, 84, 85, 86, 87, 88, 89, 90, 91, 92, 93, 94, 95, 96, 97, 98, 99, 100, 8] A t).eval = ev at ec e4 ⊢; go_simp
                  · exact ⟨_, 0, rfl, hB, Below.refl _ _, rfl, .inl rfl⟩
                | 19, _ =>
                  have e97 : (fr [79, 80, 81, 82, 83, 84, 85, 86, 87, 88, 89, 90, 91, 92, 93, 94, 95, 96, 97, 98, 99, 100, 8] A t).eval (.tmp 97) = .slice (some ⟨g, 0, none⟩) 5 c := (fr_eval _ _ _ 97 rfl (by rw [asz]; decide)).trans (hp 18 (pre_mem (by kernel_rfl)))
                  refine op_run (v := .pointer (some ⟨g, 4, none⟩)) (w' := wx) rfl rfl ?_ ?_
                  · clear hp hd; have ec : ∀ v, (fr [79, 80, 81, 82, 83, 84, 85, 86, 87, 88, 89, 90, 91, 92, 93, 94, 95, 96, 97, 98, 99, 100, 8] A t).eval (.const v) = v := fun _ => rfl; generalize (fr [79, 80, 81, 82, 83, 84, 85, 86, 87, 88, 89, 90, 91, 92, 93, 94, 95, 96, 97, 98, 99, 100, 8] A t).eval = ev at ec e97 ⊢; go_simp
                  · exact ⟨_, 0, rfl, hB, Below.refl _ _, rfl, .inl rfl⟩
                | 20, _ =>
                  have e98 : (fr [79, 80, 81, 82, 83, 84, 85, 86, 87, 88, 89, 90, 91, 92, 93, 94, 95, 96, 97, 98, 99, 100, 8] A t).eval (.tmp 98) = .pointer (some ⟨g, 4, none⟩) := (fr_eval _ _ _ 98 rfl (by rw [asz]; decide)).trans (hp 19 (pre_mem (by kernel_rfl)))
                  have hc : wx.cell? ⟨g, 4, none⟩ = some (.int .i64 x4) := (hI wx hB).cell 4 (by simp)
                  refine op_run (v := .int .i64 x4) (w' := wx) rfl rfl ?_ ?_
                  · clear hp hd; have ec : ∀ v, (fr [79, 80, 81, 82, 83, 84, 85, 86, 87, 88, 89, 90, 91, 92, 93, 94, 95, 96, 97, 98, 99, 100, 8] A t).eval (.const v) = v := fun _ => rfl; generalize (fr [79, 80, 81, 82, 83, 84, 85, 86, 87, 88, 89, 90, 91, 92, 93, 94, 95, 96, 97, 98, 99, 100, 8] A t).eval = ev at ec e98 ⊢; go_simp
                  · exact ⟨_, 0, rfl, hB, Below.refl _ _, rfl, .inl rfl⟩
                | 21, _ =>
                  have e96 : (fr [79, 80, 81, 82, 83, 84, 85, 86, 87, 88, 89, 90, 91, 92, 93, 94, 95, 96, 97, 98, 99, 100, 8] A t).eval (.tmp 96) = .int .i64 (x0 * 16777216 + x1 * 65536 + x2 * 256 + x3) := (fr_eval _ _ _ 96 rfl (by rw [asz]; decide)).trans (hp 17 (pre_mem (by kernel_rfl)))
                  have e99 : (fr [79, 80, 81, 82, 83, 84, 85, 86, 87, 88, 89, 90, 91, 92, 93, 94, 95, 96, 97, 98, 99, 100, 8] A t).eval (.tmp 99) = .int .i64 x4 := (fr_eval _ _ _ 99 rfl (by rw [asz]; decide)).trans (hp 20 (pre_mem (by kernel_rfl)))
                  refine op_run (v := .agg #[.int .i64 (x0 * 16777216 + x1 * 65536 + x2 * 256 + x3), .int .i64 x4]) (w' := wx) rfl rfl ?_ ?_
                  · clear hp hd; have ec : ∀ v, (fr [79, 80, 81, 82, 83, 84, 85, 86, 87, 88, 89, 90, 91, 92, 93, 94, 95, 96, 97, 98, 99, 100, 8] A t).eval (.const v) = v := fun _ => rfl; generalize (fr [79, 80, 81, 82, 83, 84, 85, 86, 87, 88, 89, 90, 91, 92, 93, 94, 95, 96, 97, 98, 99, 100, 8] A t).eval = ev at ec e96 e99 ⊢; go_simp
                  · exact ⟨_, 0, rfl, hB, Below.refl _ _, rfl, .inl rfl⟩
                | 22, _ =>
                  refine op_run (v := .pointer (some ⟨wx.heap.size, 0, none⟩)) (w' := wx.alloc (.cells #[.int .i64 0, .int .i64 0] 25)) rfl rfl ?_ ?_
                  · clear hp hd; have ec : ∀ v, (fr [79, 80, 81, 82, 83, 84, 85, 86, 87, 88, 89, 90, 91, 92, 93, 94, 95, 96, 97, 98, 99, 100, 8] A t).eval (.const v) = v := fun _ => rfl; generalize (fr [79, 80, 81, 82, 83, 84, 85, 86, 87, 88, 89, 90, 91, 92, 93, 94, 95, 96, 97, 98, 99, 100, 8] A t).eval = ev at ec  ⊢; go_simp
                  · exact ⟨_, wx.heap.size, rfl, hB.alloc hB.size _, (Below.refl _ _).alloc (Nat.le_refl _) _, ⟨rfl, Blk.new wx _ _, hB.size⟩, .inl rfl⟩
                | n + 23, hi => exact absurd hi (by omega)
              · intro t ρ wx hB hF hne
                have e100 : (fr [79, 80, 81, 82, 83, 84, 85, 86, 87, 88, 89, 90, 91, 92, 93, 94, 95, 96, 97, 98, 99, 100, 8] A t).eval (.tmp 100) = .agg #[.int .i64 (x0 * 16777216 + x1 * 65536 + x2 * 256 + x3), .int .i64 x4] := (fr_eval _ _ _ 100 rfl (by rw [asz]; decide)).trans (hF 21 (by decide))
                obtain ⟨hv22, q22_0, q22_1⟩ := hF 22 (by decide)
                have e8 : (fr [79, 80, 81, 82, 83, 84, 85, 86, 87, 88, 89, 90, 91, 92, 93, 94, 95, 96, 97, 98, 99, 100, 8] A t).eval (.tmp 8) = .pointer (some ⟨(ρ 22), 0, none⟩) := (fr_eval _ _ _ 8 rfl (by rw [asz]; decide)).trans hv22
                clear hne
                have q0 := q22_0.cell 0 rfl
                have q1 := q22_0.cell 1 rfl
                have f0 := q22_0.frozen 0
                have f1 := q22_0.frozen 1
                have kO : Hid (Blk wx (ρ 22) 25 [.int .i64 0, .int .i64 0]) := q22_0
                have lO : Hid (wr.heap.size ≤ (ρ 22)) := q22_1
                refine op_wp rfl rfl ?_
                clear hF q22_0 q22_1
                generalize (ρ 22) = O at *
                generalize hE : (fr [79, 80, 81, 82, 83, 84, 85, 86, 87, 88, 89, 90, 91, 92, 93, 94, 95, 96, 97, 98, 99, 100, 8] A t).eval = ev at e8 e100
                unfold Oper.wp
                rw [hE]
                go_simp
                refine hMet _ _ (Met.intro (hRJ _ _ ⟨t 8, t 79, t 80, t 81, t 82, t 83, t 84, t 85, t 86, t 87, t 88, t 89, t 90, t 91, t 92, t 93, t 94, t 95, t 96, t 97, t 98, t 99, t 100, ⟨O, hv22, lO.out, (kO.out.set 0 _ (by simp [maxLen])).set 1 _ (by simp [maxLen]), Below.trans hB ((((Below.refl _ _).setCell lO.out _).setCell lO.out _))⟩, ?_⟩))
                rw [← hA]; rfl
            case rest =>
              obtain ⟨O, rfl, hO, kO, bO⟩ := hcut
              obtain ⟨h, hh⟩ : ∃ h, x0 * 16777216 + x1 * 65536 + x2 * 256 + x3 = h := ⟨_, rfl⟩
              rw [hh] at kO
              have KO : Hid (Blk wc O 25 [.int .i64 h, .int .i64 x4]) := kO
              have BO : Hid (Below w.heap.size w wc) := HBe.out.trans (bO.mono HBe.out.size)
              have KKc : Hid (Blk wc w.heap.size 25 [.int .i64 0, .int .i64 0]) := HK.out.later bO
              have q0 := kO.cell 0 rfl
              have q1 := kO.cell 1 rfl
              clear kO bO o0 o1 f0 f1 b1' b2' b3' w0' w1' w2'
              go_wp2_with fail
              refine (specAddrText h x4 wc).mono ?_
              rintro e w5 ⟨rfl, b5⟩
              have BO5 : Hid (Below w.heap.size w w5) := BO.out.trans (b5.mono BO.out.size)
              have KK5 : Hid (Blk w5 w.heap.size 25 [.int .i64 0, .int .i64 0]) := KKc.out.later b5
              have KO5 : Hid (Blk w5 O 25 [.int .i64 h, .int .i64 x4]) := KO.out.later b5
              have z0 := KO5.out.cell 0 rfl
              have z1 := KO5.out.cell 1 rfl
              have o0 := KK5.out.cell 0 rfl
              have o1 := KK5.out.cell 1 rfl
              have f0 := KK5.out.frozen 0
              have f1 := KK5.out.frozen 1
              clear b5 q0 q1
              by_cases hsame : strOfNums (addrI h x4) = s
              · have YES : Hid (Reads (bs s) h x4 true) := reads_yes (by rw [HN.out]; simp) (by rw [← hsame, bs_nums _ (addrI_bytes h x4)])
                have hb1 : (s == s) = true := (beq_bytes _ _).2 rfl
                rw [hsame]
                clear hh hsame
                go_wp2
                exact ret_addr2 rfl rfl ((KK5.out.set 0 _ (by simp [maxLen])).set 1 _ (by simp [maxLen])) rfl rfl ⟨h, x4, true, rfl, YES.out, (BO5.out.setCell (Nat.le_refl _) _).setCell (Nat.le_refl _) _⟩
              · have NO : Hid (Reads (bs s) 0 0 false) := reads_of HN.out (by rw [hh]; intro e; apply hsame; rw [e, str_bs])
                have hb1 : (strOfNums (addrI h x4) == s) = false := by
                  cases e : (strOfNums (addrI h x4) == s) with
                  | false => rfl
                  | true => exact absurd ((beq_bytes _ _).1 e) hsame
                have hb2 : ((strOfNums (addrI h x4)).toList == s.toList) = false := by rw [← beq_toListBytes]; exact hb1
                clear hh hsame hb1
                generalize strOfNums (addrI h x4) = T at *
                go_wp2
                exact ret_addr2 rfl rfl ((KK5.out.set 0 _ (by simp [maxLen])).set 1 _ (by simp [maxLen])) rfl rfl ⟨0, 0, false, rfl, NO.out, (BO5.out.setCell (Nat.le_refl _) _).setCell (Nat.le_refl _) _⟩
      · have hl5I : ((m : Int) != 5) = true := by simp; omega
        have NO : Hid (Reads (bs s) 0 0 false) := reads_len HN.out (by rw [← EM.out]; exact hl5)
        go_wp2
        exact ret_addr2 rfl rfl ((HK.out.set 0 _ (by simp [maxLen])).set 1 _ (by simp [maxLen])) rfl rfl ⟨0, 0, false, rfl, NO.out, (HBe.out.setCell (Nat.le_refl _) _).setCell (Nat.le_refl _) _⟩
end Go.Proofs.YticfgbfchpnpoaaDoor.AddrR
