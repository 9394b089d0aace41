/-
  laws.FnPads answers true at every slice of bytes; nothing that was there is written into.
-/
import Derived.Test.YtippfkoondknkaaDrawB
import Derived.Test.YtippfkoondknkaaPads
namespace Go.Proofs.Ytippfkoondknkaa.LawPads
open Go.RowKit Go.Proofs.Ytippfkoondknkaa.Mem Go.Proofs.Ytippfkoondknkaa.App Go.Proofs.Ytippfkoondknkaa.Get Go.Proofs.Ytippfkoondknkaa.ShaP Go.Proofs.Ytippfkoondknkaa.Pads Go.Proofs.Ytippfkoondknkaa.Draw

theorem bigNo (a : Option Addr) (len cap : Nat) (w : World) (h : len ≤ 1048576) :
    Calls Try.prog 9 #[.slice a len cap] w fun e w' => e = .returned (.bool false) ∧ w = w' := by
  have h' : ¬ ((1048576 : Int) < (len : Int)) := by omega
  go_enter Try.func9, Try.ntmps9
  go_wp2
  go_ret
  exact ⟨rfl, rfl⟩
theorem bigYes (a : Option Addr) (len cap : Nat) (w : World) (h : 1048576 < len) :
    Calls Try.prog 9 #[.slice a len cap] w fun e w' => e = .returned (.bool true) ∧ w = w' := by
  have h' : (1048576 : Int) < (len : Int) := by omega
  go_enter Try.func9, Try.ntmps9
  go_wp2
  go_ret
  exact ⟨rfl, rfl⟩

set_option maxHeartbeats 800000 in
theorem drawPad (a : Option Addr) (len cap : Nat) (l : List Int) (w : World) (hl : len = l.length) (hr : Rd w a l) (hb : Bytes l) (hlen : len ≤ 1048576) :
    Calls Try.prog 10 #[.slice a len cap] w fun e w' => ∃ x : Int, e = .returned (.int .i64 x) ∧ Below w.heap.size w w' := by
  have HR : Hid (Rd w a l) := hr
  have HB : Hid (Bytes l) := hb
  have HL : Hid (len = l.length) := hl
  clear hr hb hl
  go_enter Try.func10, Try.ntmps10
  go_wp2_with fail
  refine (newCur a len cap l w HL.out HR.out HB.out hlen).mono ?_
  rintro e w1 ⟨p, rfl, r1⟩
  have R1 : Hid (Ready w a len cap l p w1) := r1
  clear r1 HR HB HL
  go_wp2_with fail
  refine (once R1.out 3 (by omega) (by omega)).mono ?_
  rintro e w2 ⟨ok, rfl, r2, _⟩
  have R2 : Hid (Ready w a len cap l p w2) := r2
  have hlt := r2.hc.lt
  clear r2 R1
  cases ok
  · go_wp2_with fail
    refine (below R2.out 200 (by omega) (by omega)).mono ?_
    rintro e w3 ⟨x, rfl, x0, x1, r3, _⟩
    have B3 : Hid (Below w.heap.size w w3) := r3.hB
    clear r3 R2
    go_wp2
    go_ret
    exact ⟨_, rfl, B3.out⟩
  · have HI : Hid (IntsAt (w2.alloc (.cells #[.int .i64 (-1), .int .i64 0, .int .i64 1048576, .int .i64 1048577, .int .i64 9223372036854775807] 3)) w2.heap.size [-1, 0, 1048576, 1048577, 9223372036854775807]) := ints_new w2 _
    have HNE : Hid (w2.heap.size ≠ p) := by show _ ≠ _; omega
    go_wp2_with fail
    refine (intOfList (R2.out.alloc _) w2.heap.size 5 [-1, 0, 1048576, 1048577, 9223372036854775807] rfl HI.out HNE.out (by omega) (by omega)).mono ?_
    rintro e w3 ⟨x, rfl, _, r3, _⟩
    have B3 : Hid (Below w.heap.size w w3) := r3.hB
    clear r3 R2 HI
    go_wp2
    go_ret
    exact ⟨_, rfl, B3.out⟩

theorem pad_split (N : Nat) (h : N ≤ 1048576) : padOf N = (128 :: List.replicate ((64 - (N + 9) % 64) % 64 + 4) 0) ++ num (8 * (N : Int)) 4 := by
  unfold padOf
  rw [pad_nums N h, ← List.replicate_append_replicate, show num 0 4 = List.replicate 4 0 by decide]
  simp only [List.cons_append, List.append_assoc]
theorem pad_zero (N i : Nat) (h : N ≤ 1048576) (h1 : 1 ≤ i) (h2 : i + 4 < (padOf N).length) : (padOf N).getD i 0 = 0 := by
  rw [padOf_length] at h2
  rw [pad_split N h]
  obtain ⟨j, rfl⟩ : ∃ j, i = j + 1 := ⟨i - 1, by omega⟩
  have hj : j < (64 - (N + 9) % 64) % 64 + 4 := by omega
  simp [List.getD, List.getElem?_append, hj]
theorem val_num4 (n : Int) : val (num n 4) = n % 4294967296 := by
  simp only [num, val, List.foldl, Nat.mul_zero, Nat.reduceMul, Int.pow_zero, Int.ediv_one, Int.reducePow]
  omega
theorem pad_val (N : Nat) (h : N ≤ 1048576) : val (piece (padOf N) ((padOf N).length - 4) 4) = 8 * (N : Int) := by
  have hl := padOf_length N
  have e : piece (padOf N) ((padOf N).length - 4) 4 = num (8 * (N : Int)) 4 := by
    unfold piece
    rw [hl, pad_split N h, List.drop_append]
    simp
    rw [List.drop_of_length_le (by simp; omega)]
    simp
    rw [show 9 + (64 - (N + 9) % 64) % 64 - 4 - ((64 - (N + 9) % 64) % 64 + 4 + 1) = 0 by omega, List.drop_zero, List.take_of_length_le (by rw [num_length]; omega)]
  rw [e, val_num4]; omega

set_option maxHeartbeats 1600000 in
theorem small (a : Option Addr) (len cap : Nat) (l : List Int) (w : World) (hl : len = l.length) (hr : Rd w a l) (hb : Bytes l) (hlen : len ≤ 1048576) :
    Calls Try.prog 3 #[.slice a len cap] w fun e w' => e = .returned (.bool true) ∧ Below w.heap.size w w' := by
  have HR : Hid (Rd w a l) := hr
  have HY : Hid (Bytes l) := hb
  have HL : Hid (len = l.length) := hl
  clear hr hb hl
  go_enter Try.func3, Try.ntmps3
  go_wp2_with fail
  refine (bigNo a len cap w hlen).mono ?_
  rintro e w0 ⟨rfl, rfl⟩
  go_wp2_with fail
  refine (drawPad a len cap l w HL.out HR.out HY.out hlen).mono ?_
  rintro e w1 ⟨n, rfl, b1⟩
  have B1 : Hid (Below w.heap.size w w1) := b1
  clear b1
  go_wp2_with fail
  refine (implPad n w1).mono ?_
  rintro e w2 ⟨g, m, c, rfl, e2, k2, r2, b2⟩
  have B2 : Hid (Below w.heap.size w w2) := B1.out.trans (b2.mono B1.out.size)
  have R2 : Hid (Row w2 g c (padI n)) := r2
  have E2 : Hid (m = (padI n).length) := e2
  clear b2 r2 e2 k2 B1
  by_cases hn : 0 ≤ n ∧ n ≤ 1048576
  · obtain ⟨n0, n1⟩ := hn
    obtain ⟨N, rfl⟩ := Int.eq_ofNat_of_zero_le n0
    have hN : N ≤ 1048576 := by omega
    have HP : Hid (padI (N : Int) = padOf N) := by show padI _ = _; unfold padI; rw [if_pos ⟨n0, n1⟩, Int.toNat_natCast]
    rw [HP.out] at R2 E2
    have HPL := padOf_length N
    have em : m = 9 + (64 - (N + 9) % 64) % 64 := by rw [E2.out, HPL]
    have m1 : 9 ≤ m := by omega
    have m2 : m ≤ 72 := by omega
    have m3 : ((N : Int) + (m : Int)) % 64 = 0 := by omega
    have c0 : w2.cell? ⟨g, 0, none⟩ = some (.int .u8 128) := R2.out.cell 0 (by rw [HPL]; omega)
    have HC : Hid (∀ i, 1 ≤ i → i + 4 < m → w2.cell? ⟨g, i, none⟩ = some (.int .u8 0)) := by
      intro i h1 h2
      rw [E2.out] at h2
      have := R2.out.cell i (by omega)
      rw [pad_zero N i hN h1 h2] at this
      exact this
    have HG : Hid (gotN (padOf N) ((m : Int) - 4) 4 = .tuple #[.int .i64 (8 * (N : Int)), .int .i64 (m : Int), .bool true]) := by
      show gotN _ _ _ = _
      unfold gotN
      rw [if_pos ⟨(isSize_iff 4).2 (by omega), there_yes (by rw [← E2.out]; omega)⟩]
      rw [show ((m : Int) - 4).toNat = (padOf N).length - 4 by rw [← E2.out]; omega, show (4 : Int).toNat = 4 from rfl, pad_val N hN]
      rw [show (m : Int) - 4 + 4 = (m : Int) by omega]
    have HY2 : Hid (Bytes (padOf N)) := by
      intro z hz
      simp only [padOf, List.mem_cons, List.mem_append, List.mem_replicate] at hz
      rcases hz with rfl | ⟨_, rfl⟩ | hz
      · omega
      · omega
      · exact num_bytes _ _ z hz
    have HCC : Hid (m ≤ c) := by show _ ≤ _; rw [E2.out]; exact R2.out.1
    clear HPL em n0 n1
    go_wp2
    go_loop [5] (fun i => ∃ k : Nat, 1 ≤ k ∧ k + 4 ≤ m ∧ i = .int .i64 k) (fun i => m - (intOf i).toNat)
    case atStart => exact ⟨1, by omega, by omega, rfl⟩
    case round =>
      obtain ⟨k, hk1, hk2, rfl⟩ := hrel
      by_cases hlt : k + 4 < m
      · have hc := HC.out k hk1 hlt
        have hi1 : (k : Int) < (m : Int) - 4 := by omega
        have hi2 : (k : Int) < (m : Int) := by omega
        go_wp2
        go_round
        case rel => exact ⟨k + 1, by omega, by omega, by go_num⟩
        case measure => simp [intOf]; omega
      · have hi1 : ¬ ((k : Int) < (m : Int) - 4) := by omega
        go_wp2_with fail
        refine (implGetN _ m c (padOf N) ((m : Int) - 4) 4 w2 E2.out R2.out.rd HY2.out HCC.out (by omega) (by omega)).mono ?_
        rintro e w3 ⟨rfl, rfl⟩
        rw [HG.out]
        have hq : ((8 * (N : Int)) == 8 * (N : Int)) = true := by simp
        go_wp2
        go_ret
        exact ⟨by simp, B2.out⟩
  · have HP : Hid (padI n = []) := by show padI _ = _; unfold padI; rw [if_neg hn]
    have em : m = 0 := by rw [E2.out, HP.out]; rfl
    subst em
    clear R2 E2
    rcases (show n < 0 ∨ (0 ≤ n ∧ 1048576 < n) by omega) with hk | ⟨hk0, hk⟩
    all_goals
      clear hn
      go_wp2
      go_ret
      exact ⟨by simp, B2.out⟩

theorem walk (a : Option Addr) (len cap : Nat) (z : List Int) (w : World) (h : IsRow .u8 w a len cap z) :
    Calls Try.prog 3 #[.slice a len cap] w fun e w' => e = .returned (.bool true) ∧ Below w.heap.size w w' := by
  obtain ⟨l, h1, h2, _, h4⟩ := h.read
  by_cases hl : len ≤ 1048576
  · exact small a len cap l w h1 h2 h4 hl
  · clear h h1 h2 h4
    go_enter Try.func3, Try.ntmps3
    go_wp2_with fail
    refine (bigYes a len cap w (by omega)).mono ?_
    rintro e w0 ⟨rfl, rfl⟩
    go_wp2
    go_ret
    exact ⟨rfl, Below.refl _ _⟩
end Go.Proofs.Ytippfkoondknkaa.LawPads
