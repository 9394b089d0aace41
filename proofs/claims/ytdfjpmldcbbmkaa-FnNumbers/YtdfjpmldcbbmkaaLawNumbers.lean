/-
  The walk of the law FnNumbers: at every slice of bytes it answers true, and nothing that was there is written.
-/
import Derived.Test.YtdfjpmldcbbmkaaLawNums
namespace Go.Proofs.Ytdfjpmldcbbmkaa.LawNumbers
open Go.RowKit Go.Proofs.Ytdfjpmldcbbmkaa.Mem Go.Proofs.Ytdfjpmldcbbmkaa.App Go.Proofs.Ytdfjpmldcbbmkaa.Draw Go.Proofs.Ytdfjpmldcbbmkaa.DrawsW Go.Proofs.Ytdfjpmldcbbmkaa.Get Go.Proofs.Ytdfjpmldcbbmkaa.LawNums

theorem fold_from (r : List Int) : ∀ a : Int, r.foldl (fun n z => n * 256 + z) a = a * 256 ^ r.length + val r := by
  induction r with
  | nil => intro a; simp [val]
  | cons z r ih =>
    intro a
    have hv : val (z :: r) = z * 256 ^ r.length + val r := by
      have := ih (0 * 256 + z)
      rw [show (0 : Int) * 256 + z = z by omega] at this
      show (z :: r).foldl (fun n z => n * 256 + z) 0 = _
      rw [List.foldl_cons, show (0 : Int) * 256 + z = z by omega, this]
    rw [List.foldl_cons, ih, hv, List.length_cons, Int.pow_succ, Int.add_mul, Int.mul_assoc, Int.mul_comm 256 (256 ^ r.length), Int.add_assoc]
theorem val_cons (z : Int) (r : List Int) : val (z :: r) = z * 256 ^ r.length + val r := by
  have := fold_from r (0 * 256 + z)
  rw [show (0 : Int) * 256 + z = z by omega] at this
  show (z :: r).foldl (fun n z => n * 256 + z) 0 = _
  rw [List.foldl_cons, show (0 : Int) * 256 + z = z by omega, this]
theorem pow8 (j : Nat) : (2 : Int) ^ (8 * j) = 256 ^ j := by
  rw [Int.pow_mul]
  rfl
theorem val_num (n : Int) (k : Nat) : val (num n k) = n % 256 ^ k := by
  induction k with
  | zero => simp [num, val]
  | succ j ih =>
    unfold num
    rw [val_cons, num_length, ih, pow8, Int.pow_succ]
    have hp : (0 : Int) < 256 ^ j := Int.pow_pos (by decide)
    generalize (256 : Int) ^ j = P at *
    have h1 := Int.emod_add_mul_ediv n P
    have h2 := Int.emod_add_mul_ediv (n / P) 256
    have a1 := Int.emod_nonneg n (show P ≠ 0 by omega)
    have a2 := Int.emod_lt_of_pos n hp
    have a3 := Int.emod_nonneg (n / P) (show (256 : Int) ≠ 0 by decide)
    have a4 := Int.emod_lt_of_pos (n / P) (show (0 : Int) < 256 by decide)
    generalize n / P / 256 = q at *
    generalize hu : n / P % 256 = u at *
    generalize n / P = m at *
    generalize n % P = v at *
    have e : n = (v + u * P) + P * 256 * q := by
      rw [← h1, ← h2, Int.mul_add, ← Int.mul_assoc, Int.mul_comm P u, Int.add_assoc]
    have hup : u * P ≤ 255 * P := Int.mul_le_mul_of_nonneg_right (by omega) (by omega)
    have hu0 : 0 ≤ u * P := Int.mul_nonneg a3 (by omega)
    rw [e, Int.add_mul_emod_self_left, Int.emod_eq_of_lt (by omega) (by omega)]
    omega

theorem piece_tail (r x : List Int) (k : Nat) (h : x.length = k) : piece (r ++ x) r.length k = x := by
  unfold piece
  rw [List.drop_left, List.take_of_length_le (by omega)]
theorem got_num (r : List Int) (n : Int) (K : Nat) (h1 : 1 ≤ K) (h2 : K ≤ 6) (len : Nat) (hl : len = r.length) :
    gotN (r ++ num n K) (len : Int) (K : Int) = .tuple #[.int .i64 (n % 256 ^ K), .int .i64 ((len : Int) + K), .bool true] := by
  subst hl
  unfold gotN
  rw [if_pos ⟨(isSize_iff _).2 (by omega), there_yes (by rw [List.length_append, num_length]; omega)⟩]
  rw [Int.toNat_natCast, Int.toNat_natCast, piece_tail r (num n K) K (num_length n K), val_num]
theorem got_cut (x : List Int) (i k : Int) (h : (x.length : Int) - i < k) : gotN x i k = .tuple #[.int .i64 0, .int .i64 0, .bool false] := by
  unfold gotN
  rw [if_neg (by rw [there_no (by omega)]; simp)]
theorem rd_front {w : World} {a : Option Addr} {x : List Int} (h : Rd w a x) (k : Nat) : Rd w a (x.take k) := by
  intro i hi
  rw [List.length_take] at hi
  obtain ⟨b, off, e, h1, h2⟩ := h i (by omega)
  refine ⟨b, off, e, h1, ?_⟩
  rw [h2]
  simp [List.getD, show i < k by omega]
theorem bytes_take {x : List Int} (h : Bytes x) (k : Nat) : Bytes (x.take k) := fun z hz => h z (List.mem_of_mem_take hz)
theorem bytes_app {x y : List Int} (h : Bytes x) (k : Bytes y) : Bytes (x ++ y) := fun z hz => by
  rcases List.mem_append.1 hz with hz | hz
  · exact h z hz
  · exact k z hz

set_option maxHeartbeats 3200000 in
theorem small (a : Option Addr) (len cap : Nat) (l : List Int) (w : World) (hl : len = l.length) (hr : Rd w a l) (hb : Bytes l) (hlen : len ≤ 1048576) :
    Calls Try.prog 3 #[.slice a len cap] w fun e w' => e = .returned (.bool true) ∧ Below w.heap.size w w' := by
  have HR : Hid (Rd w a l) := hr
  have HY : Hid (Bytes l) := hb
  have HL : Hid (len = l.length) := hl
  clear hr hb hl
  go_enter Try.func3, Try.ntmps3
  go_wp2_with fail
  refine (big_no a len cap w hlen).mono ?_
  rintro e w0 ⟨rfl, rfl⟩
  go_wp2_with fail
  refine (drawPutN a len cap l w HL.out HR.out HY.out hlen).mono ?_
  rintro e w1 ⟨gb, mb, cb, r, n, k, rfl, e1, m1, y1, n0, n1, g1, row1, b1⟩
  have B1 : Hid (Below w.heap.size w w1) := b1
  have Q1 : Hid (Row w1 gb cb r) := row1
  have EB : Hid (mb = r.length) := e1
  have YB : Hid (Bytes r) := y1
  clear b1 row1 e1 y1
  go_wp2_with fail
  refine (implPutN _ mb cb r n k w1 EB.out Q1.out.rd (by intro h; cases h) (by have := EB.out; omega)).mono ?_
  rintro e w2 ⟨gp, mp, cp, rfl, e2, g2, row2, b2⟩
  have P2 : Hid (Row w2 gp cp (r ++ putN n k)) := row2
  have EP : Hid (mp = (r ++ putN n k).length) := e2
  have Q2 : Hid (Row w2 gb cb r) := Q1.out.later b2
  have B2 : Hid (Below w.heap.size w w2) := B1.out.trans (b2.mono B1.out.size)
  have mp1 : mp ≤ 1006 := by have := putN_length n k; have := EB.out; rw [e2, List.length_append]; omega
  have mpc : mp ≤ cp := by rw [e2]; exact row2.1
  clear b2 row2 e2 Q1 B1
  go_wp2_with fail
  refine (drawGetN a len cap l w2 HL.out (HR.out.later B2.out (Nat.le_refl _)) HY.out hlen).mono ?_
  rintro e w3 ⟨gc, mc, cc, s, i, j, rfl, e3, m3, mc3, y3, i1, g3, row3, b3⟩
  have C3 : Hid (Row w3 gc cc s) := row3
  have EC : Hid (mc = s.length) := e3
  have YC : Hid (Bytes s) := y3
  have P3 : Hid (Row w3 gp cp (r ++ putN n k)) := P2.out.later b3
  have Q3 : Hid (Row w3 gb cb r) := Q2.out.later b3
  have B3 : Hid (Below w.heap.size w w3) := B2.out.trans (b3.mono B2.out.size)
  clear b3 row3 e3 y3 P2 Q2 B2
  obtain ⟨u, v, ok, hg⟩ : ∃ u v ok, gotN s i j = .tuple #[.int .i64 u, .int .i64 v, .bool ok] := by
    unfold gotN; split <;> exact ⟨_, _, _, rfl⟩
  have HG : Hid (gotN s i j = .tuple #[.int .i64 u, .int .i64 v, .bool ok]) := hg
  clear hg
  go_wp2_with fail
  refine (implGetN _ mc cc s i j w3 EC.out C3.out.rd YC.out mc3 (by omega) i1).mono ?_
  rw [HG.out]
  rintro e w4 ⟨rfl, rfl⟩
  go_wp2_with fail
  refine (specGetN _ mc cc s i j w3 EC.out C3.out.rd YC.out (by omega)).mono ?_
  rw [HG.out]
  rintro e w4 ⟨rfl, rfl⟩
  have t0 : (ok != ok) = false := by simp
  have t1 : (u != u) = false := by simp
  have t2 : (v != v) = false := by simp
  go_wp2_with fail
  refine (starts_yes gp cp gb cb mp mb r (putN n k) w3 EP.out EB.out mpc P3.out.rd Q3.out.rd (by omega)).mono ?_
  rintro e w4 ⟨rfl, m4, d4⟩
  have b4 : Below w3.heap.size w3 w4 := by rw [d4]; exact below_drewN (Below.refl _ _) _
  have P4 : Hid (Row w4 gp cp (r ++ putN n k)) := P3.out.later b4
  have B4 : Hid (Below w.heap.size w w4) := B3.out.trans (b4.mono B3.out.size)
  clear b4 d4 P3 Q3 B3 C3
  by_cases hk : 1 ≤ k ∧ k ≤ 6
  · obtain ⟨K, rfl⟩ := Int.eq_ofNat_of_zero_le (show 0 ≤ k by omega)
    have HP : Hid (putN n (K : Int) = num n K) := by show putN n (K : Int) = num n K; unfold putN; rw [if_pos hk, Int.toNat_natCast]
    have hk1 : 1 ≤ K := by omega
    have hk2 : K ≤ 6 := by omega
    have EM : Hid (mp = mb + K) := by show _ = _; rw [EP.out, HP.out, List.length_append, num_length, ← EB.out]
    rw [HP.out] at P4 EP
    have HG1 : Hid (gotN (r ++ num n K) (mb : Int) (K : Int) = .tuple #[.int .i64 (n % 256 ^ K), .int .i64 ((mb : Int) + K), .bool true]) := got_num r n K hk1 hk2 mb EB.out
    have YP : Hid (Bytes (r ++ num n K)) := bytes_app YB.out (num_bytes n K)
    have em := EM.out
    have EC2 : Hid (mp - 1 = ((r ++ num n K).take (mp - 1)).length) := by show _ = _; rw [List.length_take, ← EP.out]; omega
    have HG2 : Hid (gotN ((r ++ num n K).take (mp - 1)) (mb : Int) (K : Int) = .tuple #[.int .i64 0, .int .i64 0, .bool false]) := got_cut _ _ _ (by rw [← EC2.out]; omega)
    have mp0 : 1 ≤ mp := by omega
    clear em hk
    obtain ⟨M, rfl⟩ : ∃ M, mp = M + 1 := ⟨mp - 1, by omega⟩
    rw [Nat.add_sub_cancel] at EC2 HG2
    go_wp2_with fail
    refine (implGetN _ _ cp (r ++ num n K) _ _ w4 EP.out P4.out.rd YP.out mpc (by omega) (by omega)).mono ?_
    rw [HG1.out]
    rintro e w5 ⟨rfl, rfl⟩
    go_wp2_with fail
    refine (implGetN _ M cp ((r ++ num n K).take M) _ _ w4 EC2.out (rd_front P4.out.rd M) (bytes_take YP.out M) (by omega) (by omega) (by omega)).mono ?_
    rw [HG2.out]
    rintro e w5 ⟨rfl, rfl⟩
    have em1 : M + 1 ≤ mb + K := by have := EM.out; omega
    have em2 : mb + K ≤ M + 1 := by have := EM.out; omega
    have k1 : ∀ z, bits .and .i64 z 255 = z % 256 := fun z => Bits.mask_i64 8 (by omega) z
    have k2 : ∀ z, bits .and .i64 z 65535 = z % 65536 := fun z => Bits.mask_i64 16 (by omega) z
    have k3 : ∀ z, bits .and .i64 z 16777215 = z % 16777216 := fun z => Bits.mask_i64 24 (by omega) z
    have k4 : ∀ z, bits .and .i64 z 4294967295 = z % 4294967296 := fun z => Bits.mask_i64 32 (by omega) z
    have k5 : ∀ z, bits .and .i64 z 1099511627775 = z % 1099511627776 := fun z => Bits.mask_i64 40 (by omega) z
    have k6 : ∀ z, bits .and .i64 z 281474976710655 = z % 281474976710656 := fun z => Bits.mask_i64 48 (by omega) z
    clear P4 YP HG1 HG2 EC2 EP HP EM
    generalize hq : n % 256 ^ K = q at *
    have HQ : Hid (n % 256 ^ K = q) := hq
    clear hq
    rcases (show K = 1 ∨ K = 2 ∨ K = 3 ∨ K = 4 ∨ K = 5 ∨ K = 6 by omega) with rfl | rfl | rfl | rfl | rfl | rfl
    · have tq : (q == n % 256) = true := by rw [beq_iff_eq]; exact HQ.out.symm
      go_wp2
      go_ret
      exact ⟨by simp, B4.out⟩
    · have tq : (q == n % 65536) = true := by rw [beq_iff_eq]; exact HQ.out.symm
      go_wp2
      go_ret
      exact ⟨by simp, B4.out⟩
    · have tq : (q == n % 16777216) = true := by rw [beq_iff_eq]; exact HQ.out.symm
      go_wp2
      go_ret
      exact ⟨by simp, B4.out⟩
    · have tq : (q == n % 4294967296) = true := by rw [beq_iff_eq]; exact HQ.out.symm
      go_wp2
      go_ret
      exact ⟨by simp, B4.out⟩
    · have tq : (q == n % 1099511627776) = true := by rw [beq_iff_eq]; exact HQ.out.symm
      go_wp2
      go_ret
      exact ⟨by simp, B4.out⟩
    · have tq : (q == n % 281474976710656) = true := by rw [beq_iff_eq]; exact HQ.out.symm
      go_wp2
      go_ret
      exact ⟨by simp, B4.out⟩
  · have hp : putN n k = [] := by unfold putN; rw [if_neg hk]
    have hme : mp = mb := by rw [EP.out, hp, List.append_nil]; exact EB.out.symm
    have t3 : ((mp : Int) == (mb : Int)) = true := by rw [beq_iff_eq, hme]
    clear hme hp
    rcases (show k < 1 ∨ 6 < k by omega) with h' | h'
    all_goals
      go_wp2
      go_ret
      exact ⟨by simp, B4.out⟩

theorem walk (a : Option Addr) (len cap : Nat) (z : List Int) (w : World) (h : IsRow .u8 w a len cap z) :
    Calls Try.prog 3 #[.slice a len cap] w fun e w' => e = .returned (.bool true) ∧ Below w.heap.size w w' := by
  obtain ⟨l, h1, h2, _, h4⟩ := h.read
  by_cases hl : len ≤ 1048576
  · exact small a len cap l w h1 h2 h4 hl
  · clear h h1 h2 h4
    go_enter Try.func3, Try.ntmps3
    go_wp2_with fail
    refine (big_yes a len cap w (by omega)).mono ?_
    rintro e w0 ⟨rfl, rfl⟩
    go_wp2
    go_ret
    exact ⟨rfl, Below.refl _ _⟩
end Go.Proofs.Ytdfjpmldcbbmkaa.LawNumbers
