/-
  The walk of the law FnRots: at every slice of bytes it answers true, and nothing that was there is written.
-/
import Derived.Test.YtdfjpmldcbbmkaaDrawsW
import Derived.Test.YtdfjpmldcbbmkaaWord
import Derived.Laws.BitsAllLaws
namespace Go.Proofs.Ytdfjpmldcbbmkaa.LawRots
open Go.RowKit Go.Proofs.Ytdfjpmldcbbmkaa.Mem Go.Proofs.Ytdfjpmldcbbmkaa.App Go.Proofs.Ytdfjpmldcbbmkaa.Draw Go.Proofs.Ytdfjpmldcbbmkaa.DrawsW Go.Proofs.Ytdfjpmldcbbmkaa.Bits

theorem rotN_sum (X n : Nat) (hX : X < 4294967296) (hn : n ≤ 32) : rotN X n = X % 2 ^ n * 2 ^ (32 - n) + X / 2 ^ n := by
  have e : (4294967296 : Nat) = 2 ^ n * 2 ^ (32 - n) := by rw [← Nat.pow_add, show n + (32 - n) = 32 by omega]
  have e1 : X * 2 ^ (32 - n) % 4294967296 = X % 2 ^ n * 2 ^ (32 - n) := by rw [e, Nat.mul_mod_mul_right]
  have hq : X / 2 ^ n < 2 ^ (32 - n) := by
    rw [Nat.div_lt_iff_lt_mul (Nat.two_pow_pos n), Nat.mul_comm, ← e]; exact hX
  unfold rotN
  rw [e1, Nat.or_comm]
  exact nat_join (32 - n) _ _ (Nat.mul_mod_left _ _) hq
theorem rotN_back (X n : Nat) (hX : X < 4294967296) (h1 : 1 ≤ n) (h2 : n ≤ 31) : rotN (rotN X n) (32 - n) = X := by
  have hq : X / 2 ^ n < 2 ^ (32 - n) := by
    rw [Nat.div_lt_iff_lt_mul (Nat.two_pow_pos n), Nat.mul_comm, ← Nat.pow_add, show n + (32 - n) = 32 by omega]; exact hX
  rw [rotN_sum (rotN X n) (32 - n) (rotN_lt X n hX) (by omega), rotN_sum X n hX (by omega), show 32 - (32 - n) = n by omega]
  have m1 : (X % 2 ^ n * 2 ^ (32 - n) + X / 2 ^ n) % 2 ^ (32 - n) = X / 2 ^ n := by
    rw [Nat.add_comm, Nat.add_mul_mod_self_right, Nat.mod_eq_of_lt hq]
  have m2 : (X % 2 ^ n * 2 ^ (32 - n) + X / 2 ^ n) / 2 ^ (32 - n) = X % 2 ^ n := by
    rw [Nat.add_comm, Nat.add_mul_div_right _ _ (Nat.two_pow_pos _), Nat.div_eq_of_lt hq, Nat.zero_add]
  rw [m1, m2, Nat.mul_comm, Nat.div_add_mod]
theorem rot_back (x n : Int) (h1 : 1 ≤ n) (h2 : n ≤ 31) : rot (rot x n) (32 - n) = x % 4294967296 := by
  have hb := rot_bd x n
  have e : rot x n = ((rotN (x % 4294967296).toNat n.toNat : Nat) : Int) := by unfold rot; rw [if_pos ⟨h1, h2⟩]
  have h := rotN_back (x % 4294967296).toNat n.toNat (by omega) (by omega) (by omega)
  rw [show rot (rot x n) (32 - n) = ((rotN (rot x n % 4294967296).toNat (32 - n).toNat : Nat) : Int) by unfold rot; rw [if_pos (show 1 ≤ 32 - n ∧ 32 - n ≤ 31 by omega)]]
  rw [show rot x n % 4294967296 = rot x n by omega, e, Int.toNat_natCast, show (32 - n).toNat = 32 - n.toNat by omega, h]
  omega

set_option maxHeartbeats 1600000 in
theorem small (a : Option Addr) (len cap : Nat) (l : List Int) (w : World) (hl : len = l.length) (hr : Rd w a l) (hb : Bytes l) (hlen : len ≤ 1048576) :
    Calls Try.prog 4 #[.slice a len cap] w fun e w' => e = .returned (.bool true) ∧ Below w.heap.size w w' := by
  have HR : Hid (Rd w a l) := hr
  have HY : Hid (Bytes l) := hb
  have HL : Hid (len = l.length) := hl
  clear hr hb hl
  go_enter Try.func4, Try.ntmps4
  go_wp2_with fail
  refine (big_no a len cap w hlen).mono ?_
  rintro e w0 ⟨rfl, rfl⟩
  go_wp2_with fail
  refine (drawRot a len cap l w HL.out HR.out HY.out hlen).mono ?_
  rintro e w1 ⟨x, n, rfl, x0, x1, b1⟩
  have B1 : Hid (Below w.heap.size w w1) := b1
  clear b1
  go_wp2_with fail
  refine (drawAdd a len cap l w1 HL.out (HR.out.later B1.out (Nat.le_refl _)) HY.out hlen).mono ?_
  rintro e w2 ⟨u, v, rfl, b2⟩
  have B2 : Hid (Below w.heap.size w w2) := B1.out.trans (b2.mono B1.out.size)
  clear b2 B1
  have hr0 := rot_bd x n
  have hcm : (((u + v) % 4294967296) != ((v + u) % 4294967296)) = false := by rw [bne_eq_false_iff_eq, Int.add_comm]
  have hcm2 : (((u + v) % 4294967296) != ((u + v) % 4294967296)) = false := by simp
  have hm := mask32 x
  generalize hy : rot x n = y at *
  have HY' : Hid (rot x n = y) := hy
  clear hy
  obtain ⟨y0, y1⟩ := hr0
  generalize hs : (u + v) % 4294967296 = s at *
  have HS : Hid ((u + v) % 4294967296 = s) := hs
  have s0 : 0 ≤ s := by omega
  have s1 : s ≤ 4294967295 := by omega
  clear hs
  go_wp2_with fail
  refine (Word.implRot x n _).mono ?_
  rw [HY'.out]
  rintro e w3 ⟨rfl, m3, rfl⟩
  go_wp2_with fail
  refine (Word.implAdd u v _).mono ?_
  rw [HS.out]
  rintro e w3 ⟨rfl, rfl⟩
  go_wp2_with fail
  refine (Word.implAdd v u _).mono ?_
  rintro e w3 ⟨rfl, rfl⟩
  go_wp2_with fail
  refine (Word.specAdd u v _).mono ?_
  rw [HS.out]
  rintro e w3 ⟨rfl, rfl⟩
  by_cases hn : 1 ≤ n ∧ n ≤ 31
  · have HB : Hid (rot y (32 - n) = x % 4294967296) := by show _ = _; rw [← HY'.out]; exact rot_back x n hn.1 hn.2
    obtain ⟨n1, n2⟩ := hn
    go_wp2_with fail
    refine (Word.implRot y (32 - n) _).mono ?_
    rw [HB.out]
    rintro e w3 ⟨rfl, m4, rfl⟩
    go_wp2
    go_ret
    exact ⟨by simp, below_drewN B2.out _⟩
  · have hyx : y = x % 4294967296 := by rw [← HY'.out]; unfold rot; rw [if_neg hn]
    subst hyx
    rcases (show n < 1 ∨ 31 < n by omega) with h' | h'
    all_goals
      go_wp2
      go_ret
      exact ⟨by simp, below_drewN B2.out _⟩

theorem walk (a : Option Addr) (len cap : Nat) (z : List Int) (w : World) (h : IsRow .u8 w a len cap z) :
    Calls Try.prog 4 #[.slice a len cap] w fun e w' => e = .returned (.bool true) ∧ Below w.heap.size w w' := by
  obtain ⟨l, h1, h2, _, h4⟩ := h.read
  by_cases hl : len ≤ 1048576
  · exact small a len cap l w h1 h2 h4 hl
  · clear h h1 h2 h4
    go_enter Try.func4, Try.ntmps4
    go_wp2_with fail
    refine (big_yes a len cap w (by omega)).mono ?_
    rintro e w0 ⟨rfl, rfl⟩
    go_wp2
    go_ret
    exact ⟨rfl, Below.refl _ _⟩
end Go.Proofs.Ytdfjpmldcbbmkaa.LawRots
