/-
  Addresses as plain functions on numbers and lists of numbers: their bytes, their text, and what a text is read as.
  What impl's and spec's GetN answer at every slice of at most 4,194,304 bytes, every place and every number of bytes: the same three results.
  'append' of bytes to a row of the call's own: what it holds then, and where it lies: where it lay, or behind all that was there.
  The sum of 256 bits as plain functions of lists of numbers, and plain facts on them: every word stays a word, what is added in parts is what is added as a whole. No condition beyond those that each lemma names.
  Slices of ints as rows of numbers, and what the laws' own four helpers on them do: copy, compare, mark, and look for imarks. Each contract asks that the slice is read as the list that it names, and a length of at most 4,194,304.
-/
import Derived.Test.YtpgapjdejelajaaGreatDoorVaGr1
import Derived.Laws.BitsAllLaws
import Derived.Maps.AppendAt
set_option linter.unusedVariables false
set_option maxRecDepth 100000
namespace Go.Proofs.YtpgapjdejelajaaGreatDoor.AddrP
open Go.RowKit Mem App

def addrOk (h p : Int) : Bool := decide (0 ≤ h ∧ h ≤ 4294967295 ∧ 0 ≤ p ∧ p ≤ 65535)
theorem addrOk_iff (h p : Int) : addrOk h p = true ↔ 0 ≤ h ∧ h ≤ 4294967295 ∧ 0 ≤ p ∧ p ≤ 65535 := by simp [addrOk]
end Go.Proofs.YtpgapjdejelajaaGreatDoor.AddrP

namespace Go.Proofs.YtpgapjdejelajaaGreatDoor.Get
open Go.RowKit Mem App

def val (l : List Int) : Int := l.foldl (fun n z => n * 256 + z) 0
theorem val_snoc (l : List Int) (z : Int) : val (l ++ [z]) = val l * 256 + z := by simp [val]
theorem fold_bd (l : List Int) (h : Bytes l) : ∀ acc : Int, 0 ≤ acc → 0 ≤ l.foldl (fun n z => n * 256 + z) acc ∧ l.foldl (fun n z => n * 256 + z) acc < (acc + 1) * 256 ^ l.length := by
 induction l with
 | nil => intro acc h0; simp; omega
 | cons z r ih =>
  intro acc h0
  have hz := h z (by simp)
  have hr := ih (fun x hx => h x (by simp [hx])) (acc * 256 + z) (by omega)
  refine ⟨hr.1, Int.lt_of_lt_of_le hr.2 ?_⟩
  rw [List.length_cons, Int.pow_succ, Int.mul_comm (256 ^ r.length) 256, ← Int.mul_assoc]
  exact Int.mul_le_mul_of_nonneg_right (by omega) (Int.le_of_lt (Int.pow_pos (by decide)))
theorem val_bd (l : List Int) (h : Bytes l) : 0 ≤ val l ∧ val l < 256 ^ l.length := by
 have := fold_bd l h 0 (by omega)
 unfold val
 simpa using this

def piece (l : List Int) (i k : Nat) : List Int := (l.drop i).take k
theorem piece_succ (l : List Int) (i k : Nat) (h : i + k < l.length) : piece l i (k + 1) = piece l i k ++ [l.getD (i + k) 0] := by
 unfold piece
 rw [List.take_succ_eq_append_getElem (by rw [List.length_drop]; omega)]
 simp [List.getD, h]
theorem piece_bytes {l : List Int} (h : Bytes l) (i k : Nat) : Bytes (piece l i k) := fun z hz => h z (List.mem_of_mem_drop (List.mem_of_mem_take hz))
theorem piece_length (l : List Int) (i k : Nat) (h : i + k ≤ l.length) : (piece l i k).length = k := by
 unfold piece; rw [List.length_take, List.length_drop]; omega
theorem val_piece5 (l : List Int) (i k : Nat) (hb : Bytes l) (h : i + k ≤ l.length) (hk : k ≤ 5) : 0 ≤ val (piece l i k) ∧ val (piece l i k) < 1099511627776 := by
 have := val_bd _ (piece_bytes hb i k)
 rw [piece_length l i k h] at this
 refine ⟨this.1, Int.lt_of_lt_of_le this.2 ?_⟩
 have h2 : (256 : Int) ^ k ≤ 256 ^ 5 := by
  rcases (show k = 0 ∨ k = 1 ∨ k = 2 ∨ k = 3 ∨ k = 4 ∨ k = 5 by omega) with rfl | rfl | rfl | rfl | rfl | rfl <;> decide
 have e : (256 : Int) ^ 5 = 1099511627776 := by decide
 omega
theorem or_step (n z : Int) (h0 : 0 ≤ n) (h1 : n < 1099511627776) (h2 : 0 ≤ z) (h3 : z ≤ 255) : bits .or .i64 (n * 256) z = n * 256 + z := by
 obtain ⟨N, rfl⟩ := Int.eq_ofNat_of_zero_le h0
 obtain ⟨Z, rfl⟩ := Int.eq_ofNat_of_zero_le h2
 have := Bits.or_i64 (N * 256) Z (by omega) (by omega)
 rw [nat_join 8 (N * 256) Z (by omega) (by omega)] at this
 rw [show (N : Int) * 256 = ((N * 256 : Nat) : Int) by omega, this]
 omega

def there (len : Nat) (i k : Int) : Bool := decide (0 ≤ i ∧ 0 ≤ k ∧ k ≤ (len : Int) - i)
theorem there_yes {len : Nat} {i k : Int} (h : 0 ≤ i ∧ 0 ≤ k ∧ k ≤ (len : Int) - i) : there len i k = true := by simpa [there] using h
theorem there_no {len : Nat} {i k : Int} (h : ¬ (0 ≤ i ∧ 0 ≤ k ∧ k ≤ (len : Int) - i)) : there len i k = false := by
 unfold there; exact decide_eq_false h

theorem allThere (a : Option Addr) (len cap : Nat) (i k : Int) (w : World) (hl : len ≤ 4194304) (hi : i ≤ 9223372036854775807) :
  Calls Tryz.prog 87 #[.slice a len cap, .int .i64 i, .int .i64 k] w fun e w' => e = .returned (.bool (there len i k)) ∧ w = w' := by
 by_cases h1 : 0 ≤ i
 ·
  by_cases h2 : 0 ≤ k
  ·
   by_cases h3 : k ≤ (len : Int) - i
   ·
    have H : Hid (there len i k = true) := there_yes ⟨h1, h2, h3⟩
    go_enter Tryz.func87, Tryz.ntmps87
    go_wp2
    go_ret
    exact ⟨by rw [H.out]; simp, rfl⟩
   ·
    have H : Hid (there len i k = false) := there_no (by omega)
    go_enter Tryz.func87, Tryz.ntmps87
    go_wp2
    go_ret
    exact ⟨by rw [H.out]; simp, rfl⟩
  ·
   have H : Hid (there len i k = false) := there_no (by omega)
   go_enter Tryz.func87, Tryz.ntmps87
   go_wp2
   go_ret
   exact ⟨by rw [H.out]; simp, rfl⟩
 ·
  have H : Hid (there len i k = false) := there_no (by omega)
  go_enter Tryz.func87, Tryz.ntmps87
  go_wp2
  go_ret
  exact ⟨by rw [H.out]; simp, rfl⟩

def gotN (l : List Int) (i k : Int) : Value :=
 if isSize k = true ∧ there l.length i k = true then .tuple #[.int .i64 (val (piece l i.toNat k.toNat)), .int .i64 (i + k), .bool true] else .tuple #[.int .i64 0, .int .i64 0, .bool false]

set_option maxHeartbeats 800000 in
theorem implGetN (a : Option Addr) (len cap : Nat) (l : List Int) (i k : Int) (w : World) (hl : len = l.length) (hr : Rd w a l) (hb : Bytes l) (hlc : len ≤ cap) (hlen : len ≤ 4194304) (hi : i ≤ 9223372036854775807) :
  Calls Tryz.prog 123 #[.slice a len cap, .int .i64 i, .int .i64 k] w fun e w' => e = .returned (gotN l i k) ∧ w = w' := by
 have HR := hid (hr)
 have HB := hid (hb)
 have HL : Hid (len = l.length) := hl
 clear hr hb hl
 by_cases hs : isSize k = true
 ·
  by_cases ht : there len i k = true
  ·
   have HG : Hid (gotN l i k = .tuple #[.int .i64 (val (piece l i.toNat k.toNat)), .int .i64 (i + k), .bool true]) := by
    show gotN l i k = _
    unfold gotN; rw [if_pos ⟨hs, by rw [← HL.out]; exact ht⟩]
   have hk := (isSize_iff k).1 hs
   have ht' : 0 ≤ i ∧ 0 ≤ k ∧ k ≤ (len : Int) - i := by simpa [there] using ht
   obtain ⟨I, rfl⟩ := Int.eq_ofNat_of_zero_le ht'.1
   obtain ⟨K, rfl⟩ := Int.eq_ofNat_of_zero_le ht'.2.1
   rw [Int.toNat_natCast, Int.toNat_natCast] at HG
   have k1 : 1 ≤ K := by omega
   have k2 : K ≤ 6 := by omega
   have k3 : I + K ≤ len := by omega
   obtain ⟨b, off, rfl, _, _⟩ := HR.out I (by have := HL.out; omega)
   clear hk ht'
   go_enter Tryz.func123, Tryz.ntmps123
   go_wp2_with fail
   refine (isNumberSize _ _).mono ?_
   rintro e w1 ⟨rfl, rfl⟩
   go_wp2_with fail
   refine (allThere _ len cap _ _ _ hlen hi).mono ?_
   rintro e w1 ⟨rfl, rfl⟩
   go_wp2_with fail
   go_loop [9, 29] (fun n j => ∃ q : Nat, q ≤ K ∧ j = .int .i64 q ∧ n = .int .i64 (val (piece l I q))) (fun _ j => K - (intOf j).toNat)
   case atStart => exact ⟨0, Nat.zero_le _, rfl, rfl⟩
   case round =>
    obtain ⟨q, hq, rfl, rfl⟩ := hrel
    by_cases hlt : q < K
    ·
     obtain ⟨b', off', e, _, hc⟩ := HR.out (I + q) (by have := HL.out; omega)
     simp only [Option.some.injEq, Addr.mk.injEq, and_true] at e
     obtain ⟨rfl, rfl⟩ := e
     have hv := val_piece5 l I q HB.out (by have := HL.out; omega) (by omega)
     have hz := HB.out.at (I + q)
     have ho := or_step (val (piece l I q)) (l.getD (I + q) 0) hv.1 hv.2 hz.1 hz.2
     have HS : Hid (val (piece l I (q + 1)) = val (piece l I q) * 256 + l.getD (I + q) 0) := by
      show _ = _
      rw [piece_succ l I q (by have := HL.out; omega), val_snoc]
     generalize l.getD (I + q) 0 = z at *
     generalize val (piece l I q) = n at *
     obtain ⟨hv1, hv2⟩ := hv
     obtain ⟨hz1, hz2⟩ := hz
     rw [← Nat.add_assoc] at hc
     go_wp2
     go_round
     case rel => exact ⟨q + 1, by omega, by go_num, by rw [HS.out]⟩
     case measure => simp [intOf]; omega
    ·
     obtain rfl : q = K := by omega
     go_wp2
     go_ret3
     exact ⟨by rw [HG.out]; rfl, rfl⟩
  ·
   have ht' : there len i k = false := by simpa using ht
   have HG : Hid (gotN l i k = .tuple #[.int .i64 0, .int .i64 0, .bool false]) := by
    show gotN l i k = _
    unfold gotN; rw [if_neg (by rw [← HL.out, ht']; simp)]
   clear ht
   go_enter Tryz.func123, Tryz.ntmps123
   go_wp2_with fail
   refine (isNumberSize _ _).mono ?_
   rintro e w1 ⟨rfl, rfl⟩
   go_wp2_with fail
   refine (allThere _ len cap _ _ _ hlen hi).mono ?_
   rintro e w1 ⟨rfl, rfl⟩
   go_wp2
   go_ret3
   exact ⟨by rw [HG.out]; rfl, rfl⟩
 ·
  have hs' : isSize k = false := by simpa using hs
  have HG : Hid (gotN l i k = .tuple #[.int .i64 0, .int .i64 0, .bool false]) := by
   show gotN l i k = _
   unfold gotN; rw [if_neg (by rw [hs']; simp)]
  clear hs
  go_enter Tryz.func123, Tryz.ntmps123
  go_wp2_with fail
  refine (isNumberSize _ _).mono ?_
  rintro e w1 ⟨rfl, rfl⟩
  go_wp2
  go_ret3
  exact ⟨by rw [HG.out]; rfl, rfl⟩

set_option maxHeartbeats 800000 in
theorem specGetN (a : Option Addr) (len cap : Nat) (l : List Int) (i k : Int) (w : World) (hl : len = l.length) (hr : Rd w a l) (hb : Bytes l) (hlen : len ≤ 4194304) :
  Calls Tryz.prog 122 #[.slice a len cap, .int .i64 i, .int .i64 k] w fun e w' => e = .returned (gotN l i k) ∧ w = w' := by
 have HR := hid (hr)
 have HB := hid (hb)
 have HL : Hid (len = l.length) := hl
 clear hr hb hl
 by_cases hk : 1 ≤ k ∧ k ≤ 6
 ·
  obtain ⟨k1, k2⟩ := hk
  by_cases hi : 0 ≤ i
  ·
   by_cases ht : i ≤ (len : Int) - k
   ·
    have HG : Hid (gotN l i k = .tuple #[.int .i64 (val (piece l i.toNat k.toNat)), .int .i64 (i + k), .bool true]) := by
     show gotN l i k = _
     unfold gotN; rw [if_pos ⟨(isSize_iff k).2 ⟨k1, k2⟩, there_yes (by rw [← HL.out]; omega)⟩]
    obtain ⟨I, rfl⟩ := Int.eq_ofNat_of_zero_le hi
    obtain ⟨K, rfl⟩ := Int.eq_ofNat_of_zero_le (show 0 ≤ k by omega)
    rw [Int.toNat_natCast, Int.toNat_natCast] at HG
    obtain ⟨b, off, rfl, _, _⟩ := HR.out I (by have := HL.out; omega)
    go_enter Tryz.func122, Tryz.ntmps122
    go_wp2_with fail
    go_loop [9, 10] (fun n j => ∃ q : Nat, q ≤ K ∧ j = .int .i64 q ∧ n = .int .i64 (val (piece l I q))) (fun _ j => K - (intOf j).toNat)
    case atStart => exact ⟨0, Nat.zero_le _, rfl, rfl⟩
    case round =>
     obtain ⟨q, hq, rfl, rfl⟩ := hrel
     by_cases hlt : q < K
     ·
      obtain ⟨b', off', e, _, hc⟩ := HR.out (I + q) (by have := HL.out; omega)
      simp only [Option.some.injEq, Addr.mk.injEq, and_true] at e
      obtain ⟨rfl, rfl⟩ := e
      have hv := val_piece5 l I q HB.out (by have := HL.out; omega) (by omega)
      have hz := HB.out.at (I + q)
      have HS : Hid (val (piece l I (q + 1)) = val (piece l I q) * 256 + l.getD (I + q) 0) := by
       show _ = _
       rw [piece_succ l I q (by have := HL.out; omega), val_snoc]
      generalize l.getD (I + q) 0 = z at *
      generalize val (piece l I q) = n at *
      obtain ⟨hv1, hv2⟩ := hv
      obtain ⟨hz1, hz2⟩ := hz
      have hil : ((I + q : Nat) : Int) < (len : Int) := by omega
      go_wp2
      go_round
      case rel => exact ⟨q + 1, by omega, by go_num, by rw [HS.out]⟩
      case measure => simp [intOf]; omega
     ·
      obtain rfl : q = K := by omega
      go_wp2
      go_ret3
      exact ⟨by rw [HG.out]; rfl, rfl⟩
   ·
    have HG : Hid (gotN l i k = .tuple #[.int .i64 0, .int .i64 0, .bool false]) := by
     show gotN l i k = _
     unfold gotN; rw [if_neg (by rw [there_no (by rw [← HL.out]; omega)]; simp)]
    go_enter Tryz.func122, Tryz.ntmps122
    go_wp2
    go_ret3
    exact ⟨by rw [HG.out]; rfl, rfl⟩
  ·
   have HG : Hid (gotN l i k = .tuple #[.int .i64 0, .int .i64 0, .bool false]) := by
    show gotN l i k = _
    unfold gotN; rw [if_neg (by rw [there_no (by omega)]; simp)]
   go_enter Tryz.func122, Tryz.ntmps122
   go_wp2
   go_ret3
   exact ⟨by rw [HG.out]; rfl, rfl⟩
 ·
  have HG : Hid (gotN l i k = .tuple #[.int .i64 0, .int .i64 0, .bool false]) := by
   show gotN l i k = _
   unfold gotN; rw [if_neg (by rw [isSize_not k hk]; simp)]
  rcases (show k < 1 ∨ 6 < k by omega) with hk' | hk'
  all_goals
   go_enter Tryz.func122, Tryz.ntmps122
   go_wp2
   go_ret3
   exact ⟨by rw [HG.out]; rfl, rfl⟩
end Go.Proofs.YtpgapjdejelajaaGreatDoor.Get

namespace Go.Proofs.YtpgapjdejelajaaGreatDoor.AppAt
open Go.RowKit Mem App

theorem wpList_app_at (w : World) {ops : Array Oper} {rest : List Oper} {o : Oper} {a : Act} {Q : Exit → Act → World → Prop} (hgd : o.guard = none) (s x : Operand)
  (ho : o.op = .call { callee := .builtin .append, args := #[s, x], argTypes := #[22, 22] })
  (base g n cap : Nat) (l y : List Int) (hs : a.eval s = .slice (some ⟨g, 0, none⟩) n cap) (hn : n = l.length) (hrow : Row w g cap l) (hbg : base ≤ g)
  (ao : Option Addr) (m c : Nat) (hx : a.eval x = .slice ao m c) (hm : m = y.length) (hrd : Rd w ao y) (hnone : ao = none → c = 0) (hsum : l.length + y.length ≤ 100000000)
  (h : ∀ g' cap' w', Row w' g' cap' (l ++ y) → base ≤ g' → (g' = g ∨ w.heap.size ≤ g') → w.grownBy w' (some g) → wpList Tryz.prog ops Q rest (a.put o.dst (.slice (some ⟨g', 0, none⟩) (n + m) cap')) w') :
  wpList Tryz.prog ops Q (o :: rest) a w := by
 obtain ⟨i0, hi, hz0, hz1, hz2⟩ := info_parts info8
 subst hn hm
 have hlt := hrow.lt
 cases ao with
 | none =>
  have hy : y = [] := by
   cases y with
   | nil => rfl
   | cons z r => obtain ⟨_, _, e, _⟩ := hrd 0 (by simp); cases e
  subst hy
  have hc0 := hnone rfl
  subst hc0
  refine wpList_append_own_none hgd s x 22 ho base 5 i0 1 Tryz.underlying22 hi _ _ _ hs (hrow.owns hbg) hx ?_
  simpa using h g cap w (by simpa using hrow) hbg (.inl rfl) (World.grownBy.refl _ _)
 | some ad =>
  refine wpList_append_own_at w hgd s x 22 ho base 5 i0 (.int .u8 0) 1 1 Tryz.underlying22 hi hz0 hz1 hz2 rfl (by decide) _ _ _ hs (hrow.owns hbg) ad y.length c (y.map (Value.int .u8)) hx (by simp) (Rd.cells hrd) (ints_oneCell _ _) (by unfold maxLen; omega) (by omega) (by omega) ?_
  intro v' w' hown hgr hiff hat
  rcases hown.2 with ⟨hv, _⟩ | ⟨g', cap', cur, rfl, hb, hg', _⟩
  ·
   exact absurd (hiff.1 hv).1 (by simp)
  ·
   rw [← List.map_append] at hown
   obtain ⟨r1, r2, _, r4⟩ := Row.of hown
   refine h g' cap' w' r1 r2 ?_ hgr
   rcases hat with e | e
   ·
    simp only [Value.ownBlock, Option.some.injEq] at e; exact .inl e
   ·
    simp only [Value.ownBlock, Option.some.injEq] at e; exact .inr (by omega)
end Go.Proofs.YtpgapjdejelajaaGreatDoor.AppAt

namespace Go.Proofs.YtpgapjdejelajaaGreatDoor.ShaP
open Go.RowKit Mem App Get Bits

def Wd (x : Int) : Prop := 0 ≤ x ∧ x ≤ 4294967295
theorem wd_mod (x : Int) : Wd (x % 4294967296) := by unfold Wd; omega
theorem wd_rot (x n : Int) : Wd (rot x n) := rot_bd x n

theorem wd_xor {a b : Int} (ha : Wd a) (hb : Wd b) : Wd (bits .xor .i64 a b) := by
 obtain ⟨A, rfl⟩ := Int.eq_ofNat_of_zero_le ha.1
 obtain ⟨B, rfl⟩ := Int.eq_ofNat_of_zero_le hb.1
 have h1 := ha.2
 have h2 := hb.2
 rw [xor_i64 A B (by omega) (by omega)]
 have := Nat.xor_lt_two_pow (x := A) (y := B) (n := 32) (by omega) (by omega)
 unfold Wd; omega
theorem wd_and {a b : Int} (ha : Wd a) (hb : Wd b) : Wd (bits .and .i64 a b) := by
 obtain ⟨A, rfl⟩ := Int.eq_ofNat_of_zero_le ha.1
 obtain ⟨B, rfl⟩ := Int.eq_ofNat_of_zero_le hb.1
 have h1 := ha.2
 have h2 := hb.2
 rw [and_i64 A B (by omega) (by omega)]
 have : A &&& B ≤ A := Nat.and_le_left
 unfold Wd; omega

def xor3 (a b c : Int) : Int := bits .xor .i64 (bits .xor .i64 a b) c
theorem wd_xor3 {a b c : Int} (ha : Wd a) (hb : Wd b) (hc : Wd c) : Wd (xor3 a b c) := wd_xor (wd_xor ha hb) hc

def s0 (x : Int) : Int := xor3 (rot x 7) (rot x 18) (x / 8)
def s1 (x : Int) : Int := xor3 (rot x 17) (rot x 19) (x / 1024)
theorem wd_s0 {x : Int} (h : Wd x) : Wd (s0 x) := wd_xor3 (wd_rot _ _) (wd_rot _ _) (by unfold Wd at *; omega)
theorem wd_s1 {x : Int} (h : Wd x) : Wd (s1 x) := wd_xor3 (wd_rot _ _) (wd_rot _ _) (by unfold Wd at *; omega)

def Wds (l : List Int) : Prop := ∀ z ∈ l, Wd z
theorem Wds.at {l : List Int} (h : Wds l) (i : Nat) : Wd (l.getD i 0) := by
 by_cases hi : i < l.length
 ·
  simpa [List.getD, hi] using h _ (List.getElem_mem hi)
 ·
  simp [List.getD, List.getElem?_eq_none (Nat.le_of_not_lt hi), Wd]
theorem Wds.snoc {l : List Int} {z : Int} (h : Wds l) (hz : Wd z) : Wds (l ++ [z]) := by
 intro y hy
 rcases List.mem_append.1 hy with hy | hy
 ·
  exact h y hy
 ·
  simp at hy; subst hy; exact hz

def first (b : List Int) (j : Nat) : List Int := (List.range j).map fun i => val (piece b (4 * i) 4)
theorem first_length (b : List Int) (j : Nat) : (first b j).length = j := by simp [first]
theorem first_succ (b : List Int) (j : Nat) : first b (j + 1) = first b j ++ [val (piece b (4 * j) 4)] := by simp [first, List.range_succ]
theorem val4 (b : List Int) (j : Nat) (hb : Bytes b) : Wd (val (piece b j 4)) := by
 have := val_bd _ (piece_bytes hb j 4)
 have h2 : (piece b j 4).length ≤ 4 := by unfold piece; rw [List.length_take]; omega
 have h3 : (256 : Int) ^ (piece b j 4).length ≤ 256 ^ 4 := by
  rcases (show (piece b j 4).length = 0 ∨ (piece b j 4).length = 1 ∨ (piece b j 4).length = 2 ∨ (piece b j 4).length = 3 ∨ (piece b j 4).length = 4 by omega) with h | h | h | h | h <;> rw [h] <;> decide
 have e : (256 : Int) ^ 4 = 4294967296 := by decide
 unfold Wd; omega
theorem first_wds (b : List Int) (j : Nat) (hb : Bytes b) : Wds (first b j) := by
 intro z hz
 simp only [first, List.mem_map] at hz
 obtain ⟨i, _, rfl⟩ := hz
 exact val4 b _ hb

def nextW (W : List Int) (n : Nat) : Int := (W.getD (n - 7) 0 + W.getD (n - 16) 0 + s0 (W.getD (n - 15) 0) + s1 (W.getD (n - 2) 0)) % 4294967296
def more (W : List Int) : Nat → List Int
 | 0 => W
 | n + 1 => more W n ++ [nextW (more W n) (16 + n)]
theorem more_length (W : List Int) (n : Nat) : (more W n).length = W.length + n := by
 induction n with
 | zero => rfl
 | succ n ih => simp [more, ih]; omega
theorem more_wds (W : List Int) (n : Nat) (h : Wds W) : Wds (more W n) := by
 induction n with
 | zero => exact h
 | succ n ih => exact ih.snoc (wd_mod _)
def sched (b : List Int) : List Int := more (first b 16) 48
theorem sched_length (b : List Int) : (sched b).length = 64 := by simp [sched, more_length, first_length]
theorem sched_wds (b : List Int) (hb : Bytes b) : Wds (sched b) := more_wds _ _ (first_wds b 16 hb)
def kk : List Int := [1116352408, 1899447441, 3049323471, 3921009573, 961987163, 1508970993, 2453635748, 2870763221, 3624381080, 310598401, 607225278, 1426881987, 1925078388, 2162078206, 2614888103, 3248222580, 3835390401, 4022224774, 264347078, 604807628, 770255983, 1249150122, 1555081692, 1996064986, 2554220882, 2821834349, 2952996808, 3210313671, 3336571891, 3584528711, 113926993, 338241895, 666307205, 773529912, 1294757372, 1396182291, 1695183700, 1986661051, 2177026350, 2456956037, 2730485921, 2820302411, 3259730800, 3345764771, 3516065817, 3600352804, 4094571909, 275423344, 430227734, 506948616, 659060556, 883997877, 958139571, 1322822218, 1537002063, 1747873779, 1955562222, 2024104815, 2227730452, 2361852424, 2428436474, 2756734187, 3204031479, 3329325298]
theorem kk_length : kk.length = 64 := rfl
theorem kk_wds : Wds kk := by intro z hz; simp only [kk, List.mem_cons, List.not_mem_nil, or_false] at hz; unfold Wd; omega
def start8 : List Int := [1779033703, 3144134277, 1013904242, 2773480762, 1359893119, 2600822924, 528734635, 1541459225]
theorem start8_wds : Wds start8 := by intro z hz; simp only [start8, List.mem_cons, List.not_mem_nil, or_false] at hz; unfold Wd; omega

structure St where
 a : Int
 b : Int
 c : Int
 d : Int
 e : Int
 f : Int
 g : Int
 h : Int
def St.ok (s : St) : Prop := Wd s.a ∧ Wd s.b ∧ Wd s.c ∧ Wd s.d ∧ Wd s.e ∧ Wd s.f ∧ Wd s.g ∧ Wd s.h
def big1 (e : Int) : Int := xor3 (rot e 6) (rot e 11) (rot e 25)
def big0 (a : Int) : Int := xor3 (rot a 2) (rot a 13) (rot a 22)
def cho (e f g : Int) : Int := bits .xor .i64 (bits .and .i64 e f) (bits .and .i64 (bits .xor .i64 e 4294967295) g)
def maj (a b c : Int) : Int := xor3 (bits .and .i64 a b) (bits .and .i64 a c) (bits .and .i64 b c)
def tOf (k w : Int) (s : St) : Int := s.h + big1 s.e + cho s.e s.f s.g + k + w
def uOf (s : St) : Int := big0 s.a + maj s.a s.b s.c
def rnd (k w : Int) (s : St) : St := ⟨(tOf k w s + uOf s) % 4294967296, s.a, s.b, s.c, (s.d + tOf k w s) % 4294967296, s.e, s.f, s.g⟩
theorem rnd_ok (k w : Int) (s : St) (h : s.ok) : (rnd k w s).ok := by
 obtain ⟨a, b, c, d, e, f, g, _⟩ := h
 exact ⟨wd_mod _, a, b, c, wd_mod _, e, f, g⟩
theorem wd_big1 (e : Int) : Wd (big1 e) := wd_xor3 (wd_rot _ _) (wd_rot _ _) (wd_rot _ _)
theorem wd_big0 (e : Int) : Wd (big0 e) := wd_xor3 (wd_rot _ _) (wd_rot _ _) (wd_rot _ _)
theorem wd_cho {e f g : Int} (he : Wd e) (hf : Wd f) (hg : Wd g) : Wd (cho e f g) := wd_xor (wd_and he hf) (wd_and (wd_xor he (by unfold Wd; omega)) hg)
theorem wd_maj {e f g : Int} (he : Wd e) (hf : Wd f) (hg : Wd g) : Wd (maj e f g) := wd_xor3 (wd_and he hf) (wd_and he hg) (wd_and hf hg)

theorem andNot_word (g e : Int) (hg : Wd g) (he : Wd e) : bits .andNot .i64 g e = bits .and .i64 (bits .xor .i64 e 4294967295) g := by
 obtain ⟨G, rfl⟩ := Int.eq_ofNat_of_zero_le hg.1
 obtain ⟨E, rfl⟩ := Int.eq_ofNat_of_zero_le he.1
 have h1 := hg.2
 have h2 := he.2
 have hx : bits .xor .i64 (E : Int) 4294967295 = ((E ^^^ 4294967295 : Nat) : Int) := xor_i64 E 4294967295 (by omega) (by omega)
 have hxl := Nat.xor_lt_two_pow (x := E) (y := 4294967295) (n := 32) (by omega) (by omega)
 rw [hx, and_i64 _ _ (by omega) (by omega)]
 show IntKind.i64.wrap ((BitVec.ofInt 64 (G : Int) &&& ~~~ BitVec.ofInt 64 (E : Int)).toNat : Int) = _
 have key : (BitVec.ofInt 64 (G : Int) &&& ~~~ BitVec.ofInt 64 (E : Int)).toNat = (E ^^^ 4294967295) &&& G := by
  apply Nat.eq_of_testBit_eq
  intro i
  rw [BitVec.testBit_toNat, BitVec.getLsbD_and, BitVec.getLsbD_not, Nat.testBit_and, Nat.testBit_xor]
  have t1 : (BitVec.ofInt 64 (G : Int)).getLsbD i = G.testBit i := by rw [← BitVec.testBit_toNat, ofInt64_nat G (by omega)]
  have t2 : (BitVec.ofInt 64 (E : Int)).getLsbD i = E.testBit i := by rw [← BitVec.testBit_toNat, ofInt64_nat E (by omega)]
  rw [t1, t2]
  by_cases hi : i < 32
  ·
   have t3 : Nat.testBit 4294967295 i = true := by
    rw [show 4294967295 = 2 ^ 32 - 1 by decide, Nat.testBit_two_pow_sub_one]; simpa using hi
   have hi2 : i < 64 := by omega
   rw [t3]
   cases G.testBit i <;> cases E.testBit i <;> simp [hi2]
  ·
   have t4 : G.testBit i = false := Nat.testBit_lt_two_pow (Nat.lt_of_lt_of_le (show G < 2 ^ 32 by omega) (Nat.pow_le_pow_right (by omega) (by omega)))
   rw [t4]; simp
 rw [key]
 exact wrap_i64_nat _ (Nat.lt_of_le_of_lt Nat.and_le_right (by omega))

def rounds (W : List Int) (s : St) : Nat → St
 | 0 => s
 | n + 1 => rnd (kk.getD n 0) (W.getD n 0) (rounds W s n)
theorem rounds_ok (W : List Int) (s : St) (n : Nat) (h : s.ok) : (rounds W s n).ok := by
 induction n with
 | zero => exact h
 | succ n ih => exact rnd_ok _ _ _ ih
def stOf (h : List Int) : St := ⟨h.getD 0 0, h.getD 1 0, h.getD 2 0, h.getD 3 0, h.getD 4 0, h.getD 5 0, h.getD 6 0, h.getD 7 0⟩
theorem stOf_ok {h : List Int} (hw : Wds h) : (stOf h).ok := ⟨hw.at 0, hw.at 1, hw.at 2, hw.at 3, hw.at 4, hw.at 5, hw.at 6, hw.at 7⟩
def St.list (s : St) : List Int := [s.a, s.b, s.c, s.d, s.e, s.f, s.g, s.h]
def plus (h l : List Int) (i : Nat) : Int := (h.getD i 0 + l.getD i 0) % 4294967296
def comp (h b : List Int) : List Int := (List.range 8).map (plus h (rounds (sched b) (stOf h) 64).list)
theorem comp_length (h b : List Int) : (comp h b).length = 8 := by simp [comp]
theorem comp_wds (h b : List Int) : Wds (comp h b) := by
 intro z hz
 simp only [comp, List.mem_map] at hz
 obtain ⟨i, _, rfl⟩ := hz
 exact wd_mod _
def run (h x : List Int) : Nat → List Int
 | 0 => h
 | n + 1 => comp (run h x n) (piece x (64 * n) 64)
theorem run_length (h x : List Int) (n : Nat) (hh : h.length = 8) : (run h x n).length = 8 := by
 cases n with
 | zero => exact hh
 | succ n => exact comp_length _ _
theorem run_wds (h x : List Int) (n : Nat) (hh : Wds h) : Wds (run h x n) := by
 cases n with
 | zero => exact hh
 | succ n => exact comp_wds _ _
theorem piece_left (x y : List Int) (i k : Nat) (h : i + k ≤ x.length) : piece (x ++ y) i k = piece x i k := by
 unfold piece
 rw [List.drop_append_of_le_length (by omega), List.take_append_of_le_length (by rw [List.length_drop]; omega)]
theorem run_left (h x y : List Int) (n : Nat) (hn : 64 * n ≤ x.length) : run h (x ++ y) n = run h x n := by
 induction n with
 | zero => rfl
 | succ n ih => rw [run, run, ih (by omega), piece_left x y _ _ (by omega)]
theorem run_more (h x : List Int) (q m : Nat) : run h x (q + m) = run (run h x q) (x.drop (64 * q)) m := by
 induction m with
 | zero => rfl
 | succ m ih =>
  rw [← Nat.add_assoc, run, run, ih]
  congr 1
  unfold piece
  rw [List.drop_drop]
  congr 2
  omega
theorem run_parts (h x y : List Int) (q m : Nat) (hq : 64 * q ≤ x.length) : run (run h x q) (x.drop (64 * q) ++ y) m = run h (x ++ y) (q + m) := by
 rw [run_more, run_left h x y q hq, List.drop_append_of_le_length hq]

def padOf (n : Nat) : List Int := 128 :: (List.replicate ((64 - (n + 9) % 64) % 64) 0 ++ num (8 * (n : Int)) 8)
theorem padOf_length (n : Nat) : (padOf n).length = 9 + (64 - (n + 9) % 64) % 64 := by simp [padOf, num_length]; omega
theorem pad_nums (n : Nat) (h : n ≤ 1048576) : num (8 * (n : Int)) 8 = num 0 4 ++ num (8 * (n : Int)) 4 := by
 have e1 : (8 * (n : Int)) / 2 ^ 56 = 0 := by omega
 have e2 : (8 * (n : Int)) / 2 ^ 48 = 0 := by omega
 have e3 : (8 * (n : Int)) / 2 ^ 40 = 0 := by omega
 have e4 : (8 * (n : Int)) / 2 ^ 32 = 0 := by omega
 simp only [num, Nat.reduceMul, List.cons_append, List.nil_append, e1, e2, e3, e4]
 simp
def outB : List Int → List Int
 | [] => []
 | x :: r => num x 4 ++ outB r
theorem outB_length (l : List Int) : (outB l).length = 4 * l.length := by
 induction l with
 | nil => rfl
 | cons x r ih => simp [outB, num_length, ih]; omega
theorem outB_snoc (l : List Int) (z : Int) : outB (l ++ [z]) = outB l ++ num z 4 := by
 induction l with
 | nil => simp [outB]
 | cons x r ih => simp [outB, ih]
def endOf (h held : List Int) (n : Nat) : List Int := outB (run h (held ++ padOf n) ((held ++ padOf n).length / 64))
def shaOf (x : List Int) : List Int := endOf start8 x x.length
end Go.Proofs.YtpgapjdejelajaaGreatDoor.ShaP

namespace Go.Proofs.YtpgapjdejelajaaGreatDoor.MemI
open Go.RowKit Mem

theorem info64 : (Tryz.prog.info? 3).map (fun i => (i.zero, i.size, i.bytes)) = some (some (.int .i64 0), 1, 8) := by kernel_rfl

def IRd (w : World) (a : Option Addr) (l : List Int) : Prop :=
 ∀ i, i < l.length → ∃ b off, a = some ⟨b, off, none⟩ ∧ b < w.heap.size ∧ w.cell? ⟨b, off + i, none⟩ = some (.int .i64 (l.getD i 0))

def IRow (w : World) (g cap : Nat) (l : List Int) : Prop :=
 l.length ≤ cap ∧ cap ≤ maxLen ∧ ∃ cur, w.heap[g]? = some (.cells cur 3 (0, 0)) ∧ cur.size = cap ∧ cur.toList.take l.length = l.map (Value.int .i64)

theorem IRow.owns {w : World} {g cap : Nat} {l : List Int} (h : IRow w g cap l) {base : Nat} (hb : base ≤ g) : w.ownsRow base 3 1 (.slice (some ⟨g, 0, none⟩) l.length cap) l.length (l.map (Value.int .i64)) := by
 obtain ⟨h1, h2, cur, h3, h4, h5⟩ := h
 exact ⟨by simp, .inr ⟨g, cap, cur, rfl, hb, h3, h1, h2, by omega, by simpa using h5⟩⟩
theorem IRow.of {w : World} {base g n cap : Nat} {l : List Int} (h : w.ownsRow base 3 1 (.slice (some ⟨g, 0, none⟩) n cap) n (l.map (Value.int .i64))) : IRow w g cap l ∧ base ≤ g ∧ n = l.length ∧ g < w.heap.size := by
 obtain ⟨h0, h⟩ := h
 have hn : n = l.length := by simpa using h0.symm
 subst hn
 rcases h with ⟨h, _⟩ | ⟨g', cap', cur, hv, hb, hg, h1, h2, h3, h4⟩
 ·
  simp at h
 ·
  simp only [Value.slice.injEq, Option.some.injEq, Addr.mk.injEq, and_true, true_and] at hv
  obtain ⟨rfl, rfl⟩ := hv
  exact ⟨⟨h1, h2, cur, hg, by omega, by simpa using h4⟩, hb, rfl, (Array.getElem?_eq_some_iff.1 hg).1⟩
theorem IRow.keep {w w' : World} {g cap : Nat} {l : List Int} (h : IRow w g cap l) (e : w'.heap[g]? = w.heap[g]?) : IRow w' g cap l := by
 obtain ⟨h1, h2, cur, h3, h4⟩ := h
 exact ⟨h1, h2, cur, e.trans h3, h4⟩
theorem IRow.lt {w : World} {g cap : Nat} {l : List Int} (h : IRow w g cap l) : g < w.heap.size := by
 obtain ⟨_, _, cur, h3, _⟩ := h
 exact (Array.getElem?_eq_some_iff.1 h3).1
theorem IRow.below {w w' : World} {g cap : Nat} {l : List Int} (h : IRow w g cap l) {B : Nat} (b : Below B w w') (hg : g < B) : IRow w' g cap l := h.keep (b.block g hg)
theorem IRow.later {w w' : World} {g cap : Nat} {l : List Int} (h : IRow w g cap l) (b : Below w.heap.size w w') : IRow w' g cap l := h.below b h.lt
theorem IRow.cell {w : World} {g cap : Nat} {l : List Int} (h : IRow w g cap l) (i : Nat) (hi : i < l.length) : w.cell? ⟨g, i, none⟩ = some (.int .i64 (l.getD i 0)) := by
 have := (h.owns (Nat.zero_le g)).cellAt i (by omega)
 rw [this]
 simp [List.getD, hi]
theorem IRow.rd {w : World} {g cap : Nat} {l : List Int} (h : IRow w g cap l) : IRd w (some ⟨g, 0, none⟩) l := fun i hi =>
 ⟨g, 0, rfl, h.lt, by rw [Nat.zero_add]; exact h.cell i hi⟩
theorem IRd.later {w w' : World} {a : Option Addr} {l : List Int} (h : IRd w a l) {B : Nat} (b : Below B w w') (hB : w.heap.size ≤ B) : IRd w' a l := by
 intro i hi
 obtain ⟨x, off, rfl, h1, h2⟩ := h i hi
 exact ⟨x, off, rfl, Nat.lt_of_lt_of_le h1 b.size, by rw [b.cell (Nat.lt_of_lt_of_le h1 hB)]; exact h2⟩

end Go.Proofs.YtpgapjdejelajaaGreatDoor.MemI
