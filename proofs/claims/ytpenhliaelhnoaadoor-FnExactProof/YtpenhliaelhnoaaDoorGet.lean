/-
  What impl's and spec's GetN answer at every slice of at most 4,194,304 bytes, every place and every number of bytes: the same three results.
-/
import Derived.Test.YtpenhliaelhnoaaDoorApp
import Derived.Laws.BitsAllLaws
namespace Go.Proofs.YtpenhliaelhnoaaDoor.Get
open Go.RowKit Go.Proofs.YtpenhliaelhnoaaDoor.Mem Go.Proofs.YtpenhliaelhnoaaDoor.App

/-- The number that bytes are, the highest first. -/
def val (l : List Int) : Int := l.foldl (fun n z => n * 256 + z) 0
set_option maxRecDepth 100000 in
theorem val_snoc (l : List Int) (z : Int) : val (l ++ [z]) = val l * 256 + z := by simp [val]
set_option maxRecDepth 100000 in
theorem fold_bd (l : List Int) (h : Bytes l) : ∀ acc : Int, 0 ≤ acc → 0 ≤ l.foldl (fun n z => n * 256 + z) acc ∧ l.foldl (fun n z => n * 256 + z) acc < (acc + 1) * 256 ^ l.length := by
  induction l with
  | nil => intro acc h0; simp; omega
  | cons z r ih =>
    intro acc h0
    have hz := h z (by simp)
    have hr := ih (fun x hx => h x (by simp [hx])) (acc * 256 + z) (by omega)
    refine ⟨hr.1, Int.lt_of_lt_of_le hr.2 ?_⟩
    rw [List.length_cons, Int.pow_succ, Int.mul_comm (256 ^ r.length) 256, ← Int.mul_assoc]
    exact Int.mul_le_mul_of_nonneg_right (by omega) (Int.le_of_lt (Int.pow_pos (by decide)))
set_option maxRecDepth 100000 in
theorem val_bd (l : List Int) (h : Bytes l) : 0 ≤ val l ∧ val l < 256 ^ l.length := by
  have := fold_bd l h 0 (by omega)
  unfold val
  simpa using this

/-- The n bytes from a place on. -/
def piece (l : List Int) (i k : Nat) : List Int := (l.drop i).take k
set_option maxRecDepth 100000 in
theorem piece_succ (l : List Int) (i k : Nat) (h : i + k < l.length) : piece l i (k + 1) = piece l i k ++ [l.getD (i + k) 0] := by
  unfold piece
  rw [List.take_succ_eq_append_getElem (by rw [List.length_drop]; omega)]
  simp [List.getD, h]
set_option maxRecDepth 100000 in
theorem piece_bytes {l : List Int} (h : Bytes l) (i k : Nat) : Bytes (piece l i k) := fun z hz => h z (List.mem_of_mem_drop (List.mem_of_mem_take hz))
set_option maxRecDepth 100000 in
theorem piece_length (l : List Int) (i k : Nat) (h : i + k ≤ l.length) : (piece l i k).length = k := by
  unfold piece; rw [List.length_take, List.length_drop]; omega
set_option maxRecDepth 100000 in
theorem val_piece (l : List Int) (i k : Nat) (hb : Bytes l) (h : i + k ≤ l.length) (hk : k ≤ 6) : 0 ≤ val (piece l i k) ∧ val (piece l i k) < 281474976710656 := by
  have := val_bd _ (piece_bytes hb i k)
  rw [piece_length l i k h] at this
  refine ⟨this.1, Int.lt_of_lt_of_le this.2 ?_⟩
  have h2 : (256 : Int) ^ k ≤ 256 ^ 6 := by
    rcases (show k = 0 ∨ k = 1 ∨ k = 2 ∨ k = 3 ∨ k = 4 ∨ k = 5 ∨ k = 6 by omega) with rfl | rfl | rfl | rfl | rfl | rfl | rfl <;> decide
  have e : (256 : Int) ^ 6 = 281474976710656 := by decide
  omega
set_option maxRecDepth 100000 in
theorem val_piece5 (l : List Int) (i k : Nat) (hb : Bytes l) (h : i + k ≤ l.length) (hk : k ≤ 5) : 0 ≤ val (piece l i k) ∧ val (piece l i k) < 1099511627776 := by
  have := val_bd _ (piece_bytes hb i k)
  rw [piece_length l i k h] at this
  refine ⟨this.1, Int.lt_of_lt_of_le this.2 ?_⟩
  have h2 : (256 : Int) ^ k ≤ 256 ^ 5 := by
    rcases (show k = 0 ∨ k = 1 ∨ k = 2 ∨ k = 3 ∨ k = 4 ∨ k = 5 by omega) with rfl | rfl | rfl | rfl | rfl | rfl <;> decide
  have e : (256 : Int) ^ 5 = 1099511627776 := by decide
  omega
set_option maxRecDepth 100000 in
theorem or_step (n z : Int) (h0 : 0 ≤ n) (h1 : n < 1099511627776) (h2 : 0 ≤ z) (h3 : z ≤ 255) : bits .or .i64 (n * 256) z = n * 256 + z := by
  obtain ⟨N, rfl⟩ := Int.eq_ofNat_of_zero_le h0
  obtain ⟨Z, rfl⟩ := Int.eq_ofNat_of_zero_le h2
  have := Bits.or_i64 (N * 256) Z (by omega) (by omega)
  rw [nat_join 8 (N * 256) Z (by omega) (by omega)] at this
  rw [show (N : Int) * 256 = ((N * 256 : Nat) : Int) by omega, this]
  omega

/-- Whether k bytes are there from i on. -/
def there (len : Nat) (i k : Int) : Bool := decide (0 ≤ i ∧ 0 ≤ k ∧ k ≤ (len : Int) - i)
set_option maxRecDepth 100000 in
theorem there_yes {len : Nat} {i k : Int} (h : 0 ≤ i ∧ 0 ≤ k ∧ k ≤ (len : Int) - i) : there len i k = true := by simpa [there] using h
set_option maxRecDepth 100000 in
theorem there_no {len : Nat} {i k : Int} (h : ¬ (0 ≤ i ∧ 0 ≤ k ∧ k ≤ (len : Int) - i)) : there len i k = false := by
  unfold there; exact decide_eq_false h

set_option maxRecDepth 100000 in
theorem allThere (a : Option Addr) (len cap : Nat) (i k : Int) (w : World) (hl : len ≤ 4194304) (hi : i ≤ 9223372036854775807) :
    Calls Tryd.prog 72 #[.slice a len cap, .int .i64 i, .int .i64 k] w fun e w' => e = .returned (.bool (there len i k)) ∧ w = w' := by
  by_cases h1 : 0 ≤ i
  · by_cases h2 : 0 ≤ k
    · by_cases h3 : k ≤ (len : Int) - i
      · have H : Hid (there len i k = true) := there_yes ⟨h1, h2, h3⟩
        go_enter Tryd.func72, Tryd.ntmps72
        go_wp2
        go_ret
        exact ⟨by rw [H.out]; simp, rfl⟩
      · have H : Hid (there len i k = false) := there_no (by omega)
        go_enter Tryd.func72, Tryd.ntmps72
        go_wp2
        go_ret
        exact ⟨by rw [H.out]; simp, rfl⟩
    · have H : Hid (there len i k = false) := there_no (by omega)
      go_enter Tryd.func72, Tryd.ntmps72
      go_wp2
      go_ret
      exact ⟨by rw [H.out]; simp, rfl⟩
  · have H : Hid (there len i k = false) := there_no (by omega)
    go_enter Tryd.func72, Tryd.ntmps72
    go_wp2
    go_ret
    exact ⟨by rw [H.out]; simp, rfl⟩

def gotN (l : List Int) (i k : Int) : Value :=
  if isSize k = true ∧ there l.length i k = true then .tuple #[.int .i64 (val (piece l i.toNat k.toNat)), .int .i64 (i + k), .bool true] else .tuple #[.int .i64 0, .int .i64 0, .bool false]

set_option maxRecDepth 100000 in
set_option maxHeartbeats 800000 in
theorem implGetN (a : Option Addr) (len cap : Nat) (l : List Int) (i k : Int) (w : World) (hl : len = l.length) (hr : Rd w a l) (hb : Bytes l) (hlc : len ≤ cap) (hlen : len ≤ 4194304) (hi : i ≤ 9223372036854775807) :
    Calls Tryd.prog 91 #[.slice a len cap, .int .i64 i, .int .i64 k] w fun e w' => e = .returned (gotN l i k) ∧ w = w' := by
  have HR : Hid (Rd w a l) := hr
  have HB : Hid (Bytes l) := hb
  have HL : Hid (len = l.length) := hl
  clear hr hb hl
  by_cases hs : isSize k = true
  · by_cases ht : there len i k = true
    · have HG : Hid (gotN l i k = .tuple #[.int .i64 (val (piece l i.toNat k.toNat)), .int .i64 (i + k), .bool true]) := by
        show gotN l i k = _
        unfold gotN; rw [if_pos ⟨hs, by rw [← HL.out]; exact ht⟩]
      have hk := (isSize_iff k).1 hs
      have ht' : 0 ≤ i ∧ 0 ≤ k ∧ k ≤ (len : Int) - i := by simpa [there] using ht
      obtain ⟨I, rfl⟩ := Int.eq_ofNat_of_zero_le ht'.1
      obtain ⟨K, rfl⟩ := Int.eq_ofNat_of_zero_le ht'.2.1
      rw [Int.toNat_natCast, Int.toNat_natCast] at HG
      have k1 : 1 ≤ K := by omega
      have k2 : K ≤ 6 := by omega
      have k3 : I + K ≤ len := by omega
      obtain ⟨b, off, rfl, _, _⟩ := HR.out I (by have := HL.out; omega)
      clear hk ht'
      go_enter Tryd.func91, Tryd.ntmps91
      go_wp2_with fail
      refine (isNumberSize _ _).mono ?_
      rintro e w1 ⟨rfl, rfl⟩
      go_wp2_with fail
      refine (allThere _ len cap _ _ _ hlen hi).mono ?_
      rintro e w1 ⟨rfl, rfl⟩
      go_wp2_with fail
      go_loop [9, 29] (fun n j => ∃ q : Nat, q ≤ K ∧ j = .int .i64 q ∧ n = .int .i64 (val (piece l I q))) (fun _ j => K - (intOf j).toNat)
      case atStart => exact ⟨0, Nat.zero_le _, rfl, rfl⟩
      case round =>
        obtain ⟨q, hq, rfl, rfl⟩ := hrel
        by_cases hlt : q < K
        · obtain ⟨b', off', e, _, hc⟩ := HR.out (I + q) (by have := HL.out; omega)
          simp only [Option.some.injEq, Addr.mk.injEq, and_true] at e
          obtain ⟨rfl, rfl⟩ := e
          have hv := val_piece5 l I q HB.out (by have := HL.out; omega) (by omega)
          have hz := HB.out.at (I + q)
          have ho := or_step (val (piece l I q)) (l.getD (I + q) 0) hv.1 hv.2 hz.1 hz.2
          have HS : Hid (val (piece l I (q + 1)) = val (piece l I q) * 256 + l.getD (I + q) 0) := by
            show _ = _
            rw [piece_succ l I q (by have := HL.out; omega), val_snoc]
          generalize l.getD (I + q) 0 = z at *
          generalize val (piece l I q) = n at *
          obtain ⟨hv1, hv2⟩ := hv
          obtain ⟨hz1, hz2⟩ := hz
          rw [← Nat.add_assoc] at hc
          go_wp2
          go_round
          case rel => exact ⟨q + 1, by omega, by go_num, by rw [HS.out]⟩
          case measure => simp [intOf]; omega
        · obtain rfl : q = K := by omega
          go_wp2
          go_ret3
          exact ⟨by rw [HG.out]; rfl, rfl⟩
    · have ht' : there len i k = false := by simpa using ht
      have HG : Hid (gotN l i k = .tuple #[.int .i64 0, .int .i64 0, .bool false]) := by
        show gotN l i k = _
        unfold gotN; rw [if_neg (by rw [← HL.out, ht']; simp)]
      clear ht
      go_enter Tryd.func91, Tryd.ntmps91
      go_wp2_with fail
      refine (isNumberSize _ _).mono ?_
      rintro e w1 ⟨rfl, rfl⟩
      go_wp2_with fail
      refine (allThere _ len cap _ _ _ hlen hi).mono ?_
      rintro e w1 ⟨rfl, rfl⟩
      go_wp2
      go_ret3
      exact ⟨by rw [HG.out]; rfl, rfl⟩
  · have hs' : isSize k = false := by simpa using hs
    have HG : Hid (gotN l i k = .tuple #[.int .i64 0, .int .i64 0, .bool false]) := by
      show gotN l i k = _
      unfold gotN; rw [if_neg (by rw [hs']; simp)]
    clear hs
    go_enter Tryd.func91, Tryd.ntmps91
    go_wp2_with fail
    refine (isNumberSize _ _).mono ?_
    rintro e w1 ⟨rfl, rfl⟩
    go_wp2
    go_ret3
    exact ⟨by rw [HG.out]; rfl, rfl⟩

set_option maxRecDepth 100000 in
set_option maxHeartbeats 800000 in
theorem specGetN (a : Option Addr) (len cap : Nat) (l : List Int) (i k : Int) (w : World) (hl : len = l.length) (hr : Rd w a l) (hb : Bytes l) (hlen : len ≤ 4194304) :
    Calls Tryd.prog 90 #[.slice a len cap, .int .i64 i, .int .i64 k] w fun e w' => e = .returned (gotN l i k) ∧ w = w' := by
  have HR : Hid (Rd w a l) := hr
  have HB : Hid (Bytes l) := hb
  have HL : Hid (len = l.length) := hl
  clear hr hb hl
  by_cases hk : 1 ≤ k ∧ k ≤ 6
  · obtain ⟨k1, k2⟩ := hk
    by_cases hi : 0 ≤ i
    · by_cases ht : i ≤ (len : Int) - k
      · have HG : Hid (gotN l i k = .tuple #[.int .i64 (val (piece l i.toNat k.toNat)), .int .i64 (i + k), .bool true]) := by
          show gotN l i k = _
          unfold gotN; rw [if_pos ⟨(isSize_iff k).2 ⟨k1, k2⟩, there_yes (by rw [← HL.out]; omega)⟩]
        obtain ⟨I, rfl⟩ := Int.eq_ofNat_of_zero_le hi
        obtain ⟨K, rfl⟩ := Int.eq_ofNat_of_zero_le (show 0 ≤ k by omega)
        rw [Int.toNat_natCast, Int.toNat_natCast] at HG
        obtain ⟨b, off, rfl, _, _⟩ := HR.out I (by have := HL.out; omega)
        go_enter Tryd.func90, Tryd.ntmps90
        go_wp2_with fail
        go_loop [9, 10] (fun n j => ∃ q : Nat, q ≤ K ∧ j = .int .i64 q ∧ n = .int .i64 (val (piece l I q))) (fun _ j => K - (intOf j).toNat)
        case atStart => exact ⟨0, Nat.zero_le _, rfl, rfl⟩
        case round =>
          obtain ⟨q, hq, rfl, rfl⟩ := hrel
          by_cases hlt : q < K
          · obtain ⟨b', off', e, _, hc⟩ := HR.out (I + q) (by have := HL.out; omega)
            simp only [Option.some.injEq, Addr.mk.injEq, and_true] at e
            obtain ⟨rfl, rfl⟩ := e
            have hv := val_piece5 l I q HB.out (by have := HL.out; omega) (by omega)
            have hz := HB.out.at (I + q)
            have HS : Hid (val (piece l I (q + 1)) = val (piece l I q) * 256 + l.getD (I + q) 0) := by
              show _ = _
              rw [piece_succ l I q (by have := HL.out; omega), val_snoc]
            generalize l.getD (I + q) 0 = z at *
            generalize val (piece l I q) = n at *
            obtain ⟨hv1, hv2⟩ := hv
            obtain ⟨hz1, hz2⟩ := hz
            have hil : ((I + q : Nat) : Int) < (len : Int) := by omega
            go_wp2
            go_round
            case rel => exact ⟨q + 1, by omega, by go_num, by rw [HS.out]⟩
            case measure => simp [intOf]; omega
          · obtain rfl : q = K := by omega
            go_wp2
            go_ret3
            exact ⟨by rw [HG.out]; rfl, rfl⟩
      · have HG : Hid (gotN l i k = .tuple #[.int .i64 0, .int .i64 0, .bool false]) := by
          show gotN l i k = _
          unfold gotN; rw [if_neg (by rw [there_no (by rw [← HL.out]; omega)]; simp)]
        go_enter Tryd.func90, Tryd.ntmps90
        go_wp2
        go_ret3
        exact ⟨by rw [HG.out]; rfl, rfl⟩
    · have HG : Hid (gotN l i k = .tuple #[.int .i64 0, .int .i64 0, .bool false]) := by
        show gotN l i k = _
        unfold gotN; rw [if_neg (by rw [there_no (by omega)]; simp)]
      go_enter Tryd.func90, Tryd.ntmps90
      go_wp2
      go_ret3
      exact ⟨by rw [HG.out]; rfl, rfl⟩
  · have HG : Hid (gotN l i k = .tuple #[.int .i64 0, .int .i64 0, .bool false]) := by
      show gotN l i k = _
      unfold gotN; rw [if_neg (by rw [isSize_not k hk]; simp)]
    rcases (show k < 1 ∨ 6 < k by omega) with hk' | hk'
    all_goals
      go_enter Tryd.func90, Tryd.ntmps90
      go_wp2
      go_ret3
      exact ⟨by rw [HG.out]; rfl, rfl⟩
end Go.Proofs.YtpenhliaelhnoaaDoor.Get
