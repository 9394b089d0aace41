/-
  What impl's BlockKey, padMix, mixed, Hmac, Tag, Diff and SameTag answer, where the table of round words holds what the program's text lays into it.
  What impl's expandedBlocks hands back, and what each call of it answers: it holds four variables of its own.
-/
import Derived.Test.YtpenhliaelhnoaaGreatDoorVaGz5
import Derived.Test.YtpenhliaelhnoaaGreatDoorVaGz8
set_option linter.unusedVariables false
set_option maxRecDepth 100000
namespace Go.Proofs.YtpenhliaelhnoaaGreatDoor.MacI
open Go.RowKit Mem MemI Blk App Get ShaP Comp Cuts Pads Ends MacP

theorem keyI_short (k : List Int) (h : k.length ≤ 64) : keyI k = k ++ List.replicate (64 - k.length) 0 := by
 have hs : short k = k := by unfold short; rw [if_pos h]
 unfold keyI; rw [if_pos (by omega), hs]
theorem keyI_long (k : List Int) (h : 64 < k.length) (h1 : k.length ≤ 1048576) : keyI k = shaI k ++ List.replicate 32 0 := by
 have hs : short k = shaI k := by unfold short; rw [if_neg (by omega)]
 unfold keyI; rw [if_pos h1, hs, shaI_len k h1]

set_option maxHeartbeats 800000 in
theorem implBlockKey (a : Option Addr) (n cap : Nat) (k : List Int) (w : World) (hT : Tab w) (hn : n = k.length) (hr : Rd w a k) (na : a = none → cap = 0) (hb : Bytes k) (hl : n ≤ 2097152) :
  Calls Tryz.prog 86 #[.slice a n cap] w fun e w' =>
   ∃ g m c, e = .returned (.slice (some ⟨g, 0, none⟩) m c) ∧ m = (keyI k).length ∧ w.heap.size ≤ g ∧ Row w' g c (keyI k) ∧ Below w.heap.size w w' := by
 obtain ⟨i0, hi, hz0, hz1, hz2⟩ := info_parts info8
 have HT := hid (hT)
 have HN : Hid (n = k.length) := hn
 have HR := hid (hr)
 have HB := hid (hb)
 clear hT hn hr hb
 by_cases h1 : n ≤ 1048576
 ·
  have hl1 : isLen (n : Int) = true := isLen_yes ⟨by omega, by omega⟩
  by_cases h2 : n ≤ 64
  ·
   have HK : Hid (keyI k = k ++ List.replicate (64 - n) 0) := by show _ = _; rw [HN.out]; exact keyI_short k (by rw [← HN.out]; exact h2)
   obtain ⟨z, hz⟩ : ∃ z, 64 - n = z := ⟨_, rfl⟩
   have E1 : Hid ((64 : Int) - (n : Int) = (z : Int)) := by show _ = _; omega
   have HZ : Hid (64 - n = z) := hz
   have hz64 : z ≤ 64 := by omega
   clear hz
   have h2I : ¬ ((n : Int) > 64) := by omega
   go_enter Tryz.func86, Tryz.ntmps86
   go_wp2_with fail
   refine (isShaLength _ _).mono ?_
   rintro e w1 ⟨rfl, rfl⟩
   go_wp2_with (at_make; refine wpList_make_full _ rfl _ _ 22 rfl w.heap.size 5 i0 (.int .u8 0) 1 Tryz.underlying22 hi hz0 hz1 _ _ _ _ z rfl rfl (by first | rfl | exact E1.out | (rw [← E1.out]; go_num)) (by first | rfl | exact E1.out | (rw [← E1.out]; go_num)) (by rw [hz2]; omega) (by unfold maxLen; omega) (Nat.le_refl _) ?_; intro w1 hown hgr; have B1 : Hid (Below w.heap.size w w1) := (Below.refl _ _).grown hgr (Nat.le_refl _) (fun k h => by cases h); have R1 : Hid (Row w1 w.heap.size z (List.replicate z 0)) := (Row.of (l := List.replicate z 0) (base := w.heap.size) (by simpa [Value.cells, toList_madeCells_one] using hown)).1; clear hown hgr)
   refine (putBytes a _ n cap z z k (List.replicate z 0) w1 HN.out (by simp) (HR.out.later B1.out (Nat.le_refl _)) R1.out.rd na (by intro e; cases e) (by rw [← HN.out]; omega) (by simp; omega)).mono ?_
   rintro e w2 ⟨rfl, r2, b2⟩
   have R2 := hid (r2)
   have B2 := hid (B1.out.trans (b2.mono B1.out.size))
   clear r2 b2
   go_wp2
   go_ret
   exact ⟨w1.heap.size, n + z, n + z, by simp, by rw [HK.out, HZ.out, List.length_append, List.length_replicate, HN.out], B1.out.size, by rw [HK.out, HZ.out]; exact R2.out, B2.out⟩
  ·
   have HK : Hid (keyI k = shaI k ++ List.replicate 32 0) := keyI_long k (by rw [← HN.out]; omega) (by rw [← HN.out]; exact h1)
   have h2I : (n : Int) > 64 := by omega
   go_enter Tryz.func86, Tryz.ntmps86
   go_wp2_with fail
   refine (isShaLength _ _).mono ?_
   rintro e w1 ⟨rfl, rfl⟩
   go_wp2_with fail
   refine (implSha a n cap k w HT.out HN.out HR.out na HB.out hl).mono ?_
   rintro e w1 ⟨g, m, c, rfl, e1, k1, r1, b1⟩
   have E32 : Hid ((shaI k).length = 32) := shaI_len k (by rw [← HN.out]; exact h1)
   have hm : m = 32 := by rw [e1, E32.out]
   subst hm
   have R1 := hid (r1)
   have B1 := hid (b1)
   clear e1 k1 r1 b1
   go_wp2_with (at_make; refine wpList_make_full _ rfl _ _ 22 rfl w1.heap.size 5 i0 (.int .u8 0) 1 Tryz.underlying22 hi hz0 hz1 _ _ _ _ 32 rfl rfl rfl rfl (by rw [hz2]; omega) (by unfold maxLen; omega) (Nat.le_refl _) ?_; intro w2 hown hgr; have B2 : Hid (Below w1.heap.size w1 w2) := (Below.refl _ _).grown hgr (Nat.le_refl _) (fun k h => by cases h); have R2 : Hid (Row w2 w1.heap.size 32 (List.replicate 32 0)) := (Row.of (l := List.replicate 32 0) (base := w1.heap.size) (by simpa [Value.cells, toList_madeCells_one] using hown)).1; clear hown hgr)
   refine (putBytes _ _ 32 c 32 32 (shaI k) (List.replicate 32 0) w2 E32.out.symm (by simp) (R1.out.later B2.out).rd R2.out.rd (by intro e; cases e) (by intro e; cases e) (by rw [E32.out]; omega) (by simp)).mono ?_
   rintro e w3 ⟨rfl, r3, b3⟩
   have R3 := hid (r3)
   have B12 := hid (B1.out.trans (B2.out.mono B1.out.size))
   have B3 := hid (B12.out.trans (b3.mono B12.out.size))
   clear r3 b3
   go_wp2
   go_ret
   exact ⟨w2.heap.size, 64, 64, by simp, by rw [HK.out, List.length_append, List.length_replicate, E32.out], B12.out.size, by rw [HK.out]; exact R3.out, B3.out⟩
 ·
  have HK : Hid (keyI k = []) := keyI_none k (by rw [← HN.out]; exact h1)
  have hl1 : isLen (n : Int) = false := isLen_no (by omega)
  go_enter Tryz.func86, Tryz.ntmps86
  go_wp2_with fail
  refine (isShaLength _ _).mono ?_
  rintro e w1 ⟨rfl, rfl⟩
  go_wp2
  go_ret
  exact ⟨w.heap.size, 0, 0, by simp, by rw [HK.out]; rfl, Nat.le_refl _, by rw [HK.out]; exact row_new w [] (by simp), (Below.refl _ _).alloc (Nat.le_refl _) _⟩

def mixer (q : Nat) : Value := .func (.func 99) #[] #[.pointer (some ⟨q, 0, none⟩)]
theorem padMix (p : Int) (w : World) :
  Calls Tryz.prog 89 #[.int .u8 p] w fun e w' => e = .returned (mixer w.heap.size) ∧ Blk w' w.heap.size 5 [.int .u8 p] ∧ Below w.heap.size w w' := by
 have hmf : ∀ (fn : Fn) (first cap : Array Value) (w : World), (Instr.makeFunc fn first cap).run Tryz.prog w = .ok (.func fn first cap) w := fun _ _ _ _ => rfl
 go_enter Tryz.func89, Tryz.ntmps89
 go_wp2
 go_ret
 exact ⟨rfl, Blk.new w 5 [.int .u8 p], (Below.refl _ _).alloc (Nat.le_refl _) _⟩
theorem padMix1 (x p : Int) (q : Nat) (w : World) (h : Blk w q 5 [.int .u8 p]) :
  Calls Tryz.prog 99 #[.int .u8 x, .pointer (some ⟨q, 0, none⟩)] w fun e w' => e = .returned (.int .u8 (bits .xor .u8 x p)) ∧ w = w' := by
 have hc := h.cell 0 rfl
 clear h
 go_enter Tryz.func99, Tryz.ntmps99
 go_wp2
 go_ret
 exact ⟨rfl, rfl⟩

theorem mix_take (p : Int) (l : List Int) (k : Nat) (h : k < l.length) : mix p (l.take (k + 1)) = mix p (l.take k) ++ [bits .xor .u8 (l.getD k 0) p] := by
 have e : l.getD k 0 = l[k] := by simp [List.getD, h]
 rw [List.take_succ_eq_append_getElem h, e]
 simp only [mix, List.map_append, List.map_cons, List.map_nil]

set_option maxHeartbeats 800000 in
theorem mixed (a : Option Addr) (n cap q : Nat) (p : Int) (l : List Int) (w : World) (hn : n = l.length) (hr : Rd w a l) (hq : Blk w q 5 [.int .u8 p]) (hlen : n ≤ 4194304) :
  Calls Tryz.prog 88 #[.slice a n cap, mixer q] w fun e w' =>
   e = .returned (.slice (some ⟨w.heap.size, 0, none⟩) n n) ∧ Row w' w.heap.size n (mix p l) ∧ Below w.heap.size w w' := by
 obtain ⟨i0, hi, hz0, hz1, hz2⟩ := info_parts info8
 have HN : Hid (n = l.length) := hn
 have HR := hid (hr)
 have HQ := hid (hq)
 clear hn hr hq
 unfold mixer
 go_enter Tryz.func88, Tryz.ntmps88
 go_wp2_with (at_make; refine wpList_make_own _ rfl _ _ 22 rfl w.heap.size 5 i0 (.int .u8 0) 1 Tryz.underlying22 hi hz0 hz1 _ _ _ n rfl rfl (by omega) (by rw [hz2]; omega) (by unfold maxLen; omega) (Nat.le_refl _) ?_; intro w1 hown hgr; have B1 : Hid (Below w.heap.size w w1) := (Below.refl _ _).grown hgr (Nat.le_refl _) (fun k h => by cases h); have R1 : Hid (Row w1 w.heap.size n (mix p (l.take 0))) := (Row.of (l := []) hown).1; clear hown hgr)
 go_loopw [5, 13] (fun v i wr => ∃ k : Nat, k ≤ n ∧ i = .int .i64 k ∧ v = .slice (some ⟨w.heap.size, 0, none⟩) k n ∧ Row wr w.heap.size n (mix p (l.take k)) ∧ Below w.heap.size w wr)
  (fun _ i _ => n - (intOf i).toNat)
 case atStart => exact ⟨0, Nat.zero_le _, rfl, rfl, R1.out, B1.out⟩
 case round =>
  obtain ⟨k, hk, rfl, rfl, hRow, hbe⟩ := hrel
  have HRow := hid (hRow)
  have HBe := hid (hbe)
  clear R1 B1 hRow hbe
  by_cases hlt : k < n
  ·
   obtain ⟨b, off, rfl, _, hc⟩ := (HR.out.later HBe.out (Nat.le_refl _)) k (by rw [← HN.out]; exact hlt)
   have HT1 : Hid (mix p (l.take (k + 1)) = mix p (l.take k) ++ [bits .xor .u8 (l.getD k 0) p]) := mix_take p l k (by rw [← HN.out]; exact hlt)
   have HKL : Hid (k = (mix p (l.take k)).length) := by show _ = _; rw [mix_length, List.length_take, ← HN.out]; omega
   generalize l.getD k 0 = z at *
   go_wp2_with (first | (go_at_call 99; refine (padMix1 z p q wr (HQ.out.later HBe.out)).mono ?_; rintro e w2 ⟨rfl, rfl⟩) | (at_builtin; refine wpList_fit _ rfl (.tmp 17) (.tmp 21) rfl w.heap.size k n (mix p (l.take k)) [bits .xor .u8 z p] rfl HKL.out (row_alloc HRow.out _) _ 1 1 rfl rfl (rd_one wr _) (by intro e; cases e) (by rw [← HKL.out]; simp; omega) ?_; intro w3 r3 g3; have R3 := hid (r3); have B3 : Hid (Below w.heap.size w w3) := (HBe.out.alloc HBe.out.size _).grown g3 (by simp; exact Nat.le_trans HBe.out.size (Nat.le_succ _)) (fun k h => by cases h; exact Nat.le_refl _); clear r3 g3))
   go_roundw
   case rel => exact ⟨k + 1, by omega, by go_num, rfl, by rw [HT1.out]; exact R3.out, B3.out⟩
   case measure => simp [intOf]; omega
  ·
   obtain rfl : k = n := by omega
   have HTn : Hid (mix p l = mix p (l.take k)) := by show _ = _; rw [List.take_of_length_le (by rw [← HN.out]; exact Nat.le_refl _)]
   go_wp2
   go_ret
   exact ⟨rfl, by rw [HTn.out]; exact HRow.out, HBe.out⟩

set_option maxHeartbeats 1600000 in
theorem implHmac (a0 : Option Addr) (n0 c0 : Nat) (a1 : Option Addr) (n1 c1 : Nat) (k b : List Int) (w : World) (hT : Tab w) (e0 : n0 = k.length) (e1 : n1 = b.length) (r0 : Rd w a0 k) (r1 : Rd w a1 b) (na0 : a0 = none → c0 = 0) (na1 : a1 = none → c1 = 0) (hb0 : Bytes k) (hb1 : Bytes b) (l0 : n0 ≤ 2097152) (l1 : n1 ≤ 2097152) :
  Calls Tryz.prog 73 #[.slice a0 n0 c0, .slice a1 n1 c1] w fun e w' =>
   ∃ g m c, e = .returned (.slice (some ⟨g, 0, none⟩) m c) ∧ m = (hmacI k b).length ∧ w.heap.size ≤ g ∧ Row w' g c (hmacI k b) ∧ Below w.heap.size w w' := by
 have HT := hid (hT)
 have HN0 : Hid (n0 = k.length) := e0
 have HN1 : Hid (n1 = b.length) := e1
 have HR0 := hid (r0)
 have HR1 := hid (r1)
 have HB0 := hid (hb0)
 have HB1 := hid (hb1)
 clear hT e0 e1 r0 r1 hb0 hb1
 by_cases h1 : n0 ≤ 1048576
 ·
  have HL : Hid ((keyI k).length = 64) := keyI_len k (by rw [← HN0.out]; exact h1)
  by_cases h2 : n1 ≤ 1048512
  ·
   have HH : Hid (hmacI k b = shaI (mix 92 (keyI k) ++ shaI (mix 54 (keyI k) ++ b))) := by
    show _ = _
    unfold hmacI; rw [if_pos ⟨by rw [← HN0.out]; exact h1, by rw [← HN1.out]; exact h2⟩]
   have HKB : Hid (Bytes (keyI k)) := keyI_bytes k HB0.out
   have h2I : ¬ ((n1 : Int) > 1048512) := by omega
   go_enter Tryz.func73, Tryz.ntmps73
   go_wp2_with fail
   refine (implBlockKey a0 n0 c0 k w HT.out HN0.out HR0.out na0 HB0.out l0).mono ?_
   rintro e w1 ⟨gk, mk, ck, rfl, em, k1, r1, b1⟩
   have hm : mk = 64 := by rw [em, HL.out]
   subst hm
   have R1 := hid (r1)
   have B1 := hid (b1)
   clear em k1 r1 b1
   go_wp2_with fail
   refine (padMix 54 w1).mono ?_
   rintro e w2 ⟨rfl, k2, b2⟩
   have K2 := hid (k2)
   have B2 := hid (B1.out.trans (b2.mono B1.out.size))
   have R2 := hid (R1.out.later b2)
   clear k2 b2 R1
   go_wp2_with fail
   refine (mixed _ 64 ck w1.heap.size 54 (keyI k) w2 HL.out.symm R2.out.rd K2.out (by omega)).mono ?_
   rintro e w3 ⟨rfl, r3, b3⟩
   have R3 := hid (r3)
   have B3 := hid (B2.out.trans (b3.mono B2.out.size))
   have RK3 := hid (R2.out.later b3)
   have HML : Hid (64 = (mix 54 (keyI k)).length) := by show _ = _; rw [mix_length, HL.out]
   clear r3 b3 R2 K2
   go_wp2_with fail
   refine (putBytes _ a1 64 64 n1 c1 (mix 54 (keyI k)) b w3 HML.out HN1.out R3.out.rd (HR1.out.later B3.out (Nat.le_refl _)) (by intro e; cases e) na1 (by rw [← HML.out]; omega) (by rw [← HN1.out]; omega)).mono ?_
   rintro e w4 ⟨rfl, r4, b4⟩
   have R4 := hid (r4)
   have B4 := hid (B3.out.trans (b4.mono B3.out.size))
   have RK4 := hid (RK3.out.later b4)
   have HL4 : Hid (64 + n1 = (mix 54 (keyI k) ++ b).length) := by show _ = _; rw [List.length_append, ← HML.out, HN1.out]
   have HB4 : Hid (Bytes (mix 54 (keyI k) ++ b)) := bytes_append (mix_bytes 54 _ HKB.out (by omega) (by omega)) HB1.out
   clear r4 b4 R3 RK3
   go_wp2_with fail
   refine (implSha _ (64 + n1) (64 + n1) _ w4 (HT.out.later B4.out) HL4.out R4.out.rd (by intro e; cases e) HB4.out (by omega)).mono ?_
   rintro e w5 ⟨g5, m5, c5, rfl, em, k5, r5, b5⟩
   have HS5 : Hid ((shaI (mix 54 (keyI k) ++ b)).length = 32) := shaI_len _ (by rw [← HL4.out]; omega)
   have hm5 : m5 = 32 := by rw [em, HS5.out]
   subst hm5
   have R5 := hid (r5)
   have B5 := hid (B4.out.trans (b5.mono B4.out.size))
   have RK5 := hid (RK4.out.later b5)
   clear em k5 r5 b5 R4 RK4
   go_wp2_with fail
   refine (padMix 92 w5).mono ?_
   rintro e w6 ⟨rfl, k6, b6⟩
   have K6 := hid (k6)
   have B6 := hid (B5.out.trans (b6.mono B5.out.size))
   have R6 := hid (R5.out.later b6)
   have RK6 := hid (RK5.out.later b6)
   clear k6 b6 R5 RK5
   go_wp2_with fail
   refine (mixed _ 64 ck w5.heap.size 92 (keyI k) w6 HL.out.symm RK6.out.rd K6.out (by omega)).mono ?_
   rintro e w7 ⟨rfl, r7, b7⟩
   have R7 := hid (r7)
   have B7 := hid (B6.out.trans (b7.mono B6.out.size))
   have RI7 := hid (R6.out.later b7)
   have HML2 : Hid (64 = (mix 92 (keyI k)).length) := by show _ = _; rw [mix_length, HL.out]
   clear r7 b7 R6 K6 RK6
   go_wp2_with fail
   refine (putBytes _ _ 64 64 32 c5 (mix 92 (keyI k)) _ w7 HML2.out HS5.out.symm R7.out.rd RI7.out.rd (by intro e; cases e) (by intro e; cases e) (by rw [← HML2.out]; omega) (by rw [HS5.out]; omega)).mono ?_
   rintro e w8 ⟨rfl, r8, b8⟩
   have R8 := hid (r8)
   have B8 := hid (B7.out.trans (b8.mono B7.out.size))
   have HL8 : Hid (64 + 32 = (mix 92 (keyI k) ++ shaI (mix 54 (keyI k) ++ b)).length) := by show _ = _; rw [List.length_append, ← HML2.out, HS5.out]
   have HB8 : Hid (Bytes (mix 92 (keyI k) ++ shaI (mix 54 (keyI k) ++ b))) := bytes_append (mix_bytes 92 _ HKB.out (by omega) (by omega)) (shaI_bytes _)
   clear r8 b8 R7 RI7
   go_wp2_with fail
   refine (implSha _ (64 + 32) (64 + 32) _ w8 (HT.out.later B8.out) HL8.out R8.out.rd (by intro e; cases e) HB8.out (by omega)).mono ?_
   rintro e w9 ⟨g9, m9, c9, rfl, em, k9, r9, b9⟩
   have EM : Hid (m9 = (hmacI k b).length) := by show _ = _; rw [HH.out]; exact em
   have K9 : Hid (w.heap.size ≤ g9) := Nat.le_trans B8.out.size k9
   have R9 : Hid (Row w9 g9 c9 (hmacI k b)) := by show Row _ _ _ _; rw [HH.out]; exact r9
   have B9 := hid (B8.out.trans (b9.mono B8.out.size))
   clear em k9 r9 b9
   go_wp2
   go_ret
   exact ⟨g9, m9, c9, rfl, EM.out, K9.out, R9.out, B9.out⟩
  ·
   have HH : Hid (hmacI k b = []) := hmacI_none k b (by rw [← HN0.out, ← HN1.out]; omega)
   have h2I : (n1 : Int) > 1048512 := by omega
   go_enter Tryz.func73, Tryz.ntmps73
   go_wp2_with fail
   refine (implBlockKey a0 n0 c0 k w HT.out HN0.out HR0.out na0 HB0.out l0).mono ?_
   rintro e w1 ⟨gk, mk, ck, rfl, em, k1, r1, b1⟩
   have hm : mk = 64 := by rw [em, HL.out]
   subst hm
   have B1 := hid (b1)
   clear em k1 r1 b1
   go_wp2
   go_ret
   exact ⟨w1.heap.size, 0, 0, by simp, by rw [HH.out]; rfl, B1.out.size, by rw [HH.out]; exact row_new w1 [] (by simp), B1.out.alloc B1.out.size _⟩
 ·
  have HH : Hid (hmacI k b = []) := hmacI_none k b (by rw [← HN0.out, ← HN1.out]; omega)
  have HK : Hid (keyI k = []) := keyI_none k (by rw [← HN0.out]; exact h1)
  go_enter Tryz.func73, Tryz.ntmps73
  go_wp2_with fail
  refine (implBlockKey a0 n0 c0 k w HT.out HN0.out HR0.out na0 HB0.out l0).mono ?_
  rintro e w1 ⟨gk, mk, ck, rfl, em, k1, r1, b1⟩
  have hm : mk = 0 := by rw [em, HK.out]; rfl
  subst hm
  have B1 := hid (b1)
  clear em k1 r1 b1
  go_wp2
  go_ret
  exact ⟨w1.heap.size, 0, 0, by simp, by rw [HH.out]; rfl, B1.out.size, by rw [HH.out]; exact row_new w1 [] (by simp), B1.out.alloc B1.out.size _⟩

theorem tag_cut (k b : List Int) : cutOf (hmacI k b) 0 16 = tagI k b := by
 unfold cutOf tagI
 by_cases h : k.length ≤ 1048576 ∧ b.length ≤ 1048512
 ·
  have := hmacI_len k b h.1 h.2
  rw [if_pos (by rw [this]; decide)]
  simp [piece]
 ·
  rw [hmacI_none k b h]; rfl

set_option maxHeartbeats 800000 in
theorem implTag (a0 : Option Addr) (n0 c0 : Nat) (a1 : Option Addr) (n1 c1 : Nat) (k b : List Int) (w : World) (hT : Tab w) (e0 : n0 = k.length) (e1 : n1 = b.length) (r0 : Rd w a0 k) (r1 : Rd w a1 b) (na0 : a0 = none → c0 = 0) (na1 : a1 = none → c1 = 0) (hb0 : Bytes k) (hb1 : Bytes b) (l0 : n0 ≤ 2097152) (l1 : n1 ≤ 2097152) :
  Calls Tryz.prog 50 #[.slice a0 n0 c0, .slice a1 n1 c1] w fun e w' =>
   ∃ g m c, e = .returned (.slice (some ⟨g, 0, none⟩) m c) ∧ m = (tagI k b).length ∧ w.heap.size ≤ g ∧ Row w' g c (tagI k b) ∧ Below w.heap.size w w' := by
 have HT := hid (hT)
 have HN0 : Hid (n0 = k.length) := e0
 have HN1 : Hid (n1 = b.length) := e1
 have HR0 := hid (r0)
 have HR1 := hid (r1)
 have HB0 := hid (hb0)
 have HB1 := hid (hb1)
 clear hT e0 e1 r0 r1 hb0 hb1
 go_enter Tryz.func50, Tryz.ntmps50
 go_wp2_with fail
 refine (implHmac a0 n0 c0 a1 n1 c1 k b w HT.out HN0.out HN1.out HR0.out HR1.out na0 na1 HB0.out HB1.out l0 l1).mono ?_
 rintro e w1 ⟨g, m, c, rfl, em, k1, r1, b1⟩
 have EM : Hid (m = (hmacI k b).length) := em
 have R1 := hid (r1)
 have B1 := hid (b1)
 have hm : m ≤ 32 := by rw [em]; exact hmacI_le k b
 have hmc : m ≤ c := by rw [em]; exact r1.1
 clear em k1 r1 b1
 go_wp2_with fail
 refine (implCut g 0 m c (hmacI k b) 0 16 w1 EM.out R1.out.rd hmc (by omega) (by omega)).mono ?_
 rw [tag_cut]
 rintro e w2 ⟨g2, m2, c2, rfl, em, k2, r2, b2⟩
 have E2 : Hid (m2 = (tagI k b).length) := em
 have K2 : Hid (w.heap.size ≤ g2) := Nat.le_trans B1.out.size k2
 have R2 := hid (r2)
 have B2 := hid (B1.out.trans (b2.mono B1.out.size))
 clear em k2 r2 b2
 go_wp2
 go_ret
 exact ⟨g2, m2, c2, rfl, E2.out, K2.out, R2.out, B2.out⟩
end Go.Proofs.YtpenhliaelhnoaaGreatDoor.MacI

namespace Go.Proofs.YtpenhliaelhnoaaGreatDoor.KdfB
open Go.RowKit Mem App Blk ShaP Comp MacP MacI KdfP Each Copy Ops

def nexter (qn qk qa qf : Nat) : Value := .func (.func 104) #[] #[.pointer (some ⟨qn, 0, none⟩), .pointer (some ⟨qk, 0, none⟩), .pointer (some ⟨qa, 0, none⟩), .pointer (some ⟨qf, 0, none⟩)]

def KeptBut (x y : Nat) (w w' : World) : Prop := ∀ i, i < w.heap.size → i ≠ x → i ≠ y → w'.heap[i]? = w.heap[i]?

theorem new_at (w : World) (g : Nat) (t : TypeId) (cs : List Value) (h : g = w.heap.size) : Blk (w.alloc (.cells cs.toArray t)) g t cs := by subst h; exact Blk.new w t cs
theorem row_new_at (w : World) (g : Nat) (h : g = w.heap.size) : Row (w.alloc (.cells #[] 5)) g 0 [] := by subst h; exact row_new w [] (by simp)

set_option maxHeartbeats 800000 in
theorem expandedBlocks (a0 : Option Addr) (n0 c0 : Nat) (a1 : Option Addr) (n1 c1 : Nat) (w : World) :
  Calls Tryz.prog 94 #[.slice a0 n0 c0, .slice a1 n1 c1] w fun e w' =>
   ∃ qn qk qa qf ga, e = .returned (nexter qn qk qa qf) ∧ Blk w' qn 5 [.int .u8 0] ∧ Blk w' qk 22 [.slice a0 n0 c0] ∧ Blk w' qa 22 [.slice (some ⟨ga, 0, none⟩) 0 0] ∧ Blk w' qf 22 [.slice a1 n1 c1] ∧ Row w' ga 0 [] ∧
    w.heap.size ≤ qn ∧ w.heap.size ≤ qk ∧ w.heap.size ≤ qa ∧ w.heap.size ≤ qf ∧ w.heap.size ≤ ga ∧ qn ≠ qk ∧ qn ≠ qa ∧ qn ≠ qf ∧ qn ≠ ga ∧ qa ≠ qk ∧ qa ≠ qf ∧ qa ≠ ga ∧ Below w.heap.size w w' := by
 have hmf : ∀ (fn : Fn) (first cap : Array Value) (w : World), (Instr.makeFunc fn first cap).run Tryz.prog w = .ok (.func fn first cap) w := fun _ _ _ _ => rfl
 go_enter Tryz.func94, Tryz.ntmps94
 go_wp2
 go_ret
 have z (w : World) (o : Obj) : (w.alloc o).heap.size = w.heap.size + 1 := by simp
 refine ⟨w.heap.size + 1 + 1 + 1 + 1, w.heap.size, w.heap.size + 1 + 1 + 1, w.heap.size + 1, w.heap.size + 1 + 1, rfl, new_at _ _ _ _ (by simp only [z]), ((((Blk.new w _ _).alloc _).alloc _).alloc _).alloc _, (new_at _ _ _ _ (by simp only [z])).alloc _, (((new_at _ _ _ _ (by simp only [z])).alloc _).alloc _).alloc _, row_alloc (row_alloc (row_new_at _ _ (by simp only [z])) _) _, by omega, by omega, by omega, by omega, by omega, by omega, by omega, by omega, by omega, by omega, by omega, by omega, ?_⟩
 exact (((((Below.refl _ _).alloc (Nat.le_refl _) _).alloc (by simp only [z]; omega) _).alloc (by simp only [z]; omega) _).alloc (by simp only [z]; omega) _).alloc (by simp only [z]; omega) _
abbrev DL1 : List Nat := [7, 8, 9, 10, 11, 12, 13, 14]
set_option maxHeartbeats 2000000 in
theorem nextBlock (qn qk qa qf : Nat) (a0 : Option Addr) (n0 c0 : Nat) (a1 : Option Addr) (n1 c1 : Nat) (ga ma ca : Nat) (x : Int) (k l f : List Int) (u w : World) (hT : Tab u)
  (hn : Blk w qn 5 [.int .u8 x]) (hk : Blk w qk 22 [.slice a0 n0 c0]) (ha : Blk w qa 22 [.slice (some ⟨ga, 0, none⟩) ma ca]) (hf : Blk w qf 22 [.slice a1 n1 c1]) (hg : Row w ga ca l)
  (nk : qn ≠ qk) (nna : qn ≠ qa) (nf : qn ≠ qf) (ng : qn ≠ ga) (le1 : u.heap.size ≤ qn) (le2 : u.heap.size ≤ qa) (hb : Below u.heap.size u w)
  (e0 : n0 = k.length) (e1 : n1 = f.length) (e2 : ma = l.length) (r0 : Rd u a0 k) (r1 : Rd u a1 f) (na0 : a0 = none → c0 = 0) (na1 : a1 = none → c1 = 0) (y0 : Bytes k) (y1 : Bytes f) (y2 : Bytes l) (l0 : n0 ≤ 2097152) (l1 : n1 ≤ 1000) (l2 : ma ≤ 32) (x0 : 0 ≤ x) (x1 : x ≤ 254) :
  Calls Tryz.prog 104 #[.pointer (some ⟨qn, 0, none⟩), .pointer (some ⟨qk, 0, none⟩), .pointer (some ⟨qa, 0, none⟩), .pointer (some ⟨qf, 0, none⟩)] w fun e w' =>
   ∃ g m c, e = .returned (.slice (some ⟨g, 0, none⟩) m c) ∧ m = (hmacI k (l ++ f ++ [x + 1])).length ∧ w.heap.size ≤ g ∧ Row w' g c (hmacI k (l ++ f ++ [x + 1])) ∧ Blk w' qn 5 [.int .u8 (x + 1)] ∧ Blk w' qa 22 [.slice (some ⟨g, 0, none⟩) m c] ∧ KeptBut qn qa w w' ∧ Below u.heap.size u w' := by
 have hw : IntKind.u8.wrap (x + 1) = x + 1 := by rw [IntKind.wrap_u8']; omega
 have E0 : Hid (n0 = k.length) := e0
 have E1 : Hid (n1 = f.length) := e1
 have E2 : Hid (ma = l.length) := e2
 have R0 := hid (r0)
 have R1 := hid (r1)
 have Y0 := hid (y0)
 have Y1 := hid (y1)
 have Y2 := hid (y2)
 have HT := hid (hT)
 obtain ⟨w0, hw0⟩ : ∃ w0, w.setCell ⟨qn, 0, none⟩ (.int .u8 (x + 1)) = w0 := ⟨_, rfl⟩
 have HW0 := hid (hw0)
 have SZ : Hid (w0.heap.size = w.heap.size) := by rw [← hw0]; show _ = _; simp
 have KN : Hid (Blk w0 qn 5 [.int .u8 (x + 1)]) := by rw [← hw0]; exact hn.set 0 _ (by simp [maxLen])
 have KK : Hid (Blk w0 qk 22 [.slice a0 n0 c0]) := by rw [← hw0]; exact hk.other (Ne.symm nk) _
 have KA : Hid (Blk w0 qa 22 [.slice (some ⟨ga, 0, none⟩) ma ca]) := by rw [← hw0]; exact ha.other (Ne.symm nna) _
 have KF : Hid (Blk w0 qf 22 [.slice a1 n1 c1]) := by rw [← hw0]; exact hf.other (Ne.symm nf) _
 have RG : Hid (Row w0 ga ca l) := by rw [← hw0]; exact hg.keep (Below.heap_setCell _ _ _ ga (Ne.symm ng))
 have BU : Hid (Below u.heap.size u w0) := by rw [← hw0]; exact hb.setCell le1 _
 have KB : Hid (KeptBut qn qa w w0) := by rw [← hw0]; exact fun i _ h1 _ => Below.heap_setCell _ _ _ i h1
 have c0' := hn.cell 0 rfl
 have f0' := hn.frozen 0
 clear hn hk ha hf hg e0 e1 e2 r0 r1 y0 y1 y2 hT hw0 hb
 go_enter Tryz.func104, Tryz.ntmps104
 go_upto_region 2 with fail
 rw [HW0.out]
 clear c0' f0'
 go_cut [14] from 7 to 13 (fun s14 wx => ∃ g m c, s14 = .slice (some ⟨g, 0, none⟩) m c ∧ m = (hmacI k (l ++ f ++ [x + 1])).length ∧ w.heap.size ≤ g ∧ Row wx g c (hmacI k (l ++ f ++ [x + 1])) ∧ Blk wx qn 5 [.int .u8 (x + 1)] ∧ Blk wx qa 22 [.slice (some ⟨g, 0, none⟩) m c] ∧ KeptBut qn qa w wx ∧ Below u.heap.size u wx)
 case first =>
  rename_i J K' hRJ hMet
  generalize hA : Act.mk _ _ = A
  have a0' : A.eval (.tmp 0) = .pointer (some ⟨qn, 0, none⟩) := by rw [← hA]; rfl
  have a1' : A.eval (.tmp 1) = .pointer (some ⟨qk, 0, none⟩) := by rw [← hA]; rfl
  have a2' : A.eval (.tmp 2) = .pointer (some ⟨qa, 0, none⟩) := by rw [← hA]; rfl
  have a3' : A.eval (.tmp 3) = .pointer (some ⟨qf, 0, none⟩) := by rw [← hA]; rfl
  have asz : A.tmps.size = 16 := by rw [← hA]; rfl
  have hKN : ∀ wx, Below w0.heap.size w0 wx → Blk wx qn 5 [.int .u8 (x + 1)] := fun wx hb => KN.out.later hb
  have hKK : ∀ wx, Below w0.heap.size w0 wx → Blk wx qk 22 [.slice a0 n0 c0] := fun wx hb => KK.out.later hb
  have hKA : ∀ wx, Below w0.heap.size w0 wx → Blk wx qa 22 [.slice (some ⟨ga, 0, none⟩) ma ca] := fun wx hb => KA.out.later hb
  have hKF : ∀ wx, Below w0.heap.size w0 wx → Blk wx qf 22 [.slice a1 n1 c1] := fun wx hb => KF.out.later hb
  have hBU : ∀ wx, Below w0.heap.size w0 wx → Below u.heap.size u wx := fun wx hb => BU.out.trans (hb.mono BU.out.size)
  refine region_each (by kernel_rfl) DL1 8 (fun i => DL1.getD i 0) (fun i => 0)
   (fun i g v wx => match i with
    | 0 => v = .slice a0 n0 c0
    | 1 => v = .slice (some ⟨ga, 0, none⟩) ma ca
    | 2 => v = .slice a1 n1 c1
    | 3 => v = .slice (some ⟨g, 0, none⟩) (ma + n1) (ma + n1) ∧ Row wx g (ma + n1) (l ++ f)
    | 4 => v = .int .u8 (x + 1)
    | 5 => v = .slice (some ⟨g, 0, none⟩) 1 1 ∧ Rd wx (some ⟨g, 0, none⟩) [x + 1]
    | 6 => v = .slice (some ⟨g, 0, none⟩) (ma + n1 + 1) (ma + n1 + 1) ∧ Row wx g (ma + n1 + 1) (l ++ f ++ [x + 1])
    | 7 => ∃ m c, v = .slice (some ⟨g, 0, none⟩) m c ∧ m = (hmacI k (l ++ f ++ [x + 1])).length ∧ Row wx g c (hmacI k (l ++ f ++ [x + 1])) ∧ w0.heap.size ≤ g
    | _ => False) (fun wx => Below w0.heap.size w0 wx) (by kernel_rfl) (Below.refl _ _).drew ?_ ?_ ?_
  ·
   intro i g v wx wy hi hF hb _
   match i, hi with
   | 0, _ => exact hF
   | 1, _ => exact hF
   | 2, _ => exact hF
   | 3, _ => exact ⟨hF.1, hF.2.later hb⟩
   | 4, _ => exact hF
   | 5, _ => exact ⟨hF.1, hF.2.later hb (Nat.le_refl _)⟩
   | 6, _ => exact ⟨hF.1, hF.2.later hb⟩
   | 7, _ => obtain ⟨m, c, h1, h2, h3, h4⟩ := hF; exact ⟨m, c, h1, h2, h3.later hb, h4⟩
  ·
   intro i hi t ρ wx hB hp hd
   match i, hi with
   | 0, _ =>
    have e1 : (fr DL1 A t).eval (.tmp 1) = .pointer (some ⟨qk, 0, none⟩) := (fr_eval_old _ _ _ 1 rfl).trans a1'
    have hc := (hKK wx hB).cell 0 rfl
    refine op_run (v := .slice a0 n0 c0) (w' := wx) rfl rfl ?_ ?_
    ·
     clear hp hd; generalize (fr DL1 A t).eval = ev at e1 ⊢; go_simp
    ·
     exact ⟨_, 0, rfl, hB, Below.refl _ _, rfl, .inl rfl⟩
   | 1, _ =>
    have e2 : (fr DL1 A t).eval (.tmp 2) = .pointer (some ⟨qa, 0, none⟩) := (fr_eval_old _ _ _ 2 rfl).trans a2'
    have hc := (hKA wx hB).cell 0 rfl
    refine op_run (v := .slice (some ⟨ga, 0, none⟩) ma ca) (w' := wx) rfl rfl ?_ ?_
    ·
     clear hp hd; generalize (fr DL1 A t).eval = ev at e2 ⊢; go_simp
    ·
     exact ⟨_, 0, rfl, hB, Below.refl _ _, rfl, .inl rfl⟩
   | 2, _ =>
    have e3 : (fr DL1 A t).eval (.tmp 3) = .pointer (some ⟨qf, 0, none⟩) := (fr_eval_old _ _ _ 3 rfl).trans a3'
    have hc := (hKF wx hB).cell 0 rfl
    refine op_run (v := .slice a1 n1 c1) (w' := wx) rfl rfl ?_ ?_
    ·
     clear hp hd; generalize (fr DL1 A t).eval = ev at e3 ⊢; go_simp
    ·
     exact ⟨_, 0, rfl, hB, Below.refl _ _, rfl, .inl rfl⟩
   | 3, _ =>
    have e8 : (fr DL1 A t).eval (.tmp 8) = .slice (some ⟨ga, 0, none⟩) ma ca := (fr_eval _ _ _ 8 rfl (by rw [asz]; decide)).trans (hp 1 (pre_mem (by kernel_rfl)))
    have e9 : (fr DL1 A t).eval (.tmp 9) = .slice a1 n1 c1 := (fr_eval _ _ _ 9 rfl (by rw [asz]; decide)).trans (hp 2 (pre_mem (by kernel_rfl)))
    refine op_call (f := 51) (args := #[.slice (some ⟨ga, 0, none⟩) ma ca, .slice a1 n1 c1]) rfl rfl ?_ (putBytes (some ⟨ga, 0, none⟩) a1 ma ca n1 c1 l f wx E2.out E1.out (RG.out.later hB).rd (R1.out.later (hBU wx hB) (Nat.le_refl _)) (by intro e; cases e) na1 (by rw [← E2.out]; omega) (by rw [← E1.out]; omega)) ?_
    ·
     clear hp hd; have ef : (fr DL1 A t).eval (.func 51) = .func (.func 51) #[] #[] := rfl; generalize (fr DL1 A t).eval = ev at e8 e9 ef ⊢; go_simp
    ·
     rintro e wy ⟨rfl, ry, by1⟩
     exact ⟨_, rfl, _, wx.heap.size, rfl, hB.trans (by1.mono hB.size), by1, ⟨rfl, ry⟩, .inl rfl⟩
   | 4, _ =>
    have e0 : (fr DL1 A t).eval (.tmp 0) = .pointer (some ⟨qn, 0, none⟩) := (fr_eval_old _ _ _ 0 rfl).trans a0'
    have hc := (hKN wx hB).cell 0 rfl
    refine op_run (v := .int .u8 (x + 1)) (w' := wx) rfl rfl ?_ ?_
    ·
     clear hp hd; generalize (fr DL1 A t).eval = ev at e0 ⊢; go_simp
    ·
     exact ⟨_, 0, rfl, hB, Below.refl _ _, rfl, .inl rfl⟩
   | 5, _ =>
    have e11 : (fr DL1 A t).eval (.tmp 11) = .int .u8 (x + 1) := (fr_eval _ _ _ 11 rfl (by rw [asz]; decide)).trans (hp 4 (pre_mem (by kernel_rfl)))
    refine op_run (v := .slice (some ⟨wx.heap.size, 0, none⟩) 1 1) (w' := wx.alloc (.cells #[.int .u8 (x + 1)] 5)) rfl rfl ?_ ?_
    ·
     clear hp hd; generalize (fr DL1 A t).eval = ev at e11 ⊢; go_simp
    ·
     exact ⟨_, wx.heap.size, rfl, hB.alloc hB.size _, (Below.refl _ _).alloc (Nat.le_refl _) _, ⟨rfl, rd_one wx (x + 1)⟩, .inl rfl⟩
   | 6, _ =>
    have h3 := hp 3 (pre_mem (by kernel_rfl))
    have h5 := hp 5 (pre_mem (by kernel_rfl))
    have e10 : (fr DL1 A t).eval (.tmp 10) = .slice (some ⟨ρ 3, 0, none⟩) (ma + n1) (ma + n1) := (fr_eval _ _ _ 10 rfl (by rw [asz]; decide)).trans h3.1
    have e12 : (fr DL1 A t).eval (.tmp 12) = .slice (some ⟨ρ 5, 0, none⟩) 1 1 := (fr_eval _ _ _ 12 rfl (by rw [asz]; decide)).trans h5.1
    have L3 : Hid (ma + n1 = (l ++ f).length) := by show _ = _; rw [List.length_append, ← E2.out, ← E1.out]
    refine op_call (f := 51) (args := #[.slice (some ⟨ρ 3, 0, none⟩) (ma + n1) (ma + n1), .slice (some ⟨ρ 5, 0, none⟩) 1 1]) rfl rfl ?_ (putBytes (some ⟨ρ 3, 0, none⟩) (some ⟨ρ 5, 0, none⟩) (ma + n1) (ma + n1) 1 1 (l ++ f) [x + 1] wx L3.out rfl h3.2.rd h5.2 (by intro e; cases e) (by intro e; cases e) (by rw [← L3.out]; omega) (by simp)) ?_
    ·
     clear hp hd h3 h5; have ef : (fr DL1 A t).eval (.func 51) = .func (.func 51) #[] #[] := rfl; generalize (fr DL1 A t).eval = ev at e10 e12 ef ⊢; go_simp
    ·
     rintro e wy ⟨rfl, ry, by1⟩
     exact ⟨_, rfl, _, wx.heap.size, rfl, hB.trans (by1.mono hB.size), by1, ⟨rfl, ry⟩, .inl rfl⟩
   | 7, _ =>
    have h6 := hp 6 (pre_mem (by kernel_rfl))
    have e7 : (fr DL1 A t).eval (.tmp 7) = .slice a0 n0 c0 := (fr_eval _ _ _ 7 rfl (by rw [asz]; decide)).trans (hp 0 (pre_mem (by kernel_rfl)))
    have e13 : (fr DL1 A t).eval (.tmp 13) = .slice (some ⟨ρ 6, 0, none⟩) (ma + n1 + 1) (ma + n1 + 1) := (fr_eval _ _ _ 13 rfl (by rw [asz]; decide)).trans h6.1
    have L3 : Hid (ma + n1 + 1 = (l ++ f ++ [x + 1]).length) := by show _ = _; rw [List.length_append, List.length_append, ← E2.out, ← E1.out]; rfl
    have Y3 : Hid (Bytes (l ++ f ++ [x + 1])) := bytes_append (bytes_append Y2.out Y1.out) (fun z hz => by simp at hz; omega)
    refine op_call (f := 73) (args := #[.slice a0 n0 c0, .slice (some ⟨ρ 6, 0, none⟩) (ma + n1 + 1) (ma + n1 + 1)]) rfl rfl ?_ (implHmac a0 n0 c0 (some ⟨ρ 6, 0, none⟩) (ma + n1 + 1) (ma + n1 + 1) k (l ++ f ++ [x + 1]) wx (HT.out.later (hBU wx hB)) E0.out L3.out (R0.out.later (hBU wx hB) (Nat.le_refl _)) h6.2.rd na0 (by intro e; cases e) Y0.out Y3.out l0 (by omega)) ?_
    ·
     clear hp hd h6; have ef : (fr DL1 A t).eval (.func 73) = .func (.func 73) #[] #[] := rfl; generalize (fr DL1 A t).eval = ev at e7 e13 ef ⊢; go_simp
    ·
     rintro e wy ⟨g, m, c, rfl, em, kg, ry, by1⟩
     exact ⟨_, rfl, _, g, rfl, hB.trans (by1.mono hB.size), by1, ⟨m, c, rfl, em, ry, Nat.le_trans hB.size kg⟩, .inl rfl⟩
  ·
   intro t ρ wx hB hF hne
   obtain ⟨m, c, h14, em, rg, lg⟩ := hF 7 (by decide)
   clear hF hne
   have e14 : (fr DL1 A t).eval (.tmp 14) = .slice (some ⟨ρ 7, 0, none⟩) m c := (fr_eval _ _ _ 14 rfl (by rw [asz]; decide)).trans h14
   have e2 : (fr DL1 A t).eval (.tmp 2) = .pointer (some ⟨qa, 0, none⟩) := (fr_eval_old _ _ _ 2 rfl).trans a2'
   have kA : Hid (Blk wx qa 22 [.slice (some ⟨ga, 0, none⟩) ma ca]) := hKA wx hB
   have kN : Hid (Blk wx qn 5 [.int .u8 (x + 1)]) := hKN wx hB
   have bU : Hid (Below u.heap.size u wx) := hBU wx hB
   have q0 := kA.out.cell 0 rfl
   have f0 := kA.out.frozen 0
   refine op_wp rfl rfl ?_
   generalize ρ 7 = g at *
   generalize hE : (fr DL1 A t).eval = ev at e2 e14
   unfold Oper.wp
   rw [hE]
   have HM : Hid (m = (hmacI k (l ++ f ++ [x + 1])).length) := em
   clear em
   go_simp
   have gqa : g ≠ qa := Nat.ne_of_gt (Nat.lt_of_lt_of_le KA.out.lt lg)
   refine hMet _ _ (Met.intro (hRJ _ _ ⟨t 7, t 8, t 9, t 10, t 11, t 12, t 13, t 14, ⟨g, m, c, h14, HM.out, by have := SZ.out; omega, rg.keep (Below.heap_setCell _ _ _ g gqa), kN.out.other nna _, kA.out.set 0 _ (by simp [maxLen]), ?_, bU.out.setCell le2 _⟩, ?_⟩))
   ·
    intro i h1 h2 h3
    rw [Below.heap_setCell _ _ _ i h3, hB.block i (by have := SZ.out; omega)]
    exact KB.out i h1 h2 h3
   ·
    rw [← hA]; rfl
 case rest =>
  obtain ⟨g, m, c, rfl, em, kg, rg, kN, kA, kB, bU⟩ := hcut
  have HM : Hid (m = (hmacI k (l ++ f ++ [x + 1])).length) := em
  have RGc := hid (rg)
  have KNc := hid (kN)
  have KAc := hid (kA)
  have KBc : Hid (KeptBut qn qa w wc) := kB
  have BUc := hid (bU)
  have q0 := kA.cell 0 rfl
  clear em rg kN kA kB bU
  go_wp2
  go_ret
  exact ⟨g, m, c, rfl, HM.out, kg, RGc.out, KNc.out, KAc.out, KBc.out, BUc.out⟩

end Go.Proofs.YtpenhliaelhnoaaGreatDoor.KdfB
