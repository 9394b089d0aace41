/-
  What impl's BlockKey, padMix, mixed, Hmac, Tag, Diff and SameTag answer, where the table of round words holds what the program's text lays into it.
-/
import Derived.Test.YtpenhliaelhnoaaDoorMacP
namespace Go.Proofs.YtpenhliaelhnoaaDoor.MacI
open Go.RowKit Go.Proofs.YtpenhliaelhnoaaDoor.Mem Go.Proofs.YtpenhliaelhnoaaDoor.MemI Go.Proofs.YtpenhliaelhnoaaDoor.Blk Go.Proofs.YtpenhliaelhnoaaDoor.App Go.Proofs.YtpenhliaelhnoaaDoor.Get Go.Proofs.YtpenhliaelhnoaaDoor.ShaP Go.Proofs.YtpenhliaelhnoaaDoor.Comp Go.Proofs.YtpenhliaelhnoaaDoor.Cuts Go.Proofs.YtpenhliaelhnoaaDoor.Pads Go.Proofs.YtpenhliaelhnoaaDoor.Ends Go.Proofs.YtpenhliaelhnoaaDoor.MacP

set_option maxRecDepth 100000 in
theorem keyI_short (k : List Int) (h : k.length ≤ 64) : keyI k = k ++ List.replicate (64 - k.length) 0 := by
  have hs : short k = k := by unfold short; rw [if_pos h]
  unfold keyI; rw [if_pos (by omega), hs]
set_option maxRecDepth 100000 in
theorem keyI_long (k : List Int) (h : 64 < k.length) (h1 : k.length ≤ 1048576) : keyI k = shaI k ++ List.replicate 32 0 := by
  have hs : short k = shaI k := by unfold short; rw [if_neg (by omega)]
  unfold keyI; rw [if_pos h1, hs, shaI_len k h1]

set_option maxRecDepth 100000 in
set_option maxHeartbeats 800000 in
theorem implBlockKey (a : Option Addr) (n cap : Nat) (k : List Int) (w : World) (hT : Tab w) (hn : n = k.length) (hr : Rd w a k) (na : a = none → cap = 0) (hb : Bytes k) (hl : n ≤ 2097152) :
    Calls Tryd.prog 53 #[.slice a n cap] w fun e w' =>
      ∃ g m c, e = .returned (.slice (some ⟨g, 0, none⟩) m c) ∧ m = (keyI k).length ∧ w.heap.size ≤ g ∧ Row w' g c (keyI k) ∧ Below w.heap.size w w' := by
  obtain ⟨i0, hi, hz0, hz1, hz2⟩ := info_parts info8
  have HT : Hid (Tab w) := hT
  have HN : Hid (n = k.length) := hn
  have HR : Hid (Rd w a k) := hr
  have HB : Hid (Bytes k) := hb
  clear hT hn hr hb
  by_cases h1 : n ≤ 1048576
  · have hl1 : isLen (n : Int) = true := isLen_yes ⟨by omega, by omega⟩
    by_cases h2 : n ≤ 64
    · have HK : Hid (keyI k = k ++ List.replicate (64 - n) 0) := by show _ = _; rw [HN.out]; exact keyI_short k (by rw [← HN.out]; exact h2)
      obtain ⟨z, hz⟩ : ∃ z, 64 - n = z := ⟨_, rfl⟩
      have E1 : Hid ((64 : Int) - (n : Int) = (z : Int)) := by show _ = _; omega
      have HZ : Hid (64 - n = z) := hz
      have hz64 : z ≤ 64 := by omega
      clear hz
      have h2I : ¬ ((n : Int) > 64) := by omega
      go_enter Tryd.func53, Tryd.ntmps53
      go_wp2_with fail
      refine (isShaLength _ _).mono ?_
      rintro e w1 ⟨rfl, rfl⟩
      go_wp2_with (at_make; refine wpList_make_full _ rfl _ _ 22 rfl w.heap.size 5 i0 (.int .u8 0) 1 Tryd.underlying22 hi hz0 hz1 _ _ _ _ z rfl rfl (by first | rfl | exact E1.out | (rw [← E1.out]; go_num)) (by first | rfl | exact E1.out | (rw [← E1.out]; go_num)) (by rw [hz2]; omega) (by unfold maxLen; omega) (Nat.le_refl _) ?_; intro w1 hown hgr; have B1 : Hid (Below w.heap.size w w1) := (Below.refl _ _).grown hgr (Nat.le_refl _) (fun k h => by cases h); have R1 : Hid (Row w1 w.heap.size z (List.replicate z 0)) := (Row.of (l := List.replicate z 0) (base := w.heap.size) (by simpa [Value.cells, toList_madeCells_one] using hown)).1; clear hown hgr)
      refine (putBytes a _ n cap z z k (List.replicate z 0) w1 HN.out (by simp) (HR.out.later B1.out (Nat.le_refl _)) R1.out.rd na (by intro e; cases e) (by rw [← HN.out]; omega) (by simp; omega)).mono ?_
      rintro e w2 ⟨rfl, r2, b2⟩
      have R2 : Hid (Row w2 w1.heap.size (n + z) (k ++ List.replicate z 0)) := r2
      have B2 : Hid (Below w.heap.size w w2) := B1.out.trans (b2.mono B1.out.size)
      clear r2 b2
      go_wp2
      go_ret
      exact ⟨w1.heap.size, n + z, n + z, by simp, by rw [HK.out, HZ.out, List.length_append, List.length_replicate, HN.out], B1.out.size, by rw [HK.out, HZ.out]; exact R2.out, B2.out⟩
    · have HK : Hid (keyI k = shaI k ++ List.replicate 32 0) := keyI_long k (by rw [← HN.out]; omega) (by rw [← HN.out]; exact h1)
      have h2I : (n : Int) > 64 := by omega
      go_enter Tryd.func53, Tryd.ntmps53
      go_wp2_with fail
      refine (isShaLength _ _).mono ?_
      rintro e w1 ⟨rfl, rfl⟩
      go_wp2_with fail
      refine (implSha a n cap k w HT.out HN.out HR.out na HB.out hl).mono ?_
      rintro e w1 ⟨g, m, c, rfl, e1, k1, r1, b1⟩
      have E32 : Hid ((shaI k).length = 32) := shaI_len k (by rw [← HN.out]; exact h1)
      have hm : m = 32 := by rw [e1, E32.out]
      subst hm
      have R1 : Hid (Row w1 g c (shaI k)) := r1
      have B1 : Hid (Below w.heap.size w w1) := b1
      clear e1 k1 r1 b1
      go_wp2_with (at_make; refine wpList_make_full _ rfl _ _ 22 rfl w1.heap.size 5 i0 (.int .u8 0) 1 Tryd.underlying22 hi hz0 hz1 _ _ _ _ 32 rfl rfl rfl rfl (by rw [hz2]; omega) (by unfold maxLen; omega) (Nat.le_refl _) ?_; intro w2 hown hgr; have B2 : Hid (Below w1.heap.size w1 w2) := (Below.refl _ _).grown hgr (Nat.le_refl _) (fun k h => by cases h); have R2 : Hid (Row w2 w1.heap.size 32 (List.replicate 32 0)) := (Row.of (l := List.replicate 32 0) (base := w1.heap.size) (by simpa [Value.cells, toList_madeCells_one] using hown)).1; clear hown hgr)
      refine (putBytes _ _ 32 c 32 32 (shaI k) (List.replicate 32 0) w2 E32.out.symm (by simp) (R1.out.later B2.out).rd R2.out.rd (by intro e; cases e) (by intro e; cases e) (by rw [E32.out]; omega) (by simp)).mono ?_
      rintro e w3 ⟨rfl, r3, b3⟩
      have R3 : Hid (Row w3 w2.heap.size (32 + 32) (shaI k ++ List.replicate 32 0)) := r3
      have B12 : Hid (Below w.heap.size w w2) := B1.out.trans (B2.out.mono B1.out.size)
      have B3 : Hid (Below w.heap.size w w3) := B12.out.trans (b3.mono B12.out.size)
      clear r3 b3
      go_wp2
      go_ret
      exact ⟨w2.heap.size, 64, 64, by simp, by rw [HK.out, List.length_append, List.length_replicate, E32.out], B12.out.size, by rw [HK.out]; exact R3.out, B3.out⟩
  · have HK : Hid (keyI k = []) := keyI_none k (by rw [← HN.out]; exact h1)
    have hl1 : isLen (n : Int) = false := isLen_no (by omega)
    go_enter Tryd.func53, Tryd.ntmps53
    go_wp2_with fail
    refine (isShaLength _ _).mono ?_
    rintro e w1 ⟨rfl, rfl⟩
    go_wp2
    go_ret
    exact ⟨w.heap.size, 0, 0, by simp, by rw [HK.out]; rfl, Nat.le_refl _, by rw [HK.out]; exact row_new w [] (by simp), (Below.refl _ _).alloc (Nat.le_refl _) _⟩

/-- The function value that mixes with a pad: it holds the pad in a variable of its own. -/
def mixer (q : Nat) : Value := .func (.func 76) #[] #[.pointer (some ⟨q, 0, none⟩)]
set_option maxRecDepth 100000 in
theorem padMix (p : Int) (w : World) :
    Calls Tryd.prog 63 #[.int .u8 p] w fun e w' => e = .returned (mixer w.heap.size) ∧ Blk w' w.heap.size 5 [.int .u8 p] ∧ Below w.heap.size w w' := by
  have hmf : ∀ (fn : Fn) (first cap : Array Value) (w : World), (Instr.makeFunc fn first cap).run Tryd.prog w = .ok (.func fn first cap) w := fun _ _ _ _ => rfl
  go_enter Tryd.func63, Tryd.ntmps63
  go_wp2
  go_ret
  exact ⟨rfl, Blk.new w 5 [.int .u8 p], (Below.refl _ _).alloc (Nat.le_refl _) _⟩
set_option maxRecDepth 100000 in
theorem padMix1 (x p : Int) (q : Nat) (w : World) (h : Blk w q 5 [.int .u8 p]) :
    Calls Tryd.prog 76 #[.int .u8 x, .pointer (some ⟨q, 0, none⟩)] w fun e w' => e = .returned (.int .u8 (bits .xor .u8 x p)) ∧ w = w' := by
  have hc := h.cell 0 rfl
  clear h
  go_enter Tryd.func76, Tryd.ntmps76
  go_wp2
  go_ret
  exact ⟨rfl, rfl⟩

set_option maxRecDepth 100000 in
theorem mix_take (p : Int) (l : List Int) (k : Nat) (h : k < l.length) : mix p (l.take (k + 1)) = mix p (l.take k) ++ [bits .xor .u8 (l.getD k 0) p] := by
  have e : l.getD k 0 = l[k] := by simp [List.getD, h]
  rw [List.take_succ_eq_append_getElem h, e]
  simp only [mix, List.map_append, List.map_cons, List.map_nil]

set_option maxRecDepth 100000 in
set_option maxHeartbeats 800000 in
theorem mixed (a : Option Addr) (n cap q : Nat) (p : Int) (l : List Int) (w : World) (hn : n = l.length) (hr : Rd w a l) (hq : Blk w q 5 [.int .u8 p]) (hlen : n ≤ 4194304) :
    Calls Tryd.prog 62 #[.slice a n cap, mixer q] w fun e w' =>
      e = .returned (.slice (some ⟨w.heap.size, 0, none⟩) n n) ∧ Row w' w.heap.size n (mix p l) ∧ Below w.heap.size w w' := by
  obtain ⟨i0, hi, hz0, hz1, hz2⟩ := info_parts info8
  have HN : Hid (n = l.length) := hn
  have HR : Hid (Rd w a l) := hr
  have HQ : Hid (Blk w q 5 [.int .u8 p]) := hq
  clear hn hr hq
  unfold mixer
  go_enter Tryd.func62, Tryd.ntmps62
  go_wp2_with (at_make; refine wpList_make_own _ rfl _ _ 22 rfl w.heap.size 5 i0 (.int .u8 0) 1 Tryd.underlying22 hi hz0 hz1 _ _ _ n rfl rfl (by omega) (by rw [hz2]; omega) (by unfold maxLen; omega) (Nat.le_refl _) ?_; intro w1 hown hgr; have B1 : Hid (Below w.heap.size w w1) := (Below.refl _ _).grown hgr (Nat.le_refl _) (fun k h => by cases h); have R1 : Hid (Row w1 w.heap.size n (mix p (l.take 0))) := (Row.of (l := []) hown).1; clear hown hgr)
  go_loopw [5, 13] (fun v i wr => ∃ k : Nat, k ≤ n ∧ i = .int .i64 k ∧ v = .slice (some ⟨w.heap.size, 0, none⟩) k n ∧ Row wr w.heap.size n (mix p (l.take k)) ∧ Below w.heap.size w wr)
    (fun _ i _ => n - (intOf i).toNat)
  case atStart => exact ⟨0, Nat.zero_le _, rfl, rfl, R1.out, B1.out⟩
  case round =>
    obtain ⟨k, hk, rfl, rfl, hRow, hbe⟩ := hrel
    have HRow : Hid (Row wr w.heap.size n (mix p (l.take k))) := hRow
    have HBe : Hid (Below w.heap.size w wr) := hbe
    clear R1 B1 hRow hbe
    by_cases hlt : k < n
    · obtain ⟨b, off, rfl, _, hc⟩ := (HR.out.later HBe.out (Nat.le_refl _)) k (by rw [← HN.out]; exact hlt)
      have HT1 : Hid (mix p (l.take (k + 1)) = mix p (l.take k) ++ [bits .xor .u8 (l.getD k 0) p]) := mix_take p l k (by rw [← HN.out]; exact hlt)
      have HKL : Hid (k = (mix p (l.take k)).length) := by show _ = _; rw [mix_length, List.length_take, ← HN.out]; omega
      generalize l.getD k 0 = z at *
      go_wp2_with (first | (go_at_call 76; refine (padMix1 z p q wr (HQ.out.later HBe.out)).mono ?_; rintro e w2 ⟨rfl, rfl⟩) | (at_builtin; refine wpList_fit _ rfl (.tmp 17) (.tmp 21) rfl w.heap.size k n (mix p (l.take k)) [bits .xor .u8 z p] rfl HKL.out (row_alloc HRow.out _) _ 1 1 rfl rfl (rd_one wr _) (by intro e; cases e) (by rw [← HKL.out]; simp; omega) ?_; intro w3 r3 g3; have R3 : Hid (Row w3 w.heap.size n (mix p (l.take k) ++ [bits .xor .u8 z p])) := r3; have B3 : Hid (Below w.heap.size w w3) := (HBe.out.alloc HBe.out.size _).grown g3 (by simp; exact Nat.le_trans HBe.out.size (Nat.le_succ _)) (fun k h => by cases h; exact Nat.le_refl _); clear r3 g3))
      go_roundw
      case rel => exact ⟨k + 1, by omega, by go_num, rfl, by rw [HT1.out]; exact R3.out, B3.out⟩
      case measure => simp [intOf]; omega
    · obtain rfl : k = n := by omega
      have HTn : Hid (mix p l = mix p (l.take k)) := by show _ = _; rw [List.take_of_length_le (by rw [← HN.out]; exact Nat.le_refl _)]
      go_wp2
      go_ret
      exact ⟨rfl, by rw [HTn.out]; exact HRow.out, HBe.out⟩

set_option maxRecDepth 100000 in
set_option maxHeartbeats 1600000 in
theorem implHmac (a0 : Option Addr) (n0 c0 : Nat) (a1 : Option Addr) (n1 c1 : Nat) (k b : List Int) (w : World) (hT : Tab w) (e0 : n0 = k.length) (e1 : n1 = b.length) (r0 : Rd w a0 k) (r1 : Rd w a1 b) (na0 : a0 = none → c0 = 0) (na1 : a1 = none → c1 = 0) (hb0 : Bytes k) (hb1 : Bytes b) (l0 : n0 ≤ 2097152) (l1 : n1 ≤ 2097152) :
    Calls Tryd.prog 50 #[.slice a0 n0 c0, .slice a1 n1 c1] w fun e w' =>
      ∃ g m c, e = .returned (.slice (some ⟨g, 0, none⟩) m c) ∧ m = (hmacI k b).length ∧ w.heap.size ≤ g ∧ Row w' g c (hmacI k b) ∧ Below w.heap.size w w' := by
  have HT : Hid (Tab w) := hT
  have HN0 : Hid (n0 = k.length) := e0
  have HN1 : Hid (n1 = b.length) := e1
  have HR0 : Hid (Rd w a0 k) := r0
  have HR1 : Hid (Rd w a1 b) := r1
  have HB0 : Hid (Bytes k) := hb0
  have HB1 : Hid (Bytes b) := hb1
  clear hT e0 e1 r0 r1 hb0 hb1
  by_cases h1 : n0 ≤ 1048576
  · have HL : Hid ((keyI k).length = 64) := keyI_len k (by rw [← HN0.out]; exact h1)
    by_cases h2 : n1 ≤ 1048512
    · have HH : Hid (hmacI k b = shaI (mix 92 (keyI k) ++ shaI (mix 54 (keyI k) ++ b))) := by
        show _ = _
        unfold hmacI; rw [if_pos ⟨by rw [← HN0.out]; exact h1, by rw [← HN1.out]; exact h2⟩]
      have HKB : Hid (Bytes (keyI k)) := keyI_bytes k HB0.out
      have h2I : ¬ ((n1 : Int) > 1048512) := by omega
      go_enter Tryd.func50, Tryd.ntmps50
      go_wp2_with fail
      refine (implBlockKey a0 n0 c0 k w HT.out HN0.out HR0.out na0 HB0.out l0).mono ?_
      rintro e w1 ⟨gk, mk, ck, rfl, em, k1, r1, b1⟩
      have hm : mk = 64 := by rw [em, HL.out]
      subst hm
      have R1 : Hid (Row w1 gk ck (keyI k)) := r1
      have B1 : Hid (Below w.heap.size w w1) := b1
      clear em k1 r1 b1
      go_wp2_with fail
      refine (padMix 54 w1).mono ?_
      rintro e w2 ⟨rfl, k2, b2⟩
      have K2 : Hid (Blk w2 w1.heap.size 5 [.int .u8 54]) := k2
      have B2 : Hid (Below w.heap.size w w2) := B1.out.trans (b2.mono B1.out.size)
      have R2 : Hid (Row w2 gk ck (keyI k)) := R1.out.later b2
      clear k2 b2 R1
      go_wp2_with fail
      refine (mixed _ 64 ck w1.heap.size 54 (keyI k) w2 HL.out.symm R2.out.rd K2.out (by omega)).mono ?_
      rintro e w3 ⟨rfl, r3, b3⟩
      have R3 : Hid (Row w3 w2.heap.size 64 (mix 54 (keyI k))) := r3
      have B3 : Hid (Below w.heap.size w w3) := B2.out.trans (b3.mono B2.out.size)
      have RK3 : Hid (Row w3 gk ck (keyI k)) := R2.out.later b3
      have HML : Hid (64 = (mix 54 (keyI k)).length) := by show _ = _; rw [mix_length, HL.out]
      clear r3 b3 R2 K2
      go_wp2_with fail
      refine (putBytes _ a1 64 64 n1 c1 (mix 54 (keyI k)) b w3 HML.out HN1.out R3.out.rd (HR1.out.later B3.out (Nat.le_refl _)) (by intro e; cases e) na1 (by rw [← HML.out]; omega) (by rw [← HN1.out]; omega)).mono ?_
      rintro e w4 ⟨rfl, r4, b4⟩
      have R4 : Hid (Row w4 w3.heap.size (64 + n1) (mix 54 (keyI k) ++ b)) := r4
      have B4 : Hid (Below w.heap.size w w4) := B3.out.trans (b4.mono B3.out.size)
      have RK4 : Hid (Row w4 gk ck (keyI k)) := RK3.out.later b4
      have HL4 : Hid (64 + n1 = (mix 54 (keyI k) ++ b).length) := by show _ = _; rw [List.length_append, ← HML.out, HN1.out]
      have HB4 : Hid (Bytes (mix 54 (keyI k) ++ b)) := bytes_append (mix_bytes 54 _ HKB.out (by omega) (by omega)) HB1.out
      clear r4 b4 R3 RK3
      go_wp2_with fail
      refine (implSha _ (64 + n1) (64 + n1) _ w4 (HT.out.later B4.out) HL4.out R4.out.rd (by intro e; cases e) HB4.out (by omega)).mono ?_
      rintro e w5 ⟨g5, m5, c5, rfl, em, k5, r5, b5⟩
      have HS5 : Hid ((shaI (mix 54 (keyI k) ++ b)).length = 32) := shaI_len _ (by rw [← HL4.out]; omega)
      have hm5 : m5 = 32 := by rw [em, HS5.out]
      subst hm5
      have R5 : Hid (Row w5 g5 c5 (shaI (mix 54 (keyI k) ++ b))) := r5
      have B5 : Hid (Below w.heap.size w w5) := B4.out.trans (b5.mono B4.out.size)
      have RK5 : Hid (Row w5 gk ck (keyI k)) := RK4.out.later b5
      clear em k5 r5 b5 R4 RK4
      go_wp2_with fail
      refine (padMix 92 w5).mono ?_
      rintro e w6 ⟨rfl, k6, b6⟩
      have K6 : Hid (Blk w6 w5.heap.size 5 [.int .u8 92]) := k6
      have B6 : Hid (Below w.heap.size w w6) := B5.out.trans (b6.mono B5.out.size)
      have R6 : Hid (Row w6 g5 c5 (shaI (mix 54 (keyI k) ++ b))) := R5.out.later b6
      have RK6 : Hid (Row w6 gk ck (keyI k)) := RK5.out.later b6
      clear k6 b6 R5 RK5
      go_wp2_with fail
      refine (mixed _ 64 ck w5.heap.size 92 (keyI k) w6 HL.out.symm RK6.out.rd K6.out (by omega)).mono ?_
      rintro e w7 ⟨rfl, r7, b7⟩
      have R7 : Hid (Row w7 w6.heap.size 64 (mix 92 (keyI k))) := r7
      have B7 : Hid (Below w.heap.size w w7) := B6.out.trans (b7.mono B6.out.size)
      have RI7 : Hid (Row w7 g5 c5 (shaI (mix 54 (keyI k) ++ b))) := R6.out.later b7
      have HML2 : Hid (64 = (mix 92 (keyI k)).length) := by show _ = _; rw [mix_length, HL.out]
      clear r7 b7 R6 K6 RK6
      go_wp2_with fail
      refine (putBytes _ _ 64 64 32 c5 (mix 92 (keyI k)) _ w7 HML2.out HS5.out.symm R7.out.rd RI7.out.rd (by intro e; cases e) (by intro e; cases e) (by rw [← HML2.out]; omega) (by rw [HS5.out]; omega)).mono ?_
      rintro e w8 ⟨rfl, r8, b8⟩
      have R8 : Hid (Row w8 w7.heap.size (64 + 32) (mix 92 (keyI k) ++ shaI (mix 54 (keyI k) ++ b))) := r8
      have B8 : Hid (Below w.heap.size w w8) := B7.out.trans (b8.mono B7.out.size)
      have HL8 : Hid (64 + 32 = (mix 92 (keyI k) ++ shaI (mix 54 (keyI k) ++ b)).length) := by show _ = _; rw [List.length_append, ← HML2.out, HS5.out]
      have HB8 : Hid (Bytes (mix 92 (keyI k) ++ shaI (mix 54 (keyI k) ++ b))) := bytes_append (mix_bytes 92 _ HKB.out (by omega) (by omega)) (shaI_bytes _)
      clear r8 b8 R7 RI7
      go_wp2_with fail
      refine (implSha _ (64 + 32) (64 + 32) _ w8 (HT.out.later B8.out) HL8.out R8.out.rd (by intro e; cases e) HB8.out (by omega)).mono ?_
      rintro e w9 ⟨g9, m9, c9, rfl, em, k9, r9, b9⟩
      have EM : Hid (m9 = (hmacI k b).length) := by show _ = _; rw [HH.out]; exact em
      have K9 : Hid (w.heap.size ≤ g9) := Nat.le_trans B8.out.size k9
      have R9 : Hid (Row w9 g9 c9 (hmacI k b)) := by show Row _ _ _ _; rw [HH.out]; exact r9
      have B9 : Hid (Below w.heap.size w w9) := B8.out.trans (b9.mono B8.out.size)
      clear em k9 r9 b9
      go_wp2
      go_ret
      exact ⟨g9, m9, c9, rfl, EM.out, K9.out, R9.out, B9.out⟩
    · have HH : Hid (hmacI k b = []) := hmacI_none k b (by rw [← HN0.out, ← HN1.out]; omega)
      have h2I : (n1 : Int) > 1048512 := by omega
      go_enter Tryd.func50, Tryd.ntmps50
      go_wp2_with fail
      refine (implBlockKey a0 n0 c0 k w HT.out HN0.out HR0.out na0 HB0.out l0).mono ?_
      rintro e w1 ⟨gk, mk, ck, rfl, em, k1, r1, b1⟩
      have hm : mk = 64 := by rw [em, HL.out]
      subst hm
      have B1 : Hid (Below w.heap.size w w1) := b1
      clear em k1 r1 b1
      go_wp2
      go_ret
      exact ⟨w1.heap.size, 0, 0, by simp, by rw [HH.out]; rfl, B1.out.size, by rw [HH.out]; exact row_new w1 [] (by simp), B1.out.alloc B1.out.size _⟩
  · have HH : Hid (hmacI k b = []) := hmacI_none k b (by rw [← HN0.out, ← HN1.out]; omega)
    have HK : Hid (keyI k = []) := keyI_none k (by rw [← HN0.out]; exact h1)
    go_enter Tryd.func50, Tryd.ntmps50
    go_wp2_with fail
    refine (implBlockKey a0 n0 c0 k w HT.out HN0.out HR0.out na0 HB0.out l0).mono ?_
    rintro e w1 ⟨gk, mk, ck, rfl, em, k1, r1, b1⟩
    have hm : mk = 0 := by rw [em, HK.out]; rfl
    subst hm
    have B1 : Hid (Below w.heap.size w w1) := b1
    clear em k1 r1 b1
    go_wp2
    go_ret
    exact ⟨w1.heap.size, 0, 0, by simp, by rw [HH.out]; rfl, B1.out.size, by rw [HH.out]; exact row_new w1 [] (by simp), B1.out.alloc B1.out.size _⟩

set_option maxRecDepth 100000 in
theorem tag_cut (k b : List Int) : cutOf (hmacI k b) 0 16 = tagI k b := by
  unfold cutOf tagI
  by_cases h : k.length ≤ 1048576 ∧ b.length ≤ 1048512
  · have := hmacI_len k b h.1 h.2
    rw [if_pos (by rw [this]; decide)]
    simp [piece]
  · rw [hmacI_none k b h]; rfl

set_option maxRecDepth 100000 in
set_option maxHeartbeats 800000 in
theorem implTag (a0 : Option Addr) (n0 c0 : Nat) (a1 : Option Addr) (n1 c1 : Nat) (k b : List Int) (w : World) (hT : Tab w) (e0 : n0 = k.length) (e1 : n1 = b.length) (r0 : Rd w a0 k) (r1 : Rd w a1 b) (na0 : a0 = none → c0 = 0) (na1 : a1 = none → c1 = 0) (hb0 : Bytes k) (hb1 : Bytes b) (l0 : n0 ≤ 2097152) (l1 : n1 ≤ 2097152) :
    Calls Tryd.prog 45 #[.slice a0 n0 c0, .slice a1 n1 c1] w fun e w' =>
      ∃ g m c, e = .returned (.slice (some ⟨g, 0, none⟩) m c) ∧ m = (tagI k b).length ∧ w.heap.size ≤ g ∧ Row w' g c (tagI k b) ∧ Below w.heap.size w w' := by
  have HT : Hid (Tab w) := hT
  have HN0 : Hid (n0 = k.length) := e0
  have HN1 : Hid (n1 = b.length) := e1
  have HR0 : Hid (Rd w a0 k) := r0
  have HR1 : Hid (Rd w a1 b) := r1
  have HB0 : Hid (Bytes k) := hb0
  have HB1 : Hid (Bytes b) := hb1
  clear hT e0 e1 r0 r1 hb0 hb1
  go_enter Tryd.func45, Tryd.ntmps45
  go_wp2_with fail
  refine (implHmac a0 n0 c0 a1 n1 c1 k b w HT.out HN0.out HN1.out HR0.out HR1.out na0 na1 HB0.out HB1.out l0 l1).mono ?_
  rintro e w1 ⟨g, m, c, rfl, em, k1, r1, b1⟩
  have EM : Hid (m = (hmacI k b).length) := em
  have R1 : Hid (Row w1 g c (hmacI k b)) := r1
  have B1 : Hid (Below w.heap.size w w1) := b1
  have hm : m ≤ 32 := by rw [em]; exact hmacI_le k b
  have hmc : m ≤ c := by rw [em]; exact r1.1
  clear em k1 r1 b1
  go_wp2_with fail
  refine (implCut g 0 m c (hmacI k b) 0 16 w1 EM.out R1.out.rd hmc (by omega) (by omega)).mono ?_
  rw [tag_cut]
  rintro e w2 ⟨g2, m2, c2, rfl, em, k2, r2, b2⟩
  have E2 : Hid (m2 = (tagI k b).length) := em
  have K2 : Hid (w.heap.size ≤ g2) := Nat.le_trans B1.out.size k2
  have R2 : Hid (Row w2 g2 c2 (tagI k b)) := r2
  have B2 : Hid (Below w.heap.size w w2) := B1.out.trans (b2.mono B1.out.size)
  clear em k2 r2 b2
  go_wp2
  go_ret
  exact ⟨g2, m2, c2, rfl, E2.out, K2.out, R2.out, B2.out⟩
end Go.Proofs.YtpenhliaelhnoaaDoor.MacI
