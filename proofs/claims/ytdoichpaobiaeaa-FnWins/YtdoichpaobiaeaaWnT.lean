/-
  What spec's WinNew and WinList answer; appending to a slice that is none or the call's own.
-/
import Derived.Test.YtdoichpaobiaeaaWnK
namespace Go.Proofs.Ytdoichpaobiaeaa.WnT
open Go.RowKit Go.Proofs.Ytdoichpaobiaeaa.Mem Go.Proofs.Ytdoichpaobiaeaa.MemI Go.Proofs.Ytdoichpaobiaeaa.Blk Go.Proofs.Ytdoichpaobiaeaa.Zone Go.Proofs.Ytdoichpaobiaeaa.ZoneI Go.Proofs.Ytdoichpaobiaeaa.WnZ Go.Proofs.Ytdoichpaobiaeaa.Res Go.Proofs.Ytdoichpaobiaeaa.Each Go.Proofs.Ytdoichpaobiaeaa.Copy Go.Proofs.Ytdoichpaobiaeaa.Ops Go.Proofs.Ytdoichpaobiaeaa.WinP Go.Proofs.Ytdoichpaobiaeaa.WinB Go.Proofs.Ytdoichpaobiaeaa.Bits Go.Proofs.Ytdoichpaobiaeaa.WnC Go.Proofs.Ytdoichpaobiaeaa.WnS Go.Proofs.Ytdoichpaobiaeaa.WnK

theorem iwpList_own (w : World) {ops : Array Oper} {rest : List Oper} {o : Oper} {a : Act} {Q : Exit → Act → World → Prop} (hgd : o.guard = none) (s x : Operand)
    (ho : o.op = .call { callee := .builtin .append, args := #[s, x], argTypes := #[24, 24] })
    (lo hi : Nat) (S : Sl) (l y : List Int) (hs : a.eval s = .slice S.a S.n S.c) (hS : ISOwn w lo hi S l)
    (ad : Addr) (m c : Nat) (hx : a.eval x = .slice (some ad) m c) (hm : m = y.length) (hrd : IRd w (some ad) y) (hy : y ≠ []) (hsum : l.length + y.length ≤ 100000000)
    (h : ∀ g' cap' w', IRow w' g' cap' (l ++ y) → lo ≤ g' ∨ w.heap.size ≤ g' → Kept lo hi w w' → wpList Try.prog ops Q rest (a.put o.dst (.slice (some ⟨g', 0, none⟩) (S.n + m) cap')) w') :
    wpList Try.prog ops Q (o :: rest) a w := by
  rcases hS with ⟨rfl, rfl⟩ | ⟨g, h1, h2, h3, h4, h5⟩
  · obtain ⟨i0, hinf, hz0, hz1, hz2⟩ := info_parts info64
    subst hm
    have hown0 : w.ownsRow w.heap.size 3 1 (.slice none 0 0) 0 [] := ⟨rfl, .inl ⟨rfl, rfl⟩⟩
    refine wpList_append_own w hgd s x 24 ho w.heap.size 3 i0 (.int .i64 0) 1 8 Try.underlying24 hinf hz0 hz1 hz2 rfl (by decide) _ _ _ hs hown0 ad y.length c (y.map (Value.int .i64)) hx (by simp) (IRd.cells hrd) (ints_oneCell _ _) (by unfold maxLen; omega) (by simp at hsum; omega) (by simp) ?_
    intro v' w' hown hgr hiff
    rcases hown.2 with ⟨hv, h0⟩ | ⟨g', cap', cur, rfl, hb, hg', _⟩
    · exfalso
      have : y.length = 0 := by simpa using h0
      exact hy (List.length_eq_zero_iff.1 this)
    · rw [List.nil_append] at hown
      obtain ⟨r1, r2, _, r4⟩ := IRow.of hown
      exact h g' cap' w' r1 (.inr r2) (Kept.of_below (grown_none_below hgr) 0).any
  · obtain ⟨sa, sn, sc⟩ := S
    simp only at h1 h2 h5 hs
    subst h1
    refine iwpList_app w hgd s x ho g g sn sc l y hs h2 h5 (Nat.le_refl _) (some ad) m c hx hm hrd (by intro e; cases e) hsum ?_
    intro g' cap' w' r1 r2 r4 gr
    exact h g' cap' w' r1 (.inl (Nat.le_trans h3 r2)) ((Kept.of_grown gr).mono h3 h4)

set_option maxRecDepth 100000 in
set_option maxHeartbeats 4000000 in
theorem specWinNew (w : World) : Calls Try.prog 25 #[] w (Made ⟨-1, zeros⟩ w) := by
  obtain ⟨x0, hx0⟩ : ∃ x0, (w.alloc (.cells #[.int .i64 0, .slice none 0 0] 27)).alloc (.cells #[.int .i64 (-1), .slice none 0 0] 27) = x0 := ⟨_, rfl⟩
  have HW0 : Hid (_ = x0) := hx0
  have B0 : Hid (Below w.heap.size w x0) := by rw [← hx0]; exact ((Below.refl _ _).alloc (Nat.le_refl _) _).alloc (by simp) _
  have KR0 : Hid (Blk x0 w.heap.size 27 [.int .i64 0, .slice none 0 0]) := by rw [← hx0]; exact (Blk.new w _ _).alloc _
  have KO0 : Hid (Blk x0 (w.heap.size + 1) 27 [.int .i64 (-1), .slice none 0 0]) := by
    have := Blk.new (w.alloc (.cells #[.int .i64 0, .slice none 0 0] 27)) 27 [.int .i64 (-1), .slice none 0 0]
    rw [World.size_alloc] at this
    rw [← hx0]; exact this
  clear hx0
  go_enter Try.func25, Try.ntmps25
  go_upto_region 2 with fail
  rw [HW0.out]
  clear HW0
  go_wp2
  go_loopw [2] (fun i wr => ∃ (k : Nat) (S : Sl) (hi : Nat), k ≤ 32 ∧ i = .int .i64 k ∧ Blk wr w.heap.size 27 [.int .i64 0, .slice none 0 0] ∧ Blk wr (w.heap.size + 1) 27 [.int .i64 (-1), .slice S.a S.n S.c] ∧ ISOwn wr (w.heap.size + 2) hi S (List.replicate k 0) ∧ hi ≤ wr.heap.size ∧ Below w.heap.size w wr) (fun i _ => 32 - (intOf i).toNat)
  case atStart => exact ⟨0, ⟨none, 0, 0⟩, x0.heap.size, Nat.zero_le _, rfl, KR0.out, KO0.out, ISOwn.nil _ _ _, Nat.le_refl _, B0.out⟩
  case round =>
    obtain ⟨k, S, hi, hk, rfl, hkr, hko, hown, hhi, hbe⟩ := hrel
    have KR : Hid (Blk wr w.heap.size 27 [.int .i64 0, .slice none 0 0]) := hkr
    have KO : Hid (Blk wr (w.heap.size + 1) 27 [.int .i64 (-1), .slice S.a S.n S.c]) := hko
    have OW : Hid (ISOwn wr (w.heap.size + 2) hi S (List.replicate k 0)) := hown
    have HHI : Hid (hi ≤ wr.heap.size) := hhi
    have HBe : Hid (Below w.heap.size w wr) := hbe
    have HSN : Hid (S.n = k) := by have := hown.len; rw [List.length_replicate] at this; exact this
    clear hkr hko hown hhi hbe KR0 KO0 B0
    have c0 := KO.out.cell 0 rfl
    have c1 := KO.out.cell 1 rfl
    by_cases hlt : k < 32
    · have KRa : Hid (Blk (wr.alloc (.cells #[.int .i64 0] 3)) w.heap.size 27 [.int .i64 0, .slice none 0 0]) := KR.out.alloc _
      have KOa : Hid (Blk (wr.alloc (.cells #[.int .i64 0] 3)) (w.heap.size + 1) 27 [.int .i64 (-1), .slice S.a S.n S.c]) := KO.out.alloc _
      have OWa : Hid (ISOwn (wr.alloc (.cells #[.int .i64 0] 3)) (w.heap.size + 2) hi S (List.replicate k 0)) := OW.out.later ((Below.refl _ _).alloc (Nat.le_refl _) _)
      have BEa : Hid (Below w.heap.size w (wr.alloc (.cells #[.int .i64 0] 3))) := HBe.out.alloc HBe.out.size _
      have HSA : Hid (w.heap.size + 2 ≤ (wr.alloc (.cells #[.int .i64 0] 3)).heap.size) := by have := KO.out.lt; show _ ≤ _; simp; omega
      clear KR KO OW
      go_wp2_with (at_builtin; refine iwpList_own _ rfl (.tmp 9) (.tmp 10) rfl (w.heap.size + 2) hi S (List.replicate k 0) [0] rfl OWa.out ⟨wr.heap.size, 0, none⟩ 1 1 rfl rfl (ird_one wr 0) (by simp) (by simp; omega) ?_; intro q3 c3 w3 r3 k3 kp3; have R3 : Hid (IRow w3 q3 c3 (List.replicate k 0 ++ [0])) := r3; have K3 : Hid (w.heap.size + 2 ≤ q3) := (by rcases k3 with h | h; (· exact h); (· exact Nat.le_trans HSA.out h)); have KR3 : Hid (Blk w3 w.heap.size 27 [.int .i64 0, .slice none 0 0]) := KRa.out.keep (kp3.block _ KRa.out.lt (.inl (by omega))); have KO3 : Hid (Blk w3 (w.heap.size + 1) 27 [.int .i64 (-1), .slice S.a S.n S.c]) := KOa.out.keep (kp3.block _ KOa.out.lt (.inl (by omega))); have B3 : Hid (Below w.heap.size w w3) := BEa.out.trans (kp3.below (by omega) BEa.out.size); clear r3 k3 kp3 c0 c1; have q0 := KO3.out.cell 1 rfl; have f0 := KO3.out.frozen 1)
      go_wp2
      go_roundw
      case rel => exact ⟨k + 1, ⟨some ⟨q3, 0, none⟩, S.n + 1, c3⟩, w3.heap.size, by omega, by go_num, KR3.out.other (by show w.heap.size ≠ w.heap.size + 1; omega) _, KO3.out.set 1 _ (by simp [maxLen]), ISOwn.row ((R3.out.keep (Below.heap_setCell w3 ⟨w.heap.size + 1, 1, none⟩ _ q3 (by show q3 ≠ w.heap.size + 1; have := K3.out; omega))) |> fun h => by rw [show List.replicate (k + 1) (0 : Int) = List.replicate k 0 ++ [0] from List.replicate_succ']; exact h) (by rw [HSN.out, List.length_replicate]) K3.out R3.out.lt, by simp, B3.out.setCell (by show w.heap.size ≤ w.heap.size + 1; omega) _⟩
      case measure => simp [intOf]; omega
    · obtain rfl : k = 32 := by omega
      have q0 := KR.out.cell 0 rfl
      have q1 := KR.out.cell 1 rfl
      have f0 := KR.out.frozen 0
      have f1 := KR.out.frozen 1
      have OD : Hid (WnOwn wr (w.heap.size + 2) hi ⟨S⟩ ⟨-1, zeros⟩) := ⟨OW.out, ⟨⟩⟩
      go_wp2
      obtain ⟨k4, o4, b4⟩ := WnK.stored KR.out OD.out (by omega)
      exact bodyPost_ret (v := wnV ⟨-1, zeros⟩ ⟨S⟩) (res1 rfl (is_cell rfl k4 aggWn)) rfl ⟨⟨S⟩, rfl, o4.mono (by omega) (by rw [size2]; exact HHI.out), b4 _ _ (Nat.le_refl _) HBe.out⟩

set_option maxRecDepth 100000 in
set_option maxHeartbeats 4000000 in
theorem specWinList (S : WnS) (D : WnD) (w : World) (h : WnRd w S D) :
    Calls Try.prog 33 #[wnV D S] w fun e w' => ∃ q m c, e = .returned (.slice (some ⟨q, 0, none⟩) m c) ∧ m = (winList D.top D.bits).length ∧ w.heap.size ≤ q ∧ IRow w' q c (winList D.top D.bits) ∧ Below w.heap.size w w' := by
  have HR : Hid (WnRd w S D) := h
  obtain ⟨x0, hx0, k0, b0, hs0⟩ := boxed w D S
  have HW0 : Hid (_ = x0) := hx0
  have B0 : Hid (Below w.heap.size w x0) := b0
  have HSZ : Hid (x0.heap.size = w.heap.size + 1) := hs0
  have KA : Hid (Blk (x0.alloc (.cells #[] 3)) w.heap.size 27 [.int .i64 D.top, .slice S.bits.a S.bits.n S.bits.c]) := k0.alloc _
  have BA : Hid (Below w.heap.size w (x0.alloc (.cells #[] 3))) := b0.alloc b0.size _
  have RA : Hid (IRow (x0.alloc (.cells #[] 3)) x0.heap.size 0 []) := irow_new x0 [] (by simp)
  have HQ : Hid (w.heap.size ≤ x0.heap.size) := b0.size
  clear h hx0 k0 b0 hs0
  have c0 := KA.out.cell 0 rfl
  have c1 := KA.out.cell 1 rfl
  unfold wnV
  go_enter Try.func33, Try.ntmps33
  go_upto_region 1 with fail
  rw [HW0.out]
  clear HW0
  go_wp2_with fail
  refine (specWinOk S D _ (HR.out.later BA.out)).mono ?_
  cases hok : winOk D.top D.bits with
  | false =>
    have HE : Hid (winList D.top D.bits = []) := by show _ = _; unfold winList; rw [if_neg (by rw [hok]; simp)]
    clear hok
    rintro e x1 ⟨rfl, b1⟩
    have B1 : Hid (Below w.heap.size w x1) := BA.out.trans (b1.mono BA.out.size)
    have R1 : Hid (IRow x1 x0.heap.size 0 []) := RA.out.later b1
    clear b1 c0 c1
    go_wp2
    go_ret
    exact ⟨x0.heap.size, 0, 0, rfl, by rw [HE.out]; rfl, HQ.out, by rw [HE.out]; exact R1.out, B1.out⟩
  | true =>
    have HOK : Hid (WOk D.top D.bits) := winOk_iff.1 hok
    obtain ⟨A, hA⟩ : ∃ A : Nat, least D.top = (A : Int) := ⟨(least D.top).toNat, by unfold least; split <;> omega⟩
    obtain ⟨C, hC⟩ : ∃ C : Nat, D.top + 1 - (A : Int) = (C : Int) := ⟨(D.top + 1 - (A : Int)).toNat, by rw [← hA]; have := HOK.out.lo; unfold least; split <;> omega⟩
    have HA : Hid (least D.top = (A : Int)) := hA
    have HC : Hid (D.top = (A : Int) + C - 1) := by show _ = _; omega
    have HLS : Hid (winList D.top D.bits = lst D.bits A C) := by
      show _ = _
      unfold winList
      rw [if_pos hok, hA, hC, Int.toNat_natCast, Int.toNat_natCast]
    have hc1 : C ≤ 1024 := by have := hA; unfold least at this; split at this <;> omega
    have hA1 : A ≤ 281474976710655 := by have h2 := HOK.out.hi; have h3 := hA; unfold least at h3; split at h3 <;> omega
    clear hok hA hC
    rintro e x1 ⟨rfl, b1⟩
    have B1 : Hid (Below w.heap.size w x1) := BA.out.trans (b1.mono BA.out.size)
    have R1 : Hid (IRow x1 x0.heap.size 0 []) := RA.out.later b1
    have K1 : Hid (Blk x1 w.heap.size 27 [.int .i64 D.top, .slice S.bits.a S.bits.n S.bits.c]) := KA.out.later b1
    clear b1 c0 c1 BA RA KA
    have c0 := K1.out.cell 0 rfl
    go_wp2_with fail
    refine (l8Least D.top x1 HOK.out.lo HOK.out.hi).mono ?_
    rw [HA.out]
    rintro e x2 ⟨rfl, rfl⟩
    clear c0
    go_wp2
    go_loopw [3, 4] (fun s3 i wr => ∃ (k q m c : Nat), k ≤ C ∧ i = .int .i64 ((A : Int) + k) ∧ s3 = .slice (some ⟨q, 0, none⟩) m c ∧ m = (lst D.bits A k).length ∧ IRow wr q c (lst D.bits A k) ∧ w.heap.size + 1 ≤ q ∧ Blk wr w.heap.size 27 [.int .i64 D.top, .slice S.bits.a S.bits.n S.bits.c] ∧ Below w.heap.size w wr) (fun _ i _ => A + C - (intOf i).toNat)
    case atStart => exact ⟨0, x0.heap.size, 0, 0, Nat.zero_le _, by simp, rfl, rfl, R1.out, Nat.le_of_eq HSZ.out.symm, K1.out, B1.out⟩
    case round =>
      obtain ⟨k, q, m, c, hk, rfl, rfl, em, hr, hq, hka, hbe⟩ := hrel
      have EM : Hid (m = (lst D.bits A k).length) := em
      have HRo : Hid (IRow wr q c (lst D.bits A k)) := hr
      have HBe : Hid (Below w.heap.size w wr) := hbe
      have HKA : Hid (Blk wr w.heap.size 27 [.int .i64 D.top, .slice S.bits.a S.bits.n S.bits.c]) := hka
      have hml : m ≤ 1024 := by have := lst_length D.bits A k; omega
      have c0 := hka.cell 0 rfl
      have c1 := hka.cell 1 rfl
      clear em hr hbe hka R1 B1 K1
      by_cases hlt : k < C
      · have hle : (A : Int) + k ≤ D.top := by have := HC.out; omega
        go_wp2_with fail
        refine (l8Bit D S ((A : Int) + k) wr (HR.out.later HBe.out) HOK.out.len HOK.out.words (by omega) (by have := HOK.out.hi; omega)).mono ?_
        rw [show ((A : Int) + k).toNat = A + k by omega]
        clear hle
        cases hbit : bit D.bits (A + k) with
        | true =>
          have HS : Hid (lst D.bits A (k + 1) = lst D.bits A k ++ [(A : Int) + k]) := by show _ = _; rw [lst, if_pos hbit, show (((A + k : Nat)) : Int) = (A : Int) + k by omega]
          clear hbit
          rintro e w2 ⟨rfl, b2⟩
          have B2 : Hid (Below w.heap.size w w2) := HBe.out.trans (b2.mono HBe.out.size)
          have R2 : Hid (IRow w2 q c (lst D.bits A k)) := HRo.out.later b2
          have K2 : Hid (Blk w2 w.heap.size 27 [.int .i64 D.top, .slice S.bits.a S.bits.n S.bits.c]) := HKA.out.later b2
          clear b2 HRo HBe HKA c0 c1
          go_wp2_with (at_builtin; refine iwpList_app _ rfl (.tmp 22) (.tmp 24) rfl (w.heap.size + 1) q m c (lst D.bits A k) [(A : Int) + k] rfl EM.out (irow_alloc R2.out _) hq (some ⟨w2.heap.size, 0, none⟩) 1 1 rfl rfl (ird_one w2 _) (by intro e; cases e) (by rw [← EM.out, List.length_singleton]; omega) ?_; intro q3 c3 w3 r3 k3 l3 gr3; have R3 : Hid (IRow w3 q3 c3 (lst D.bits A k ++ [(A : Int) + k])) := r3; have Q3 : Hid (w.heap.size + 1 ≤ q3) := k3; have B3 : Hid (Below w.heap.size w w3) := (B2.out.alloc B2.out.size _).grown gr3 (Nat.le_trans B2.out.size (by simp)) (fun k h => by cases h; omega); have K3 : Hid (Blk w3 w.heap.size 27 [.int .i64 D.top, .slice S.bits.a S.bits.n S.bits.c]) := (K2.out.alloc _).keep (gr3.block _ (K2.out.alloc _).lt (by simp only [ne_eq, Option.some.injEq]; omega)); clear r3 k3 l3 gr3)
          go_wp2
          go_roundw
          case rel => exact ⟨k + 1, q3, m + 1, c3, by omega, by go_num, rfl, by rw [HS.out, List.length_append, ← EM.out]; rfl, by rw [HS.out]; exact R3.out, Q3.out, K3.out, B3.out⟩
          case measure => simp [intOf]; omega
        | false =>
          have HS : Hid (lst D.bits A (k + 1) = lst D.bits A k) := by show _ = _; rw [lst, hbit]; simp
          clear hbit
          rintro e w2 ⟨rfl, b2⟩
          have B2 : Hid (Below w.heap.size w w2) := HBe.out.trans (b2.mono HBe.out.size)
          have R2 : Hid (IRow w2 q c (lst D.bits A k)) := HRo.out.later b2
          have K2 : Hid (Blk w2 w.heap.size 27 [.int .i64 D.top, .slice S.bits.a S.bits.n S.bits.c]) := HKA.out.later b2
          clear b2 HRo HBe HKA c0 c1
          go_wp2
          go_roundw
          case rel => exact ⟨k + 1, q, m, c, by omega, by go_num, rfl, by rw [HS.out]; exact EM.out, by rw [HS.out]; exact R2.out, hq, K2.out, B2.out⟩
          case measure => simp [intOf]; omega
      · obtain rfl : k = C := by omega
        have hgt : ¬ (A : Int) + k ≤ D.top := by have := HC.out; omega
        go_wp2
        go_ret
        exact ⟨q, m, c, rfl, by rw [HLS.out]; exact EM.out, by omega, by rw [HLS.out]; exact HRo.out, HBe.out⟩
end Go.Proofs.Ytdoichpaobiaeaa.WnT
