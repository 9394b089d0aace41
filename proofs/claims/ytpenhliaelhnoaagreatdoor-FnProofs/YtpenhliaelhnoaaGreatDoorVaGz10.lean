/-
  What impl's Extract, Expand, Derive and Chain answer, where the table of round words holds what the program's text lays into it.
  What impl's FinishKey, RootKey, FirstKey, EpochKey and Proof answer.
  A frame's bytes are bytes, and few.
-/
import Derived.Test.YtpenhliaelhnoaaGreatDoorVaGz9
import Derived.Test.YtpenhliaelhnoaaGreatDoorVaGz5
import Derived.Test.YtpenhliaelhnoaaGreatDoorVaGz8
import Derived.Test.YtpenhliaelhnoaaGreatDoorVaGz7
import Derived.Test.YtpenhliaelhnoaaGreatDoorVaGz6
import Derived.Lib.SlBytesConst
set_option linter.unusedVariables false
set_option maxRecDepth 100000
namespace Go.Proofs.YtpenhliaelhnoaaGreatDoor.KdfI
open Go.RowKit Mem App Blk Pads ShaP Comp MacP MacI KdfP KdfB Str

theorem implExtract (a0 : Option Addr) (n0 c0 : Nat) (a1 : Option Addr) (n1 c1 : Nat) (k b : List Int) (w : World) (hT : Tab w) (e0 : n0 = k.length) (e1 : n1 = b.length) (r0 : Rd w a0 k) (r1 : Rd w a1 b) (na0 : a0 = none → c0 = 0) (na1 : a1 = none → c1 = 0) (hb0 : Bytes k) (hb1 : Bytes b) (l0 : n0 ≤ 2097152) (l1 : n1 ≤ 2097152) :
  Calls Tryz.prog 67 #[.slice a0 n0 c0, .slice a1 n1 c1] w fun e w' =>
   ∃ g m c, e = .returned (.slice (some ⟨g, 0, none⟩) m c) ∧ m = (hmacI k b).length ∧ w.heap.size ≤ g ∧ Row w' g c (hmacI k b) ∧ Below w.heap.size w w' := by
 have HN0 : Hid (n0 = k.length) := e0
 have HN1 : Hid (n1 = b.length) := e1
 have HT := hid (hT)
 clear e0 e1 hT
 go_enter Tryz.func67, Tryz.ntmps67
 go_wp2_with fail
 refine (implHmac a0 n0 c0 a1 n1 c1 k b w HT.out HN0.out HN1.out r0 r1 na0 na1 hb0 hb1 l0 l1).mono ?_
 rintro e w1 ⟨g, m, c, rfl, em, k1, r1, b1⟩
 have EM : Hid (m = (hmacI k b).length) := em
 clear em
 go_wp2
 go_ret
 exact ⟨g, m, c, rfl, EM.out, k1, r1, b1⟩

theorem canExpand (a0 : Option Addr) (n0 c0 : Nat) (a1 : Option Addr) (n1 c1 : Nat) (k f : List Int) (n : Int) (w : World) (e0 : n0 = k.length) (e1 : n1 = f.length) :
  Calls Tryz.prog 93 #[.slice a0 n0 c0, .slice a1 n1 c1, .int .i64 n] w fun e w' => e = .returned (.bool (mayExp k f n)) ∧ w = w' := by
 by_cases h1 : 0 ≤ n
 ·
  by_cases h2 : n ≤ 8160
  ·
   by_cases h3 : n1 ≤ 100
   ·
    have h3I : (n1 : Int) ≤ 100 := by omega
    have H : Hid (mayExp k f n = isLen (n0 : Int)) := by
     show _ = _
     unfold mayExp isLen
     rw [← e0, ← e1]
     apply decide_eq_decide.2
     omega
    clear e0 e1
    go_enter Tryz.func93, Tryz.ntmps93
    go_wp2_with fail
    refine (isShaLength _ _).mono ?_
    rintro e w1 ⟨rfl, rfl⟩
    go_wp2
    go_ret
    exact ⟨by rw [H.out]; simp, rfl⟩
   ·
    have h3I : ¬ ((n1 : Int) ≤ 100) := by omega
    have H : Hid (mayExp k f n = false) := by
     show _ = _
     unfold mayExp
     rw [← e1]
     exact decide_eq_false (by omega)
    clear e0 e1
    go_enter Tryz.func93, Tryz.ntmps93
    go_wp2
    go_ret
    exact ⟨by rw [H.out]; simp, rfl⟩
  ·
   have H : Hid (mayExp k f n = false) := by
    show _ = _
    unfold mayExp
    exact decide_eq_false (by omega)
   clear e0 e1
   go_enter Tryz.func93, Tryz.ntmps93
   go_wp2
   go_ret
   exact ⟨by rw [H.out]; simp, rfl⟩
 ·
  have H : Hid (mayExp k f n = false) := by
   show _ = _
   unfold mayExp
   exact decide_eq_false (by omega)
  clear e0 e1
  go_enter Tryz.func93, Tryz.ntmps93
  go_wp2
  go_ret
  exact ⟨by rw [H.out]; simp, rfl⟩

theorem keyI_full (k : List Int) (h : k.length = 64) : keyI k = k := by
 have hs : short k = k := by unfold short; rw [if_pos (by omega)]
 unfold keyI; rw [if_pos (by omega), hs, h]; simp
theorem hmacI_key (k b : List Int) (h : k.length ≤ 1048576) : hmacI (keyI k) b = hmacI k b := by
 have e := keyI_full _ (keyI_len k h)
 have e2 := keyI_len k h
 unfold hmacI
 by_cases hb : b.length ≤ 1048512
 ·
  rw [if_pos ⟨by omega, hb⟩, if_pos ⟨h, hb⟩, e]
 ·
  rw [if_neg (fun x => hb x.2), if_neg (fun x => hb x.2)]
def lenOf : Value → Nat
 | .slice _ n _ => n
 | _ => 0

set_option maxHeartbeats 4000000 in
theorem implExpand (a0 : Option Addr) (n0 c0 : Nat) (a1 : Option Addr) (n1 c1 : Nat) (k f : List Int) (n : Int) (w : World) (hT : Tab w) (e0 : n0 = k.length) (e1 : n1 = f.length) (r0 : Rd w a0 k) (r1 : Rd w a1 f) (na0 : a0 = none → c0 = 0) (na1 : a1 = none → c1 = 0) (hb0 : Bytes k) (hb1 : Bytes f) (l0 : n0 ≤ 2097152) (_l1 : n1 ≤ 2097152) :
  Calls Tryz.prog 79 #[.slice a0 n0 c0, .slice a1 n1 c1, .int .i64 n] w fun e w' =>
   ∃ g m c, e = .returned (.tuple #[.slice (some ⟨g, 0, none⟩) m c, .bool (mayExp k f n)]) ∧ m = (expI k f n).length ∧ w.heap.size ≤ g ∧ Row w' g c (expI k f n) ∧ Below w.heap.size w w' := by
 have HT := hid (hT)
 have HN0 : Hid (n0 = k.length) := e0
 have HN1 : Hid (n1 = f.length) := e1
 have HR0 := hid (r0)
 have HR1 := hid (r1)
 have HB0 := hid (hb0)
 have HB1 := hid (hb1)
 have HC : Hid (Calls Tryz.prog 93 #[.slice a0 n0 c0, .slice a1 n1 c1, .int .i64 n] w fun e w' => e = .returned (.bool (mayExp k f n)) ∧ w = w') := canExpand a0 n0 c0 a1 n1 c1 k f n w e0 e1
 clear hT e0 e1 r0 r1 hb0 hb1
 cases hm : mayExp k f n with
 | false =>
  have HE : Hid (expI k f n = []) := expI_no k f n hm
  have A0 : Hid (Below w.heap.size w (w.alloc (.cells #[] 5))) := (Below.refl _ _).alloc (Nat.le_refl _) _
  have R0 : Hid (Row (w.alloc (.cells #[] 5)) w.heap.size 0 []) := row_new w [] (by simp)
  rw [hm] at HC
  clear hm
  go_enter Tryz.func79, Tryz.ntmps79
  go_wp2_with fail
  refine HC.out.mono ?_
  rintro e w1 ⟨rfl, rfl⟩
  go_wp2
  go_ret2
  exact ⟨w.heap.size, 0, 0, by simp, by rw [HE.out]; rfl, Nat.le_refl _, by rw [HE.out]; exact R0.out, A0.out⟩
 | true =>
  obtain ⟨h0, h1, h2, h3⟩ := (mayExp_iff k f n).1 hm
  obtain ⟨N, rfl⟩ := Int.eq_ofNat_of_zero_le h0
  obtain ⟨i0, hi, hz0, hz1, hz2⟩ := info_parts info8
  have HE : Hid (expI k f (N : Int) = (blks k f ((N + 31) / 32)).take N) := by show _ = _; rw [expI_yes k f _ hm, Int.toNat_natCast]
  have HEL : Hid (N = (expI k f (N : Int)).length) := (expI_len k f N hm).symm
  have HK3 : Hid (k.length ≤ 1048576) := h3
  have HF2 : Hid (f.length ≤ 100) := h2
  have hN : N ≤ 8160 := by omega
  have hn1 : n1 ≤ 1000 := by rw [HN1.out]; omega
  have HKL : Hid ((keyI k).length = 64) := keyI_len k h3
  have HKB : Hid (Bytes (keyI k)) := keyI_bytes k HB0.out
  rw [hm] at HC
  clear hm h0 h1 h2 h3
  go_enter Tryz.func79, Tryz.ntmps79
  go_wp2_with fail
  refine HC.out.mono ?_
  rintro e w1 ⟨rfl, rfl⟩
  go_wp2_with fail
  refine (implBlockKey a0 n0 c0 k w HT.out HN0.out HR0.out na0 HB0.out l0).mono ?_
  rintro e w1 ⟨gk, mk, ck, rfl, em, k1, r1, b1⟩
  obtain rfl : 64 = mk := by rw [em, HKL.out]
  have RK1 := hid (r1.rd)
  have B1 := hid (b1)
  have HT1 := hid (HT.out.later b1)
  have RF1 := hid (HR1.out.later b1 (Nat.le_refl _))
  clear em k1 r1 b1
  go_wp2_with fail
  refine (expandedBlocks (some ⟨gk, 0, none⟩) 64 ck a1 n1 c1 w1).mono ?_
  rintro e w2 ⟨qn, qk, qa, qf, ga, rfl, kn, kk, ka, kf, rg, s1, s2, s3, s4, s5, d1, d2, d3, d4, d5, d6, d7, b2⟩
  have KN := hid (kn)
  have KK := hid (kk)
  have KA := hid (ka)
  have KF := hid (kf)
  have RG := hid (rg)
  have B2 := hid (b2)
  have D1 : Hid (qn ≠ qk ∧ qn ≠ qa ∧ qn ≠ qf ∧ qn ≠ ga ∧ qa ≠ qk ∧ qa ≠ qf ∧ qa ≠ ga) := ⟨d1, d2, d3, d4, d5, d6, d7⟩
  have S1 : Hid (w1.heap.size ≤ qn ∧ w1.heap.size ≤ qa) := ⟨s1, s3⟩
  clear kn kk ka kf rg b2 d1 d2 d3 d4 d5 d6 d7 s1 s2 s3 s4 s5
  unfold nexter
  go_wp2_with (at_make; refine wpList_make_own _ rfl _ _ 22 rfl w1.heap.size 5 i0 (.int .u8 0) 1 Tryz.underlying22 hi hz0 hz1 _ _ _ N rfl rfl (by omega) (by rw [hz2]; omega) (by unfold maxLen; omega) B2.out.size ?_; intro w3 hown hgr; have B3 : Hid (Below w2.heap.size w2 w3) := (Below.refl _ _).grown hgr (Nat.le_refl _) (fun k h => by cases h); have R3 : Hid (Row w3 w2.heap.size N []) := (Row.of (l := []) hown).1; clear hown hgr)
  have B13 := hid (B2.out.trans (B3.out.mono B2.out.size))
  have O2 := hid (B2.out.size)
  have NQ : Hid (qn < w2.heap.size ∧ qk < w2.heap.size ∧ qa < w2.heap.size ∧ qf < w2.heap.size) := ⟨KN.out.lt, KK.out.lt, KA.out.lt, KF.out.lt⟩
  obtain ⟨go, hgo⟩ : ∃ go, w2.heap.size = go := ⟨_, rfl⟩
  rw [hgo]
  rw [hgo] at R3 O2 NQ
  have G3 : Hid (go < w3.heap.size) := R3.out.lt
  go_loopw [9, 10] (fun v _ wr => ∃ q gb mb cb no : Nat, q ≤ 255 ∧ no = min (32 * q) N ∧ 32 * q < N + 32 ∧ v = .slice (some ⟨go, 0, none⟩) no N ∧ mb = (blk k f q).length ∧ qn ≠ gb ∧ qa ≠ gb ∧ go ≠ gb ∧ go < wr.heap.size ∧ Row wr go N ((blks k f q).take N) ∧ Row wr gb cb (blk k f q) ∧ Blk wr qn 5 [.int .u8 (q : Int)] ∧ Blk wr qk 22 [.slice (some ⟨gk, 0, none⟩) 64 ck] ∧ Blk wr qa 22 [.slice (some ⟨gb, 0, none⟩) mb cb] ∧ Blk wr qf 22 [.slice a1 n1 c1] ∧ Below w1.heap.size w1 wr)
   (fun v _ _ => N - lenOf v)
  case atStart => exact ⟨0, ga, 0, 0, 0, by omega, by omega, by omega, rfl, rfl, D1.out.2.2.2.1, D1.out.2.2.2.2.2.2, Nat.ne_of_gt (hgo ▸ RG.out.lt), G3.out, (by show Row _ _ _ (List.take N []); rw [List.take_nil]; exact R3.out), RG.out.later B3.out, KN.out.later B3.out, KK.out.later B3.out, KA.out.later B3.out, KF.out.later B3.out, B13.out⟩
  case round =>
   obtain ⟨q, gb, mb, cb, no, hq, eno, hqN, rfl, emb, x1, x2, x3, x4, y1, y2, y3, y4, y5, y6, y7⟩ := hrel
   have RO := hid (y1)
   have RB := hid (y2)
   have KNr := hid (y3)
   have KKr := hid (y4)
   have KAr := hid (y5)
   have KFr := hid (y6)
   have Br := hid (y7)
   have EMB : Hid (mb = (blk k f q).length) := emb
   have ENO : Hid (no = min (32 * q) N) := eno
   have XS : Hid (qn ≠ gb ∧ qa ≠ gb ∧ go ≠ gb) := ⟨x1, x2, x3⟩
   have hmb : mb ≤ 32 := by rw [emb]; exact blk_le k f q
   have hnoN : no ≤ N := by omega
   clear y1 y2 y3 y4 y5 y6 y7 emb x1 x2 x3 R3 B3 B13 G3 KN KK KA KF RG
   by_cases hlt : no < N
   ·
    have hltI : (no : Int) < (N : Int) := by omega
    have hno : 32 * q = no := by omega
    have HNO : Hid (32 * q = no) := hno
    have hq' : q ≤ 254 := by omega
    have HBK : Hid (blk k f (q + 1) = hmacI (keyI k) (blk k f q ++ f ++ [(q : Int) + 1])) := by
     show _ = _
     rw [hmacI_key k _ HK3.out]
     show hmacI k (blk k f q ++ f ++ [((q + 1 : Nat) : Int) % 256]) = _
     rw [show ((q + 1 : Nat) : Int) % 256 = (q : Int) + 1 by omega]
    have H32 : Hid ((blk k f (q + 1)).length = 32) := blk_len k f HK3.out HF2.out q
    have HBL : Hid ((blks k f q).length = no) := by show _ = _; rw [blks_len k f HK3.out HF2.out q, hno]
    have HO1 : Hid ((blks k f q).take N = blks k f q) := by show _ = _; rw [List.take_of_length_le (by rw [HBL.out]; omega)]
    obtain ⟨r, hr⟩ : ∃ r, N - no = r := ⟨_, rfl⟩
    obtain ⟨p, hp⟩ : ∃ p, min 32 r = p := ⟨_, rfl⟩
    have HP : Hid ((blks k f (q + 1)).take N = blks k f q ++ (blk k f (q + 1)).take p) := by
     show (blks k f q ++ blk k f (q + 1)).take N = _
     rw [List.take_append, HBL.out, List.take_of_length_le (by rw [HBL.out]; omega)]
     congr 1
     rw [hr]
     by_cases h : r ≤ 32
     ·
      rw [show p = r by omega]
     ·
      rw [List.take_of_length_le (by rw [H32.out]; omega), List.take_of_length_le (by rw [H32.out]; omega)]
    have hpI : (if (N : Int) - (no : Int) < 32 then (N : Int) - (no : Int) else 32) = (p : Int) := by split <;> omega
    have hwr : IntKind.i64.wrap ((N : Int) - (no : Int)) = (N : Int) - (no : Int) := by rw [IntKind.wrap_i64]; omega
    have HPL : Hid (p = ((blk k f (q + 1)).take p).length) := by show _ = _; rw [List.length_take, H32.out]; omega
    have hp32 : p ≤ 32 := by omega
    have hp0 : 0 < p := by omega
    have hpN : no + p ≤ N := by omega
    have HPN : Hid (no + p = min (32 * (q + 1)) N) := by show _ = _; omega
    have HQ1 : Hid (32 * (q + 1) < N + 32) := by show _ < _; omega
    clear hno eno hqN hr hp
    go_wp2_with fail
    refine (nextBlock qn qk qa qf (some ⟨gk, 0, none⟩) 64 ck a1 n1 c1 gb mb cb (q : Int) (keyI k) (blk k f q) f w1 wr HT1.out KNr.out KKr.out KAr.out KFr.out RB.out D1.out.1 D1.out.2.1 D1.out.2.2.1 XS.out.1 S1.out.1 S1.out.2 Br.out HKL.out.symm HN1.out EMB.out RK1.out RF1.out (by intro e; cases e) na1 HKB.out HB1.out (blk_bytes k f q) (by omega) hn1 hmb (by omega) (by omega)).mono ?_
    rw [← HBK.out]
    rintro e w4 ⟨g4, m4, c4, rfl, e4, k4, r4, kn4, ka4, kb4, b4⟩
    obtain rfl : 32 = m4 := by rw [e4, H32.out]
    have hc4 : 32 ≤ c4 := by have := r4.1; rw [H32.out] at this; exact this
    have i1 : (p : Int) ≤ (c4 : Int) := by omega
    have i0 : (0 : Int) ≤ (p : Int) := by omega
    have RO4 : Hid (Row w4 go N (blks k f q)) := by show Row _ _ _ _; rw [← HO1.out]; exact RO.out.keep (kb4 go x4 (Nat.ne_of_gt NQ.out.1) (Nat.ne_of_gt NQ.out.2.2.1))
    have RB4 := hid (r4)
    have KN4 := hid (kn4)
    have KK4 := hid (KKr.out.keep (kb4 qk KKr.out.lt (Ne.symm D1.out.1) (Ne.symm D1.out.2.2.2.2.1)))
    have KA4 := hid (ka4)
    have KF4 := hid (KFr.out.keep (kb4 qf KFr.out.lt (Ne.symm D1.out.2.2.1) (Ne.symm D1.out.2.2.2.2.2.1)))
    have B4 := hid (b4)
    have N4 : Hid (go ≠ g4) := Nat.ne_of_lt (Nat.lt_of_lt_of_le x4 k4)
    have N4n : Hid (qn ≠ g4) := Nat.ne_of_lt (Nat.lt_of_lt_of_le KNr.out.lt k4)
    have N4a : Hid (qa ≠ g4) := Nat.ne_of_lt (Nat.lt_of_lt_of_le KAr.out.lt k4)
    have RT4 : Hid (Rd w4 (some ⟨g4, 0, none⟩) ((blk k f (q + 1)).take p)) := by
     have h1 := r4.rd
     intro i hi
     rw [List.length_take] at hi
     obtain ⟨b', off, e, hb', hh⟩ := h1 i (by omega)
     refine ⟨b', off, e, hb', ?_⟩
     rw [hh]
     have : i < p := by omega
     simp [List.getD, this]
    have GK : Hid (w1.heap.size ≤ go) := O2.out
    clear e4 k4 r4 kn4 ka4 kb4 b4 x4 RO RB KNr KKr KAr KFr Br XS EMB ENO
    go_wp2_with (at_builtin; refine wpList_fit _ rfl (.tmp 29) (.tmp 38) rfl go no N (blks k f q) ((blk k f (q + 1)).take p) rfl HBL.out.symm RO4.out (some ⟨g4, 0, none⟩) p c4 rfl HPL.out RT4.out (by intro e; cases e) (by rw [HBL.out, ← HPL.out]; omega) ?_; intro w5 r5 gr5; have R5 : Hid (Row w5 go N ((blks k f (q + 1)).take N)) := HP.out ▸ r5; have kp5 : Hid (∀ i, i < w4.heap.size → go ≠ i → w5.heap[i]? = w4.heap[i]?) := (fun i h1 h2 => gr5.block i h1 (by simp only [ne_eq, Option.some.injEq]; exact Ne.symm h2)); have B5 : Hid (Below w1.heap.size w1 w5) := B4.out.grown gr5 B4.out.size (fun k h => by cases h; exact GK.out); clear r5 gr5)
    go_roundw
    case rel => exact ⟨q + 1, g4, 32, c4, no + p, by omega, HPN.out, HQ1.out, rfl, H32.out.symm, N4n.out, N4a.out, N4.out, R5.out.lt, R5.out, RB4.out.keep (kp5.out g4 RB4.out.lt N4.out), KN4.out.keep (kp5.out qn KN4.out.lt (Nat.ne_of_gt NQ.out.1)), KK4.out.keep (kp5.out qk KK4.out.lt (Nat.ne_of_gt NQ.out.2.1)), KA4.out.keep (kp5.out qa KA4.out.lt (Nat.ne_of_gt NQ.out.2.2.1)), KF4.out.keep (kp5.out qf KF4.out.lt (Nat.ne_of_gt NQ.out.2.2.2)), B5.out⟩
    case measure => simp [lenOf]; omega
   ·
    obtain rfl : N = no := by omega
    have HQ : Hid ((N + 31) / 32 = q) := by show _ = _; omega
    have HLT : ¬ ((N : Int) < (N : Int)) := by omega
    clear eno hqN ENO
    go_wp2
    go_ret2
    exact ⟨go, N, N, rfl, HEL.out, Nat.le_trans B1.out.size O2.out, by rw [HE.out, HQ.out]; exact RO.out, B1.out.trans (Br.out.mono B1.out.size)⟩

set_option maxHeartbeats 800000 in
theorem implDerive (a0 : Option Addr) (n0 c0 : Nat) (k : List Int) (t : ByteArray) (w : World) (hT : Tab w) (e0 : n0 = k.length) (r0 : Rd w a0 k) (na0 : a0 = none → c0 = 0) (hb0 : Bytes k) (l0 : n0 ≤ 2097152) (l1 : t.size ≤ 2097152) :
  Calls Tryz.prog 66 #[.slice a0 n0 c0, .string t] w fun e w' =>
   ∃ g m c, e = .returned (.slice (some ⟨g, 0, none⟩) m c) ∧ m = (derI k (bs t)).length ∧ w.heap.size ≤ g ∧ Row w' g c (derI k (bs t)) ∧ Below w.heap.size w w' := by
 have HN0 : Hid (n0 = k.length) := e0
 have HR0 := hid (r0)
 have HB0 := hid (hb0)
 have HT := hid (hT)
 clear e0 r0 hb0 hT
 obtain ⟨W, cB, hrun, rdW, beW⟩ := bytes_made w t
 have RW := hid (rdW)
 have BW := hid (beW)
 clear rdW beW
 go_enter Tryz.func66, Tryz.ntmps66
 go_wp2_with fail
 refine (implExpand a0 n0 c0 (some ⟨w.heap.size, 0, none⟩) t.size cB k (bs t) 32 W (HT.out.later BW.out) HN0.out (bs_length t).symm (HR0.out.later BW.out (Nat.le_refl _)) RW.out na0 (by intro e; cases e) HB0.out (bs_bytes t) l0 l1).mono ?_
 rintro e w1 ⟨g, m, c, rfl, em, k1, r1, b1⟩
 have EM : Hid (m = (derI k (bs t)).length) := em
 have K1 : Hid (w.heap.size ≤ g) := Nat.le_trans BW.out.size k1
 have R1 := hid (r1)
 have B1 := hid (BW.out.trans (b1.mono BW.out.size))
 clear em k1 r1 b1
 go_wp2
 go_ret
 exact ⟨g, m, c, rfl, EM.out, K1.out, R1.out, B1.out⟩

end Go.Proofs.YtpenhliaelhnoaaGreatDoor.KdfI

namespace Go.Proofs.YtpenhliaelhnoaaGreatDoor.KeJ
open Go.RowKit Mem App Blk Words Zone Res KeP Shp KeQ MacP KdfP Str MacI Comp KeL

theorem nil_ans {w x : World} (b : Below w.heap.size w x) : AnsB [] w (.returned (.slice (some ⟨x.heap.size, 0, none⟩) 0 0)) (x.alloc (.cells #[] 5)) :=
 ⟨⟨some ⟨x.heap.size, 0, none⟩, 0, 0⟩, rfl, SOwn.row (row_new x [] (by simp)) rfl (fun z hz => by cases hz) b.size (by rw [World.size_alloc]; exact Nat.lt_succ_self _), b.alloc b.size _⟩

theorem tagN (k t : Sl) (lk l : List Int) (w : World) (hT : Tab w) (hk : SRd w k lk) (h : SRd w t l) (h1 : lk.length ≤ 2000000) (h2 : l.length ≤ 2000000) :
  Calls Tryz.prog 50 #[.slice k.a k.n k.c, .slice t.a t.n t.c] w (AnsB (tagI lk l) w) := (implTag k.a k.n k.c t.a t.n t.c lk l w hT hk.len h.len hk.rd h.rd hk.nil h.nil hk.bytes h.bytes (by rw [hk.len]; omega) (by rw [h.len]; omega)).mono fun _ _ h' => AnsB.of (tagI_bytes _ _) h'

theorem roam_rd (x : World) : Rd (x.alloc (.cells #[.int .u8 114, .int .u8 111, .int .u8 97, .int .u8 109] 5 (4, 5))) (some ⟨x.heap.size, 0, none⟩) (bs roamB) := by
 intro i hi
 rw [bs_length] at hi
 refine ⟨x.heap.size, 0, rfl, by rw [World.size_alloc]; exact Nat.lt_succ_self _, ?_⟩
 rw [Nat.zero_add, World.cell?_alloc_mark, bs_roam]
 match i, hi with
 | 0, _ => rfl
 | 1, _ => rfl
 | 2, _ => rfl
 | 3, _ => rfl

set_option maxHeartbeats 8000000 in
theorem implFinishKey (s : Sl) (l : List Int) (w : World) (hT : Tab w) (h : SRd w s l) :
  Calls Tryz.prog 48 #[.slice s.a s.n s.c] w (AnsB (finK l) w) := by
 have HS := hid (h)
 have HN : Hid (s.n = l.length) := h.len
 obtain ⟨R, hR⟩ : ∃ R, finK l = R := ⟨_, rfl⟩
 have HRD : Hid (finK l = R) := hR
 rw [hR]
 clear h hR
 have HT := hid (hT)
 clear hT
 go_enter Tryz.func48, Tryz.ntmps48
 have B0 : Hid (Below w.heap.size w w) := Below.refl _ _
 go_wp2_with fail
 refine (KeI.implPskOk s l w HS.out).mono ?_
 rintro e y ⟨rfl, rfl⟩
 cases h0 : pskOk l.length with
 | false =>
  obtain rfl : R = [] := by rw [← HRD.out]; exact finK_no h0
  go_wp2
  go_ret
  exact nil_ans (Below.refl _ _)
 | true =>
  have HL : Hid (l.length ≤ 32) := (pskOk_iff.1 h0).2
  obtain rfl : R = derI (hmacI (bs roamB) l) (bs finishB) := by rw [← HRD.out]; exact finK_yes h0
  have kc := Lib.run_convert_bytes_const (P := Tryz.prog) w 22 5 #[.int .u8 114, .int .u8 111, .int .u8 97, .int .u8 109] 4 4 Tryz.underlying22 Tryz.underlying5
  obtain ⟨x1, hx1⟩ : ∃ zz, w.alloc (.cells #[.int .u8 114, .int .u8 111, .int .u8 97, .int .u8 109] 5 (4, 5)) = zz := ⟨_, rfl⟩
  have HW := hid (hx1)
  have b : Below w.heap.size w x1 := by rw [← hx1]; exact (Below.refl _ _).alloc (Nat.le_refl _) _
  have RR : Hid (Rd x1 (some ⟨w.heap.size, 0, none⟩) (bs roamB)) := by rw [← hx1]; exact roam_rd w
  clear hx1
  go_wp2_with fail
  rw [HW.out]
  clear HW kc
  have L1 := hid (b.size)
  have B1 := hid (B0.out.trans (b.mono B0.out.size))
  clear b B0
  refine (KdfI.implExtract (some ⟨w.heap.size, 0, none⟩) 4 4 s.a s.n s.c (bs roamB) l x1 (HT.out.later B1.out) (by rw [bs_roam]; rfl) HN.out RR.out (HS.out.later B1.out).rd (by intro e; cases e) HS.out.nil (bs_bytes _) HS.out.bytes (by omega) (by have := hid2 HN HL; omega)).mono ?_
  rintro e x2 ⟨g1, m1, c1, rfl, em, kg, rr, b⟩
  have oN : SOwn x2 x1.heap.size x2.heap.size ⟨some ⟨g1, 0, none⟩, m1, c1⟩ (hmacI (bs roamB) l) := SOwn.row rr em (hmacI_bytes _ _) kg rr.lt
  have HM1 : Hid (m1 ≤ 32) := by rw [em]; exact hmacI_le _ _
  clear em kg rr RR
  have L2 := hid (b.size)
  have B2 := hid (B1.out.trans (b.mono B1.out.size))
  clear b B1
  have O1_2 := hid (oN)
  clear oN
  go_wp2_with fail
  refine (KdfI.implDerive (some ⟨g1, 0, none⟩) m1 c1 (hmacI (bs roamB) l) finishB x2 (HT.out.later B2.out) O1_2.out.len O1_2.out.rd.rd (by intro e; cases e) (hmacI_bytes _ _) (by have := HM1.out; omega) (by decide)).mono ?_
  rintro e x3 ⟨g2, m2, c2, rfl, em, kg, rr, b⟩
  have oN : SOwn x3 x2.heap.size x3.heap.size ⟨some ⟨g2, 0, none⟩, m2, c2⟩ (derI (hmacI (bs roamB) l) (bs finishB)) := SOwn.row rr em (derI_bytes _ _) kg rr.lt
  clear em kg rr
  have L3 := hid (b.size)
  have B3 := hid (B2.out.trans (b.mono B2.out.size))
  have O1_3 := hid (O1_2.out.later b)
  clear b B2 O1_2
  have O2_3 := hid (oN)
  clear oN
  go_wp2
  go_ret
  exact ⟨⟨some ⟨g2, 0, none⟩, m2, c2⟩, rfl, O2_3.out.mono (by have := hid3 L1 L2 L3; have := B3.out.size; omega) (Nat.le_refl _), B3.out⟩

set_option maxHeartbeats 8000000 in
theorem implProof (q : Sl) (l : List Int) (id : Int) (c s : Sl) (cn sn : List Int) (tick : Int) (k : Sl) (ck : List Int) (w : World) (hT : Tab w) (hq : SRd w q l) (hc : SRd w c cn) (hs : SRd w s sn) (hk : SRd w k ck) :
  Calls Tryz.prog 31 #[.slice q.a q.n q.c, .int .i64 id, .slice c.a c.n c.c, .slice s.a s.n s.c, .int .i64 tick, .slice k.a k.n k.c] w (AnsB (proofK l id cn sn tick ck) w) := by
 have HQ := hid (hq)
 have HC := hid (hc)
 have HS := hid (hs)
 have HK := hid (hk)
 obtain ⟨R, hR⟩ : ∃ R, proofK l id cn sn tick ck = R := ⟨_, rfl⟩
 have HRD : Hid (proofK l id cn sn tick ck = R) := hR
 obtain ⟨F, hF⟩ : ∃ F, finK l = F := ⟨_, rfl⟩
 have HF : Hid (finK l = F) := hF
 obtain ⟨M, hM⟩ : ∃ M, proofL id cn sn tick ck = M := ⟨_, rfl⟩
 have HM : Hid (proofL id cn sn tick ck = M) := hM
 rw [hR]
 clear hq hc hs hk hR hF hM
 have HT := hid (hT)
 clear hT
 go_enter Tryz.func31, Tryz.ntmps31
 have B0 : Hid (Below w.heap.size w w) := Below.refl _ _
 go_wp2_with fail
 refine (implFinishKey q l w (HT.out.later B0.out) HQ.out).mono ?_
 unfold AnsB
 rw [HF.out]
 rintro e x1 ⟨T, rfl, o, b⟩
 have L1 := hid (b.size)
 have B1 := hid (B0.out.trans (b.mono B0.out.size))
 clear b B0
 have OT1 := hid (o)
 clear o
 go_wp2_with fail
 refine (KeI.implProofBody id c s cn sn tick k ck x1 (HC.out.later B1.out) (HS.out.later B1.out) (HK.out.later B1.out)).mono ?_
 unfold AnsB
 rw [HM.out]
 rintro e x2 ⟨U, rfl, o, b⟩
 have L2 := hid (b.size)
 have B2 := hid (B1.out.trans (b.mono B1.out.size))
 have OT2 := hid (OT1.out.later b)
 clear b B1 OT1
 have OU2 := hid (o)
 clear o
 cases h0 : pskOk l.length with
 | false =>
  obtain rfl : R = [] := by rw [← HRD.out]; exact proofK_no (by unfold proofB; rw [h0]; rfl)
  have hz : ((T.n : Int) == 0) = true := by have q := OT2.out.len; rw [← HF.out, finK_no h0] at q; simp at q; simp [q]
  go_wp2
  go_ret
  exact nil_ans B2.out
 | true =>
  have HTN : Hid (T.n = 32) := by have q := OT2.out.len; rw [← HF.out, finK_len h0] at q; exact q
  have hz : ((T.n : Int) == 0) = false := by have := HTN.out; simp; omega
  cases h1 : proofF id cn.length sn.length tick ck.length with
  | false =>
   obtain rfl : R = [] := by rw [← HRD.out]; exact proofK_no (by unfold proofB; rw [h0, h1]; rfl)
   have hu : ((U.n : Int) == 0) = true := by have q := OU2.out.len; rw [← HM.out, proofL_no h1] at q; simp at q; simp [q]
   go_wp2
   go_ret
   exact nil_ans B2.out
  | true =>
   have HUN : Hid (U.n = 46) := by have q := OU2.out.len; rw [← HM.out, proofL_len h1] at q; exact q
   have hu : ((U.n : Int) == 0) = false := by have := HUN.out; simp; omega
   have HTG : Hid (tagI F M = R) := by show _ = _; rw [← HRD.out, ← HF.out, ← HM.out]; exact (proofK_yes (by unfold proofB; rw [h0, h1]; rfl)).symm
   have HLF : Hid (F.length = 32 ∧ M.length = 46) := by have q := OT2.out.len; have q2 := OU2.out.len; have := hid2 HTN HUN; exact ⟨by omega, by omega⟩
   go_wp2_with fail
   refine (tagN T U F M x2 (HT.out.later B2.out) OT2.out.rd OU2.out.rd (by have := HLF.out; omega) (by have := HLF.out; omega)).mono ?_
   unfold AnsB
   rw [HTG.out]
   rintro e x3 ⟨V, rfl, o, b⟩
   have LO : w.heap.size ≤ x2.heap.size := B2.out.size
   have L3 := hid (b.size)
   have B3 := hid (B2.out.trans (b.mono B2.out.size))
   have OT3 := hid (OT2.out.later b)
   have OU3 := hid (OU2.out.later b)
   clear b B2 OT2 OU2
   go_wp2
   go_ret
   exact ⟨V, rfl, o.mono LO (Nat.le_refl _), B3.out⟩
end Go.Proofs.YtpenhliaelhnoaaGreatDoor.KeJ

