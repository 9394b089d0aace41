/-
  What impl's Extract, Expand, Derive and Chain answer, where the table of round words holds what the program's text lays into it.
  What impl's FinishKey, RootKey, FirstKey, EpochKey and Proof answer.
  What spec's PskOk and ProofBody answer.
-/
import Derived.Test.YtpenhliaelhnoaaDoorGd9
import Derived.Test.YtpenhliaelhnoaaDoorGd6
import Derived.Test.YtpenhliaelhnoaaDoorGd7
import Derived.Test.YtpenhliaelhnoaaDoorGd8
import Derived.Test.YtpenhliaelhnoaaDoorGd2
import Derived.Lib.SlBytesConst
import Derived.Test.YtpenhliaelhnoaaDoorGd4
set_option linter.unusedVariables false
namespace Go.Proofs.YtpenhliaelhnoaaDoor.KdfI
open Go.RowKit Go.Proofs.YtpenhliaelhnoaaDoor.Mem Go.Proofs.YtpenhliaelhnoaaDoor.App Go.Proofs.YtpenhliaelhnoaaDoor.Blk Go.Proofs.YtpenhliaelhnoaaDoor.Pads Go.Proofs.YtpenhliaelhnoaaDoor.ShaP Go.Proofs.YtpenhliaelhnoaaDoor.Comp Go.Proofs.YtpenhliaelhnoaaDoor.MacP Go.Proofs.YtpenhliaelhnoaaDoor.MacI Go.Proofs.YtpenhliaelhnoaaDoor.KdfP Go.Proofs.YtpenhliaelhnoaaDoor.KdfB Go.Proofs.YtpenhliaelhnoaaDoor.Str

set_option maxRecDepth 100000 in
theorem implExtract (a0 : Option Addr) (n0 c0 : Nat) (a1 : Option Addr) (n1 c1 : Nat) (k b : List Int) (w : World) (hT : Tab w) (e0 : n0 = k.length) (e1 : n1 = b.length) (r0 : Rd w a0 k) (r1 : Rd w a1 b) (na0 : a0 = none → c0 = 0) (na1 : a1 = none → c1 = 0) (hb0 : Bytes k) (hb1 : Bytes b) (l0 : n0 ≤ 2097152) (l1 : n1 ≤ 2097152) :
    Calls Tryd.prog 36 #[.slice a0 n0 c0, .slice a1 n1 c1] w fun e w' =>
      ∃ g m c, e = .returned (.slice (some ⟨g, 0, none⟩) m c) ∧ m = (hmacI k b).length ∧ w.heap.size ≤ g ∧ Row w' g c (hmacI k b) ∧ Below w.heap.size w w' := by
  have HN0 : Hid (n0 = k.length) := e0
  have HN1 : Hid (n1 = b.length) := e1
  have HT : Hid (Tab w) := hT
  clear e0 e1 hT
  go_enter Tryd.func36, Tryd.ntmps36
  go_wp2_with fail
  refine (implHmac a0 n0 c0 a1 n1 c1 k b w HT.out HN0.out HN1.out r0 r1 na0 na1 hb0 hb1 l0 l1).mono ?_
  rintro e w1 ⟨g, m, c, rfl, em, k1, r1, b1⟩
  have EM : Hid (m = (hmacI k b).length) := em
  clear em
  go_wp2
  go_ret
  exact ⟨g, m, c, rfl, EM.out, k1, r1, b1⟩


set_option maxRecDepth 100000 in
theorem canExpand (a0 : Option Addr) (n0 c0 : Nat) (a1 : Option Addr) (n1 c1 : Nat) (k f : List Int) (n : Int) (w : World) (e0 : n0 = k.length) (e1 : n1 = f.length) :
    Calls Tryd.prog 51 #[.slice a0 n0 c0, .slice a1 n1 c1, .int .i64 n] w fun e w' => e = .returned (.bool (mayExp k f n)) ∧ w = w' := by
  by_cases h1 : 0 ≤ n
  · by_cases h2 : n ≤ 8160
    · by_cases h3 : n1 ≤ 100
      · have h3I : (n1 : Int) ≤ 100 := by omega
        have H : Hid (mayExp k f n = isLen (n0 : Int)) := by
          show _ = _
          unfold mayExp isLen
          rw [← e0, ← e1]
          apply decide_eq_decide.2
          omega
        clear e0 e1
        go_enter Tryd.func51, Tryd.ntmps51
        go_wp2_with fail
        refine (isShaLength _ _).mono ?_
        rintro e w1 ⟨rfl, rfl⟩
        go_wp2
        go_ret
        exact ⟨by rw [H.out]; simp, rfl⟩
      · have h3I : ¬ ((n1 : Int) ≤ 100) := by omega
        have H : Hid (mayExp k f n = false) := by
          show _ = _
          unfold mayExp
          rw [← e1]
          exact decide_eq_false (by omega)
        clear e0 e1
        go_enter Tryd.func51, Tryd.ntmps51
        go_wp2
        go_ret
        exact ⟨by rw [H.out]; simp, rfl⟩
    · have H : Hid (mayExp k f n = false) := by
        show _ = _
        unfold mayExp
        exact decide_eq_false (by omega)
      clear e0 e1
      go_enter Tryd.func51, Tryd.ntmps51
      go_wp2
      go_ret
      exact ⟨by rw [H.out]; simp, rfl⟩
  · have H : Hid (mayExp k f n = false) := by
      show _ = _
      unfold mayExp
      exact decide_eq_false (by omega)
    clear e0 e1
    go_enter Tryd.func51, Tryd.ntmps51
    go_wp2
    go_ret
    exact ⟨by rw [H.out]; simp, rfl⟩

set_option maxRecDepth 100000 in
theorem keyI_full (k : List Int) (h : k.length = 64) : keyI k = k := by
  have hs : short k = k := by unfold short; rw [if_pos (by omega)]
  unfold keyI; rw [if_pos (by omega), hs, h]; simp
set_option maxRecDepth 100000 in
/-- The block of a key is as good as the key. -/
theorem hmacI_key (k b : List Int) (h : k.length ≤ 1048576) : hmacI (keyI k) b = hmacI k b := by
  have e := keyI_full _ (keyI_len k h)
  have e2 := keyI_len k h
  unfold hmacI
  by_cases hb : b.length ≤ 1048512
  · rw [if_pos ⟨by omega, hb⟩, if_pos ⟨h, hb⟩, e]
  · rw [if_neg (fun x => hb x.2), if_neg (fun x => hb x.2)]
/-- A slice's length. -/
def lenOf : Value → Nat
  | .slice _ n _ => n
  | _ => 0

set_option maxRecDepth 100000 in
set_option maxHeartbeats 4000000 in
theorem implExpand (a0 : Option Addr) (n0 c0 : Nat) (a1 : Option Addr) (n1 c1 : Nat) (k f : List Int) (n : Int) (w : World) (hT : Tab w) (e0 : n0 = k.length) (e1 : n1 = f.length) (r0 : Rd w a0 k) (r1 : Rd w a1 f) (na0 : a0 = none → c0 = 0) (na1 : a1 = none → c1 = 0) (hb0 : Bytes k) (hb1 : Bytes f) (l0 : n0 ≤ 2097152) (_l1 : n1 ≤ 2097152) :
    Calls Tryd.prog 38 #[.slice a0 n0 c0, .slice a1 n1 c1, .int .i64 n] w fun e w' =>
      ∃ g m c, e = .returned (.tuple #[.slice (some ⟨g, 0, none⟩) m c, .bool (mayExp k f n)]) ∧ m = (expI k f n).length ∧ w.heap.size ≤ g ∧ Row w' g c (expI k f n) ∧ Below w.heap.size w w' := by
  have HT : Hid (Tab w) := hT
  have HN0 : Hid (n0 = k.length) := e0
  have HN1 : Hid (n1 = f.length) := e1
  have HR0 : Hid (Rd w a0 k) := r0
  have HR1 : Hid (Rd w a1 f) := r1
  have HB0 : Hid (Bytes k) := hb0
  have HB1 : Hid (Bytes f) := hb1
  have HC : Hid (Calls Tryd.prog 51 #[.slice a0 n0 c0, .slice a1 n1 c1, .int .i64 n] w fun e w' => e = .returned (.bool (mayExp k f n)) ∧ w = w') := canExpand a0 n0 c0 a1 n1 c1 k f n w e0 e1
  clear hT e0 e1 r0 r1 hb0 hb1
  cases hm : mayExp k f n with
  | false =>
    have HE : Hid (expI k f n = []) := expI_no k f n hm
    have A0 : Hid (Below w.heap.size w (w.alloc (.cells #[] 5))) := (Below.refl _ _).alloc (Nat.le_refl _) _
    have R0 : Hid (Row (w.alloc (.cells #[] 5)) w.heap.size 0 []) := row_new w [] (by simp)
    rw [hm] at HC
    clear hm
    go_enter Tryd.func38, Tryd.ntmps38
    go_wp2_with fail
    refine HC.out.mono ?_
    rintro e w1 ⟨rfl, rfl⟩
    go_wp2
    go_ret2
    exact ⟨w.heap.size, 0, 0, by simp, by rw [HE.out]; rfl, Nat.le_refl _, by rw [HE.out]; exact R0.out, A0.out⟩
  | true =>
    obtain ⟨h0, h1, h2, h3⟩ := (mayExp_iff k f n).1 hm
    obtain ⟨N, rfl⟩ := Int.eq_ofNat_of_zero_le h0
    obtain ⟨i0, hi, hz0, hz1, hz2⟩ := info_parts info8
    have HE : Hid (expI k f (N : Int) = (blks k f ((N + 31) / 32)).take N) := by show _ = _; rw [expI_yes k f _ hm, Int.toNat_natCast]
    have HEL : Hid (N = (expI k f (N : Int)).length) := (expI_len k f N hm).symm
    have HK3 : Hid (k.length ≤ 1048576) := h3
    have HF2 : Hid (f.length ≤ 100) := h2
    have hN : N ≤ 8160 := by omega
    have hn1 : n1 ≤ 1000 := by rw [HN1.out]; omega
    have HKL : Hid ((keyI k).length = 64) := keyI_len k h3
    have HKB : Hid (Bytes (keyI k)) := keyI_bytes k HB0.out
    rw [hm] at HC
    clear hm h0 h1 h2 h3
    go_enter Tryd.func38, Tryd.ntmps38
    go_wp2_with fail
    refine HC.out.mono ?_
    rintro e w1 ⟨rfl, rfl⟩
    go_wp2_with fail
    refine (implBlockKey a0 n0 c0 k w HT.out HN0.out HR0.out na0 HB0.out l0).mono ?_
    rintro e w1 ⟨gk, mk, ck, rfl, em, k1, r1, b1⟩
    obtain rfl : 64 = mk := by rw [em, HKL.out]
    have RK1 : Hid (Rd w1 (some ⟨gk, 0, none⟩) (keyI k)) := r1.rd
    have B1 : Hid (Below w.heap.size w w1) := b1
    have HT1 : Hid (Tab w1) := HT.out.later b1
    have RF1 : Hid (Rd w1 a1 f) := HR1.out.later b1 (Nat.le_refl _)
    clear em k1 r1 b1
    go_wp2_with fail
    refine (expandedBlocks (some ⟨gk, 0, none⟩) 64 ck a1 n1 c1 w1).mono ?_
    rintro e w2 ⟨qn, qk, qa, qf, ga, rfl, kn, kk, ka, kf, rg, s1, s2, s3, s4, s5, d1, d2, d3, d4, d5, d6, d7, b2⟩
    have KN : Hid (Blk w2 qn 5 [.int .u8 0]) := kn
    have KK : Hid (Blk w2 qk 22 [.slice (some ⟨gk, 0, none⟩) 64 ck]) := kk
    have KA : Hid (Blk w2 qa 22 [.slice (some ⟨ga, 0, none⟩) 0 0]) := ka
    have KF : Hid (Blk w2 qf 22 [.slice a1 n1 c1]) := kf
    have RG : Hid (Row w2 ga 0 []) := rg
    have B2 : Hid (Below w1.heap.size w1 w2) := b2
    have D1 : Hid (qn ≠ qk ∧ qn ≠ qa ∧ qn ≠ qf ∧ qn ≠ ga ∧ qa ≠ qk ∧ qa ≠ qf ∧ qa ≠ ga) := ⟨d1, d2, d3, d4, d5, d6, d7⟩
    have S1 : Hid (w1.heap.size ≤ qn ∧ w1.heap.size ≤ qa) := ⟨s1, s3⟩
    clear kn kk ka kf rg b2 d1 d2 d3 d4 d5 d6 d7 s1 s2 s3 s4 s5
    unfold nexter
    go_wp2_with (at_make; refine wpList_make_own _ rfl _ _ 22 rfl w1.heap.size 5 i0 (.int .u8 0) 1 Tryd.underlying22 hi hz0 hz1 _ _ _ N rfl rfl (by omega) (by rw [hz2]; omega) (by unfold maxLen; omega) B2.out.size ?_; intro w3 hown hgr; have B3 : Hid (Below w2.heap.size w2 w3) := (Below.refl _ _).grown hgr (Nat.le_refl _) (fun k h => by cases h); have R3 : Hid (Row w3 w2.heap.size N []) := (Row.of (l := []) hown).1; clear hown hgr)
    have B13 : Hid (Below w1.heap.size w1 w3) := B2.out.trans (B3.out.mono B2.out.size)
    have O2 : Hid (w1.heap.size ≤ w2.heap.size) := B2.out.size
    have NQ : Hid (qn < w2.heap.size ∧ qk < w2.heap.size ∧ qa < w2.heap.size ∧ qf < w2.heap.size) := ⟨KN.out.lt, KK.out.lt, KA.out.lt, KF.out.lt⟩
    obtain ⟨go, hgo⟩ : ∃ go, w2.heap.size = go := ⟨_, rfl⟩
    rw [hgo]
    rw [hgo] at R3 O2 NQ
    have G3 : Hid (go < w3.heap.size) := R3.out.lt
    go_loopw [9, 10] (fun v _ wr => ∃ q gb mb cb no : Nat, q ≤ 255 ∧ no = min (32 * q) N ∧ 32 * q < N + 32 ∧ v = .slice (some ⟨go, 0, none⟩) no N ∧ mb = (blk k f q).length ∧ qn ≠ gb ∧ qa ≠ gb ∧ go ≠ gb ∧ go < wr.heap.size ∧ Row wr go N ((blks k f q).take N) ∧ Row wr gb cb (blk k f q) ∧ Blk wr qn 5 [.int .u8 (q : Int)] ∧ Blk wr qk 22 [.slice (some ⟨gk, 0, none⟩) 64 ck] ∧ Blk wr qa 22 [.slice (some ⟨gb, 0, none⟩) mb cb] ∧ Blk wr qf 22 [.slice a1 n1 c1] ∧ Below w1.heap.size w1 wr)
      (fun v _ _ => N - lenOf v)
    case atStart => exact ⟨0, ga, 0, 0, 0, by omega, by omega, by omega, rfl, rfl, D1.out.2.2.2.1, D1.out.2.2.2.2.2.2, Nat.ne_of_gt (hgo ▸ RG.out.lt), G3.out, (by show Row _ _ _ (List.take N []); rw [List.take_nil]; exact R3.out), RG.out.later B3.out, KN.out.later B3.out, KK.out.later B3.out, KA.out.later B3.out, KF.out.later B3.out, B13.out⟩
    case round =>
      obtain ⟨q, gb, mb, cb, no, hq, eno, hqN, rfl, emb, x1, x2, x3, x4, y1, y2, y3, y4, y5, y6, y7⟩ := hrel
      have RO : Hid (Row wr go N ((blks k f q).take N)) := y1
      have RB : Hid (Row wr gb cb (blk k f q)) := y2
      have KNr : Hid (Blk wr qn 5 [.int .u8 (q : Int)]) := y3
      have KKr : Hid (Blk wr qk 22 [.slice (some ⟨gk, 0, none⟩) 64 ck]) := y4
      have KAr : Hid (Blk wr qa 22 [.slice (some ⟨gb, 0, none⟩) mb cb]) := y5
      have KFr : Hid (Blk wr qf 22 [.slice a1 n1 c1]) := y6
      have Br : Hid (Below w1.heap.size w1 wr) := y7
      have EMB : Hid (mb = (blk k f q).length) := emb
      have ENO : Hid (no = min (32 * q) N) := eno
      have XS : Hid (qn ≠ gb ∧ qa ≠ gb ∧ go ≠ gb) := ⟨x1, x2, x3⟩
      have hmb : mb ≤ 32 := by rw [emb]; exact blk_le k f q
      have hnoN : no ≤ N := by omega
      clear y1 y2 y3 y4 y5 y6 y7 emb x1 x2 x3 R3 B3 B13 G3 KN KK KA KF RG
      by_cases hlt : no < N
      · have hltI : (no : Int) < (N : Int) := by omega
        have hno : 32 * q = no := by omega
        have HNO : Hid (32 * q = no) := hno
        have hq' : q ≤ 254 := by omega
        have HBK : Hid (blk k f (q + 1) = hmacI (keyI k) (blk k f q ++ f ++ [(q : Int) + 1])) := by
          show _ = _
          rw [hmacI_key k _ HK3.out]
          show hmacI k (blk k f q ++ f ++ [((q + 1 : Nat) : Int) % 256]) = _
          rw [show ((q + 1 : Nat) : Int) % 256 = (q : Int) + 1 by omega]
        have H32 : Hid ((blk k f (q + 1)).length = 32) := blk_len k f HK3.out HF2.out q
        have HBL : Hid ((blks k f q).length = no) := by show _ = _; rw [blks_len k f HK3.out HF2.out q, hno]
        have HO1 : Hid ((blks k f q).take N = blks k f q) := by show _ = _; rw [List.take_of_length_le (by rw [HBL.out]; omega)]
        obtain ⟨r, hr⟩ : ∃ r, N - no = r := ⟨_, rfl⟩
        obtain ⟨p, hp⟩ : ∃ p, min 32 r = p := ⟨_, rfl⟩
        have HP : Hid ((blks k f (q + 1)).take N = blks k f q ++ (blk k f (q + 1)).take p) := by
          show (blks k f q ++ blk k f (q + 1)).take N = _
          rw [List.take_append, HBL.out, List.take_of_length_le (by rw [HBL.out]; omega)]
          congr 1
          rw [hr]
          by_cases h : r ≤ 32
          · rw [show p = r by omega]
          · rw [List.take_of_length_le (by rw [H32.out]; omega), List.take_of_length_le (by rw [H32.out]; omega)]
        have hpI : (if (N : Int) - (no : Int) < 32 then (N : Int) - (no : Int) else 32) = (p : Int) := by split <;> omega
        have hwr : IntKind.i64.wrap ((N : Int) - (no : Int)) = (N : Int) - (no : Int) := by rw [IntKind.wrap_i64]; omega
        have HPL : Hid (p = ((blk k f (q + 1)).take p).length) := by show _ = _; rw [List.length_take, H32.out]; omega
        have hp32 : p ≤ 32 := by omega
        have hp0 : 0 < p := by omega
        have hpN : no + p ≤ N := by omega
        have HPN : Hid (no + p = min (32 * (q + 1)) N) := by show _ = _; omega
        have HQ1 : Hid (32 * (q + 1) < N + 32) := by show _ < _; omega
        clear hno eno hqN hr hp
        go_wp2_with fail
        refine (nextBlock qn qk qa qf (some ⟨gk, 0, none⟩) 64 ck a1 n1 c1 gb mb cb (q : Int) (keyI k) (blk k f q) f w1 wr HT1.out KNr.out KKr.out KAr.out KFr.out RB.out D1.out.1 D1.out.2.1 D1.out.2.2.1 XS.out.1 S1.out.1 S1.out.2 Br.out HKL.out.symm HN1.out EMB.out RK1.out RF1.out (by intro e; cases e) na1 HKB.out HB1.out (blk_bytes k f q) (by omega) hn1 hmb (by omega) (by omega)).mono ?_
        rw [← HBK.out]
        rintro e w4 ⟨g4, m4, c4, rfl, e4, k4, r4, kn4, ka4, kb4, b4⟩
        obtain rfl : 32 = m4 := by rw [e4, H32.out]
        have hc4 : 32 ≤ c4 := by have := r4.1; rw [H32.out] at this; exact this
        have i1 : (p : Int) ≤ (c4 : Int) := by omega
        have i0 : (0 : Int) ≤ (p : Int) := by omega
        have RO4 : Hid (Row w4 go N (blks k f q)) := by show Row _ _ _ _; rw [← HO1.out]; exact RO.out.keep (kb4 go x4 (Nat.ne_of_gt NQ.out.1) (Nat.ne_of_gt NQ.out.2.2.1))
        have RB4 : Hid (Row w4 g4 c4 (blk k f (q + 1))) := r4
        have KN4 : Hid (Blk w4 qn 5 [.int .u8 ((q : Int) + 1)]) := kn4
        have KK4 : Hid (Blk w4 qk 22 [.slice (some ⟨gk, 0, none⟩) 64 ck]) := KKr.out.keep (kb4 qk KKr.out.lt (Ne.symm D1.out.1) (Ne.symm D1.out.2.2.2.2.1))
        have KA4 : Hid (Blk w4 qa 22 [.slice (some ⟨g4, 0, none⟩) 32 c4]) := ka4
        have KF4 : Hid (Blk w4 qf 22 [.slice a1 n1 c1]) := KFr.out.keep (kb4 qf KFr.out.lt (Ne.symm D1.out.2.2.1) (Ne.symm D1.out.2.2.2.2.2.1))
        have B4 : Hid (Below w1.heap.size w1 w4) := b4
        have N4 : Hid (go ≠ g4) := Nat.ne_of_lt (Nat.lt_of_lt_of_le x4 k4)
        have N4n : Hid (qn ≠ g4) := Nat.ne_of_lt (Nat.lt_of_lt_of_le KNr.out.lt k4)
        have N4a : Hid (qa ≠ g4) := Nat.ne_of_lt (Nat.lt_of_lt_of_le KAr.out.lt k4)
        have RT4 : Hid (Rd w4 (some ⟨g4, 0, none⟩) ((blk k f (q + 1)).take p)) := by
          have h1 := r4.rd
          intro i hi
          rw [List.length_take] at hi
          obtain ⟨b', off, e, hb', hh⟩ := h1 i (by omega)
          refine ⟨b', off, e, hb', ?_⟩
          rw [hh]
          have : i < p := by omega
          simp [List.getD, this]
        have GK : Hid (w1.heap.size ≤ go) := O2.out
        clear e4 k4 r4 kn4 ka4 kb4 b4 x4 RO RB KNr KKr KAr KFr Br XS EMB ENO
        go_wp2_with (at_builtin; refine wpList_fit _ rfl (.tmp 29) (.tmp 38) rfl go no N (blks k f q) ((blk k f (q + 1)).take p) rfl HBL.out.symm RO4.out (some ⟨g4, 0, none⟩) p c4 rfl HPL.out RT4.out (by intro e; cases e) (by rw [HBL.out, ← HPL.out]; omega) ?_; intro w5 r5 gr5; have R5 : Hid (Row w5 go N ((blks k f (q + 1)).take N)) := HP.out ▸ r5; have kp5 : Hid (∀ i, i < w4.heap.size → go ≠ i → w5.heap[i]? = w4.heap[i]?) := (fun i h1 h2 => gr5.block i h1 (by simp only [ne_eq, Option.some.injEq]; exact Ne.symm h2)); have B5 : Hid (Below w1.heap.size w1 w5) := B4.out.grown gr5 B4.out.size (fun k h => by cases h; exact GK.out); clear r5 gr5)
        go_roundw
        case rel => exact ⟨q + 1, g4, 32, c4, no + p, by omega, HPN.out, HQ1.out, rfl, H32.out.symm, N4n.out, N4a.out, N4.out, R5.out.lt, R5.out, RB4.out.keep (kp5.out g4 RB4.out.lt N4.out), KN4.out.keep (kp5.out qn KN4.out.lt (Nat.ne_of_gt NQ.out.1)), KK4.out.keep (kp5.out qk KK4.out.lt (Nat.ne_of_gt NQ.out.2.1)), KA4.out.keep (kp5.out qa KA4.out.lt (Nat.ne_of_gt NQ.out.2.2.1)), KF4.out.keep (kp5.out qf KF4.out.lt (Nat.ne_of_gt NQ.out.2.2.2)), B5.out⟩
        case measure => simp [lenOf]; omega
      · obtain rfl : N = no := by omega
        have HQ : Hid ((N + 31) / 32 = q) := by show _ = _; omega
        have HLT : ¬ ((N : Int) < (N : Int)) := by omega
        clear eno hqN ENO
        go_wp2
        go_ret2
        exact ⟨go, N, N, rfl, HEL.out, Nat.le_trans B1.out.size O2.out, by rw [HE.out, HQ.out]; exact RO.out, B1.out.trans (Br.out.mono B1.out.size)⟩

set_option maxRecDepth 100000 in
set_option maxHeartbeats 800000 in
theorem implDerive (a0 : Option Addr) (n0 c0 : Nat) (k : List Int) (t : ByteArray) (w : World) (hT : Tab w) (e0 : n0 = k.length) (r0 : Rd w a0 k) (na0 : a0 = none → c0 = 0) (hb0 : Bytes k) (l0 : n0 ≤ 2097152) (l1 : t.size ≤ 2097152) :
    Calls Tryd.prog 17 #[.slice a0 n0 c0, .string t] w fun e w' =>
      ∃ g m c, e = .returned (.slice (some ⟨g, 0, none⟩) m c) ∧ m = (derI k (bs t)).length ∧ w.heap.size ≤ g ∧ Row w' g c (derI k (bs t)) ∧ Below w.heap.size w w' := by
  have HN0 : Hid (n0 = k.length) := e0
  have HR0 : Hid (Rd w a0 k) := r0
  have HB0 : Hid (Bytes k) := hb0
  have HT : Hid (Tab w) := hT
  clear e0 r0 hb0 hT
  obtain ⟨W, cB, hrun, rdW, beW⟩ := bytes_made w t
  have RW : Hid (Rd W (some ⟨w.heap.size, 0, none⟩) (bs t)) := rdW
  have BW : Hid (Below w.heap.size w W) := beW
  clear rdW beW
  go_enter Tryd.func17, Tryd.ntmps17
  go_wp2_with fail
  refine (implExpand a0 n0 c0 (some ⟨w.heap.size, 0, none⟩) t.size cB k (bs t) 32 W (HT.out.later BW.out) HN0.out (bs_length t).symm (HR0.out.later BW.out (Nat.le_refl _)) RW.out na0 (by intro e; cases e) HB0.out (bs_bytes t) l0 l1).mono ?_
  rintro e w1 ⟨g, m, c, rfl, em, k1, r1, b1⟩
  have EM : Hid (m = (derI k (bs t)).length) := em
  have K1 : Hid (w.heap.size ≤ g) := Nat.le_trans BW.out.size k1
  have R1 : Hid (Row w1 g c (derI k (bs t))) := r1
  have B1 : Hid (Below w.heap.size w w1) := BW.out.trans (b1.mono BW.out.size)
  clear em k1 r1 b1
  go_wp2
  go_ret
  exact ⟨g, m, c, rfl, EM.out, K1.out, R1.out, B1.out⟩

set_option maxRecDepth 100000 in
set_option maxHeartbeats 1600000 in
theorem implChain (a0 : Option Addr) (n0 c0 : Nat) (k : List Int) (n : Int) (w : World) (hT : Tab w) (e0 : n0 = k.length) (r0 : Rd w a0 k) (na0 : a0 = none → c0 = 0) (hb0 : Bytes k) (l0 : n0 ≤ 1048576) :
    Calls Tryd.prog 32 #[.slice a0 n0 c0, .int .i64 n] w fun e w' =>
      ∃ g m c, e = .returned (.slice (some ⟨g, 0, none⟩) m c) ∧ m = (chnI k n).length ∧ w.heap.size ≤ g ∧ Row w' g c (chnI k n) ∧ Below w.heap.size w w' := by
  have HT : Hid (Tab w) := hT
  have HN0 : Hid (n0 = k.length) := e0
  have HR0 : Hid (Rd w a0 k) := r0
  have HB0 : Hid (Bytes k) := hb0
  clear hT e0 r0 hb0
  by_cases h1 : 0 ≤ n ∧ n ≤ 64
  · obtain ⟨N, rfl⟩ := Int.eq_ofNat_of_zero_le h1.1
    have hN : N ≤ 64 := by omega
    have q1 : ¬ ((N : Int) < 0) := by omega
    have q2 : ¬ ((N : Int) > 64) := by omega
    have HC : Hid (chnI k (N : Int) = chn k N) := by show _ = _; unfold chnI; rw [if_pos h1, Int.toNat_natCast]
    clear h1
    go_enter Tryd.func32, Tryd.ntmps32
    go_wp2_with fail
    refine (putBytes a0 none n0 c0 0 0 k [] w HN0.out rfl HR0.out (by intro i hi; cases hi) na0 (by intro e; rfl) (by rw [← HN0.out]; omega) (by simp)).mono ?_
    rintro e w1 ⟨rfl, r1, b1⟩
    have R1 : Hid (Row w1 w.heap.size n0 (chn k 0)) := (List.append_nil k) ▸ r1
    have B1 : Hid (Below w.heap.size w w1) := b1
    clear r1 b1
    rw [Nat.add_zero]
    go_wp2
    go_loopw [5, 16] (fun v i wr => ∃ q g m c : Nat, q ≤ N ∧ i = .int .i64 q ∧ v = .slice (some ⟨g, 0, none⟩) m c ∧ m = (chn k q).length ∧ w.heap.size ≤ g ∧ Row wr g c (chn k q) ∧ Below w.heap.size w wr)
      (fun _ i _ => N - (intOf i).toNat)
    case atStart => exact ⟨0, w.heap.size, n0, n0, by omega, rfl, rfl, HN0.out, Nat.le_refl _, R1.out, B1.out⟩
    case round =>
      obtain ⟨q, g, m, c, hq, rfl, rfl, em, hg, hR, hbe⟩ := hrel
      have EM : Hid (m = (chn k q).length) := em
      have HR : Hid (Row wr g c (chn k q)) := hR
      have HBe : Hid (Below w.heap.size w wr) := hbe
      have hm : m ≤ 2097152 := by have := chn_le k q; rw [← em, ← HN0.out] at this; omega
      clear R1 B1 em hR hbe
      by_cases hlt : q < N
      · have hltI : (q : Int) < (N : Int) := by omega
        have HY : Hid (Bytes (chn k q)) := chn_bytes k HB0.out q
        have HT' : Hid (derI (chn k q) (bs ⟨#[114, 101, 107, 101, 121]⟩) = chn k (q + 1)) := rfl
        go_wp2_with fail
        refine (implDerive (some ⟨g, 0, none⟩) m c (chn k q) ⟨#[114, 101, 107, 101, 121]⟩ wr (HT.out.later HBe.out) EM.out HR.out.rd (by intro e; cases e) HY.out hm (by decide)).mono ?_
        rw [HT'.out]
        rintro e w2 ⟨g2, m2, c2, rfl, e2, k2, r2, b2⟩
        have E2 : Hid (m2 = (chn k (q + 1)).length) := e2
        have K2 : Hid (w.heap.size ≤ g2) := Nat.le_trans HBe.out.size k2
        have R2 : Hid (Row w2 g2 c2 (chn k (q + 1))) := r2
        have B2 : Hid (Below w.heap.size w w2) := HBe.out.trans (b2.mono HBe.out.size)
        clear e2 k2 r2 b2
        go_wp2
        go_roundw
        case rel => exact ⟨q + 1, g2, m2, c2, by omega, by go_num, rfl, E2.out, K2.out, R2.out, B2.out⟩
        case measure => simp [intOf]; omega
      · obtain rfl : q = N := by omega
        go_wp2
        go_ret
        exact ⟨g, m, c, rfl, by rw [HC.out]; exact EM.out, hg, by rw [HC.out]; exact HR.out, HBe.out⟩
  · have HC : Hid (chnI k n = []) := by show _ = _; unfold chnI; rw [if_neg h1]
    have A0 : Hid (Below w.heap.size w (w.alloc (.cells #[] 5))) := (Below.refl _ _).alloc (Nat.le_refl _) _
    have R0 : Hid (Row (w.alloc (.cells #[] 5)) w.heap.size 0 []) := row_new w [] (by simp)
    by_cases q1 : n < 0
    · clear h1
      go_enter Tryd.func32, Tryd.ntmps32
      go_wp2
      go_ret
      exact ⟨w.heap.size, 0, 0, by simp, by rw [HC.out]; rfl, Nat.le_refl _, by rw [HC.out]; exact R0.out, A0.out⟩
    · have q2 : n > 64 := by omega
      clear h1
      go_enter Tryd.func32, Tryd.ntmps32
      go_wp2
      go_ret
      exact ⟨w.heap.size, 0, 0, by simp, by rw [HC.out]; rfl, Nat.le_refl _, by rw [HC.out]; exact R0.out, A0.out⟩
end Go.Proofs.YtpenhliaelhnoaaDoor.KdfI

namespace Go.Proofs.YtpenhliaelhnoaaDoor.KeJ
open Go.RowKit Go.Proofs.YtpenhliaelhnoaaDoor.Mem Go.Proofs.YtpenhliaelhnoaaDoor.App Go.Proofs.YtpenhliaelhnoaaDoor.Blk Go.Proofs.YtpenhliaelhnoaaDoor.Words Go.Proofs.YtpenhliaelhnoaaDoor.Zone Go.Proofs.YtpenhliaelhnoaaDoor.Res Go.Proofs.YtpenhliaelhnoaaDoor.KeP Go.Proofs.YtpenhliaelhnoaaDoor.Shp Go.Proofs.YtpenhliaelhnoaaDoor.KeQ Go.Proofs.YtpenhliaelhnoaaDoor.MacP Go.Proofs.YtpenhliaelhnoaaDoor.KdfP Go.Proofs.YtpenhliaelhnoaaDoor.Str Go.Proofs.YtpenhliaelhnoaaDoor.MacI Go.Proofs.YtpenhliaelhnoaaDoor.Comp Go.Proofs.YtpenhliaelhnoaaDoor.KeL

set_option maxRecDepth 100000 in
theorem nil_ans {w x : World} (b : Below w.heap.size w x) : AnsB [] w (.returned (.slice (some ⟨x.heap.size, 0, none⟩) 0 0)) (x.alloc (.cells #[] 5)) :=
  ⟨⟨some ⟨x.heap.size, 0, none⟩, 0, 0⟩, rfl, SOwn.row (row_new x [] (by simp)) rfl (fun z hz => by cases hz) b.size (by rw [World.size_alloc]; exact Nat.lt_succ_self _), b.alloc b.size _⟩

set_option maxRecDepth 100000 in
theorem tagN (k t : Sl) (lk l : List Int) (w : World) (hT : Tab w) (hk : SRd w k lk) (h : SRd w t l) (h1 : lk.length ≤ 2000000) (h2 : l.length ≤ 2000000) :
    Calls Tryd.prog 45 #[.slice k.a k.n k.c, .slice t.a t.n t.c] w (AnsB (tagI lk l) w) := (implTag k.a k.n k.c t.a t.n t.c lk l w hT hk.len h.len hk.rd h.rd hk.nil h.nil hk.bytes h.bytes (by rw [hk.len]; omega) (by rw [h.len]; omega)).mono fun _ _ h' => AnsB.of (tagI_bytes _ _) h'

set_option maxRecDepth 100000 in
theorem roam_rd (x : World) : Rd (x.alloc (.cells #[.int .u8 114, .int .u8 111, .int .u8 97, .int .u8 109] 5 (4, 5))) (some ⟨x.heap.size, 0, none⟩) (bs roamB) := by
  intro i hi
  rw [bs_length] at hi
  refine ⟨x.heap.size, 0, rfl, by rw [World.size_alloc]; exact Nat.lt_succ_self _, ?_⟩
  rw [Nat.zero_add, World.cell?_alloc_mark, bs_roam]
  match i, hi with
  | 0, _ => rfl
  | 1, _ => rfl
  | 2, _ => rfl
  | 3, _ => rfl

set_option maxRecDepth 100000 in
set_option maxHeartbeats 8000000 in
theorem implFinishKey (s : Sl) (l : List Int) (w : World) (hT : Tab w) (h : SRd w s l) :
    Calls Tryd.prog 20 #[.slice s.a s.n s.c] w (AnsB (finK l) w) := by
  have HS : Hid (SRd w s l) := h
  have HN : Hid (s.n = l.length) := h.len
  obtain ⟨R, hR⟩ : ∃ R, finK l = R := ⟨_, rfl⟩
  have HRD : Hid (finK l = R) := hR
  rw [hR]
  clear h hR
  have HT : Hid (Tab w) := hT
  clear hT
  go_enter Tryd.func20, Tryd.ntmps20
  have B0 : Hid (Below w.heap.size w w) := Below.refl _ _
  go_wp2_with fail
  refine (KeI.implPskOk s l w HS.out).mono ?_
  rintro e y ⟨rfl, rfl⟩
  cases h0 : pskOk l.length with
  | false =>
    obtain rfl : R = [] := by rw [← HRD.out]; exact finK_no h0
    go_wp2
    go_ret
    exact nil_ans (Below.refl _ _)
  | true =>
    have HL : Hid (l.length ≤ 32) := (pskOk_iff.1 h0).2
    obtain rfl : R = derI (hmacI (bs roamB) l) (bs finishB) := by rw [← HRD.out]; exact finK_yes h0
    have kc := Lib.run_convert_bytes_const (P := Tryd.prog) w 22 5 #[.int .u8 114, .int .u8 111, .int .u8 97, .int .u8 109] 4 4 Tryd.underlying22 Tryd.underlying5
    obtain ⟨x1, hx1⟩ : ∃ zz, w.alloc (.cells #[.int .u8 114, .int .u8 111, .int .u8 97, .int .u8 109] 5 (4, 5)) = zz := ⟨_, rfl⟩
    have HW : Hid (w.alloc (.cells #[.int .u8 114, .int .u8 111, .int .u8 97, .int .u8 109] 5 (4, 5)) = x1) := hx1
    have b : Below w.heap.size w x1 := by rw [← hx1]; exact (Below.refl _ _).alloc (Nat.le_refl _) _
    have RR : Hid (Rd x1 (some ⟨w.heap.size, 0, none⟩) (bs roamB)) := by rw [← hx1]; exact roam_rd w
    clear hx1
    go_wp2_with fail
    rw [HW.out]
    clear HW kc
    have L1 : Hid (w.heap.size ≤ x1.heap.size) := b.size
    have B1 : Hid (Below w.heap.size w x1) := B0.out.trans (b.mono B0.out.size)
    clear b B0
    refine (KdfI.implExtract (some ⟨w.heap.size, 0, none⟩) 4 4 s.a s.n s.c (bs roamB) l x1 (HT.out.later B1.out) (by rw [bs_roam]; rfl) HN.out RR.out (HS.out.later B1.out).rd (by intro e; cases e) HS.out.nil (bs_bytes _) HS.out.bytes (by omega) (by have := HN.out; have := HL.out; omega)).mono ?_
    rintro e x2 ⟨g1, m1, c1, rfl, em, kg, rr, b⟩
    have oN : SOwn x2 x1.heap.size x2.heap.size ⟨some ⟨g1, 0, none⟩, m1, c1⟩ (hmacI (bs roamB) l) := SOwn.row rr em (hmacI_bytes _ _) kg rr.lt
    have HM1 : Hid (m1 ≤ 32) := by rw [em]; exact hmacI_le _ _
    clear em kg rr RR
    have L2 : Hid (x1.heap.size ≤ x2.heap.size) := b.size
    have B2 : Hid (Below w.heap.size w x2) := B1.out.trans (b.mono B1.out.size)
    clear b B1
    have O1_2 : Hid (SOwn x2 x1.heap.size x2.heap.size ⟨some ⟨g1, 0, none⟩, m1, c1⟩ (hmacI (bs roamB) l)) := oN
    clear oN
    go_wp2_with fail
    refine (KdfI.implDerive (some ⟨g1, 0, none⟩) m1 c1 (hmacI (bs roamB) l) finishB x2 (HT.out.later B2.out) O1_2.out.len O1_2.out.rd.rd (by intro e; cases e) (hmacI_bytes _ _) (by have := HM1.out; omega) (by decide)).mono ?_
    rintro e x3 ⟨g2, m2, c2, rfl, em, kg, rr, b⟩
    have oN : SOwn x3 x2.heap.size x3.heap.size ⟨some ⟨g2, 0, none⟩, m2, c2⟩ (derI (hmacI (bs roamB) l) (bs finishB)) := SOwn.row rr em (derI_bytes _ _) kg rr.lt
    clear em kg rr
    have L3 : Hid (x2.heap.size ≤ x3.heap.size) := b.size
    have B3 : Hid (Below w.heap.size w x3) := B2.out.trans (b.mono B2.out.size)
    have O1_3 : Hid (SOwn x3 x1.heap.size x2.heap.size ⟨some ⟨g1, 0, none⟩, m1, c1⟩ (hmacI (bs roamB) l)) := O1_2.out.later b
    clear b B2 O1_2
    have O2_3 : Hid (SOwn x3 x2.heap.size x3.heap.size ⟨some ⟨g2, 0, none⟩, m2, c2⟩ (derI (hmacI (bs roamB) l) (bs finishB))) := oN
    clear oN
    go_wp2
    go_ret
    exact ⟨⟨some ⟨g2, 0, none⟩, m2, c2⟩, rfl, O2_3.out.mono (by have := L1.out; have := L2.out; have := L3.out; have := B3.out.size; omega) (Nat.le_refl _), B3.out⟩

set_option maxRecDepth 100000 in
set_option maxHeartbeats 8000000 in
theorem implRootKey (q c s : Sl) (l cn sn : List Int) (w : World) (hT : Tab w) (hq : SRd w q l) (hc : SRd w c cn) (hs : SRd w s sn) :
    Calls Tryd.prog 15 #[.slice q.a q.n q.c, .slice c.a c.n c.c, .slice s.a s.n s.c] w (AnsB (rootK l cn sn) w) := by
  have HQ : Hid (SRd w q l) := hq
  have HNQ : Hid (q.n = l.length) := hq.len
  have HC : Hid (SRd w c cn) := hc
  have HNC : Hid (c.n = cn.length) := hc.len
  have HS : Hid (SRd w s sn) := hs
  have HNS : Hid (s.n = sn.length) := hs.len
  have HZQ : Hid (q.a = none → q.c = 0) := hq.nil
  obtain ⟨R, hR⟩ : ∃ R, rootK l cn sn = R := ⟨_, rfl⟩
  have HRD : Hid (rootK l cn sn = R) := hR
  rw [hR]
  clear hq hc hs hR
  have HT : Hid (Tab w) := hT
  clear hT
  go_enter Tryd.func15, Tryd.ntmps15
  have B0 : Hid (Below w.heap.size w w) := Below.refl _ _
  go_wp2_with fail
  refine (KeI.implPskOk q l w HQ.out).mono ?_
  rintro e y ⟨rfl, rfl⟩
  cases h0 : (pskOk l.length) with
  | false =>
    obtain rfl : R = [] := by rw [← HRD.out]; exact rootK_no (by have e1 := HNC.out; have e2 := HNS.out; unfold rootF; rw [← e1, ← e2]; simp only [h0]; rfl)
    go_wp2
    go_ret
    exact nil_ans (Below.refl _ _)
  | true =>
    go_wp2_with fail
    refine (FrW.isNonce c.a c.n c.c w).mono ?_
    rintro e y ⟨rfl, rfl⟩
    cases h1 : ((c.n : Int) == 12) with
    | false =>
      obtain rfl : R = [] := by rw [← HRD.out]; exact rootK_no (by have e1 := HNC.out; have e2 := HNS.out; unfold rootF; rw [← e1, ← e2, h0, h1]; rfl)
      go_wp2
      go_ret
      exact nil_ans (Below.refl _ _)
    | true =>
      go_wp2_with fail
      refine (FrW.isNonce s.a s.n s.c w).mono ?_
      rintro e y ⟨rfl, rfl⟩
      cases h2 : ((s.n : Int) == 12) with
      | false =>
        obtain rfl : R = [] := by rw [← HRD.out]; exact rootK_no (by have e1 := HNC.out; have e2 := HNS.out; unfold rootF; rw [← e1, ← e2, h0, h1, h2]; rfl)
        go_wp2
        go_ret
        exact nil_ans (Below.refl _ _)
      | true =>
        have HF : Hid (rootF l.length cn.length sn.length = true) := by have e1 := HNC.out; have e2 := HNS.out; show rootF _ _ _ = true; unfold rootF; rw [← e1, ← e2, h0, h1, h2]; rfl
        have HP := rootF_parts HF.out
        have HL : Hid (l.length ≤ 32 ∧ cn.length = 12 ∧ sn.length = 12) := ⟨HP.1.2, HP.2.1, HP.2.2⟩
        have HQE : Hid (hmacI [cn, sn].flatten l = R) := by show _ = _; rw [← HRD.out, rootK_yes HF.out]; simp
        have HFL : Hid ([cn, sn].flatten.length = 24) := by show _ = _; have := HL.out; simp; omega
        have HFB : Hid (Bytes [cn, sn].flatten) := fun z hz => app_bytes HC.out.bytes HS.out.bytes z (by simpa using hz)
        clear HP h0 h1 h2
        have P2 : Hid (Parts (w.alloc (.cells #[.slice c.a c.n c.c, .slice s.a s.n s.c] 22)) w.heap.size [c, s] [cn, sn]) := Parts.of (Blk.new w _ _) ⟨HC.out.later ((Below.refl _ _).alloc (Nat.le_refl _) _), HS.out.later ((Below.refl _ _).alloc (Nat.le_refl _) _), trivial⟩
        have A1 : Hid (Below w.heap.size w (w.alloc (.cells #[.slice c.a c.n c.c, .slice s.a s.n s.c] 22))) := ((Below.refl _ _).alloc (Nat.le_refl _) _)
        go_wp2_with fail
        refine (laid w.heap.size 2 [c, s] [cn, sn] 2 (w.alloc (.cells #[.slice c.a c.n c.c, .slice s.a s.n s.c] 22)) rfl P2.out (by rw [HFL.out]; omega) (by omega)).mono ?_
        rintro e y1 ⟨g1, m1, c1, rfl, em, kg, rr, b⟩
        have R1 : Hid (Row y1 g1 c1 [cn, sn].flatten) := rr
        have E1 : Hid (m1 = [cn, sn].flatten.length) := em
        have A2 : Hid (Below w.heap.size w y1) := A1.out.trans (b.mono A1.out.size)
        clear em kg rr b P2 A1
        go_wp2_with fail
        refine (KdfI.implExtract (some ⟨g1, 0, none⟩) m1 c1 q.a q.n q.c [cn, sn].flatten l y1 (HT.out.later A2.out) E1.out HNQ.out R1.out.rd (HQ.out.later A2.out).rd (by intro e; cases e) HZQ.out HFB.out HQ.out.bytes (by rw [E1.out, HFL.out]; omega) (by have := HNQ.out; have := HL.out; omega)).mono ?_
        rw [HQE.out]
        rintro e y4 ⟨g4, m4, c4, rfl, em, kg, rr, b⟩
        have E4 : Hid (m4 = R.length) := em
        have R4 : Hid (Row y4 g4 c4 R) := rr
        have G4 : Hid (w.heap.size ≤ g4) := Nat.le_trans A2.out.size kg
        have B4_ : Hid (Below w.heap.size w y4) := A2.out.trans (b.mono A2.out.size)
        have HRB : Hid (Bytes R) := by rw [← HRD.out]; exact rootK_bytes _ _ _
        clear em kg rr b
        go_wp2
        go_ret
        exact ⟨⟨some ⟨g4, 0, none⟩, m4, c4⟩, rfl, SOwn.row R4.out E4.out HRB.out G4.out R4.out.lt, B4_.out⟩

set_option maxRecDepth 100000 in
theorem isKey (a : Option Addr) (n c : Nat) (w : World) :
    Calls Tryd.prog 34 #[.slice a n c] w fun e w' => e = .returned (.bool ((n : Int) == 32)) ∧ w = w' := by
  go_enter Tryd.func34, Tryd.ntmps34
  go_wp2
  go_ret
  exact ⟨by simp, rfl⟩
set_option maxRecDepth 100000 in
set_option maxHeartbeats 8000000 in
theorem implFirstKey (s : Sl) (l : List Int) (w : World) (hT : Tab w) (h : SRd w s l) :
    Calls Tryd.prog 14 #[.slice s.a s.n s.c] w (AnsB (firstK l) w) := by
  have HS : Hid (SRd w s l) := h
  have HN : Hid (s.n = l.length) := h.len
  obtain ⟨R, hR⟩ : ∃ R, firstK l = R := ⟨_, rfl⟩
  have HRD : Hid (firstK l = R) := hR
  rw [hR]
  clear h hR
  have HT : Hid (Tab w) := hT
  clear hT
  go_enter Tryd.func14, Tryd.ntmps14
  have B0 : Hid (Below w.heap.size w w) := Below.refl _ _
  go_wp2_with fail
  refine (isKey s.a s.n s.c w).mono ?_
  rintro e y ⟨rfl, rfl⟩
  cases h0 : ((s.n : Int) == 32) with
  | false =>
    have hne : ((s.n : Int) != 32) = true := by simpa using h0
    obtain rfl : R = [] := by rw [← HRD.out]; exact firstK_no (by rw [← HN.out]; exact h0)
    go_wp2
    go_ret
    exact nil_ans (Below.refl _ _)
  | true =>
    have hne : ((s.n : Int) != 32) = false := by simpa using h0
    have HL : Hid (s.n = 32) := by show _ = _; simp at h0; omega
    obtain rfl : R = derI l (bs epochB) := by rw [← HRD.out]; exact firstK_yes (by rw [← HN.out]; exact h0)
    go_wp2_with fail
    refine (KdfI.implDerive s.a s.n s.c l epochB w (HT.out.later B0.out) HN.out (HS.out.later B0.out).rd HS.out.nil HS.out.bytes (by have := HL.out; omega) (by decide)).mono ?_
    rintro e x1 ⟨g1, m1, c1, rfl, em, kg, rr, b⟩
    have oN : SOwn x1 w.heap.size x1.heap.size ⟨some ⟨g1, 0, none⟩, m1, c1⟩ (derI l (bs epochB)) := SOwn.row rr em (derI_bytes _ _) kg rr.lt
    clear em kg rr
    have L1 : Hid (w.heap.size ≤ x1.heap.size) := b.size
    have B1 : Hid (Below w.heap.size w x1) := B0.out.trans (b.mono B0.out.size)
    clear b B0
    have O1_1 : Hid (SOwn x1 w.heap.size x1.heap.size ⟨some ⟨g1, 0, none⟩, m1, c1⟩ (derI l (bs epochB))) := oN
    clear oN
    go_wp2
    go_ret
    exact ⟨⟨some ⟨g1, 0, none⟩, m1, c1⟩, rfl, O1_1.out.mono (by have := L1.out; have := B1.out.size; omega) (Nat.le_refl _), B1.out⟩

set_option maxRecDepth 100000 in
set_option maxHeartbeats 8000000 in
theorem implEpochKey (q c s : Sl) (l cn sn : List Int) (n : Int) (w : World) (hT : Tab w) (hq : SRd w q l) (hc : SRd w c cn) (hs : SRd w s sn) :
    Calls Tryd.prog 11 #[.slice q.a q.n q.c, .slice c.a c.n c.c, .slice s.a s.n s.c, .int .i64 n] w (AnsB (epochK l cn sn n) w) := by
  have HQ : Hid (SRd w q l) := hq
  have HC : Hid (SRd w c cn) := hc
  have HS : Hid (SRd w s sn) := hs
  obtain ⟨R, hR⟩ : ∃ R, epochK l cn sn n = R := ⟨_, rfl⟩
  have HRD : Hid (epochK l cn sn n = R) := hR
  obtain ⟨F, hF⟩ : ∃ F, firstK (rootK l cn sn) = F := ⟨_, rfl⟩
  have HF : Hid (firstK (rootK l cn sn) = F) := hF
  have HFL : Hid (F.length ≤ 32) := by rw [← hF]; exact firstK_le _
  have HFB : Hid (Bytes F) := by rw [← hF]; exact firstK_bytes _
  rw [hR]
  clear hq hc hs hR hF
  have HT : Hid (Tab w) := hT
  clear hT
  go_enter Tryd.func11, Tryd.ntmps11
  have B0 : Hid (Below w.heap.size w w) := Below.refl _ _
  go_wp2_with fail
  refine (implRootKey q c s l cn sn w (HT.out.later B0.out) HQ.out HC.out HS.out).mono ?_
  unfold AnsB
  rintro e x1 ⟨T, rfl, o, b⟩
  have L1 : Hid (w.heap.size ≤ x1.heap.size) := b.size
  have B1 : Hid (Below w.heap.size w x1) := B0.out.trans (b.mono B0.out.size)
  clear b B0
  have OT1 : Hid (SOwn x1 w.heap.size x1.heap.size T (rootK l cn sn)) := o
  clear o
  go_wp2_with fail
  refine (implFirstKey T (rootK l cn sn) x1 (HT.out.later B1.out) OT1.out.rd).mono ?_
  unfold AnsB
  rw [HF.out]
  rintro e x2 ⟨U, rfl, o, b⟩
  have L2 : Hid (x1.heap.size ≤ x2.heap.size) := b.size
  have B2 : Hid (Below w.heap.size w x2) := B1.out.trans (b.mono B1.out.size)
  have OT2 : Hid (SOwn x2 w.heap.size x1.heap.size T (rootK l cn sn)) := OT1.out.later b
  clear b B1 OT1
  have OU2 : Hid (SOwn x2 x1.heap.size x2.heap.size U F) := o
  clear o
  have HUN : Hid (U.n = F.length) := OU2.out.len
  cases h0 : ((U.n : Int) == 0) with
  | true =>
    have HF0 : Hid (F = []) := by have := HUN.out; simp at h0; exact List.eq_nil_of_length_eq_zero (by omega)
    obtain rfl : R = [] := by rw [← HRD.out]; exact epochK_no (by rw [HF.out]; exact HF0.out)
    go_wp2
    go_ret
    exact nil_ans B2.out
  | false =>
    have HCH : Hid (chnI F n = R) := by show _ = _; rw [← HRD.out, epochK_yes (by rw [HF.out]; have := HUN.out; simp at h0; omega), HF.out]
    go_wp2_with fail
    refine (KdfI.implChain U.a U.n U.c F n x2 (HT.out.later B2.out) HUN.out OU2.out.rd.rd OU2.out.rd.nil HFB.out (by have := HUN.out; have := HFL.out; omega)).mono ?_
    rintro e x3 ⟨g1, m1, c1, rfl, em, kg, rr, b⟩
    have oN : SOwn x3 x2.heap.size x3.heap.size ⟨some ⟨g1, 0, none⟩, m1, c1⟩ (chnI F n) := SOwn.row rr em (chnI_bytes _ HFB.out _) kg rr.lt
    clear em kg rr
    have L3 : Hid (x2.heap.size ≤ x3.heap.size) := b.size
    have B3 : Hid (Below w.heap.size w x3) := B2.out.trans (b.mono B2.out.size)
    have OT3 : Hid (SOwn x3 w.heap.size x1.heap.size T (rootK l cn sn)) := OT2.out.later b
    have OU3 : Hid (SOwn x3 x1.heap.size x2.heap.size U F) := OU2.out.later b
    clear b B2 OT2 OU2
    have O1_3 : Hid (SOwn x3 x2.heap.size x3.heap.size ⟨some ⟨g1, 0, none⟩, m1, c1⟩ (chnI F n)) := oN
    clear oN
    have OR : SOwn x3 x2.heap.size x3.heap.size ⟨some ⟨g1, 0, none⟩, m1, c1⟩ R := by rw [← HCH.out]; exact O1_3.out
    have LB : w.heap.size ≤ x2.heap.size := by have := L1.out; have := L2.out; have := L3.out; omega
    go_wp2
    go_ret
    exact ⟨⟨some ⟨g1, 0, none⟩, m1, c1⟩, rfl, OR.mono LB (Nat.le_refl _), B3.out⟩

set_option maxRecDepth 100000 in
set_option maxHeartbeats 8000000 in
theorem implProof (q : Sl) (l : List Int) (id : Int) (c s : Sl) (cn sn : List Int) (tick : Int) (k : Sl) (ck : List Int) (w : World) (hT : Tab w) (hq : SRd w q l) (hc : SRd w c cn) (hs : SRd w s sn) (hk : SRd w k ck) :
    Calls Tryd.prog 27 #[.slice q.a q.n q.c, .int .i64 id, .slice c.a c.n c.c, .slice s.a s.n s.c, .int .i64 tick, .slice k.a k.n k.c] w (AnsB (proofK l id cn sn tick ck) w) := by
  have HQ : Hid (SRd w q l) := hq
  have HC : Hid (SRd w c cn) := hc
  have HS : Hid (SRd w s sn) := hs
  have HK : Hid (SRd w k ck) := hk
  obtain ⟨R, hR⟩ : ∃ R, proofK l id cn sn tick ck = R := ⟨_, rfl⟩
  have HRD : Hid (proofK l id cn sn tick ck = R) := hR
  obtain ⟨F, hF⟩ : ∃ F, finK l = F := ⟨_, rfl⟩
  have HF : Hid (finK l = F) := hF
  obtain ⟨M, hM⟩ : ∃ M, proofL id cn sn tick ck = M := ⟨_, rfl⟩
  have HM : Hid (proofL id cn sn tick ck = M) := hM
  rw [hR]
  clear hq hc hs hk hR hF hM
  have HT : Hid (Tab w) := hT
  clear hT
  go_enter Tryd.func27, Tryd.ntmps27
  have B0 : Hid (Below w.heap.size w w) := Below.refl _ _
  go_wp2_with fail
  refine (implFinishKey q l w (HT.out.later B0.out) HQ.out).mono ?_
  unfold AnsB
  rw [HF.out]
  rintro e x1 ⟨T, rfl, o, b⟩
  have L1 : Hid (w.heap.size ≤ x1.heap.size) := b.size
  have B1 : Hid (Below w.heap.size w x1) := B0.out.trans (b.mono B0.out.size)
  clear b B0
  have OT1 : Hid (SOwn x1 w.heap.size x1.heap.size T F) := o
  clear o
  go_wp2_with fail
  refine (KeI.implProofBody id c s cn sn tick k ck x1 (HC.out.later B1.out) (HS.out.later B1.out) (HK.out.later B1.out)).mono ?_
  unfold AnsB
  rw [HM.out]
  rintro e x2 ⟨U, rfl, o, b⟩
  have L2 : Hid (x1.heap.size ≤ x2.heap.size) := b.size
  have B2 : Hid (Below w.heap.size w x2) := B1.out.trans (b.mono B1.out.size)
  have OT2 : Hid (SOwn x2 w.heap.size x1.heap.size T F) := OT1.out.later b
  clear b B1 OT1
  have OU2 : Hid (SOwn x2 x1.heap.size x2.heap.size U M) := o
  clear o
  cases h0 : pskOk l.length with
  | false =>
    obtain rfl : R = [] := by rw [← HRD.out]; exact proofK_no (by unfold proofB; rw [h0]; rfl)
    have hz : ((T.n : Int) == 0) = true := by have q := OT2.out.len; rw [← HF.out, finK_no h0] at q; simp at q; simp [q]
    go_wp2
    go_ret
    exact nil_ans B2.out
  | true =>
    have HTN : Hid (T.n = 32) := by have q := OT2.out.len; rw [← HF.out, finK_len h0] at q; exact q
    have hz : ((T.n : Int) == 0) = false := by have := HTN.out; simp; omega
    cases h1 : proofF id cn.length sn.length tick ck.length with
    | false =>
      obtain rfl : R = [] := by rw [← HRD.out]; exact proofK_no (by unfold proofB; rw [h0, h1]; rfl)
      have hu : ((U.n : Int) == 0) = true := by have q := OU2.out.len; rw [← HM.out, proofL_no h1] at q; simp at q; simp [q]
      go_wp2
      go_ret
      exact nil_ans B2.out
    | true =>
      have HUN : Hid (U.n = 46) := by have q := OU2.out.len; rw [← HM.out, proofL_len h1] at q; exact q
      have hu : ((U.n : Int) == 0) = false := by have := HUN.out; simp; omega
      have HTG : Hid (tagI F M = R) := by show _ = _; rw [← HRD.out, ← HF.out, ← HM.out]; exact (proofK_yes (by unfold proofB; rw [h0, h1]; rfl)).symm
      have HLF : Hid (F.length = 32 ∧ M.length = 46) := by have q := OT2.out.len; have q2 := OU2.out.len; have := HTN.out; have := HUN.out; exact ⟨by omega, by omega⟩
      go_wp2_with fail
      refine (tagN T U F M x2 (HT.out.later B2.out) OT2.out.rd OU2.out.rd (by have := HLF.out; omega) (by have := HLF.out; omega)).mono ?_
      unfold AnsB
      rw [HTG.out]
      rintro e x3 ⟨V, rfl, o, b⟩
      have LO : w.heap.size ≤ x2.heap.size := B2.out.size
      have L3 : Hid (x2.heap.size ≤ x3.heap.size) := b.size
      have B3 : Hid (Below w.heap.size w x3) := B2.out.trans (b.mono B2.out.size)
      have OT3 : Hid (SOwn x3 w.heap.size x1.heap.size T F) := OT2.out.later b
      have OU3 : Hid (SOwn x3 x1.heap.size x2.heap.size U M) := OU2.out.later b
      clear b B2 OT2 OU2
      go_wp2
      go_ret
      exact ⟨V, rfl, o.mono LO (Nat.le_refl _), B3.out⟩
end Go.Proofs.YtpenhliaelhnoaaDoor.KeJ

namespace Go.Proofs.YtpenhliaelhnoaaDoor.KeS
open Go.RowKit Go.Proofs.YtpenhliaelhnoaaDoor.Mem Go.Proofs.YtpenhliaelhnoaaDoor.App Go.Proofs.YtpenhliaelhnoaaDoor.Blk Go.Proofs.YtpenhliaelhnoaaDoor.Words Go.Proofs.YtpenhliaelhnoaaDoor.Zone Go.Proofs.YtpenhliaelhnoaaDoor.Res Go.Proofs.YtpenhliaelhnoaaDoor.KeP Go.Proofs.YtpenhliaelhnoaaDoor.Shp

set_option maxRecDepth 100000 in
theorem nil_ans {w x : World} (b : Below w.heap.size w x) : AnsB [] w (.returned (.slice (some ⟨x.heap.size, 0, none⟩) 0 0)) (x.alloc (.cells #[] 5)) :=
  ⟨⟨some ⟨x.heap.size, 0, none⟩, 0, 0⟩, rfl, SOwn.row (row_new x [] (by simp)) rfl (fun z hz => by cases hz) b.size (by rw [World.size_alloc]; exact Nat.lt_succ_self _), b.alloc b.size _⟩

set_option maxRecDepth 100000 in
theorem specPskOk (s : Sl) (l : List Int) (w : World) (h : SRd w s l) :
    Calls Tryd.prog 39 #[.slice s.a s.n s.c] w fun e w' => e = .returned (.bool (pskOk l.length)) ∧ w = w' := by
  have HN : Hid (s.n = l.length) := h.len
  clear h
  go_enter Tryd.func39, Tryd.ntmps39
  go_wp2_with fail
  refine (Words.l1In (s.n : Int) 1 32 w).mono ?_
  rintro e y ⟨rfl, rfl⟩
  go_wp2
  go_ret
  exact ⟨by rw [← HN.out]; rfl, rfl⟩
set_option maxRecDepth 100000 in
theorem specPskOkB (s : Sl) (l : List Int) (w : World) (h : SRd w s l) :
    Calls Tryd.prog 39 #[.slice s.a s.n s.c] w fun e w' => e = .returned (.bool (pskOk l.length)) ∧ Below w.heap.size w w' :=
  (specPskOk s l w h).mono fun _ _ h => ⟨h.1, h.2 ▸ Below.refl _ _⟩

set_option maxRecDepth 100000 in
set_option maxHeartbeats 8000000 in
theorem specProofBody (id : Int) (c s : Sl) (cn sn : List Int) (tick : Int) (k : Sl) (ck : List Int) (w : World) (hc : SRd w c cn) (hs : SRd w s sn) (hk : SRd w k ck) :
    Calls Tryd.prog 42 #[.int .i64 id, .slice c.a c.n c.c, .slice s.a s.n s.c, .int .i64 tick, .slice k.a k.n k.c] w (AnsB (proofL id cn sn tick ck) w) := by
  have HC : Hid (SRd w c cn) := hc
  have HNC : Hid (c.n = cn.length) := hc.len
  have HZC : Hid (c.a = none → c.c = 0) := hc.nil
  have HS : Hid (SRd w s sn) := hs
  have HNS : Hid (s.n = sn.length) := hs.len
  have HZS : Hid (s.a = none → s.c = 0) := hs.nil
  have HK : Hid (SRd w k ck) := hk
  have HNK : Hid (k.n = ck.length) := hk.len
  have HZK : Hid (k.a = none → k.c = 0) := hk.nil
  obtain ⟨R, hR⟩ : ∃ R, proofL id cn sn tick ck = R := ⟨_, rfl⟩
  have HRD : Hid (proofL id cn sn tick ck = R) := hR
  rw [hR]
  clear hc hs hk hR
  obtain ⟨ca, cN, cc⟩ := c
  obtain ⟨sa, sN, sc⟩ := s
  obtain ⟨ka, kN, kc⟩ := k
  go_enter Tryd.func42, Tryd.ntmps42
  have B0 : Hid (Below w.heap.size w w) := Below.refl _ _
  go_wp2_with fail
  refine (Words.l1In id 1 9 w).mono ?_
  rintro e y ⟨rfl, rfl⟩
  cases h0 : (isIn id 1 9) with
  | false =>
    obtain rfl : R = [] := by rw [← HRD.out]; exact proofL_no (by have e1 := HNC.out; have e2 := HNS.out; have e3 := HNK.out; unfold proofF; rw [← e1, ← e2, ← e3]; simp [h0])
    go_wp2
    go_ret
    exact nil_ans B0.out
  | true =>
    cases h1 : ((cN : Int) == 12) with
    | false =>
      have hne : ((cN : Int) != 12) = true := by simpa using h1
      obtain rfl : R = [] := by rw [← HRD.out]; exact proofL_no (by have e1 := HNC.out; have e2 := HNS.out; have e3 := HNK.out; unfold proofF; rw [← e1, ← e2, ← e3]; simp [h0, h1])
      go_wp2
      go_ret
      exact nil_ans B0.out
    | true =>
      have hne1 : ((cN : Int) != 12) = false := by simpa using h1
      cases h2 : ((sN : Int) == 12) with
      | false =>
        have hne : ((sN : Int) != 12) = true := by simpa using h2
        obtain rfl : R = [] := by rw [← HRD.out]; exact proofL_no (by have e1 := HNC.out; have e2 := HNS.out; have e3 := HNK.out; unfold proofF; rw [← e1, ← e2, ← e3]; simp [h0, h1, h2])
        go_wp2
        go_ret
        exact nil_ans B0.out
      | true =>
        have hne2 : ((sN : Int) != 12) = false := by simpa using h2
        go_wp2_with fail
        refine (Words.l1In tick 0 1000000 w).mono ?_
        rintro e y ⟨rfl, rfl⟩
        cases h3 : (isIn tick 0 1000000) with
        | false =>
          obtain rfl : R = [] := by rw [← HRD.out]; exact proofL_no (by have e1 := HNC.out; have e2 := HNS.out; have e3 := HNK.out; unfold proofF; rw [← e1, ← e2, ← e3]; simp [h0, h1, h2, h3])
          go_wp2
          go_ret
          exact nil_ans B0.out
        | true =>
          cases h4 : ((kN : Int) == 16) with
          | false =>
            have hne : ((kN : Int) != 16) = true := by simpa using h4
            obtain rfl : R = [] := by rw [← HRD.out]; exact proofL_no (by have e1 := HNC.out; have e2 := HNS.out; have e3 := HNK.out; unfold proofF; rw [← e1, ← e2, ← e3]; simp [h0, h1, h2, h3, h4])
            go_wp2
            go_ret
            exact nil_ans B0.out
          | true =>
            have hne4 : ((kN : Int) != 16) = false := by simpa using h4
            have HF : Hid (proofF id cn.length sn.length tick ck.length = true) := by have e1 := HNC.out; have e2 := HNS.out; have e3 := HNK.out; show proofF _ _ _ _ _ = true; unfold proofF; rw [← e1, ← e2, ← e3]; simp [h0, h1, h2, h3, h4]
            have HP := proofF_parts HF.out
            have HL : Hid (cn.length = 12 ∧ sn.length = 12 ∧ ck.length = 16) := ⟨HP.2.1, HP.2.2.1, HP.2.2.2.2⟩
            have HI : Hid (1 ≤ id ∧ id ≤ 9) := HP.1
            have HQ : Hid ([102, id] ++ cn ++ sn ++ putN tick 4 ++ ck = R) := by show _ = _; rw [← HRD.out, proofL_yes HF.out]
            have hw8 : IntKind.u8.wrap id = id := by rw [IntKind.wrap_u8']; have := HI.out; omega
            clear HP h0 h1 h2 h3 h4
            have A1 : Hid (Below w.heap.size w (w.alloc (.cells #[.int .u8 102, .int .u8 id] 5))) := (Below.refl _ _).alloc (Nat.le_refl _) _
            have Q1 : Hid (Row (w.alloc (.cells #[.int .u8 102, .int .u8 id] 5)) w.heap.size 2 [102, id]) := row_new w [102, id] (by simp [maxLen])
            go_wp2_with (first | (at_builtin; refine wpList_app _ rfl (.tmp 38) (.tmp 39) rfl w.heap.size w.heap.size 2 2 ([102, id]) (cn) rfl rfl Q1.out (Nat.le_refl _) ca cN cc rfl HNC.out ((HC.out.rd).later A1.out (Nat.le_refl _)) HZC.out (by rw [HL.out.1]; simp) ?_; intro g2 c2 y2 rr bb ll gr; have R2 : Hid (Row y2 g2 c2 ([102, id] ++ cn)) := rr; have G2 : Hid (w.heap.size ≤ g2) := bb; have B2_ : Hid (Below w.heap.size w y2) := A1.out.grown gr A1.out.size (fun k h => by cases h; exact (Nat.le_refl _)); clear rr bb ll gr) | (at_builtin; refine wpList_app _ rfl (.tmp 40) (.tmp 41) rfl w.heap.size g2 (2 + cN) c2 ([102, id] ++ cn) (sn) rfl (by rw [List.length_append, HNC.out]; rfl) R2.out G2.out sa sN sc rfl HNS.out ((HS.out.rd).later B2_.out (Nat.le_refl _)) HZS.out (by rw [List.length_append, HL.out.1, HL.out.2.1]; simp) ?_; intro g3 c3 y3 rr bb ll gr; have R3 : Hid (Row y3 g3 c3 ([102, id] ++ cn ++ sn)) := rr; have G3 : Hid (w.heap.size ≤ g3) := bb; have B3_ : Hid (Below w.heap.size w y3) := B2_.out.grown gr B2_.out.size (fun k h => by cases h; exact G2.out); clear rr bb ll gr))
            refine (specPutN (some ⟨g3, 0, none⟩) (2 + cN + sN) c3 ([102, id] ++ cn ++ sn) tick 4 y3 (by have e1 := HNC.out; have e2 := HNS.out; rw [List.length_append, List.length_append, ← e1, ← e2]; rfl) R3.out.rd (by intro e; cases e) (by rw [List.length_append, List.length_append, HL.out.1, HL.out.2.1]; simp)).mono ?_
            rintro e y4 ⟨g4, m4, c4, rfl, em, kg, rr, b⟩
            have E4 : Hid (m4 = ([102, id] ++ cn ++ sn ++ putN tick 4).length) := em
            have R4 : Hid (Row y4 g4 c4 ([102, id] ++ cn ++ sn ++ putN tick 4)) := rr
            have G4 : Hid (w.heap.size ≤ g4) := Nat.le_trans B3_.out.size kg
            have B4_ : Hid (Below w.heap.size w y4) := B3_.out.trans (b.mono B3_.out.size)
            have L4 : Hid (([102, id] ++ cn ++ sn ++ putN tick 4).length = 30) := by show _ = _; rw [List.length_append, List.length_append, List.length_append, putN4_len, HL.out.1, HL.out.2.1]; rfl
            obtain rfl : 30 = m4 := by rw [em, L4.out]
            clear em kg rr b
            go_wp2_with (at_builtin; refine wpList_app _ rfl (.tmp 45) (.tmp 46) rfl w.heap.size g4 30 c4 ([102, id] ++ cn ++ sn ++ putN tick 4) (ck) rfl E4.out R4.out G4.out ka kN kc rfl HNK.out ((HK.out.rd).later B4_.out (Nat.le_refl _)) HZK.out (by rw [L4.out, HL.out.2.2]; simp) ?_; intro g5 c5 y5 rr bb ll gr; have R5 : Hid (Row y5 g5 c5 ([102, id] ++ cn ++ sn ++ putN tick 4 ++ ck)) := rr; have G5 : Hid (w.heap.size ≤ g5) := bb; have B5_ : Hid (Below w.heap.size w y5) := B4_.out.grown gr B4_.out.size (fun k h => by cases h; exact G4.out); clear rr bb ll gr)
            have R6 : Hid (Row y5 g5 c5 R) := by rw [← HQ.out]; exact R5.out
            have E6 : Hid (30 + kN = R.length) := by rw [← HQ.out]; show _ = _; rw [List.length_append, L4.out, HNK.out]
            have HRB : Hid (Bytes R) := by rw [← HRD.out]; exact proofL_bytes HC.out.bytes HS.out.bytes HK.out.bytes
            go_ret
            exact ⟨⟨some ⟨g5, 0, none⟩, 30 + kN, c5⟩, by simp, SOwn.row R6.out E6.out HRB.out G5.out R6.out.lt, B5_.out⟩
end Go.Proofs.YtpenhliaelhnoaaDoor.KeS
