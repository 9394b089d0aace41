/-
  What impl's Extract, Expand, Derive and Chain answer, where the table of round words holds what the program's text lays into it.
-/
import Derived.Test.YtpenhliaelhnoaaDoorKdfB
import Derived.Test.YtpenhliaelhnoaaDoorStr
namespace Go.Proofs.YtpenhliaelhnoaaDoor.KdfI
open Go.RowKit Go.Proofs.YtpenhliaelhnoaaDoor.Mem Go.Proofs.YtpenhliaelhnoaaDoor.App Go.Proofs.YtpenhliaelhnoaaDoor.Blk Go.Proofs.YtpenhliaelhnoaaDoor.Pads Go.Proofs.YtpenhliaelhnoaaDoor.ShaP Go.Proofs.YtpenhliaelhnoaaDoor.Comp Go.Proofs.YtpenhliaelhnoaaDoor.MacP Go.Proofs.YtpenhliaelhnoaaDoor.MacI Go.Proofs.YtpenhliaelhnoaaDoor.KdfP Go.Proofs.YtpenhliaelhnoaaDoor.KdfB Go.Proofs.YtpenhliaelhnoaaDoor.Str

set_option maxRecDepth 100000 in
theorem implExtract (a0 : Option Addr) (n0 c0 : Nat) (a1 : Option Addr) (n1 c1 : Nat) (k b : List Int) (w : World) (hT : Tab w) (e0 : n0 = k.length) (e1 : n1 = b.length) (r0 : Rd w a0 k) (r1 : Rd w a1 b) (na0 : a0 = none → c0 = 0) (na1 : a1 = none → c1 = 0) (hb0 : Bytes k) (hb1 : Bytes b) (l0 : n0 ≤ 2097152) (l1 : n1 ≤ 2097152) :
    Calls Tryd.prog 36 #[.slice a0 n0 c0, .slice a1 n1 c1] w fun e w' =>
      ∃ g m c, e = .returned (.slice (some ⟨g, 0, none⟩) m c) ∧ m = (hmacI k b).length ∧ w.heap.size ≤ g ∧ Row w' g c (hmacI k b) ∧ Below w.heap.size w w' := by
  have HN0 : Hid (n0 = k.length) := e0
  have HN1 : Hid (n1 = b.length) := e1
  have HT : Hid (Tab w) := hT
  clear e0 e1 hT
  go_enter Tryd.func36, Tryd.ntmps36
  go_wp2_with fail
  refine (implHmac a0 n0 c0 a1 n1 c1 k b w HT.out HN0.out HN1.out r0 r1 na0 na1 hb0 hb1 l0 l1).mono ?_
  rintro e w1 ⟨g, m, c, rfl, em, k1, r1, b1⟩
  have EM : Hid (m = (hmacI k b).length) := em
  clear em
  go_wp2
  go_ret
  exact ⟨g, m, c, rfl, EM.out, k1, r1, b1⟩


set_option maxRecDepth 100000 in
theorem canExpand (a0 : Option Addr) (n0 c0 : Nat) (a1 : Option Addr) (n1 c1 : Nat) (k f : List Int) (n : Int) (w : World) (e0 : n0 = k.length) (e1 : n1 = f.length) :
    Calls Tryd.prog 51 #[.slice a0 n0 c0, .slice a1 n1 c1, .int .i64 n] w fun e w' => e = .returned (.bool (mayExp k f n)) ∧ w = w' := by
  by_cases h1 : 0 ≤ n
  · by_cases h2 : n ≤ 8160
    · by_cases h3 : n1 ≤ 100
      · have h3I : (n1 : Int) ≤ 100 := by omega
        have H : Hid (mayExp k f n = isLen (n0 : Int)) := by
          show _ = _
          unfold mayExp isLen
          rw [← e0, ← e1]
          apply decide_eq_decide.2
          omega
        clear e0 e1
        go_enter Tryd.func51, Tryd.ntmps51
        go_wp2_with fail
        refine (isShaLength _ _).mono ?_
        rintro e w1 ⟨rfl, rfl⟩
        go_wp2
        go_ret
        exact ⟨by rw [H.out]; simp, rfl⟩
      · have h3I : ¬ ((n1 : Int) ≤ 100) := by omega
        have H : Hid (mayExp k f n = false) := by
          show _ = _
          unfold mayExp
          rw [← e1]
          exact decide_eq_false (by omega)
        clear e0 e1
        go_enter Tryd.func51, Tryd.ntmps51
        go_wp2
        go_ret
        exact ⟨by rw [H.out]; simp, rfl⟩
    · have H : Hid (mayExp k f n = false) := by
        show _ = _
        unfold mayExp
        exact decide_eq_false (by omega)
      clear e0 e1
      go_enter Tryd.func51, Tryd.ntmps51
      go_wp2
      go_ret
      exact ⟨by rw [H.out]; simp, rfl⟩
  · have H : Hid (mayExp k f n = false) := by
      show _ = _
      unfold mayExp
      exact decide_eq_false (by omega)
    clear e0 e1
    go_enter Tryd.func51, Tryd.ntmps51
    go_wp2
    go_ret
    exact ⟨by rw [H.out]; simp, rfl⟩

set_option maxRecDepth 100000 in
theorem keyI_full (k : List Int) (h : k.length = 64) : keyI k = k := by
  have hs : short k = k := by unfold short; rw [if_pos (by omega)]
  unfold keyI; rw [if_pos (by omega), hs, h]; simp
set_option maxRecDepth 100000 in
/-- The block of a key is as good as the key. -/
theorem hmacI_key (k b : List Int) (h : k.length ≤ 1048576) : hmacI (keyI k) b = hmacI k b := by
  have e := keyI_full _ (keyI_len k h)
  have e2 := keyI_len k h
  unfold hmacI
  by_cases hb : b.length ≤ 1048512
  · rw [if_pos ⟨by omega, hb⟩, if_pos ⟨h, hb⟩, e]
  · rw [if_neg (fun x => hb x.2), if_neg (fun x => hb x.2)]
/-- A slice's length. -/
def lenOf : Value → Nat
  | .slice _ n _ => n
  | _ => 0

set_option maxRecDepth 100000 in
set_option maxHeartbeats 4000000 in
theorem implExpand (a0 : Option Addr) (n0 c0 : Nat) (a1 : Option Addr) (n1 c1 : Nat) (k f : List Int) (n : Int) (w : World) (hT : Tab w) (e0 : n0 = k.length) (e1 : n1 = f.length) (r0 : Rd w a0 k) (r1 : Rd w a1 f) (na0 : a0 = none → c0 = 0) (na1 : a1 = none → c1 = 0) (hb0 : Bytes k) (hb1 : Bytes f) (l0 : n0 ≤ 2097152) (_l1 : n1 ≤ 2097152) :
    Calls Tryd.prog 38 #[.slice a0 n0 c0, .slice a1 n1 c1, .int .i64 n] w fun e w' =>
      ∃ g m c, e = .returned (.tuple #[.slice (some ⟨g, 0, none⟩) m c, .bool (mayExp k f n)]) ∧ m = (expI k f n).length ∧ w.heap.size ≤ g ∧ Row w' g c (expI k f n) ∧ Below w.heap.size w w' := by
  have HT : Hid (Tab w) := hT
  have HN0 : Hid (n0 = k.length) := e0
  have HN1 : Hid (n1 = f.length) := e1
  have HR0 : Hid (Rd w a0 k) := r0
  have HR1 : Hid (Rd w a1 f) := r1
  have HB0 : Hid (Bytes k) := hb0
  have HB1 : Hid (Bytes f) := hb1
  have HC : Hid (Calls Tryd.prog 51 #[.slice a0 n0 c0, .slice a1 n1 c1, .int .i64 n] w fun e w' => e = .returned (.bool (mayExp k f n)) ∧ w = w') := canExpand a0 n0 c0 a1 n1 c1 k f n w e0 e1
  clear hT e0 e1 r0 r1 hb0 hb1
  cases hm : mayExp k f n with
  | false =>
    have HE : Hid (expI k f n = []) := expI_no k f n hm
    have A0 : Hid (Below w.heap.size w (w.alloc (.cells #[] 5))) := (Below.refl _ _).alloc (Nat.le_refl _) _
    have R0 : Hid (Row (w.alloc (.cells #[] 5)) w.heap.size 0 []) := row_new w [] (by simp)
    rw [hm] at HC
    clear hm
    go_enter Tryd.func38, Tryd.ntmps38
    go_wp2_with fail
    refine HC.out.mono ?_
    rintro e w1 ⟨rfl, rfl⟩
    go_wp2
    go_ret2
    exact ⟨w.heap.size, 0, 0, by simp, by rw [HE.out]; rfl, Nat.le_refl _, by rw [HE.out]; exact R0.out, A0.out⟩
  | true =>
    obtain ⟨h0, h1, h2, h3⟩ := (mayExp_iff k f n).1 hm
    obtain ⟨N, rfl⟩ := Int.eq_ofNat_of_zero_le h0
    obtain ⟨i0, hi, hz0, hz1, hz2⟩ := info_parts info8
    have HE : Hid (expI k f (N : Int) = (blks k f ((N + 31) / 32)).take N) := by show _ = _; rw [expI_yes k f _ hm, Int.toNat_natCast]
    have HEL : Hid (N = (expI k f (N : Int)).length) := (expI_len k f N hm).symm
    have HK3 : Hid (k.length ≤ 1048576) := h3
    have HF2 : Hid (f.length ≤ 100) := h2
    have hN : N ≤ 8160 := by omega
    have hn1 : n1 ≤ 1000 := by rw [HN1.out]; omega
    have HKL : Hid ((keyI k).length = 64) := keyI_len k h3
    have HKB : Hid (Bytes (keyI k)) := keyI_bytes k HB0.out
    rw [hm] at HC
    clear hm h0 h1 h2 h3
    go_enter Tryd.func38, Tryd.ntmps38
    go_wp2_with fail
    refine HC.out.mono ?_
    rintro e w1 ⟨rfl, rfl⟩
    go_wp2_with fail
    refine (implBlockKey a0 n0 c0 k w HT.out HN0.out HR0.out na0 HB0.out l0).mono ?_
    rintro e w1 ⟨gk, mk, ck, rfl, em, k1, r1, b1⟩
    obtain rfl : 64 = mk := by rw [em, HKL.out]
    have RK1 : Hid (Rd w1 (some ⟨gk, 0, none⟩) (keyI k)) := r1.rd
    have B1 : Hid (Below w.heap.size w w1) := b1
    have HT1 : Hid (Tab w1) := HT.out.later b1
    have RF1 : Hid (Rd w1 a1 f) := HR1.out.later b1 (Nat.le_refl _)
    clear em k1 r1 b1
    go_wp2_with fail
    refine (expandedBlocks (some ⟨gk, 0, none⟩) 64 ck a1 n1 c1 w1).mono ?_
    rintro e w2 ⟨qn, qk, qa, qf, ga, rfl, kn, kk, ka, kf, rg, s1, s2, s3, s4, s5, d1, d2, d3, d4, d5, d6, d7, b2⟩
    have KN : Hid (Blk w2 qn 5 [.int .u8 0]) := kn
    have KK : Hid (Blk w2 qk 22 [.slice (some ⟨gk, 0, none⟩) 64 ck]) := kk
    have KA : Hid (Blk w2 qa 22 [.slice (some ⟨ga, 0, none⟩) 0 0]) := ka
    have KF : Hid (Blk w2 qf 22 [.slice a1 n1 c1]) := kf
    have RG : Hid (Row w2 ga 0 []) := rg
    have B2 : Hid (Below w1.heap.size w1 w2) := b2
    have D1 : Hid (qn ≠ qk ∧ qn ≠ qa ∧ qn ≠ qf ∧ qn ≠ ga ∧ qa ≠ qk ∧ qa ≠ qf ∧ qa ≠ ga) := ⟨d1, d2, d3, d4, d5, d6, d7⟩
    have S1 : Hid (w1.heap.size ≤ qn ∧ w1.heap.size ≤ qa) := ⟨s1, s3⟩
    clear kn kk ka kf rg b2 d1 d2 d3 d4 d5 d6 d7 s1 s2 s3 s4 s5
    unfold nexter
    go_wp2_with (at_make; refine wpList_make_own _ rfl _ _ 22 rfl w1.heap.size 5 i0 (.int .u8 0) 1 Tryd.underlying22 hi hz0 hz1 _ _ _ N rfl rfl (by omega) (by rw [hz2]; omega) (by unfold maxLen; omega) B2.out.size ?_; intro w3 hown hgr; have B3 : Hid (Below w2.heap.size w2 w3) := (Below.refl _ _).grown hgr (Nat.le_refl _) (fun k h => by cases h); have R3 : Hid (Row w3 w2.heap.size N []) := (Row.of (l := []) hown).1; clear hown hgr)
    have B13 : Hid (Below w1.heap.size w1 w3) := B2.out.trans (B3.out.mono B2.out.size)
    have O2 : Hid (w1.heap.size ≤ w2.heap.size) := B2.out.size
    have NQ : Hid (qn < w2.heap.size ∧ qk < w2.heap.size ∧ qa < w2.heap.size ∧ qf < w2.heap.size) := ⟨KN.out.lt, KK.out.lt, KA.out.lt, KF.out.lt⟩
    obtain ⟨go, hgo⟩ : ∃ go, w2.heap.size = go := ⟨_, rfl⟩
    rw [hgo]
    rw [hgo] at R3 O2 NQ
    have G3 : Hid (go < w3.heap.size) := R3.out.lt
    go_loopw [9, 10] (fun v _ wr => ∃ q gb mb cb no : Nat, q ≤ 255 ∧ no = min (32 * q) N ∧ 32 * q < N + 32 ∧ v = .slice (some ⟨go, 0, none⟩) no N ∧ mb = (blk k f q).length ∧ qn ≠ gb ∧ qa ≠ gb ∧ go ≠ gb ∧ go < wr.heap.size ∧ Row wr go N ((blks k f q).take N) ∧ Row wr gb cb (blk k f q) ∧ Blk wr qn 5 [.int .u8 (q : Int)] ∧ Blk wr qk 22 [.slice (some ⟨gk, 0, none⟩) 64 ck] ∧ Blk wr qa 22 [.slice (some ⟨gb, 0, none⟩) mb cb] ∧ Blk wr qf 22 [.slice a1 n1 c1] ∧ Below w1.heap.size w1 wr)
      (fun v _ _ => N - lenOf v)
    case atStart => exact ⟨0, ga, 0, 0, 0, by omega, by omega, by omega, rfl, rfl, D1.out.2.2.2.1, D1.out.2.2.2.2.2.2, Nat.ne_of_gt (hgo ▸ RG.out.lt), G3.out, (by show Row _ _ _ (List.take N []); rw [List.take_nil]; exact R3.out), RG.out.later B3.out, KN.out.later B3.out, KK.out.later B3.out, KA.out.later B3.out, KF.out.later B3.out, B13.out⟩
    case round =>
      obtain ⟨q, gb, mb, cb, no, hq, eno, hqN, rfl, emb, x1, x2, x3, x4, y1, y2, y3, y4, y5, y6, y7⟩ := hrel
      have RO : Hid (Row wr go N ((blks k f q).take N)) := y1
      have RB : Hid (Row wr gb cb (blk k f q)) := y2
      have KNr : Hid (Blk wr qn 5 [.int .u8 (q : Int)]) := y3
      have KKr : Hid (Blk wr qk 22 [.slice (some ⟨gk, 0, none⟩) 64 ck]) := y4
      have KAr : Hid (Blk wr qa 22 [.slice (some ⟨gb, 0, none⟩) mb cb]) := y5
      have KFr : Hid (Blk wr qf 22 [.slice a1 n1 c1]) := y6
      have Br : Hid (Below w1.heap.size w1 wr) := y7
      have EMB : Hid (mb = (blk k f q).length) := emb
      have ENO : Hid (no = min (32 * q) N) := eno
      have XS : Hid (qn ≠ gb ∧ qa ≠ gb ∧ go ≠ gb) := ⟨x1, x2, x3⟩
      have hmb : mb ≤ 32 := by rw [emb]; exact blk_le k f q
      have hnoN : no ≤ N := by omega
      clear y1 y2 y3 y4 y5 y6 y7 emb x1 x2 x3 R3 B3 B13 G3 KN KK KA KF RG
      by_cases hlt : no < N
      · have hltI : (no : Int) < (N : Int) := by omega
        have hno : 32 * q = no := by omega
        have HNO : Hid (32 * q = no) := hno
        have hq' : q ≤ 254 := by omega
        have HBK : Hid (blk k f (q + 1) = hmacI (keyI k) (blk k f q ++ f ++ [(q : Int) + 1])) := by
          show _ = _
          rw [hmacI_key k _ HK3.out]
          show hmacI k (blk k f q ++ f ++ [((q + 1 : Nat) : Int) % 256]) = _
          rw [show ((q + 1 : Nat) : Int) % 256 = (q : Int) + 1 by omega]
        have H32 : Hid ((blk k f (q + 1)).length = 32) := blk_len k f HK3.out HF2.out q
        have HBL : Hid ((blks k f q).length = no) := by show _ = _; rw [blks_len k f HK3.out HF2.out q, hno]
        have HO1 : Hid ((blks k f q).take N = blks k f q) := by show _ = _; rw [List.take_of_length_le (by rw [HBL.out]; omega)]
        obtain ⟨r, hr⟩ : ∃ r, N - no = r := ⟨_, rfl⟩
        obtain ⟨p, hp⟩ : ∃ p, min 32 r = p := ⟨_, rfl⟩
        have HP : Hid ((blks k f (q + 1)).take N = blks k f q ++ (blk k f (q + 1)).take p) := by
          show (blks k f q ++ blk k f (q + 1)).take N = _
          rw [List.take_append, HBL.out, List.take_of_length_le (by rw [HBL.out]; omega)]
          congr 1
          rw [hr]
          by_cases h : r ≤ 32
          · rw [show p = r by omega]
          · rw [List.take_of_length_le (by rw [H32.out]; omega), List.take_of_length_le (by rw [H32.out]; omega)]
        have hpI : (if (N : Int) - (no : Int) < 32 then (N : Int) - (no : Int) else 32) = (p : Int) := by split <;> omega
        have hwr : IntKind.i64.wrap ((N : Int) - (no : Int)) = (N : Int) - (no : Int) := by rw [IntKind.wrap_i64]; omega
        have HPL : Hid (p = ((blk k f (q + 1)).take p).length) := by show _ = _; rw [List.length_take, H32.out]; omega
        have hp32 : p ≤ 32 := by omega
        have hp0 : 0 < p := by omega
        have hpN : no + p ≤ N := by omega
        have HPN : Hid (no + p = min (32 * (q + 1)) N) := by show _ = _; omega
        have HQ1 : Hid (32 * (q + 1) < N + 32) := by show _ < _; omega
        clear hno eno hqN hr hp
        go_wp2_with fail
        refine (nextBlock qn qk qa qf (some ⟨gk, 0, none⟩) 64 ck a1 n1 c1 gb mb cb (q : Int) (keyI k) (blk k f q) f w1 wr HT1.out KNr.out KKr.out KAr.out KFr.out RB.out D1.out.1 D1.out.2.1 D1.out.2.2.1 XS.out.1 S1.out.1 S1.out.2 Br.out HKL.out.symm HN1.out EMB.out RK1.out RF1.out (by intro e; cases e) na1 HKB.out HB1.out (blk_bytes k f q) (by omega) hn1 hmb (by omega) (by omega)).mono ?_
        rw [← HBK.out]
        rintro e w4 ⟨g4, m4, c4, rfl, e4, k4, r4, kn4, ka4, kb4, b4⟩
        obtain rfl : 32 = m4 := by rw [e4, H32.out]
        have hc4 : 32 ≤ c4 := by have := r4.1; rw [H32.out] at this; exact this
        have i1 : (p : Int) ≤ (c4 : Int) := by omega
        have i0 : (0 : Int) ≤ (p : Int) := by omega
        have RO4 : Hid (Row w4 go N (blks k f q)) := by show Row _ _ _ _; rw [← HO1.out]; exact RO.out.keep (kb4 go x4 (Nat.ne_of_gt NQ.out.1) (Nat.ne_of_gt NQ.out.2.2.1))
        have RB4 : Hid (Row w4 g4 c4 (blk k f (q + 1))) := r4
        have KN4 : Hid (Blk w4 qn 5 [.int .u8 ((q : Int) + 1)]) := kn4
        have KK4 : Hid (Blk w4 qk 22 [.slice (some ⟨gk, 0, none⟩) 64 ck]) := KKr.out.keep (kb4 qk KKr.out.lt (Ne.symm D1.out.1) (Ne.symm D1.out.2.2.2.2.1))
        have KA4 : Hid (Blk w4 qa 22 [.slice (some ⟨g4, 0, none⟩) 32 c4]) := ka4
        have KF4 : Hid (Blk w4 qf 22 [.slice a1 n1 c1]) := KFr.out.keep (kb4 qf KFr.out.lt (Ne.symm D1.out.2.2.1) (Ne.symm D1.out.2.2.2.2.2.1))
        have B4 : Hid (Below w1.heap.size w1 w4) := b4
        have N4 : Hid (go ≠ g4) := Nat.ne_of_lt (Nat.lt_of_lt_of_le x4 k4)
        have N4n : Hid (qn ≠ g4) := Nat.ne_of_lt (Nat.lt_of_lt_of_le KNr.out.lt k4)
        have N4a : Hid (qa ≠ g4) := Nat.ne_of_lt (Nat.lt_of_lt_of_le KAr.out.lt k4)
        have RT4 : Hid (Rd w4 (some ⟨g4, 0, none⟩) ((blk k f (q + 1)).take p)) := by
          have h1 := r4.rd
          intro i hi
          rw [List.length_take] at hi
          obtain ⟨b', off, e, hb', hh⟩ := h1 i (by omega)
          refine ⟨b', off, e, hb', ?_⟩
          rw [hh]
          have : i < p := by omega
          simp [List.getD, this]
        have GK : Hid (w1.heap.size ≤ go) := O2.out
        clear e4 k4 r4 kn4 ka4 kb4 b4 x4 RO RB KNr KKr KAr KFr Br XS EMB ENO
        go_wp2_with (at_builtin; refine wpList_fit _ rfl (.tmp 29) (.tmp 38) rfl go no N (blks k f q) ((blk k f (q + 1)).take p) rfl HBL.out.symm RO4.out (some ⟨g4, 0, none⟩) p c4 rfl HPL.out RT4.out (by intro e; cases e) (by rw [HBL.out, ← HPL.out]; omega) ?_; intro w5 r5 gr5; have R5 : Hid (Row w5 go N ((blks k f (q + 1)).take N)) := HP.out ▸ r5; have kp5 : Hid (∀ i, i < w4.heap.size → go ≠ i → w5.heap[i]? = w4.heap[i]?) := (fun i h1 h2 => gr5.block i h1 (by simp only [ne_eq, Option.some.injEq]; exact Ne.symm h2)); have B5 : Hid (Below w1.heap.size w1 w5) := B4.out.grown gr5 B4.out.size (fun k h => by cases h; exact GK.out); clear r5 gr5)
        go_roundw
        case rel => exact ⟨q + 1, g4, 32, c4, no + p, by omega, HPN.out, HQ1.out, rfl, H32.out.symm, N4n.out, N4a.out, N4.out, R5.out.lt, R5.out, RB4.out.keep (kp5.out g4 RB4.out.lt N4.out), KN4.out.keep (kp5.out qn KN4.out.lt (Nat.ne_of_gt NQ.out.1)), KK4.out.keep (kp5.out qk KK4.out.lt (Nat.ne_of_gt NQ.out.2.1)), KA4.out.keep (kp5.out qa KA4.out.lt (Nat.ne_of_gt NQ.out.2.2.1)), KF4.out.keep (kp5.out qf KF4.out.lt (Nat.ne_of_gt NQ.out.2.2.2)), B5.out⟩
        case measure => simp [lenOf]; omega
      · obtain rfl : N = no := by omega
        have HQ : Hid ((N + 31) / 32 = q) := by show _ = _; omega
        have HLT : ¬ ((N : Int) < (N : Int)) := by omega
        clear eno hqN ENO
        go_wp2
        go_ret2
        exact ⟨go, N, N, rfl, HEL.out, Nat.le_trans B1.out.size O2.out, by rw [HE.out, HQ.out]; exact RO.out, B1.out.trans (Br.out.mono B1.out.size)⟩

set_option maxRecDepth 100000 in
set_option maxHeartbeats 800000 in
theorem implDerive (a0 : Option Addr) (n0 c0 : Nat) (k : List Int) (t : ByteArray) (w : World) (hT : Tab w) (e0 : n0 = k.length) (r0 : Rd w a0 k) (na0 : a0 = none → c0 = 0) (hb0 : Bytes k) (l0 : n0 ≤ 2097152) (l1 : t.size ≤ 2097152) :
    Calls Tryd.prog 17 #[.slice a0 n0 c0, .string t] w fun e w' =>
      ∃ g m c, e = .returned (.slice (some ⟨g, 0, none⟩) m c) ∧ m = (derI k (bs t)).length ∧ w.heap.size ≤ g ∧ Row w' g c (derI k (bs t)) ∧ Below w.heap.size w w' := by
  have HN0 : Hid (n0 = k.length) := e0
  have HR0 : Hid (Rd w a0 k) := r0
  have HB0 : Hid (Bytes k) := hb0
  have HT : Hid (Tab w) := hT
  clear e0 r0 hb0 hT
  obtain ⟨W, cB, hrun, rdW, beW⟩ := bytes_made w t
  have RW : Hid (Rd W (some ⟨w.heap.size, 0, none⟩) (bs t)) := rdW
  have BW : Hid (Below w.heap.size w W) := beW
  clear rdW beW
  go_enter Tryd.func17, Tryd.ntmps17
  go_wp2_with fail
  refine (implExpand a0 n0 c0 (some ⟨w.heap.size, 0, none⟩) t.size cB k (bs t) 32 W (HT.out.later BW.out) HN0.out (bs_length t).symm (HR0.out.later BW.out (Nat.le_refl _)) RW.out na0 (by intro e; cases e) HB0.out (bs_bytes t) l0 l1).mono ?_
  rintro e w1 ⟨g, m, c, rfl, em, k1, r1, b1⟩
  have EM : Hid (m = (derI k (bs t)).length) := em
  have K1 : Hid (w.heap.size ≤ g) := Nat.le_trans BW.out.size k1
  have R1 : Hid (Row w1 g c (derI k (bs t))) := r1
  have B1 : Hid (Below w.heap.size w w1) := BW.out.trans (b1.mono BW.out.size)
  clear em k1 r1 b1
  go_wp2
  go_ret
  exact ⟨g, m, c, rfl, EM.out, K1.out, R1.out, B1.out⟩

set_option maxRecDepth 100000 in
set_option maxHeartbeats 1600000 in
theorem implChain (a0 : Option Addr) (n0 c0 : Nat) (k : List Int) (n : Int) (w : World) (hT : Tab w) (e0 : n0 = k.length) (r0 : Rd w a0 k) (na0 : a0 = none → c0 = 0) (hb0 : Bytes k) (l0 : n0 ≤ 1048576) :
    Calls Tryd.prog 32 #[.slice a0 n0 c0, .int .i64 n] w fun e w' =>
      ∃ g m c, e = .returned (.slice (some ⟨g, 0, none⟩) m c) ∧ m = (chnI k n).length ∧ w.heap.size ≤ g ∧ Row w' g c (chnI k n) ∧ Below w.heap.size w w' := by
  have HT : Hid (Tab w) := hT
  have HN0 : Hid (n0 = k.length) := e0
  have HR0 : Hid (Rd w a0 k) := r0
  have HB0 : Hid (Bytes k) := hb0
  clear hT e0 r0 hb0
  by_cases h1 : 0 ≤ n ∧ n ≤ 64
  · obtain ⟨N, rfl⟩ := Int.eq_ofNat_of_zero_le h1.1
    have hN : N ≤ 64 := by omega
    have q1 : ¬ ((N : Int) < 0) := by omega
    have q2 : ¬ ((N : Int) > 64) := by omega
    have HC : Hid (chnI k (N : Int) = chn k N) := by show _ = _; unfold chnI; rw [if_pos h1, Int.toNat_natCast]
    clear h1
    go_enter Tryd.func32, Tryd.ntmps32
    go_wp2_with fail
    refine (putBytes a0 none n0 c0 0 0 k [] w HN0.out rfl HR0.out (by intro i hi; cases hi) na0 (by intro e; rfl) (by rw [← HN0.out]; omega) (by simp)).mono ?_
    rintro e w1 ⟨rfl, r1, b1⟩
    have R1 : Hid (Row w1 w.heap.size n0 (chn k 0)) := (List.append_nil k) ▸ r1
    have B1 : Hid (Below w.heap.size w w1) := b1
    clear r1 b1
    rw [Nat.add_zero]
    go_wp2
    go_loopw [5, 16] (fun v i wr => ∃ q g m c : Nat, q ≤ N ∧ i = .int .i64 q ∧ v = .slice (some ⟨g, 0, none⟩) m c ∧ m = (chn k q).length ∧ w.heap.size ≤ g ∧ Row wr g c (chn k q) ∧ Below w.heap.size w wr)
      (fun _ i _ => N - (intOf i).toNat)
    case atStart => exact ⟨0, w.heap.size, n0, n0, by omega, rfl, rfl, HN0.out, Nat.le_refl _, R1.out, B1.out⟩
    case round =>
      obtain ⟨q, g, m, c, hq, rfl, rfl, em, hg, hR, hbe⟩ := hrel
      have EM : Hid (m = (chn k q).length) := em
      have HR : Hid (Row wr g c (chn k q)) := hR
      have HBe : Hid (Below w.heap.size w wr) := hbe
      have hm : m ≤ 2097152 := by have := chn_le k q; rw [← em, ← HN0.out] at this; omega
      clear R1 B1 em hR hbe
      by_cases hlt : q < N
      · have hltI : (q : Int) < (N : Int) := by omega
        have HY : Hid (Bytes (chn k q)) := chn_bytes k HB0.out q
        have HT' : Hid (derI (chn k q) (bs ⟨#[114, 101, 107, 101, 121]⟩) = chn k (q + 1)) := rfl
        go_wp2_with fail
        refine (implDerive (some ⟨g, 0, none⟩) m c (chn k q) ⟨#[114, 101, 107, 101, 121]⟩ wr (HT.out.later HBe.out) EM.out HR.out.rd (by intro e; cases e) HY.out hm (by decide)).mono ?_
        rw [HT'.out]
        rintro e w2 ⟨g2, m2, c2, rfl, e2, k2, r2, b2⟩
        have E2 : Hid (m2 = (chn k (q + 1)).length) := e2
        have K2 : Hid (w.heap.size ≤ g2) := Nat.le_trans HBe.out.size k2
        have R2 : Hid (Row w2 g2 c2 (chn k (q + 1))) := r2
        have B2 : Hid (Below w.heap.size w w2) := HBe.out.trans (b2.mono HBe.out.size)
        clear e2 k2 r2 b2
        go_wp2
        go_roundw
        case rel => exact ⟨q + 1, g2, m2, c2, by omega, by go_num, rfl, E2.out, K2.out, R2.out, B2.out⟩
        case measure => simp [intOf]; omega
      · obtain rfl : q = N := by omega
        go_wp2
        go_ret
        exact ⟨g, m, c, rfl, by rw [HC.out]; exact EM.out, hg, by rw [HC.out]; exact HR.out, HBe.out⟩
  · have HC : Hid (chnI k n = []) := by show _ = _; unfold chnI; rw [if_neg h1]
    have A0 : Hid (Below w.heap.size w (w.alloc (.cells #[] 5))) := (Below.refl _ _).alloc (Nat.le_refl _) _
    have R0 : Hid (Row (w.alloc (.cells #[] 5)) w.heap.size 0 []) := row_new w [] (by simp)
    by_cases q1 : n < 0
    · clear h1
      go_enter Tryd.func32, Tryd.ntmps32
      go_wp2
      go_ret
      exact ⟨w.heap.size, 0, 0, by simp, by rw [HC.out]; rfl, Nat.le_refl _, by rw [HC.out]; exact R0.out, A0.out⟩
    · have q2 : n > 64 := by omega
      clear h1
      go_enter Tryd.func32, Tryd.ntmps32
      go_wp2
      go_ret
      exact ⟨w.heap.size, 0, 0, by simp, by rw [HC.out]; rfl, Nat.le_refl _, by rw [HC.out]; exact R0.out, A0.out⟩
end Go.Proofs.YtpenhliaelhnoaaDoor.KdfI
