/-
  What spec's Extract, Expand, Derive and Chain answer.
  What spec's FinishKey, RootKey, FirstKey, EpochKey and Proof answer.
-/
import Derived.Test.YtpenhliaelhnoaaGreatDoorVaGz5
import Derived.Test.YtpenhliaelhnoaaGreatDoorVaGz17
import Derived.Test.YtpenhliaelhnoaaGreatDoorVaGz3
import Derived.Test.YtpenhliaelhnoaaGreatDoorVaGz7
import Derived.Test.YtpenhliaelhnoaaGreatDoorVaGz6
import Derived.Lib.SlBytesConst
set_option linter.unusedVariables false
set_option maxRecDepth 100000
namespace Go.Proofs.YtpenhliaelhnoaaGreatDoor.KdfS
open Go.RowKit Mem App AppAt ShaP Words MacP MacS KdfP Str

theorem specExtract (a0 : Option Addr) (n0 c0 : Nat) (a1 : Option Addr) (n1 c1 : Nat) (k b : List Int) (w : World) (e0 : n0 = k.length) (e1 : n1 = b.length) (r0 : Rd w a0 k) (r1 : Rd w a1 b) (na0 : a0 = none → c0 = 0) (na1 : a1 = none → c1 = 0) (hb0 : Bytes k) (hb1 : Bytes b) (l0 : n0 ≤ 2097152) (l1 : n1 ≤ 2097152) :
  Calls Tryz.prog 76 #[.slice a0 n0 c0, .slice a1 n1 c1] w fun e w' =>
   ∃ g m c, e = .returned (.slice (some ⟨g, 0, none⟩) m c) ∧ m = (hmacI k b).length ∧ w.heap.size ≤ g ∧ Row w' g c (hmacI k b) ∧ Below w.heap.size w w' := by
 have HN0 : Hid (n0 = k.length) := e0
 have HN1 : Hid (n1 = b.length) := e1
 clear e0 e1
 go_enter Tryz.func76, Tryz.ntmps76
 go_wp2_with fail
 refine (specHmac a0 n0 c0 a1 n1 c1 k b w HN0.out HN1.out r0 r1 na0 na1 hb0 hb1 l0 l1).mono ?_
 rintro e w1 ⟨g, m, c, rfl, em, k1, r1, b1⟩
 have EM : Hid (m = (hmacI k b).length) := em
 clear em
 go_wp2
 go_ret
 exact ⟨g, m, c, rfl, EM.out, k1, r1, b1⟩

set_option maxHeartbeats 4000000 in
theorem specExpand (a0 : Option Addr) (n0 c0 : Nat) (a1 : Option Addr) (n1 c1 : Nat) (k f : List Int) (n : Int) (w : World) (e0 : n0 = k.length) (e1 : n1 = f.length) (r0 : Rd w a0 k) (r1 : Rd w a1 f) (na0 : a0 = none → c0 = 0) (na1 : a1 = none → c1 = 0) (hb0 : Bytes k) (hb1 : Bytes f) (l0 : n0 ≤ 2097152) (l1 : n1 ≤ 2097152) :
  Calls Tryz.prog 90 #[.slice a0 n0 c0, .slice a1 n1 c1, .int .i64 n] w fun e w' =>
   ∃ g m c, e = .returned (.tuple #[.slice (some ⟨g, 0, none⟩) m c, .bool (mayExp k f n)]) ∧ m = (expI k f n).length ∧ w.heap.size ≤ g ∧ Row w' g c (expI k f n) ∧ Below w.heap.size w w' := by
 have HN0 : Hid (n0 = k.length) := e0
 have HN1 : Hid (n1 = f.length) := e1
 have HR0 := hid (r0)
 have HR1 := hid (r1)
 have HB0 := hid (hb0)
 have HB1 := hid (hb1)
 clear e0 e1 r0 r1 hb0 hb1
 cases hm : mayExp k f n with
 | false =>
  have HE : Hid (expI k f n = []) := expI_no k f n hm
  have hno : ¬ (0 ≤ n ∧ n ≤ 8160 ∧ n1 ≤ 100 ∧ n0 ≤ 1048576) := by
   intro h; rw [HN0.out, HN1.out] at h; rw [(mayExp_iff k f n).2 h] at hm; cases hm
  have A0 : Hid (Below w.heap.size w (w.alloc (.cells #[] 5))) := (Below.refl _ _).alloc (Nat.le_refl _) _
  have R0 : Hid (Row (w.alloc (.cells #[] 5)) w.heap.size 0 []) := row_new w [] (by simp)
  clear hm
  by_cases h1 : 0 ≤ n ∧ n ≤ 8160
  ·
   have hi : isIn n 0 8160 = true := by simp [isIn]; omega
   by_cases h2 : n1 ≤ 100
   ·
    have q1 : ¬ ((n1 : Int) > 100) := by omega
    have q2 : (n0 : Int) > 1048576 := by omega
    clear hno
    go_enter Tryz.func90, Tryz.ntmps90
    go_wp2_with fail
    refine (l1In n 0 8160 w).mono ?_
    rintro e w1 ⟨rfl, rfl⟩
    rw [hi]
    go_wp2
    go_ret2
    exact ⟨w.heap.size, 0, 0, by simp, by rw [HE.out]; rfl, Nat.le_refl _, by rw [HE.out]; exact R0.out, A0.out⟩
   ·
    have q1 : (n1 : Int) > 100 := by omega
    clear hno
    go_enter Tryz.func90, Tryz.ntmps90
    go_wp2_with fail
    refine (l1In n 0 8160 w).mono ?_
    rintro e w1 ⟨rfl, rfl⟩
    rw [hi]
    go_wp2
    go_ret2
    exact ⟨w.heap.size, 0, 0, by simp, by rw [HE.out]; rfl, Nat.le_refl _, by rw [HE.out]; exact R0.out, A0.out⟩
  ·
   have hi : isIn n 0 8160 = false := by simp [isIn]; omega
   clear hno
   go_enter Tryz.func90, Tryz.ntmps90
   go_wp2_with fail
   refine (l1In n 0 8160 w).mono ?_
   rintro e w1 ⟨rfl, rfl⟩
   rw [hi]
   go_wp2
   go_ret2
   exact ⟨w.heap.size, 0, 0, by simp, by rw [HE.out]; rfl, Nat.le_refl _, by rw [HE.out]; exact R0.out, A0.out⟩
 | true =>
  obtain ⟨h0, h1, h2, h3⟩ := (mayExp_iff k f n).1 hm
  obtain ⟨N, rfl⟩ := Int.eq_ofNat_of_zero_le h0
  have HE : Hid (expI k f (N : Int) = (blks k f ((N + 31) / 32)).take N) := by show _ = _; rw [expI_yes k f _ hm, Int.toNat_natCast]
  have HEL : Hid (N = (expI k f (N : Int)).length) := (expI_len k f N hm).symm
  have HK3 : Hid (k.length ≤ 1048576) := h3
  have HF2 : Hid (f.length ≤ 100) := h2
  have hN : N ≤ 8160 := by omega
  rw [← HN1.out] at h2
  rw [← HN0.out] at h3
  have hi : isIn (N : Int) 0 8160 = true := by simp [isIn]; omega
  have q1 : ¬ ((n1 : Int) > 100) := by omega
  have q2 : ¬ ((n0 : Int) > 1048576) := by omega
  clear hm h0 h1
  obtain ⟨w2, hw2⟩ : ∃ w2, (w.alloc (.cells #[] 5)).alloc (.cells #[] 5) = w2 := ⟨_, rfl⟩
  have HW2 := hid (hw2)
  have RO : Hid (Row w2 w.heap.size 0 (blks k f 0)) := by rw [← hw2]; exact row_alloc (row_new w [] (by simp)) _
  have RT : Hid (Row w2 (w.heap.size + 1) 0 (blk k f 0)) := by
   have := row_new (w.alloc (.cells #[] 5)) [] (by simp)
   rw [show (w.alloc (.cells #[] 5)).heap.size = w.heap.size + 1 by simp] at this
   rw [← hw2]; exact this
  have B2 : Hid (Below w.heap.size w w2) := by rw [← hw2]; exact ((Below.refl _ _).alloc (Nat.le_refl _) _).alloc (by simp) _
  clear hw2
  go_enter Tryz.func90, Tryz.ntmps90
  go_wp2_with fail
  refine (l1In (N : Int) 0 8160 w).mono ?_
  rintro e w1 ⟨rfl, rfl⟩
  rw [hi]
  go_wp2
  rw [HW2.out]
  go_loopw [8, 9, 10] (fun v u i wr => ∃ q go co gt mt ct : Nat, q ≤ 256 ∧ 32 * q < N + 32 ∧ i = .int .i64 ((q : Int) + 1) ∧ v = .slice (some ⟨go, 0, none⟩) (32 * q) co ∧ u = .slice (some ⟨gt, 0, none⟩) mt ct ∧ mt = (blk k f q).length ∧ w.heap.size ≤ go ∧ w.heap.size ≤ gt ∧ go ≠ gt ∧ Row wr go co (blks k f q) ∧ Row wr gt ct (blk k f q) ∧ Below w.heap.size w wr)
   (fun _ _ i _ => 10000 - (intOf i).toNat)
  case atStart => exact ⟨0, w.heap.size, 0, w.heap.size + 1, 0, 0, by omega, by omega, rfl, rfl, rfl, rfl, Nat.le_refl _, by omega, by omega, RO.out, RT.out, B2.out⟩
  case round =>
   obtain ⟨q, go, co, gt, mt, ct, hq, hqN, rfl, rfl, rfl, emt, hgo, hgt, hne, hRo, hRt, hbe⟩ := hrel
   have HRo := hid (hRo)
   have HRt := hid (hRt)
   have HBe := hid (hbe)
   have HNE : Hid (go ≠ gt) := hne
   have EMT : Hid (mt = (blk k f q).length) := emt
   have hmt : mt ≤ 32 := by rw [emt]; exact blk_le k f q
   have HOL : Hid (32 * q = (blks k f q).length) := (blks_len k f HK3.out HF2.out q).symm
   clear RO RT B2 hRo hRt hbe hne emt
   by_cases hlt : 32 * q < N
   ·
    have hltI : ((32 * q : Nat) : Int) < (N : Int) := by omega
    have hwi : IntKind.u8.wrap ((q : Int) + 1) = ((q + 1 : Nat) : Int) % 256 := by rw [IntKind.wrap_u8']; rfl
    have HT1 : Hid (blk k f (q + 1) = hmacI k (blk k f q ++ f ++ [((q + 1 : Nat) : Int) % 256])) := rfl
    have HO1 : Hid (blks k f (q + 1) = blks k f q ++ blk k f (q + 1)) := rfl
    have H32 : Hid ((blk k f (q + 1)).length = 32) := blk_len k f HK3.out HF2.out q
    obtain ⟨x, hx⟩ : ∃ x, ((q + 1 : Nat) : Int) % 256 = x := ⟨_, rfl⟩
    have xb : 0 ≤ x ∧ x ≤ 255 := by omega
    rw [hx] at hwi HT1
    have A1 : Hid (Below wr.heap.size wr (wr.alloc (.cells #[] 5))) := (Below.refl _ _).alloc (Nat.le_refl _) _
    have E1 : Hid (Row (wr.alloc (.cells #[] 5)) wr.heap.size 0 []) := row_new wr [] (by simp)
    have HR1w := hid (HR1.out.later HBe.out (Nat.le_refl _))
    have HR0w := hid (HR0.out.later HBe.out (Nat.le_refl _))
    clear hx
    go_wp2_with (first
     | (at_builtin; refine wpList_app_at _ rfl (.tmp 34) (.tmp 35) rfl wr.heap.size wr.heap.size 0 0 [] (blk k f q) rfl rfl E1.out (Nat.le_refl _) (some ⟨gt, 0, none⟩) mt ct rfl EMT.out (row_alloc HRt.out _).rd (by intro e; cases e) (by rw [← EMT.out, List.length_nil]; omega) ?_; intro g3 c3 w3 r3 k3 l3 gr3; have R3 : Hid (Row w3 g3 c3 (blk k f q)) := (List.nil_append (blk k f q)) ▸ r3; have G3 : Hid (wr.heap.size ≤ g3) := k3; have B3 : Hid (Below wr.heap.size wr w3) := A1.out.grown gr3 A1.out.size (fun k h => by cases h; exact Nat.le_refl _); clear r3 k3 l3 gr3)
     | (at_builtin; refine wpList_app_at _ rfl (.tmp 36) (.tmp 37) rfl wr.heap.size g3 mt c3 (blk k f q) f rfl EMT.out R3.out G3.out a1 n1 c1 rfl HN1.out (HR1w.out.later B3.out (Nat.le_refl _)) na1 (by rw [← EMT.out, ← HN1.out]; omega) ?_; intro g4 c4 w4 r4 k4 l4 gr4; have R4 := hid (r4); have G4 : Hid (wr.heap.size ≤ g4) := k4; have B4 : Hid (Below wr.heap.size wr w4) := B3.out.grown gr4 B3.out.size (fun k h => by cases h; exact G3.out); have L4 : Hid (mt + n1 = (blk k f q ++ f).length) := (by show _ = _; rw [List.length_append, ← EMT.out, ← HN1.out]); clear r4 k4 l4 gr4)
     | (at_builtin; refine wpList_app_at _ rfl (.tmp 38) (.tmp 41) rfl wr.heap.size g4 (mt + n1) c4 (blk k f q ++ f) [x] rfl L4.out (row_alloc R4.out _) G4.out (some ⟨w4.heap.size, 0, none⟩) 1 1 rfl rfl (rd_one w4 x) (by intro e; cases e) (by rw [← L4.out, List.length_singleton]; omega) ?_; intro g5 c5 w5 r5 k5 l5 gr5; have R5 := hid (r5); have B5 : Hid (Below wr.heap.size wr w5) := (B4.out.alloc B4.out.size _).grown gr5 (Below.size (B4.out.alloc B4.out.size _)) (fun k h => by cases h; exact G4.out); clear r5 k5 l5 gr5))
    have L5 : Hid (mt + n1 + 1 = (blk k f q ++ f ++ [x]).length) := by show _ = _; rw [List.length_append, ← L4.out]; rfl
    have Y5 : Hid (Bytes (blk k f q ++ f ++ [x])) := bytes_append (bytes_append (blk_bytes k f q) HB1.out) (fun z hz => by simp at hz; omega)
    refine (specHmac a0 n0 c0 (some ⟨g5, 0, none⟩) (mt + n1 + 1) c5 k (blk k f q ++ f ++ [x]) w5 HN0.out L5.out (HR0w.out.later B5.out (Nat.le_refl _)) R5.out.rd na0 (by intro e; cases e) HB0.out Y5.out l0 (by omega)).mono ?_
    rw [← HT1.out]
    rintro e w6 ⟨g6, m6, c6, rfl, e6, k6, r6, b6⟩
    obtain rfl : m6 = 32 := by rw [e6, H32.out]
    have R6 := hid (r6)
    have B6 := hid (B5.out.trans (b6.mono B5.out.size))
    have G6 : Hid (wr.heap.size ≤ g6) := Nat.le_trans B5.out.size k6
    have RO6 := hid (HRo.out.later B6.out)
    have NE6 : Hid (go ≠ g6) := Nat.ne_of_lt (Nat.lt_of_lt_of_le HRo.out.lt G6.out)
    have BW6 := hid (HBe.out.trans (B6.out.mono HBe.out.size))
    clear e6 k6 r6 b6 R3 R4 R5 B3 B4 B5
    go_wp2_with (at_builtin; refine wpList_app_at _ rfl (.tmp 44) (.tmp 45) rfl w.heap.size go (32 * q) co (blks k f q) (blk k f (q + 1)) rfl HOL.out RO6.out hgo (some ⟨g6, 0, none⟩) 32 c6 rfl H32.out.symm R6.out.rd (by intro e; cases e) (by rw [← HOL.out, H32.out]; omega) ?_; intro g7 c7 w7 r7 k7 l7 gr7; have R7 := hid (r7); have G7 : Hid (w.heap.size ≤ g7) := k7; have RT7 := hid (R6.out.keep (gr7.block g6 R6.out.lt (by simp only [ne_eq, Option.some.injEq]; exact Ne.symm NE6.out))); have NE7 : Hid (g7 ≠ g6) := (by rcases l7 with rfl | h; exact NE6.out; exact Nat.ne_of_gt (Nat.lt_of_lt_of_le R6.out.lt h)); have B7 : Hid (Below w.heap.size w w7) := BW6.out.grown gr7 BW6.out.size (fun k h => by cases h; exact hgo); clear r7 k7 l7 gr7)
    go_roundw
    case rel => exact ⟨q + 1, g7, c7, g6, 32, c6, by omega, by omega, by go_num, by (congr 1), rfl, H32.out.symm, G7.out, Nat.le_trans HBe.out.size G6.out, NE7.out, R7.out, RT7.out, B7.out⟩
    case measure => simp [intOf]; omega
   ·
    have hltI : ¬ (((32 * q : Nat) : Int) < (N : Int)) := by omega
    have hco : 32 * q ≤ co := by have := HRo.out.1; rw [← HOL.out] at this; exact this
    have i1 : (N : Int) ≤ (co : Int) := by omega
    have i0 : (0 : Int) ≤ (N : Int) := by omega
    have HQ : Hid ((N + 31) / 32 = q) := by show _ = _; omega
    have A1 : Hid (Below w.heap.size w (wr.alloc (.cells #[] 5))) := HBe.out.alloc HBe.out.size _
    have E1 : Hid (Row (wr.alloc (.cells #[] 5)) wr.heap.size 0 []) := row_new wr [] (by simp)
    have RX : Hid (Rd (wr.alloc (.cells #[] 5)) (some ⟨go, 0, none⟩) (expI k f (N : Int))) := by
     show Rd _ _ _
     rw [HE.out, HQ.out]
     have h1 := (row_alloc HRo.out (.cells #[] 5)).rd
     intro i hi
     rw [List.length_take] at hi
     obtain ⟨b', off, e, hb', hh⟩ := h1 i (by omega)
     refine ⟨b', off, e, hb', ?_⟩
     rw [hh]
     have : i < N := by omega
     simp [List.getD, this]
    go_wp2_with (at_builtin; refine wpList_app _ rfl (.tmp 47) (.tmp 50) rfl w.heap.size wr.heap.size 0 0 [] (expI k f (N : Int)) rfl rfl E1.out HBe.out.size (some ⟨go, 0, none⟩) N co rfl HEL.out RX.out (by intro e; cases e) (by rw [← HEL.out, List.length_nil]; omega) ?_; intro g8 c8 w8 r8 k8 l8 gr8; have R8 : Hid (Row w8 g8 c8 (expI k f (N : Int))) := (List.nil_append (expI k f (N : Int))) ▸ r8; have G8 : Hid (w.heap.size ≤ g8) := k8; have B8 : Hid (Below w.heap.size w w8) := A1.out.grown gr8 A1.out.size (fun k h => by cases h; exact HBe.out.size); clear r8 k8 l8 gr8)
    go_ret2
    exact ⟨g8, N, c8, rfl, HEL.out, G8.out, R8.out, B8.out⟩

set_option maxHeartbeats 800000 in
theorem specDerive (a0 : Option Addr) (n0 c0 : Nat) (k : List Int) (t : ByteArray) (w : World) (e0 : n0 = k.length) (r0 : Rd w a0 k) (na0 : a0 = none → c0 = 0) (hb0 : Bytes k) (l0 : n0 ≤ 2097152) (l1 : t.size ≤ 2097152) :
  Calls Tryz.prog 75 #[.slice a0 n0 c0, .string t] w fun e w' =>
   ∃ g m c, e = .returned (.slice (some ⟨g, 0, none⟩) m c) ∧ m = (derI k (bs t)).length ∧ w.heap.size ≤ g ∧ Row w' g c (derI k (bs t)) ∧ Below w.heap.size w w' := by
 have HN0 : Hid (n0 = k.length) := e0
 have HR0 := hid (r0)
 have HB0 := hid (hb0)
 clear e0 r0 hb0
 obtain ⟨W, cB, hrun, rdW, beW⟩ := bytes_made w t
 have RW := hid (rdW)
 have BW := hid (beW)
 clear rdW beW
 go_enter Tryz.func75, Tryz.ntmps75
 go_wp2_with fail
 refine (specExpand a0 n0 c0 (some ⟨w.heap.size, 0, none⟩) t.size cB k (bs t) 32 W HN0.out (bs_length t).symm (HR0.out.later BW.out (Nat.le_refl _)) RW.out na0 (by intro e; cases e) HB0.out (bs_bytes t) l0 l1).mono ?_
 rintro e w1 ⟨g, m, c, rfl, em, k1, r1, b1⟩
 have EM : Hid (m = (derI k (bs t)).length) := em
 have K1 : Hid (w.heap.size ≤ g) := Nat.le_trans BW.out.size k1
 have R1 := hid (r1)
 have B1 := hid (BW.out.trans (b1.mono BW.out.size))
 clear em k1 r1 b1
 go_wp2
 go_ret
 exact ⟨g, m, c, rfl, EM.out, K1.out, R1.out, B1.out⟩

end Go.Proofs.YtpenhliaelhnoaaGreatDoor.KdfS

namespace Go.Proofs.YtpenhliaelhnoaaGreatDoor.KeT
open Go.RowKit Mem App Blk Words Zone Res KeP Shp KeQ MacP KdfP Str MacS

theorem nil_ans {w x : World} (b : Below w.heap.size w x) : AnsB [] w (.returned (.slice (some ⟨x.heap.size, 0, none⟩) 0 0)) (x.alloc (.cells #[] 5)) :=
 ⟨⟨some ⟨x.heap.size, 0, none⟩, 0, 0⟩, rfl, SOwn.row (row_new x [] (by simp)) rfl (fun z hz => by cases hz) b.size (by rw [World.size_alloc]; exact Nat.lt_succ_self _), b.alloc b.size _⟩

theorem tagN (k t : Sl) (lk l : List Int) (w : World) (hk : SRd w k lk) (h : SRd w t l) (h1 : lk.length ≤ 2000000) (h2 : l.length ≤ 2000000) :
  Calls Tryz.prog 58 #[.slice k.a k.n k.c, .slice t.a t.n t.c] w (AnsB (tagI lk l) w) := (specTag k.a k.n k.c t.a t.n t.c lk l w hk.len h.len hk.rd h.rd hk.nil h.nil hk.bytes h.bytes (by rw [hk.len]; omega) (by rw [h.len]; omega)).mono fun _ _ h' => AnsB.of (tagI_bytes _ _) h'

theorem roam_rd (x : World) : Rd (x.alloc (.cells #[.int .u8 114, .int .u8 111, .int .u8 97, .int .u8 109] 5 (4, 5))) (some ⟨x.heap.size, 0, none⟩) (bs roamB) := by
 intro i hi
 rw [bs_length] at hi
 refine ⟨x.heap.size, 0, rfl, by rw [World.size_alloc]; exact Nat.lt_succ_self _, ?_⟩
 rw [Nat.zero_add, World.cell?_alloc_mark, bs_roam]
 match i, hi with
 | 0, _ => rfl
 | 1, _ => rfl
 | 2, _ => rfl
 | 3, _ => rfl

set_option maxHeartbeats 8000000 in
theorem specFinishKey (s : Sl) (l : List Int) (w : World) (h : SRd w s l) :
  Calls Tryz.prog 56 #[.slice s.a s.n s.c] w (AnsB (finK l) w) := by
 have HS := hid (h)
 have HN : Hid (s.n = l.length) := h.len
 obtain ⟨R, hR⟩ : ∃ R, finK l = R := ⟨_, rfl⟩
 have HRD : Hid (finK l = R) := hR
 rw [hR]
 clear h hR
 go_enter Tryz.func56, Tryz.ntmps56
 have B0 : Hid (Below w.heap.size w w) := Below.refl _ _
 go_wp2_with fail
 refine (KeS.specPskOk s l w HS.out).mono ?_
 rintro e y ⟨rfl, rfl⟩
 cases h0 : pskOk l.length with
 | false =>
  obtain rfl : R = [] := by rw [← HRD.out]; exact finK_no h0
  go_wp2
  go_ret
  exact nil_ans (Below.refl _ _)
 | true =>
  have HL : Hid (l.length ≤ 32) := (pskOk_iff.1 h0).2
  obtain rfl : R = derI (hmacI (bs roamB) l) (bs finishB) := by rw [← HRD.out]; exact finK_yes h0
  have kc := Lib.run_convert_bytes_const (P := Tryz.prog) w 22 5 #[.int .u8 114, .int .u8 111, .int .u8 97, .int .u8 109] 4 4 Tryz.underlying22 Tryz.underlying5
  obtain ⟨x1, hx1⟩ : ∃ zz, w.alloc (.cells #[.int .u8 114, .int .u8 111, .int .u8 97, .int .u8 109] 5 (4, 5)) = zz := ⟨_, rfl⟩
  have HW := hid (hx1)
  have b : Below w.heap.size w x1 := by rw [← hx1]; exact (Below.refl _ _).alloc (Nat.le_refl _) _
  have RR : Hid (Rd x1 (some ⟨w.heap.size, 0, none⟩) (bs roamB)) := by rw [← hx1]; exact roam_rd w
  clear hx1
  go_wp2_with fail
  rw [HW.out]
  clear HW kc
  have L1 := hid (b.size)
  have B1 := hid (B0.out.trans (b.mono B0.out.size))
  clear b B0
  refine (KdfS.specExtract (some ⟨w.heap.size, 0, none⟩) 4 4 s.a s.n s.c (bs roamB) l x1 (by rw [bs_roam]; rfl) HN.out RR.out (HS.out.later B1.out).rd (by intro e; cases e) HS.out.nil (bs_bytes _) HS.out.bytes (by omega) (by have := hid2 HN HL; omega)).mono ?_
  rintro e x2 ⟨g1, m1, c1, rfl, em, kg, rr, b⟩
  have oN : SOwn x2 x1.heap.size x2.heap.size ⟨some ⟨g1, 0, none⟩, m1, c1⟩ (hmacI (bs roamB) l) := SOwn.row rr em (hmacI_bytes _ _) kg rr.lt
  have HM1 : Hid (m1 ≤ 32) := by rw [em]; exact hmacI_le _ _
  clear em kg rr RR
  have L2 := hid (b.size)
  have B2 := hid (B1.out.trans (b.mono B1.out.size))
  clear b B1
  have O1_2 := hid (oN)
  clear oN
  go_wp2_with fail
  refine (KdfS.specDerive (some ⟨g1, 0, none⟩) m1 c1 (hmacI (bs roamB) l) finishB x2 O1_2.out.len O1_2.out.rd.rd (by intro e; cases e) (hmacI_bytes _ _) (by have := HM1.out; omega) (by decide)).mono ?_
  rintro e x3 ⟨g2, m2, c2, rfl, em, kg, rr, b⟩
  have oN : SOwn x3 x2.heap.size x3.heap.size ⟨some ⟨g2, 0, none⟩, m2, c2⟩ (derI (hmacI (bs roamB) l) (bs finishB)) := SOwn.row rr em (derI_bytes _ _) kg rr.lt
  clear em kg rr
  have L3 := hid (b.size)
  have B3 := hid (B2.out.trans (b.mono B2.out.size))
  have O1_3 := hid (O1_2.out.later b)
  clear b B2 O1_2
  have O2_3 := hid (oN)
  clear oN
  go_wp2
  go_ret
  exact ⟨⟨some ⟨g2, 0, none⟩, m2, c2⟩, rfl, O2_3.out.mono (by have := hid3 L1 L2 L3; have := B3.out.size; omega) (Nat.le_refl _), B3.out⟩

set_option maxHeartbeats 8000000 in
theorem specProof (q : Sl) (l : List Int) (id : Int) (c s : Sl) (cn sn : List Int) (tick : Int) (k : Sl) (ck : List Int) (w : World) (hq : SRd w q l) (hc : SRd w c cn) (hs : SRd w s sn) (hk : SRd w k ck) :
  Calls Tryz.prog 35 #[.slice q.a q.n q.c, .int .i64 id, .slice c.a c.n c.c, .slice s.a s.n s.c, .int .i64 tick, .slice k.a k.n k.c] w (AnsB (proofK l id cn sn tick ck) w) := by
 have HQ := hid (hq)
 have HC := hid (hc)
 have HS := hid (hs)
 have HK := hid (hk)
 obtain ⟨R, hR⟩ : ∃ R, proofK l id cn sn tick ck = R := ⟨_, rfl⟩
 have HRD : Hid (proofK l id cn sn tick ck = R) := hR
 obtain ⟨F, hF⟩ : ∃ F, finK l = F := ⟨_, rfl⟩
 have HF : Hid (finK l = F) := hF
 obtain ⟨M, hM⟩ : ∃ M, proofL id cn sn tick ck = M := ⟨_, rfl⟩
 have HM : Hid (proofL id cn sn tick ck = M) := hM
 rw [hR]
 clear hq hc hs hk hR hF hM
 go_enter Tryz.func35, Tryz.ntmps35
 have B0 : Hid (Below w.heap.size w w) := Below.refl _ _
 go_wp2_with fail
 refine (specFinishKey q l w HQ.out).mono ?_
 unfold AnsB
 rw [HF.out]
 rintro e x1 ⟨T, rfl, o, b⟩
 have L1 := hid (b.size)
 have B1 := hid (B0.out.trans (b.mono B0.out.size))
 clear b B0
 have OT1 := hid (o)
 clear o
 go_wp2_with fail
 refine (KeS.specProofBody id c s cn sn tick k ck x1 (HC.out.later B1.out) (HS.out.later B1.out) (HK.out.later B1.out)).mono ?_
 unfold AnsB
 rw [HM.out]
 rintro e x2 ⟨U, rfl, o, b⟩
 have L2 := hid (b.size)
 have B2 := hid (B1.out.trans (b.mono B1.out.size))
 have OT2 := hid (OT1.out.later b)
 clear b B1 OT1
 have OU2 := hid (o)
 clear o
 cases h0 : pskOk l.length with
 | false =>
  obtain rfl : R = [] := by rw [← HRD.out]; exact proofK_no (by unfold proofB; rw [h0]; rfl)
  have hz : ((T.n : Int) == 0) = true := by have q := OT2.out.len; rw [← HF.out, finK_no h0] at q; simp at q; simp [q]
  go_wp2
  go_ret
  exact nil_ans B2.out
 | true =>
  have HTN : Hid (T.n = 32) := by have q := OT2.out.len; rw [← HF.out, finK_len h0] at q; exact q
  have hz : ((T.n : Int) == 0) = false := by have := HTN.out; simp; omega
  cases h1 : proofF id cn.length sn.length tick ck.length with
  | false =>
   obtain rfl : R = [] := by rw [← HRD.out]; exact proofK_no (by unfold proofB; rw [h0, h1]; rfl)
   have hu : ((U.n : Int) == 0) = true := by have q := OU2.out.len; rw [← HM.out, proofL_no h1] at q; simp at q; simp [q]
   go_wp2
   go_ret
   exact nil_ans B2.out
  | true =>
   have HUN : Hid (U.n = 46) := by have q := OU2.out.len; rw [← HM.out, proofL_len h1] at q; exact q
   have hu : ((U.n : Int) == 0) = false := by have := HUN.out; simp; omega
   have HTG : Hid (tagI F M = R) := by show _ = _; rw [← HRD.out, ← HF.out, ← HM.out]; exact (proofK_yes (by unfold proofB; rw [h0, h1]; rfl)).symm
   have HLF : Hid (F.length = 32 ∧ M.length = 46) := by have q := OT2.out.len; have q2 := OU2.out.len; have := hid2 HTN HUN; exact ⟨by omega, by omega⟩
   go_wp2_with fail
   refine (tagN T U F M x2 OT2.out.rd OU2.out.rd (by have := HLF.out; omega) (by have := HLF.out; omega)).mono ?_
   unfold AnsB
   rw [HTG.out]
   rintro e x3 ⟨V, rfl, o, b⟩
   have LO : w.heap.size ≤ x2.heap.size := B2.out.size
   have L3 := hid (b.size)
   have B3 := hid (B2.out.trans (b.mono B2.out.size))
   have OT3 := hid (OT2.out.later b)
   have OU3 := hid (OU2.out.later b)
   clear b B2 OT2 OU2
   go_wp2
   go_ret
   exact ⟨V, rfl, o.mono LO (Nat.le_refl _), B3.out⟩
end Go.Proofs.YtpenhliaelhnoaaGreatDoor.KeT
