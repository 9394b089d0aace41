/-
  What spec's Extract, Expand, Derive and Chain answer.
  What spec's JarNew and Mint answer.
  A frame's bytes as plain data.
  What spec's Sealed, l7Body and FrameOk answer.
  'append' of bytes to a row of the call's own, as one step of a region that draws its order; and where it lies then.
  A frame's bytes are bytes, and few.
-/
import Derived.Test.YtpgapjdejelajaaGreatDoorVaGr7
import Derived.Test.YtpgapjdejelajaaGreatDoorVaGr8
import Derived.Test.YtpgapjdejelajaaGreatDoorVaGr3
import Derived.Test.YtpgapjdejelajaaGreatDoorVaGr1
import Derived.Test.YtpgapjdejelajaaGreatDoorVaGr5
import Derived.Deep.CutBlock
import Derived.Test.YtpgapjdejelajaaGreatDoorVaGr2
import Derived.Deep.RegionHeld3
import Derived.Laws.AppendOwnNone
set_option linter.unusedVariables false
set_option maxRecDepth 100000
namespace Go.Proofs.YtpgapjdejelajaaGreatDoor.KdfS
open Go.RowKit Mem App AppAt ShaP Words MacP MacS KdfP Str

set_option maxHeartbeats 4000000 in
theorem specExpand (a0 : Option Addr) (n0 c0 : Nat) (a1 : Option Addr) (n1 c1 : Nat) (k f : List Int) (n : Int) (w : World) (e0 : n0 = k.length) (e1 : n1 = f.length) (r0 : Rd w a0 k) (r1 : Rd w a1 f) (na0 : a0 = none → c0 = 0) (na1 : a1 = none → c1 = 0) (hb0 : Bytes k) (hb1 : Bytes f) (l0 : n0 ≤ 2097152) (l1 : n1 ≤ 2097152) :
  Calls Tryz.prog 99 #[.slice a0 n0 c0, .slice a1 n1 c1, .int .i64 n] w fun e w' =>
   ∃ g m c, e = .returned (.tuple #[.slice (some ⟨g, 0, none⟩) m c, .bool (mayExp k f n)]) ∧ m = (expI k f n).length ∧ w.heap.size ≤ g ∧ Row w' g c (expI k f n) ∧ Below w.heap.size w w' := by
 have HN0 : Hid (n0 = k.length) := e0
 have HN1 : Hid (n1 = f.length) := e1
 have HR0 := hid (r0)
 have HR1 := hid (r1)
 have HB0 := hid (hb0)
 have HB1 := hid (hb1)
 clear e0 e1 r0 r1 hb0 hb1
 cases hm : mayExp k f n with
 | false =>
  have HE : Hid (expI k f n = []) := expI_no k f n hm
  have hno : ¬ (0 ≤ n ∧ n ≤ 8160 ∧ n1 ≤ 100 ∧ n0 ≤ 1048576) := by
   intro h; rw [HN0.out, HN1.out] at h; rw [(mayExp_iff k f n).2 h] at hm; cases hm
  have A0 : Hid (Below w.heap.size w (w.alloc (.cells #[] 5))) := (Below.refl _ _).alloc (Nat.le_refl _) _
  have R0 : Hid (Row (w.alloc (.cells #[] 5)) w.heap.size 0 []) := row_new w [] (by simp)
  clear hm
  by_cases h1 : 0 ≤ n ∧ n ≤ 8160
  ·
   have hi : isIn n 0 8160 = true := by simp [isIn]; omega
   by_cases h2 : n1 ≤ 100
   ·
    have q1 : ¬ ((n1 : Int) > 100) := by omega
    have q2 : (n0 : Int) > 1048576 := by omega
    clear hno
    go_enter Tryz.func99, Tryz.ntmps99
    go_wp2_with fail
    refine (l1In n 0 8160 w).mono ?_
    rintro e w1 ⟨rfl, rfl⟩
    rw [hi]
    go_wp2
    go_ret2
    exact ⟨w.heap.size, 0, 0, by simp, by rw [HE.out]; rfl, Nat.le_refl _, by rw [HE.out]; exact R0.out, A0.out⟩
   ·
    have q1 : (n1 : Int) > 100 := by omega
    clear hno
    go_enter Tryz.func99, Tryz.ntmps99
    go_wp2_with fail
    refine (l1In n 0 8160 w).mono ?_
    rintro e w1 ⟨rfl, rfl⟩
    rw [hi]
    go_wp2
    go_ret2
    exact ⟨w.heap.size, 0, 0, by simp, by rw [HE.out]; rfl, Nat.le_refl _, by rw [HE.out]; exact R0.out, A0.out⟩
  ·
   have hi : isIn n 0 8160 = false := by simp [isIn]; omega
   clear hno
   go_enter Tryz.func99, Tryz.ntmps99
   go_wp2_with fail
   refine (l1In n 0 8160 w).mono ?_
   rintro e w1 ⟨rfl, rfl⟩
   rw [hi]
   go_wp2
   go_ret2
   exact ⟨w.heap.size, 0, 0, by simp, by rw [HE.out]; rfl, Nat.le_refl _, by rw [HE.out]; exact R0.out, A0.out⟩
 | true =>
  obtain ⟨h0, h1, h2, h3⟩ := (mayExp_iff k f n).1 hm
  obtain ⟨N, rfl⟩ := Int.eq_ofNat_of_zero_le h0
  have HE : Hid (expI k f (N : Int) = (blks k f ((N + 31) / 32)).take N) := by show _ = _; rw [expI_yes k f _ hm, Int.toNat_natCast]
  have HEL : Hid (N = (expI k f (N : Int)).length) := (expI_len k f N hm).symm
  have HK3 : Hid (k.length ≤ 1048576) := h3
  have HF2 : Hid (f.length ≤ 100) := h2
  have hN : N ≤ 8160 := by omega
  rw [← HN1.out] at h2
  rw [← HN0.out] at h3
  have hi : isIn (N : Int) 0 8160 = true := by simp [isIn]; omega
  have q1 : ¬ ((n1 : Int) > 100) := by omega
  have q2 : ¬ ((n0 : Int) > 1048576) := by omega
  clear hm h0 h1
  obtain ⟨w2, hw2⟩ : ∃ w2, (w.alloc (.cells #[] 5)).alloc (.cells #[] 5) = w2 := ⟨_, rfl⟩
  have HW2 := hid (hw2)
  have RO : Hid (Row w2 w.heap.size 0 (blks k f 0)) := by rw [← hw2]; exact row_alloc (row_new w [] (by simp)) _
  have RT : Hid (Row w2 (w.heap.size + 1) 0 (blk k f 0)) := by
   have := row_new (w.alloc (.cells #[] 5)) [] (by simp)
   rw [show (w.alloc (.cells #[] 5)).heap.size = w.heap.size + 1 by simp] at this
   rw [← hw2]; exact this
  have B2 : Hid (Below w.heap.size w w2) := by rw [← hw2]; exact ((Below.refl _ _).alloc (Nat.le_refl _) _).alloc (by simp) _
  clear hw2
  go_enter Tryz.func99, Tryz.ntmps99
  go_wp2_with fail
  refine (l1In (N : Int) 0 8160 w).mono ?_
  rintro e w1 ⟨rfl, rfl⟩
  rw [hi]
  go_wp2
  rw [HW2.out]
  go_loopw [8, 9, 10] (fun v u i wr => ∃ q go co gt mt ct : Nat, q ≤ 256 ∧ 32 * q < N + 32 ∧ i = .int .i64 ((q : Int) + 1) ∧ v = .slice (some ⟨go, 0, none⟩) (32 * q) co ∧ u = .slice (some ⟨gt, 0, none⟩) mt ct ∧ mt = (blk k f q).length ∧ w.heap.size ≤ go ∧ w.heap.size ≤ gt ∧ go ≠ gt ∧ Row wr go co (blks k f q) ∧ Row wr gt ct (blk k f q) ∧ Below w.heap.size w wr)
   (fun _ _ i _ => 10000 - (intOf i).toNat)
  case atStart => exact ⟨0, w.heap.size, 0, w.heap.size + 1, 0, 0, by omega, by omega, rfl, rfl, rfl, rfl, Nat.le_refl _, by omega, by omega, RO.out, RT.out, B2.out⟩
  case round =>
   obtain ⟨q, go, co, gt, mt, ct, hq, hqN, rfl, rfl, rfl, emt, hgo, hgt, hne, hRo, hRt, hbe⟩ := hrel
   have HRo := hid (hRo)
   have HRt := hid (hRt)
   have HBe := hid (hbe)
   have HNE : Hid (go ≠ gt) := hne
   have EMT : Hid (mt = (blk k f q).length) := emt
   have hmt : mt ≤ 32 := by rw [emt]; exact blk_le k f q
   have HOL : Hid (32 * q = (blks k f q).length) := (blks_len k f HK3.out HF2.out q).symm
   clear RO RT B2 hRo hRt hbe hne emt
   by_cases hlt : 32 * q < N
   ·
    have hltI : ((32 * q : Nat) : Int) < (N : Int) := by omega
    have hwi : IntKind.u8.wrap ((q : Int) + 1) = ((q + 1 : Nat) : Int) % 256 := by rw [IntKind.wrap_u8']; rfl
    have HT1 : Hid (blk k f (q + 1) = hmacI k (blk k f q ++ f ++ [((q + 1 : Nat) : Int) % 256])) := rfl
    have HO1 : Hid (blks k f (q + 1) = blks k f q ++ blk k f (q + 1)) := rfl
    have H32 : Hid ((blk k f (q + 1)).length = 32) := blk_len k f HK3.out HF2.out q
    obtain ⟨x, hx⟩ : ∃ x, ((q + 1 : Nat) : Int) % 256 = x := ⟨_, rfl⟩
    have xb : 0 ≤ x ∧ x ≤ 255 := by omega
    rw [hx] at hwi HT1
    have A1 : Hid (Below wr.heap.size wr (wr.alloc (.cells #[] 5))) := (Below.refl _ _).alloc (Nat.le_refl _) _
    have E1 : Hid (Row (wr.alloc (.cells #[] 5)) wr.heap.size 0 []) := row_new wr [] (by simp)
    have HR1w := hid (HR1.out.later HBe.out (Nat.le_refl _))
    have HR0w := hid (HR0.out.later HBe.out (Nat.le_refl _))
    clear hx
    go_wp2_with (first
     | (at_builtin; refine wpList_app_at _ rfl (.tmp 34) (.tmp 35) rfl wr.heap.size wr.heap.size 0 0 [] (blk k f q) rfl rfl E1.out (Nat.le_refl _) (some ⟨gt, 0, none⟩) mt ct rfl EMT.out (row_alloc HRt.out _).rd (by intro e; cases e) (by rw [← EMT.out, List.length_nil]; omega) ?_; intro g3 c3 w3 r3 k3 l3 gr3; have R3 : Hid (Row w3 g3 c3 (blk k f q)) := (List.nil_append (blk k f q)) ▸ r3; have G3 : Hid (wr.heap.size ≤ g3) := k3; have B3 : Hid (Below wr.heap.size wr w3) := A1.out.grown gr3 A1.out.size (fun k h => by cases h; exact Nat.le_refl _); clear r3 k3 l3 gr3)
     | (at_builtin; refine wpList_app_at _ rfl (.tmp 36) (.tmp 37) rfl wr.heap.size g3 mt c3 (blk k f q) f rfl EMT.out R3.out G3.out a1 n1 c1 rfl HN1.out (HR1w.out.later B3.out (Nat.le_refl _)) na1 (by rw [← EMT.out, ← HN1.out]; omega) ?_; intro g4 c4 w4 r4 k4 l4 gr4; have R4 := hid (r4); have G4 : Hid (wr.heap.size ≤ g4) := k4; have B4 : Hid (Below wr.heap.size wr w4) := B3.out.grown gr4 B3.out.size (fun k h => by cases h; exact G3.out); have L4 : Hid (mt + n1 = (blk k f q ++ f).length) := (by show _ = _; rw [List.length_append, ← EMT.out, ← HN1.out]); clear r4 k4 l4 gr4)
     | (at_builtin; refine wpList_app_at _ rfl (.tmp 38) (.tmp 41) rfl wr.heap.size g4 (mt + n1) c4 (blk k f q ++ f) [x] rfl L4.out (row_alloc R4.out _) G4.out (some ⟨w4.heap.size, 0, none⟩) 1 1 rfl rfl (rd_one w4 x) (by intro e; cases e) (by rw [← L4.out, List.length_singleton]; omega) ?_; intro g5 c5 w5 r5 k5 l5 gr5; have R5 := hid (r5); have B5 : Hid (Below wr.heap.size wr w5) := (B4.out.alloc B4.out.size _).grown gr5 (Below.size (B4.out.alloc B4.out.size _)) (fun k h => by cases h; exact G4.out); clear r5 k5 l5 gr5))
    have L5 : Hid (mt + n1 + 1 = (blk k f q ++ f ++ [x]).length) := by show _ = _; rw [List.length_append, ← L4.out]; rfl
    have Y5 : Hid (Bytes (blk k f q ++ f ++ [x])) := bytes_append (bytes_append (blk_bytes k f q) HB1.out) (fun z hz => by simp at hz; omega)
    refine (specHmac a0 n0 c0 (some ⟨g5, 0, none⟩) (mt + n1 + 1) c5 k (blk k f q ++ f ++ [x]) w5 HN0.out L5.out (HR0w.out.later B5.out (Nat.le_refl _)) R5.out.rd na0 (by intro e; cases e) HB0.out Y5.out l0 (by omega)).mono ?_
    rw [← HT1.out]
    rintro e w6 ⟨g6, m6, c6, rfl, e6, k6, r6, b6⟩
    obtain rfl : m6 = 32 := by rw [e6, H32.out]
    have R6 := hid (r6)
    have B6 := hid (B5.out.trans (b6.mono B5.out.size))
    have G6 : Hid (wr.heap.size ≤ g6) := Nat.le_trans B5.out.size k6
    have RO6 := hid (HRo.out.later B6.out)
    have NE6 : Hid (go ≠ g6) := Nat.ne_of_lt (Nat.lt_of_lt_of_le HRo.out.lt G6.out)
    have BW6 := hid (HBe.out.trans (B6.out.mono HBe.out.size))
    clear e6 k6 r6 b6 R3 R4 R5 B3 B4 B5
    go_wp2_with (at_builtin; refine wpList_app_at _ rfl (.tmp 44) (.tmp 45) rfl w.heap.size go (32 * q) co (blks k f q) (blk k f (q + 1)) rfl HOL.out RO6.out hgo (some ⟨g6, 0, none⟩) 32 c6 rfl H32.out.symm R6.out.rd (by intro e; cases e) (by rw [← HOL.out, H32.out]; omega) ?_; intro g7 c7 w7 r7 k7 l7 gr7; have R7 := hid (r7); have G7 : Hid (w.heap.size ≤ g7) := k7; have RT7 := hid (R6.out.keep (gr7.block g6 R6.out.lt (by simp only [ne_eq, Option.some.injEq]; exact Ne.symm NE6.out))); have NE7 : Hid (g7 ≠ g6) := (by rcases l7 with rfl | h; exact NE6.out; exact Nat.ne_of_gt (Nat.lt_of_lt_of_le R6.out.lt h)); have B7 : Hid (Below w.heap.size w w7) := BW6.out.grown gr7 BW6.out.size (fun k h => by cases h; exact hgo); clear r7 k7 l7 gr7)
    go_roundw
    case rel => exact ⟨q + 1, g7, c7, g6, 32, c6, by omega, by omega, by go_num, by (congr 1), rfl, H32.out.symm, G7.out, Nat.le_trans HBe.out.size G6.out, NE7.out, R7.out, RT7.out, B7.out⟩
    case measure => simp [intOf]; omega
   ·
    have hltI : ¬ (((32 * q : Nat) : Int) < (N : Int)) := by omega
    have hco : 32 * q ≤ co := by have := HRo.out.1; rw [← HOL.out] at this; exact this
    have i1 : (N : Int) ≤ (co : Int) := by omega
    have i0 : (0 : Int) ≤ (N : Int) := by omega
    have HQ : Hid ((N + 31) / 32 = q) := by show _ = _; omega
    have A1 : Hid (Below w.heap.size w (wr.alloc (.cells #[] 5))) := HBe.out.alloc HBe.out.size _
    have E1 : Hid (Row (wr.alloc (.cells #[] 5)) wr.heap.size 0 []) := row_new wr [] (by simp)
    have RX : Hid (Rd (wr.alloc (.cells #[] 5)) (some ⟨go, 0, none⟩) (expI k f (N : Int))) := by
     show Rd _ _ _
     rw [HE.out, HQ.out]
     have h1 := (row_alloc HRo.out (.cells #[] 5)).rd
     intro i hi
     rw [List.length_take] at hi
     obtain ⟨b', off, e, hb', hh⟩ := h1 i (by omega)
     refine ⟨b', off, e, hb', ?_⟩
     rw [hh]
     have : i < N := by omega
     simp [List.getD, this]
    go_wp2_with (at_builtin; refine wpList_app _ rfl (.tmp 47) (.tmp 50) rfl w.heap.size wr.heap.size 0 0 [] (expI k f (N : Int)) rfl rfl E1.out HBe.out.size (some ⟨go, 0, none⟩) N co rfl HEL.out RX.out (by intro e; cases e) (by rw [← HEL.out, List.length_nil]; omega) ?_; intro g8 c8 w8 r8 k8 l8 gr8; have R8 : Hid (Row w8 g8 c8 (expI k f (N : Int))) := (List.nil_append (expI k f (N : Int))) ▸ r8; have G8 : Hid (w.heap.size ≤ g8) := k8; have B8 : Hid (Below w.heap.size w w8) := A1.out.grown gr8 A1.out.size (fun k h => by cases h; exact HBe.out.size); clear r8 k8 l8 gr8)
    go_ret2
    exact ⟨g8, N, c8, rfl, HEL.out, G8.out, R8.out, B8.out⟩

set_option maxHeartbeats 800000 in
theorem specDerive (a0 : Option Addr) (n0 c0 : Nat) (k : List Int) (t : ByteArray) (w : World) (e0 : n0 = k.length) (r0 : Rd w a0 k) (na0 : a0 = none → c0 = 0) (hb0 : Bytes k) (l0 : n0 ≤ 2097152) (l1 : t.size ≤ 2097152) :
  Calls Tryz.prog 85 #[.slice a0 n0 c0, .string t] w fun e w' =>
   ∃ g m c, e = .returned (.slice (some ⟨g, 0, none⟩) m c) ∧ m = (derI k (bs t)).length ∧ w.heap.size ≤ g ∧ Row w' g c (derI k (bs t)) ∧ Below w.heap.size w w' := by
 have HN0 : Hid (n0 = k.length) := e0
 have HR0 := hid (r0)
 have HB0 := hid (hb0)
 clear e0 r0 hb0
 obtain ⟨W, cB, hrun, rdW, beW⟩ := bytes_made w t
 have RW := hid (rdW)
 have BW := hid (beW)
 clear rdW beW
 go_enter Tryz.func85, Tryz.ntmps85
 go_wp2_with fail
 refine (specExpand a0 n0 c0 (some ⟨w.heap.size, 0, none⟩) t.size cB k (bs t) 32 W HN0.out (bs_length t).symm (HR0.out.later BW.out (Nat.le_refl _)) RW.out na0 (by intro e; cases e) HB0.out (bs_bytes t) l0 l1).mono ?_
 rintro e w1 ⟨g, m, c, rfl, em, k1, r1, b1⟩
 have EM : Hid (m = (derI k (bs t)).length) := em
 have K1 : Hid (w.heap.size ≤ g) := Nat.le_trans BW.out.size k1
 have R1 := hid (r1)
 have B1 := hid (BW.out.trans (b1.mono BW.out.size))
 clear em k1 r1 b1
 go_wp2
 go_ret
 exact ⟨g, m, c, rfl, EM.out, K1.out, R1.out, B1.out⟩

end Go.Proofs.YtpgapjdejelajaaGreatDoor.KdfS

namespace Go.Proofs.YtpgapjdejelajaaGreatDoor.CkT
open Go.RowKit Mem App Blk Words Zone Res AddrP AddrS JaZ JaL CkP Shp CkQ MacP KdfP Str MacS

theorem nil_ans {w x : World} (b : Below w.heap.size w x) : AnsB [] w (.returned (.slice (some ⟨x.heap.size, 0, none⟩) 0 0)) (x.alloc (.cells #[] 5)) :=
 ⟨⟨some ⟨x.heap.size, 0, none⟩, 0, 0⟩, rfl, SOwn.row (row_new x [] (by simp)) rfl (fun z hz => by cases hz) b.size (by rw [World.size_alloc]; exact Nat.lt_succ_self _), b.alloc b.size _⟩

def AnsJ (D : JaD) (w : World) : Ending → World → Prop := fun e w' => ∃ S0 : JaS, e = .returned (jaV D S0) ∧ JaOwn w' w.heap.size w'.heap.size S0 D ∧ Below w.heap.size w w'
theorem nil_own (w : World) (lo hi : Nat) : JaOwn w lo hi ⟨⟨none, 0, 0⟩⟩ ⟨[]⟩ := ⟨SOwn.nil _ _ _, ⟨⟩⟩
theorem tagN (k t : Sl) (lk l : List Int) (w : World) (hk : SRd w k lk) (h : SRd w t l) (h1 : lk.length ≤ 2000000) (h2 : l.length ≤ 2000000) :
  Calls Tryz.prog 38 #[.slice k.a k.n k.c, .slice t.a t.n t.c] w (AnsB (tagI lk l) w) := (specTag k.a k.n k.c t.a t.n t.c lk l w hk.len h.len hk.rd h.rd hk.nil h.nil hk.bytes h.bytes (by rw [hk.len]; omega) (by rw [h.len]; omega)).mono fun _ _ h' => AnsB.of (tagI_bytes _ _) h'

set_option maxHeartbeats 8000000 in
theorem specJarNew (s : Sl) (l : List Int) (w : World) (h : SRd w s l) :
  Calls Tryz.prog 64 #[.slice s.a s.n s.c] w (AnsJ (newJ l) w) := by
 have HR := hid (h)
 have HN : Hid (((s.n : Int) == 12) = ((l.length : Int) == 12)) := by show _ = _; rw [h.len]
 have HZ : Hid (s.n = l.length) := h.len
 obtain ⟨R, hR⟩ : ∃ R, newJ l = R := ⟨_, rfl⟩
 have HRD : Hid (newJ l = R) := hR
 rw [hR]
 clear h hR
 go_enter Tryz.func64, Tryz.ntmps64
 obtain ⟨x1, hx1⟩ : ∃ x1, w.alloc (.cells #[.slice none 0 0] 25) = x1 := ⟨_, rfl⟩
 have HW1 := hid (hx1)
 have b1 : Below w.heap.size w x1 := by rw [← hx1]; exact (Below.refl _ _).alloc (Nat.le_refl _) _
 have KN : Blk x1 w.heap.size 25 [.slice none 0 0] := by rw [← hx1]; exact Blk.new w _ _
 have HSZ1 : Hid (x1.heap.size = w.heap.size + 1) := by rw [← hx1]; show _ = _; simp
 clear hx1
 have L1 := hid (b1.size)
 have B1 := hid (b1)
 clear b1
 go_upto_region 1 with fail
 rw [HW1.out]
 obtain ⟨go, hgo⟩ : ∃ g, w.heap.size = g := ⟨_, rfl⟩
 have Ggo : Hid (w.heap.size = go ∧ x1.heap.size = go + 1) := ⟨hgo, by rw [← hgo]; exact HSZ1.out⟩
 rw [hgo] at KN ⊢
 clear HW1 HSZ1 hgo
 have KO1 := hid (KN)
 clear KN
 cases h0 : ((s.n : Int) == 12) with
 | false =>
  have hne : ((s.n : Int) != 12) = true := by simpa using h0
  obtain rfl : R = ⟨[]⟩ := by rw [← HRD.out]; exact newJ_no (by rw [← HN.out]; exact h0)
  have c0 := KO1.out.cell 0 rfl
  have f0 := KO1.out.frozen 0
  go_wp2
  obtain ⟨k1, k2, k3⟩ := ja_stored (D := ⟨[]⟩) (S := ⟨⟨none, 0, 0⟩⟩) KO1.out (nil_own x1 x1.heap.size x1.heap.size) (.inl (by have := hid2 L1 Ggo; omega))
  exact bodyPost_ret (v := jaV ⟨[]⟩ ⟨⟨none, 0, 0⟩⟩) (res1 rfl (is_cell rfl k1 aggJa)) rfl ⟨⟨⟨none, 0, 0⟩⟩, rfl, nil_own _ _ _, k3 _ _ (by have := hid2 L1 Ggo; omega) B1.out⟩
 | true =>
  have hne : ((s.n : Int) != 12) = false := by simpa using h0
  have hne : ((s.n : Int) != 12) = false := by simpa using h0
  have HL : Hid (s.n = 12) := by show _ = _; simp at h0; omega
  obtain rfl : R = ⟨derI l (bs jarB)⟩ := by rw [← HRD.out]; exact newJ_yes (by rw [← HN.out]; exact h0)
  go_wp2_with fail
  refine (KdfS.specDerive s.a s.n s.c l jarB x1 HZ.out (HR.out.later B1.out).rd HR.out.nil HR.out.bytes (by have := HL.out; omega) (by decide)).mono ?_
  rintro e x2 ⟨g1, m1, c1, rfl, em, kg, rr, b⟩
  have oN : SOwn x2 x1.heap.size x2.heap.size ⟨some ⟨g1, 0, none⟩, m1, c1⟩ (derI l (bs jarB)) := SOwn.row rr em (derI_bytes _ _) kg rr.lt
  clear em kg rr
  have L2 := hid (b.size)
  have B2 := hid (B1.out.trans (b.mono B1.out.size))
  have KO2 := hid (KO1.out.later b)
  clear b B1 KO1
  have O12 := hid (oN)
  clear oN
  have c0 := KO2.out.cell 0 rfl
  have f0 := KO2.out.frozen 0
  go_wp2
  have oJ : JaOwn x2 x1.heap.size x2.heap.size ⟨⟨some ⟨g1, 0, none⟩, m1, c1⟩⟩ ⟨derI l (bs jarB)⟩ := ⟨O12.out, ⟨⟩⟩
  obtain ⟨k1, k2, k3⟩ := ja_stored (D := ⟨derI l (bs jarB)⟩) (S := ⟨⟨some ⟨g1, 0, none⟩, m1, c1⟩⟩) KO2.out oJ (.inl (by have := hid3 L1 Ggo L2; omega))
  exact bodyPost_ret (v := jaV ⟨derI l (bs jarB)⟩ ⟨⟨some ⟨g1, 0, none⟩, m1, c1⟩⟩) (res1 rfl (is_cell rfl k1 aggJa)) rfl ⟨⟨⟨some ⟨g1, 0, none⟩, m1, c1⟩⟩, rfl, k2.mono (by have := hid3 L1 Ggo L2; omega) (by rw [ja_size]; exact Nat.le_refl _), k3 _ _ (by have := hid3 L1 Ggo L2; omega) B2.out⟩

set_option maxHeartbeats 8000000 in
theorem specMint (S : JaS) (D : JaD) (h p id : Int) (c s : Sl) (cn sn : List Int) (tick : Int) (w : World) (hj : JaRd w S D) (hc : SRd w c cn) (hs : SRd w s sn) :
  Calls Tryz.prog 10 #[jaV D S, addrV h p, .int .i64 id, .slice c.a c.n c.c, .slice s.a s.n s.c, .int .i64 tick] w (AnsB (mint D h p id cn sn tick) w) := by
 have HJ : Hid (JaRd w S D) := hj
 have HC := hid (hc)
 have HS := hid (hs)
 obtain ⟨R, hR⟩ : ∃ R, mint D h p id cn sn tick = R := ⟨_, rfl⟩
 have HRD : Hid (mint D h p id cn sn tick = R) := hR
 obtain ⟨M, hM⟩ : ∃ M, mintL h p id cn sn tick = M := ⟨_, rfl⟩
 have HM : Hid (mintL h p id cn sn tick = M) := hM
 rw [hR]
 clear hj hc hs hR hM
 obtain ⟨x1, hx1⟩ : ∃ zz, (w.alloc (.cells #[.slice S.secret.a S.secret.n S.secret.c] 25)).alloc (.cells #[.int .i64 h, .int .i64 p] 27) = zz := ⟨_, rfl⟩
 have HWA := hid (hx1)
 have b1 : Below w.heap.size w x1 := by rw [← hx1]; exact (((Below.refl _ _).alloc (Nat.le_refl _) _).alloc (by simp) _)
 have KJN : Blk x1 (w.heap.size) 25 [.slice S.secret.a S.secret.n S.secret.c] := by
  have q := (Blk.new (w) 25 [.slice S.secret.a S.secret.n S.secret.c])
  skip
  rw [← hx1]; exact q.alloc _
 have KAN : Blk x1 (w.heap.size + 1) 27 [.int .i64 h, .int .i64 p] := by
  have q := (Blk.new ((w.alloc (.cells #[.slice S.secret.a S.secret.n S.secret.c] 25))) 27 [.int .i64 h, .int .i64 p])
  rw [World.size_alloc] at q
  rw [← hx1]; exact q
 have SZA : x1.heap.size = w.heap.size + 2 := by rw [← hx1]; simp
 clear hx1
 have L1 := hid (b1.size)
 have B1 := hid (b1)
 clear b1
 unfold jaV addrV
 go_enter Tryz.func10, Tryz.ntmps10
 go_upto_region 1 with fail
 rw [HWA.out]
 obtain ⟨gj, hgj⟩ : ∃ g, w.heap.size = g := ⟨_, rfl⟩
 obtain ⟨ga, hga⟩ : ∃ g, w.heap.size + 1 = g := ⟨_, rfl⟩
 have GA : Hid (w.heap.size = gj ∧ gj + 1 = ga ∧ x1.heap.size = gj + 2) := ⟨hgj, by omega, by omega⟩
 rw [hgj] at KJN
 rw [hga] at KAN
 rw [hga, hgj]
 clear HWA SZA hgj hga
 have KJ1 := hid (KJN)
 have KA1 := hid (KAN)
 clear KJN KAN
 have d0 := KA1.out.cell 0 rfl
 have d1 := KA1.out.cell 1 rfl
 go_wp2_with fail
 refine (CkS.specMintBody h p id c s cn sn tick x1 (HC.out.later B1.out) (HS.out.later B1.out)).mono ?_
 unfold AnsB
 rw [HM.out]
 rintro e x2 ⟨T, rfl, o, b⟩
 clear d0 d1
 have L2 := hid (b.size)
 have B2 := hid (B1.out.trans (b.mono B1.out.size))
 have KJ2 := hid (KJ1.out.later b)
 have KA2 := hid (KA1.out.later b)
 clear b B1 KJ1 KA1
 have OT2 := hid (o)
 clear o
 clear KA2
 have d0 := KJ2.out.cell 0 rfl
 go_wp2_with fail
 refine (CkS.specJarOk S D x2 (HJ.out.later B2.out)).mono ?_
 rintro e x3 ⟨rfl, b⟩
 have L3 := hid (b.size)
 have B3 := hid (B2.out.trans (b.mono B2.out.size))
 have KJ3 := hid (KJ2.out.later b)
 have OT3 := hid (OT2.out.later b)
 clear b B2 KJ2 OT2
 clear d0
 cases h0 : jarOk D with
 | false =>
  obtain rfl : R = [] := by rw [← HRD.out]; exact mint_no (by unfold mintB; rw [h0]; rfl)
  go_wp2
  go_ret
  exact nil_ans B3.out
 | true =>
  cases h1 : mintF h p id cn.length sn.length tick with
  | false =>
   obtain rfl : R = [] := by rw [← HRD.out]; exact mint_no (by unfold mintB; rw [h0, h1]; rfl)
   have hz : ((T.n : Int) == 0) = true := by have q := OT3.out.len; rw [← HM.out, mintL_no h1] at q; simp at q; simp [q]
   go_wp2
   go_ret
   exact nil_ans B3.out
  | true =>
   have HTL : Hid (T.n = 36) := by have q := OT3.out.len; rw [← HM.out, mintL_len h1] at q; exact q
   have hz : ((T.n : Int) == 0) = false := by have := HTL.out; simp; omega
   have HK : Hid (D.secret.length = 32) := jarOk_iff.1 h0
   have HQ : Hid (tagI D.secret M = R) := by show _ = _; rw [← HRD.out, ← HM.out]; exact (mint_yes (by unfold mintB; rw [h0, h1]; rfl)).symm
   have HML : Hid (M.length = 36) := by rw [← HM.out]; exact mintL_len h1
   have d0 := KJ3.out.cell 0 rfl
   go_wp2_with fail
   refine (tagN S.secret T D.secret M x3 (HJ.out.later B3.out).secret OT3.out.rd (by have := HK.out; omega) (by have := HML.out; omega)).mono ?_
   unfold AnsB
   rw [HQ.out]
   rintro e x4 ⟨U, rfl, o, b⟩
   clear d0
   have LO := hid (B3.out.size)
   have L4 := hid (b.size)
   have B4 := hid (B3.out.trans (b.mono B3.out.size))
   have KJ4 := hid (KJ3.out.later b)
   have OT4 := hid (OT3.out.later b)
   clear b B3 KJ3 OT3
   go_wp2
   go_ret
   exact ⟨U, rfl, o.mono LO.out (Nat.le_refl _), B4.out⟩
end Go.Proofs.YtpgapjdejelajaaGreatDoor.CkT

namespace Go.Proofs.YtpgapjdejelajaaGreatDoor.FrB
open Go.RowKit Mem App Words FrZ FrP

theorem ok_iff (D : FrD) : frameOk D = true ↔
  (4 ≤ D.kind ∧ D.kind ≤ 8 ∧ D.id = 0 ∧ D.cn.length = 0 ∧ D.sn.length = 12 ∧ D.tick = 0 ∧ D.cookie.length = 0 ∧ D.proof.length = 0 ∧ 0 ≤ D.epoch ∧ D.epoch ≤ 4294967295 ∧ 0 ≤ D.seq ∧ D.seq ≤ 281474976710655 ∧ bodyOk D.kind D.body.length = true ∧ D.tag.length = 16) ∨
  (D.epoch = 0 ∧ D.seq = 0 ∧ D.body.length = 0 ∧ D.tag.length = 0 ∧ D.cn.length = 12 ∧
   ((D.kind = 1 ∧ 1 ≤ D.id ∧ D.id ≤ 9 ∧ D.sn.length = 0 ∧ D.tick = 0 ∧ D.cookie.length = 0 ∧ D.proof.length = 0) ∨
    (D.kind = 2 ∧ D.id = 0 ∧ D.sn.length = 12 ∧ 0 ≤ D.tick ∧ D.tick ≤ 1000000 ∧ D.cookie.length = 16 ∧ D.proof.length = 0) ∨
    (D.kind = 3 ∧ 1 ≤ D.id ∧ D.id ≤ 9 ∧ D.sn.length = 12 ∧ 0 ≤ D.tick ∧ D.tick ≤ 1000000 ∧ D.cookie.length = 16 ∧ D.proof.length = 16))) := by
 unfold frameOk okS isIn
 by_cases hs : 4 ≤ D.kind ∧ D.kind ≤ 8
 ·
  rw [if_pos (by simpa using hs)]
  simp only [Bool.and_eq_true, beq_iff_eq, decide_eq_true_eq]
  constructor
  ·
   rintro ⟨h1, h2, h3, h4, h5, h6, h7, h8, h9, h10⟩
   exact .inl ⟨hs.1, hs.2, h1, by omega, by omega, h4, by omega, by omega, h7.1, h7.2, h8.1, h8.2, h9, by omega⟩
  ·
   rintro (⟨_, _, h1, h2, h3, h4, h5, h6, h7, h7', h8, h8', h9, h10⟩ | ⟨_, _, _, _, _, ⟨h, _⟩ | ⟨h, _⟩ | ⟨h, _⟩⟩)
   ·
    exact ⟨h1, by omega, by omega, h4, by omega, by omega, ⟨h7, h7'⟩, ⟨h8, h8'⟩, h9, by omega⟩
   ·
    omega
   ·
    omega
   ·
    omega
 ·
  rw [if_neg (by simpa using hs)]
  by_cases he : D.epoch = 0 ∧ D.seq = 0 ∧ D.body.length = 0 ∧ D.tag.length = 0 ∧ D.cn.length = 12
  ·
   obtain ⟨e1, e2, e3, e4, e5⟩ := he
   rw [if_neg (by rw [e1, e2, e3, e4, e5]; simp)]
   by_cases k1 : D.kind = 1
   ·
    rw [k1]; simp only [beq_self_eq_true, if_true, Bool.and_eq_true, beq_iff_eq, decide_eq_true_eq]; constructor
    ·
     rintro ⟨⟨a, a'⟩, b, c, d, e⟩; exact .inr ⟨e1, e2, e3, e4, e5, .inl ⟨trivial, a, a', by omega, c, by omega, by omega⟩⟩
    ·
     rintro (h | ⟨_, _, _, _, _, ⟨_, a, a', b, c, d, e⟩ | ⟨h, _⟩ | ⟨h, _⟩⟩)
     ·
      omega
     ·
      exact ⟨⟨a, a'⟩, by omega, c, by omega, by omega⟩
     ·
      omega
     ·
      omega
   ·
    rw [if_neg (by simpa using k1)]
    by_cases k2 : D.kind = 2
    ·
     rw [k2]; simp only [beq_self_eq_true, if_true, Bool.and_eq_true, beq_iff_eq, decide_eq_true_eq]; constructor
     ·
      rintro ⟨a, b, ⟨c, c'⟩, d, e⟩; exact .inr ⟨e1, e2, e3, e4, e5, .inr (.inl ⟨trivial, a, by omega, c, c', by omega, by omega⟩)⟩
     ·
      rintro (h | ⟨_, _, _, _, _, ⟨h, _⟩ | ⟨_, a, b, c, c', d, e⟩ | ⟨h, _⟩⟩)
      ·
       omega
      ·
       omega
      ·
       exact ⟨a, by omega, ⟨c, c'⟩, by omega, by omega⟩
      ·
       omega
    ·
     rw [if_neg (by simpa using k2)]
     by_cases k3 : D.kind = 3
     ·
      rw [k3]; simp only [beq_self_eq_true, if_true, Bool.and_eq_true, beq_iff_eq, decide_eq_true_eq]; constructor
      ·
       rintro ⟨⟨a, a'⟩, b, ⟨c, c'⟩, d, e⟩; exact .inr ⟨e1, e2, e3, e4, e5, .inr (.inr ⟨trivial, a, a', by omega, c, c', by omega, by omega⟩)⟩
      ·
       rintro (h | ⟨_, _, _, _, _, ⟨h, _⟩ | ⟨h, _⟩ | ⟨_, a, a', b, c, c', d, e⟩⟩)
       ·
        omega
       ·
        omega
       ·
        omega
       ·
        exact ⟨⟨a, a'⟩, by omega, ⟨c, c'⟩, by omega, by omega⟩
     ·
      rw [if_neg (by simpa using k3)]
      constructor
      ·
       intro h; cases h
      ·
       rintro (h | ⟨_, _, _, _, _, ⟨h, _⟩ | ⟨h, _⟩ | ⟨h, _⟩⟩)
       ·
        omega
       ·
        omega
       ·
        omega
       ·
        omega
  ·
   rw [if_pos (by
    cases hc : ((D.epoch == 0) && ((D.seq == 0) && (((D.body.length : Int) == 0) && (((D.tag.length : Int) == 0) && ((D.cn.length : Int) == 12))))) with
    | false => rfl
    | true =>
     simp only [Bool.and_eq_true, beq_iff_eq] at hc
     exact absurd ⟨hc.1, hc.2.1, by omega, by omega, by omega⟩ he)]
   constructor
   ·
    intro h; cases h
   ·
    rintro (h | ⟨a, b, c, d, e, _⟩)
    ·
     omega
    ·
     exact absurd ⟨a, b, c, d, e⟩ he
theorem ok_kind (D : FrD) (h : frameOk D = true) : 1 ≤ D.kind ∧ D.kind ≤ 8 := by
 rcases (ok_iff D).1 h with h | ⟨_, _, _, _, _, h | h | h⟩ <;> omega
theorem ok_lens (D : FrD) (h : frameOk D = true) : D.cn.length ≤ 12 ∧ D.sn.length ≤ 12 ∧ D.cookie.length ≤ 16 ∧ D.proof.length ≤ 16 ∧ D.body.length ≤ 40 ∧ D.tag.length ≤ 16 := by
 rcases (ok_iff D).1 h with ⟨_, _, _, _, _, _, _, _, _, _, _, _, hb, _⟩ | ⟨_, _, _, _, _, h | h | h⟩
 ·
  have : D.body.length ≤ 40 := by
   unfold bodyOk at hb
   split at hb
   ·
    simp at hb; omega
   ·
    split at hb <;> (simp at hb; omega)
  omega
 ·
  omega
 ·
  omega
 ·
  omega
end Go.Proofs.YtpgapjdejelajaaGreatDoor.FrB

namespace Go.Proofs.YtpgapjdejelajaaGreatDoor.FrS
open Go.RowKit Mem App Blk Words Zone FrZ FrP

theorem specSealed (k : Int) (w : World) :
  Calls Tryz.prog 81 #[.int .i64 k] w fun e w' => e = .returned (.bool (isIn k 4 8)) ∧ w = w' := by
 go_enter Tryz.func81, Tryz.ntmps81
 go_wp2_with fail
 refine (l1In k 4 8 w).mono ?_
 rintro e w1 ⟨rfl, rfl⟩
 go_wp2
 go_ret
 exact ⟨by simp, rfl⟩

theorem l7Body (k n : Int) (w : World) :
  Calls Tryz.prog 82 #[.int .i64 k, .int .i64 n] w fun e w' => e = .returned (.bool (bodyOk k n)) ∧ w = w' := by
 obtain ⟨v, hv⟩ : ∃ v, bodyOk k n = v := ⟨_, rfl⟩
 have HV : Hid (bodyOk k n = v) := hv
 rw [hv]
 clear hv
 cases h4 : (k == 4) with
 | true =>
  by_cases hn : n ≤ 40
  ·
   obtain rfl : v = true := by rw [← HV.out]; unfold bodyOk; rw [h4]; simpa using hn
   go_enter Tryz.func82, Tryz.ntmps82
   go_wp2
   go_ret
   exact ⟨rfl, rfl⟩
  ·
   obtain rfl : v = false := by rw [← HV.out]; unfold bodyOk; rw [h4]; simp; omega
   go_enter Tryz.func82, Tryz.ntmps82
   go_wp2
   go_ret
   exact ⟨rfl, rfl⟩
 | false =>
  cases h5 : (k == 5) with
  | true =>
   obtain rfl : v = (n == 12) := by rw [← HV.out]; unfold bodyOk; rw [h4, h5]; simp
   go_enter Tryz.func82, Tryz.ntmps82
   go_wp2
   go_ret
   exact ⟨by simp, rfl⟩
  | false =>
   cases h6 : (k == 6) with
   | true =>
    obtain rfl : v = (n == 12) := by rw [← HV.out]; unfold bodyOk; rw [h4, h5, h6]; simp
    go_enter Tryz.func82, Tryz.ntmps82
    go_wp2
    go_ret
    exact ⟨by simp, rfl⟩
   | false =>
    obtain rfl : v = (n == 4) := by rw [← HV.out]; unfold bodyOk; rw [h4, h5, h6]; simp
    go_enter Tryz.func82, Tryz.ntmps82
    go_wp2
    go_ret
    exact ⟨by simp, rfl⟩

set_option maxHeartbeats 8000000 in
theorem specFrameOk (S : FrS) (D : FrD) (w : World) (h : FrRd w S D) :
  Calls Tryz.prog 57 #[frV D S] w fun e w' => e = .returned (.bool (frameOk D)) ∧ Below w.heap.size w w' := by
 obtain ⟨v, hv⟩ : ∃ v, frameOk D = v := ⟨_, rfl⟩
 have HV : Hid (okS D.kind D.id S.cn.n S.sn.n D.tick S.cookie.n S.proof.n D.epoch D.seq S.body.n S.tag.n = v) := by
  show _ = _
  rw [← hv, h.cn.len, h.sn.len, h.cookie.len, h.proof.len, h.body.len, h.tag.len]; rfl
 rw [hv]
 obtain ⟨x0, hx0⟩ : ∃ x0, w.alloc (.cells #[.int .i64 D.kind, .int .i64 D.id, .slice S.cn.a S.cn.n S.cn.c, .slice S.sn.a S.sn.n S.sn.c, .int .i64 D.tick, .slice S.cookie.a S.cookie.n S.cookie.c, .slice S.proof.a S.proof.n S.proof.c, .int .i64 D.epoch, .int .i64 D.seq, .slice S.body.a S.body.n S.body.c, .slice S.tag.a S.tag.n S.tag.c] 35) = x0 := ⟨_, rfl⟩
 have HW0 := hid (hx0)
 have B0 : Hid (Below w.heap.size w x0) := by rw [← hx0]; exact (Below.refl _ _).alloc (Nat.le_refl _) _
 have KA0 : Hid (Blk x0 w.heap.size 35 [.int .i64 D.kind, .int .i64 D.id, .slice S.cn.a S.cn.n S.cn.c, .slice S.sn.a S.sn.n S.sn.c, .int .i64 D.tick, .slice S.cookie.a S.cookie.n S.cookie.c, .slice S.proof.a S.proof.n S.proof.c, .int .i64 D.epoch, .int .i64 D.seq, .slice S.body.a S.body.n S.body.c, .slice S.tag.a S.tag.n S.tag.c]) := by rw [← hx0]; exact Blk.new w _ _
 clear hv hx0 h
 unfold frV
 go_enter Tryz.func57, Tryz.ntmps57
 go_upto_region 1 with fail
 rw [HW0.out]
 generalize w.heap.size = ga at KA0 ⊢
 obtain ⟨c0, c1, c2, c3, c4, c5, c6, c7, c8, c9, c10⟩ := cells11 KA0.out
 clear HW0 KA0
 go_wp2_with fail
 refine (specSealed D.kind x0).mono ?_
 rintro e x1 ⟨rfl, rfl⟩
 cases hs : isIn D.kind 4 8 with
 | true =>
  cases hid : (D.id == 0) with
  | false =>
   obtain rfl : v = false := by rw [← HV.out]; unfold okS; simp [hs, hid]
   go_wp2
   go_ret
   exact ⟨rfl, B0.out⟩
  | true =>
   cases hcn : ((S.cn.n : Int) == 0) with
   | false =>
    obtain rfl : v = false := by rw [← HV.out]; unfold okS; simp [hs, hid, hcn]
    go_wp2
    go_ret
    exact ⟨rfl, B0.out⟩
   | true =>
    cases hsn : ((S.sn.n : Int) == 12) with
    | false =>
     obtain rfl : v = false := by rw [← HV.out]; unfold okS; simp [hs, hid, hcn, hsn]
     go_wp2
     go_ret
     exact ⟨rfl, B0.out⟩
    | true =>
     cases htick : (D.tick == 0) with
     | false =>
      obtain rfl : v = false := by rw [← HV.out]; unfold okS; simp [hs, hid, hcn, hsn, htick]
      go_wp2
      go_ret
      exact ⟨rfl, B0.out⟩
     | true =>
      cases hcookie : ((S.cookie.n : Int) == 0) with
      | false =>
       obtain rfl : v = false := by rw [← HV.out]; unfold okS; simp [hs, hid, hcn, hsn, htick, hcookie]
       go_wp2
       go_ret
       exact ⟨rfl, B0.out⟩
      | true =>
       cases hproof : ((S.proof.n : Int) == 0) with
       | false =>
        obtain rfl : v = false := by rw [← HV.out]; unfold okS; simp [hs, hid, hcn, hsn, htick, hcookie, hproof]
        go_wp2
        go_ret
        exact ⟨rfl, B0.out⟩
       | true =>
        go_wp2_with fail
        refine (l1In D.epoch 0 4294967295 x0).mono ?_
        rintro e x1 ⟨rfl, rfl⟩
        cases hepoch : (isIn D.epoch 0 4294967295) with
        | false =>
         obtain rfl : v = false := by rw [← HV.out]; unfold okS; simp [hs, hid, hcn, hsn, htick, hcookie, hproof, hepoch]
         go_wp2
         go_ret
         exact ⟨rfl, B0.out⟩
        | true =>
         go_wp2_with fail
         refine (l1In D.seq 0 281474976710655 x0).mono ?_
         rintro e x1 ⟨rfl, rfl⟩
         cases hseq : (isIn D.seq 0 281474976710655) with
         | false =>
          obtain rfl : v = false := by rw [← HV.out]; unfold okS; simp [hs, hid, hcn, hsn, htick, hcookie, hproof, hepoch, hseq]
          go_wp2
          go_ret
          exact ⟨rfl, B0.out⟩
         | true =>
          go_wp2_with fail
          refine (l7Body D.kind (S.body.n : Int) x0).mono ?_
          rintro e x1 ⟨rfl, rfl⟩
          cases hbody : (bodyOk D.kind (S.body.n : Int)) with
          | false =>
           obtain rfl : v = false := by rw [← HV.out]; unfold okS; simp [hs, hid, hcn, hsn, htick, hcookie, hproof, hepoch, hseq, hbody]
           go_wp2
           go_ret
           exact ⟨rfl, B0.out⟩
          | true =>
           cases htag : ((S.tag.n : Int) == 16) with
           | false =>
            obtain rfl : v = false := by rw [← HV.out]; unfold okS; simp [hs, hid, hcn, hsn, htick, hcookie, hproof, hepoch, hseq, hbody, htag]
            go_wp2
            go_ret
            exact ⟨rfl, B0.out⟩
           | true =>
            obtain rfl : v = true := by rw [← HV.out]; unfold okS; simp [hs, hid, hcn, hsn, htick, hcookie, hproof, hepoch, hseq, hbody, htag]
            go_wp2
            go_ret
            exact ⟨rfl, B0.out⟩
 | false =>
  cases hepoch : (D.epoch == 0) with
  | false =>
   have nhepoch : (D.epoch != 0) = true := by simp only [bne, hepoch]; rfl
   obtain rfl : v = false := by rw [← HV.out]; unfold okS; simp [hs, hepoch]
   go_wp2
   go_ret
   exact ⟨rfl, B0.out⟩
  | true =>
   have nhepoch : (D.epoch != 0) = false := by simp only [bne, hepoch]; rfl
   cases hseq : (D.seq == 0) with
   | false =>
    have nhseq : (D.seq != 0) = true := by simp only [bne, hseq]; rfl
    obtain rfl : v = false := by rw [← HV.out]; unfold okS; simp [hs, hepoch, hseq]
    go_wp2
    go_ret
    exact ⟨rfl, B0.out⟩
   | true =>
    have nhseq : (D.seq != 0) = false := by simp only [bne, hseq]; rfl
    cases hbody : ((S.body.n : Int) == 0) with
    | false =>
     have nhbody : ((S.body.n : Int) != 0) = true := by simp only [bne, hbody]; rfl
     obtain rfl : v = false := by rw [← HV.out]; unfold okS; simp [hs, hepoch, hseq, hbody]
     go_wp2
     go_ret
     exact ⟨rfl, B0.out⟩
    | true =>
     have nhbody : ((S.body.n : Int) != 0) = false := by simp only [bne, hbody]; rfl
     cases htag : ((S.tag.n : Int) == 0) with
     | false =>
      have nhtag : ((S.tag.n : Int) != 0) = true := by simp only [bne, htag]; rfl
      obtain rfl : v = false := by rw [← HV.out]; unfold okS; simp [hs, hepoch, hseq, hbody, htag]
      go_wp2
      go_ret
      exact ⟨rfl, B0.out⟩
     | true =>
      have nhtag : ((S.tag.n : Int) != 0) = false := by simp only [bne, htag]; rfl
      cases hcn : ((S.cn.n : Int) == 12) with
      | false =>
       have nhcn : ((S.cn.n : Int) != 12) = true := by simp only [bne, hcn]; rfl
       obtain rfl : v = false := by rw [← HV.out]; unfold okS; simp [hs, hepoch, hseq, hbody, htag, hcn]
       go_wp2
       go_ret
       exact ⟨rfl, B0.out⟩
      | true =>
       have nhcn : ((S.cn.n : Int) != 12) = false := by simp only [bne, hcn]; rfl
       cases k1 : (D.kind == 1) with
       | true =>
        go_wp2_with fail
        refine (l1In D.id 1 9 x0).mono ?_
        rintro e x1 ⟨rfl, rfl⟩
        cases hid : (isIn D.id 1 9) with
        | false =>
         obtain rfl : v = false := by rw [← HV.out]; unfold okS; simp [hs, hepoch, hseq, hbody, htag, hcn, k1, hid]
         go_wp2
         go_ret
         exact ⟨rfl, B0.out⟩
        | true =>
         cases hsn : ((S.sn.n : Int) == 0) with
         | false =>
          obtain rfl : v = false := by rw [← HV.out]; unfold okS; simp [hs, hepoch, hseq, hbody, htag, hcn, k1, hid, hsn]
          go_wp2
          go_ret
          exact ⟨rfl, B0.out⟩
         | true =>
          cases htick : (D.tick == 0) with
          | false =>
           obtain rfl : v = false := by rw [← HV.out]; unfold okS; simp [hs, hepoch, hseq, hbody, htag, hcn, k1, hid, hsn, htick]
           go_wp2
           go_ret
           exact ⟨rfl, B0.out⟩
          | true =>
           cases hcookie : ((S.cookie.n : Int) == 0) with
           | false =>
            obtain rfl : v = false := by rw [← HV.out]; unfold okS; simp [hs, hepoch, hseq, hbody, htag, hcn, k1, hid, hsn, htick, hcookie]
            go_wp2
            go_ret
            exact ⟨rfl, B0.out⟩
           | true =>
            cases hproof : ((S.proof.n : Int) == 0) with
            | false =>
             obtain rfl : v = false := by rw [← HV.out]; unfold okS; simp [hs, hepoch, hseq, hbody, htag, hcn, k1, hid, hsn, htick, hcookie, hproof]
             go_wp2
             go_ret
             exact ⟨rfl, B0.out⟩
            | true =>
             obtain rfl : v = true := by rw [← HV.out]; unfold okS; simp [hs, hepoch, hseq, hbody, htag, hcn, k1, hid, hsn, htick, hcookie, hproof]
             go_wp2
             go_ret
             exact ⟨rfl, B0.out⟩
       | false =>
        cases k2 : (D.kind == 2) with
        | true =>
         cases hid : (D.id == 0) with
         | false =>
          obtain rfl : v = false := by rw [← HV.out]; unfold okS; simp [hs, hepoch, hseq, hbody, htag, hcn, k1, k2, hid]
          go_wp2
          go_ret
          exact ⟨rfl, B0.out⟩
         | true =>
          cases hsn : ((S.sn.n : Int) == 12) with
          | false =>
           obtain rfl : v = false := by rw [← HV.out]; unfold okS; simp [hs, hepoch, hseq, hbody, htag, hcn, k1, k2, hid, hsn]
           go_wp2
           go_ret
           exact ⟨rfl, B0.out⟩
          | true =>
           go_wp2_with fail
           refine (l1In D.tick 0 1000000 x0).mono ?_
           rintro e x1 ⟨rfl, rfl⟩
           cases htick : (isIn D.tick 0 1000000) with
           | false =>
            obtain rfl : v = false := by rw [← HV.out]; unfold okS; simp [hs, hepoch, hseq, hbody, htag, hcn, k1, k2, hid, hsn, htick]
            go_wp2
            go_ret
            exact ⟨rfl, B0.out⟩
           | true =>
            cases hcookie : ((S.cookie.n : Int) == 16) with
            | false =>
             obtain rfl : v = false := by rw [← HV.out]; unfold okS; simp [hs, hepoch, hseq, hbody, htag, hcn, k1, k2, hid, hsn, htick, hcookie]
             go_wp2
             go_ret
             exact ⟨rfl, B0.out⟩
            | true =>
             cases hproof : ((S.proof.n : Int) == 0) with
             | false =>
              obtain rfl : v = false := by rw [← HV.out]; unfold okS; simp [hs, hepoch, hseq, hbody, htag, hcn, k1, k2, hid, hsn, htick, hcookie, hproof]
              go_wp2
              go_ret
              exact ⟨rfl, B0.out⟩
             | true =>
              obtain rfl : v = true := by rw [← HV.out]; unfold okS; simp [hs, hepoch, hseq, hbody, htag, hcn, k1, k2, hid, hsn, htick, hcookie, hproof]
              go_wp2
              go_ret
              exact ⟨rfl, B0.out⟩
        | false =>
         cases k3 : (D.kind == 3) with
         | true =>
          go_wp2_with fail
          refine (l1In D.id 1 9 x0).mono ?_
          rintro e x1 ⟨rfl, rfl⟩
          cases hid : (isIn D.id 1 9) with
          | false =>
           obtain rfl : v = false := by rw [← HV.out]; unfold okS; simp [hs, hepoch, hseq, hbody, htag, hcn, k1, k2, k3, hid]
           go_wp2
           go_ret
           exact ⟨rfl, B0.out⟩
          | true =>
           cases hsn : ((S.sn.n : Int) == 12) with
           | false =>
            obtain rfl : v = false := by rw [← HV.out]; unfold okS; simp [hs, hepoch, hseq, hbody, htag, hcn, k1, k2, k3, hid, hsn]
            go_wp2
            go_ret
            exact ⟨rfl, B0.out⟩
           | true =>
            go_wp2_with fail
            refine (l1In D.tick 0 1000000 x0).mono ?_
            rintro e x1 ⟨rfl, rfl⟩
            cases htick : (isIn D.tick 0 1000000) with
            | false =>
             obtain rfl : v = false := by rw [← HV.out]; unfold okS; simp [hs, hepoch, hseq, hbody, htag, hcn, k1, k2, k3, hid, hsn, htick]
             go_wp2
             go_ret
             exact ⟨rfl, B0.out⟩
            | true =>
             cases hcookie : ((S.cookie.n : Int) == 16) with
             | false =>
              obtain rfl : v = false := by rw [← HV.out]; unfold okS; simp [hs, hepoch, hseq, hbody, htag, hcn, k1, k2, k3, hid, hsn, htick, hcookie]
              go_wp2
              go_ret
              exact ⟨rfl, B0.out⟩
             | true =>
              cases hproof : ((S.proof.n : Int) == 16) with
              | false =>
               obtain rfl : v = false := by rw [← HV.out]; unfold okS; simp [hs, hepoch, hseq, hbody, htag, hcn, k1, k2, k3, hid, hsn, htick, hcookie, hproof]
               go_wp2
               go_ret
               exact ⟨rfl, B0.out⟩
              | true =>
               obtain rfl : v = true := by rw [← HV.out]; unfold okS; simp [hs, hepoch, hseq, hbody, htag, hcn, k1, k2, k3, hid, hsn, htick, hcookie, hproof]
               go_wp2
               go_ret
               exact ⟨rfl, B0.out⟩
         | false =>
          obtain rfl : v = false := by rw [← HV.out]; unfold okS; simp [hs, hepoch, hseq, hbody, htag, hcn, k1, k2, k3]
          go_wp2
          go_ret
          exact ⟨rfl, B0.out⟩
end Go.Proofs.YtpgapjdejelajaaGreatDoor.FrS

namespace Go.Proofs.YtpgapjdejelajaaGreatDoor.FrB2
open Go.RowKit Mem App Zone FrZ FrP FrB

theorem app {a b : List Int} (ha : Bytes a) (hb : Bytes b) : Bytes (a ++ b) := by
 intro z hz
 rcases List.mem_append.1 hz with h | h
 ·
  exact ha z h
 ·
  exact hb z h
theorem rep (n : Nat) : Bytes (List.replicate n 0) := by intro z hz; have := List.eq_of_mem_replicate hz; omega
end Go.Proofs.YtpgapjdejelajaaGreatDoor.FrB2
