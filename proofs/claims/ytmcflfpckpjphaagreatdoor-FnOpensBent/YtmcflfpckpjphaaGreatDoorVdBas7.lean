/-
  What the laws' own 'at' and 'bent' hand back: a byte's number; a copy in new memory, of which one byte is turned.
  What impl's Stream and Mix answer, where the table of round words holds what the program's text lays into it.
  What Diff and SameTag answer, impl's and spec's.
  How long the lists of a Frame are, all in all.
  Slices that came in, as slices that read; answers in new memory, as slices that own theirs.
  One operation of a region that draws its order, under a guard: it runs where its guard holds; else its slot is left undefined.
-/
import Derived.Test.YtmcflfpckpjphaaGreatDoorVdBas6
import Derived.Deep.CutBlock
import Derived.Deep.RegionWith
import Derived.Test.YtmcflfpckpjphaaGreatDoorVdFrZ
import Derived.Test.YtmcflfpckpjphaaGreatDoorVdBas1
set_option linter.unusedVariables false
set_option maxRecDepth 100000
namespace Go.Proofs.YtmcflfpckpjphaaGreatDoor.Bent
open Go.RowKit Mem App AppAt DiffP

theorem row_set {w : World} {g c : Nat} {l : List Int} (h : Row w g c l) (k : Nat) (z : Int) : Row (w.setCell ⟨g, k, none⟩ (.int .u8 z)) g c (l.set k z) ∧ w.grownBy (w.setCell ⟨g, k, none⟩ (.int .u8 z)) (some g) := by
 have hst := (h.owns (Nat.le_refl g)).stored k (.int .u8 z)
 rw [← List.map_set] at hst
 refine ⟨?_, hst.2⟩
 have e : l.length = (l.set k z).length := by simp
 have := hst.1
 rw [e] at this
 exact (Row.of (l := l.set k z) (n := (l.set k z).length) this).1
theorem set_bytes {l : List Int} (h : Bytes l) (p : Nat) (v : Int) (h0 : 0 ≤ v) (h1 : v ≤ 255) : Bytes (l.set p v) := by
 intro z hz
 rcases List.mem_or_eq_of_mem_set hz with h' | rfl
 ·
  exact h z h'
 ·
  exact ⟨h0, h1⟩

end Go.Proofs.YtmcflfpckpjphaaGreatDoor.Bent

namespace Go.Proofs.YtmcflfpckpjphaaGreatDoor.StrI
open Go.RowKit Mem App Blk Pads ShaP Comp MacP MacI KdfP Ranges StrB Each EachIn Bent
attribute [local go_sem] Oper.semAt_some

theorem keyI_full (k : List Int) (h : k.length = 64) : keyI k = k := by
 have hs : short k = k := by unfold short; rw [if_pos (by omega)]
 unfold keyI; rw [if_pos (by omega), hs, h]; simp
theorem hmacI_key (k b : List Int) (h : k.length ≤ 1048576) : hmacI (keyI k) b = hmacI k b := by
 have e := keyI_full _ (keyI_len k h)
 have e2 := keyI_len k h
 unfold hmacI
 by_cases hb : b.length ≤ 1048512
 ·
  rw [if_pos ⟨by omega, hb⟩, if_pos ⟨h, hb⟩, e]
 ·
  rw [if_neg (fun x => hb x.2), if_neg (fun x => hb x.2)]
theorem sblk_key (k h : List Int) (i : Nat) (hk : k.length ≤ 1048576) : sblk (keyI k) h i = sblk k h i := hmacI_key k _ hk

theorem last_blocks (k h : List Int) (i N p : Nat) (hi0 : i = 0 ∨ 32 * i < N) (hN : 32 * i + p = N) (hp : p ≤ 32) (h32 : (sblk k h i).length = 32) (hl : (sblks k h i).length = 32 * i) :
  (sblks k h ((N + 31) / 32)).take N = sblks k h i ++ (sblk k h i).take p := by
 by_cases hp0 : p = 0
 ·
  obtain rfl : i = 0 := by omega
  have : N = 0 := by omega
  subst this hp0
  rfl
 ·
  have : (N + 31) / 32 = i + 1 := by omega
  rw [this]
  show (sblks k h i ++ sblk k h i).take N = _
  rw [List.take_append, hl, List.take_of_length_le (by omega), show N - 32 * i = p by omega]

theorem row_celled {W W' : World} {g c : Nat} {l : List Int} (h : Row W g c l) (hk : CellsKept W W') : Row W' g c l := by
 obtain ⟨h1, h2, cs, h3, h4⟩ := h
 exact ⟨h1, h2, cs, hk.same _ _ h3 rfl, h4⟩
theorem blk_celled {W W' : World} {g : Nat} {t : TypeId} {vs : List Value} (h : Blk W g t vs) (hk : CellsKept W W') : Blk W' g t vs := hk.same _ _ h rfl

abbrev DL1 : List Nat := [22, 23, 24, 25, 26, 27, 28, 29, 30, 31]
set_option maxHeartbeats 4000000 in
theorem implStream (a0 : Option Addr) (n0 c0 : Nat) (a1 : Option Addr) (n1 c1 : Nat) (k h : List Int) (n : Int) (w : World) (hT : Tab w) (e0 : n0 = k.length) (e1 : n1 = h.length) (r0 : Rd w a0 k) (r1 : Rd w a1 h) (na0 : a0 = none → c0 = 0) (na1 : a1 = none → c1 = 0) (hb0 : Bytes k) (hb1 : Bytes h) (l0 : n0 ≤ 2097152) (_l1 : n1 ≤ 2097152) :
  Calls Tryz.prog 100 #[.slice a0 n0 c0, .slice a1 n1 c1, .int .i64 n] w fun e w' =>
   ∃ g m c, e = .returned (.slice (some ⟨g, 0, none⟩) m c) ∧ m = (strI k h n).length ∧ w.heap.size ≤ g ∧ Row w' g c (strI k h n) ∧ Below w.heap.size w w' := by
 have HT := hid (hT)
 have HN0 : Hid (n0 = k.length) := e0
 have HN1 : Hid (n1 = h.length) := e1
 have HR0 := hid (r0)
 have HR1 := hid (r1)
 have HB0 := hid (hb0)
 have HB1 := hid (hb1)
 obtain ⟨w0, hw0⟩ : ∃ w0, w.alloc (.cells #[.int .i64 n] 3) = w0 := ⟨_, rfl⟩
 have HW0 := hid (hw0)
 have B0 : Hid (Below w.heap.size w w0) := by rw [← hw0]; exact (Below.refl _ _).alloc (Nat.le_refl _) _
 have K0 : Hid (Blk w0 w.heap.size 3 [.int .i64 n]) := by rw [← hw0]; exact Blk.new w _ _
 have S0 : Hid (w0.heap.size = w.heap.size + 1) := by show _ = _; rw [← hw0]; simp
 have HC : Hid (Calls Tryz.prog 140 #[.slice a0 n0 c0, .slice a1 n1 c1, .int .i64 n] w0 fun e w' => e = .returned (.bool (mayStr k h n)) ∧ w0 = w') := canStream a0 n0 c0 a1 n1 c1 k h n w0 e0 e1
 clear hT e0 e1 r0 r1 hb0 hb1 hw0
 have q0 := K0.out.cell 0 rfl
 cases hm : mayStr k h n with
 | false =>
  have HE : Hid (strI k h n = []) := strI_no k h n hm
  rw [hm] at HC
  clear hm
  have A0 : Hid (Below w.heap.size w (w0.alloc (.cells #[] 5))) := B0.out.alloc B0.out.size _
  have R0 : Hid (Row (w0.alloc (.cells #[] 5)) w0.heap.size 0 []) := row_new w0 [] (by simp)
  go_enter Tryz.func100, Tryz.ntmps100
  go_upto_region 1 with fail
  rw [HW0.out]
  go_wp2_with fail
  refine HC.out.mono ?_
  rintro e w1 ⟨rfl, rfl⟩
  go_wp2
  go_ret
  exact ⟨w0.heap.size, 0, 0, by simp, by rw [HE.out]; rfl, by have := S0.out; omega, by rw [HE.out]; exact R0.out, A0.out⟩
 | true =>
  obtain ⟨h0, h1, h2, h3⟩ := (mayStr_iff k h n).1 hm
  obtain ⟨N, rfl⟩ := Int.eq_ofNat_of_zero_le h0
  obtain ⟨i0, hi, hz0, hz1, hz2⟩ := info_parts info8
  have HE : Hid (strI k h (N : Int) = (sblks k h ((N + 31) / 32)).take N) := by show _ = _; rw [strI_yes k h _ hm, Int.toNat_natCast]
  have HEL : Hid (N = (strI k h (N : Int)).length) := (strI_len k h N hm).symm
  have HK3 : Hid (k.length ≤ 1048576) := h3
  have HF2 : Hid (h.length ≤ 100) := h2
  have hN : N ≤ 200 := by omega
  have hn1 : n1 ≤ 100 := by rw [HN1.out]; exact h2
  have HKL : Hid ((keyI k).length = 64) := keyI_len k h3
  have HKB : Hid (Bytes (keyI k)) := keyI_bytes k HB0.out
  rw [hm] at HC
  clear hm h0 h1 h2 h3
  refine (callsIn_wide (n := 3)).1 ?_
  refine callsIn_of_wp_marks Tryz.func100 rfl trivial ?_ rfl
  simp only [Tryz.ntmps100, List.size_toArray, List.length_cons, List.length_nil, Nat.reduceAdd, Nat.reduceSub, Array.replicate_succ, Array.replicate_zero, List.push_toArray, List.append_toArray, List.nil_append, List.cons_append]
  gi_wp2_with fail
  refine ⟨trivial, ?_⟩
  rw [HW0.out]
  refine (callsIn_wide.2 HC.out).mono ?_
  rintro e w1 ⟨rfl, rfl⟩
  gi_wp2_with (gi_at_make; refine wpListIn_make_own _ rfl _ _ 22 rfl w0.heap.size 5 i0 (.int .u8 0) 1 Tryz.underlying22 hi hz0 hz1 .i64 .i64 (N : Int) N rfl rfl rfl (by rw [hz2]; omega) (by unfold maxLen; omega) (Nat.le_refl _) ?_; intro w1 hown hgr; have B1 : Hid (Below w0.heap.size w0 w1) := (Below.refl _ _).grown hgr (Nat.le_refl _) (fun k h => by cases h); have R1 : Hid (Row w1 w0.heap.size N []) := (Row.of (l := []) hown).1; clear hown hgr)
  obtain ⟨bn, hbn⟩ : ∃ bn, w.heap.size = bn := ⟨_, rfl⟩
  obtain ⟨go, hgo⟩ : ∃ go, w0.heap.size = go := ⟨_, rfl⟩
  obtain ⟨bo, hbo⟩ : ∃ bo, w1.heap.size = bo := ⟨_, rfl⟩
  obtain ⟨w2, hw2⟩ : ∃ w2, w1.alloc (.cells #[.slice (some ⟨go, 0, none⟩) 0 N] 22) = w2 := ⟨_, rfl⟩
  have LT1 : Hid (bn < go ∧ go < bo) := ⟨by have := S0.out; omega, by rw [← hbo, ← hgo]; exact R1.out.lt⟩
  have K2o : Hid (Blk w2 bo 22 [.slice (some ⟨go, 0, none⟩) 0 N]) := by rw [← hw2, ← hbo]; exact Blk.new w1 _ _
  have K2n : Hid (Blk w2 bn 3 [.int .i64 (N : Int)]) := by rw [← hw2, ← hbn]; exact (K0.out.later B1.out).alloc _
  have R2 : Hid (Row w2 go N []) := by rw [← hw2, ← hgo]; exact row_alloc R1.out _
  have B2 : Hid (Below bn w w2) := by rw [← hw2, ← hbn]; exact (B0.out.trans (B1.out.mono B0.out.size)).alloc (Nat.le_trans B0.out.size B1.out.size) _
  have HT2 := hid (HT.out.later (by rw [hbn]; exact B2.out))
  have RK2 := hid (HR0.out.later B2.out (by rw [hbn]; exact Nat.le_refl _))
  have RH2 := hid (HR1.out.later B2.out (by rw [hbn]; exact Nat.le_refl _))
  refine ⟨trivial, ?_⟩
  rw [hgo, hw2, hbo, hbn]
  clear R1 B1 K0 S0 B0 q0 HW0 HC hw2
  refine (callsIn_wide.2 (implBlockKey a0 n0 c0 k w2 HT2.out HN0.out RK2.out na0 HB0.out l0)).mono ?_
  rintro e w3 ⟨gk, mk, ck, rfl, em, k3, r3, b3⟩
  obtain rfl : 64 = mk := by rw [em, HKL.out]
  have RK3 := hid (r3)
  have B3 := hid (b3)
  have GK : Hid (bo < gk) := Nat.lt_of_lt_of_le K2o.out.lt k3
  clear em k3 r3 b3
  gi_wp2_with fail
  refine ⟨trivial, ?_⟩
  refine (callsIn_wide.2 (streamBlocks (some ⟨gk, 0, none⟩) 64 ck a1 n1 c1 w3)).mono ?_
  rintro e w4 ⟨rfl, k4, h4, b4⟩
  obtain ⟨q, hq⟩ : ∃ q, w3.heap.size = q := ⟨_, rfl⟩
  have B34 := hid (b4)
  have B24 := hid (B3.out.trans (b4.mono B3.out.size))
  have Q0 : Hid (Blk w4 q 22 [.slice (some ⟨gk, 0, none⟩) 64 ck]) := hq ▸ k4
  have Q1 : Hid (Blk w4 (q + 1) 22 [.slice a1 n1 c1]) := hq ▸ h4
  have GQ : Hid (bo < q) := by have h1 := K2o.out.lt; have h2 := B3.out.size; show bo < q; omega
  have RK4 := hid (RK3.out.later B34.out)
  have K4o := hid (K2o.out.later B24.out)
  have K4n := hid (K2n.out.later B24.out)
  have R4 := hid (R2.out.later B24.out)
  have B4 := hid (B2.out.trans (B24.out.mono (by have := B2.out.size; omega)))
  rw [hq]
  clear k4 h4 b4 B34 B24 RK3 RH2 RK2 K2o K2n R2 B2 HT2 B3 HR0 hbo hgo
  gi_wp2
  have SZ4 : Hid (bn ≤ w4.heap.size) := by have := B4.out.size; show bn ≤ _; omega
  have HSK : Hid (∀ i, sblk (keyI k) h i = sblk k h i) := fun i => sblk_key k h i HK3.out
  refine range_fed (p := 21) rfl (by omega) (gf := 161) (lb := caught q) rfl trivial (enters_of Tryz.func161 (by kernel_rfl) rfl) 7 (Given (keyI k) h) (Reads q (some ⟨gk, 0, none⟩) 64 ck a1 n1 c1 (keyI k) h)
   (fun W => feeds 2 q (by omega) (some ⟨gk, 0, none⟩) 64 ck a1 n1 c1 (keyI k) h W HKL.out.symm HN1.out (by intro e; cases e) na1 HKB.out HB1.out (by omega) hn1)
   (fun i W => (i = 0 ∨ 32 * i < N) ∧ Blk W bo 22 [.slice (some ⟨go, 0, none⟩) (32 * i) N] ∧ Row W go N (sblks k h i) ∧ Blk W bn 3 [.int .i64 (N : Int)] ∧ Row W gk ck (keyI k) ∧ Blk W q 22 [.slice (some ⟨gk, 0, none⟩) 64 ck] ∧ Blk W (q + 1) 22 [.slice a1 n1 c1] ∧ Below bn w W)
   (fun c W => c = .exit 0 ∧ Blk W bo 22 [.slice (some ⟨go, 0, none⟩) N N] ∧ Row W go N (strI k h (N : Int)) ∧ Below bn w W)
   (fun i v W W' hg hk _ => by obtain ⟨g, c, e, r⟩ := hg; exact ⟨g, c, e, row_celled r hk⟩)
   (fun i W W' hi hk hb => ⟨hi.1, blk_celled hi.2.1 hk, row_celled hi.2.2.1 hk, blk_celled hi.2.2.2.1 hk, row_celled hi.2.2.2.2.1 hk, blk_celled hi.2.2.2.2.2.1 hk, blk_celled hi.2.2.2.2.2.2.1 hk, hi.2.2.2.2.2.2.2.trans (hb.mono SZ4.out)⟩)
   (fun c W W' hi hk hb => ⟨hi.1, blk_celled hi.2.1 hk, row_celled hi.2.2.1 hk, hi.2.2.2.trans (hb.mono SZ4.out)⟩)
   (fun i W hi => ⟨HT.out.later (by rw [hbn]; exact hi.2.2.2.2.2.2.2), hi.2.2.2.2.1.rd, HR1.out.later hi.2.2.2.2.2.2.2 (by rw [hbn]; exact Nat.le_refl _), hi.2.2.2.2.2.1, hi.2.2.2.2.2.2.1⟩)
   ⟨.inl rfl, K4o.out, R4.out, K4n.out, RK4.out, Q0.out, Q1.out, B4.out⟩
   (fun v => { tmps := #[.slice a0 n0 c0, .slice a1 n1 c1, .int .i64 (N : Int), undef, undef, .pointer (some ⟨bn, 0, none⟩), .slice none 0 0, .pointer (some ⟨bo, 0, none⟩), v, .slice a0 n0 c0, .slice a1 n1 c1, .int .i64 (N : Int), .bool true, .bool false, undef, .int .i64 (N : Int), .slice (some ⟨go, 0, none⟩) 0 N, .slice a0 n0 c0, .slice (some ⟨gk, 0, none⟩) 64 ck, .slice a1 n1 c1, .func (.func 161) #[] (caught q), v, undef, undef, undef, undef, undef, undef, undef, undef, undef, undef, undef, undef, undef, undef, undef, undef], defers := [] }) ?assign ?body ?done ?stop
  case assign =>
   intro l v W K hK
   gi_wp2
   exact hK
  case body =>
   rintro l i v W hi7 ⟨hi0, ho, hr, hn, hgk, hq0, hq1, hB⟩ ⟨g, c, rfl, hg⟩
   rw [HSK.out i] at hg
   have KO := hid (ho)
   have KN := hid (hn)
   have RO := hid (hr)
   have RG := hid (hg)
   have BW := hid (hB)
   have KK := hid (hgk)
   have KQ0 := hid (hq0)
   have KQ1 := hid (hq1)
   have H32 : Hid ((sblk k h i).length = 32) := sblk_len k h HK3.out HF2.out i
   have HBL : Hid ((sblks k h i).length = 32 * i) := sblks_len k h HK3.out HF2.out i
   clear ho hr hn hg hB hgk hq0 hq1
   have hiN : 32 * i ≤ N := by omega
   obtain ⟨r, hr⟩ : ∃ r, N - 32 * i = r := ⟨_, rfl⟩
   obtain ⟨p, hp⟩ : ∃ p, min 32 r = p := ⟨_, rfl⟩
   have hpI : (if (N : Int) - ((32 * i : Nat) : Int) < 32 then (N : Int) - ((32 * i : Nat) : Int) else 32) = (p : Int) := by split <;> omega
   have hwr : IntKind.i64.wrap ((N : Int) - ((32 * i : Nat) : Int)) = (N : Int) - ((32 * i : Nat) : Int) := by rw [IntKind.wrap_i64]; omega
   have HPL : Hid (p = ((sblk k h i).take p).length) := by show _ = _; rw [List.length_take, H32.out]; omega
   have hc32 : 32 ≤ c := by have := RG.out.1; rw [H32.out] at this; exact this
   have i1 : (p : Int) ≤ (c : Int) := by omega
   have i0' : (0 : Int) ≤ (p : Int) := by omega
   have hc0 : ¬ c = 0 := by omega
   gi_wp2_with fail
   rename_i Qb Kb hKb
   obtain ⟨no, hno⟩ : ∃ no, 32 * i = no := ⟨_, rfl⟩
   have HNO : Hid (32 * i = no) := hno
   rw [hno] at KO HBL hr hpI hwr hiN
   have hcn : i ≤ 6 := by omega
   clear hno
   have HR : Hid (N - no = r) := hr
   have HP : Hid (min 32 r = p) := hp
   have hp32 : p ≤ 32 := by omega
   have HPN : Hid (no + p ≤ N) := by show _ ≤ _; omega
   clear hr hp
   have kO := KO.out.cell 0 rfl
   have kN := KN.out.cell 0 rfl
   have kF := KO.out.frozen 0
   generalize hA : Act.mk _ _ = A
   have a5 : A.eval (.tmp 5) = .pointer (some ⟨bn, 0, none⟩) := by rw [← hA]; rfl
   have a7 : A.eval (.tmp 7) = .pointer (some ⟨bo, 0, none⟩) := by rw [← hA]; rfl
   have a8 : A.eval (.tmp 8) = .slice (some ⟨g, 0, none⟩) 32 c := by rw [← hA]; rfl
   have asz : A.tmps.size = 38 := by rw [← hA]; rfl
   refine region_two_in (by kernel_rfl) DL1 10 (fun i => DL1.getD i 0) (fun _ => 0)
    (fun j _ v _ => match j with
     | 0 => v = Value.slice (some ⟨go, 0, none⟩) no N
     | 1 => v = Value.slice (some ⟨g, 0, none⟩) 32 c
     | 2 => v = Value.slice (some ⟨g, 0, none⟩) 32 c
     | 3 => v = Value.int .i64 32
     | 4 => v = Value.int .i64 (N : Int)
     | 5 => v = Value.slice (some ⟨go, 0, none⟩) no N
     | 6 => v = Value.int .i64 (no : Int)
     | 7 => v = Value.int .i64 ((N : Int) - (no : Int))
     | 8 => v = Value.int .i64 (p : Int)
     | 9 => v = Value.slice (some ⟨g, 0, none⟩) p c
     | _ => False) (fun wx => wx = W.drew) (by kernel_rfl) rfl ?_ ?_ ?_
   ·
    intro j gg v wx wy hj hF _ _
    match j, hj with
    | 0, _ => exact hF
    | 1, _ => exact hF
    | 2, _ => exact hF
    | 3, _ => exact hF
    | 4, _ => exact hF
    | 5, _ => exact hF
    | 6, _ => exact hF
    | 7, _ => exact hF
    | 8, _ => exact hF
    | 9, _ => exact hF
   ·
    intro j hj t ρ wx hB hp hd
    subst hB
    match j, hj with
    | 0, _ =>
     have e7 : (fr DL1 A t).eval (.tmp 7) = .pointer (some ⟨bo, 0, none⟩) := (fr_eval_old _ _ _ 7 rfl).trans a7
     refine op_run_in (v := Value.slice (some ⟨go, 0, none⟩) no N) (w' := W.drew) rfl rfl (by intro f hf; simp [Oper.about] at hf) (Oper.semAt_plain _ _ _ (by intro c hc; cases hc)) ?_ ?_
     ·
      clear hp hd; generalize (fr DL1 A t).eval = ev at e7 ⊢; go_simp
     ·
      exact ⟨_, 0, rfl, rfl, Below.refl _ _, rfl, .inl rfl⟩
    | 1, _ =>
     have e8 : (fr DL1 A t).eval (.tmp 8) = .slice (some ⟨g, 0, none⟩) 32 c := (fr_eval_old _ _ _ 8 rfl).trans a8
     refine op_run_in (v := Value.slice (some ⟨g, 0, none⟩) 32 c) (w' := W.drew) rfl rfl (by intro f hf; simp [Oper.about] at hf) (Oper.semAt_plain _ _ _ (by intro c hc; cases hc)) ?_ ?_
     ·
      clear hp hd; generalize (fr DL1 A t).eval = ev at e8 ⊢; go_simp
     ·
      exact ⟨_, 0, rfl, rfl, Below.refl _ _, rfl, .inl rfl⟩
    | 2, _ =>
     have e8 : (fr DL1 A t).eval (.tmp 8) = .slice (some ⟨g, 0, none⟩) 32 c := (fr_eval_old _ _ _ 8 rfl).trans a8
     refine op_run_in (v := Value.slice (some ⟨g, 0, none⟩) 32 c) (w' := W.drew) rfl rfl (by intro f hf; simp [Oper.about] at hf) (Oper.semAt_plain _ _ _ (by intro c hc; cases hc)) ?_ ?_
     ·
      clear hp hd; generalize (fr DL1 A t).eval = ev at e8 ⊢; go_simp
     ·
      exact ⟨_, 0, rfl, rfl, Below.refl _ _, rfl, .inl rfl⟩
    | 3, _ =>
     have e24 : (fr DL1 A t).eval (.tmp 24) = Value.slice (some ⟨g, 0, none⟩) 32 c := (fr_eval _ _ _ 24 rfl (by rw [asz]; decide)).trans (hp 2 (pre_mem (by kernel_rfl)))
     refine op_run_in (v := Value.int .i64 32) (w' := W.drew) rfl rfl (by intro f hf; simp [Oper.about, resolve, Target.leads, Sem.run_pure] at hf) (Oper.semAt_plain _ _ _ (by intro c hc; cases hc)) ?_ ?_
     ·
      clear hp hd; generalize (fr DL1 A t).eval = ev at e24 ⊢; go_simp
     ·
      exact ⟨_, 0, rfl, rfl, Below.refl _ _, rfl, .inl rfl⟩
    | 4, _ =>
     have e5 : (fr DL1 A t).eval (.tmp 5) = .pointer (some ⟨bn, 0, none⟩) := (fr_eval_old _ _ _ 5 rfl).trans a5
     refine op_run_in (v := Value.int .i64 (N : Int)) (w' := W.drew) rfl rfl (by intro f hf; simp [Oper.about] at hf) (Oper.semAt_plain _ _ _ (by intro c hc; cases hc)) ?_ ?_
     ·
      clear hp hd; generalize (fr DL1 A t).eval = ev at e5 ⊢; go_simp
     ·
      exact ⟨_, 0, rfl, rfl, Below.refl _ _, rfl, .inl rfl⟩
    | 5, _ =>
     have e7 : (fr DL1 A t).eval (.tmp 7) = .pointer (some ⟨bo, 0, none⟩) := (fr_eval_old _ _ _ 7 rfl).trans a7
     refine op_run_in (v := Value.slice (some ⟨go, 0, none⟩) no N) (w' := W.drew) rfl rfl (by intro f hf; simp [Oper.about] at hf) (Oper.semAt_plain _ _ _ (by intro c hc; cases hc)) ?_ ?_
     ·
      clear hp hd; generalize (fr DL1 A t).eval = ev at e7 ⊢; go_simp
     ·
      exact ⟨_, 0, rfl, rfl, Below.refl _ _, rfl, .inl rfl⟩
    | 6, _ =>
     have e27 : (fr DL1 A t).eval (.tmp 27) = Value.slice (some ⟨go, 0, none⟩) no N := (fr_eval _ _ _ 27 rfl (by rw [asz]; decide)).trans (hp 5 (pre_mem (by kernel_rfl)))
     refine op_run_in (v := Value.int .i64 (no : Int)) (w' := W.drew) rfl rfl (by intro f hf; simp [Oper.about, resolve, Target.leads, Sem.run_pure] at hf) (Oper.semAt_plain _ _ _ (by intro c hc; cases hc)) ?_ ?_
     ·
      clear hp hd; generalize (fr DL1 A t).eval = ev at e27 ⊢; go_simp
     ·
      exact ⟨_, 0, rfl, rfl, Below.refl _ _, rfl, .inl rfl⟩
    | 7, _ =>
     have e26 : (fr DL1 A t).eval (.tmp 26) = Value.int .i64 (N : Int) := (fr_eval _ _ _ 26 rfl (by rw [asz]; decide)).trans (hp 4 (pre_mem (by kernel_rfl)))
     have e28 : (fr DL1 A t).eval (.tmp 28) = Value.int .i64 (no : Int) := (fr_eval _ _ _ 28 rfl (by rw [asz]; decide)).trans (hp 6 (pre_mem (by kernel_rfl)))
     refine op_run_in (v := Value.int .i64 ((N : Int) - (no : Int))) (w' := W.drew) rfl rfl (by intro f hf; simp [Oper.about] at hf) (Oper.semAt_plain _ _ _ (by intro c hc; cases hc)) ?_ ?_
     ·
      clear hp hd; generalize (fr DL1 A t).eval = ev at e26 e28 ⊢; go_simp
     ·
      exact ⟨_, 0, rfl, rfl, Below.refl _ _, rfl, .inl rfl⟩
    | 8, _ =>
     have e25 : (fr DL1 A t).eval (.tmp 25) = Value.int .i64 32 := (fr_eval _ _ _ 25 rfl (by rw [asz]; decide)).trans (hp 3 (pre_mem (by kernel_rfl)))
     have e29 : (fr DL1 A t).eval (.tmp 29) = Value.int .i64 ((N : Int) - (no : Int)) := (fr_eval _ _ _ 29 rfl (by rw [asz]; decide)).trans (hp 7 (pre_mem (by kernel_rfl)))
     refine op_run_in (v := Value.int .i64 (p : Int)) (w' := W.drew) rfl rfl (by intro f hf; simp [Oper.about, resolve, Target.leads, Sem.run_pure] at hf) (Oper.semAt_plain _ _ _ (by intro c hc; cases hc)) ?_ ?_
     ·
      clear hp hd; generalize (fr DL1 A t).eval = ev at e25 e29 ⊢; go_simp
     ·
      exact ⟨_, 0, rfl, rfl, Below.refl _ _, rfl, .inl rfl⟩
    | 9, _ =>
     have e23 : (fr DL1 A t).eval (.tmp 23) = Value.slice (some ⟨g, 0, none⟩) 32 c := (fr_eval _ _ _ 23 rfl (by rw [asz]; decide)).trans (hp 1 (pre_mem (by kernel_rfl)))
     have e30 : (fr DL1 A t).eval (.tmp 30) = Value.int .i64 (p : Int) := (fr_eval _ _ _ 30 rfl (by rw [asz]; decide)).trans (hp 8 (pre_mem (by kernel_rfl)))
     refine op_run_in (v := Value.slice (some ⟨g, 0, none⟩) p c) (w' := W.drew) rfl rfl (by intro f hf; simp [Oper.about] at hf) (Oper.semAt_plain _ _ _ (by intro c hc; cases hc)) ?_ ?_
     ·
      clear hp hd; generalize (fr DL1 A t).eval = ev at e23 e30 ⊢; go_simp
     ·
      exact ⟨_, 0, rfl, rfl, Below.refl _ _, rfl, .inl rfl⟩
   ·
    intro t ρ wx hB hF _
    subst hB
    have h22 := hF 0 (by decide)
    have h31 := hF 9 (by decide)
    clear hF
    have e22 : (fr DL1 A t).eval (.tmp 22) = .slice (some ⟨go, 0, none⟩) no N := (fr_eval _ _ _ 22 rfl (by rw [asz]; decide)).trans h22
    have e31 : (fr DL1 A t).eval (.tmp 31) = .slice (some ⟨g, 0, none⟩) p c := (fr_eval _ _ _ 31 rfl (by rw [asz]; decide)).trans h31
    have RG1 : Hid (Rd W.drew (some ⟨g, 0, none⟩) ((sblk k h i).take p)) := by
     have h1 := RG.out.rd
     intro j hj
     rw [List.length_take] at hj
     obtain ⟨b', off, e, hb', hh⟩ := h1 j (by omega)
     refine ⟨b', off, e, hb', ?_⟩
     show W.cell? _ = _
     rw [hh]
     have : j < p := by omega
     simp [List.getD, this]
    refine op_fit_in rfl rfl (.tmp 22) (.tmp 31) rfl go no N (sblks k h i) ((sblk k h i).take p) e22 HBL.out.symm RO.out ⟨g, 0, none⟩ p c e31 HPL.out RG1.out (by rw [HBL.out, ← HPL.out]; exact HPN.out) ?_
    intro w5 r5 g5
    have NGO : Hid (bo ≠ go ∧ bn ≠ go ∧ bn ≠ bo) := by have := LT1.out; exact ⟨by omega, by omega, by omega⟩
    have K5o := hid (KO.out.keep (g5.block bo KO.out.lt (by simp only [ne_eq, Option.some.injEq]; exact NGO.out.1)))
    have K5n := hid (KN.out.keep (g5.block bn KN.out.lt (by simp only [ne_eq, Option.some.injEq]; exact NGO.out.2.1)))
    have O5 : Hid (KeepsOthers W w5) := (KeepsOthers.drew W).trans (KeepsOthers.of_grownBy g5 (fun j o ej hj => by
     cases ej
     obtain ⟨_, _, cur, hc, _⟩ := RO.out
     have := hj.symm.trans hc
     cases this; rfl))
    have K5k := hid (KK.out.keep (g5.block gk KK.out.lt (by simp only [ne_eq, Option.some.injEq]; have := hid2 LT1 GK; omega)))
    have K5q := hid (KQ0.out.keep (g5.block q KQ0.out.lt (by simp only [ne_eq, Option.some.injEq]; have := hid2 LT1 GQ; omega)))
    have K5r := hid (KQ1.out.keep (g5.block (q + 1) KQ1.out.lt (by simp only [ne_eq, Option.some.injEq]; have := hid2 LT1 GQ; omega)))
    have B5 : Hid (Below bn w w5) := BW.out.drew.grown g5 (by have := BW.out.size; show bn ≤ W.heap.size; omega) (fun j e => by cases e; have := LT1.out; omega)
    have R5 := hid (r5)
    clear r5 g5
    have c5 := K5o.out.cell 0 rfl
    have f5 := K5o.out.frozen 0
    have e7 : (fr DL1 A t).eval (.tmp 7) = .pointer (some ⟨bo, 0, none⟩) := (fr_eval_old _ _ _ 7 rfl).trans a7
    have eF : (fr DL1 A t).put (some 32) (.slice (some ⟨go, 0, none⟩) (no + p) N) = { tmps := #[.slice a0 n0 c0, .slice a1 n1 c1, .int .i64 (N : Int), undef, undef, .pointer (some ⟨bn, 0, none⟩), .slice none 0 0, .pointer (some ⟨bo, 0, none⟩), .slice (some ⟨g, 0, none⟩) 32 c, .slice a0 n0 c0, .slice a1 n1 c1, .int .i64 (N : Int), .bool true, .bool false, undef, .int .i64 (N : Int), .slice (some ⟨go, 0, none⟩) 0 N, .slice a0 n0 c0, .slice (some ⟨gk, 0, none⟩) 64 ck, .slice a1 n1 c1, .func (.func 161) #[] (caught q), .slice (some ⟨g, 0, none⟩) 32 c, t 22, t 23, t 24, t 25, t 26, t 27, t 28, t 29, t 30, t 31, .slice (some ⟨go, 0, none⟩) (no + p) N, undef, undef, undef, undef, undef], defers := [] } := by rw [← hA]; rfl
    show wpOpIn _ _ _ _ _ _ _ ((fr DL1 A t).put (some 32) (.slice (some ⟨go, 0, none⟩) (no + p) N)) w5
    rw [eF]
    generalize t 22 = t22
    generalize t 23 = t23
    generalize t 24 = t24
    generalize t 25 = t25
    generalize t 26 = t26
    generalize t 27 = t27
    generalize t 28 = t28
    generalize t 29 = t29
    generalize t 30 = t30
    generalize t 31 = t31
    obtain ⟨w6, hw6⟩ : ∃ w6, w5.setCell ⟨bo, 0, none⟩ (.slice (some ⟨go, 0, none⟩) (no + p) N) = w6 := ⟨_, rfl⟩
    have K6o : Hid (Blk w6 bo 22 [.slice (some ⟨go, 0, none⟩) (no + p) N]) := by rw [← hw6]; exact K5o.out.set 0 _ (by simp [maxLen])
    have K6n : Hid (Blk w6 bn 3 [.int .i64 (N : Int)]) := by rw [← hw6]; exact K5n.out.other NGO.out.2.2 _
    have K6k : Hid (Row w6 gk ck (keyI k)) := by rw [← hw6]; exact K5k.out.keep (Below.heap_setCell _ _ _ gk (by show gk ≠ bo; have := GK.out; omega))
    have K6q : Hid (Blk w6 q 22 [.slice (some ⟨gk, 0, none⟩) 64 ck]) := by rw [← hw6]; exact K5q.out.other (by show q ≠ bo; have := GQ.out; omega) _
    have K6r : Hid (Blk w6 (q + 1) 22 [.slice a1 n1 c1]) := by rw [← hw6]; exact K5r.out.other (by show q + 1 ≠ bo; have := GQ.out; omega) _
    have R6 : Hid (Row w6 go N (sblks k h i ++ (sblk k h i).take p)) := by rw [← hw6]; exact R5.out.keep (Below.heap_setCell _ _ _ go (Ne.symm NGO.out.1))
    have B6 : Hid (Below bn w w6) := by rw [← hw6]; exact B5.out.setCell (by show bn ≤ bo; have := LT1.out; omega) _
    have O6 : Hid (KeepsOthers W w6) := by rw [← hw6]; exact O5.out.trans (KeepsOthers.setCell _ _ _)
    have c6 := K6o.out.cell 0 rfl
    have c6n := K6n.out.cell 0 rfl
    clear hA eF a5 a7 a8 asz e7 e22 e31 h22 h31 kO kN kF KO KN RO K5o K5n K5k K5q K5r R5 B5 O5 RG RG1 BW KK KQ0 KQ1 hwr hpI
    by_cases hlast : no + p = N
    ·
     have HLA : Hid (no + p = N) := hlast
     have HFIN : Hid (sblks k h i ++ (sblk k h i).take p = strI k h (N : Int)) := by
      show _ = _
      rw [HE.out]
      exact (last_blocks k h i N p (by omega) (by rw [HNO.out]; exact hlast) hp32 (by rw [H32.out]) (by rw [HBL.out, HNO.out])).symm
     rw [hlast] at hw6 K6o c6 ⊢
     rw [HFIN.out] at R6
     clear hlast hiN
     refine op_wp_in rfl rfl ?_
     go_simp
     clear hw6 c5 f5
     refine hKb _ _ ?_
     gi_wp2
     exact ⟨O6.out, rfl, K6o.out, R6.out, B6.out⟩
    ·
     have hlI : ¬ (((no + p : Nat) : Int) = (N : Int)) := by omega
     have hp' : p = 32 := by have := hid2 HP HR; omega
     have HNX : Hid (no + p = 32 * (i + 1) ∧ 32 * (i + 1) < N) := by have := hid2 HNO HPN; exact ⟨by omega, by omega⟩
     have HSX : Hid (sblks k h i ++ (sblk k h i).take p = sblks k h (i + 1)) := by
      show _ = _
      rw [List.take_of_length_le (by rw [H32.out]; omega)]; rfl
     rw [HSX.out] at R6
     clear hp' hlast hiN
     obtain ⟨m, hm⟩ : ∃ m, no + p = m := ⟨_, rfl⟩
     rw [hm] at hlI HNX K6o c6 hw6 ⊢
     clear hm
     refine op_wp_in rfl rfl ?_
     go_simp
     clear hw6 c5 f5
     refine hKb _ _ ?_
     gi_wp2
     exact ⟨O6.out, .inr HNX.out.2, HNX.out.1 ▸ K6o.out, R6.out, K6n.out, K6k.out, K6q.out, K6r.out, B6.out⟩
  case done =>
   rintro D W hD ⟨h7, _⟩ hK
   exact absurd h7 (by omega)
  case stop =>
   rintro D c W hD ⟨rfl, ho, hr, hB⟩ hK
   have KO := hid (ho)
   have RO := hid (hr)
   have BO := hid (hB)
   have cO := ho.cell 0 rfl
   clear ho hr hB
   gi_wp2
   refine ⟨by simp, .inl ⟨_, _, rfl, run_takeDeferred hK, ?_⟩⟩
   exact ⟨_, results_tmp rfl _ _ _, go, N, N, rfl, HEL.out, by have := LT1.out; omega, row_celled RO.out (CellsKept.put _ hK rfl), by rw [hbn]; exact below_put _ BO.out (by have := SZ4.out; omega) hK⟩

def mid (b s : List Int) (q : Nat) : List Int := (xors b s).take q ++ s.drop q
theorem mid_len (b s : List Int) (q : Nat) (h : s.length ≤ b.length) (hq : q ≤ s.length) : (mid b s q).length = s.length := by
 unfold mid; rw [List.length_append, List.length_take, List.length_drop, xors_length]; omega
theorem mid_at (b s : List Int) (q : Nat) (h : s.length ≤ b.length) (hq : q < s.length) : (mid b s q).getD q 0 = s.getD q 0 := by
 have hl : ((xors b s).take q).length = q := by rw [List.length_take, xors_length]; omega
 unfold mid
 simp only [List.getD]
 rw [List.getElem?_append_right (by omega), hl, Nat.sub_self, List.getElem?_drop, Nat.add_zero]
theorem mid_set (b s : List Int) (q : Nat) (hb : Bytes b) (hs : Bytes s) (h : s.length ≤ b.length) (hq : q < s.length) : (mid b s q).set q (bits .xor .u8 (s.getD q 0) (b.getD q 0)) = mid b s (q + 1) := by
 have hl : ((xors b s).take q).length = q := by rw [List.length_take, xors_length]; omega
 have hx : q < (xors b s).length := by rw [xors_length]; omega
 have hqb : q < b.length := by omega
 have e := xors_at b s q hqb hq
 rw [List.getElem?_eq_getElem hx, Option.some.injEq] at e
 have e1 : s.getD q 0 = s[q] := by simp [List.getD, hq]
 have e2 : b.getD q 0 = b[q] := by simp [List.getD, hqb]
 have p1 := hs _ (List.getElem_mem hq)
 have p2 := hb _ (List.getElem_mem hqb)
 unfold mid
 rw [List.set_append_right _ _ (by omega), hl, Nat.sub_self, List.take_succ_eq_append_getElem hx, e, e1, e2, DiffP.bits_xor_comm _ _ p1.1 p1.2 p2.1 p2.2, List.append_assoc, List.drop_eq_getElem_cons hq]
 rfl
theorem mid_all (b s : List Int) (h : s.length ≤ b.length) : mid b s s.length = xors b s := by
 unfold mid
 rw [List.drop_length, List.append_nil, List.take_of_length_le (by rw [xors_length]; omega)]

set_option maxHeartbeats 4000000 in
theorem implMix (a0 : Option Addr) (n0 c0 : Nat) (a1 : Option Addr) (n1 c1 : Nat) (ab : Option Addr) (nb cb : Nat) (k h b : List Int) (w : World) (hT : Tab w) (e0 : n0 = k.length) (e1 : n1 = h.length) (eb : nb = b.length) (r0 : Rd w a0 k) (r1 : Rd w a1 h) (rb : Rd w ab b) (na0 : a0 = none → c0 = 0) (na1 : a1 = none → c1 = 0) (hb0 : Bytes k) (hb1 : Bytes h) (hbb : Bytes b) (l0 : n0 ≤ 2097152) (l1 : n1 ≤ 2097152) (lb : nb ≤ 2097152) :
  Calls Tryz.prog 58 #[.slice a0 n0 c0, .slice a1 n1 c1, .slice ab nb cb] w fun e w' =>
   ∃ g m c, e = .returned (.slice (some ⟨g, 0, none⟩) m c) ∧ m = (mixI k h b).length ∧ w.heap.size ≤ g ∧ Row w' g c (mixI k h b) ∧ Below w.heap.size w w' := by
 have HT := hid (hT)
 have HN0 : Hid (n0 = k.length) := e0
 have HN1 : Hid (n1 = h.length) := e1
 have HNB : Hid (nb = b.length) := eb
 have HR0 := hid (r0)
 have HR1 := hid (r1)
 have HRB := hid (rb)
 have HB0 := hid (hb0)
 have HB1 := hid (hb1)
 have HBB := hid (hbb)
 obtain ⟨s, hs⟩ : ∃ s, strI k h (nb : Int) = s := ⟨_, rfl⟩
 have HS : Hid (strI k h (nb : Int) = s) := hs
 have HM : Hid (mixI k h b = xors b s ∧ s.length ≤ b.length) := by
  show _ ∧ _
  rw [← hs, eb]
  cases hm : mayStr k h (b.length : Int) with
  | false => rw [strI_no k h _ hm, mixI_no k h b hm]; exact ⟨by unfold xors; simp, by simp⟩
  | true => rw [mixI_of k h b hm]; exact ⟨rfl, by rw [strI_len k h _ hm]; exact Nat.le_refl _⟩
 have HSB : Hid (Bytes s) := by show Bytes s; rw [← hs]; exact strI_bytes k h _
 clear hT e0 e1 eb r0 r1 rb hb0 hb1 hbb hs
 go_enter Tryz.func58, Tryz.ntmps58
 go_wp2_with fail
 refine (implStream a0 n0 c0 a1 n1 c1 k h (nb : Int) w HT.out HN0.out HN1.out HR0.out HR1.out na0 na1 HB0.out HB1.out l0 l1).mono ?_
 rw [HS.out]
 rintro e w1 ⟨g, m, c, rfl, em, k1, r1, b1⟩
 have EM : Hid (m = s.length) := em
 have K1 : Hid (w.heap.size ≤ g) := k1
 have R1 := hid (r1)
 have B1 := hid (b1)
 have hmn : m ≤ nb := by have := HM.out.2; rw [em, HNB.out]; exact this
 clear em k1 r1 b1
 go_wp2
 go_loopw [16] (fun i wr => ∃ q : Nat, q ≤ m ∧ i = .int .i64 (q : Int) ∧ Row wr g c (mid b s q) ∧ Below w.heap.size w wr)
  (fun i _ => m - (intOf i).toNat)
 case atStart => exact ⟨0, Nat.zero_le _, rfl, R1.out, B1.out⟩
 case round =>
  obtain ⟨q, hq, rfl, hR, hB⟩ := hrel
  have HR := hid (hR)
  have HB := hid (hB)
  clear R1 B1 hR hB
  by_cases hlt : q < m
  ·
   have hltI : (q : Int) < (m : Int) := by omega
   have hltB : (q : Int) < (nb : Int) := by omega
   have hq0 : (0 : Int) ≤ (q : Int) := by omega
   have hqs : q < s.length := by rw [← EM.out]; exact hlt
   have HMS : Hid ((mid b s q).set q (bits .xor .u8 (s.getD q 0) (b.getD q 0)) = mid b s (q + 1)) := mid_set b s q HBB.out HSB.out HM.out.2 hqs
   have p1 := HR.out.cell q (by rw [mid_len b s q HM.out.2 (Nat.le_of_lt hqs)]; exact hqs)
   rw [mid_at b s q HM.out.2 hqs] at p1
   have pf : wr.frozen? ⟨g, q, none⟩ = false := (HR.out.owns (Nat.zero_le _)).frozenAt q
   obtain ⟨bb, off, rfl, _, p2⟩ := (HRB.out.later HB.out (Nat.le_refl _)) q (by rw [← HNB.out]; omega)
   clear hqs
   generalize s.getD q 0 = z1 at *
   generalize b.getD q 0 = z2 at *
   have hc := row_set (w := wr.drew) (show Row wr.drew g c (mid b s q) from HR.out) q (bits .xor .u8 z1 z2)
   have HC1 : Hid (Row (wr.drew.setCell ⟨g, q, none⟩ (.int .u8 (bits .xor .u8 z1 z2))) g c (mid b s (q + 1))) := HMS.out ▸ hc.1
   have HC2 : Hid (Below w.heap.size w (wr.drew.setCell ⟨g, q, none⟩ (.int .u8 (bits .xor .u8 z1 z2)))) := HB.out.drew.setCell (p := ⟨g, q, none⟩) K1.out _
   clear hc
   go_wp2
   go_region
   go_wp2
   go_roundw
   case rel => exact ⟨q + 1, by omega, by go_num, HC1.out, HC2.out⟩
   case measure => simp [intOf]; omega
  ·
   obtain rfl : m = q := by omega
   have hltI : ¬ ((m : Int) < (m : Int)) := by omega
   have HF : Hid (mid b s m = mixI k h b) := by show _ = _; rw [EM.out, mid_all b s HM.out.2, HM.out.1]
   have HL : Hid (m = (mixI k h b).length) := by show _ = _; rw [HM.out.1, xors_length, EM.out]; have := HM.out.2; omega
   rw [HF.out] at HR
   go_wp2
   go_ret
   exact ⟨g, m, c, rfl, HL.out, K1.out, HR.out, HB.out⟩
end Go.Proofs.YtmcflfpckpjphaaGreatDoor.StrI

namespace Go.Proofs.YtmcflfpckpjphaaGreatDoor.Diffs
open Go.RowKit Mem DiffP

theorem wrap_byte (x : Int) (h0 : 0 ≤ x) (h1 : x ≤ 255) : IntKind.i64.wrap x = x := by rw [IntKind.wrap_i64]; omega

set_option maxHeartbeats 800000 in
theorem implDiff (a0 a1 : Option Addr) (n0 c0 n1 c1 : Nat) (x y : List Int) (w : World) (e0 : n0 = x.length) (e1 : n1 = y.length) (r0 : Rd w a0 x) (r1 : Rd w a1 y) (hb0 : Bytes x) (hb1 : Bytes y) (l0 : n0 ≤ 4194304) (l1 : n1 ≤ 4194304) :
  Calls Tryz.prog 108 #[.slice a0 n0 c0, .slice a1 n1 c1] w fun e w' => e = .returned (.int .i64 (diffI x y)) ∧ ∃ m, w' = w.drewN m := by
 have E0 : Hid (n0 = x.length) := e0
 have E1 : Hid (n1 = y.length) := e1
 have R0 := hid (r0)
 have R1 := hid (r1)
 have B0 := hid (hb0)
 have B1 := hid (hb1)
 clear e0 e1 r0 r1 hb0 hb1
 by_cases hl : n0 = n1
 ·
  subst hl
  have hne : ((n0 : Int) != (n0 : Int)) = false := by simp
  have HD : Hid (diffI x y = diffN x y n0) := by show _ = _; unfold diffI; rw [if_pos (by rw [← E0.out, ← E1.out]), ← E0.out]
  go_enter Tryz.func108, Tryz.ntmps108
  go_wp2
  go_loop [5, 15] (fun v i => ∃ k : Nat, k ≤ n0 ∧ i = .int .i64 k ∧ v = .int .u8 (diffN x y k)) (fun _ i => n0 - (intOf i).toNat)
  case atStart => exact ⟨0, Nat.zero_le _, rfl, rfl⟩
  case round =>
   obtain ⟨k, hk, rfl, rfl⟩ := hrel
   by_cases hlt : k < n0
   ·
    obtain ⟨b1, o1, rfl, _, p1⟩ := R0.out k (by rw [← E0.out]; exact hlt)
    obtain ⟨b2, o2, rfl, _, p2⟩ := R1.out k (by rw [← E1.out]; exact hlt)
    have HT : Hid (diffN x y (k + 1) = bits .or .u8 (diffN x y k) (bits .xor .u8 (x.getD k 0) (y.getD k 0))) := rfl
    generalize diffN x y k = d at *
    generalize x.getD k 0 = z1 at *
    generalize y.getD k 0 = z2 at *
    go_wp2
    go_round
    case rel => exact ⟨k + 1, by omega, by go_num, by rw [HT.out]⟩
    case measure => simp [intOf]; omega
   ·
    obtain rfl : k = n0 := by omega
    have hd := diffN_bd x y B0.out B1.out k
    generalize diffN x y k = d at *
    obtain ⟨d0, d1⟩ := hd
    go_wp2
    go_ret
    exact ⟨by rw [HD.out]; rfl, 0, rfl⟩
 ·
  have hne : ((n0 : Int) != (n1 : Int)) = true := by simp; omega
  have HD : Hid (diffI x y = -1) := by show _ = _; unfold diffI; rw [if_neg (by rw [← E0.out, ← E1.out]; exact hl)]
  clear hl
  go_enter Tryz.func108, Tryz.ntmps108
  go_wp2
  go_ret
  exact ⟨by rw [HD.out]; rfl, 0, rfl⟩

set_option maxHeartbeats 800000 in
theorem specDiff (a0 a1 : Option Addr) (n0 c0 n1 c1 : Nat) (x y : List Int) (w : World) (e0 : n0 = x.length) (e1 : n1 = y.length) (r0 : Rd w a0 x) (r1 : Rd w a1 y) (hb0 : Bytes x) (hb1 : Bytes y) (l0 : n0 ≤ 4194304) (l1 : n1 ≤ 4194304) :
  Calls Tryz.prog 134 #[.slice a0 n0 c0, .slice a1 n1 c1] w fun e w' => e = .returned (.int .i64 (diffI x y)) ∧ ∃ m, w' = w.drewN m := by
 have E0 : Hid (n0 = x.length) := e0
 have E1 : Hid (n1 = y.length) := e1
 have R0 := hid (r0)
 have R1 := hid (r1)
 have B0 := hid (hb0)
 have B1 := hid (hb1)
 clear e0 e1 r0 r1 hb0 hb1
 by_cases hl : n0 = n1
 ·
  subst hl
  have hne : ((n0 : Int) != (n0 : Int)) = false := by simp
  have HD : Hid (diffI x y = diffN x y n0) := by show _ = _; unfold diffI; rw [if_pos (by rw [← E0.out, ← E1.out]), ← E0.out]
  go_enter Tryz.func134, Tryz.ntmps134
  go_wp2
  go_loopw [5, 6] (fun v i wr => ∃ k m : Nat, k ≤ n0 ∧ i = .int .i64 k ∧ v = .int .i64 (diffN x y k) ∧ wr = w.drewN m) (fun _ i _ => n0 - (intOf i).toNat)
  case atStart => exact ⟨0, 0, Nat.zero_le _, rfl, rfl, rfl⟩
  case round =>
   obtain ⟨k, m, hk, rfl, rfl, rfl⟩ := hrel
   by_cases hlt : k < n0
   ·
    obtain ⟨b1, o1, rfl, _, p1⟩ := R0.out k (by rw [← E0.out]; exact hlt)
    obtain ⟨b2, o2, rfl, _, p2⟩ := R1.out k (by rw [← E1.out]; exact hlt)
    have hx := xor_byte (x.getD k 0) (y.getD k 0) (B0.out.at k).1 (B0.out.at k).2 (B1.out.at k).1 (B1.out.at k).2
    have hd := diffN_bd x y B0.out B1.out k
    have HT : Hid (diffN x y (k + 1) = bits .or .i64 (diffN x y k) (bits .xor .u8 (x.getD k 0) (y.getD k 0))) := (or_wide _ _ hd.1 hd.2 hx.1 hx.2).symm
    generalize diffN x y k = d at *
    generalize x.getD k 0 = z1 at *
    generalize y.getD k 0 = z2 at *
    have hwr := wrap_byte _ hx.1 hx.2
    obtain ⟨hx0, hx1⟩ := hx
    clear hd
    have kI : (k : Int) < (n0 : Int) := by omega
    go_wp2
    go_quiet (fail)
    go_wp2
    go_roundw
    case rel => exact ⟨k + 1, _, by omega, by go_num, by rw [HT.out], rfl⟩
    case measure => simp [intOf]; omega
   ·
    obtain rfl : k = n0 := by omega
    go_wp2
    go_ret
    exact ⟨by rw [HD.out]; rfl, _, rfl⟩
 ·
  have hne : ((n0 : Int) != (n1 : Int)) = true := by simp; omega
  have HD : Hid (diffI x y = -1) := by show _ = _; unfold diffI; rw [if_neg (by rw [← E0.out, ← E1.out]; exact hl)]
  clear hl
  go_enter Tryz.func134, Tryz.ntmps134
  go_wp2
  go_ret
  exact ⟨by rw [HD.out]; rfl, 0, rfl⟩

theorem sameI_no (x y : List Int) (h : x.length ≠ 16) : sameI x y = false := by simp [sameI, h]
theorem sameI_yes (x y : List Int) (h : x.length = 16) : sameI x y = (diffI x y == 0) := by
 simp [sameI, h, Bool.beq_eq_decide_eq]

set_option maxHeartbeats 800000 in
theorem implSameTag (a0 a1 : Option Addr) (n0 c0 n1 c1 : Nat) (x y : List Int) (w : World) (e0 : n0 = x.length) (e1 : n1 = y.length) (r0 : Rd w a0 x) (r1 : Rd w a1 y) (hb0 : Bytes x) (hb1 : Bytes y) (l0 : n0 ≤ 4194304) (l1 : n1 ≤ 4194304) :
  Calls Tryz.prog 68 #[.slice a0 n0 c0, .slice a1 n1 c1] w fun e w' => e = .returned (.bool (sameI x y)) ∧ ∃ m, w' = w.drewN m := by
 have E0 : Hid (n0 = x.length) := e0
 have E1 : Hid (n1 = y.length) := e1
 have R0 := hid (r0)
 have R1 := hid (r1)
 have B0 := hid (hb0)
 have B1 := hid (hb1)
 clear e0 e1 r0 r1 hb0 hb1
 by_cases h : n0 = 16
 ·
  have HS : Hid (sameI x y = (diffI x y == 0)) := sameI_yes x y (by rw [← E0.out]; exact h)
  subst h
  go_enter Tryz.func68, Tryz.ntmps68
  go_wp2_with fail
  refine (implDiff a0 a1 16 c0 n1 c1 x y w E0.out E1.out R0.out R1.out B0.out B1.out l0 l1).mono ?_
  rintro e w1 ⟨rfl, m, rfl⟩
  generalize diffI x y = d at *
  cases hd : (d == 0)
  all_goals (go_wp2; go_ret; exact ⟨by rw [HS.out, hd]; rfl, _, rfl⟩)
 ·
  have HS : Hid (sameI x y = false) := sameI_no x y (by rw [← E0.out]; exact h)
  have hb : ((n0 : Int) == 16) = false := by simp; omega
  clear h
  go_enter Tryz.func68, Tryz.ntmps68
  go_wp2
  go_ret
  exact ⟨by rw [HS.out]; rfl, 0, rfl⟩
set_option maxHeartbeats 800000 in
theorem specSameTag (a0 a1 : Option Addr) (n0 c0 n1 c1 : Nat) (x y : List Int) (w : World) (e0 : n0 = x.length) (e1 : n1 = y.length) (r0 : Rd w a0 x) (r1 : Rd w a1 y) (hb0 : Bytes x) (hb1 : Bytes y) (l0 : n0 ≤ 4194304) (l1 : n1 ≤ 4194304) :
  Calls Tryz.prog 93 #[.slice a0 n0 c0, .slice a1 n1 c1] w fun e w' => e = .returned (.bool (sameI x y)) ∧ ∃ m, w' = w.drewN m := by
 have E0 : Hid (n0 = x.length) := e0
 have E1 : Hid (n1 = y.length) := e1
 have R0 := hid (r0)
 have R1 := hid (r1)
 have B0 := hid (hb0)
 have B1 := hid (hb1)
 clear e0 e1 r0 r1 hb0 hb1
 by_cases h : n0 = 16
 ·
  have HS : Hid (sameI x y = (diffI x y == 0)) := sameI_yes x y (by rw [← E0.out]; exact h)
  subst h
  go_enter Tryz.func93, Tryz.ntmps93
  go_wp2_with fail
  refine (specDiff a0 a1 16 c0 n1 c1 x y w E0.out E1.out R0.out R1.out B0.out B1.out l0 l1).mono ?_
  rintro e w1 ⟨rfl, m, rfl⟩
  generalize diffI x y = d at *
  cases hd : (d == 0)
  all_goals (go_wp2; go_ret; exact ⟨by rw [HS.out, hd]; rfl, _, rfl⟩)
 ·
  have HS : Hid (sameI x y = false) := sameI_no x y (by rw [← E0.out]; exact h)
  have hb : ((n0 : Int) == 16) = false := by simp; omega
  clear h
  go_enter Tryz.func93, Tryz.ntmps93
  go_wp2
  go_ret
  exact ⟨by rw [HS.out]; rfl, 0, rfl⟩
end Go.Proofs.YtmcflfpckpjphaaGreatDoor.Diffs

namespace Go.Proofs.YtmcflfpckpjphaaGreatDoor.FrL
open Go.RowKit Mem Blk Zone ZoneI FrZ
theorem fr_other {w : World} {g g' : Nat} {t : TypeId} {cs : List Value} (k : Blk w g' t cs) (ne : g' ≠ g) (v0 v1 v2 v3 v4 v5 v6 v7 v8 v9 v10 : Value) : Blk (((((((((((w.setCell ⟨g, 0, none⟩ (v0)).setCell ⟨g, 1, none⟩ (v1)).setCell ⟨g, 2, none⟩ (v2)).setCell ⟨g, 3, none⟩ (v3)).setCell ⟨g, 4, none⟩ (v4)).setCell ⟨g, 5, none⟩ (v5)).setCell ⟨g, 6, none⟩ (v6)).setCell ⟨g, 7, none⟩ (v7)).setCell ⟨g, 8, none⟩ (v8)).setCell ⟨g, 9, none⟩ (v9)).setCell ⟨g, 10, none⟩ (v10)) g' t cs :=
 ((((((((((k.other (by exact ne) _).other (by exact ne) _).other (by exact ne) _).other (by exact ne) _).other (by exact ne) _).other (by exact ne) _).other (by exact ne) _).other (by exact ne) _).other (by exact ne) _).other (by exact ne) _).other (by exact ne) _
theorem fr_kept (w : World) (g : Nat) (v0 v1 v2 v3 v4 v5 v6 v7 v8 v9 v10 : Value) : Kept g (g + 1) w (((((((((((w.setCell ⟨g, 0, none⟩ (v0)).setCell ⟨g, 1, none⟩ (v1)).setCell ⟨g, 2, none⟩ (v2)).setCell ⟨g, 3, none⟩ (v3)).setCell ⟨g, 4, none⟩ (v4)).setCell ⟨g, 5, none⟩ (v5)).setCell ⟨g, 6, none⟩ (v6)).setCell ⟨g, 7, none⟩ (v7)).setCell ⟨g, 8, none⟩ (v8)).setCell ⟨g, 9, none⟩ (v9)).setCell ⟨g, 10, none⟩ (v10)) := ((((((((((Kept.setCell _ _ _ _).trans (Kept.setCell _ _ _ _)).trans (Kept.setCell _ _ _ _)).trans (Kept.setCell _ _ _ _)).trans (Kept.setCell _ _ _ _)).trans (Kept.setCell _ _ _ _)).trans (Kept.setCell _ _ _ _)).trans (Kept.setCell _ _ _ _)).trans (Kept.setCell _ _ _ _)).trans (Kept.setCell _ _ _ _)).trans (Kept.setCell _ _ _ _)
theorem fr_size (w : World) (g : Nat) (v0 v1 v2 v3 v4 v5 v6 v7 v8 v9 v10 : Value) : (((((((((((w.setCell ⟨g, 0, none⟩ (v0)).setCell ⟨g, 1, none⟩ (v1)).setCell ⟨g, 2, none⟩ (v2)).setCell ⟨g, 3, none⟩ (v3)).setCell ⟨g, 4, none⟩ (v4)).setCell ⟨g, 5, none⟩ (v5)).setCell ⟨g, 6, none⟩ (v6)).setCell ⟨g, 7, none⟩ (v7)).setCell ⟨g, 8, none⟩ (v8)).setCell ⟨g, 9, none⟩ (v9)).setCell ⟨g, 10, none⟩ (v10)).heap.size = w.heap.size := by simp
theorem fr_stored {w : World} {g lo hi : Nat} {u0 u1 u2 u3 u4 u5 u6 u7 u8 u9 u10 : Value} {D : FrD} {S : FrS} (k : Blk w g 27 [u0, u1, u2, u3, u4, u5, u6, u7, u8, u9, u10]) (o : FrOwn w lo hi S D) (d : g + 1 ≤ lo ∨ hi ≤ g) :
  Blk (((((((((((w.setCell ⟨g, 0, none⟩ (.int .i64 D.kind)).setCell ⟨g, 1, none⟩ (.int .i64 D.id)).setCell ⟨g, 2, none⟩ (.slice S.cn.a S.cn.n S.cn.c)).setCell ⟨g, 3, none⟩ (.slice S.sn.a S.sn.n S.sn.c)).setCell ⟨g, 4, none⟩ (.int .i64 D.tick)).setCell ⟨g, 5, none⟩ (.slice S.cookie.a S.cookie.n S.cookie.c)).setCell ⟨g, 6, none⟩ (.slice S.proof.a S.proof.n S.proof.c)).setCell ⟨g, 7, none⟩ (.int .i64 D.epoch)).setCell ⟨g, 8, none⟩ (.int .i64 D.seq)).setCell ⟨g, 9, none⟩ (.slice S.body.a S.body.n S.body.c)).setCell ⟨g, 10, none⟩ (.slice S.tag.a S.tag.n S.tag.c)) g 27 [.int .i64 D.kind, .int .i64 D.id, .slice S.cn.a S.cn.n S.cn.c, .slice S.sn.a S.sn.n S.sn.c, .int .i64 D.tick, .slice S.cookie.a S.cookie.n S.cookie.c, .slice S.proof.a S.proof.n S.proof.c, .int .i64 D.epoch, .int .i64 D.seq, .slice S.body.a S.body.n S.body.c, .slice S.tag.a S.tag.n S.tag.c] ∧ FrOwn (((((((((((w.setCell ⟨g, 0, none⟩ (.int .i64 D.kind)).setCell ⟨g, 1, none⟩ (.int .i64 D.id)).setCell ⟨g, 2, none⟩ (.slice S.cn.a S.cn.n S.cn.c)).setCell ⟨g, 3, none⟩ (.slice S.sn.a S.sn.n S.sn.c)).setCell ⟨g, 4, none⟩ (.int .i64 D.tick)).setCell ⟨g, 5, none⟩ (.slice S.cookie.a S.cookie.n S.cookie.c)).setCell ⟨g, 6, none⟩ (.slice S.proof.a S.proof.n S.proof.c)).setCell ⟨g, 7, none⟩ (.int .i64 D.epoch)).setCell ⟨g, 8, none⟩ (.int .i64 D.seq)).setCell ⟨g, 9, none⟩ (.slice S.body.a S.body.n S.body.c)).setCell ⟨g, 10, none⟩ (.slice S.tag.a S.tag.n S.tag.c)) lo hi S D ∧ (∀ B a, B ≤ g → Below B a w → Below B a (((((((((((w.setCell ⟨g, 0, none⟩ (.int .i64 D.kind)).setCell ⟨g, 1, none⟩ (.int .i64 D.id)).setCell ⟨g, 2, none⟩ (.slice S.cn.a S.cn.n S.cn.c)).setCell ⟨g, 3, none⟩ (.slice S.sn.a S.sn.n S.sn.c)).setCell ⟨g, 4, none⟩ (.int .i64 D.tick)).setCell ⟨g, 5, none⟩ (.slice S.cookie.a S.cookie.n S.cookie.c)).setCell ⟨g, 6, none⟩ (.slice S.proof.a S.proof.n S.proof.c)).setCell ⟨g, 7, none⟩ (.int .i64 D.epoch)).setCell ⟨g, 8, none⟩ (.int .i64 D.seq)).setCell ⟨g, 9, none⟩ (.slice S.body.a S.body.n S.body.c)).setCell ⟨g, 10, none⟩ (.slice S.tag.a S.tag.n S.tag.c))) := by
 refine ⟨((((((((((k.set 0 _ (by simp [maxLen])).set 1 _ (by simp [maxLen])).set 2 _ (by simp [maxLen])).set 3 _ (by simp [maxLen])).set 4 _ (by simp [maxLen])).set 5 _ (by simp [maxLen])).set 6 _ (by simp [maxLen])).set 7 _ (by simp [maxLen])).set 8 _ (by simp [maxLen])).set 9 _ (by simp [maxLen])).set 10 _ (by simp [maxLen]), o.carry (fr_kept w g _ _ _ _ _ _ _ _ _ _ _) (by omega), fun B a hB h => ?_⟩
 exact ((((((((((h.setCell (by exact hB) _).setCell (by exact hB) _).setCell (by exact hB) _).setCell (by exact hB) _).setCell (by exact hB) _).setCell (by exact hB) _).setCell (by exact hB) _).setCell (by exact hB) _).setCell (by exact hB) _).setCell (by exact hB) _).setCell (by exact hB) _
end Go.Proofs.YtmcflfpckpjphaaGreatDoor.FrL

namespace Go.Proofs.YtmcflfpckpjphaaGreatDoor.Zone
open Go.RowKit Mem
theorem SOwn.later {w w' : World} {lo hi : Nat} {s : Sl} {l : List Int} (h : SOwn w lo hi s l) (k : Below w.heap.size w w') : SOwn w' lo hi s l := h.carry (Kept.of_below k hi) (.inl (Nat.le_refl _))
end Go.Proofs.YtmcflfpckpjphaaGreatDoor.Zone
namespace Go.Proofs.YtmcflfpckpjphaaGreatDoor.Shp
open Go.RowKit Mem MemI Zone ZoneI
def AnsB (l : List Int) (w : World) : Ending → World → Prop := fun e w' => ∃ S0 : Sl, e = .returned (.slice S0.a S0.n S0.c) ∧ SOwn w' w.heap.size w'.heap.size S0 l ∧ Below w.heap.size w w'
theorem AnsB.of {l : List Int} {w : World} {e : Ending} {w' : World} (hb : Bytes l) (h : ∃ g m cap, e = .returned (.slice (some ⟨g, 0, none⟩) m cap) ∧ m = l.length ∧ w.heap.size ≤ g ∧ Row w' g cap l ∧ Below w.heap.size w w') : AnsB l w e w' := by
 obtain ⟨g, m, c, h1, h2, h3, h4, h5⟩ := h
 exact ⟨⟨some ⟨g, 0, none⟩, m, c⟩, h1, SOwn.row h4 h2 hb h3 h4.lt, h5⟩
end Go.Proofs.YtmcflfpckpjphaaGreatDoor.Shp

namespace Go.Proofs.YtmcflfpckpjphaaGreatDoor.Guard
open Go.RowKit Each Copy

theorem wanted_eval {ops : Array Oper} {o : Oper} {a : Act} {j d : Nat} {want b : Bool} (hg : o.guard = some (j, want)) (hd : (ops[j]?).bind (·.dst) = some d) (hv : a.eval (.tmp d) = .bool b) :
  Region.wanted o (yielded ops a.tmps) = (b == want) := by
 have hv' : a.tmps.getD d undef = .bool b := hv
 have ht : a.tmps[d]? = some (.bool b) := by
  cases h : a.tmps[d]? with
  | none =>
   rw [Array.getD_eq_getD_getElem?, h] at hv'
   cases hv'
  | some v =>
   rw [Array.getD_eq_getD_getElem?, h] at hv'
   have hv2 : v = .bool b := hv'
   rw [hv2]
 have hy : yielded ops a.tmps j = some b := by
  unfold yielded
  generalize hx : (ops[j]?).bind (·.dst) = x at *
  subst hd
  simp [ht]
 unfold Region.wanted
 rw [hg]
 show (yielded ops a.tmps j == some want) = _
 rw [hy]
 cases b <;> cases want <;> rfl
theorem wanted_true {ops : Array Oper} {o : Oper} {a : Act} {j d : Nat} {want : Bool} (hg : o.guard = some (j, want)) (hd : (ops[j]?).bind (·.dst) = some d) (hv : a.eval (.tmp d) = .bool want) :
  Region.wanted o (yielded ops a.tmps) = true := by
 rw [wanted_eval hg hd hv]
 cases want <;> rfl
theorem wanted_false {ops : Array Oper} {o : Oper} {a : Act} {j d : Nat} {want b : Bool} (hg : o.guard = some (j, want)) (hd : (ops[j]?).bind (·.dst) = some d) (hv : a.eval (.tmp d) = .bool b) (hn : (b == want) = false) :
  Region.wanted o (yielded ops a.tmps) = false := by
 rw [wanted_eval hg hd hv, hn]
theorem op_wp_g {P : Program} {ops : Array Oper} {Q : Exit → Act → World → Prop} {i : Nat} {o : Oper} {K : Act → World → Prop} {a : Act} {w : World}
  (hi : ops[i]? = some o) (hw : Region.wanted o (yielded ops a.tmps) = true) (h : Oper.wp P o a w K Q) : wpOp P ops Q i K a w := by
 unfold wpOp
 rw [hi]
 simp only [hw, if_true]
 exact .inl h
theorem op_run_g {P : Program} {ops : Array Oper} {Q : Exit → Act → World → Prop} {i : Nat} {o : Oper} {K : Act → World → Prop} {a : Act} {w w' : World} {v : Value}
  (hi : ops[i]? = some o) (hw : Region.wanted o (yielded ops a.tmps) = true) (hr : (execOp a.eval o).run P w = .ok (.value v) w') (hk : K (a.put o.dst v) w') : wpOp P ops Q i K a w := by
 refine op_wp_g hi hw ?_
 unfold Oper.wp
 rw [hr]
 exact hk
theorem op_call_g {P : Program} {ops : Array Oper} {Q : Exit → Act → World → Prop} {i : Nat} {o : Oper} {K : Act → World → Prop} {a : Act} {w : World} {f : FuncId} {args : Array Value} {R : Ending → World → Prop}
  (hi : ops[i]? = some o) (hw : Region.wanted o (yielded ops a.tmps) = true) (hr : (execOp a.eval o).run P w = .ok (.enter f args) w) (hc : Calls P f args w R)
  (hk : ∀ e w', R e w' → ∃ v, e = .returned v ∧ K (a.put o.dst v) w') : wpOp P ops Q i K a w := by
 refine op_wp_g hi hw ?_
 unfold Oper.wp
 rw [hr]
 refine hc.mono ?_
 intro e w' h
 obtain ⟨v, rfl, h2⟩ := hk e w' h
 exact h2
theorem op_skip {P : Program} {ops : Array Oper} {Q : Exit → Act → World → Prop} {i : Nat} {o : Oper} {K : Act → World → Prop} {a : Act} {w : World}
  (hi : ops[i]? = some o) (hw : Region.wanted o (yielded ops a.tmps) = false) (hk : K (a.put o.dst undef) w) : wpOp P ops Q i K a w := by
 unfold wpOp
 rw [hi]
 simp only [hw]
 exact hk
end Go.Proofs.YtmcflfpckpjphaaGreatDoor.Guard
