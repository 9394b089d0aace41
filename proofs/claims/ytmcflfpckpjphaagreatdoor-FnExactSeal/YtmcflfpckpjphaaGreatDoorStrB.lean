/-
  What impl's BlockOf and canStream answer, and the iterator of a stream's blocks, where the table of round words holds what the program's text lays into it.
-/
import Derived.Test.YtmcflfpckpjphaaGreatDoorMacI
import Derived.Test.YtmcflfpckpjphaaGreatDoorKdfP
import Derived.Test.YtmcflfpckpjphaaGreatDoorOps
import Derived.Test.YtmcflfpckpjphaaGreatDoorRanges
import Derived.Shelf.Abstract
import Derived.Shelf.RegionOpen
import Derived.WalkKit
import Derived.OwnWalkIn
import Derived.TacticsInMore
import Derived.LoopNIn
import Derived.LoopIn
namespace Go.Proofs.YtmcflfpckpjphaaGreatDoor.StrB
open Go.RowKit Go.Proofs.YtmcflfpckpjphaaGreatDoor.Mem Go.Proofs.YtmcflfpckpjphaaGreatDoor.App Go.Proofs.YtmcflfpckpjphaaGreatDoor.Blk Go.Proofs.YtmcflfpckpjphaaGreatDoor.Pads Go.Proofs.YtmcflfpckpjphaaGreatDoor.ShaP Go.Proofs.YtmcflfpckpjphaaGreatDoor.Comp Go.Proofs.YtmcflfpckpjphaaGreatDoor.MacP Go.Proofs.YtmcflfpckpjphaaGreatDoor.MacI Go.Proofs.YtmcflfpckpjphaaGreatDoor.KdfP Go.Proofs.YtmcflfpckpjphaaGreatDoor.Ranges
attribute [local go_sem] Oper.semAt_some

set_option maxRecDepth 100000 in
set_option maxHeartbeats 1600000 in
theorem implBlockOf (a0 : Option Addr) (n0 c0 : Nat) (a1 : Option Addr) (n1 c1 : Nat) (k h : List Int) (i : Int) (w : World) (hT : Tab w) (e0 : n0 = k.length) (e1 : n1 = h.length) (r0 : Rd w a0 k) (r1 : Rd w a1 h) (na0 : a0 = none → c0 = 0) (na1 : a1 = none → c1 = 0) (hb0 : Bytes k) (hb1 : Bytes h) (l0 : n0 ≤ 2097152) (l1 : n1 ≤ 2097152) :
    Calls Tryz.prog 162 #[.slice a0 n0 c0, .slice a1 n1 c1, .int .i64 i] w fun e w' =>
      ∃ g m c, e = .returned (.slice (some ⟨g, 0, none⟩) m c) ∧ m = (blockI k h i).length ∧ w.heap.size ≤ g ∧ Row w' g c (blockI k h i) ∧ Below w.heap.size w w' := by
  have HT : Hid (Tab w) := hT
  have HN0 : Hid (n0 = k.length) := e0
  have HN1 : Hid (n1 = h.length) := e1
  have HR0 : Hid (Rd w a0 k) := r0
  have HR1 : Hid (Rd w a1 h) := r1
  have HB0 : Hid (Bytes k) := hb0
  have HB1 : Hid (Bytes h) := hb1
  clear e0 e1 r0 r1 hb0 hb1 hT
  by_cases hm : 0 ≤ i ∧ i ≤ 6 ∧ n1 ≤ 100
  · have HBI : Hid (blockI k h i = hmacI k (([115] ++ h) ++ putN i 4)) := by
      show _ = _
      unfold blockI; rw [if_pos ⟨hm.1, hm.2.1, by rw [← HN1.out]; exact hm.2.2⟩]
      unfold sblk
      rw [Int.toNat_of_nonneg hm.1]; rfl
    have q0 : ¬ (i < 0) := by omega
    have q6 : ¬ (i > 6) := by omega
    have q1 : ¬ ((n1 : Int) > 100) := by omega
    have hn1 : n1 ≤ 100 := hm.2.2
    have A0 : Hid (Below w.heap.size w (w.alloc (.cells #[.int .u8 115] 5))) := (Below.refl _ _).alloc (Nat.le_refl _) _
    have R0 : Hid (Row (w.alloc (.cells #[.int .u8 115] 5)) w.heap.size 1 [115]) := row_new w [115] (by simp [maxLen])
    clear hm
    go_enter Tryz.func162, Tryz.ntmps162
    go_wp2_with fail
    refine (putBytes _ _ 1 1 n1 c1 [115] h _ rfl HN1.out R0.out.rd (HR1.out.later A0.out (Nat.le_refl _)) (by intro e; cases e) na1 (by simp) (by rw [← HN1.out]; omega)).mono ?_
    rintro e w1 ⟨rfl, r1, b1⟩
    have R1 : Hid (Row w1 (w.heap.size + 1) (1 + n1) ([115] ++ h)) := (by have := r1; rw [World.size_alloc] at this; exact this)
    have B1 : Hid (Below w.heap.size w w1) := A0.out.trans (b1.mono A0.out.size)
    clear r1 b1
    rw [World.size_alloc]
    generalize w.heap.size + 1 = g1 at *
    have L1 : Hid (1 + n1 = ([115] ++ h).length) := by show _ = _; rw [List.length_append, ← HN1.out]; rfl
    go_wp2_with fail
    refine (implPutN (some ⟨g1, 0, none⟩) (1 + n1) (1 + n1) ([115] ++ h) i 4 w1 L1.out R1.out.rd (by intro e; cases e) (by rw [← L1.out]; omega)).mono ?_
    rintro e w2 ⟨g2, m2, c2, rfl, e2, k2, r2, b2⟩
    have E2 : Hid (m2 = (([115] ++ h) ++ putN i 4).length) := e2
    have R2 : Hid (Row w2 g2 c2 (([115] ++ h) ++ putN i 4)) := r2
    have B2 : Hid (Below w.heap.size w w2) := B1.out.trans (b2.mono B1.out.size)
    have hm2 : m2 ≤ 200 := by have := putN_length i 4; rw [e2, List.length_append, ← L1.out]; omega
    have Y2 : Hid (Bytes (([115] ++ h) ++ putN i 4)) := bytes_append (bytes_append (by intro z hz; simp at hz; omega) HB1.out) (num_bytes i 4)
    clear e2 k2 r2 b2
    go_wp2_with fail
    refine (implHmac a0 n0 c0 (some ⟨g2, 0, none⟩) m2 c2 k _ w2 (HT.out.later B2.out) HN0.out E2.out (HR0.out.later B2.out (Nat.le_refl _)) R2.out.rd na0 (by intro e; cases e) HB0.out Y2.out l0 (by omega)).mono ?_
    rw [← HBI.out]
    rintro e w3 ⟨g3, m3, c3, rfl, e3, k3, r3, b3⟩
    have E3 : Hid (m3 = (blockI k h i).length) := e3
    have K3 : Hid (w.heap.size ≤ g3) := Nat.le_trans B2.out.size k3
    have R3 : Hid (Row w3 g3 c3 (blockI k h i)) := r3
    have B3 : Hid (Below w.heap.size w w3) := B2.out.trans (b3.mono B2.out.size)
    clear e3 k3 r3 b3
    go_wp2
    go_ret
    exact ⟨g3, m3, c3, rfl, E3.out, K3.out, R3.out, B3.out⟩
  · have HBI : Hid (blockI k h i = []) := by
      show _ = _
      unfold blockI; rw [if_neg (by rw [← HN1.out]; exact hm)]
    have A0 : Hid (Below w.heap.size w (w.alloc (.cells #[] 5))) := (Below.refl _ _).alloc (Nat.le_refl _) _
    have R0 : Hid (Row (w.alloc (.cells #[] 5)) w.heap.size 0 []) := row_new w [] (by simp)
    by_cases h0 : i < 0
    · clear hm
      go_enter Tryz.func162, Tryz.ntmps162
      go_wp2
      go_ret
      exact ⟨w.heap.size, 0, 0, by simp, by rw [HBI.out]; rfl, Nat.le_refl _, by rw [HBI.out]; exact R0.out, A0.out⟩
    · by_cases h6 : i > 6
      · clear hm
        go_enter Tryz.func162, Tryz.ntmps162
        go_wp2
        go_ret
        exact ⟨w.heap.size, 0, 0, by simp, by rw [HBI.out]; rfl, Nat.le_refl _, by rw [HBI.out]; exact R0.out, A0.out⟩
      · have q1 : (n1 : Int) > 100 := by omega
        clear hm
        go_enter Tryz.func162, Tryz.ntmps162
        go_wp2
        go_ret
        exact ⟨w.heap.size, 0, 0, by simp, by rw [HBI.out]; rfl, Nat.le_refl _, by rw [HBI.out]; exact R0.out, A0.out⟩

set_option maxRecDepth 100000 in
theorem canStream (a0 : Option Addr) (n0 c0 : Nat) (a1 : Option Addr) (n1 c1 : Nat) (k f : List Int) (n : Int) (w : World) (e0 : n0 = k.length) (e1 : n1 = f.length) :
    Calls Tryz.prog 140 #[.slice a0 n0 c0, .slice a1 n1 c1, .int .i64 n] w fun e w' => e = .returned (.bool (mayStr k f n)) ∧ w = w' := by
  by_cases h1 : 0 ≤ n
  · by_cases h2 : n ≤ 200
    · by_cases h3 : n1 ≤ 100
      · have h3I : (n1 : Int) ≤ 100 := by omega
        have H : Hid (mayStr k f n = isLen (n0 : Int)) := by
          show _ = _
          unfold mayStr isLen
          rw [← e0, ← e1]
          apply decide_eq_decide.2
          omega
        clear e0 e1
        go_enter Tryz.func140, Tryz.ntmps140
        go_wp2_with fail
        refine (isShaLength _ _).mono ?_
        rintro e w1 ⟨rfl, rfl⟩
        go_wp2
        go_ret
        exact ⟨by rw [H.out]; simp, rfl⟩
      · have h3I : ¬ ((n1 : Int) ≤ 100) := by omega
        have H : Hid (mayStr k f n = false) := by
          show _ = _
          unfold mayStr
          rw [← e1]
          exact decide_eq_false (by omega)
        clear e0 e1
        go_enter Tryz.func140, Tryz.ntmps140
        go_wp2
        go_ret
        exact ⟨by rw [H.out]; simp, rfl⟩
    · have H : Hid (mayStr k f n = false) := by
        show _ = _
        unfold mayStr
        exact decide_eq_false (by omega)
      clear e0 e1
      go_enter Tryz.func140, Tryz.ntmps140
      go_wp2
      go_ret
      exact ⟨by rw [H.out]; simp, rfl⟩
  · have H : Hid (mayStr k f n = false) := by
      show _ = _
      unfold mayStr
      exact decide_eq_false (by omega)
    clear e0 e1
    go_enter Tryz.func140, Tryz.ntmps140
    go_wp2
    go_ret
    exact ⟨by rw [H.out]; simp, rfl⟩

/-- What the iterator has captured: the key, the head. -/
def caught (q : Nat) : Array Value := #[.pointer (some ⟨q, 0, none⟩), .pointer (some ⟨q + 1, 0, none⟩)]
set_option maxRecDepth 100000 in
theorem streamBlocks (a0 : Option Addr) (n0 c0 : Nat) (a1 : Option Addr) (n1 c1 : Nat) (w : World) :
    Calls Tryz.prog 141 #[.slice a0 n0 c0, .slice a1 n1 c1] w fun e w' =>
      e = .returned (.func (.func 161) #[] (caught w.heap.size)) ∧ Blk w' w.heap.size 22 [.slice a0 n0 c0] ∧ Blk w' (w.heap.size + 1) 22 [.slice a1 n1 c1] ∧ Below w.heap.size w w' := by
  have hmf : ∀ (fn : Fn) (first cap : Array Value) (w : World), (Instr.makeFunc fn first cap).run Tryz.prog w = .ok (.func fn first cap) w := fun _ _ _ _ => rfl
  go_enter Tryz.func141, Tryz.ntmps141
  go_wp2
  go_ret
  have h1 := Blk.new (w.alloc (.cells #[.slice a0 n0 c0] 22)) 22 [.slice a1 n1 c1]
  rw [World.size_alloc] at h1
  exact ⟨rfl, (Blk.new w 22 [.slice a0 n0 c0]).alloc _, h1, ((Below.refl _ _).alloc (Nat.le_refl _) _).alloc (by simp) _⟩

/-- What the iterator says of the i-th value. -/
def Given (k h : List Int) (i : Nat) (v : Value) (W : World) : Prop := ∃ g c, v = .slice (some ⟨g, 0, none⟩) 32 c ∧ Row W g c (sblk k h i)

/-- What the iterator reads. -/
def Reads (q : Nat) (a0 : Option Addr) (n0 c0 : Nat) (a1 : Option Addr) (n1 c1 : Nat) (k h : List Int) (W : World) : Prop :=
  Tab W ∧ Rd W a0 k ∧ Rd W a1 h ∧ Blk W q 22 [.slice a0 n0 c0] ∧ Blk W (q + 1) 22 [.slice a1 n1 c1]

set_option maxRecDepth 100000 in
set_option maxHeartbeats 1600000 in
theorem feeds (n q : Nat) (hn : 1 ≤ n) (a0 : Option Addr) (n0 c0 : Nat) (a1 : Option Addr) (n1 c1 : Nat) (k h : List Int) (W : World) (e0 : n0 = k.length) (e1 : n1 = h.length) (na0 : a0 = none → c0 = 0) (na1 : a1 = none → c1 = 0) (hb0 : Bytes k) (hb1 : Bytes h) (l0 : n0 ≤ 1048576) (l1 : n1 ≤ 100) :
    Feeds Fence.wide n Tryz.prog 161 (caught q) 7 (Given k h) (Reads q a0 n0 c0 a1 n1 c1 k h) W := by
  intro l J Jx hJ hJu hY h0
  refine callsIn_of_wp Tryz.func161 rfl trivial ?_ rfl
  unfold caught
  simp only [Tryz.ntmps161, List.size_toArray, List.length_cons, List.length_nil, Nat.reduceAdd, Nat.reduceSub, Array.replicate_succ, Array.replicate_zero, List.push_toArray, List.append_toArray, List.nil_append, List.cons_append]
  have HJ : Hid (∀ i A B, J i A → Below A.heap.size A B → J i B) := hJ
  have HJu : Hid (∀ i A, J i A → Reads q a0 n0 c0 a1 n1 c1 k h A) := hJu
  have HN0 : Hid (n0 = k.length) := e0
  have HN1 : Hid (n1 = h.length) := e1
  have HB0 : Hid (Bytes k) := hb0
  have HB1 : Hid (Bytes h) := hb1
  clear hJ hJu e0 e1 hb0 hb1
  gi_wp2
  gi_loopw [5] (fun p wr => ∃ i : Nat, i ≤ 7 ∧ p = .int .i64 (i : Int) ∧ J i wr)
    (fun p _ => 7 - (intOf p).toNat)
  case atStart => exact ⟨0, by omega, rfl, h0⟩
  case round =>
    obtain ⟨i, hi, rfl, hj⟩ := hrel
    by_cases hlt : i < 7
    · have hltI : (i : Int) < 7 := by omega
      have HBI : Hid (blockI k h (i : Int) = sblk k h i) := by show _ = _; unfold blockI; rw [if_pos ⟨by omega, by omega, by rw [← HN1.out]; exact l1⟩, Int.toNat_natCast]
      have H32 : Hid ((sblk k h i).length = 32) := sblk_len k h (by rw [← HN0.out]; exact l0) (by rw [← HN1.out]; exact l1) i
      have HU : Hid (Reads q a0 n0 c0 a1 n1 c1 k h wr) := HJu.out i wr hj
      have q0 := HU.out.2.2.2.1.cell 0 rfl
      have q1 := HU.out.2.2.2.2.cell 0 rfl
      gi_wp2_with (refine ⟨trivial, ?_⟩; gi_at_call 162; refine (callsIn_wide.2 (implBlockOf a0 n0 c0 a1 n1 c1 k h (i : Int) wr HU.out.1 HN0.out HN1.out HU.out.2.1 HU.out.2.2.1 na0 na1 HB0.out HB1.out (by omega) (by omega))).mono ?_; rw [HBI.out]; rintro e w1 ⟨g, m, c, rfl, em, k1, rr1, b1⟩; obtain rfl : 32 = m := (by rw [em, H32.out]); obtain ⟨fn, tmps, assign, body, hy, hR⟩ := hY i _ w1 hlt (HJ.out i wr w1 hj b1) ⟨g, c, rfl, rr1⟩; clear em)
      refine hR.mono ?_
      rintro e w2 (⟨rfl, hj2⟩ | ⟨rfl, hx⟩)
      · gi_wp2
        go_roundw
        case rel => exact ⟨i + 1, by omega, by go_num, hj2⟩
        case measure => simp [intOf]; omega
      · gi_wp2
        refine bodyPost_ret (results_none rfl _ _ _) rfl ?_
        exact ⟨⟨_, rfl⟩, .inr hx⟩
    · have hltI : ¬ ((i : Int) < 7) := by omega
      obtain rfl : 7 = i := by omega
      gi_wp2
      go_end0
      exact ⟨⟨_, rfl⟩, .inl hj⟩
end Go.Proofs.YtmcflfpckpjphaaGreatDoor.StrB
