/-
  What impl's PskOk and ProofBody answer.
-/
import Derived.Test.YtpenhliaelhnoaaDoorKeP
import Derived.Test.YtpenhliaelhnoaaDoorShp
import Derived.Test.YtpenhliaelhnoaaDoorRes
import Derived.Test.YtpenhliaelhnoaaDoorKeL
import Derived.Test.YtpenhliaelhnoaaDoorFrW
import Derived.Test.YtpenhliaelhnoaaDoorOps
namespace Go.Proofs.YtpenhliaelhnoaaDoor.KeI
open Go.RowKit Go.Proofs.YtpenhliaelhnoaaDoor.Mem Go.Proofs.YtpenhliaelhnoaaDoor.App Go.Proofs.YtpenhliaelhnoaaDoor.Blk Go.Proofs.YtpenhliaelhnoaaDoor.Words Go.Proofs.YtpenhliaelhnoaaDoor.Zone Go.Proofs.YtpenhliaelhnoaaDoor.Res Go.Proofs.YtpenhliaelhnoaaDoor.KeP Go.Proofs.YtpenhliaelhnoaaDoor.Shp Go.Proofs.YtpenhliaelhnoaaDoor.KeL Go.Proofs.YtpenhliaelhnoaaDoor.Each Go.Proofs.YtpenhliaelhnoaaDoor.Copy Go.Proofs.YtpenhliaelhnoaaDoor.Ops

set_option maxRecDepth 100000 in
theorem nil_ans {w x : World} (b : Below w.heap.size w x) : AnsB [] w (.returned (.slice (some ⟨x.heap.size, 0, none⟩) 0 0)) (x.alloc (.cells #[] 5)) :=
  ⟨⟨some ⟨x.heap.size, 0, none⟩, 0, 0⟩, rfl, SOwn.row (row_new x [] (by simp)) rfl (fun z hz => by cases hz) b.size (by rw [World.size_alloc]; exact Nat.lt_succ_self _), b.alloc b.size _⟩

set_option maxRecDepth 100000 in
theorem implPskOk (s : Sl) (l : List Int) (w : World) (h : SRd w s l) :
    Calls Tryd.prog 16 #[.slice s.a s.n s.c] w fun e w' => e = .returned (.bool (pskOk l.length)) ∧ w = w' := by
  have HN : Hid (pskOk l.length = isIn (s.n : Int) 1 32) := by show _ = _; rw [h.len]; rfl
  clear h
  by_cases h1 : (s.n : Int) ≥ 1
  · by_cases h2 : (s.n : Int) ≤ 32
    · have H : Hid (isIn (s.n : Int) 1 32 = true) := isIn_yes ⟨h1, by omega⟩
      go_enter Tryd.func16, Tryd.ntmps16
      go_wp2
      go_ret
      exact ⟨by rw [HN.out, H.out]; simp, rfl⟩
    · have H : Hid (isIn (s.n : Int) 1 32 = false) := isIn_no (fun h => h2 (by omega))
      go_enter Tryd.func16, Tryd.ntmps16
      go_wp2
      go_ret
      exact ⟨by rw [HN.out, H.out]; simp, rfl⟩
  · have H : Hid (isIn (s.n : Int) 1 32 = false) := isIn_no (fun h => h1 h.1)
    go_enter Tryd.func16, Tryd.ntmps16
    go_wp2
    go_ret
    exact ⟨by rw [HN.out, H.out]; simp, rfl⟩
set_option maxRecDepth 100000 in
theorem implPskOkB (s : Sl) (l : List Int) (w : World) (h : SRd w s l) :
    Calls Tryd.prog 16 #[.slice s.a s.n s.c] w fun e w' => e = .returned (.bool (pskOk l.length)) ∧ Below w.heap.size w w' :=
  (implPskOk s l w h).mono fun _ _ h => ⟨h.1, h.2 ▸ Below.refl _ _⟩

set_option maxRecDepth 100000 in
theorem two_bytes {id : Int} (h : 1 ≤ id ∧ id ≤ 9) : Bytes [102, id] := by intro z hz; simp at hz; omega
set_option maxRecDepth 100000 in
theorem rowSRd {w : World} {g c m : Nat} {l : List Int} (h : Row w g c l) (hm : m = l.length) (hb : Bytes l) : SRd w ⟨some ⟨g, 0, none⟩, m, c⟩ l := ⟨hm, h.rd, (by intro e; cases e), by show m ≤ c; rw [hm]; exact h.1, hb⟩
set_option maxRecDepth 100000 in
set_option maxHeartbeats 8000000 in
theorem implProofBody (id : Int) (c s : Sl) (cn sn : List Int) (tick : Int) (k : Sl) (ck : List Int) (w : World) (hc : SRd w c cn) (hs : SRd w s sn) (hk : SRd w k ck) :
    Calls Tryd.prog 44 #[.int .i64 id, .slice c.a c.n c.c, .slice s.a s.n s.c, .int .i64 tick, .slice k.a k.n k.c] w (AnsB (proofL id cn sn tick ck) w) := by
  have HC : Hid (SRd w c cn) := hc
  have HNC : Hid (c.n = cn.length) := hc.len
  have HS : Hid (SRd w s sn) := hs
  have HNS : Hid (s.n = sn.length) := hs.len
  have HK : Hid (SRd w k ck) := hk
  have HNK : Hid (k.n = ck.length) := hk.len
  obtain ⟨R, hR⟩ : ∃ R, proofL id cn sn tick ck = R := ⟨_, rfl⟩
  have HRD : Hid (proofL id cn sn tick ck = R) := hR
  rw [hR]
  clear hc hs hk hR
  go_enter Tryd.func44, Tryd.ntmps44
  obtain ⟨x1, hx1⟩ : ∃ x1, w.alloc (.cells #[.slice c.a c.n c.c, .slice s.a s.n s.c, .int .i64 tick, .slice k.a k.n k.c] 60) = x1 := ⟨_, rfl⟩
  have HW1 : Hid (w.alloc (.cells #[.slice c.a c.n c.c, .slice s.a s.n s.c, .int .i64 tick, .slice k.a k.n k.c] 60) = x1) := hx1
  have b1 : Below w.heap.size w x1 := by rw [← hx1]; exact (Below.refl _ _).alloc (Nat.le_refl _) _
  have KN : Blk x1 w.heap.size 60 [.slice c.a c.n c.c, .slice s.a s.n s.c, .int .i64 tick, .slice k.a k.n k.c] := by rw [← hx1]; exact Blk.new w _ _
  have HSZ1 : Hid (x1.heap.size = w.heap.size + 1) := by rw [← hx1]; show _ = _; simp
  clear hx1
  have L1 : Hid (w.heap.size ≤ x1.heap.size) := b1.size
  have B1 : Hid (Below w.heap.size w x1) := b1
  clear b1
  go_upto_region 2 with fail
  rw [HW1.out]
  obtain ⟨gc, hgc⟩ : ∃ g, w.heap.size = g := ⟨_, rfl⟩
  have Ggc : Hid (w.heap.size = gc ∧ x1.heap.size = gc + 1) := ⟨hgc, by rw [← hgc]; exact HSZ1.out⟩
  rw [hgc] at KN ⊢
  clear HW1 HSZ1 hgc
  have KC1 : Hid (Blk x1 gc 60 [.slice c.a c.n c.c, .slice s.a s.n s.c, .int .i64 tick, .slice k.a k.n k.c]) := KN
  clear KN
  go_wp2_with fail
  refine (FrW.isId id x1).mono ?_
  rintro e y ⟨rfl, rfl⟩
  cases h0 : (isIn id 1 9) with
  | false =>
    obtain rfl : R = [] := by rw [← HRD.out]; exact proofL_no (by unfold proofF; rw [h0]; rfl)
    go_wp2
    go_ret
    exact nil_ans B1.out
  | true =>
    have d0 := KC1.out.cell 0 rfl
    have d1 := KC1.out.cell 1 rfl
    have d2 := KC1.out.cell 2 rfl
    have d3 := KC1.out.cell 3 rfl
    go_wp2_with fail
    refine (FrW.cookRight c s tick k x1).mono ?_
    rintro e x2 ⟨rfl, b⟩
    have L2 : Hid (x1.heap.size ≤ x2.heap.size) := b.size
    have B2 : Hid (Below w.heap.size w x2) := B1.out.trans (b.mono B1.out.size)
    have KC2 : Hid (Blk x2 gc 60 [.slice c.a c.n c.c, .slice s.a s.n s.c, .int .i64 tick, .slice k.a k.n k.c]) := KC1.out.later b
    clear b B1 KC1
    clear d0 d1 d2 d3
    have HE : Hid (proofF id cn.length sn.length tick ck.length = (isIn id 1 9 && (((c.n : Int) == 12) && (((s.n : Int) == 12) && (isIn tick 0 1000000 && ((k.n : Int) == 16)))))) := by have e1 := HNC.out; have e2 := HNS.out; have e3 := HNK.out; show proofF _ _ _ _ _ = _; unfold proofF; rw [← e1, ← e2, ← e3]; simp only [Bool.and_assoc]
    cases h1 : (((c.n : Int) == 12) && (((s.n : Int) == 12) && (isIn tick 0 1000000 && ((k.n : Int) == 16)))) with
    | false =>
      obtain rfl : R = [] := by rw [← HRD.out]; exact proofL_no (by rw [HE.out, h0, h1]; rfl)
      go_wp2
      go_ret
      exact nil_ans B2.out
    | true =>
      have HF : Hid (proofF id cn.length sn.length tick ck.length = true) := by show proofF _ _ _ _ _ = true; rw [HE.out, h0, h1]; rfl
      have HP := proofF_parts HF.out
      have HL : Hid (cn.length = 12 ∧ sn.length = 12 ∧ ck.length = 16) := ⟨HP.2.1, HP.2.2.1, HP.2.2.2.2⟩
      have HI : Hid (1 ≤ id ∧ id ≤ 9) := HP.1
      have HQ : Hid ([[102, id], cn, sn, putN tick 4, ck].flatten = R) := by show _ = _; rw [← HRD.out, proofL_yes HF.out]; simp
      have hw8 : IntKind.u8.wrap id = id := by rw [IntKind.wrap_u8']; have := HI.out; omega
      have HRB : Hid (Bytes R) := by rw [← HRD.out]; exact proofL_bytes HC.out.bytes HS.out.bytes HK.out.bytes
      have HRL : Hid (R.length = 46) := by show _ = _; rw [← HRD.out]; exact proofL_len HF.out
      clear HP h0 h1
      clear KC2
      have A1 : Hid (Below x2.heap.size x2 (x2.alloc (.cells #[.int .u8 102, .int .u8 id] 5))) := (Below.refl _ _).alloc (Nat.le_refl _) _
      have Q1 : Hid (Row (x2.alloc (.cells #[.int .u8 102, .int .u8 id] 5)) x2.heap.size 2 [102, id]) := row_new x2 [102, id] (by simp [maxLen])
      go_wp2_with fail
      refine (implPutN none 0 0 [] tick 4 (x2.alloc (.cells #[.int .u8 102, .int .u8 id] 5)) rfl (fun i hi => by cases hi) (fun _ => rfl) (by simp)).mono ?_
      rintro e y1 ⟨g4, m4, c4, rfl, em, kg, rr, b⟩
      obtain rfl : m4 = 4 := by rw [em, List.nil_append, putN4_len]
      have A2 : Hid (Below w.heap.size w y1) := B2.out.trans ((A1.out.trans (b.mono A1.out.size)).mono B2.out.size)
      have Q2 : Hid (SRd y1 ⟨some ⟨x2.heap.size, 0, none⟩, 2, 2⟩ [102, id]) := (rowSRd Q1.out rfl (two_bytes HI.out)).later b
      have Q4 : Hid (SRd y1 ⟨some ⟨g4, 0, none⟩, 4, c4⟩ (putN tick 4)) := rowSRd (List.nil_append (putN tick 4) ▸ rr) (putN4_len tick).symm (num_bytes _ _)
      clear em kg rr b A1 Q1
      have P5 : Hid (Parts (y1.alloc (.cells #[.slice (some ⟨x2.heap.size, 0, none⟩) 2 2, .slice c.a c.n c.c, .slice s.a s.n s.c, .slice (some ⟨g4, 0, none⟩) 4 c4, .slice k.a k.n k.c] 22)) y1.heap.size [⟨some ⟨x2.heap.size, 0, none⟩, 2, 2⟩, c, s, ⟨some ⟨g4, 0, none⟩, 4, c4⟩, k] [[102, id], cn, sn, putN tick 4, ck]) := Parts.of (Blk.new y1 _ _) ⟨Q2.out.later ((Below.refl _ _).alloc (Nat.le_refl _) _), (HC.out.later A2.out).later ((Below.refl _ _).alloc (Nat.le_refl _) _), (HS.out.later A2.out).later ((Below.refl _ _).alloc (Nat.le_refl _) _), Q4.out.later ((Below.refl _ _).alloc (Nat.le_refl _) _), (HK.out.later A2.out).later ((Below.refl _ _).alloc (Nat.le_refl _) _), trivial⟩
      have A3 : Hid (Below w.heap.size w (y1.alloc (.cells #[.slice (some ⟨x2.heap.size, 0, none⟩) 2 2, .slice c.a c.n c.c, .slice s.a s.n s.c, .slice (some ⟨g4, 0, none⟩) 4 c4, .slice k.a k.n k.c] 22))) := A2.out.alloc A2.out.size _
      go_wp2_with fail
      refine (laid y1.heap.size 5 [⟨some ⟨x2.heap.size, 0, none⟩, 2, 2⟩, c, s, ⟨some ⟨g4, 0, none⟩, 4, c4⟩, k] [[102, id], cn, sn, putN tick 4, ck] 5 (y1.alloc (.cells #[.slice (some ⟨x2.heap.size, 0, none⟩) 2 2, .slice c.a c.n c.c, .slice s.a s.n s.c, .slice (some ⟨g4, 0, none⟩) 4 c4, .slice k.a k.n k.c] 22)) rfl P5.out (by rw [HQ.out, HRL.out]; omega) (by omega)).mono ?_
      rw [HQ.out]
      rintro e y2 ⟨g5, m5, c5, rfl, em, kg, rr, b⟩
      have R5 : Hid (Row y2 g5 c5 R) := rr
      have E5 : Hid (m5 = R.length) := em
      have G5 : Hid (w.heap.size ≤ g5) := Nat.le_trans A3.out.size kg
      have B5 : Hid (Below w.heap.size w y2) := A3.out.trans (b.mono A3.out.size)
      clear em kg rr b P5 A3
      go_wp2
      go_ret
      exact ⟨⟨some ⟨g5, 0, none⟩, m5, c5⟩, rfl, SOwn.row R5.out E5.out HRB.out G5.out R5.out.lt, B5.out⟩
end Go.Proofs.YtpenhliaelhnoaaDoor.KeI
