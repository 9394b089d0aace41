/-
  What impl's AddrOk, Near, PutAddr and GetAddr answer.
-/
import Derived.Test.YtpgapjdejelajaaDoorAddrE
namespace Go.Proofs.YtpgapjdejelajaaDoor.AddrI
open Go.RowKit Go.Proofs.YtpgapjdejelajaaDoor.Mem Go.Proofs.YtpgapjdejelajaaDoor.App Go.Proofs.YtpgapjdejelajaaDoor.Get Go.Proofs.YtpgapjdejelajaaDoor.Blk Go.Proofs.YtpgapjdejelajaaDoor.Words Go.Proofs.YtpgapjdejelajaaDoor.AddrP Go.Proofs.YtpgapjdejelajaaDoor.Res Go.Proofs.YtpgapjdejelajaaDoor.Each Go.Proofs.YtpgapjdejelajaaDoor.Copy Go.Proofs.YtpgapjdejelajaaDoor.Ops Go.Proofs.YtpgapjdejelajaaDoor.AddrS Go.Proofs.YtpgapjdejelajaaDoor.AddrE

set_option maxRecDepth 100000 in
theorem wrap64_u16 (p : Int) : wrap64 (IntKind.u16.wrap p) = p % 65536 := by
  have e : IntKind.u16.wrap p = p % 65536 := by simp [IntKind.wrap, IntKind.signed, IntKind.bits]
  rw [e]
  unfold wrap64
  omega

set_option maxRecDepth 100000 in
set_option maxHeartbeats 800000 in
theorem implAddrOk (h p : Int) (w : World) :
    Calls Tryd.prog 50 #[addrV h p] w fun e w' => e = .returned (.bool (addrOk h p)) ∧ Below w.heap.size w w' := by
  have KB : Hid (Below w.heap.size w (w.alloc (.cells #[.int .i64 h, .int .i64 p] 38))) := (Below.refl _ _).alloc (Nat.le_refl _) _
  have E : Hid (∀ x y : Int, x = h % 4294967296 → y = p % 65536 → (h == x && p == y) = addrOk h p) := by
    intro x y hx hy
    unfold addrOk
    rw [Bool.eq_iff_iff]
    simp only [Bool.and_eq_true, beq_iff_eq, decide_eq_true_eq]
    omega
  unfold addrV
  have eqp := eqPair h p
  go_enter Tryd.func50, Tryd.ntmps50
  go_wp2
  go_ret
  refine ⟨?_, KB.out⟩
  show Ending.returned (Value.bool (h == h % 4294967296 && p == wrap64 (IntKind.u16.wrap p))) = _
  rw [E.out _ _ rfl (wrap64_u16 p)]

set_option maxRecDepth 100000 in
set_option maxHeartbeats 1600000 in
theorem implPutAddr (a : Option Addr) (n c : Nat) (l : List Int) (h p : Int) (w : World) (en : n = l.length) (hr : Rd w a l) (na : a = none → c = 0) (ll : n ≤ 2000000) :
    Calls Tryd.prog 40 #[.slice a n c, addrV h p] w fun e w' =>
      ∃ g m c', e = .returned (.slice (some ⟨g, 0, none⟩) m c') ∧ m = (putA l h p).length ∧ w.heap.size ≤ g ∧ Row w' g c' (putA l h p) ∧ Below w.heap.size w w' := by
  have EN : Hid (n = l.length) := en
  have HR : Hid (Rd w a l) := hr
  obtain ⟨w0, hw0⟩ : ∃ w0, w.alloc (.cells #[.int .i64 h, .int .i64 p] 38) = w0 := ⟨_, rfl⟩
  have HW0 : Hid (w.alloc (.cells #[.int .i64 h, .int .i64 p] 38) = w0) := hw0
  have B0 : Hid (Below w.heap.size w w0) := by rw [← hw0]; exact (Below.refl _ _).alloc (Nat.le_refl _) _
  have K0 : Hid (Blk w0 w.heap.size 38 [.int .i64 h, .int .i64 p]) := by rw [← hw0]; exact Blk.new w _ _
  have o0 := K0.out.cell 0 rfl
  have o1 := K0.out.cell 1 rfl
  clear en hr hw0
  unfold addrV
  go_enter Tryd.func40, Tryd.ntmps40
  go_wp2_with fail
  rw [HW0.out]
  refine (implAddrOk h p w0).mono ?_
  rintro e w1 ⟨rfl, b1⟩
  have B1 : Hid (Below w.heap.size w w1) := B0.out.trans (b1.mono B0.out.size)
  have K1 : Hid (Blk w1 w.heap.size 38 [.int .i64 h, .int .i64 p]) := K0.out.later b1
  have R1 : Hid (Rd w1 a l) := HR.out.later B1.out (Nat.le_refl _)
  clear b1 o0 o1
  cases hk : addrOk h p with
  | false =>
    have HP : Hid (putA l h p = l ++ []) := by show _ = _; unfold putA; rw [if_neg (by rw [hk]; simp), List.append_nil]
    go_wp2_with fail
    refine (putBytes a none n c 0 0 l [] w1 EN.out rfl R1.out (by intro i hi; simp at hi) na (by intro _; rfl) (by rw [← EN.out]; omega) (by simp)).mono ?_
    rintro e w2 ⟨rfl, r2, b2⟩
    have R2 : Hid (Row w2 w1.heap.size (n + 0) (putA l h p)) := by show Row _ _ _ _; rw [HP.out]; exact r2
    have E2 : Hid (n + 0 = (putA l h p).length) := by show _ = _; rw [HP.out, List.append_nil]; exact EN.out
    have G2 : Hid (w.heap.size ≤ w1.heap.size) := B1.out.size
    have B2 : Hid (Below w.heap.size w w2) := B1.out.trans (b2.mono B1.out.size)
    clear r2 b2
    go_wp2
    go_ret
    exact ⟨w1.heap.size, n + 0, n + 0, by simp, E2.out, G2.out, R2.out, B2.out⟩
  | true =>
    have HP : Hid (putA l h p = l ++ putN h 4 ++ putN p 2) := by show _ = _; unfold putA; rw [if_pos hk]; rfl
    go_upto_region 3 with fail
    go_cut [4] from 10 to 16 (fun s4 wx => ∃ g m c', s4 = .slice (some ⟨g, 0, none⟩) m c' ∧ m = (l ++ putN h 4 ++ putN p 2).length ∧ Row wx g c' (l ++ putN h 4 ++ putN p 2) ∧ w1.heap.size ≤ g ∧ Below w1.heap.size w1 wx)
    case first =>
      rename_i J K' hRJ hMet
      generalize hA : Act.mk _ _ = A
      have a0' : A.eval (.tmp 0) = .slice a n c := by rw [← hA]; rfl
      have a3' : A.eval (.tmp 3) = .pointer (some ⟨w.heap.size, 0, none⟩) := by rw [← hA]; rfl
      have asz : A.tmps.size = 17 := by rw [← hA]; rfl
      have hK : ∀ wx, Below w1.heap.size w1 wx → Blk wx w.heap.size 38 [.int .i64 h, .int .i64 p] := fun wx hb => K1.out.later hb
      have hRl : ∀ wx, Below w1.heap.size w1 wx → Rd wx a l := fun wx hb => HR.out.later (B1.out.trans (hb.mono B1.out.size)) (Nat.le_refl _)
      refine region_each (by kernel_rfl) [10, 11, 12, 13, 14, 15, 16] 7 (fun i => [10, 11, 12, 13, 14, 15, 16].getD i 0) (fun _ => 0)
        (fun i gB v wx => match i with
          | 0 => v = .slice a n c
          | 1 => v = .pointer (some ⟨w.heap.size, 0, none⟩)
          | 2 => v = .int .i64 h
          | 3 => ∃ m c, v = .slice (some ⟨gB, 0, none⟩) m c ∧ m = (l ++ putN h 4).length ∧ Row wx gB c (l ++ putN h 4)
          | 4 => v = .pointer (some ⟨w.heap.size, 1, none⟩)
          | 5 => v = .int .i64 p
          | 6 => ∃ m c, v = .slice (some ⟨gB, 0, none⟩) m c ∧ m = (l ++ putN h 4 ++ putN p 2).length ∧ Row wx gB c (l ++ putN h 4 ++ putN p 2) ∧ w1.heap.size ≤ gB
          | _ => False) (fun wx => Below w1.heap.size w1 wx) (by kernel_rfl) (Below.refl _ _).drew ?_ ?_ ?_
      · intro i gB v wx wy hi hF hb _
        match i, hi with
        | 0, _ => exact hF
        | 1, _ => exact hF
        | 2, _ => exact hF
        | 3, _ => obtain ⟨m, c, h0, h1, h2⟩ := hF; exact ⟨m, c, h0, h1, h2.later hb⟩
        | 4, _ => exact hF
        | 5, _ => exact hF
        | 6, _ => obtain ⟨m, c, h0, h1, h2, h3⟩ := hF; exact ⟨m, c, h0, h1, h2.later hb, h3⟩
      · intro i hi t ρ wx hB hp hd
        match i, hi with
        | 0, _ =>
          have e0 : (fr [10, 11, 12, 13, 14, 15, 16] A t).eval (.tmp 0) = .slice a n c := (fr_eval_old _ _ _ 0 rfl).trans a0'
          refine op_run (v := .slice a n c) (w' := wx) rfl rfl ?_ ?_
          · clear hp hd; have ec : ∀ v, (fr [10, 11, 12, 13, 14, 15, 16] A t).eval (.const v) = v := fun _ => rfl; generalize (fr [10, 11, 12, 13, 14, 15, 16] A t).eval = ev at ec e0 ⊢; go_simp
          · exact ⟨_, 0, rfl, hB, Below.refl _ _, rfl, .inl rfl⟩
        | 1, _ =>
          have e3 : (fr [10, 11, 12, 13, 14, 15, 16] A t).eval (.tmp 3) = .pointer (some ⟨w.heap.size, 0, none⟩) := (fr_eval_old _ _ _ 3 rfl).trans a3'
          refine op_run (v := .pointer (some ⟨w.heap.size, 0, none⟩)) (w' := wx) rfl rfl ?_ ?_
          · clear hp hd; have ec : ∀ v, (fr [10, 11, 12, 13, 14, 15, 16] A t).eval (.const v) = v := fun _ => rfl; generalize (fr [10, 11, 12, 13, 14, 15, 16] A t).eval = ev at ec e3 ⊢; go_simp
          · exact ⟨_, 0, rfl, hB, Below.refl _ _, rfl, .inl rfl⟩
        | 2, _ =>
          have e11 : (fr [10, 11, 12, 13, 14, 15, 16] A t).eval (.tmp 11) = .pointer (some ⟨w.heap.size, 0, none⟩) := (fr_eval _ _ _ 11 rfl (by rw [asz]; decide)).trans (hp 1 (pre_mem (by kernel_rfl)))
          have hc := (hK wx hB).cell 0 rfl
          refine op_run (v := .int .i64 h) (w' := wx) rfl rfl ?_ ?_
          · clear hp hd; have ec : ∀ v, (fr [10, 11, 12, 13, 14, 15, 16] A t).eval (.const v) = v := fun _ => rfl; generalize (fr [10, 11, 12, 13, 14, 15, 16] A t).eval = ev at ec e11 ⊢; go_simp
          · exact ⟨_, 0, rfl, hB, Below.refl _ _, rfl, .inl rfl⟩
        | 3, _ =>
          have e10 : (fr [10, 11, 12, 13, 14, 15, 16] A t).eval (.tmp 10) = .slice a n c := (fr_eval _ _ _ 10 rfl (by rw [asz]; decide)).trans (hp 0 (pre_mem (by kernel_rfl)))
          have e12 : (fr [10, 11, 12, 13, 14, 15, 16] A t).eval (.tmp 12) = .int .i64 h := (fr_eval _ _ _ 12 rfl (by rw [asz]; decide)).trans (hp 2 (pre_mem (by kernel_rfl)))
          refine op_call (f := 39) (args := #[.slice a n c, .int .i64 h, .int .i64 4]) rfl rfl ?_ (implPutN a n c l h 4 wx EN.out (hRl wx hB) na (by rw [← EN.out]; omega)) ?_
          · have ef : (fr [10, 11, 12, 13, 14, 15, 16] A t).eval (.func 39) = .func (.func 39) #[] #[] := rfl; clear hp hd; have ec : ∀ v, (fr [10, 11, 12, 13, 14, 15, 16] A t).eval (.const v) = v := fun _ => rfl; generalize (fr [10, 11, 12, 13, 14, 15, 16] A t).eval = ev at ec e10 e12 ef ⊢; go_simp
          · rintro e wy ⟨g2, m2, c2, rfl, e2, k2, r2, b2⟩
            exact ⟨_, rfl, _, g2, rfl, hB.trans (b2.mono hB.size), b2, ⟨m2, c2, rfl, e2, r2⟩, .inl rfl⟩
        | 4, _ =>
          have e3 : (fr [10, 11, 12, 13, 14, 15, 16] A t).eval (.tmp 3) = .pointer (some ⟨w.heap.size, 0, none⟩) := (fr_eval_old _ _ _ 3 rfl).trans a3'
          refine op_run (v := .pointer (some ⟨w.heap.size, 1, none⟩)) (w' := wx) rfl rfl ?_ ?_
          · clear hp hd; have ec : ∀ v, (fr [10, 11, 12, 13, 14, 15, 16] A t).eval (.const v) = v := fun _ => rfl; generalize (fr [10, 11, 12, 13, 14, 15, 16] A t).eval = ev at ec e3 ⊢; go_simp
          · exact ⟨_, 0, rfl, hB, Below.refl _ _, rfl, .inl rfl⟩
        | 5, _ =>
          have e14 : (fr [10, 11, 12, 13, 14, 15, 16] A t).eval (.tmp 14) = .pointer (some ⟨w.heap.size, 1, none⟩) := (fr_eval _ _ _ 14 rfl (by rw [asz]; decide)).trans (hp 4 (pre_mem (by kernel_rfl)))
          have hc := (hK wx hB).cell 1 rfl
          refine op_run (v := .int .i64 p) (w' := wx) rfl rfl ?_ ?_
          · clear hp hd; have ec : ∀ v, (fr [10, 11, 12, 13, 14, 15, 16] A t).eval (.const v) = v := fun _ => rfl; generalize (fr [10, 11, 12, 13, 14, 15, 16] A t).eval = ev at ec e14 ⊢; go_simp
          · exact ⟨_, 0, rfl, hB, Below.refl _ _, rfl, .inl rfl⟩
        | 6, _ =>
          obtain ⟨m3, c3, hv3, q3_0, q3_1⟩ := hp 3 (pre_mem (by kernel_rfl))
          have e13 : (fr [10, 11, 12, 13, 14, 15, 16] A t).eval (.tmp 13) = .slice (some ⟨(ρ 3), 0, none⟩) m3 c3 := (fr_eval _ _ _ 13 rfl (by rw [asz]; decide)).trans hv3
          have e15 : (fr [10, 11, 12, 13, 14, 15, 16] A t).eval (.tmp 15) = .int .i64 p := (fr_eval _ _ _ 15 rfl (by rw [asz]; decide)).trans (hp 5 (pre_mem (by kernel_rfl)))
          refine op_call (f := 39) (args := #[.slice (some ⟨(ρ 3), 0, none⟩) m3 c3, .int .i64 p, .int .i64 2]) rfl rfl ?_ (implPutN (some ⟨(ρ 3), 0, none⟩) m3 c3 (l ++ putN h 4) p 2 wx q3_0 q3_1.rd (by intro e; cases e) (by have := EN.out; have := putN_length h 4; rw [List.length_append]; omega)) ?_
          · have ef : (fr [10, 11, 12, 13, 14, 15, 16] A t).eval (.func 39) = .func (.func 39) #[] #[] := rfl; clear hp hd q3_0 q3_1; have ec : ∀ v, (fr [10, 11, 12, 13, 14, 15, 16] A t).eval (.const v) = v := fun _ => rfl; generalize (fr [10, 11, 12, 13, 14, 15, 16] A t).eval = ev at ec e13 e15 ef ⊢; go_simp
          · rintro e wy ⟨g2, m2, c2, rfl, e2, k2, r2, b2⟩
            exact ⟨_, rfl, _, g2, rfl, hB.trans (b2.mono hB.size), b2, ⟨m2, c2, rfl, e2, r2, Nat.le_trans hB.size k2⟩, .inl rfl⟩
      · intro t ρ wx hB hF hne
        obtain ⟨m6, c6, hv6, q6_0, q6_1, q6_2⟩ := hF 6 (by decide)
        have e16 : (fr [10, 11, 12, 13, 14, 15, 16] A t).eval (.tmp 16) = .slice (some ⟨(ρ 6), 0, none⟩) m6 c6 := (fr_eval _ _ _ 16 rfl (by rw [asz]; decide)).trans hv6
        clear hne
        have E16 : Hid _ := q6_0
        refine op_wp rfl rfl ?_
        generalize hE : (fr [10, 11, 12, 13, 14, 15, 16] A t).eval = ev at e16
        unfold Oper.wp
        rw [hE]
        clear q6_0
        go_simp
        refine hMet _ _ (Met.intro (hRJ _ _ ⟨_, t 10, t 11, t 12, t 13, t 14, t 15, t 16, ⟨_, _, _, rfl, E16.out, q6_1, q6_2, hB⟩, ?_⟩))
        rw [← hA]; rfl
    case rest =>
      obtain ⟨g3, m3, c3, rfl, e3, r3, k3, b3⟩ := hcut
      have R3 : Hid (Row wc g3 c3 (putA l h p)) := by show Row _ _ _ _; rw [HP.out]; exact r3
      have E3 : Hid (m3 = (putA l h p).length) := by show _ = _; rw [HP.out]; exact e3
      have G3 : Hid (w.heap.size ≤ g3) := Nat.le_trans B1.out.size k3
      have B3 : Hid (Below w.heap.size w wc) := B1.out.trans (b3.mono B1.out.size)
      clear e3 r3 k3 b3
      go_wp2
      go_ret
      exact ⟨g3, m3, c3, by simp, E3.out, G3.out, R3.out, B3.out⟩

end Go.Proofs.YtpgapjdejelajaaDoor.AddrI
