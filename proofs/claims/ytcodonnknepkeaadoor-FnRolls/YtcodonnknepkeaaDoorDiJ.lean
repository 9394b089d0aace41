/-
  What impl's DiceAt and Roll answer, where the table of round words holds what the program's text lays into it.
-/
import Derived.Test.YtcodonnknepkeaaDoorDig1
import Derived.Test.YtcodonnknepkeaaDoorDiI
import Derived.Test.YtcodonnknepkeaaDoorMacI
import Derived.Test.YtcodonnknepkeaaDoorShp
import Derived.Lib.SlBytesConst
import Derived.Lib.SmallJoins
import Derived.Deep.RegionHeld3
namespace Go.Proofs.YtcodonnknepkeaaDoor.DiJ
open Go.RowKit Go.Proofs.YtcodonnknepkeaaDoor.Mem Go.Proofs.YtcodonnknepkeaaDoor.App Go.Proofs.YtcodonnknepkeaaDoor.Blk Go.Proofs.YtcodonnknepkeaaDoor.Words Go.Proofs.YtcodonnknepkeaaDoor.Zone Go.Proofs.YtcodonnknepkeaaDoor.Res Go.Proofs.YtcodonnknepkeaaDoor.DiZ Go.Proofs.YtcodonnknepkeaaDoor.DiL Go.Proofs.YtcodonnknepkeaaDoor.DiP Go.Proofs.YtcodonnknepkeaaDoor.DiQ Go.Proofs.YtcodonnknepkeaaDoor.MacP Go.Proofs.YtcodonnknepkeaaDoor.Str Go.Proofs.YtcodonnknepkeaaDoor.Shp Go.Proofs.YtcodonnknepkeaaDoor.Each Go.Proofs.YtcodonnknepkeaaDoor.Copy Go.Proofs.YtcodonnknepkeaaDoor.Ops Go.Proofs.YtcodonnknepkeaaDoor.Comp Go.Proofs.YtcodonnknepkeaaDoor.MacI Go.Proofs.YtcodonnknepkeaaDoor.DiI

set_option maxRecDepth 100000 in
theorem nil_ans {w x : World} (b : Below w.heap.size w x) : AnsB [] w (.returned (.slice (some ⟨x.heap.size, 0, none⟩) 0 0)) (x.alloc (.cells #[] 5)) :=
  ⟨⟨some ⟨x.heap.size, 0, none⟩, 0, 0⟩, rfl, SOwn.row (row_new x [] (by simp)) rfl (fun z hz => by cases hz) b.size (by rw [World.size_alloc]; exact Nat.lt_succ_self _), b.alloc b.size _⟩
set_option maxRecDepth 100000 in
theorem bs_roll : bs rollB = [114, 111, 108, 108] := rfl
set_option maxRecDepth 100000 in
theorem roll_rd (x : World) : Rd (x.alloc (.cells #[.int .u8 114, .int .u8 111, .int .u8 108, .int .u8 108] 5 (4, 5))) (some ⟨x.heap.size, 0, none⟩) (bs rollB) := by
  intro i hi
  rw [roll_len] at hi
  refine ⟨x.heap.size, 0, rfl, by rw [World.size_alloc]; exact Nat.lt_succ_self _, ?_⟩
  rw [Nat.zero_add, World.cell?_alloc_mark, bs_roll]
  match i, hi with
  | 0, _ => rfl
  | 1, _ => rfl
  | 2, _ => rfl
  | 3, _ => rfl
set_option maxRecDepth 100000 in
theorem row_pre {w : World} {g k : Nat} {l : List Int} (h : Rd w (some ⟨g, 0, none⟩) l) (hk : k ≤ l.length) : Rd w (some ⟨g, 0, none⟩) (l.take k) := by
  intro i hi
  rw [List.length_take] at hi
  obtain ⟨b', off, e, hb', hh⟩ := h i (by omega)
  refine ⟨b', off, e, hb', ?_⟩
  rw [hh]
  have : i < k := by omega
  simp [List.getD, this]

set_option maxRecDepth 100000 in
theorem hide {p : Prop} (h : p) : Hid p := h
set_option maxRecDepth 100000 in
theorem own_new (x : World) : SOwn (x.alloc (.cells #[] 5)) x.heap.size (x.heap.size + 1) ⟨some ⟨x.heap.size, 0, none⟩, 0, 0⟩ [] := SOwn.row (row_new x [] (by simp)) rfl (fun z hz => by cases hz) (Nat.le_refl _) (Nat.lt_succ_self _)
set_option maxRecDepth 100000 in
theorem own_top {w : World} {lo hi : Nat} {s : Sl} {l : List Int} (h : SOwn w lo hi s l) : SOwn w lo w.heap.size s l := ⟨h.1, h.2.elim .inl (fun ⟨g, h1, h2, h3, _, h5⟩ => .inr ⟨g, h1, h2, h3, h5.lt, h5⟩)⟩

set_option maxRecDepth 100000 in
set_option maxHeartbeats 8000000 in
theorem implDiceAt (s : Sl) (l : List Int) (n : Int) (w : World) (hT : Tab w) (h : SRd w s l) :
    Calls Tryd.prog 13 #[.slice s.a s.n s.c, .int .i64 n] w (AnsB (atL l n) w) := by
  have HR : Hid (SRd w s l) := h
  have HT : Hid (Tab w) := hT
  have HN : Hid (s.n = l.length) := h.len
  obtain ⟨R, hR⟩ : ∃ R, atL l n = R := ⟨_, rfl⟩
  have HRD : Hid (atL l n = R) := hR
  rw [hR]
  clear h hR hT
  go_enter Tryd.func13, Tryd.ntmps13
  go_wp2_with fail
  refine (isSeed s.a s.n s.c w).mono ?_
  rintro e y ⟨rfl, rfl⟩
  cases h0 : seedOk s.n with
  | false =>
    obtain rfl : R = [] := by rw [← HRD.out]; exact at_no (by unfold atB; rw [← HN.out, h0]; rfl)
    have h0' : isIn (s.n : Int) 1 32 = false := h0
    go_wp2
    go_ret
    exact nil_ans (Below.refl _ _)
  | true =>
    have h0' : isIn (s.n : Int) 1 32 = true := h0
    go_wp2_with fail
    refine (isRoll n w).mono ?_
    rintro e y ⟨rfl, rfl⟩
    cases h1 : rollOk n with
    | false =>
      obtain rfl : R = [] := by rw [← HRD.out]; exact at_no (by unfold atB; rw [← HN.out, h0, h1]; rfl)
      have h1' : isIn n 0 10000 = false := h1
      go_wp2
      go_ret
      exact nil_ans (Below.refl _ _)
    | true =>
      have HB : Hid (atB l n = true) := by show atB l n = true; unfold atB; rw [← HN.out, h0, h1]; rfl
      have h1' : isIn n 0 10000 = true := h1
      have HQ : Hid ((hmacI l (ofN n)).take 12 = R) := by show _ = _; rw [← HRD.out, at_yes HB.out]
      have HL : Hid (l.length ≤ 32) := (seedOk_iff.1 (Bool.and_eq_true_iff.1 HB.out).1).2
      have HM : Hid ((hmacI l (ofN n)).length = 32) := hm_len HB.out
      obtain ⟨x1, hx1⟩ : ∃ x1, w.alloc (.cells #[.int .u8 114, .int .u8 111, .int .u8 108, .int .u8 108] 5 (4, 5)) = x1 := ⟨_, rfl⟩
      have HW1 : Hid (w.alloc (.cells #[.int .u8 114, .int .u8 111, .int .u8 108, .int .u8 108] 5 (4, 5)) = x1) := hx1
      have B1 : Hid (Below w.heap.size w x1) := by rw [← hx1]; exact (Below.refl _ _).alloc (Nat.le_refl _) _
      have R1 : Hid (Rd x1 (some ⟨w.heap.size, 0, none⟩) (bs rollB)) := by rw [← hx1]; exact roll_rd w
      have kc := Lib.run_convert_bytes_const (P := Tryd.prog) w 22 5 #[.int .u8 114, .int .u8 111, .int .u8 108, .int .u8 108] 4 4 Tryd.underlying22 Tryd.underlying5
      clear hx1
      go_wp2_with fail
      rw [HW1.out]
      clear kc HW1
      refine (implPutN (some ⟨w.heap.size, 0, none⟩) 4 4 (bs rollB) n 4 x1 roll_len.symm R1.out (by intro e; cases e) (by rw [roll_len]; omega)).mono ?_
      rintro e x2 ⟨g2, m2, c2, rfl, em, kg, rr, b⟩
      have E2 : Hid (m2 = (ofN n).length) := em
      have R2 : Hid (Row x2 g2 c2 (ofN n)) := rr
      have B2 : Hid (Below w.heap.size w x2) := B1.out.trans (b.mono B1.out.size)
      have hm2 : m2 ≤ 10 := by rw [em]; exact ofN_len n
      clear em kg rr b
      go_wp2_with fail
      refine (implHmac s.a s.n s.c (some ⟨g2, 0, none⟩) m2 c2 l (ofN n) x2 (HT.out.later B2.out) HN.out E2.out (HR.out.later B2.out).rd R2.out.rd HR.out.nil (by intro e; cases e) HR.out.bytes (ofN_bytes n) (by have := HN.out; have := HL.out; omega) (by omega)).mono ?_
      rintro e x3 ⟨g3, m3, c3, rfl, em, kg, rr, b⟩
      obtain rfl : 32 = m3 := by rw [em, HM.out]
      have T3 : Hid (Rd x3 (some ⟨g3, 0, none⟩) R) := by rw [← HQ.out]; exact row_pre rr.rd (by rw [HM.out]; omega)
      have TL : Hid (12 = R.length) := by rw [← HQ.out]; show _ = _; rw [List.length_take, HM.out]; rfl
      have B3 : Hid (Below w.heap.size w x3) := B2.out.trans (b.mono B2.out.size)
      have hc3 : (32 : Int) ≤ (c3 : Int) := by have := rr.1; rw [HM.out] at this; omega
      have HRB : Hid (Bytes R) := by rw [← HQ.out]; exact fun z hz => hmacI_bytes _ _ z (List.mem_of_mem_take hz)
      clear em kg rr b
      go_wp2_with fail
      refine (putBytes (some ⟨g3, 0, none⟩) none 12 c3 0 0 R [] x3 TL.out rfl T3.out (fun i hi => by cases hi) (by intro e; cases e) (fun _ => rfl) (by rw [← TL.out]; omega) (by simp)).mono ?_
      rintro e x4 ⟨rfl, r4, b⟩
      have R4 : Hid (Row x4 x3.heap.size 12 R) := (List.append_nil R) ▸ r4
      have B4 : Hid (Below w.heap.size w x4) := B3.out.trans (b.mono B3.out.size)
      clear r4 b
      go_wp2
      go_ret
      exact ⟨⟨some ⟨x3.heap.size, 0, none⟩, 12, 12⟩, rfl, SOwn.row R4.out TL.out HRB.out B3.out.size R4.out.lt, B4.out⟩

set_option maxRecDepth 100000 in
set_option maxHeartbeats 8000000 in
theorem rollM (g : Nat) (s : Sl) (l : List Int) (n : Int) (w : World) (hT : Tab w) (k : Blk w g 25 [.slice s.a s.n s.c, .int .i64 n]) (h : SRd w s l) (hn : 0 ≤ n ∧ n < 10000) :
    Calls Tryd.prog 44 #[.pointer (some ⟨g, 0, none⟩)] w fun e w' => ∃ (S0 : Sl) (x : World), e = .returned (.slice S0.a S0.n S0.c) ∧ w' = x.setCell ⟨g, 1, none⟩ (.int .i64 (n + 1)) ∧ SOwn x w.heap.size x.heap.size S0 (atL l n) ∧ Below w.heap.size w x := by
  have HT : Hid (Tab w) := hT
  have KG0 : Hid (Blk w g 25 [.slice s.a s.n s.c, .int .i64 n]) := k
  have HR : Hid (SRd w s l) := h
  have hwr : IntKind.i64.wrap (n + 1) = n + 1 := by rw [IntKind.wrap_i64]; omega
  obtain ⟨R, hR⟩ : ∃ R, atL l n = R := ⟨_, rfl⟩
  have HQ : Hid (atL l n = R) := hR
  rw [hR]
  clear hT k h hn hR
  go_enter Tryd.func44, Tryd.ntmps44
  obtain ⟨x0, hx0⟩ : ∃ x0, w = x0 := ⟨_, rfl⟩
  have B0 : Hid (Below w.heap.size w x0) := by rw [← hx0]; exact Below.refl _ _
  have KG : Hid (Blk x0 g 25 [.slice s.a s.n s.c, .int .i64 n]) := by rw [← hx0]; exact KG0.out
  go_upto_region 1 with fail
  rw [show Code.wp = Code.wp from rfl]
  go_cut [3] from 4 to 12 (fun sv wx => ∃ S0 : Sl, sv = .slice S0.a S0.n S0.c ∧ SOwn wx w.heap.size wx.heap.size S0 R ∧ Below w.heap.size w wx)
  case first =>
    subst hx0
    rename_i J K' hRJ hMet
    generalize hA : Act.mk _ _ = A
    have a0' : A.eval (.tmp 0) = .pointer (some ⟨g, 0, none⟩) := by rw [← hA]; rfl
    have asz : A.tmps.size = 21 := by rw [← hA]; rfl
    have hK : ∀ wx, Below w.heap.size w wx → Blk wx g 25 [.slice s.a s.n s.c, .int .i64 n] := fun wx hb => KG.out.later hb
    have hW : ∀ wx, Below w.heap.size w wx → Below w.heap.size w wx := fun wx hb => B0.out.trans (hb.mono B0.out.size)
    refine region_each (by kernel_rfl) [4, 5, 6, 7, 8, 9, 10, 11, 12] 9 (fun i => [4, 5, 6, 7, 8, 9, 10, 11, 12].getD i 0) (fun _ => 0)
      (fun i gB v wx => match i with
        | 0 => v = .pointer (some ⟨g, 0, none⟩)
        | 1 => v = .pointer (some ⟨g, 0, none⟩)
        | 2 => v = .pointer (some ⟨g, 0, none⟩)
        | 3 => v = .slice s.a s.n s.c
        | 4 => v = .pointer (some ⟨g, 0, none⟩)
        | 5 => v = .pointer (some ⟨g, 0, none⟩)
        | 6 => v = .pointer (some ⟨g, 1, none⟩)
        | 7 => v = .int .i64 n
        | 8 => ∃ S0 hi, v = .slice S0.a S0.n S0.c ∧ SOwn wx w.heap.size hi S0 R
        | _ => False) (fun wx => Below w.heap.size w wx) (by kernel_rfl) (Below.refl _ _).drew ?_ ?_ ?_
    · intro i gB v wx wy hi hF hb _
      match i, hi with
      | 0, _ => exact hF
      | 1, _ => exact hF
      | 2, _ => exact hF
      | 3, _ => exact hF
      | 4, _ => exact hF
      | 5, _ => exact hF
      | 6, _ => exact hF
      | 7, _ => exact hF
      | 8, _ => obtain ⟨S0, hi, h0, h1⟩ := hF; exact ⟨S0, hi, h0, h1.later hb⟩
    · intro i hi t ρ wx hB hp hd
      match i, hi with
      | 0, _ =>
        have e0 : (fr [4, 5, 6, 7, 8, 9, 10, 11, 12] A t).eval (.tmp 0) = .pointer (some ⟨g, 0, none⟩) := (fr_eval_old _ _ _ 0 rfl).trans a0'
        refine op_run (v := .pointer (some ⟨g, 0, none⟩)) (w' := wx) rfl rfl ?_ ?_
        · clear hp hd; have ec : ∀ v, (fr [4, 5, 6, 7, 8, 9, 10, 11, 12] A t).eval (.const v) = v := fun _ => rfl; generalize (fr [4, 5, 6, 7, 8, 9, 10, 11, 12] A t).eval = ev at ec e0 ⊢; go_simp
        · exact ⟨_, 0, rfl, hB, Below.refl _ _, rfl, .inl rfl⟩
      | 1, _ =>
        have e4 : (fr [4, 5, 6, 7, 8, 9, 10, 11, 12] A t).eval (.tmp 4) = .pointer (some ⟨g, 0, none⟩) := (fr_eval _ _ _ 4 rfl (by rw [asz]; decide)).trans (hp 0 (pre_mem (by kernel_rfl)))
        refine op_run (v := .pointer (some ⟨g, 0, none⟩)) (w' := wx) rfl rfl ?_ ?_
        · clear hp hd; have ec : ∀ v, (fr [4, 5, 6, 7, 8, 9, 10, 11, 12] A t).eval (.const v) = v := fun _ => rfl; generalize (fr [4, 5, 6, 7, 8, 9, 10, 11, 12] A t).eval = ev at ec e4 ⊢; go_simp
        · exact ⟨_, 0, rfl, hB, Below.refl _ _, rfl, .inl rfl⟩
      | 2, _ =>
        have e5 : (fr [4, 5, 6, 7, 8, 9, 10, 11, 12] A t).eval (.tmp 5) = .pointer (some ⟨g, 0, none⟩) := (fr_eval _ _ _ 5 rfl (by rw [asz]; decide)).trans (hp 1 (pre_mem (by kernel_rfl)))
        refine op_run (v := .pointer (some ⟨g, 0, none⟩)) (w' := wx) rfl rfl ?_ ?_
        · clear hp hd; have ec : ∀ v, (fr [4, 5, 6, 7, 8, 9, 10, 11, 12] A t).eval (.const v) = v := fun _ => rfl; generalize (fr [4, 5, 6, 7, 8, 9, 10, 11, 12] A t).eval = ev at ec e5 ⊢; go_simp
        · exact ⟨_, 0, rfl, hB, Below.refl _ _, rfl, .inl rfl⟩
      | 3, _ =>
        have e6 : (fr [4, 5, 6, 7, 8, 9, 10, 11, 12] A t).eval (.tmp 6) = .pointer (some ⟨g, 0, none⟩) := (fr_eval _ _ _ 6 rfl (by rw [asz]; decide)).trans (hp 2 (pre_mem (by kernel_rfl)))
        have hc := (hK wx hB).cell 0 rfl
        refine op_run (v := .slice s.a s.n s.c) (w' := wx) rfl rfl ?_ ?_
        · clear hp hd; have ec : ∀ v, (fr [4, 5, 6, 7, 8, 9, 10, 11, 12] A t).eval (.const v) = v := fun _ => rfl; generalize (fr [4, 5, 6, 7, 8, 9, 10, 11, 12] A t).eval = ev at ec e6 ⊢; go_simp
        · exact ⟨_, 0, rfl, hB, Below.refl _ _, rfl, .inl rfl⟩
      | 4, _ =>
        have e0 : (fr [4, 5, 6, 7, 8, 9, 10, 11, 12] A t).eval (.tmp 0) = .pointer (some ⟨g, 0, none⟩) := (fr_eval_old _ _ _ 0 rfl).trans a0'
        refine op_run (v := .pointer (some ⟨g, 0, none⟩)) (w' := wx) rfl rfl ?_ ?_
        · clear hp hd; have ec : ∀ v, (fr [4, 5, 6, 7, 8, 9, 10, 11, 12] A t).eval (.const v) = v := fun _ => rfl; generalize (fr [4, 5, 6, 7, 8, 9, 10, 11, 12] A t).eval = ev at ec e0 ⊢; go_simp
        · exact ⟨_, 0, rfl, hB, Below.refl _ _, rfl, .inl rfl⟩
      | 5, _ =>
        have e8 : (fr [4, 5, 6, 7, 8, 9, 10, 11, 12] A t).eval (.tmp 8) = .pointer (some ⟨g, 0, none⟩) := (fr_eval _ _ _ 8 rfl (by rw [asz]; decide)).trans (hp 4 (pre_mem (by kernel_rfl)))
        refine op_run (v := .pointer (some ⟨g, 0, none⟩)) (w' := wx) rfl rfl ?_ ?_
        · clear hp hd; have ec : ∀ v, (fr [4, 5, 6, 7, 8, 9, 10, 11, 12] A t).eval (.const v) = v := fun _ => rfl; generalize (fr [4, 5, 6, 7, 8, 9, 10, 11, 12] A t).eval = ev at ec e8 ⊢; go_simp
        · exact ⟨_, 0, rfl, hB, Below.refl _ _, rfl, .inl rfl⟩
      | 6, _ =>
        have e9 : (fr [4, 5, 6, 7, 8, 9, 10, 11, 12] A t).eval (.tmp 9) = .pointer (some ⟨g, 0, none⟩) := (fr_eval _ _ _ 9 rfl (by rw [asz]; decide)).trans (hp 5 (pre_mem (by kernel_rfl)))
        refine op_run (v := .pointer (some ⟨g, 1, none⟩)) (w' := wx) rfl rfl ?_ ?_
        · clear hp hd; have ec : ∀ v, (fr [4, 5, 6, 7, 8, 9, 10, 11, 12] A t).eval (.const v) = v := fun _ => rfl; generalize (fr [4, 5, 6, 7, 8, 9, 10, 11, 12] A t).eval = ev at ec e9 ⊢; go_simp
        · exact ⟨_, 0, rfl, hB, Below.refl _ _, rfl, .inl rfl⟩
      | 7, _ =>
        have e10 : (fr [4, 5, 6, 7, 8, 9, 10, 11, 12] A t).eval (.tmp 10) = .pointer (some ⟨g, 1, none⟩) := (fr_eval _ _ _ 10 rfl (by rw [asz]; decide)).trans (hp 6 (pre_mem (by kernel_rfl)))
        have hc := (hK wx hB).cell 1 rfl
        refine op_run (v := .int .i64 n) (w' := wx) rfl rfl ?_ ?_
        · clear hp hd; have ec : ∀ v, (fr [4, 5, 6, 7, 8, 9, 10, 11, 12] A t).eval (.const v) = v := fun _ => rfl; generalize (fr [4, 5, 6, 7, 8, 9, 10, 11, 12] A t).eval = ev at ec e10 ⊢; go_simp
        · exact ⟨_, 0, rfl, hB, Below.refl _ _, rfl, .inl rfl⟩
      | 8, _ =>
        have e7 : (fr [4, 5, 6, 7, 8, 9, 10, 11, 12] A t).eval (.tmp 7) = .slice s.a s.n s.c := (fr_eval _ _ _ 7 rfl (by rw [asz]; decide)).trans (hp 3 (pre_mem (by kernel_rfl)))
        have e11 : (fr [4, 5, 6, 7, 8, 9, 10, 11, 12] A t).eval (.tmp 11) = .int .i64 n := (fr_eval _ _ _ 11 rfl (by rw [asz]; decide)).trans (hp 7 (pre_mem (by kernel_rfl)))
        refine op_call (f := 13) (args := #[.slice s.a s.n s.c, .int .i64 n]) rfl rfl ?_ (implDiceAt s l n wx (HT.out.later (hW wx hB)) (HR.out.later (hW wx hB))) ?_
        · have ef : (fr [4, 5, 6, 7, 8, 9, 10, 11, 12] A t).eval (.func 13) = .func (.func 13) #[] #[] := rfl; clear hp hd; have ec : ∀ v, (fr [4, 5, 6, 7, 8, 9, 10, 11, 12] A t).eval (.const v) = v := fun _ => rfl; generalize (fr [4, 5, 6, 7, 8, 9, 10, 11, 12] A t).eval = ev at ec e7 e11 ef ⊢; go_simp
        · rintro e wy ⟨S0, rfl, o1, b1⟩
          exact ⟨_, rfl, _, 0, rfl, hB.trans (b1.mono hB.size), b1, ⟨S0, _, rfl, by rw [← HQ.out]; exact o1.mono (hW wx hB).size (Nat.le_refl _)⟩, .inl rfl⟩
    · intro t ρ wx hB hF hne
      obtain ⟨S08, hi8, hv8, q8_0⟩ := hF 8 (by decide)
      have e12 : (fr [4, 5, 6, 7, 8, 9, 10, 11, 12] A t).eval (.tmp 12) = .slice S08.a S08.n S08.c := (fr_eval _ _ _ 12 rfl (by rw [asz]; decide)).trans hv8
      clear hne
      have oT : Hid (SOwn wx w.heap.size hi8 S08 R) := q8_0
      refine op_wp rfl rfl ?_
      clear hF q8_0
      generalize hE : (fr [4, 5, 6, 7, 8, 9, 10, 11, 12] A t).eval = ev at e12
      unfold Oper.wp
      rw [hE]
      go_simp
      refine hMet _ _ (Met.intro (hRJ _ _ ⟨_, t 4, t 5, t 6, t 7, t 8, t 9, t 10, t 11, t 12, ⟨_, rfl, own_top oT.out, hW wx hB⟩, ?_⟩))
      rw [← hA]; rfl
  case rest =>
    obtain ⟨S0, rfl, o1, b1⟩ := hcut
    have O1 : Hid (SOwn wc w.heap.size wc.heap.size S0 R) := o1
    have B1 : Hid (Below w.heap.size w wc) := b1
    have K1 : Hid (Blk wc g 25 [.slice s.a s.n s.c, .int .i64 n]) := KG0.out.later b1
    clear o1 b1
    have c1 := K1.out.cell 1 rfl
    have f1 := K1.out.frozen 1
    go_wp2
    go_ret
    exact ⟨S0, _, rfl, rfl, O1.out, B1.out⟩

set_option maxRecDepth 100000 in
theorem restM (g : Nat) (w : World) :
    Calls Tryd.prog 45 #[.pointer (some ⟨g, 0, none⟩)] w (AnsB [] w) := by
  go_enter Tryd.func45, Tryd.ntmps45
  go_wp2
  go_ret
  exact nil_ans (Below.refl _ _)

set_option maxRecDepth 100000 in
set_option maxHeartbeats 4000000 in
theorem canRoll (S : DiS) (D : DiD) (w : World) (h : DiRd w S D) :
    Calls Tryd.prog 43 #[diV D S] w fun e w' => e = .returned (.bool (mayRoll D)) ∧ Below w.heap.size w w' := by
  have HR : Hid (DiRd w S D) := h
  obtain ⟨v, hv⟩ : ∃ v, mayRoll D = v := ⟨_, rfl⟩
  have HV : Hid (mayRoll D = v) := hv
  rw [hv]
  obtain ⟨x0, hx0⟩ : ∃ x0, w.alloc (.cells #[.slice S.seed.a S.seed.n S.seed.c, .int .i64 D.num] 25) = x0 := ⟨_, rfl⟩
  have HW0 : Hid (w.alloc (.cells #[.slice S.seed.a S.seed.n S.seed.c, .int .i64 D.num] 25) = x0) := hx0
  have B0 : Hid (Below w.heap.size w x0) := by rw [← hx0]; exact (Below.refl _ _).alloc (Nat.le_refl _) _
  have K0 : Hid (Blk x0 w.heap.size 25 [.slice S.seed.a S.seed.n S.seed.c, .int .i64 D.num]) := by rw [← hx0]; exact Blk.new w _ _
  clear h hv hx0
  unfold diV
  go_enter Tryd.func43, Tryd.ntmps43
  go_upto_region 1 with fail
  rw [HW0.out]
  obtain ⟨ga, hga⟩ : ∃ ga, w.heap.size = ga := ⟨_, rfl⟩
  rw [hga] at K0
  rw [hga]
  clear hga HW0
  have d0 := K0.out.cell 0 rfl
  have d1 := K0.out.cell 1 rfl
  go_wp2_with fail
  refine (implDiceOk S D x0 (HR.out.later B0.out)).mono ?_
  rintro e x1 ⟨rfl, b⟩
  have B1 : Hid (Below w.heap.size w x1) := B0.out.trans (b.mono B0.out.size)
  have K1 : Hid (Blk x1 ga 25 [.slice S.seed.a S.seed.n S.seed.c, .int .i64 D.num]) := K0.out.later b
  clear b d0 d1
  have d1 := K1.out.cell 1 rfl
  cases h0 : diOk D with
  | false =>
    obtain rfl : v = false := by rw [← HV.out]; unfold mayRoll; rw [h0]; rfl
    go_wp2
    go_ret
    exact ⟨rfl, B1.out⟩
  | true =>
    obtain rfl : v = decide (D.num < 10000) := by rw [← HV.out]; unfold mayRoll; rw [h0]; rfl
    go_wp2
    go_ret
    exact ⟨rfl, B1.out⟩

/-- How dice roll: as a value. -/
def how (b : Bool) (g : Nat) : Value := if b = true then .func (.func 44) #[.pointer (some ⟨g, 0, none⟩)] #[] else .func (.func 45) #[.pointer (some ⟨g, 0, none⟩)] #[]
set_option maxRecDepth 100000 in
set_option maxHeartbeats 4000000 in
theorem howToRoll (g : Nat) (S : DiS) (D : DiD) (w : World) (k : Blk w g 25 [.slice S.seed.a S.seed.n S.seed.c, .int .i64 D.num]) (h : DiRd w S D) :
    Calls Tryd.prog 28 #[.pointer (some ⟨g, 0, none⟩)] w fun e w' => e = .returned (how (mayRoll D) g) ∧ Below w.heap.size w w' := by
  have hmf : ∀ (fn : Fn) (first cap : Array Value) (w : World), (Instr.makeFunc fn first cap).run Tryd.prog w = .ok (.func fn first cap) w := fun _ _ _ _ => rfl
  have HR : Hid (DiRd w S D) := h
  have d0 := k.cell 0 rfl
  have d1 := k.cell 1 rfl
  obtain ⟨v, hv⟩ : ∃ v, mayRoll D = v := ⟨_, rfl⟩
  have HV : Hid (mayRoll D = v) := hv
  rw [hv]
  clear k h hv
  go_enter Tryd.func28, Tryd.ntmps28
  go_wp2_with fail
  refine (canRoll S D w HR.out).mono ?_
  rintro e x1 ⟨rfl, b⟩
  have B1 : Hid (Below w.heap.size w x1) := b
  clear b d0 d1
  rw [HV.out]
  cases v with
  | false =>
    go_wp2
    go_ret
    exact ⟨rfl, B1.out⟩
  | true =>
    go_wp2
    go_ret
    exact ⟨rfl, B1.out⟩

set_option maxRecDepth 100000 in
set_option maxHeartbeats 8000000 in
theorem implRoll (S : DiS) (D : DiD) (w : World) (hT : Tab w) (h : DiRd w S D) (hl : D.seed.length ≤ 4194304) :
    Calls Tryd.prog 8 #[diV D S] w (AnsR (rollD D) (rollL D) w) := by
  have HR : Hid (DiRd w S D) := h
  have HT : Hid (Tab w) := hT
  have HLL : Hid (D.seed.length ≤ 4194304) := hl
  obtain ⟨R, hR⟩ : ∃ R, rollD D = R := ⟨_, rfl⟩
  have HRD : Hid (rollD D = R) := hR
  obtain ⟨Q, hQ⟩ : ∃ Q, rollL D = Q := ⟨_, rfl⟩
  have HRL : Hid (rollL D = Q) := hQ
  rw [hR, hQ]
  clear h hl hR hQ hT
  obtain ⟨x0, hx0⟩ : ∃ x0, (w.alloc (.cells #[.slice S.seed.a S.seed.n S.seed.c, .int .i64 D.num] 25)).alloc (.cells #[.slice none 0 0, .int .i64 0] 25) = x0 := ⟨_, rfl⟩
  have HW0 : Hid ((w.alloc (.cells #[.slice S.seed.a S.seed.n S.seed.c, .int .i64 D.num] 25)).alloc (.cells #[.slice none 0 0, .int .i64 0] 25) = x0) := hx0
  have B0 : Hid (Below w.heap.size w x0) := by rw [← hx0]; exact ((Below.refl _ _).alloc (Nat.le_refl _) _).alloc (by simp) _
  have KA : Hid (Blk x0 w.heap.size 25 [.slice S.seed.a S.seed.n S.seed.c, .int .i64 D.num]) := by rw [← hx0]; exact (Blk.new w _ _).alloc _
  have KO : Hid (Blk x0 (w.heap.size + 1) 25 [.slice none 0 0, .int .i64 0]) := by
    have := Blk.new (w.alloc (.cells #[.slice S.seed.a S.seed.n S.seed.c, .int .i64 D.num] 25)) 25 [.slice none 0 0, .int .i64 0]
    rw [World.size_alloc] at this
    rw [← hx0]; exact this
  have HSZ : Hid (w.heap.size + 2 ≤ x0.heap.size) := by rw [← hx0]; show _ ≤ _; simp
  clear hx0
  unfold diV
  go_enter Tryd.func8, Tryd.ntmps8
  go_upto_region 1 with fail
  rw [HW0.out]
  obtain ⟨ga, hga⟩ : ∃ g, w.heap.size = g := ⟨_, rfl⟩
  obtain ⟨go, hgo⟩ : ∃ g, w.heap.size + 1 = g := ⟨_, rfl⟩
  have HG : Hid (w.heap.size = ga ∧ ga + 1 = go ∧ go < x0.heap.size) := ⟨hga, by omega, by have := HSZ.out; omega⟩
  rw [hga] at KA
  rw [hgo] at KO
  rw [hgo, hga]
  clear hga hgo HW0
  have d0 := KA.out.cell 0 rfl
  have d1 := KA.out.cell 1 rfl
  go_wp2_with fail
  refine (implCopy S D x0 (HR.out.later B0.out) HLL.out).mono ?_
  rintro e x1 ⟨S1, rfl, o, b⟩
  have O1 : Hid (DiOwn x1 x0.heap.size x1.heap.size S1 D) := o
  have B1 : Hid (Below w.heap.size w x1) := B0.out.trans (b.mono B0.out.size)
  have KA1 : Hid (Blk x1 ga 25 [.slice S.seed.a S.seed.n S.seed.c, .int .i64 D.num]) := KA.out.later b
  have KO1 : Hid (Blk x1 go 25 [.slice none 0 0, .int .i64 0]) := KO.out.later b
  have L1 : Hid (x0.heap.size ≤ x1.heap.size) := b.size
  obtain ⟨x2, hx2⟩ : ∃ x2, x1.alloc (.cells #[.slice S1.seed.a S1.seed.n S1.seed.c, .int .i64 D.num] 25) = x2 := ⟨_, rfl⟩
  have HW2 : Hid (x1.alloc (.cells #[.slice S1.seed.a S1.seed.n S1.seed.c, .int .i64 D.num] 25) = x2) := hx2
  have b2 : Below x1.heap.size x1 x2 := by rw [← hx2]; exact (Below.refl _ _).alloc (Nat.le_refl _) _
  have KN : Hid (Blk x2 x1.heap.size 25 [.slice S1.seed.a S1.seed.n S1.seed.c, .int .i64 D.num]) := by rw [← hx2]; exact Blk.new x1 _ _
  have O2 : Hid (DiOwn x2 x0.heap.size x1.heap.size S1 D) := O1.out.later b2
  have B2 : Hid (Below w.heap.size w x2) := B1.out.trans (b2.mono B1.out.size)
  have KA2 : Hid (Blk x2 ga 25 [.slice S.seed.a S.seed.n S.seed.c, .int .i64 D.num]) := KA1.out.later b2
  have KO2 : Hid (Blk x2 go 25 [.slice none 0 0, .int .i64 0]) := KO1.out.later b2
  have L2 : Hid (x2.heap.size = x1.heap.size + 1) := by rw [← hx2]; show _ = _; simp
  clear o b hx2 b2 d0 d1 O1 B1 KA1 KO1
  unfold diV
  go_upto_region 2 with fail
  rw [HW2.out]
  obtain ⟨gn, hgn⟩ : ∃ g, x1.heap.size = g := ⟨_, rfl⟩
  have HGN : Hid (x1.heap.size = gn) := hgn
  rw [hgn] at KN O2 ⊢
  clear hgn HW2
  go_wp2_with fail
  refine (howToRoll gn S1 D x2 KN.out O2.out.rd).mono ?_
  rintro e x3 ⟨rfl, b⟩
  have O3 : Hid (DiOwn x3 x0.heap.size gn S1 D) := O2.out.later b
  have B3 : Hid (Below w.heap.size w x3) := B2.out.trans (b.mono B2.out.size)
  have KO3 : Hid (Blk x3 go 25 [.slice none 0 0, .int .i64 0]) := KO2.out.later b
  have KN3 : Hid (Blk x3 gn 25 [.slice S1.seed.a S1.seed.n S1.seed.c, .int .i64 D.num]) := KN.out.later b
  have L3 : Hid (x2.heap.size ≤ x3.heap.size) := b.size
  clear b KA2 KO2 KN O2 B2
  obtain ⟨v, hv⟩ : ∃ v, mayRoll D = v := ⟨_, rfl⟩
  have HV : Hid (mayRoll D = v) := hv
  rw [hv]
  clear hv
  cases v with
  | false =>
    obtain rfl : Q = [] := by rw [← HRL.out]; exact rollL_no HV.out
    obtain rfl : R = D := by rw [← HRD.out]; exact rollD_no HV.out
    rw [show how false gn = .func (.func 45) #[.pointer (some ⟨gn, 0, none⟩)] #[] from rfl]
    go_wp2_with fail
    refine (restM gn x3).mono ?_
    rintro e x4 ⟨T, rfl, o, b⟩
    have OT : Hid (SOwn x4 x3.heap.size x4.heap.size T []) := o
    have OX : Hid (DiOwn x4 x0.heap.size gn S1 R) := O3.out.later b
    have KNy : Hid (Blk x4 gn 25 [.slice S1.seed.a S1.seed.n S1.seed.c, .int .i64 R.num]) := KN3.out.later b
    have KOy : Hid (Blk x4 go 25 [.slice none 0 0, .int .i64 0]) := KO3.out.later b
    have BX : Hid (Below w.heap.size w x4) := B3.out.trans (b.mono B3.out.size)
    have L4 : Hid (x3.heap.size ≤ x4.heap.size) := b.size
    clear o b
    have SZX : Hid (w.heap.size ≤ go ∧ w.heap.size ≤ x0.heap.size ∧ go + 1 ≤ x0.heap.size ∧ x0.heap.size ≤ gn ∧ gn ≤ x3.heap.size ∧ w.heap.size ≤ x3.heap.size ∧ go + 1 ≤ x3.heap.size ∧ x3.heap.size ≤ x4.heap.size) := by have := HG.out; have := HGN.out; have := L1.out; have := L2.out; have := L3.out; have := L4.out; show _ ∧ _; omega
    have n0 := KNy.out.cell 0 rfl
    have n1 := KNy.out.cell 1 rfl
    have q0 := KOy.out.cell 0 rfl
    have q1 := KOy.out.cell 1 rfl
    have f0 := KOy.out.frozen 0
    have f1 := KOy.out.frozen 1
    go_wp2
    obtain ⟨k1, k2, k3⟩ := di_stored (D := R) (S := S1) KOy.out OX.out (.inl (by have := SZX.out; omega))
    refine bodyPost_ret (v := .tuple #[diV R S1, .slice T.a T.n T.c]) (res2 rfl (is_cell rfl k1 aggDi) (is_tmp rfl)) rfl ⟨S1, T, x0.heap.size, gn, x3.heap.size, x4.heap.size, rfl, k2, OT.out.carry (di_kept _ _ _ _) (.inr (by have := SZX.out; omega)), ?_, k3 _ _ (by have := SZX.out; omega) BX.out⟩
    rw [di_size]; have := SZX.out; omega
  | true =>
    obtain rfl : R = ⟨D.seed, D.num + 1⟩ := by rw [← HRD.out]; exact rollD_yes HV.out
    have HQ : Hid (atL D.seed D.num = Q) := by show _ = _; rw [← HRL.out, rollL_yes HV.out]
    rw [show how true gn = .func (.func 44) #[.pointer (some ⟨gn, 0, none⟩)] #[] from rfl]
    go_wp2_with fail
    refine (rollM gn S1.seed D.seed D.num x3 (HT.out.later B3.out) KN3.out O3.out.rd.seed (may_parts HV.out).2).mono ?_
    rw [HQ.out]
    rintro e y ⟨T, x4, rfl, hy, o, b⟩
    have HGX : Hid (gn + 1 ≤ x3.heap.size ∧ go ≠ gn ∧ w.heap.size ≤ gn) := by have := HG.out; have := HGN.out; have := L1.out; have := L2.out; have := L3.out; show _ ∧ _; omega
    have OT : Hid (SOwn y x3.heap.size y.heap.size T Q) := by
      have q := o.carry (Kept.setCell x4 gn 1 (.int .i64 (D.num + 1))) (.inr HGX.out.1)
      have e : y.heap.size = x4.heap.size := by rw [hy]; simp
      rw [← hy, ← e] at q
      exact q
    have OX : Hid (DiOwn y x0.heap.size gn S1 ⟨D.seed, D.num + 1⟩) := by
      have q := (O3.out.later b).carry (Kept.setCell x4 gn 1 (.int .i64 (D.num + 1))) (.inl (Nat.le_refl _))
      rw [← hy] at q
      exact ⟨q.seed, q.apart⟩
    have KNy : Hid (Blk y gn 25 [.slice S1.seed.a S1.seed.n S1.seed.c, .int .i64 (D.num + 1)]) := by rw [hy]; exact (KN3.out.later b).set 1 _ (by simp [maxLen])
    have KOy : Hid (Blk y go 25 [.slice none 0 0, .int .i64 0]) := by rw [hy]; exact (KO3.out.later b).other (by exact HGX.out.2.1) _
    have BX : Hid (Below w.heap.size w y) := by rw [hy]; exact (B3.out.trans (b.mono B3.out.size)).setCell (by exact HGX.out.2.2) _
    have L4 : Hid (x3.heap.size ≤ y.heap.size) := by have := b.size; rw [hy]; show _ ≤ _; simpa using this
    clear o b hy
    have SZX : Hid (w.heap.size ≤ go ∧ w.heap.size ≤ x0.heap.size ∧ go + 1 ≤ x0.heap.size ∧ x0.heap.size ≤ gn ∧ gn ≤ x3.heap.size ∧ w.heap.size ≤ x3.heap.size ∧ go + 1 ≤ x3.heap.size ∧ x3.heap.size ≤ y.heap.size) := by have := HG.out; have := HGN.out; have := L1.out; have := L2.out; have := L3.out; have := L4.out; show _ ∧ _; omega
    have n0 := KNy.out.cell 0 rfl
    have n1 := KNy.out.cell 1 rfl
    have q0 := KOy.out.cell 0 rfl
    have q1 := KOy.out.cell 1 rfl
    have f0 := KOy.out.frozen 0
    have f1 := KOy.out.frozen 1
    go_wp2
    obtain ⟨k1, k2, k3⟩ := di_stored (D := ⟨D.seed, D.num + 1⟩) (S := S1) KOy.out OX.out (.inl (by have := SZX.out; omega))
    refine bodyPost_ret (v := .tuple #[diV ⟨D.seed, D.num + 1⟩ S1, .slice T.a T.n T.c]) (res2 rfl (is_cell rfl k1 aggDi) (is_tmp rfl)) rfl ⟨S1, T, x0.heap.size, gn, x3.heap.size, y.heap.size, rfl, k2, OT.out.carry (di_kept _ _ _ _) (.inr (by have := SZX.out; omega)), ?_, k3 _ _ (by have := SZX.out; omega) BX.out⟩
    rw [di_size]; have := SZX.out; omega
end Go.Proofs.YtcodonnknepkeaaDoor.DiJ
