/-
  The walk of the law FnExactSizeOf: at every Frame it answers true, and nothing that was there is written.
-/
import Derived.Test.YtfapehmbecgjaaaFrK
import Derived.Test.YtfapehmbecgjaaaFrI
import Derived.Test.YtfapehmbecgjaaaOps
namespace Go.Proofs.Ytfapehmbecgjaaa.LawSizeOf
open Go.RowKit Go.Proofs.Ytfapehmbecgjaaa.Mem Go.Proofs.Ytfapehmbecgjaaa.Blk Go.Proofs.Ytfapehmbecgjaaa.Zone Go.Proofs.Ytfapehmbecgjaaa.FrZ Go.Proofs.Ytfapehmbecgjaaa.Each Go.Proofs.Ytfapehmbecgjaaa.Copy Go.Proofs.Ytfapehmbecgjaaa.Ops Go.Proofs.Ytfapehmbecgjaaa.FrP Go.Proofs.Ytfapehmbecgjaaa.FrS Go.Proofs.Ytfapehmbecgjaaa.FrB Go.Proofs.Ytfapehmbecgjaaa.FrPut Go.Proofs.Ytfapehmbecgjaaa.FrK Go.Proofs.Ytfapehmbecgjaaa.FrI

set_option maxRecDepth 100000 in
set_option maxHeartbeats 4000000 in
theorem walk (D : FrD) (S : FrS) (w : World) (h : FrRd w S D) (hs : FrSmall S) :
    Calls Try.prog 9 #[frV D S] w fun e w' => e = .returned (.bool true) ∧ Below w.heap.size w w' := by
  have HR : Hid (FrRd w S D) := h
  have HM : Hid (FrSmall S) := hs
  obtain ⟨v, hv⟩ : ∃ v, ((putF D).length : Int) = v := ⟨_, rfl⟩
  have HV : Hid (((putF D).length : Int) = v) := hv
  have hvv : (v != v) = false := by simp
  obtain ⟨x0, hx0⟩ : ∃ x0, w.alloc (.cells #[.int .i64 D.kind, .int .i64 D.id, .slice S.cn.a S.cn.n S.cn.c, .slice S.sn.a S.sn.n S.sn.c, .int .i64 D.tick, .slice S.cookie.a S.cookie.n S.cookie.c, .slice S.proof.a S.proof.n S.proof.c, .int .i64 D.epoch, .int .i64 D.seq, .slice S.body.a S.body.n S.body.c, .slice S.tag.a S.tag.n S.tag.c] 36) = x0 := ⟨_, rfl⟩
  have HW0 : Hid (w.alloc (.cells #[.int .i64 D.kind, .int .i64 D.id, .slice S.cn.a S.cn.n S.cn.c, .slice S.sn.a S.sn.n S.sn.c, .int .i64 D.tick, .slice S.cookie.a S.cookie.n S.cookie.c, .slice S.proof.a S.proof.n S.proof.c, .int .i64 D.epoch, .int .i64 D.seq, .slice S.body.a S.body.n S.body.c, .slice S.tag.a S.tag.n S.tag.c] 36) = x0) := hx0
  have B0 : Hid (Below w.heap.size w x0) := by rw [← hx0]; exact (Below.refl _ _).alloc (Nat.le_refl _) _
  have KA0 : Hid (Blk x0 w.heap.size 36 [.int .i64 D.kind, .int .i64 D.id, .slice S.cn.a S.cn.n S.cn.c, .slice S.sn.a S.sn.n S.sn.c, .int .i64 D.tick, .slice S.cookie.a S.cookie.n S.cookie.c, .slice S.proof.a S.proof.n S.proof.c, .int .i64 D.epoch, .int .i64 D.seq, .slice S.body.a S.body.n S.body.c, .slice S.tag.a S.tag.n S.tag.c]) := by rw [← hx0]; exact Blk.new w _ _
  clear h hs hv hx0
  unfold frV
  go_enter Try.func9, Try.ntmps9
  go_upto_region 1 with fail
  rw [HW0.out]
  generalize w.heap.size = ga at KA0 ⊢
  clear HW0
  have c0 := KA0.out.cell 0 rfl
  have c1 := KA0.out.cell 1 rfl
  have c2 := KA0.out.cell 2 rfl
  have c3 := KA0.out.cell 3 rfl
  have c4 := KA0.out.cell 4 rfl
  have c5 := KA0.out.cell 5 rfl
  have c6 := KA0.out.cell 6 rfl
  have c7 := KA0.out.cell 7 rfl
  have c8 := KA0.out.cell 8 rfl
  have c9 := KA0.out.cell 9 rfl
  have c10 := KA0.out.cell 10 rfl
  go_wp2_with fail
  refine (szFrame S D 1048576 x0 HM.out (by omega) (by omega)).mono ?_
  rintro e x1 ⟨rfl, b1⟩
  have B1 : Hid (Below w.heap.size w x1) := B0.out.trans (b1.mono B0.out.size)
  have KA1 : Hid (Blk x1 ga 36 [.int .i64 D.kind, .int .i64 D.id, .slice S.cn.a S.cn.n S.cn.c, .slice S.sn.a S.sn.n S.sn.c, .int .i64 D.tick, .slice S.cookie.a S.cookie.n S.cookie.c, .slice S.proof.a S.proof.n S.proof.c, .int .i64 D.epoch, .int .i64 D.seq, .slice S.body.a S.body.n S.body.c, .slice S.tag.a S.tag.n S.tag.c]) := KA0.out.later b1
  clear b1 B0 KA0 c0 c1 c2 c3 c4 c5 c6 c7 c8 c9 c10
  by_cases hsum : (1048576 : Int) - (frSum S : Int) < 0
  · rw [if_pos hsum]
    go_wp2
    go_ret
    exact ⟨rfl, B1.out⟩
  rw [if_neg hsum]
  have HL : Hid (FrShort D 4194304) := by
    have q : frSum S ≤ 1048576 := by omega
    unfold frSum at q
    exact ⟨by rw [← HR.out.cn.len]; omega, by rw [← HR.out.sn.len]; omega, by rw [← HR.out.cookie.len]; omega, by rw [← HR.out.proof.len]; omega, by rw [← HR.out.body.len]; omega, by rw [← HR.out.tag.len]; omega⟩
  have c0 := KA1.out.cell 0 rfl
  have c1 := KA1.out.cell 1 rfl
  have c2 := KA1.out.cell 2 rfl
  have c3 := KA1.out.cell 3 rfl
  have c4 := KA1.out.cell 4 rfl
  have c5 := KA1.out.cell 5 rfl
  have c6 := KA1.out.cell 6 rfl
  have c7 := KA1.out.cell 7 rfl
  have c8 := KA1.out.cell 8 rfl
  have c9 := KA1.out.cell 9 rfl
  have c10 := KA1.out.cell 10 rfl
  go_wp2_with fail
  refine (toFrame S D x1 (HR.out.later B1.out) HL.out).mono ?_
  rintro e x2 ⟨S1, rfl, o1, b2⟩
  have R1 : Hid (FrRd x2 S1 D) := o1.rd
  have B2 : Hid (Below w.heap.size w x2) := B1.out.trans (b2.mono B1.out.size)
  have KA2 : Hid (Blk x2 ga 36 [.int .i64 D.kind, .int .i64 D.id, .slice S.cn.a S.cn.n S.cn.c, .slice S.sn.a S.sn.n S.sn.c, .int .i64 D.tick, .slice S.cookie.a S.cookie.n S.cookie.c, .slice S.proof.a S.proof.n S.proof.c, .int .i64 D.epoch, .int .i64 D.seq, .slice S.body.a S.body.n S.body.c, .slice S.tag.a S.tag.n S.tag.c]) := KA1.out.later b2
  clear o1 b2 B1 KA1 c0 c1 c2 c3 c4 c5 c6 c7 c8 c9 c10
  go_wp2_with fail
  refine (specSizeOf S1 D x2 R1.out).mono ?_
  rw [HV.out]
  rintro e x3 ⟨rfl, b3⟩
  have B3 : Hid (Below w.heap.size w x3) := B2.out.trans (b3.mono B2.out.size)
  have KA3 : Hid (Blk x3 ga 36 [.int .i64 D.kind, .int .i64 D.id, .slice S.cn.a S.cn.n S.cn.c, .slice S.sn.a S.sn.n S.sn.c, .int .i64 D.tick, .slice S.cookie.a S.cookie.n S.cookie.c, .slice S.proof.a S.proof.n S.proof.c, .int .i64 D.epoch, .int .i64 D.seq, .slice S.body.a S.body.n S.body.c, .slice S.tag.a S.tag.n S.tag.c]) := KA2.out.later b3
  clear b3 B2 KA2 R1
  have c0 := KA3.out.cell 0 rfl
  have c1 := KA3.out.cell 1 rfl
  have c2 := KA3.out.cell 2 rfl
  have c3 := KA3.out.cell 3 rfl
  have c4 := KA3.out.cell 4 rfl
  have c5 := KA3.out.cell 5 rfl
  have c6 := KA3.out.cell 6 rfl
  have c7 := KA3.out.cell 7 rfl
  have c8 := KA3.out.cell 8 rfl
  have c9 := KA3.out.cell 9 rfl
  have c10 := KA3.out.cell 10 rfl
  go_wp2_with fail
  refine (toFrame S D x3 (HR.out.later B3.out) HL.out).mono ?_
  rintro e x4 ⟨S2, rfl, o2, b4⟩
  have O4 : Hid (FrOwn x4 x3.heap.size x4.heap.size S2 D) := o2
  have B4 : Hid (Below w.heap.size w x4) := B3.out.trans (b4.mono B3.out.size)
  have KA4 : Hid (Blk x4 ga 36 [.int .i64 D.kind, .int .i64 D.id, .slice S.cn.a S.cn.n S.cn.c, .slice S.sn.a S.sn.n S.sn.c, .int .i64 D.tick, .slice S.cookie.a S.cookie.n S.cookie.c, .slice S.proof.a S.proof.n S.proof.c, .int .i64 D.epoch, .int .i64 D.seq, .slice S.body.a S.body.n S.body.c, .slice S.tag.a S.tag.n S.tag.c]) := KA3.out.later b4
  obtain ⟨x5, hx5⟩ : ∃ x5, x4.alloc (.cells #[.int .i64 D.kind, .int .i64 D.id, .slice S2.cn.a S2.cn.n S2.cn.c, .slice S2.sn.a S2.sn.n S2.sn.c, .int .i64 D.tick, .slice S2.cookie.a S2.cookie.n S2.cookie.c, .slice S2.proof.a S2.proof.n S2.proof.c, .int .i64 D.epoch, .int .i64 D.seq, .slice S2.body.a S2.body.n S2.body.c, .slice S2.tag.a S2.tag.n S2.tag.c] 25) = x5 := ⟨_, rfl⟩
  have HW5 : Hid (x4.alloc (.cells #[.int .i64 D.kind, .int .i64 D.id, .slice S2.cn.a S2.cn.n S2.cn.c, .slice S2.sn.a S2.sn.n S2.sn.c, .int .i64 D.tick, .slice S2.cookie.a S2.cookie.n S2.cookie.c, .slice S2.proof.a S2.proof.n S2.proof.c, .int .i64 D.epoch, .int .i64 D.seq, .slice S2.body.a S2.body.n S2.body.c, .slice S2.tag.a S2.tag.n S2.tag.c] 25) = x5) := hx5
  have b5 : Below x4.heap.size x4 x5 := by rw [← hx5]; exact (Below.refl _ _).alloc (Nat.le_refl _) _
  have O5 : Hid (FrOwn x5 x3.heap.size x4.heap.size S2 D) := o2.later b5
  have B5 : Hid (Below w.heap.size w x5) := B4.out.trans (b5.mono B4.out.size)
  have KA5 : Hid (Blk x5 ga 36 [.int .i64 D.kind, .int .i64 D.id, .slice S.cn.a S.cn.n S.cn.c, .slice S.sn.a S.sn.n S.sn.c, .int .i64 D.tick, .slice S.cookie.a S.cookie.n S.cookie.c, .slice S.proof.a S.proof.n S.proof.c, .int .i64 D.epoch, .int .i64 D.seq, .slice S.body.a S.body.n S.body.c, .slice S.tag.a S.tag.n S.tag.c]) := KA4.out.later b5
  have KB5 : Hid (Blk x5 x4.heap.size 25 [.int .i64 D.kind, .int .i64 D.id, .slice S2.cn.a S2.cn.n S2.cn.c, .slice S2.sn.a S2.sn.n S2.sn.c, .int .i64 D.tick, .slice S2.cookie.a S2.cookie.n S2.cookie.c, .slice S2.proof.a S2.proof.n S2.proof.c, .int .i64 D.epoch, .int .i64 D.seq, .slice S2.body.a S2.body.n S2.body.c, .slice S2.tag.a S2.tag.n S2.tag.c]) := by rw [← hx5]; exact Blk.new x4 _ _
  clear o2 b4 b5 hx5 B3 B4 KA3 KA4 O4 c0 c1 c2 c3 c4 c5 c6 c7 c8 c9 c10
  unfold frV
  go_upto_region 7 with fail
  rw [HW5.out]
  generalize hgb : x4.heap.size = gb at *
  clear HW5
  have c0 := KB5.out.cell 0 rfl
  have c1 := KB5.out.cell 1 rfl
  have c2 := KB5.out.cell 2 rfl
  have c3 := KB5.out.cell 3 rfl
  have c4 := KB5.out.cell 4 rfl
  have c5 := KB5.out.cell 5 rfl
  have c6 := KB5.out.cell 6 rfl
  have c7 := KB5.out.cell 7 rfl
  have c8 := KB5.out.cell 8 rfl
  have c9 := KB5.out.cell 9 rfl
  have c10 := KB5.out.cell 10 rfl
  go_wp2_with fail
  refine (implSizeOf S2 D x5 O5.out.rd).mono ?_
  rw [HV.out]
  rintro e x6 ⟨rfl, b6⟩
  have O6 : Hid (FrRd x6 S2 D) := O5.out.rd.later b6
  have B6 : Hid (Below w.heap.size w x6) := B5.out.trans (b6.mono B5.out.size)
  have KA6 : Hid (Blk x6 ga 36 [.int .i64 D.kind, .int .i64 D.id, .slice S.cn.a S.cn.n S.cn.c, .slice S.sn.a S.sn.n S.sn.c, .int .i64 D.tick, .slice S.cookie.a S.cookie.n S.cookie.c, .slice S.proof.a S.proof.n S.proof.c, .int .i64 D.epoch, .int .i64 D.seq, .slice S.body.a S.body.n S.body.c, .slice S.tag.a S.tag.n S.tag.c]) := KA5.out.later b6
  have KB6 : Hid (Blk x6 gb 25 [.int .i64 D.kind, .int .i64 D.id, .slice S2.cn.a S2.cn.n S2.cn.c, .slice S2.sn.a S2.sn.n S2.sn.c, .int .i64 D.tick, .slice S2.cookie.a S2.cookie.n S2.cookie.c, .slice S2.proof.a S2.proof.n S2.proof.c, .int .i64 D.epoch, .int .i64 D.seq, .slice S2.body.a S2.body.n S2.body.c, .slice S2.tag.a S2.tag.n S2.tag.c]) := KB5.out.later b6
  clear b6 B5 KA5 KB5 O5 c0 c1 c2 c3 c4 c5 c6 c7 c8 c9 c10
  go_upto_region 10 with fail
  go_cut [26] from 22 to 25 (fun sv wx => sv = .bool false ∧ Below x6.heap.size x6 wx)
  case first =>
    rename_i J K' hRJ hMet
    generalize hA : Act.mk _ _ = A
    have a1' : A.eval (.tmp 1) = .pointer (some ⟨ga, 0, none⟩) := by rw [← hA]; rfl
    have a5' : A.eval (.tmp 5) = .pointer (some ⟨gb, 0, none⟩) := by rw [← hA]; rfl
    have asz : A.tmps.size = 27 := by rw [← hA]; rfl
    have hKA : ∀ wx, Below x6.heap.size x6 wx → Blk wx ga 36 [.int .i64 D.kind, .int .i64 D.id, .slice S.cn.a S.cn.n S.cn.c, .slice S.sn.a S.sn.n S.sn.c, .int .i64 D.tick, .slice S.cookie.a S.cookie.n S.cookie.c, .slice S.proof.a S.proof.n S.proof.c, .int .i64 D.epoch, .int .i64 D.seq, .slice S.body.a S.body.n S.body.c, .slice S.tag.a S.tag.n S.tag.c] := fun wx hb => KA6.out.later hb
    have hKB : ∀ wx, Below x6.heap.size x6 wx → Blk wx gb 25 [.int .i64 D.kind, .int .i64 D.id, .slice S2.cn.a S2.cn.n S2.cn.c, .slice S2.sn.a S2.sn.n S2.sn.c, .int .i64 D.tick, .slice S2.cookie.a S2.cookie.n S2.cookie.c, .slice S2.proof.a S2.proof.n S2.proof.c, .int .i64 D.epoch, .int .i64 D.seq, .slice S2.body.a S2.body.n S2.body.c, .slice S2.tag.a S2.tag.n S2.tag.c] := fun wx hb => KB6.out.later hb
    have hRS : ∀ wx, Below x6.heap.size x6 wx → FrRd wx S D := fun wx hb => HR.out.later (B6.out.trans (hb.mono B6.out.size))
    have hRT : ∀ wx, Below x6.heap.size x6 wx → FrRd wx S2 D := fun wx hb => O6.out.later hb
    refine region_each (by kernel_rfl) [22, 23, 24, 25] 4 (fun i => [22, 23, 24, 25].getD i 0) (fun _ => 0)
      (fun i gB v wx => match i with
        | 0 => v = .agg #[.int .i64 D.kind, .int .i64 D.id, .slice S2.cn.a S2.cn.n S2.cn.c, .slice S2.sn.a S2.sn.n S2.sn.c, .int .i64 D.tick, .slice S2.cookie.a S2.cookie.n S2.cookie.c, .slice S2.proof.a S2.proof.n S2.proof.c, .int .i64 D.epoch, .int .i64 D.seq, .slice S2.body.a S2.body.n S2.body.c, .slice S2.tag.a S2.tag.n S2.tag.c]
        | 1 => v = .agg #[.int .i64 D.kind, .int .i64 D.id, .slice S.cn.a S.cn.n S.cn.c, .slice S.sn.a S.sn.n S.sn.c, .int .i64 D.tick, .slice S.cookie.a S.cookie.n S.cookie.c, .slice S.proof.a S.proof.n S.proof.c, .int .i64 D.epoch, .int .i64 D.seq, .slice S.body.a S.body.n S.body.c, .slice S.tag.a S.tag.n S.tag.c]
        | 2 => ∃ S3, v = frV D S3 ∧ FrRd wx S3 D
        | 3 => v = .bool true
        | _ => False) (fun wx => Below x6.heap.size x6 wx) (by kernel_rfl) (Below.refl _ _).drew ?_ ?_ ?_
    · intro i gB v wx wy hi hF hb _
      match i, hi with
      | 0, _ => exact hF
      | 1, _ => exact hF
      | 2, _ => obtain ⟨S3, h0, h1⟩ := hF; exact ⟨S3, h0, h1.later hb⟩
      | 3, _ => exact hF
    · intro i hi t ρ wx hB hp hd
      match i, hi with
      | 0, _ =>
        have e5 : (fr [22, 23, 24, 25] A t).eval (.tmp 5) = .pointer (some ⟨gb, 0, none⟩) := (fr_eval_old _ _ _ 5 rfl).trans a5'
        have hc0 := (hKB wx hB).cell 0 rfl
        have hc1 := (hKB wx hB).cell 1 rfl
        have hc2 := (hKB wx hB).cell 2 rfl
        have hc3 := (hKB wx hB).cell 3 rfl
        have hc4 := (hKB wx hB).cell 4 rfl
        have hc5 := (hKB wx hB).cell 5 rfl
        have hc6 := (hKB wx hB).cell 6 rfl
        have hc7 := (hKB wx hB).cell 7 rfl
        have hc8 := (hKB wx hB).cell 8 rfl
        have hc9 := (hKB wx hB).cell 9 rfl
        have hc10 := (hKB wx hB).cell 10 rfl
        refine op_run (v := .agg #[.int .i64 D.kind, .int .i64 D.id, .slice S2.cn.a S2.cn.n S2.cn.c, .slice S2.sn.a S2.sn.n S2.sn.c, .int .i64 D.tick, .slice S2.cookie.a S2.cookie.n S2.cookie.c, .slice S2.proof.a S2.proof.n S2.proof.c, .int .i64 D.epoch, .int .i64 D.seq, .slice S2.body.a S2.body.n S2.body.c, .slice S2.tag.a S2.tag.n S2.tag.c]) (w' := wx) rfl rfl ?_ ?_
        · clear hp hd; have ec : ∀ v, (fr [22, 23, 24, 25] A t).eval (.const v) = v := fun _ => rfl; generalize (fr [22, 23, 24, 25] A t).eval = ev at ec e5 ⊢; go_simp
        · exact ⟨_, 0, rfl, hB, Below.refl _ _, rfl, .inl rfl⟩
      | 1, _ =>
        have e1 : (fr [22, 23, 24, 25] A t).eval (.tmp 1) = .pointer (some ⟨ga, 0, none⟩) := (fr_eval_old _ _ _ 1 rfl).trans a1'
        have hc0 := (hKA wx hB).cell 0 rfl
        have hc1 := (hKA wx hB).cell 1 rfl
        have hc2 := (hKA wx hB).cell 2 rfl
        have hc3 := (hKA wx hB).cell 3 rfl
        have hc4 := (hKA wx hB).cell 4 rfl
        have hc5 := (hKA wx hB).cell 5 rfl
        have hc6 := (hKA wx hB).cell 6 rfl
        have hc7 := (hKA wx hB).cell 7 rfl
        have hc8 := (hKA wx hB).cell 8 rfl
        have hc9 := (hKA wx hB).cell 9 rfl
        have hc10 := (hKA wx hB).cell 10 rfl
        refine op_run (v := .agg #[.int .i64 D.kind, .int .i64 D.id, .slice S.cn.a S.cn.n S.cn.c, .slice S.sn.a S.sn.n S.sn.c, .int .i64 D.tick, .slice S.cookie.a S.cookie.n S.cookie.c, .slice S.proof.a S.proof.n S.proof.c, .int .i64 D.epoch, .int .i64 D.seq, .slice S.body.a S.body.n S.body.c, .slice S.tag.a S.tag.n S.tag.c]) (w' := wx) rfl rfl ?_ ?_
        · clear hp hd; have ec : ∀ v, (fr [22, 23, 24, 25] A t).eval (.const v) = v := fun _ => rfl; generalize (fr [22, 23, 24, 25] A t).eval = ev at ec e1 ⊢; go_simp
        · exact ⟨_, 0, rfl, hB, Below.refl _ _, rfl, .inl rfl⟩
      | 2, _ =>
        have e23 : (fr [22, 23, 24, 25] A t).eval (.tmp 23) = .agg #[.int .i64 D.kind, .int .i64 D.id, .slice S.cn.a S.cn.n S.cn.c, .slice S.sn.a S.sn.n S.sn.c, .int .i64 D.tick, .slice S.cookie.a S.cookie.n S.cookie.c, .slice S.proof.a S.proof.n S.proof.c, .int .i64 D.epoch, .int .i64 D.seq, .slice S.body.a S.body.n S.body.c, .slice S.tag.a S.tag.n S.tag.c] := (fr_eval _ _ _ 23 rfl (by rw [asz]; decide)).trans (hp 1 (pre_mem (by kernel_rfl)))
        refine op_call (f := 24) (args := #[.agg #[.int .i64 D.kind, .int .i64 D.id, .slice S.cn.a S.cn.n S.cn.c, .slice S.sn.a S.sn.n S.sn.c, .int .i64 D.tick, .slice S.cookie.a S.cookie.n S.cookie.c, .slice S.proof.a S.proof.n S.proof.c, .int .i64 D.epoch, .int .i64 D.seq, .slice S.body.a S.body.n S.body.c, .slice S.tag.a S.tag.n S.tag.c]]) rfl rfl ?_ (toFrame S D wx (hRS wx hB) HL.out) ?_
        · have ef : (fr [22, 23, 24, 25] A t).eval (.func 24) = .func (.func 24) #[] #[] := rfl; clear hp hd; have ec : ∀ v, (fr [22, 23, 24, 25] A t).eval (.const v) = v := fun _ => rfl; generalize (fr [22, 23, 24, 25] A t).eval = ev at ec e23 ef ⊢; go_simp
        · rintro e wy ⟨S3, rfl, o3, b1⟩
          exact ⟨_, rfl, _, wx.heap.size, rfl, hB.trans (b1.mono hB.size), b1, ⟨S3, rfl, o3.rd⟩, .inl rfl⟩
      | 3, _ =>
        have e22 : (fr [22, 23, 24, 25] A t).eval (.tmp 22) = .agg #[.int .i64 D.kind, .int .i64 D.id, .slice S2.cn.a S2.cn.n S2.cn.c, .slice S2.sn.a S2.sn.n S2.sn.c, .int .i64 D.tick, .slice S2.cookie.a S2.cookie.n S2.cookie.c, .slice S2.proof.a S2.proof.n S2.proof.c, .int .i64 D.epoch, .int .i64 D.seq, .slice S2.body.a S2.body.n S2.body.c, .slice S2.tag.a S2.tag.n S2.tag.c] := (fr_eval _ _ _ 22 rfl (by rw [asz]; decide)).trans (hp 0 (pre_mem (by kernel_rfl)))
        obtain ⟨S32, hv2, q2_0⟩ := hp 2 (pre_mem (by kernel_rfl))
        have e24 : (fr [22, 23, 24, 25] A t).eval (.tmp 24) = frV D S32 := (fr_eval _ _ _ 24 rfl (by rw [asz]; decide)).trans hv2
        refine op_call (f := 25) (args := #[.agg #[.int .i64 D.kind, .int .i64 D.id, .slice S2.cn.a S2.cn.n S2.cn.c, .slice S2.sn.a S2.sn.n S2.sn.c, .int .i64 D.tick, .slice S2.cookie.a S2.cookie.n S2.cookie.c, .slice S2.proof.a S2.proof.n S2.proof.c, .int .i64 D.epoch, .int .i64 D.seq, .slice S2.body.a S2.body.n S2.body.c, .slice S2.tag.a S2.tag.n S2.tag.c], frV D S32]) rfl rfl ?_ (eqFrame S2 S32 D wx (hRT wx hB) q2_0 HL.out) ?_
        · have ef : (fr [22, 23, 24, 25] A t).eval (.func 25) = .func (.func 25) #[] #[] := rfl; clear hp hd q2_0; have ec : ∀ v, (fr [22, 23, 24, 25] A t).eval (.const v) = v := fun _ => rfl; generalize (fr [22, 23, 24, 25] A t).eval = ev at ec e22 e24 ef ⊢; go_simp
        · rintro e wy ⟨rfl, b1⟩
          exact ⟨_, rfl, _, wx.heap.size, rfl, hB.trans (b1.mono hB.size), b1, rfl, .inl rfl⟩
    · intro t ρ wx hB hF hne
      have hv3 := hF 3 (by decide)
      have e25 : (fr [22, 23, 24, 25] A t).eval (.tmp 25) = .bool true := (fr_eval _ _ _ 25 rfl (by rw [asz]; decide)).trans hv3
      clear hne
      refine op_wp rfl rfl ?_
      generalize hE : (fr [22, 23, 24, 25] A t).eval = ev at e25
      unfold Oper.wp
      rw [hE]
      clear hv3
      go_simp
      refine hMet _ _ (Met.intro (hRJ _ _ ⟨t 22, t 23, t 24, t 25, _, ⟨rfl, hB⟩, ?_⟩))
      rw [← hA]; rfl
  case rest =>
    obtain ⟨rfl, b7⟩ := hcut
    have B7 : Hid (Below w.heap.size w wc) := B6.out.trans (b7.mono B6.out.size)
    clear b7
    go_wp2
    go_ret
    exact ⟨rfl, B7.out⟩
end Go.Proofs.Ytfapehmbecgjaaa.LawSizeOf
