/-
  The walk of the law FnExactPutFrame: at every Frame it answers true, and nothing that was there is written.
-/
import Derived.Test.YtfapehmbecgjaaaFrK
import Derived.Test.YtfapehmbecgjaaaFrI
import Derived.Test.YtfapehmbecgjaaaFrB2
import Derived.Test.YtfapehmbecgjaaaOps
namespace Go.Proofs.Ytfapehmbecgjaaa.LawPutFrame
open Go.RowKit Go.Proofs.Ytfapehmbecgjaaa.Mem Go.Proofs.Ytfapehmbecgjaaa.Blk Go.Proofs.Ytfapehmbecgjaaa.Zone Go.Proofs.Ytfapehmbecgjaaa.ZoneB Go.Proofs.Ytfapehmbecgjaaa.FrZ Go.Proofs.Ytfapehmbecgjaaa.Each Go.Proofs.Ytfapehmbecgjaaa.Copy Go.Proofs.Ytfapehmbecgjaaa.Ops Go.Proofs.Ytfapehmbecgjaaa.FrP Go.Proofs.Ytfapehmbecgjaaa.FrS Go.Proofs.Ytfapehmbecgjaaa.FrB Go.Proofs.Ytfapehmbecgjaaa.FrPut Go.Proofs.Ytfapehmbecgjaaa.FrK Go.Proofs.Ytfapehmbecgjaaa.FrI Go.Proofs.Ytfapehmbecgjaaa.FrB2

set_option maxRecDepth 100000 in
set_option maxHeartbeats 4000000 in
theorem walk (D : FrD) (S : FrS) (w : World) (h : FrRd w S D) (hs : FrSmall S) :
    Calls Try.prog 7 #[frV D S] w fun e w' => e = .returned (.bool true) ∧ Below w.heap.size w w' := by
  have HR : Hid (FrRd w S D) := h
  have HM : Hid (FrSmall S) := hs
  obtain ⟨v, hv⟩ : ∃ v, putF D = v := ⟨_, rfl⟩
  have HV : Hid (putF D = v) := hv
  have HVB : Hid (Bytes v) := by show Bytes v; rw [← hv]; exact putF_bytes HR.out
  have HVL : Hid (v.length ≤ 4194304) := by show v.length ≤ 4194304; rw [← hv]; exact putF_len HR.out
  obtain ⟨x0, hx0⟩ : ∃ x0, w.alloc (.cells #[.int .i64 D.kind, .int .i64 D.id, .slice S.cn.a S.cn.n S.cn.c, .slice S.sn.a S.sn.n S.sn.c, .int .i64 D.tick, .slice S.cookie.a S.cookie.n S.cookie.c, .slice S.proof.a S.proof.n S.proof.c, .int .i64 D.epoch, .int .i64 D.seq, .slice S.body.a S.body.n S.body.c, .slice S.tag.a S.tag.n S.tag.c] 36) = x0 := ⟨_, rfl⟩
  have HW0 : Hid (w.alloc (.cells #[.int .i64 D.kind, .int .i64 D.id, .slice S.cn.a S.cn.n S.cn.c, .slice S.sn.a S.sn.n S.sn.c, .int .i64 D.tick, .slice S.cookie.a S.cookie.n S.cookie.c, .slice S.proof.a S.proof.n S.proof.c, .int .i64 D.epoch, .int .i64 D.seq, .slice S.body.a S.body.n S.body.c, .slice S.tag.a S.tag.n S.tag.c] 36) = x0) := hx0
  have B0 : Hid (Below w.heap.size w x0) := by rw [← hx0]; exact (Below.refl _ _).alloc (Nat.le_refl _) _
  have KA0 : Hid (Blk x0 w.heap.size 36 [.int .i64 D.kind, .int .i64 D.id, .slice S.cn.a S.cn.n S.cn.c, .slice S.sn.a S.sn.n S.sn.c, .int .i64 D.tick, .slice S.cookie.a S.cookie.n S.cookie.c, .slice S.proof.a S.proof.n S.proof.c, .int .i64 D.epoch, .int .i64 D.seq, .slice S.body.a S.body.n S.body.c, .slice S.tag.a S.tag.n S.tag.c]) := by rw [← hx0]; exact Blk.new w _ _
  clear h hs hv hx0
  unfold frV
  go_enter Try.func7, Try.ntmps7
  go_upto_region 1 with fail
  rw [HW0.out]
  generalize w.heap.size = ga at KA0 ⊢
  clear HW0
  have c0 := KA0.out.cell 0 rfl
  have c1 := KA0.out.cell 1 rfl
  have c2 := KA0.out.cell 2 rfl
  have c3 := KA0.out.cell 3 rfl
  have c4 := KA0.out.cell 4 rfl
  have c5 := KA0.out.cell 5 rfl
  have c6 := KA0.out.cell 6 rfl
  have c7 := KA0.out.cell 7 rfl
  have c8 := KA0.out.cell 8 rfl
  have c9 := KA0.out.cell 9 rfl
  have c10 := KA0.out.cell 10 rfl
  go_wp2_with fail
  refine (szFrame S D 1048576 x0 HM.out (by omega) (by omega)).mono ?_
  rintro e x1 ⟨rfl, b1⟩
  have B1 : Hid (Below w.heap.size w x1) := B0.out.trans (b1.mono B0.out.size)
  have KA1 : Hid (Blk x1 ga 36 [.int .i64 D.kind, .int .i64 D.id, .slice S.cn.a S.cn.n S.cn.c, .slice S.sn.a S.sn.n S.sn.c, .int .i64 D.tick, .slice S.cookie.a S.cookie.n S.cookie.c, .slice S.proof.a S.proof.n S.proof.c, .int .i64 D.epoch, .int .i64 D.seq, .slice S.body.a S.body.n S.body.c, .slice S.tag.a S.tag.n S.tag.c]) := KA0.out.later b1
  clear b1 B0 KA0 c0 c1 c2 c3 c4 c5 c6 c7 c8 c9 c10
  by_cases hsum : (1048576 : Int) - (frSum S : Int) < 0
  · rw [if_pos hsum]
    go_wp2
    go_ret
    exact ⟨rfl, B1.out⟩
  rw [if_neg hsum]
  have HL : Hid (FrShort D 4194304) := by
    have q : frSum S ≤ 1048576 := by omega
    unfold frSum at q
    exact ⟨by rw [← HR.out.cn.len]; omega, by rw [← HR.out.sn.len]; omega, by rw [← HR.out.cookie.len]; omega, by rw [← HR.out.proof.len]; omega, by rw [← HR.out.body.len]; omega, by rw [← HR.out.tag.len]; omega⟩
  have c0 := KA1.out.cell 0 rfl
  have c1 := KA1.out.cell 1 rfl
  have c2 := KA1.out.cell 2 rfl
  have c3 := KA1.out.cell 3 rfl
  have c4 := KA1.out.cell 4 rfl
  have c5 := KA1.out.cell 5 rfl
  have c6 := KA1.out.cell 6 rfl
  have c7 := KA1.out.cell 7 rfl
  have c8 := KA1.out.cell 8 rfl
  have c9 := KA1.out.cell 9 rfl
  have c10 := KA1.out.cell 10 rfl
  go_wp2_with fail
  refine (toFrame S D x1 (HR.out.later B1.out) HL.out).mono ?_
  rintro e x2 ⟨S1, rfl, o1, b2⟩
  have R1 : Hid (FrRd x2 S1 D) := o1.rd
  have B2 : Hid (Below w.heap.size w x2) := B1.out.trans (b2.mono B1.out.size)
  have KA2 : Hid (Blk x2 ga 36 [.int .i64 D.kind, .int .i64 D.id, .slice S.cn.a S.cn.n S.cn.c, .slice S.sn.a S.sn.n S.sn.c, .int .i64 D.tick, .slice S.cookie.a S.cookie.n S.cookie.c, .slice S.proof.a S.proof.n S.proof.c, .int .i64 D.epoch, .int .i64 D.seq, .slice S.body.a S.body.n S.body.c, .slice S.tag.a S.tag.n S.tag.c]) := KA1.out.later b2
  clear o1 b2 B1 KA1 c0 c1 c2 c3 c4 c5 c6 c7 c8 c9 c10
  go_wp2_with fail
  refine (specPutFrame S1 D x2 R1.out).mono ?_
  rw [HV.out]
  rintro e x3 ⟨gw, mw, cw, rfl, ew, kw, rw0, b3⟩
  have OW3 : Hid (SOwn x3 x2.heap.size x3.heap.size ⟨some ⟨gw, 0, none⟩, mw, cw⟩ v) := SOwn.row rw0 ew HVB.out kw rw0.lt
  have B3 : Hid (Below w.heap.size w x3) := B2.out.trans (b3.mono B2.out.size)
  have KA3 : Hid (Blk x3 ga 36 [.int .i64 D.kind, .int .i64 D.id, .slice S.cn.a S.cn.n S.cn.c, .slice S.sn.a S.sn.n S.sn.c, .int .i64 D.tick, .slice S.cookie.a S.cookie.n S.cookie.c, .slice S.proof.a S.proof.n S.proof.c, .int .i64 D.epoch, .int .i64 D.seq, .slice S.body.a S.body.n S.body.c, .slice S.tag.a S.tag.n S.tag.c]) := KA2.out.later b3
  clear ew kw rw0
  clear b3 B2 KA2 R1
  have c0 := KA3.out.cell 0 rfl
  have c1 := KA3.out.cell 1 rfl
  have c2 := KA3.out.cell 2 rfl
  have c3 := KA3.out.cell 3 rfl
  have c4 := KA3.out.cell 4 rfl
  have c5 := KA3.out.cell 5 rfl
  have c6 := KA3.out.cell 6 rfl
  have c7 := KA3.out.cell 7 rfl
  have c8 := KA3.out.cell 8 rfl
  have c9 := KA3.out.cell 9 rfl
  have c10 := KA3.out.cell 10 rfl
  go_wp2_with fail
  refine (toFrame S D x3 (HR.out.later B3.out) HL.out).mono ?_
  rintro e x4 ⟨S2, rfl, o2, b4⟩
  have O4 : Hid (FrOwn x4 x3.heap.size x4.heap.size S2 D) := o2
  have B4 : Hid (Below w.heap.size w x4) := B3.out.trans (b4.mono B3.out.size)
  have KA4 : Hid (Blk x4 ga 36 [.int .i64 D.kind, .int .i64 D.id, .slice S.cn.a S.cn.n S.cn.c, .slice S.sn.a S.sn.n S.sn.c, .int .i64 D.tick, .slice S.cookie.a S.cookie.n S.cookie.c, .slice S.proof.a S.proof.n S.proof.c, .int .i64 D.epoch, .int .i64 D.seq, .slice S.body.a S.body.n S.body.c, .slice S.tag.a S.tag.n S.tag.c]) := KA3.out.later b4
  obtain ⟨x5, hx5⟩ : ∃ x5, x4.alloc (.cells #[.int .i64 D.kind, .int .i64 D.id, .slice S2.cn.a S2.cn.n S2.cn.c, .slice S2.sn.a S2.sn.n S2.sn.c, .int .i64 D.tick, .slice S2.cookie.a S2.cookie.n S2.cookie.c, .slice S2.proof.a S2.proof.n S2.proof.c, .int .i64 D.epoch, .int .i64 D.seq, .slice S2.body.a S2.body.n S2.body.c, .slice S2.tag.a S2.tag.n S2.tag.c] 25) = x5 := ⟨_, rfl⟩
  have HW5 : Hid (x4.alloc (.cells #[.int .i64 D.kind, .int .i64 D.id, .slice S2.cn.a S2.cn.n S2.cn.c, .slice S2.sn.a S2.sn.n S2.sn.c, .int .i64 D.tick, .slice S2.cookie.a S2.cookie.n S2.cookie.c, .slice S2.proof.a S2.proof.n S2.proof.c, .int .i64 D.epoch, .int .i64 D.seq, .slice S2.body.a S2.body.n S2.body.c, .slice S2.tag.a S2.tag.n S2.tag.c] 25) = x5) := hx5
  have b5 : Below x4.heap.size x4 x5 := by rw [← hx5]; exact (Below.refl _ _).alloc (Nat.le_refl _) _
  have OW5 : Hid (SOwn x5 x2.heap.size x3.heap.size ⟨some ⟨gw, 0, none⟩, mw, cw⟩ v) := (OW3.out.carry (Kept.of_below b4 _) (.inl (Nat.le_refl _))).carry (Kept.of_below b5 _) (.inl (Nat.le_refl _))
  have LA : Hid (ga < x3.heap.size) := KA3.out.lt
  have L34 : Hid (x3.heap.size ≤ x4.heap.size) := b4.size
  have L45 : Hid (x4.heap.size < x5.heap.size) := by rw [← hx5]; show _ < _; simp
  have LW3 : Hid (w.heap.size ≤ x3.heap.size) := B3.out.size
  have O5 : Hid (FrOwn x5 x3.heap.size x4.heap.size S2 D) := o2.later b5
  have B5 : Hid (Below w.heap.size w x5) := B4.out.trans (b5.mono B4.out.size)
  have KA5 : Hid (Blk x5 ga 36 [.int .i64 D.kind, .int .i64 D.id, .slice S.cn.a S.cn.n S.cn.c, .slice S.sn.a S.sn.n S.sn.c, .int .i64 D.tick, .slice S.cookie.a S.cookie.n S.cookie.c, .slice S.proof.a S.proof.n S.proof.c, .int .i64 D.epoch, .int .i64 D.seq, .slice S.body.a S.body.n S.body.c, .slice S.tag.a S.tag.n S.tag.c]) := KA4.out.later b5
  have KB5 : Hid (Blk x5 x4.heap.size 25 [.int .i64 D.kind, .int .i64 D.id, .slice S2.cn.a S2.cn.n S2.cn.c, .slice S2.sn.a S2.sn.n S2.sn.c, .int .i64 D.tick, .slice S2.cookie.a S2.cookie.n S2.cookie.c, .slice S2.proof.a S2.proof.n S2.proof.c, .int .i64 D.epoch, .int .i64 D.seq, .slice S2.body.a S2.body.n S2.body.c, .slice S2.tag.a S2.tag.n S2.tag.c]) := by rw [← hx5]; exact Blk.new x4 _ _
  clear o2 b4 b5 hx5 B3 B4 KA3 KA4 O4 c0 c1 c2 c3 c4 c5 c6 c7 c8 c9 c10
  unfold frV
  go_upto_region 7 with fail
  rw [HW5.out]
  generalize hgb : x4.heap.size = gb at *
  clear HW5
  have c0 := KB5.out.cell 0 rfl
  have c1 := KB5.out.cell 1 rfl
  have c2 := KB5.out.cell 2 rfl
  have c3 := KB5.out.cell 3 rfl
  have c4 := KB5.out.cell 4 rfl
  have c5 := KB5.out.cell 5 rfl
  have c6 := KB5.out.cell 6 rfl
  have c7 := KB5.out.cell 7 rfl
  have c8 := KB5.out.cell 8 rfl
  have c9 := KB5.out.cell 9 rfl
  have c10 := KB5.out.cell 10 rfl
  go_wp2_with fail
  refine (implPutFrame S2 D x5 O5.out.rd).mono ?_
  rw [HV.out]
  rintro e x6 ⟨gg, mg, cg, rfl, eg, kg, rg, b6⟩
  have OG6 : Hid (SOwn x6 x5.heap.size x6.heap.size ⟨some ⟨gg, 0, none⟩, mg, cg⟩ v) := SOwn.row rg eg HVB.out kg rg.lt
  have O6 : Hid (FrOwn x6 x3.heap.size gb S2 D) := O5.out.later b6
  have OW6 : Hid (SOwn x6 x2.heap.size x3.heap.size ⟨some ⟨gw, 0, none⟩, mw, cw⟩ v) := OW5.out.carry (Kept.of_below b6 _) (.inl (Nat.le_refl _))
  have B6 : Hid (Below w.heap.size w x6) := B5.out.trans (b6.mono B5.out.size)
  have KA6 : Hid (Blk x6 ga 36 [.int .i64 D.kind, .int .i64 D.id, .slice S.cn.a S.cn.n S.cn.c, .slice S.sn.a S.sn.n S.sn.c, .int .i64 D.tick, .slice S.cookie.a S.cookie.n S.cookie.c, .slice S.proof.a S.proof.n S.proof.c, .int .i64 D.epoch, .int .i64 D.seq, .slice S.body.a S.body.n S.body.c, .slice S.tag.a S.tag.n S.tag.c]) := KA5.out.later b6
  have KB6 : Hid (Blk x6 gb 25 [.int .i64 D.kind, .int .i64 D.id, .slice S2.cn.a S2.cn.n S2.cn.c, .slice S2.sn.a S2.sn.n S2.sn.c, .int .i64 D.tick, .slice S2.cookie.a S2.cookie.n S2.cookie.c, .slice S2.proof.a S2.proof.n S2.proof.c, .int .i64 D.epoch, .int .i64 D.seq, .slice S2.body.a S2.body.n S2.body.c, .slice S2.tag.a S2.tag.n S2.tag.c]) := KB5.out.later b6
  clear eg kg rg b6 B5 KA5 KB5 O5 OW5 c0 c1 c2 c3 c4 c5 c6 c7 c8 c9 c10
  go_wp2_with fail
  refine (eqB ⟨some ⟨gg, 0, none⟩, mg, cg⟩ ⟨some ⟨gw, 0, none⟩, mw, cw⟩ v v x6 OG6.out.rd OW6.out.rd HVL.out HVL.out).mono ?_
  rw [decide_eq_true (show v = v from rfl)]
  rintro e x7 ⟨rfl, b7⟩
  have OG7 : Hid (SOwn x7 x5.heap.size x6.heap.size ⟨some ⟨gg, 0, none⟩, mg, cg⟩ v) := OG6.out.carry (Kept.of_below b7 _) (.inl (Nat.le_refl _))
  have O7 : Hid (FrOwn x7 x3.heap.size gb S2 D) := O6.out.later b7
  have OW7 : Hid (SOwn x7 x2.heap.size x3.heap.size ⟨some ⟨gw, 0, none⟩, mw, cw⟩ v) := OW6.out.carry (Kept.of_below b7 _) (.inl (Nat.le_refl _))
  have B7 : Hid (Below w.heap.size w x7) := B6.out.trans (b7.mono B6.out.size)
  have KA7 : Hid (Blk x7 ga 36 [.int .i64 D.kind, .int .i64 D.id, .slice S.cn.a S.cn.n S.cn.c, .slice S.sn.a S.sn.n S.sn.c, .int .i64 D.tick, .slice S.cookie.a S.cookie.n S.cookie.c, .slice S.proof.a S.proof.n S.proof.c, .int .i64 D.epoch, .int .i64 D.seq, .slice S.body.a S.body.n S.body.c, .slice S.tag.a S.tag.n S.tag.c]) := KA6.out.later b7
  have KB7 : Hid (Blk x7 gb 25 [.int .i64 D.kind, .int .i64 D.id, .slice S2.cn.a S2.cn.n S2.cn.c, .slice S2.sn.a S2.sn.n S2.sn.c, .int .i64 D.tick, .slice S2.cookie.a S2.cookie.n S2.cookie.c, .slice S2.proof.a S2.proof.n S2.proof.c, .int .i64 D.epoch, .int .i64 D.seq, .slice S2.body.a S2.body.n S2.body.c, .slice S2.tag.a S2.tag.n S2.tag.c]) := KB6.out.later b7
  clear b7 OG6 O6 OW6 B6 KA6 KB6
  go_upto_region 10 with fail
  go_cut [31] from 27 to 30 (fun sv wx => sv = .bool false ∧ Below x7.heap.size x7 wx)
  case first =>
    rename_i J K' hRJ hMet
    generalize hA : Act.mk _ _ = A
    have a1' : A.eval (.tmp 1) = .pointer (some ⟨ga, 0, none⟩) := by rw [← hA]; rfl
    have a5' : A.eval (.tmp 5) = .pointer (some ⟨gb, 0, none⟩) := by rw [← hA]; rfl
    have asz : A.tmps.size = 69 := by rw [← hA]; rfl
    have hKA : ∀ wx, Below x7.heap.size x7 wx → Blk wx ga 36 [.int .i64 D.kind, .int .i64 D.id, .slice S.cn.a S.cn.n S.cn.c, .slice S.sn.a S.sn.n S.sn.c, .int .i64 D.tick, .slice S.cookie.a S.cookie.n S.cookie.c, .slice S.proof.a S.proof.n S.proof.c, .int .i64 D.epoch, .int .i64 D.seq, .slice S.body.a S.body.n S.body.c, .slice S.tag.a S.tag.n S.tag.c] := fun wx hb => KA7.out.later hb
    have hKB : ∀ wx, Below x7.heap.size x7 wx → Blk wx gb 25 [.int .i64 D.kind, .int .i64 D.id, .slice S2.cn.a S2.cn.n S2.cn.c, .slice S2.sn.a S2.sn.n S2.sn.c, .int .i64 D.tick, .slice S2.cookie.a S2.cookie.n S2.cookie.c, .slice S2.proof.a S2.proof.n S2.proof.c, .int .i64 D.epoch, .int .i64 D.seq, .slice S2.body.a S2.body.n S2.body.c, .slice S2.tag.a S2.tag.n S2.tag.c] := fun wx hb => KB7.out.later hb
    have hRS : ∀ wx, Below x7.heap.size x7 wx → FrRd wx S D := fun wx hb => HR.out.later (B7.out.trans (hb.mono B7.out.size))
    have hRT : ∀ wx, Below x7.heap.size x7 wx → FrRd wx S2 D := fun wx hb => O7.out.rd.later hb
    refine region_each (by kernel_rfl) [27, 28, 29, 30] 4 (fun i => [27, 28, 29, 30].getD i 0) (fun _ => 0)
      (fun i gB v wx => match i with
        | 0 => v = .agg #[.int .i64 D.kind, .int .i64 D.id, .slice S2.cn.a S2.cn.n S2.cn.c, .slice S2.sn.a S2.sn.n S2.sn.c, .int .i64 D.tick, .slice S2.cookie.a S2.cookie.n S2.cookie.c, .slice S2.proof.a S2.proof.n S2.proof.c, .int .i64 D.epoch, .int .i64 D.seq, .slice S2.body.a S2.body.n S2.body.c, .slice S2.tag.a S2.tag.n S2.tag.c]
        | 1 => v = .agg #[.int .i64 D.kind, .int .i64 D.id, .slice S.cn.a S.cn.n S.cn.c, .slice S.sn.a S.sn.n S.sn.c, .int .i64 D.tick, .slice S.cookie.a S.cookie.n S.cookie.c, .slice S.proof.a S.proof.n S.proof.c, .int .i64 D.epoch, .int .i64 D.seq, .slice S.body.a S.body.n S.body.c, .slice S.tag.a S.tag.n S.tag.c]
        | 2 => ∃ S3, v = frV D S3 ∧ FrRd wx S3 D
        | 3 => v = .bool true
        | _ => False) (fun wx => Below x7.heap.size x7 wx) (by kernel_rfl) (Below.refl _ _).drew ?_ ?_ ?_
    · intro i gB v wx wy hi hF hb _
      match i, hi with
      | 0, _ => exact hF
      | 1, _ => exact hF
      | 2, _ => obtain ⟨S3, h0, h1⟩ := hF; exact ⟨S3, h0, h1.later hb⟩
      | 3, _ => exact hF
    · intro i hi t ρ wx hB hp hd
      match i, hi with
      | 0, _ =>
        have e5 : (fr [27, 28, 29, 30] A t).eval (.tmp 5) = .pointer (some ⟨gb, 0, none⟩) := (fr_eval_old _ _ _ 5 rfl).trans a5'
        have hc0 := (hKB wx hB).cell 0 rfl
        have hc1 := (hKB wx hB).cell 1 rfl
        have hc2 := (hKB wx hB).cell 2 rfl
        have hc3 := (hKB wx hB).cell 3 rfl
        have hc4 := (hKB wx hB).cell 4 rfl
        have hc5 := (hKB wx hB).cell 5 rfl
        have hc6 := (hKB wx hB).cell 6 rfl
        have hc7 := (hKB wx hB).cell 7 rfl
        have hc8 := (hKB wx hB).cell 8 rfl
        have hc9 := (hKB wx hB).cell 9 rfl
        have hc10 := (hKB wx hB).cell 10 rfl
        refine op_run (v := .agg #[.int .i64 D.kind, .int .i64 D.id, .slice S2.cn.a S2.cn.n S2.cn.c, .slice S2.sn.a S2.sn.n S2.sn.c, .int .i64 D.tick, .slice S2.cookie.a S2.cookie.n S2.cookie.c, .slice S2.proof.a S2.proof.n S2.proof.c, .int .i64 D.epoch, .int .i64 D.seq, .slice S2.body.a S2.body.n S2.body.c, .slice S2.tag.a S2.tag.n S2.tag.c]) (w' := wx) rfl rfl ?_ ?_
        · clear hp hd; have ec : ∀ v, (fr [27, 28, 29, 30] A t).eval (.const v) = v := fun _ => rfl; generalize (fr [27, 28, 29, 30] A t).eval = ev at ec e5 ⊢; go_simp
        · exact ⟨_, 0, rfl, hB, Below.refl _ _, rfl, .inl rfl⟩
      | 1, _ =>
        have e1 : (fr [27, 28, 29, 30] A t).eval (.tmp 1) = .pointer (some ⟨ga, 0, none⟩) := (fr_eval_old _ _ _ 1 rfl).trans a1'
        have hc0 := (hKA wx hB).cell 0 rfl
        have hc1 := (hKA wx hB).cell 1 rfl
        have hc2 := (hKA wx hB).cell 2 rfl
        have hc3 := (hKA wx hB).cell 3 rfl
        have hc4 := (hKA wx hB).cell 4 rfl
        have hc5 := (hKA wx hB).cell 5 rfl
        have hc6 := (hKA wx hB).cell 6 rfl
        have hc7 := (hKA wx hB).cell 7 rfl
        have hc8 := (hKA wx hB).cell 8 rfl
        have hc9 := (hKA wx hB).cell 9 rfl
        have hc10 := (hKA wx hB).cell 10 rfl
        refine op_run (v := .agg #[.int .i64 D.kind, .int .i64 D.id, .slice S.cn.a S.cn.n S.cn.c, .slice S.sn.a S.sn.n S.sn.c, .int .i64 D.tick, .slice S.cookie.a S.cookie.n S.cookie.c, .slice S.proof.a S.proof.n S.proof.c, .int .i64 D.epoch, .int .i64 D.seq, .slice S.body.a S.body.n S.body.c, .slice S.tag.a S.tag.n S.tag.c]) (w' := wx) rfl rfl ?_ ?_
        · clear hp hd; have ec : ∀ v, (fr [27, 28, 29, 30] A t).eval (.const v) = v := fun _ => rfl; generalize (fr [27, 28, 29, 30] A t).eval = ev at ec e1 ⊢; go_simp
        · exact ⟨_, 0, rfl, hB, Below.refl _ _, rfl, .inl rfl⟩
      | 2, _ =>
        have e28 : (fr [27, 28, 29, 30] A t).eval (.tmp 28) = .agg #[.int .i64 D.kind, .int .i64 D.id, .slice S.cn.a S.cn.n S.cn.c, .slice S.sn.a S.sn.n S.sn.c, .int .i64 D.tick, .slice S.cookie.a S.cookie.n S.cookie.c, .slice S.proof.a S.proof.n S.proof.c, .int .i64 D.epoch, .int .i64 D.seq, .slice S.body.a S.body.n S.body.c, .slice S.tag.a S.tag.n S.tag.c] := (fr_eval _ _ _ 28 rfl (by rw [asz]; decide)).trans (hp 1 (pre_mem (by kernel_rfl)))
        refine op_call (f := 24) (args := #[.agg #[.int .i64 D.kind, .int .i64 D.id, .slice S.cn.a S.cn.n S.cn.c, .slice S.sn.a S.sn.n S.sn.c, .int .i64 D.tick, .slice S.cookie.a S.cookie.n S.cookie.c, .slice S.proof.a S.proof.n S.proof.c, .int .i64 D.epoch, .int .i64 D.seq, .slice S.body.a S.body.n S.body.c, .slice S.tag.a S.tag.n S.tag.c]]) rfl rfl ?_ (toFrame S D wx (hRS wx hB) HL.out) ?_
        · have ef : (fr [27, 28, 29, 30] A t).eval (.func 24) = .func (.func 24) #[] #[] := rfl; clear hp hd; have ec : ∀ v, (fr [27, 28, 29, 30] A t).eval (.const v) = v := fun _ => rfl; generalize (fr [27, 28, 29, 30] A t).eval = ev at ec e28 ef ⊢; go_simp
        · rintro e wy ⟨S3, rfl, o3, b1⟩
          exact ⟨_, rfl, _, wx.heap.size, rfl, hB.trans (b1.mono hB.size), b1, ⟨S3, rfl, o3.rd⟩, .inl rfl⟩
      | 3, _ =>
        have e27 : (fr [27, 28, 29, 30] A t).eval (.tmp 27) = .agg #[.int .i64 D.kind, .int .i64 D.id, .slice S2.cn.a S2.cn.n S2.cn.c, .slice S2.sn.a S2.sn.n S2.sn.c, .int .i64 D.tick, .slice S2.cookie.a S2.cookie.n S2.cookie.c, .slice S2.proof.a S2.proof.n S2.proof.c, .int .i64 D.epoch, .int .i64 D.seq, .slice S2.body.a S2.body.n S2.body.c, .slice S2.tag.a S2.tag.n S2.tag.c] := (fr_eval _ _ _ 27 rfl (by rw [asz]; decide)).trans (hp 0 (pre_mem (by kernel_rfl)))
        obtain ⟨S32, hv2, q2_0⟩ := hp 2 (pre_mem (by kernel_rfl))
        have e29 : (fr [27, 28, 29, 30] A t).eval (.tmp 29) = frV D S32 := (fr_eval _ _ _ 29 rfl (by rw [asz]; decide)).trans hv2
        refine op_call (f := 25) (args := #[.agg #[.int .i64 D.kind, .int .i64 D.id, .slice S2.cn.a S2.cn.n S2.cn.c, .slice S2.sn.a S2.sn.n S2.sn.c, .int .i64 D.tick, .slice S2.cookie.a S2.cookie.n S2.cookie.c, .slice S2.proof.a S2.proof.n S2.proof.c, .int .i64 D.epoch, .int .i64 D.seq, .slice S2.body.a S2.body.n S2.body.c, .slice S2.tag.a S2.tag.n S2.tag.c], frV D S32]) rfl rfl ?_ (eqFrame S2 S32 D wx (hRT wx hB) q2_0 HL.out) ?_
        · have ef : (fr [27, 28, 29, 30] A t).eval (.func 25) = .func (.func 25) #[] #[] := rfl; clear hp hd q2_0; have ec : ∀ v, (fr [27, 28, 29, 30] A t).eval (.const v) = v := fun _ => rfl; generalize (fr [27, 28, 29, 30] A t).eval = ev at ec e27 e29 ef ⊢; go_simp
        · rintro e wy ⟨rfl, b1⟩
          exact ⟨_, rfl, _, wx.heap.size, rfl, hB.trans (b1.mono hB.size), b1, rfl, .inl rfl⟩
    · intro t ρ wx hB hF hne
      have hv3 := hF 3 (by decide)
      have e30 : (fr [27, 28, 29, 30] A t).eval (.tmp 30) = .bool true := (fr_eval _ _ _ 30 rfl (by rw [asz]; decide)).trans hv3
      clear hne
      refine op_wp rfl rfl ?_
      generalize hE : (fr [27, 28, 29, 30] A t).eval = ev at e30
      unfold Oper.wp
      rw [hE]
      clear hv3
      go_simp
      refine hMet _ _ (Met.intro (hRJ _ _ ⟨t 27, t 28, t 29, t 30, _, ⟨rfl, hB⟩, ?_⟩))
      rw [← hA]; rfl
  case rest =>
    obtain ⟨x8, hq8⟩ : ∃ x8, x8 = wc := ⟨_, rfl⟩
    subst hq8
    obtain ⟨rfl, b8⟩ := hcut
    have OG8 : Hid (SOwn x8 x5.heap.size x6.heap.size ⟨some ⟨gg, 0, none⟩, mg, cg⟩ v) := OG7.out.carry (Kept.of_below b8 _) (.inl (Nat.le_refl _))
    have O8 : Hid (FrOwn x8 x3.heap.size gb S2 D) := O7.out.later b8
    have OW8 : Hid (SOwn x8 x2.heap.size x3.heap.size ⟨some ⟨gw, 0, none⟩, mw, cw⟩ v) := OW7.out.carry (Kept.of_below b8 _) (.inl (Nat.le_refl _))
    have B8 : Hid (Below w.heap.size w x8) := B7.out.trans (b8.mono B7.out.size)
    have KA8 : Hid (Blk x8 ga 36 [.int .i64 D.kind, .int .i64 D.id, .slice S.cn.a S.cn.n S.cn.c, .slice S.sn.a S.sn.n S.sn.c, .int .i64 D.tick, .slice S.cookie.a S.cookie.n S.cookie.c, .slice S.proof.a S.proof.n S.proof.c, .int .i64 D.epoch, .int .i64 D.seq, .slice S.body.a S.body.n S.body.c, .slice S.tag.a S.tag.n S.tag.c]) := KA7.out.later b8
    have KB8 : Hid (Blk x8 gb 25 [.int .i64 D.kind, .int .i64 D.id, .slice S2.cn.a S2.cn.n S2.cn.c, .slice S2.sn.a S2.sn.n S2.sn.c, .int .i64 D.tick, .slice S2.cookie.a S2.cookie.n S2.cookie.c, .slice S2.proof.a S2.proof.n S2.proof.c, .int .i64 D.epoch, .int .i64 D.seq, .slice S2.body.a S2.body.n S2.body.c, .slice S2.tag.a S2.tag.n S2.tag.c]) := KB7.out.later b8
    clear b8 OG7 O7 OW7 B7 KA7 KB7
    have hgx : gb ≤ x8.heap.size := Nat.le_of_lt KB8.out.lt
    have HS2 : Hid ((1 : Int) + (frSum S2 : Int) ≤ 4194304) := by
      have q : frSum S ≤ 1048576 := by omega
      unfold frSum at q ⊢
      show _ ≤ _
      have acn := O8.out.cn.len; have bcn := HR.out.cn.len; have asn := O8.out.sn.len; have bsn := HR.out.sn.len; have acookie := O8.out.cookie.len; have bcookie := HR.out.cookie.len; have aproof := O8.out.proof.len; have bproof := HR.out.proof.len; have abody := O8.out.body.len; have bbody := HR.out.body.len; have atag := O8.out.tag.len; have btag := HR.out.tag.len
      omega
    have hk0 : ¬ ((1 : Int) + (frSum S2 : Int) < 0) := by omega
    have c0 := KB8.out.cell 0 rfl
    have c1 := KB8.out.cell 1 rfl
    have c2 := KB8.out.cell 2 rfl
    have c3 := KB8.out.cell 3 rfl
    have c4 := KB8.out.cell 4 rfl
    have c5 := KB8.out.cell 5 rfl
    have c6 := KB8.out.cell 6 rfl
    have c7 := KB8.out.cell 7 rfl
    have c8 := KB8.out.cell 8 rfl
    have c9 := KB8.out.cell 9 rfl
    have c10 := KB8.out.cell 10 rfl
    go_wp2_with fail
    refine (markFrame S2 D 1 x8 x3.heap.size gb O8.out hgx (by omega) HS2.out).mono ?_
    rintro e x9 ⟨rfl, _, k9⟩
    have OG9 : Hid (SOwn x9 x5.heap.size x6.heap.size ⟨some ⟨gg, 0, none⟩, mg, cg⟩ v) := OG8.out.carry k9 (.inr (Nat.le_of_lt L45.out))
    have OW9 : Hid (SOwn x9 x2.heap.size x3.heap.size ⟨some ⟨gw, 0, none⟩, mw, cw⟩ v) := OW8.out.carry k9 (.inl (Nat.le_refl _))
    have B9 : Hid (Below w.heap.size w x9) := B8.out.trans (k9.below LW3.out B8.out.size)
    have KA9 : Hid (Blk x9 ga 36 [.int .i64 D.kind, .int .i64 D.id, .slice S.cn.a S.cn.n S.cn.c, .slice S.sn.a S.sn.n S.sn.c, .int .i64 D.tick, .slice S.cookie.a S.cookie.n S.cookie.c, .slice S.proof.a S.proof.n S.proof.c, .int .i64 D.epoch, .int .i64 D.seq, .slice S.body.a S.body.n S.body.c, .slice S.tag.a S.tag.n S.tag.c]) := KA8.out.keep (k9.block ga KA8.out.lt (.inl LA.out))
    clear k9 OG8 O8 OW8 B8 KA8 KB8 c0 c1 c2 c3 c4 c5 c6 c7 c8 c9 c10
    go_wp2_with fail
    refine (eqB ⟨some ⟨gg, 0, none⟩, mg, cg⟩ ⟨some ⟨gw, 0, none⟩, mw, cw⟩ v v x9 OG9.out.rd OW9.out.rd HVL.out HVL.out).mono ?_
    rw [decide_eq_true (show v = v from rfl)]
    rintro e x10 ⟨rfl, b10⟩
    have OG10 : Hid (SOwn x10 x5.heap.size x6.heap.size ⟨some ⟨gg, 0, none⟩, mg, cg⟩ v) := OG9.out.carry (Kept.of_below b10 _) (.inl (Nat.le_refl _))
    have OW10 : Hid (SOwn x10 x2.heap.size x3.heap.size ⟨some ⟨gw, 0, none⟩, mw, cw⟩ v) := OW9.out.carry (Kept.of_below b10 _) (.inl (Nat.le_refl _))
    have B10 : Hid (Below w.heap.size w x10) := B9.out.trans (b10.mono B9.out.size)
    have KA10 : Hid (Blk x10 ga 36 [.int .i64 D.kind, .int .i64 D.id, .slice S.cn.a S.cn.n S.cn.c, .slice S.sn.a S.sn.n S.sn.c, .int .i64 D.tick, .slice S.cookie.a S.cookie.n S.cookie.c, .slice S.proof.a S.proof.n S.proof.c, .int .i64 D.epoch, .int .i64 D.seq, .slice S.body.a S.body.n S.body.c, .slice S.tag.a S.tag.n S.tag.c]) := KA9.out.later b10
    clear b10 OG9 OW9 B9 KA9
    have hmg : mg ≤ 4194304 := by have := OG10.out.len; have := HVL.out; show mg ≤ _; simp only at *; omega
    go_wp2_with fail
    refine (markB ⟨some ⟨gg, 0, none⟩, mg, cg⟩ v 1 x10 x5.heap.size x6.heap.size OG10.out HVL.out (by omega) (by omega)).mono ?_
    rintro e x11 ⟨rfl, o11, k11, _⟩
    have OG11 : Hid (SOwn x11 x5.heap.size x6.heap.size ⟨some ⟨gg, 0, none⟩, mg, cg⟩ (marks 1 mg)) := o11
    have OW11 : Hid (SOwn x11 x2.heap.size x3.heap.size ⟨some ⟨gw, 0, none⟩, mw, cw⟩ v) := OW10.out.carry k11 (.inl (Nat.le_trans L34.out (Nat.le_of_lt L45.out)))
    have B11 : Hid (Below w.heap.size w x11) := B10.out.trans (k11.below (Nat.le_trans LW3.out (Nat.le_trans L34.out (Nat.le_of_lt L45.out))) B10.out.size)
    have KA11 : Hid (Blk x11 ga 36 [.int .i64 D.kind, .int .i64 D.id, .slice S.cn.a S.cn.n S.cn.c, .slice S.sn.a S.sn.n S.sn.c, .int .i64 D.tick, .slice S.cookie.a S.cookie.n S.cookie.c, .slice S.proof.a S.proof.n S.proof.c, .int .i64 D.epoch, .int .i64 D.seq, .slice S.body.a S.body.n S.body.c, .slice S.tag.a S.tag.n S.tag.c]) := KA10.out.keep (k11.block ga KA10.out.lt (.inl (Nat.lt_of_lt_of_le LA.out (Nat.le_trans L34.out (Nat.le_of_lt L45.out)))))
    clear o11 k11 OG10 OW10 B10 KA10
    have hm0 : ¬ ((1 : Int) + (mg : Int) < 0) := by omega
    have hmm : ((1 : Int) + (mg : Int) != 1 + (mg : Int)) = false := by simp
    go_wp2_with fail
    refine (heldB ⟨some ⟨gg, 0, none⟩, mg, cg⟩ 1 x11 OG11.out.rd hmg (by omega) (by omega)).mono ?_
    rintro e x12 ⟨rfl, rfl⟩
    have c0 := KA11.out.cell 0 rfl
    have c1 := KA11.out.cell 1 rfl
    have c2 := KA11.out.cell 2 rfl
    have c3 := KA11.out.cell 3 rfl
    have c4 := KA11.out.cell 4 rfl
    have c5 := KA11.out.cell 5 rfl
    have c6 := KA11.out.cell 6 rfl
    have c7 := KA11.out.cell 7 rfl
    have c8 := KA11.out.cell 8 rfl
    have c9 := KA11.out.cell 9 rfl
    have c10 := KA11.out.cell 10 rfl
    go_wp2_with fail
    refine (toFrame S D x11 (HR.out.later B11.out) HL.out).mono ?_
    rintro e x12 ⟨S4, rfl, o12, b12⟩
    have R12 : Hid (FrRd x12 S4 D) := o12.rd
    have OG12 : Hid (SOwn x12 x5.heap.size x6.heap.size ⟨some ⟨gg, 0, none⟩, mg, cg⟩ (marks 1 mg)) := OG11.out.carry (Kept.of_below b12 _) (.inl (Nat.le_refl _))
    have OW12 : Hid (SOwn x12 x2.heap.size x3.heap.size ⟨some ⟨gw, 0, none⟩, mw, cw⟩ v) := OW11.out.carry (Kept.of_below b12 _) (.inl (Nat.le_refl _))
    have B12 : Hid (Below w.heap.size w x12) := B11.out.trans (b12.mono B11.out.size)
    clear o12 b12 OG11 OW11 B11 KA11 c0 c1 c2 c3 c4 c5 c6 c7 c8 c9 c10
    go_wp2_with fail
    refine (implPutFrame S4 D x12 R12.out).mono ?_
    rw [HV.out]
    rintro e x13 ⟨gh, mh, ch, rfl, eh, kh, rh, b13⟩
    have OH13 : Hid (SOwn x13 x12.heap.size x13.heap.size ⟨some ⟨gh, 0, none⟩, mh, ch⟩ v) := SOwn.row rh eh HVB.out kh rh.lt
    have OG13 : Hid (SOwn x13 x5.heap.size x6.heap.size ⟨some ⟨gg, 0, none⟩, mg, cg⟩ (marks 1 mg)) := OG12.out.carry (Kept.of_below b13 _) (.inl (Nat.le_refl _))
    have OW13 : Hid (SOwn x13 x2.heap.size x3.heap.size ⟨some ⟨gw, 0, none⟩, mw, cw⟩ v) := OW12.out.carry (Kept.of_below b13 _) (.inl (Nat.le_refl _))
    have B13 : Hid (Below w.heap.size w x13) := B12.out.trans (b13.mono B12.out.size)
    clear eh kh rh b13 OG12 OW12 B12 R12
    go_wp2_with fail
    refine (eqB ⟨some ⟨gh, 0, none⟩, mh, ch⟩ ⟨some ⟨gw, 0, none⟩, mw, cw⟩ v v x13 OH13.out.rd OW13.out.rd HVL.out HVL.out).mono ?_
    rw [decide_eq_true (show v = v from rfl)]
    rintro e x14 ⟨rfl, b14⟩
    have OG14 : Hid (SOwn x14 x5.heap.size x6.heap.size ⟨some ⟨gg, 0, none⟩, mg, cg⟩ (marks 1 mg)) := OG13.out.carry (Kept.of_below b14 _) (.inl (Nat.le_refl _))
    have B14 : Hid (Below w.heap.size w x14) := B13.out.trans (b14.mono B13.out.size)
    clear b14 OG13 B13
    go_wp2_with fail
    refine (heldB ⟨some ⟨gg, 0, none⟩, mg, cg⟩ 1 x14 OG14.out.rd hmg (by omega) (by omega)).mono ?_
    rintro e x15 ⟨rfl, rfl⟩
    go_wp2
    go_ret
    exact ⟨rfl, B14.out⟩
end Go.Proofs.Ytfapehmbecgjaaa.LawPutFrame
