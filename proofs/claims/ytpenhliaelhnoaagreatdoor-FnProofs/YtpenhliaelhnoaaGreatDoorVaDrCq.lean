/-
  What spec.l7Copy answers: the frame, in memory of its own, no two lists in one block.
-/
import Derived.Test.YtpenhliaelhnoaaGreatDoorVaDrCp
import Derived.Test.YtpenhliaelhnoaaGreatDoorVaGz16
import Derived.Test.YtpenhliaelhnoaaGreatDoorVaGz6
import Derived.Test.YtpenhliaelhnoaaGreatDoorVaGz1
import Derived.Test.YtpenhliaelhnoaaGreatDoorVaGz7
set_option maxRecDepth 100000
namespace Go.Proofs.YtpenhliaelhnoaaGreatDoor.DrCq
open Go.RowKit Mem App Blk Zone Res FrZ FrL DrCp
theorem ne {w : World} {lo hi lo' hi' : Nat} {s t : Sl} {l k : List Int} (h : SOwn w lo hi s l) (h' : SOwn w lo' hi' t k) (d : hi ≤ lo') : s.a = none ∨ s.a ≠ t.a := by
 rcases h.2 with ⟨e, _⟩ | ⟨g, e, _, h1, h2, _⟩
 ·
  exact .inl (by rw [e])
 ·
  right
  rcases h'.2 with ⟨e', _⟩ | ⟨g', e', _, h1', h2', _⟩
  ·
   rw [e, e']; nofun
  ·
   rw [e, e']; intro hh; cases hh; omega
theorem own_of {w : World} {lo hi : Nat} {S : FrS} {D : FrD} (h : FrIn w lo hi S D) (a : FrApart S) : FrOwn w lo hi S D := ⟨h.cn, h.sn, h.cookie, h.proof, h.body, h.tag, a⟩
set_option maxHeartbeats 8000000 in
theorem l7CopyOwn (S : FrS) (D : FrD) (w : World) (h : FrRd w S D) (hl : FrShort D 1000) :
  Calls Tryz.prog 36 #[frV D S] w fun e w' => ∃ S2, e = .returned (frV D S2) ∧ FrOwn w' w.heap.size w'.heap.size S2 D ∧ Below w.heap.size w w' := by
 have HR := hid (h)
 have HL := hid (hl)
 clear h hl
 obtain ⟨x1, hx1⟩ : ∃ zz, (w.alloc (.cells #[.int .i64 D.kind, .int .i64 D.id, .slice S.cn.a S.cn.n S.cn.c, .slice S.sn.a S.sn.n S.sn.c, .int .i64 D.tick, .slice S.cookie.a S.cookie.n S.cookie.c, .slice S.proof.a S.proof.n S.proof.c, .int .i64 D.epoch, .int .i64 D.seq, .slice S.body.a S.body.n S.body.c, .slice S.tag.a S.tag.n S.tag.c] 25)).alloc (.cells #[.int .i64 0, .int .i64 0, .slice none 0 0, .slice none 0 0, .int .i64 0, .slice none 0 0, .slice none 0 0, .int .i64 0, .int .i64 0, .slice none 0 0, .slice none 0 0] 25) = zz := ⟨_, rfl⟩
 have HW0 := hid (hx1)
 have b1 : Below w.heap.size w x1 := by rw [← hx1]; exact ((Below.refl _ _).alloc (Nat.le_refl _) _).alloc (by simp) _
 have KNa : Blk x1 w.heap.size 25 [.int .i64 D.kind, .int .i64 D.id, .slice S.cn.a S.cn.n S.cn.c, .slice S.sn.a S.sn.n S.sn.c, .int .i64 D.tick, .slice S.cookie.a S.cookie.n S.cookie.c, .slice S.proof.a S.proof.n S.proof.c, .int .i64 D.epoch, .int .i64 D.seq, .slice S.body.a S.body.n S.body.c, .slice S.tag.a S.tag.n S.tag.c] := by rw [← hx1]; exact (Blk.new w _ _).alloc _
 have KNo : Blk x1 (w.heap.size + 1) 25 [.int .i64 0, .int .i64 0, .slice none 0 0, .slice none 0 0, .int .i64 0, .slice none 0 0, .slice none 0 0, .int .i64 0, .int .i64 0, .slice none 0 0, .slice none 0 0] := by
  have q := Blk.new (w.alloc (.cells #[.int .i64 D.kind, .int .i64 D.id, .slice S.cn.a S.cn.n S.cn.c, .slice S.sn.a S.sn.n S.sn.c, .int .i64 D.tick, .slice S.cookie.a S.cookie.n S.cookie.c, .slice S.proof.a S.proof.n S.proof.c, .int .i64 D.epoch, .int .i64 D.seq, .slice S.body.a S.body.n S.body.c, .slice S.tag.a S.tag.n S.tag.c] 25)) 25 [.int .i64 0, .int .i64 0, .slice none 0 0, .slice none 0 0, .int .i64 0, .slice none 0 0, .slice none 0 0, .int .i64 0, .int .i64 0, .slice none 0 0, .slice none 0 0]
  rw [World.size_alloc] at q
  rw [← hx1]; exact q
 have SZ1 : x1.heap.size = w.heap.size + 2 := by rw [← hx1]; simp
 clear hx1
 have L1 := hid (b1.size)
 have B1 := hid (b1)
 clear b1
 unfold frV
 go_enter Tryz.func36, Tryz.ntmps36
 go_upto_region 1 with fail
 rw [HW0.out]
 obtain ⟨ga, hga⟩ : ∃ g, w.heap.size = g := ⟨_, rfl⟩
 obtain ⟨go, hgo⟩ : ∃ g, w.heap.size + 1 = g := ⟨_, rfl⟩
 have Gga : Hid (w.heap.size = ga ∧ ga + 1 = go ∧ x1.heap.size = ga + 2) := ⟨hga, by omega, by omega⟩
 rw [hga] at KNa
 rw [hgo] at KNo
 rw [hgo, hga]
 clear HW0 SZ1 hga hgo
 have KA1 := hid (KNa)
 have KO1 := hid (KNo)
 clear KNa KNo
 have ca := KA1.out.cell 2 rfl
 have cb := (KA1.out.alloc (.cells #[] 5)).cell 2 rfl
 have HRx := hid ((HR.out.later B1.out).cn)
 go_upto_region 2 with (at_builtin; refine wpList_cp x1 rfl (.tmp 3) (.tmp 5) rfl rfl S.cn D.cn rfl HRx.out (by have := HL.out.cn; omega) ?_; intro gcn ccn x2 rr kk b; have KAy := hid (KA1.out.later b); have co := KAy.out.cell 2 rfl; have fo := KAy.out.frozen 2)
 have oN : SOwn x2 x1.heap.size x2.heap.size ⟨some ⟨gcn, 0, none⟩, S.cn.n, ccn⟩ D.cn := SOwn.row rr HRx.out.len HRx.out.bytes kk rr.lt
 clear rr kk ca cb HRx KAy
 have L2 := hid (b.size)
 have B2 := hid (B1.out.trans (b.mono B1.out.size))
 have KA2 := hid (KA1.out.later b)
 have KO2 := hid (KO1.out.later b)
 clear b B1 KA1 KO1
 have Ocn2 := hid (oN)
 clear oN
 obtain ⟨x3, hx3⟩ : ∃ x3, x2.setCell ⟨ga, 2, none⟩ (.slice (some ⟨gcn, 0, none⟩) S.cn.n ccn) = x3 := ⟨_, rfl⟩
 have HW3 := hid (hx3)
 have L3 : Hid (x3.heap.size = x2.heap.size) := by rw [← hx3]; show _ = _; simp
 have B3 : Hid (Below w.heap.size w x3) := by rw [← hx3]; exact B2.out.setCell (by show _ ≤ ga; have := hid3 L1 Gga L2; omega) _
 have KA3 : Hid (Blk x3 ga 25 [.int .i64 D.kind, .int .i64 D.id, .slice (some ⟨gcn, 0, none⟩) S.cn.n ccn, .slice S.sn.a S.sn.n S.sn.c, .int .i64 D.tick, .slice S.cookie.a S.cookie.n S.cookie.c, .slice S.proof.a S.proof.n S.proof.c, .int .i64 D.epoch, .int .i64 D.seq, .slice S.body.a S.body.n S.body.c, .slice S.tag.a S.tag.n S.tag.c]) := by rw [← hx3]; exact KA2.out.set 2 _ (by simp [maxLen])
 have KO3 : Hid (Blk x3 go 25 [.int .i64 0, .int .i64 0, .slice none 0 0, .slice none 0 0, .int .i64 0, .slice none 0 0, .slice none 0 0, .int .i64 0, .int .i64 0, .slice none 0 0, .slice none 0 0]) := by rw [← hx3]; exact KO2.out.other (by show go ≠ ga; have := hid3 L1 Gga L2; omega) _
 have Ocn3 : Hid (SOwn x3 x1.heap.size x2.heap.size ⟨some ⟨gcn, 0, none⟩, S.cn.n, ccn⟩ D.cn) := by rw [← hx3]; exact Ocn2.out.carry (Kept.setCell _ _ _ _) (by have := hid3 L1 Gga L2; omega)
 clear hx3 B2 KA2 KO2 Ocn2
 rw [HW3.out]
 clear HW3 co fo
 have ca := KA3.out.cell 3 rfl
 have cb := (KA3.out.alloc (.cells #[] 5)).cell 3 rfl
 have HRx := hid ((HR.out.later B3.out).sn)
 go_upto_region 3 with (at_builtin; refine wpList_cp x3 rfl (.tmp 8) (.tmp 10) rfl rfl S.sn D.sn rfl HRx.out (by have := HL.out.sn; omega) ?_; intro gsn csn x4 rr kk b; have KAy := hid (KA3.out.later b); have co := KAy.out.cell 3 rfl; have fo := KAy.out.frozen 3)
 have oN : SOwn x4 x3.heap.size x4.heap.size ⟨some ⟨gsn, 0, none⟩, S.sn.n, csn⟩ D.sn := SOwn.row rr HRx.out.len HRx.out.bytes kk rr.lt
 clear rr kk ca cb HRx KAy
 have L4 := hid (b.size)
 have B4 := hid (B3.out.trans (b.mono B3.out.size))
 have KA4 := hid (KA3.out.later b)
 have KO4 := hid (KO3.out.later b)
 have Ocn4 := hid (Ocn3.out.later b)
 clear b B3 KA3 KO3 Ocn3
 have Osn4 := hid (oN)
 clear oN
 obtain ⟨x5, hx5⟩ : ∃ x5, x4.setCell ⟨ga, 3, none⟩ (.slice (some ⟨gsn, 0, none⟩) S.sn.n csn) = x5 := ⟨_, rfl⟩
 have HW5 := hid (hx5)
 have L5 : Hid (x5.heap.size = x4.heap.size) := by rw [← hx5]; show _ = _; simp
 have B5 : Hid (Below w.heap.size w x5) := by rw [← hx5]; exact B4.out.setCell (by show _ ≤ ga; have := hid5 L1 Gga L2 L3 L4; omega) _
 have KA5 : Hid (Blk x5 ga 25 [.int .i64 D.kind, .int .i64 D.id, .slice (some ⟨gcn, 0, none⟩) S.cn.n ccn, .slice (some ⟨gsn, 0, none⟩) S.sn.n csn, .int .i64 D.tick, .slice S.cookie.a S.cookie.n S.cookie.c, .slice S.proof.a S.proof.n S.proof.c, .int .i64 D.epoch, .int .i64 D.seq, .slice S.body.a S.body.n S.body.c, .slice S.tag.a S.tag.n S.tag.c]) := by rw [← hx5]; exact KA4.out.set 3 _ (by simp [maxLen])
 have KO5 : Hid (Blk x5 go 25 [.int .i64 0, .int .i64 0, .slice none 0 0, .slice none 0 0, .int .i64 0, .slice none 0 0, .slice none 0 0, .int .i64 0, .int .i64 0, .slice none 0 0, .slice none 0 0]) := by rw [← hx5]; exact KO4.out.other (by show go ≠ ga; have := hid5 L1 Gga L2 L3 L4; omega) _
 have Ocn5 : Hid (SOwn x5 x1.heap.size x2.heap.size ⟨some ⟨gcn, 0, none⟩, S.cn.n, ccn⟩ D.cn) := by rw [← hx5]; exact Ocn4.out.carry (Kept.setCell _ _ _ _) (by have := hid5 L1 Gga L2 L3 L4; omega)
 have Osn5 : Hid (SOwn x5 x3.heap.size x4.heap.size ⟨some ⟨gsn, 0, none⟩, S.sn.n, csn⟩ D.sn) := by rw [← hx5]; exact Osn4.out.carry (Kept.setCell _ _ _ _) (by have := hid5 L1 Gga L2 L3 L4; omega)
 clear hx5 B4 KA4 KO4 Ocn4 Osn4
 rw [HW5.out]
 clear HW5 co fo
 have ca := KA5.out.cell 5 rfl
 have cb := (KA5.out.alloc (.cells #[] 5)).cell 5 rfl
 have HRx := hid ((HR.out.later B5.out).cookie)
 go_upto_region 4 with (at_builtin; refine wpList_cp x5 rfl (.tmp 13) (.tmp 15) rfl rfl S.cookie D.cookie rfl HRx.out (by have := HL.out.cookie; omega) ?_; intro gcookie ccookie x6 rr kk b; have KAy := hid (KA5.out.later b); have co := KAy.out.cell 5 rfl; have fo := KAy.out.frozen 5)
 have oN : SOwn x6 x5.heap.size x6.heap.size ⟨some ⟨gcookie, 0, none⟩, S.cookie.n, ccookie⟩ D.cookie := SOwn.row rr HRx.out.len HRx.out.bytes kk rr.lt
 clear rr kk ca cb HRx KAy
 have L6 := hid (b.size)
 have B6 := hid (B5.out.trans (b.mono B5.out.size))
 have KA6 := hid (KA5.out.later b)
 have KO6 := hid (KO5.out.later b)
 have Ocn6 := hid (Ocn5.out.later b)
 have Osn6 := hid (Osn5.out.later b)
 clear b B5 KA5 KO5 Ocn5 Osn5
 have Ocookie6 := hid (oN)
 clear oN
 obtain ⟨x7, hx7⟩ : ∃ x7, x6.setCell ⟨ga, 5, none⟩ (.slice (some ⟨gcookie, 0, none⟩) S.cookie.n ccookie) = x7 := ⟨_, rfl⟩
 have HW7 := hid (hx7)
 have L7 : Hid (x7.heap.size = x6.heap.size) := by rw [← hx7]; show _ = _; simp
 have B7 : Hid (Below w.heap.size w x7) := by rw [← hx7]; exact B6.out.setCell (by show _ ≤ ga; have := hid7 L1 Gga L2 L3 L4 L5 L6; omega) _
 have KA7 : Hid (Blk x7 ga 25 [.int .i64 D.kind, .int .i64 D.id, .slice (some ⟨gcn, 0, none⟩) S.cn.n ccn, .slice (some ⟨gsn, 0, none⟩) S.sn.n csn, .int .i64 D.tick, .slice (some ⟨gcookie, 0, none⟩) S.cookie.n ccookie, .slice S.proof.a S.proof.n S.proof.c, .int .i64 D.epoch, .int .i64 D.seq, .slice S.body.a S.body.n S.body.c, .slice S.tag.a S.tag.n S.tag.c]) := by rw [← hx7]; exact KA6.out.set 5 _ (by simp [maxLen])
 have KO7 : Hid (Blk x7 go 25 [.int .i64 0, .int .i64 0, .slice none 0 0, .slice none 0 0, .int .i64 0, .slice none 0 0, .slice none 0 0, .int .i64 0, .int .i64 0, .slice none 0 0, .slice none 0 0]) := by rw [← hx7]; exact KO6.out.other (by show go ≠ ga; have := hid7 L1 Gga L2 L3 L4 L5 L6; omega) _
 have Ocn7 : Hid (SOwn x7 x1.heap.size x2.heap.size ⟨some ⟨gcn, 0, none⟩, S.cn.n, ccn⟩ D.cn) := by rw [← hx7]; exact Ocn6.out.carry (Kept.setCell _ _ _ _) (by have := hid7 L1 Gga L2 L3 L4 L5 L6; omega)
 have Osn7 : Hid (SOwn x7 x3.heap.size x4.heap.size ⟨some ⟨gsn, 0, none⟩, S.sn.n, csn⟩ D.sn) := by rw [← hx7]; exact Osn6.out.carry (Kept.setCell _ _ _ _) (by have := hid7 L1 Gga L2 L3 L4 L5 L6; omega)
 have Ocookie7 : Hid (SOwn x7 x5.heap.size x6.heap.size ⟨some ⟨gcookie, 0, none⟩, S.cookie.n, ccookie⟩ D.cookie) := by rw [← hx7]; exact Ocookie6.out.carry (Kept.setCell _ _ _ _) (by have := hid7 L1 Gga L2 L3 L4 L5 L6; omega)
 clear hx7 B6 KA6 KO6 Ocn6 Osn6 Ocookie6
 rw [HW7.out]
 clear HW7 co fo
 have ca := KA7.out.cell 6 rfl
 have cb := (KA7.out.alloc (.cells #[] 5)).cell 6 rfl
 have HRx := hid ((HR.out.later B7.out).proof)
 go_upto_region 5 with (at_builtin; refine wpList_cp x7 rfl (.tmp 18) (.tmp 20) rfl rfl S.proof D.proof rfl HRx.out (by have := HL.out.proof; omega) ?_; intro gproof cproof x8 rr kk b; have KAy := hid (KA7.out.later b); have co := KAy.out.cell 6 rfl; have fo := KAy.out.frozen 6)
 have oN : SOwn x8 x7.heap.size x8.heap.size ⟨some ⟨gproof, 0, none⟩, S.proof.n, cproof⟩ D.proof := SOwn.row rr HRx.out.len HRx.out.bytes kk rr.lt
 clear rr kk ca cb HRx KAy
 have L8 := hid (b.size)
 have B8 := hid (B7.out.trans (b.mono B7.out.size))
 have KA8 := hid (KA7.out.later b)
 have KO8 := hid (KO7.out.later b)
 have Ocn8 := hid (Ocn7.out.later b)
 have Osn8 := hid (Osn7.out.later b)
 have Ocookie8 := hid (Ocookie7.out.later b)
 clear b B7 KA7 KO7 Ocn7 Osn7 Ocookie7
 have Oproof8 := hid (oN)
 clear oN
 obtain ⟨x9, hx9⟩ : ∃ x9, x8.setCell ⟨ga, 6, none⟩ (.slice (some ⟨gproof, 0, none⟩) S.proof.n cproof) = x9 := ⟨_, rfl⟩
 have HW9 := hid (hx9)
 have L9 : Hid (x9.heap.size = x8.heap.size) := by rw [← hx9]; show _ = _; simp
 have B9 : Hid (Below w.heap.size w x9) := by rw [← hx9]; exact B8.out.setCell (by show _ ≤ ga; have := hid8 L1 Gga L2 L3 L4 L5 L6 L7; have := L8.out; omega) _
 have KA9 : Hid (Blk x9 ga 25 [.int .i64 D.kind, .int .i64 D.id, .slice (some ⟨gcn, 0, none⟩) S.cn.n ccn, .slice (some ⟨gsn, 0, none⟩) S.sn.n csn, .int .i64 D.tick, .slice (some ⟨gcookie, 0, none⟩) S.cookie.n ccookie, .slice (some ⟨gproof, 0, none⟩) S.proof.n cproof, .int .i64 D.epoch, .int .i64 D.seq, .slice S.body.a S.body.n S.body.c, .slice S.tag.a S.tag.n S.tag.c]) := by rw [← hx9]; exact KA8.out.set 6 _ (by simp [maxLen])
 have KO9 : Hid (Blk x9 go 25 [.int .i64 0, .int .i64 0, .slice none 0 0, .slice none 0 0, .int .i64 0, .slice none 0 0, .slice none 0 0, .int .i64 0, .int .i64 0, .slice none 0 0, .slice none 0 0]) := by rw [← hx9]; exact KO8.out.other (by show go ≠ ga; have := hid8 L1 Gga L2 L3 L4 L5 L6 L7; have := L8.out; omega) _
 have Ocn9 : Hid (SOwn x9 x1.heap.size x2.heap.size ⟨some ⟨gcn, 0, none⟩, S.cn.n, ccn⟩ D.cn) := by rw [← hx9]; exact Ocn8.out.carry (Kept.setCell _ _ _ _) (by have := hid8 L1 Gga L2 L3 L4 L5 L6 L7; have := L8.out; omega)
 have Osn9 : Hid (SOwn x9 x3.heap.size x4.heap.size ⟨some ⟨gsn, 0, none⟩, S.sn.n, csn⟩ D.sn) := by rw [← hx9]; exact Osn8.out.carry (Kept.setCell _ _ _ _) (by have := hid8 L1 Gga L2 L3 L4 L5 L6 L7; have := L8.out; omega)
 have Ocookie9 : Hid (SOwn x9 x5.heap.size x6.heap.size ⟨some ⟨gcookie, 0, none⟩, S.cookie.n, ccookie⟩ D.cookie) := by rw [← hx9]; exact Ocookie8.out.carry (Kept.setCell _ _ _ _) (by have := hid8 L1 Gga L2 L3 L4 L5 L6 L7; have := L8.out; omega)
 have Oproof9 : Hid (SOwn x9 x7.heap.size x8.heap.size ⟨some ⟨gproof, 0, none⟩, S.proof.n, cproof⟩ D.proof) := by rw [← hx9]; exact Oproof8.out.carry (Kept.setCell _ _ _ _) (by have := hid8 L1 Gga L2 L3 L4 L5 L6 L7; have := L8.out; omega)
 clear hx9 B8 KA8 KO8 Ocn8 Osn8 Ocookie8 Oproof8
 rw [HW9.out]
 clear HW9 co fo
 have ca := KA9.out.cell 9 rfl
 have cb := (KA9.out.alloc (.cells #[] 5)).cell 9 rfl
 have HRx := hid ((HR.out.later B9.out).body)
 go_upto_region 6 with (at_builtin; refine wpList_cp x9 rfl (.tmp 23) (.tmp 25) rfl rfl S.body D.body rfl HRx.out (by have := HL.out.body; omega) ?_; intro gbody cbody x10 rr kk b; have KAy := hid (KA9.out.later b); have co := KAy.out.cell 9 rfl; have fo := KAy.out.frozen 9)
 have oN : SOwn x10 x9.heap.size x10.heap.size ⟨some ⟨gbody, 0, none⟩, S.body.n, cbody⟩ D.body := SOwn.row rr HRx.out.len HRx.out.bytes kk rr.lt
 clear rr kk ca cb HRx KAy
 have L10 := hid (b.size)
 have B10 := hid (B9.out.trans (b.mono B9.out.size))
 have KA10 := hid (KA9.out.later b)
 have KO10 := hid (KO9.out.later b)
 have Ocn10 := hid (Ocn9.out.later b)
 have Osn10 := hid (Osn9.out.later b)
 have Ocookie10 := hid (Ocookie9.out.later b)
 have Oproof10 := hid (Oproof9.out.later b)
 clear b B9 KA9 KO9 Ocn9 Osn9 Ocookie9 Oproof9
 have Obody10 := hid (oN)
 clear oN
 obtain ⟨x11, hx11⟩ : ∃ x11, x10.setCell ⟨ga, 9, none⟩ (.slice (some ⟨gbody, 0, none⟩) S.body.n cbody) = x11 := ⟨_, rfl⟩
 have HW11 := hid (hx11)
 have L11 : Hid (x11.heap.size = x10.heap.size) := by rw [← hx11]; show _ = _; simp
 have B11 : Hid (Below w.heap.size w x11) := by rw [← hx11]; exact B10.out.setCell (by show _ ≤ ga; have := hid8 L1 Gga L2 L3 L4 L5 L6 L7; have := hid3 L8 L9 L10; omega) _
 have KA11 : Hid (Blk x11 ga 25 [.int .i64 D.kind, .int .i64 D.id, .slice (some ⟨gcn, 0, none⟩) S.cn.n ccn, .slice (some ⟨gsn, 0, none⟩) S.sn.n csn, .int .i64 D.tick, .slice (some ⟨gcookie, 0, none⟩) S.cookie.n ccookie, .slice (some ⟨gproof, 0, none⟩) S.proof.n cproof, .int .i64 D.epoch, .int .i64 D.seq, .slice (some ⟨gbody, 0, none⟩) S.body.n cbody, .slice S.tag.a S.tag.n S.tag.c]) := by rw [← hx11]; exact KA10.out.set 9 _ (by simp [maxLen])
 have KO11 : Hid (Blk x11 go 25 [.int .i64 0, .int .i64 0, .slice none 0 0, .slice none 0 0, .int .i64 0, .slice none 0 0, .slice none 0 0, .int .i64 0, .int .i64 0, .slice none 0 0, .slice none 0 0]) := by rw [← hx11]; exact KO10.out.other (by show go ≠ ga; have := hid8 L1 Gga L2 L3 L4 L5 L6 L7; have := hid3 L8 L9 L10; omega) _
 have Ocn11 : Hid (SOwn x11 x1.heap.size x2.heap.size ⟨some ⟨gcn, 0, none⟩, S.cn.n, ccn⟩ D.cn) := by rw [← hx11]; exact Ocn10.out.carry (Kept.setCell _ _ _ _) (by have := hid8 L1 Gga L2 L3 L4 L5 L6 L7; have := hid3 L8 L9 L10; omega)
 have Osn11 : Hid (SOwn x11 x3.heap.size x4.heap.size ⟨some ⟨gsn, 0, none⟩, S.sn.n, csn⟩ D.sn) := by rw [← hx11]; exact Osn10.out.carry (Kept.setCell _ _ _ _) (by have := hid8 L1 Gga L2 L3 L4 L5 L6 L7; have := hid3 L8 L9 L10; omega)
 have Ocookie11 : Hid (SOwn x11 x5.heap.size x6.heap.size ⟨some ⟨gcookie, 0, none⟩, S.cookie.n, ccookie⟩ D.cookie) := by rw [← hx11]; exact Ocookie10.out.carry (Kept.setCell _ _ _ _) (by have := hid8 L1 Gga L2 L3 L4 L5 L6 L7; have := hid3 L8 L9 L10; omega)
 have Oproof11 : Hid (SOwn x11 x7.heap.size x8.heap.size ⟨some ⟨gproof, 0, none⟩, S.proof.n, cproof⟩ D.proof) := by rw [← hx11]; exact Oproof10.out.carry (Kept.setCell _ _ _ _) (by have := hid8 L1 Gga L2 L3 L4 L5 L6 L7; have := hid3 L8 L9 L10; omega)
 have Obody11 : Hid (SOwn x11 x9.heap.size x10.heap.size ⟨some ⟨gbody, 0, none⟩, S.body.n, cbody⟩ D.body) := by rw [← hx11]; exact Obody10.out.carry (Kept.setCell _ _ _ _) (by have := hid8 L1 Gga L2 L3 L4 L5 L6 L7; have := hid3 L8 L9 L10; omega)
 clear hx11 B10 KA10 KO10 Ocn10 Osn10 Ocookie10 Oproof10 Obody10
 rw [HW11.out]
 clear HW11 co fo
 have ca := KA11.out.cell 10 rfl
 have cb := (KA11.out.alloc (.cells #[] 5)).cell 10 rfl
 have HRx := hid ((HR.out.later B11.out).tag)
 go_upto_region 7 with (at_builtin; refine wpList_cp x11 rfl (.tmp 28) (.tmp 30) rfl rfl S.tag D.tag rfl HRx.out (by have := HL.out.tag; omega) ?_; intro gtag ctag x12 rr kk b; have KAy := hid (KA11.out.later b); have co := KAy.out.cell 10 rfl; have fo := KAy.out.frozen 10)
 have oN : SOwn x12 x11.heap.size x12.heap.size ⟨some ⟨gtag, 0, none⟩, S.tag.n, ctag⟩ D.tag := SOwn.row rr HRx.out.len HRx.out.bytes kk rr.lt
 clear rr kk ca cb HRx KAy
 have L12 := hid (b.size)
 have B12 := hid (B11.out.trans (b.mono B11.out.size))
 have KA12 := hid (KA11.out.later b)
 have KO12 := hid (KO11.out.later b)
 have Ocn12 := hid (Ocn11.out.later b)
 have Osn12 := hid (Osn11.out.later b)
 have Ocookie12 := hid (Ocookie11.out.later b)
 have Oproof12 := hid (Oproof11.out.later b)
 have Obody12 := hid (Obody11.out.later b)
 clear b B11 KA11 KO11 Ocn11 Osn11 Ocookie11 Oproof11 Obody11
 have Otag12 := hid (oN)
 clear oN
 obtain ⟨x13, hx13⟩ : ∃ x13, x12.setCell ⟨ga, 10, none⟩ (.slice (some ⟨gtag, 0, none⟩) S.tag.n ctag) = x13 := ⟨_, rfl⟩
 have HW13 := hid (hx13)
 have L13 : Hid (x13.heap.size = x12.heap.size) := by rw [← hx13]; show _ = _; simp
 have B13 : Hid (Below w.heap.size w x13) := by rw [← hx13]; exact B12.out.setCell (by show _ ≤ ga; have := hid8 L1 Gga L2 L3 L4 L5 L6 L7; have := hid5 L8 L9 L10 L11 L12; omega) _
 have KA13 : Hid (Blk x13 ga 25 [.int .i64 D.kind, .int .i64 D.id, .slice (some ⟨gcn, 0, none⟩) S.cn.n ccn, .slice (some ⟨gsn, 0, none⟩) S.sn.n csn, .int .i64 D.tick, .slice (some ⟨gcookie, 0, none⟩) S.cookie.n ccookie, .slice (some ⟨gproof, 0, none⟩) S.proof.n cproof, .int .i64 D.epoch, .int .i64 D.seq, .slice (some ⟨gbody, 0, none⟩) S.body.n cbody, .slice (some ⟨gtag, 0, none⟩) S.tag.n ctag]) := by rw [← hx13]; exact KA12.out.set 10 _ (by simp [maxLen])
 have KO13 : Hid (Blk x13 go 25 [.int .i64 0, .int .i64 0, .slice none 0 0, .slice none 0 0, .int .i64 0, .slice none 0 0, .slice none 0 0, .int .i64 0, .int .i64 0, .slice none 0 0, .slice none 0 0]) := by rw [← hx13]; exact KO12.out.other (by show go ≠ ga; have := hid8 L1 Gga L2 L3 L4 L5 L6 L7; have := hid5 L8 L9 L10 L11 L12; omega) _
 have Ocn13 : Hid (SOwn x13 x1.heap.size x2.heap.size ⟨some ⟨gcn, 0, none⟩, S.cn.n, ccn⟩ D.cn) := by rw [← hx13]; exact Ocn12.out.carry (Kept.setCell _ _ _ _) (by have := hid8 L1 Gga L2 L3 L4 L5 L6 L7; have := hid5 L8 L9 L10 L11 L12; omega)
 have Osn13 : Hid (SOwn x13 x3.heap.size x4.heap.size ⟨some ⟨gsn, 0, none⟩, S.sn.n, csn⟩ D.sn) := by rw [← hx13]; exact Osn12.out.carry (Kept.setCell _ _ _ _) (by have := hid8 L1 Gga L2 L3 L4 L5 L6 L7; have := hid5 L8 L9 L10 L11 L12; omega)
 have Ocookie13 : Hid (SOwn x13 x5.heap.size x6.heap.size ⟨some ⟨gcookie, 0, none⟩, S.cookie.n, ccookie⟩ D.cookie) := by rw [← hx13]; exact Ocookie12.out.carry (Kept.setCell _ _ _ _) (by have := hid8 L1 Gga L2 L3 L4 L5 L6 L7; have := hid5 L8 L9 L10 L11 L12; omega)
 have Oproof13 : Hid (SOwn x13 x7.heap.size x8.heap.size ⟨some ⟨gproof, 0, none⟩, S.proof.n, cproof⟩ D.proof) := by rw [← hx13]; exact Oproof12.out.carry (Kept.setCell _ _ _ _) (by have := hid8 L1 Gga L2 L3 L4 L5 L6 L7; have := hid5 L8 L9 L10 L11 L12; omega)
 have Obody13 : Hid (SOwn x13 x9.heap.size x10.heap.size ⟨some ⟨gbody, 0, none⟩, S.body.n, cbody⟩ D.body) := by rw [← hx13]; exact Obody12.out.carry (Kept.setCell _ _ _ _) (by have := hid8 L1 Gga L2 L3 L4 L5 L6 L7; have := hid5 L8 L9 L10 L11 L12; omega)
 have Otag13 : Hid (SOwn x13 x11.heap.size x12.heap.size ⟨some ⟨gtag, 0, none⟩, S.tag.n, ctag⟩ D.tag) := by rw [← hx13]; exact Otag12.out.carry (Kept.setCell _ _ _ _) (by have := hid8 L1 Gga L2 L3 L4 L5 L6 L7; have := hid5 L8 L9 L10 L11 L12; omega)
 clear hx13 B12 KA12 KO12 Ocn12 Osn12 Ocookie12 Oproof12 Obody12 Otag12
 rw [HW13.out]
 clear HW13 co fo
 obtain ⟨S2, hS2⟩ : ∃ z : FrS, z = ⟨⟨some ⟨gcn, 0, none⟩, S.cn.n, ccn⟩, ⟨some ⟨gsn, 0, none⟩, S.sn.n, csn⟩, ⟨some ⟨gcookie, 0, none⟩, S.cookie.n, ccookie⟩, ⟨some ⟨gproof, 0, none⟩, S.proof.n, cproof⟩, ⟨some ⟨gbody, 0, none⟩, S.body.n, cbody⟩, ⟨some ⟨gtag, 0, none⟩, S.tag.n, ctag⟩⟩ := ⟨_, rfl⟩
 have KA2 : Hid (Blk x13 ga 25 [.int .i64 D.kind, .int .i64 D.id, .slice S2.cn.a S2.cn.n S2.cn.c, .slice S2.sn.a S2.sn.n S2.sn.c, .int .i64 D.tick, .slice S2.cookie.a S2.cookie.n S2.cookie.c, .slice S2.proof.a S2.proof.n S2.proof.c, .int .i64 D.epoch, .int .i64 D.seq, .slice S2.body.a S2.body.n S2.body.c, .slice S2.tag.a S2.tag.n S2.tag.c]) := by rw [hS2]; exact KA13.out
 have OI : Hid (FrIn x13 x1.heap.size x12.heap.size S2 D) := by rw [hS2]; exact ⟨Ocn13.out.mono (by have := hid8 L1 Gga L2 L3 L4 L5 L6 L7; have := hid6 L8 L9 L10 L11 L12 L13; omega) (by have := hid8 L1 Gga L2 L3 L4 L5 L6 L7; have := hid6 L8 L9 L10 L11 L12 L13; omega), Osn13.out.mono (by have := hid8 L1 Gga L2 L3 L4 L5 L6 L7; have := hid6 L8 L9 L10 L11 L12 L13; omega) (by have := hid8 L1 Gga L2 L3 L4 L5 L6 L7; have := hid6 L8 L9 L10 L11 L12 L13; omega), Ocookie13.out.mono (by have := hid8 L1 Gga L2 L3 L4 L5 L6 L7; have := hid6 L8 L9 L10 L11 L12 L13; omega) (by have := hid8 L1 Gga L2 L3 L4 L5 L6 L7; have := hid6 L8 L9 L10 L11 L12 L13; omega), Oproof13.out.mono (by have := hid8 L1 Gga L2 L3 L4 L5 L6 L7; have := hid6 L8 L9 L10 L11 L12 L13; omega) (by have := hid8 L1 Gga L2 L3 L4 L5 L6 L7; have := hid6 L8 L9 L10 L11 L12 L13; omega), Obody13.out.mono (by have := hid8 L1 Gga L2 L3 L4 L5 L6 L7; have := hid6 L8 L9 L10 L11 L12 L13; omega) (by have := hid8 L1 Gga L2 L3 L4 L5 L6 L7; have := hid6 L8 L9 L10 L11 L12 L13; omega), Otag13.out.mono (by have := hid8 L1 Gga L2 L3 L4 L5 L6 L7; have := hid6 L8 L9 L10 L11 L12 L13; omega) (by have := hid8 L1 Gga L2 L3 L4 L5 L6 L7; have := hid6 L8 L9 L10 L11 L12 L13; omega)⟩
 have HAp : Hid (FrApart S2) := by
  rw [hS2]
  exact ⟨ne Ocn13.out Osn13.out (by have := hid8 L1 L2 L3 L4 L5 L6 L7 L8; have := hid5 L9 L10 L11 L12 L13; omega), ne Ocn13.out Ocookie13.out (by have := hid8 L1 L2 L3 L4 L5 L6 L7 L8; have := hid5 L9 L10 L11 L12 L13; omega), ne Ocn13.out Oproof13.out (by have := hid8 L1 L2 L3 L4 L5 L6 L7 L8; have := hid5 L9 L10 L11 L12 L13; omega), ne Ocn13.out Obody13.out (by have := hid8 L1 L2 L3 L4 L5 L6 L7 L8; have := hid5 L9 L10 L11 L12 L13; omega), ne Ocn13.out Otag13.out (by have := hid8 L1 L2 L3 L4 L5 L6 L7 L8; have := hid5 L9 L10 L11 L12 L13; omega), ne Osn13.out Ocookie13.out (by have := hid8 L1 L2 L3 L4 L5 L6 L7 L8; have := hid5 L9 L10 L11 L12 L13; omega), ne Osn13.out Oproof13.out (by have := hid8 L1 L2 L3 L4 L5 L6 L7 L8; have := hid5 L9 L10 L11 L12 L13; omega), ne Osn13.out Obody13.out (by have := hid8 L1 L2 L3 L4 L5 L6 L7 L8; have := hid5 L9 L10 L11 L12 L13; omega), ne Osn13.out Otag13.out (by have := hid8 L1 L2 L3 L4 L5 L6 L7 L8; have := hid5 L9 L10 L11 L12 L13; omega), ne Ocookie13.out Oproof13.out (by have := hid8 L1 L2 L3 L4 L5 L6 L7 L8; have := hid5 L9 L10 L11 L12 L13; omega), ne Ocookie13.out Obody13.out (by have := hid8 L1 L2 L3 L4 L5 L6 L7 L8; have := hid5 L9 L10 L11 L12 L13; omega), ne Ocookie13.out Otag13.out (by have := hid8 L1 L2 L3 L4 L5 L6 L7 L8; have := hid5 L9 L10 L11 L12 L13; omega), ne Oproof13.out Obody13.out (by have := hid8 L1 L2 L3 L4 L5 L6 L7 L8; have := hid5 L9 L10 L11 L12 L13; omega), ne Oproof13.out Otag13.out (by have := hid8 L1 L2 L3 L4 L5 L6 L7 L8; have := hid5 L9 L10 L11 L12 L13; omega), ne Obody13.out Otag13.out (by have := hid8 L1 L2 L3 L4 L5 L6 L7 L8; have := hid5 L9 L10 L11 L12 L13; omega)⟩
 clear hS2 KA13 Ocn13 Osn13 Ocookie13 Oproof13 Obody13 Otag13
 have d0 := KA2.out.cell 0 rfl
 have f0 := KO13.out.cell 0 rfl
 have e0 := KO13.out.frozen 0
 have d1 := KA2.out.cell 1 rfl
 have f1 := KO13.out.cell 1 rfl
 have e1 := KO13.out.frozen 1
 have d2 := KA2.out.cell 2 rfl
 have f2 := KO13.out.cell 2 rfl
 have e2 := KO13.out.frozen 2
 have d3 := KA2.out.cell 3 rfl
 have f3 := KO13.out.cell 3 rfl
 have e3 := KO13.out.frozen 3
 have d4 := KA2.out.cell 4 rfl
 have f4 := KO13.out.cell 4 rfl
 have e4 := KO13.out.frozen 4
 have d5 := KA2.out.cell 5 rfl
 have f5 := KO13.out.cell 5 rfl
 have e5 := KO13.out.frozen 5
 have d6 := KA2.out.cell 6 rfl
 have f6 := KO13.out.cell 6 rfl
 have e6 := KO13.out.frozen 6
 have d7 := KA2.out.cell 7 rfl
 have f7 := KO13.out.cell 7 rfl
 have e7 := KO13.out.frozen 7
 have d8 := KA2.out.cell 8 rfl
 have f8 := KO13.out.cell 8 rfl
 have e8 := KO13.out.frozen 8
 have d9 := KA2.out.cell 9 rfl
 have f9 := KO13.out.cell 9 rfl
 have e9 := KO13.out.frozen 9
 have d10 := KA2.out.cell 10 rfl
 have f10 := KO13.out.cell 10 rfl
 have e10 := KO13.out.frozen 10
 go_wp2
 have SZF : Hid (w.heap.size ≤ go ∧ go + 1 ≤ x1.heap.size ∧ x1.heap.size ≤ x12.heap.size ∧ x12.heap.size ≤ x13.heap.size) := by have := hid8 L1 Gga L2 L3 L4 L5 L6 L7; have := hid6 L8 L9 L10 L11 L12 L13; show _ ∧ _; omega
 have k1 := fr_put KO13.out (.int .i64 D.kind) (.int .i64 D.id) (.slice S2.cn.a S2.cn.n S2.cn.c) (.slice S2.sn.a S2.sn.n S2.sn.c) (.int .i64 D.tick) (.slice S2.cookie.a S2.cookie.n S2.cookie.c) (.slice S2.proof.a S2.proof.n S2.proof.c) (.int .i64 D.epoch) (.int .i64 D.seq) (.slice S2.body.a S2.body.n S2.body.c) (.slice S2.tag.a S2.tag.n S2.tag.c)
 have o1 := OI.out.carry (fr_kept _ go (.int .i64 D.kind) (.int .i64 D.id) (.slice S2.cn.a S2.cn.n S2.cn.c) (.slice S2.sn.a S2.sn.n S2.sn.c) (.int .i64 D.tick) (.slice S2.cookie.a S2.cookie.n S2.cookie.c) (.slice S2.proof.a S2.proof.n S2.proof.c) (.int .i64 D.epoch) (.int .i64 D.seq) (.slice S2.body.a S2.body.n S2.body.c) (.slice S2.tag.a S2.tag.n S2.tag.c)) (.inr (by have := SZF.out; omega))
 have b9 := fr_low B13.out (g := go) (by have := SZF.out; omega) (.int .i64 D.kind) (.int .i64 D.id) (.slice S2.cn.a S2.cn.n S2.cn.c) (.slice S2.sn.a S2.sn.n S2.sn.c) (.int .i64 D.tick) (.slice S2.cookie.a S2.cookie.n S2.cookie.c) (.slice S2.proof.a S2.proof.n S2.proof.c) (.int .i64 D.epoch) (.int .i64 D.seq) (.slice S2.body.a S2.body.n S2.body.c) (.slice S2.tag.a S2.tag.n S2.tag.c)
 exact bodyPost_ret (v := frV D S2) (res1 rfl (is_cell rfl k1 aggFr)) rfl ⟨S2, rfl, own_of (o1.mono (by have := SZF.out; omega) (by rw [fr_size]; have := SZF.out; omega)) HAp.out, b9⟩
end Go.Proofs.YtpenhliaelhnoaaGreatDoor.DrCq
