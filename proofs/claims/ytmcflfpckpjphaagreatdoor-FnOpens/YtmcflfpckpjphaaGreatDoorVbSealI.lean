/-
  What impl seals, and opens.
-/
import Derived.Test.YtmcflfpckpjphaaGreatDoorVbBas6
import Derived.Test.YtmcflfpckpjphaaGreatDoorVbBas7
set_option maxRecDepth 100000
namespace Go.Proofs.YtmcflfpckpjphaaGreatDoor.SealI
open Go.RowKit Mem App Blk Words Zone Res Comp DiffP Diffs MacP MacI KdfP StrI FrZ FrL FrP FrG FrQ FrQ2 SlP SlI SlQ Shp Each Copy Ops Guard

def draftS (s p t : Sl) : FrS := ⟨⟨none, 0, 0⟩, s, ⟨none, 0, 0⟩, ⟨none, 0, 0⟩, p, t⟩
theorem draft_rd {w : World} {s p t : Sl} {l pl u : List Int} {epoch seq kind : Int} (h1 : SRd w s l) (h2 : SRd w p pl) (h3 : SRd w t u) : FrRd w (draftS s p t) (draftD l epoch seq kind pl u) :=
 ⟨nilRd w, h1, nilRd w, nilRd w, h2, h3⟩
theorem zeros_bytes (n : Nat) : Bytes (List.replicate n (0 : Int)) := fun z hz => by have := List.eq_of_mem_replicate hz; omega

set_option maxHeartbeats 8000000 in
theorem draftFrame (s p : Sl) (l pl : List Int) (epoch seq kind : Int) (w : World) :
  Calls Tryz.prog 55 #[.slice s.a s.n s.c, .int .i64 epoch, .int .i64 seq, .int .i64 kind, .slice p.a p.n p.c] w fun e w' => ∃ g, e = .returned (frV (draftD l epoch seq kind pl (List.replicate 16 0)) (draftS s p ⟨some ⟨g, 0, none⟩, 16, 16⟩)) ∧ w.heap.size ≤ g ∧ Row w' g 16 (List.replicate 16 0) ∧ Below w.heap.size w w' := by
 obtain ⟨x1, hx1⟩ : ∃ x1, w.alloc (.cells #[.int .i64 0, .int .i64 0, .slice none 0 0, .slice none 0 0, .int .i64 0, .slice none 0 0, .slice none 0 0, .int .i64 0, .int .i64 0, .slice none 0 0, .slice none 0 0] 27) = x1 := ⟨_, rfl⟩
 have HW0 := hid (hx1)
 have b1 : Below w.heap.size w x1 := by rw [← hx1]; exact (Below.refl _ _).alloc (Nat.le_refl _) _
 have KN : Blk x1 w.heap.size 27 [.int .i64 0, .int .i64 0, .slice none 0 0, .slice none 0 0, .int .i64 0, .slice none 0 0, .slice none 0 0, .int .i64 0, .int .i64 0, .slice none 0 0, .slice none 0 0] := by rw [← hx1]; exact Blk.new w _ _
 clear hx1
 have L1 := hid (b1.size)
 have B1 := hid (b1)
 clear b1
 go_enter Tryz.func55, Tryz.ntmps55
 go_upto_region 1 with fail
 rw [HW0.out]
 obtain ⟨go, hgo⟩ : ∃ g, w.heap.size = g := ⟨_, rfl⟩
 have Ggo : Hid (w.heap.size = go ∧ go < x1.heap.size) := ⟨hgo, by rw [← hgo]; exact KN.lt⟩
 rw [hgo] at KN ⊢
 clear HW0 hgo
 have KO1 := hid (KN)
 clear KN
 obtain ⟨i0, hi, hz0, hz1, hz2⟩ := info_parts info8
 have K2 : ∀ x2, Below x1.heap.size x1 x2 → Blk x2 go 27 [.int .i64 0, .int .i64 0, .slice none 0 0, .slice none 0 0, .int .i64 0, .slice none 0 0, .slice none 0 0, .int .i64 0, .int .i64 0, .slice none 0 0, .slice none 0 0] := fun x2 hb => KO1.out.later hb
 go_wp2_with (at_make; refine wpList_make_full _ rfl _ _ 22 rfl x1.heap.size 5 i0 (.int .u8 0) 1 Tryz.underlying22 hi hz0 hz1 _ _ _ _ 16 rfl rfl rfl rfl (by rw [hz2]; omega) (by unfold maxLen; omega) (Nat.le_refl _) ?_; intro x2 hown hgr; have b2 : Below x1.heap.size x1 x2 := (Below.refl _ _).grown hgr (Nat.le_refl _) (fun k h => by cases h); have R2 : Hid (Row x2 x1.heap.size 16 (List.replicate 16 0)) := (by have h1 : x2.ownsRow x1.heap.size 5 1 (.slice (some ⟨x1.heap.size, 0, none⟩) 16 16) 16 ((List.replicate 16 (0 : Int)).map (Value.int .u8)) := (by simpa [Value.cells, toList_madeCells_one] using hown); exact (Row.of h1).1); have KZ : Hid (Blk x2 go 27 [.int .i64 0, .int .i64 0, .slice none 0 0, .slice none 0 0, .int .i64 0, .slice none 0 0, .slice none 0 0, .int .i64 0, .int .i64 0, .slice none 0 0, .slice none 0 0]) := K2 x2 b2; have q0 := KZ.out.cell 0 rfl; have f0 := KZ.out.frozen 0; have q1 := KZ.out.cell 1 rfl; have f1 := KZ.out.frozen 1; have q2 := KZ.out.cell 2 rfl; have f2 := KZ.out.frozen 2; have q3 := KZ.out.cell 3 rfl; have f3 := KZ.out.frozen 3; have q4 := KZ.out.cell 4 rfl; have f4 := KZ.out.frozen 4; have q5 := KZ.out.cell 5 rfl; have f5 := KZ.out.frozen 5; have q6 := KZ.out.cell 6 rfl; have f6 := KZ.out.frozen 6; have q7 := KZ.out.cell 7 rfl; have f7 := KZ.out.frozen 7; have q8 := KZ.out.cell 8 rfl; have f8 := KZ.out.frozen 8; have q9 := KZ.out.cell 9 rfl; have f9 := KZ.out.frozen 9; have q10 := KZ.out.cell 10 rfl; have f10 := KZ.out.frozen 10; clear hown hgr)
 have B2 := hid (B1.out.trans (b2.mono B1.out.size))
 have KF : Blk (((((((((((x2.setCell ⟨go, 0, none⟩ (.int .i64 kind)).setCell ⟨go, 1, none⟩ (.int .i64 0)).setCell ⟨go, 2, none⟩ (.slice none 0 0)).setCell ⟨go, 3, none⟩ (.slice s.a s.n s.c)).setCell ⟨go, 4, none⟩ (.int .i64 0)).setCell ⟨go, 5, none⟩ (.slice none 0 0)).setCell ⟨go, 6, none⟩ (.slice none 0 0)).setCell ⟨go, 7, none⟩ (.int .i64 epoch)).setCell ⟨go, 8, none⟩ (.int .i64 seq)).setCell ⟨go, 9, none⟩ (.slice p.a p.n p.c)).setCell ⟨go, 10, none⟩ (.slice (some ⟨x1.heap.size, 0, none⟩) 16 16)) go 27 [.int .i64 kind, .int .i64 0, .slice none 0 0, .slice s.a s.n s.c, .int .i64 0, .slice none 0 0, .slice none 0 0, .int .i64 epoch, .int .i64 seq, .slice p.a p.n p.c, .slice (some ⟨x1.heap.size, 0, none⟩) 16 16] := (((((((((((KZ.out).set 0 _ (by simp [maxLen])).set 1 _ (by simp [maxLen])).set 2 _ (by simp [maxLen])).set 3 _ (by simp [maxLen])).set 4 _ (by simp [maxLen])).set 5 _ (by simp [maxLen])).set 6 _ (by simp [maxLen])).set 7 _ (by simp [maxLen])).set 8 _ (by simp [maxLen])).set 9 _ (by simp [maxLen])).set 10 _ (by simp [maxLen])
 have BF : Below w.heap.size w (((((((((((x2.setCell ⟨go, 0, none⟩ (.int .i64 kind)).setCell ⟨go, 1, none⟩ (.int .i64 0)).setCell ⟨go, 2, none⟩ (.slice none 0 0)).setCell ⟨go, 3, none⟩ (.slice s.a s.n s.c)).setCell ⟨go, 4, none⟩ (.int .i64 0)).setCell ⟨go, 5, none⟩ (.slice none 0 0)).setCell ⟨go, 6, none⟩ (.slice none 0 0)).setCell ⟨go, 7, none⟩ (.int .i64 epoch)).setCell ⟨go, 8, none⟩ (.int .i64 seq)).setCell ⟨go, 9, none⟩ (.slice p.a p.n p.c)).setCell ⟨go, 10, none⟩ (.slice (some ⟨x1.heap.size, 0, none⟩) 16 16)) := (((((((((((B2.out).setCell (by show w.heap.size ≤ go; have := Ggo.out; omega) _).setCell (by show w.heap.size ≤ go; have := Ggo.out; omega) _).setCell (by show w.heap.size ≤ go; have := Ggo.out; omega) _).setCell (by show w.heap.size ≤ go; have := Ggo.out; omega) _).setCell (by show w.heap.size ≤ go; have := Ggo.out; omega) _).setCell (by show w.heap.size ≤ go; have := Ggo.out; omega) _).setCell (by show w.heap.size ≤ go; have := Ggo.out; omega) _).setCell (by show w.heap.size ≤ go; have := Ggo.out; omega) _).setCell (by show w.heap.size ≤ go; have := Ggo.out; omega) _).setCell (by show w.heap.size ≤ go; have := Ggo.out; omega) _).setCell (by show w.heap.size ≤ go; have := Ggo.out; omega) _
 have RF : Row (((((((((((x2.setCell ⟨go, 0, none⟩ (.int .i64 kind)).setCell ⟨go, 1, none⟩ (.int .i64 0)).setCell ⟨go, 2, none⟩ (.slice none 0 0)).setCell ⟨go, 3, none⟩ (.slice s.a s.n s.c)).setCell ⟨go, 4, none⟩ (.int .i64 0)).setCell ⟨go, 5, none⟩ (.slice none 0 0)).setCell ⟨go, 6, none⟩ (.slice none 0 0)).setCell ⟨go, 7, none⟩ (.int .i64 epoch)).setCell ⟨go, 8, none⟩ (.int .i64 seq)).setCell ⟨go, 9, none⟩ (.slice p.a p.n p.c)).setCell ⟨go, 10, none⟩ (.slice (some ⟨x1.heap.size, 0, none⟩) 16 16)) x1.heap.size 16 (List.replicate 16 0) := (((((((((((R2.out).keep (Below.heap_setCell _ _ _ _ (by show x1.heap.size ≠ go; have := Ggo.out; omega))).keep (Below.heap_setCell _ _ _ _ (by show x1.heap.size ≠ go; have := Ggo.out; omega))).keep (Below.heap_setCell _ _ _ _ (by show x1.heap.size ≠ go; have := Ggo.out; omega))).keep (Below.heap_setCell _ _ _ _ (by show x1.heap.size ≠ go; have := Ggo.out; omega))).keep (Below.heap_setCell _ _ _ _ (by show x1.heap.size ≠ go; have := Ggo.out; omega))).keep (Below.heap_setCell _ _ _ _ (by show x1.heap.size ≠ go; have := Ggo.out; omega))).keep (Below.heap_setCell _ _ _ _ (by show x1.heap.size ≠ go; have := Ggo.out; omega))).keep (Below.heap_setCell _ _ _ _ (by show x1.heap.size ≠ go; have := Ggo.out; omega))).keep (Below.heap_setCell _ _ _ _ (by show x1.heap.size ≠ go; have := Ggo.out; omega))).keep (Below.heap_setCell _ _ _ _ (by show x1.heap.size ≠ go; have := Ggo.out; omega))).keep (Below.heap_setCell _ _ _ _ (by show x1.heap.size ≠ go; have := Ggo.out; omega))
 exact bodyPost_ret (v := frV (draftD l epoch seq kind pl (List.replicate 16 0)) (draftS s p ⟨some ⟨x1.heap.size, 0, none⟩, 16, 16⟩)) (res1 rfl (is_cell rfl KF aggFr)) rfl ⟨x1.heap.size, rfl, B1.out.size, RF, BF⟩

set_option maxHeartbeats 8000000 in
theorem canSeal (k : Sl) (role : Int) (S : FrS) (D : FrD) (w : World) (h : FrRd w S D) :
  Calls Tryz.prog 56 #[.slice k.a k.n k.c, .int .i64 role, frV D S] w fun e w' => e = .returned (.bool (((k.n : Int) == 32) && canTag role D)) ∧ Below w.heap.size w w' := by
 have HR := hid (h)
 obtain ⟨v, hv⟩ : ∃ v, (((k.n : Int) == 32) && canTag role D) = v := ⟨_, rfl⟩
 have HV : Hid ((((k.n : Int) == 32) && canTag role D) = v) := hv
 rw [hv]
 clear hv h
 unfold frV
 go_enter Tryz.func56, Tryz.ntmps56
 obtain ⟨x1, hx1⟩ : ∃ x1, w.alloc (.cells #[.int .i64 D.kind, .int .i64 D.id, .slice S.cn.a S.cn.n S.cn.c, .slice S.sn.a S.sn.n S.sn.c, .int .i64 D.tick, .slice S.cookie.a S.cookie.n S.cookie.c, .slice S.proof.a S.proof.n S.proof.c, .int .i64 D.epoch, .int .i64 D.seq, .slice S.body.a S.body.n S.body.c, .slice S.tag.a S.tag.n S.tag.c] 27) = x1 := ⟨_, rfl⟩
 have HW1 := hid (hx1)
 have b1 : Below w.heap.size w x1 := by rw [← hx1]; exact (Below.refl _ _).alloc (Nat.le_refl _) _
 have KN : Blk x1 w.heap.size 27 [.int .i64 D.kind, .int .i64 D.id, .slice S.cn.a S.cn.n S.cn.c, .slice S.sn.a S.sn.n S.sn.c, .int .i64 D.tick, .slice S.cookie.a S.cookie.n S.cookie.c, .slice S.proof.a S.proof.n S.proof.c, .int .i64 D.epoch, .int .i64 D.seq, .slice S.body.a S.body.n S.body.c, .slice S.tag.a S.tag.n S.tag.c] := by rw [← hx1]; exact Blk.new w _ _
 have HSZ1 : Hid (x1.heap.size = w.heap.size + 1) := by rw [← hx1]; show _ = _; simp
 clear hx1
 have L1 := hid (b1.size)
 have B1 := hid (b1)
 clear b1
 go_upto_region 1 with fail
 rw [HW1.out]
 obtain ⟨ga, hga⟩ : ∃ g, w.heap.size = g := ⟨_, rfl⟩
 have Gga : Hid (w.heap.size = ga ∧ x1.heap.size = ga + 1) := ⟨hga, by rw [← hga]; exact HSZ1.out⟩
 rw [hga] at KN ⊢
 clear HW1 HSZ1 hga
 have KA1 := hid (KN)
 clear KN
 obtain ⟨d0, d1, d2, d3, d4, d5, d6, d7, d8, d9, d10⟩ := cells11 KA1.out
 go_wp2_with fail
 refine (isKey k.a k.n k.c x1).mono ?_
 rintro e y ⟨rfl, rfl⟩
 cases h0 : ((k.n : Int) == 32) with
 | false =>
  obtain rfl : v = false := by rw [← HV.out, h0]; rfl
  go_wp2
  go_ret
  exact ⟨rfl, B1.out⟩
 | true =>
  obtain rfl : v = canTag role D := by rw [← HV.out, h0]; rfl
  go_wp2_with fail
  refine (implCanTag role S D x1 (HR.out.later B1.out)).mono ?_
  rintro e x2 ⟨rfl, b⟩
  have L2 := hid (b.size)
  have B2 := hid (B1.out.trans (b.mono B1.out.size))
  have KA2 := hid (KA1.out.later b)
  clear b B1 KA1
  clear d0 d1 d2 d3 d4 d5 d6 d7 d8 d9 d10
  go_wp2
  go_ret
  exact ⟨rfl, B2.out⟩

theorem sown_block {w : World} {lo hi : Nat} {s : Sl} {l : List Int} (h : SOwn w lo hi s l) : s.a = none ∨ ∃ g, s.a = some ⟨g, 0, none⟩ ∧ lo ≤ g ∧ g < hi := by
 obtain ⟨_, ⟨rfl, _⟩ | ⟨g, h1, _, h3, h4, _⟩⟩ := h
 ·
  exact .inl rfl
 ·
  exact .inr ⟨g, h1, h3, h4⟩
theorem sown_apart {w : World} {a b c d : Nat} {s t : Sl} {l u : List Int} (h : SOwn w a b s l) (k : SOwn w c d t u) (z : b ≤ c ∨ d ≤ a) : s.a = none ∨ s.a ≠ t.a := by
 rcases sown_block h with h | ⟨g, h1, h2, h3⟩
 ·
  exact .inl h
 ·
  refine .inr ?_
  rcases sown_block k with k | ⟨g', k1, k2, k3⟩
  ·
   rw [h1, k]; intro e; cases e
  ·
   rw [h1, k1]; intro e; simp only [Option.some.injEq, Addr.mk.injEq, and_true] at e; omega
theorem draft_own {w : World} {lo hi a b c d e f : Nat} {s p t : Sl} {l u v : List Int} {epoch seq kind : Int} (h1 : SOwn w a b s l) (h2 : SOwn w c d p u) (h3 : SOwn w e f t v) (z1 : lo ≤ a ∧ b ≤ hi) (z2 : lo ≤ c ∧ d ≤ hi) (z3 : lo ≤ e ∧ f ≤ hi) (z4 : b ≤ c) (z5 : b ≤ e ∧ d ≤ e) : FrOwn w lo hi (draftS s p t) (draftD l epoch seq kind u v) :=
 ⟨SOwn.nil _ _ _, h1.mono z1.1 z1.2, SOwn.nil _ _ _, SOwn.nil _ _ _, h2.mono z2.1 z2.2, h3.mono z3.1 z3.2, by
  have q1 := sown_apart h1 h2 (.inl z4)
  have q2 := sown_apart h1 h3 (.inl z5.1)
  have q3 := sown_apart h2 h3 (.inl z5.2)
  have n1 : s.a = none ∨ s.a ≠ none := by cases s.a <;> simp
  constructor <;> first | exact .inl rfl | exact q1 | exact q2 | exact q3 | exact n1⟩

def AnsS (D : FrD) (ok : Bool) (w : World) : Ending → World → Prop := fun e w' => ∃ S0 : FrS, e = .returned (.tuple #[frV D S0, .bool ok]) ∧ FrOwn w' w.heap.size w'.heap.size S0 D ∧ Below w.heap.size w w'
theorem own_nil (w : World) (lo hi : Nat) : FrOwn w lo hi ⟨⟨none, 0, 0⟩, ⟨none, 0, 0⟩, ⟨none, 0, 0⟩, ⟨none, 0, 0⟩, ⟨none, 0, 0⟩, ⟨none, 0, 0⟩⟩ zeroF :=
 ⟨SOwn.nil _ _ _, SOwn.nil _ _ _, SOwn.nil _ _ _, SOwn.nil _ _ _, SOwn.nil _ _ _, SOwn.nil _ _ _, ⟨.inl rfl, .inl rfl, .inl rfl, .inl rfl, .inl rfl, .inl rfl, .inl rfl, .inl rfl, .inl rfl, .inl rfl, .inl rfl, .inl rfl, .inl rfl, .inl rfl, .inl rfl⟩⟩

set_option maxHeartbeats 8000000 in
theorem implSeal (k s p : Sl) (lk l pl : List Int) (role epoch seq kind : Int) (w : World) (hT : Tab w) (hk : SRd w k lk) (hs : SRd w s l) (hp : SRd w p pl) :
  Calls Tryz.prog 13 #[.slice k.a k.n k.c, .int .i64 role, .slice s.a s.n s.c, .int .i64 epoch, .int .i64 seq, .int .i64 kind, .slice p.a p.n p.c] w (AnsS (sealF lk role l epoch seq kind pl) (sealB lk role l epoch seq kind pl) w) := by
 have HK := hid (hk)
 have HS := hid (hs)
 have HP := hid (hp)
 have HT := hid (hT)
 have HLK : Hid (k.n = lk.length ∧ s.n = l.length ∧ p.n = pl.length) := ⟨hk.len, hs.len, hp.len⟩
 clear hk hs hp hT
 obtain ⟨v, hv⟩ : ∃ v, sealB lk role l epoch seq kind pl = v := ⟨_, rfl⟩
 have HV : Hid (sealB lk role l epoch seq kind pl = v) := hv
 obtain ⟨R, hR⟩ : ∃ R, sealF lk role l epoch seq kind pl = R := ⟨_, rfl⟩
 have HR : Hid (sealF lk role l epoch seq kind pl = R) := hR
 rw [hv, hR]
 clear hv hR
 go_enter Tryz.func13, Tryz.ntmps13
 obtain ⟨x1, hx1⟩ : ∃ x1, w.alloc (.cells #[.int .i64 0, .int .i64 0, .slice none 0 0, .slice none 0 0, .int .i64 0, .slice none 0 0, .slice none 0 0, .int .i64 0, .int .i64 0, .slice none 0 0, .slice none 0 0] 27) = x1 := ⟨_, rfl⟩
 have HW1 := hid (hx1)
 have b1 : Below w.heap.size w x1 := by rw [← hx1]; exact (Below.refl _ _).alloc (Nat.le_refl _) _
 have KN : Blk x1 w.heap.size 27 [.int .i64 0, .int .i64 0, .slice none 0 0, .slice none 0 0, .int .i64 0, .slice none 0 0, .slice none 0 0, .int .i64 0, .int .i64 0, .slice none 0 0, .slice none 0 0] := by rw [← hx1]; exact Blk.new w _ _
 have HSZ1 : Hid (x1.heap.size = w.heap.size + 1) := by rw [← hx1]; show _ = _; simp
 clear hx1
 have L1 := hid (b1.size)
 have B1 := hid (b1)
 clear b1
 go_upto_region 1 with fail
 rw [HW1.out]
 obtain ⟨go, hgo⟩ : ∃ g, w.heap.size = g := ⟨_, rfl⟩
 have Ggo : Hid (w.heap.size = go ∧ x1.heap.size = go + 1) := ⟨hgo, by rw [← hgo]; exact HSZ1.out⟩
 rw [hgo] at KN ⊢
 clear HW1 HSZ1 hgo
 have KO1 := hid (KN)
 clear KN
 go_wp2_with fail
 refine (draftFrame s p l pl epoch seq kind x1).mono ?_
 rintro e x2 ⟨gz, rfl, kg, rr, b⟩
 have oN : SOwn x2 x1.heap.size x2.heap.size ⟨some ⟨gz, 0, none⟩, 16, 16⟩ (List.replicate 16 0) := SOwn.row rr (by simp) (zeros_bytes 16) kg rr.lt
 clear kg rr
 have L2 := hid (b.size)
 have B2 := hid (B1.out.trans (b.mono B1.out.size))
 have KO2 := hid (KO1.out.later b)
 clear b B1 KO1
 have OT2 := hid (oN)
 clear oN
 unfold frV draftD draftS
 obtain ⟨x3, hx3⟩ : ∃ x3, x2.alloc (.cells #[.int .i64 kind, .int .i64 0, .slice none 0 0, .slice s.a s.n s.c, .int .i64 0, .slice none 0 0, .slice none 0 0, .int .i64 epoch, .int .i64 seq, .slice p.a p.n p.c, .slice (some ⟨gz, 0, none⟩) 16 16] 27) = x3 := ⟨_, rfl⟩
 have HW3 := hid (hx3)
 have b3 : Below x2.heap.size x2 x3 := by rw [← hx3]; exact (Below.refl _ _).alloc (Nat.le_refl _) _
 have KN : Blk x3 x2.heap.size 27 [.int .i64 kind, .int .i64 0, .slice none 0 0, .slice s.a s.n s.c, .int .i64 0, .slice none 0 0, .slice none 0 0, .int .i64 epoch, .int .i64 seq, .slice p.a p.n p.c, .slice (some ⟨gz, 0, none⟩) 16 16] := by rw [← hx3]; exact Blk.new x2 _ _
 have HSZ3 : Hid (x3.heap.size = x2.heap.size + 1) := by rw [← hx3]; show _ = _; simp
 clear hx3
 have L3 := hid (b3.size)
 have B3 := hid (B2.out.trans (b3.mono B2.out.size))
 have KO3 := hid (KO2.out.later b3)
 have OT3 := hid (OT2.out.later b3)
 clear b3 B2 KO2 OT2
 go_upto_region 2 with fail
 rw [HW3.out]
 obtain ⟨gd, hgd⟩ : ∃ g, x2.heap.size = g := ⟨_, rfl⟩
 have Ggd : Hid (x2.heap.size = gd ∧ x3.heap.size = gd + 1) := ⟨hgd, by rw [← hgd]; exact HSZ3.out⟩
 rw [hgd] at KN ⊢
 clear HW3 HSZ3 hgd
 have KD3 := hid (KN)
 clear KN
 obtain ⟨d0, d1, d2, d3, d4, d5, d6, d7, d8, d9, d10⟩ := cells11 KD3.out
 go_wp2_with fail
 refine (canSeal k role (draftS s p ⟨some ⟨gz, 0, none⟩, 16, 16⟩) (draftD l epoch seq kind pl (List.replicate 16 0)) x3 (draft_rd (HS.out.later B3.out) (HP.out.later B3.out) OT3.out.rd)).mono ?_
 rintro e x4 ⟨rfl, b⟩
 have L4 := hid (b.size)
 have B4 := hid (B3.out.trans (b.mono B3.out.size))
 have KO4 := hid (KO3.out.later b)
 have OT4 := hid (OT3.out.later b)
 have KD4 := hid (KD3.out.later b)
 clear b B3 KO3 OT3 KD3
 clear d0 d1 d2 d3 d4 d5 d6 d7 d8 d9 d10
 have HC : Hid ((((k.n : Int) == 32) && canTag role (draftD l epoch seq kind pl (List.replicate 16 0))) = v) := by show _ = _; rw [← HV.out, HLK.out.1, draft_can _ _ _ _ _ _ _ (by simp)]; rfl
 rw [HC.out]
 cases v with
 | false =>
  obtain rfl : R = zeroF := by rw [← HR.out]; exact sealF_no HV.out
  have co0 := KO4.out.cell 0 rfl
  have fo0 := KO4.out.frozen 0
  have co1 := KO4.out.cell 1 rfl
  have fo1 := KO4.out.frozen 1
  have co2 := KO4.out.cell 2 rfl
  have fo2 := KO4.out.frozen 2
  have co3 := KO4.out.cell 3 rfl
  have fo3 := KO4.out.frozen 3
  have co4 := KO4.out.cell 4 rfl
  have fo4 := KO4.out.frozen 4
  have co5 := KO4.out.cell 5 rfl
  have fo5 := KO4.out.frozen 5
  have co6 := KO4.out.cell 6 rfl
  have fo6 := KO4.out.frozen 6
  have co7 := KO4.out.cell 7 rfl
  have fo7 := KO4.out.frozen 7
  have co8 := KO4.out.cell 8 rfl
  have fo8 := KO4.out.frozen 8
  have co9 := KO4.out.cell 9 rfl
  have fo9 := KO4.out.frozen 9
  have co10 := KO4.out.cell 10 rfl
  have fo10 := KO4.out.frozen 10
  go_wp2
  obtain ⟨k1, k2, k3⟩ := fr_stored (D := zeroF) (S := (⟨⟨none, 0, 0⟩, ⟨none, 0, 0⟩, ⟨none, 0, 0⟩, ⟨none, 0, 0⟩, ⟨none, 0, 0⟩, ⟨none, 0, 0⟩⟩ : FrS)) KO4.out (own_nil x4 x4.heap.size x4.heap.size) (.inl (by have := hid6 L1 Ggo L2 L3 Ggd L4; omega))
  exact bodyPost_ret (v := .tuple #[frV zeroF (⟨⟨none, 0, 0⟩, ⟨none, 0, 0⟩, ⟨none, 0, 0⟩, ⟨none, 0, 0⟩, ⟨none, 0, 0⟩, ⟨none, 0, 0⟩⟩ : FrS), .bool false]) (res2 rfl (is_cell rfl k1 aggFr) (is_tmp rfl)) rfl ⟨(⟨⟨none, 0, 0⟩, ⟨none, 0, 0⟩, ⟨none, 0, 0⟩, ⟨none, 0, 0⟩, ⟨none, 0, 0⟩, ⟨none, 0, 0⟩⟩ : FrS), rfl, own_nil _ _ _, k3 _ _ (by have := hid6 L1 Ggo L2 L3 Ggd L4; omega) B4.out⟩
 | true =>
  obtain rfl : R = sealD lk role l epoch seq kind pl := by rw [← HR.out]; exact sealF_yes HV.out
  have HL : Hid (lk.length = 32 ∧ l.length ≤ 12 ∧ pl.length ≤ 40) := ⟨(seal_may HV.out).1, by have := ((headOk_iff _ _ _ _).1 (seal_may HV.out).2.1).2.1; omega, (seal_may HV.out).2.2.2.2.1⟩
  go_wp2_with fail
  refine (putB s ⟨none, 0, 0⟩ l [] x4 (HS.out.later B4.out) (nilRd _) (by have := HL.out; omega) (by simp)).mono ?_
  rw [List.append_nil]
  rintro e x5 ⟨gs, ms, cs, rfl, em, kg, rr, b⟩
  have oN : SOwn x5 x4.heap.size x5.heap.size ⟨some ⟨gs, 0, none⟩, ms, cs⟩ l := SOwn.row rr em HS.out.bytes kg rr.lt
  clear em kg rr
  have L5 := hid (b.size)
  have B5 := hid (B4.out.trans (b.mono B4.out.size))
  have KO5 := hid (KO4.out.later b)
  have OT5 := hid (OT4.out.later b)
  have KD5 := hid (KD4.out.later b)
  clear b B4 KO4 OT4 KD4
  have ON5 := hid (oN)
  clear oN
  have co := KD5.out.cell 3 rfl
  have fo := KD5.out.frozen 3
  obtain ⟨x6, hx6⟩ : ∃ x6, x5.setCell ⟨gd, 3, none⟩ (.slice (some ⟨gs, 0, none⟩) ms cs) = x6 := ⟨_, rfl⟩
  have HW6 := hid (hx6)
  have L6 : Hid (x6.heap.size = x5.heap.size) := by rw [← hx6]; show _ = _; simp
  have B6 : Hid (Below w.heap.size w x6) := by rw [← hx6]; exact B5.out.setCell (by show _ ≤ gd; have := hid7 L1 Ggo L2 L3 Ggd L4 L5; omega) _
  have KO6 : Hid (Blk x6 go 27 [.int .i64 0, .int .i64 0, .slice none 0 0, .slice none 0 0, .int .i64 0, .slice none 0 0, .slice none 0 0, .int .i64 0, .int .i64 0, .slice none 0 0, .slice none 0 0]) := by rw [← hx6]; exact KO5.out.other (by show go ≠ gd; have := hid7 L1 Ggo L2 L3 Ggd L4 L5; omega) _
  have OT6 : Hid (SOwn x6 x1.heap.size x2.heap.size ⟨some ⟨gz, 0, none⟩, 16, 16⟩ (List.replicate 16 0)) := by rw [← hx6]; exact OT5.out.carry (Kept.setCell _ _ _ _) (by have := hid7 L1 Ggo L2 L3 Ggd L4 L5; omega)
  have KD6 : Hid (Blk x6 gd 27 [.int .i64 kind, .int .i64 0, .slice none 0 0, .slice (some ⟨gs, 0, none⟩) ms cs, .int .i64 0, .slice none 0 0, .slice none 0 0, .int .i64 epoch, .int .i64 seq, .slice p.a p.n p.c, .slice (some ⟨gz, 0, none⟩) 16 16]) := by rw [← hx6]; exact KD5.out.set 3 _ (by simp [maxLen])
  have ON6 : Hid (SOwn x6 x4.heap.size x5.heap.size ⟨some ⟨gs, 0, none⟩, ms, cs⟩ l) := by rw [← hx6]; exact ON5.out.carry (Kept.setCell _ _ _ _) (by have := hid7 L1 Ggo L2 L3 Ggd L4 L5; omega)
  clear hx6 B5 KO5 OT5 KD5 ON5
  go_upto_region 5 with fail
  rw [HW6.out]
  clear HW6 co fo
  obtain ⟨d0, d1, d2, d3, d4, d5, d6, d7, d8, d9, d10⟩ := cells11 KD6.out
  go_wp2_with fail
  refine (frameHead role (draftS ⟨some ⟨gs, 0, none⟩, ms, cs⟩ p ⟨some ⟨gz, 0, none⟩, 16, 16⟩) (draftD l epoch seq kind pl (List.replicate 16 0)) x6 (draft_rd ON6.out.rd (HP.out.later B6.out) OT6.out.rd)).mono ?_
  rintro e x7 ⟨gh, mh, ch, rfl, em, kg, rr, b⟩
  have oN : SOwn x7 x6.heap.size x7.heap.size ⟨some ⟨gh, 0, none⟩, mh, ch⟩ (headL role l epoch seq) := SOwn.row rr em (headL_bytes _ _ _ _ HS.out.bytes) kg rr.lt
  clear em kg rr
  have L7 := hid (b.size)
  have B7 := hid (B6.out.trans (b.mono B6.out.size))
  have KO7 := hid (KO6.out.later b)
  have OT7 := hid (OT6.out.later b)
  have KD7 := hid (KD6.out.later b)
  have ON7 := hid (ON6.out.later b)
  clear b B6 KO6 OT6 KD6 ON6
  have Oh_7 := hid (oN)
  clear oN
  clear d0 d1 d2 d3 d4 d5 d6 d7 d8 d9 d10
  have HHL : Hid (mh ≤ 23) := by have h1 := Oh_7.out.len; have h2 := headL_le role l epoch seq; simp only at h1; show _ ≤ _; omega
  go_wp2_with fail
  refine (implMix k.a k.n k.c (some ⟨gh, 0, none⟩) mh ch p.a p.n p.c lk (headL role l epoch seq) pl x7 (HT.out.later B7.out) HLK.out.1 Oh_7.out.len HLK.out.2.2 (HK.out.later B7.out).rd Oh_7.out.rd.rd (HP.out.later B7.out).rd HK.out.nil (by intro e; cases e) HK.out.bytes Oh_7.out.rd.bytes HP.out.bytes (by have := hid2 HL HLK; omega) (by have := HHL.out; omega) (by have := hid2 HL HLK; omega)).mono ?_
  rintro e x8 ⟨gb, mb, cb, rfl, em, kg, rr, b⟩
  have oN : SOwn x8 x7.heap.size x8.heap.size ⟨some ⟨gb, 0, none⟩, mb, cb⟩ (mixI lk (headL role l epoch seq) pl) := SOwn.row rr em (mixI_bytes _ _ _ HP.out.bytes) kg rr.lt
  clear em kg rr
  have L8 := hid (b.size)
  have B8 := hid (B7.out.trans (b.mono B7.out.size))
  have KO8 := hid (KO7.out.later b)
  have OT8 := hid (OT7.out.later b)
  have KD8 := hid (KD7.out.later b)
  have ON8 := hid (ON7.out.later b)
  have Oh_8 := hid (Oh_7.out.later b)
  clear b B7 KO7 OT7 KD7 ON7 Oh_7
  have Ob_8 := hid (oN)
  clear oN
  have co := KD8.out.cell 9 rfl
  have fo := KD8.out.frozen 9
  obtain ⟨x9, hx9⟩ : ∃ x9, x8.setCell ⟨gd, 9, none⟩ (.slice (some ⟨gb, 0, none⟩) mb cb) = x9 := ⟨_, rfl⟩
  have HW9 := hid (hx9)
  have L9 : Hid (x9.heap.size = x8.heap.size) := by rw [← hx9]; show _ = _; simp
  have B9 : Hid (Below w.heap.size w x9) := by rw [← hx9]; exact B8.out.setCell (by show _ ≤ gd; have := hid8 L1 Ggo L2 L3 Ggd L4 L5 L6; have := hid2 L7 L8; omega) _
  have KO9 : Hid (Blk x9 go 27 [.int .i64 0, .int .i64 0, .slice none 0 0, .slice none 0 0, .int .i64 0, .slice none 0 0, .slice none 0 0, .int .i64 0, .int .i64 0, .slice none 0 0, .slice none 0 0]) := by rw [← hx9]; exact KO8.out.other (by show go ≠ gd; have := hid8 L1 Ggo L2 L3 Ggd L4 L5 L6; have := hid2 L7 L8; omega) _
  have OT9 : Hid (SOwn x9 x1.heap.size x2.heap.size ⟨some ⟨gz, 0, none⟩, 16, 16⟩ (List.replicate 16 0)) := by rw [← hx9]; exact OT8.out.carry (Kept.setCell _ _ _ _) (by have := hid8 L1 Ggo L2 L3 Ggd L4 L5 L6; have := hid2 L7 L8; omega)
  have KD9 : Hid (Blk x9 gd 27 [.int .i64 kind, .int .i64 0, .slice none 0 0, .slice (some ⟨gs, 0, none⟩) ms cs, .int .i64 0, .slice none 0 0, .slice none 0 0, .int .i64 epoch, .int .i64 seq, .slice (some ⟨gb, 0, none⟩) mb cb, .slice (some ⟨gz, 0, none⟩) 16 16]) := by rw [← hx9]; exact KD8.out.set 9 _ (by simp [maxLen])
  have ON9 : Hid (SOwn x9 x4.heap.size x5.heap.size ⟨some ⟨gs, 0, none⟩, ms, cs⟩ l) := by rw [← hx9]; exact ON8.out.carry (Kept.setCell _ _ _ _) (by have := hid8 L1 Ggo L2 L3 Ggd L4 L5 L6; have := hid2 L7 L8; omega)
  have Oh_9 : Hid (SOwn x9 x6.heap.size x7.heap.size ⟨some ⟨gh, 0, none⟩, mh, ch⟩ (headL role l epoch seq)) := by rw [← hx9]; exact Oh_8.out.carry (Kept.setCell _ _ _ _) (by have := hid8 L1 Ggo L2 L3 Ggd L4 L5 L6; have := hid2 L7 L8; omega)
  have Ob_9 : Hid (SOwn x9 x7.heap.size x8.heap.size ⟨some ⟨gb, 0, none⟩, mb, cb⟩ (mixI lk (headL role l epoch seq) pl)) := by rw [← hx9]; exact Ob_8.out.carry (Kept.setCell _ _ _ _) (by have := hid8 L1 Ggo L2 L3 Ggd L4 L5 L6; have := hid2 L7 L8; omega)
  clear hx9 B8 KO8 OT8 KD8 ON8 Oh_8 Ob_8
  go_upto_region 6 with fail
  rw [HW9.out]
  clear HW9 co fo
  obtain ⟨d0, d1, d2, d3, d4, d5, d6, d7, d8, d9, d10⟩ := cells11 KD9.out
  go_wp2_with fail
  refine (implTagInput role (draftS ⟨some ⟨gs, 0, none⟩, ms, cs⟩ ⟨some ⟨gb, 0, none⟩, mb, cb⟩ ⟨some ⟨gz, 0, none⟩, 16, 16⟩) (draftD l epoch seq kind (mixI lk (headL role l epoch seq) pl) (List.replicate 16 0)) x9 (draft_rd ON9.out.rd Ob_9.out.rd OT9.out.rd)).mono ?_
  rintro e x10 ⟨gi, mi, ci, rfl, em, kg, rr, b⟩
  have oN : SOwn x10 x9.heap.size x10.heap.size ⟨some ⟨gi, 0, none⟩, mi, ci⟩ (tagIn role (draftD l epoch seq kind (mixI lk (headL role l epoch seq) pl) (List.replicate 16 0))) := SOwn.row rr em (tagIn_bytes _ _ HS.out.bytes (mixI_bytes _ _ _ HP.out.bytes)) kg rr.lt
  clear em kg rr
  have L10 := hid (b.size)
  have B10 := hid (B9.out.trans (b.mono B9.out.size))
  have KO10 := hid (KO9.out.later b)
  have OT10 := hid (OT9.out.later b)
  have KD10 := hid (KD9.out.later b)
  have ON10 := hid (ON9.out.later b)
  have Oh_10 := hid (Oh_9.out.later b)
  have Ob_10 := hid (Ob_9.out.later b)
  clear b B9 KO9 OT9 KD9 ON9 Oh_9 Ob_9
  have Oi_10 := hid (oN)
  clear oN
  clear d0 d1 d2 d3 d4 d5 d6 d7 d8 d9 d10
  have HIL : Hid (mi ≤ 65) := by have h1 := Oi_10.out.len; have h2 := tagIn_le role (draftD l epoch seq kind (mixI lk (headL role l epoch seq) pl) (List.replicate 16 0)); simp only at h1; show _ ≤ _; omega
  go_wp2_with fail
  refine (implTag k.a k.n k.c (some ⟨gi, 0, none⟩) mi ci lk (tagIn role (draftD l epoch seq kind (mixI lk (headL role l epoch seq) pl) (List.replicate 16 0))) x10 (HT.out.later B10.out) HLK.out.1 Oi_10.out.len (HK.out.later B10.out).rd Oi_10.out.rd.rd HK.out.nil (by intro e; cases e) HK.out.bytes Oi_10.out.rd.bytes (by have := hid2 HL HLK; omega) (by have := HIL.out; omega)).mono ?_
  rintro e x11 ⟨gt, mt, ct, rfl, em, kg, rr, b⟩
  have oN : SOwn x11 x10.heap.size x11.heap.size ⟨some ⟨gt, 0, none⟩, mt, ct⟩ (tagI lk (tagIn role (draftD l epoch seq kind (mixI lk (headL role l epoch seq) pl) (List.replicate 16 0)))) := SOwn.row rr em (tagI_bytes _ _) kg rr.lt
  clear em kg rr
  have L11 := hid (b.size)
  have B11 := hid (B10.out.trans (b.mono B10.out.size))
  have KO11 := hid (KO10.out.later b)
  have OT11 := hid (OT10.out.later b)
  have KD11 := hid (KD10.out.later b)
  have ON11 := hid (ON10.out.later b)
  have Oh_11 := hid (Oh_10.out.later b)
  have Ob_11 := hid (Ob_10.out.later b)
  have Oi_11 := hid (Oi_10.out.later b)
  clear b B10 KO10 OT10 KD10 ON10 Oh_10 Ob_10 Oi_10
  have Ot_11 := hid (oN)
  clear oN
  have co := KD11.out.cell 10 rfl
  have fo := KD11.out.frozen 10
  obtain ⟨x12, hx12⟩ : ∃ x12, x11.setCell ⟨gd, 10, none⟩ (.slice (some ⟨gt, 0, none⟩) mt ct) = x12 := ⟨_, rfl⟩
  have HW12 := hid (hx12)
  have L12 : Hid (x12.heap.size = x11.heap.size) := by rw [← hx12]; show _ = _; simp
  have B12 : Hid (Below w.heap.size w x12) := by rw [← hx12]; exact B11.out.setCell (by show _ ≤ gd; have := hid8 L1 Ggo L2 L3 Ggd L4 L5 L6; have := hid5 L7 L8 L9 L10 L11; omega) _
  have KO12 : Hid (Blk x12 go 27 [.int .i64 0, .int .i64 0, .slice none 0 0, .slice none 0 0, .int .i64 0, .slice none 0 0, .slice none 0 0, .int .i64 0, .int .i64 0, .slice none 0 0, .slice none 0 0]) := by rw [← hx12]; exact KO11.out.other (by show go ≠ gd; have := hid8 L1 Ggo L2 L3 Ggd L4 L5 L6; have := hid5 L7 L8 L9 L10 L11; omega) _
  have OT12 : Hid (SOwn x12 x1.heap.size x2.heap.size ⟨some ⟨gz, 0, none⟩, 16, 16⟩ (List.replicate 16 0)) := by rw [← hx12]; exact OT11.out.carry (Kept.setCell _ _ _ _) (by have := hid8 L1 Ggo L2 L3 Ggd L4 L5 L6; have := hid5 L7 L8 L9 L10 L11; omega)
  have KD12 : Hid (Blk x12 gd 27 [.int .i64 kind, .int .i64 0, .slice none 0 0, .slice (some ⟨gs, 0, none⟩) ms cs, .int .i64 0, .slice none 0 0, .slice none 0 0, .int .i64 epoch, .int .i64 seq, .slice (some ⟨gb, 0, none⟩) mb cb, .slice (some ⟨gt, 0, none⟩) mt ct]) := by rw [← hx12]; exact KD11.out.set 10 _ (by simp [maxLen])
  have ON12 : Hid (SOwn x12 x4.heap.size x5.heap.size ⟨some ⟨gs, 0, none⟩, ms, cs⟩ l) := by rw [← hx12]; exact ON11.out.carry (Kept.setCell _ _ _ _) (by have := hid8 L1 Ggo L2 L3 Ggd L4 L5 L6; have := hid5 L7 L8 L9 L10 L11; omega)
  have Oh_12 : Hid (SOwn x12 x6.heap.size x7.heap.size ⟨some ⟨gh, 0, none⟩, mh, ch⟩ (headL role l epoch seq)) := by rw [← hx12]; exact Oh_11.out.carry (Kept.setCell _ _ _ _) (by have := hid8 L1 Ggo L2 L3 Ggd L4 L5 L6; have := hid5 L7 L8 L9 L10 L11; omega)
  have Ob_12 : Hid (SOwn x12 x7.heap.size x8.heap.size ⟨some ⟨gb, 0, none⟩, mb, cb⟩ (mixI lk (headL role l epoch seq) pl)) := by rw [← hx12]; exact Ob_11.out.carry (Kept.setCell _ _ _ _) (by have := hid8 L1 Ggo L2 L3 Ggd L4 L5 L6; have := hid5 L7 L8 L9 L10 L11; omega)
  have Oi_12 : Hid (SOwn x12 x9.heap.size x10.heap.size ⟨some ⟨gi, 0, none⟩, mi, ci⟩ (tagIn role (draftD l epoch seq kind (mixI lk (headL role l epoch seq) pl) (List.replicate 16 0)))) := by rw [← hx12]; exact Oi_11.out.carry (Kept.setCell _ _ _ _) (by have := hid8 L1 Ggo L2 L3 Ggd L4 L5 L6; have := hid5 L7 L8 L9 L10 L11; omega)
  have Ot_12 : Hid (SOwn x12 x10.heap.size x11.heap.size ⟨some ⟨gt, 0, none⟩, mt, ct⟩ (tagI lk (tagIn role (draftD l epoch seq kind (mixI lk (headL role l epoch seq) pl) (List.replicate 16 0))))) := by rw [← hx12]; exact Ot_11.out.carry (Kept.setCell _ _ _ _) (by have := hid8 L1 Ggo L2 L3 Ggd L4 L5 L6; have := hid5 L7 L8 L9 L10 L11; omega)
  clear hx12 B11 KO11 OT11 KD11 ON11 Oh_11 Ob_11 Oi_11 Ot_11
  go_upto_region 7 with fail
  rw [HW12.out]
  clear HW12 co fo
  obtain ⟨d0, d1, d2, d3, d4, d5, d6, d7, d8, d9, d10⟩ := cells11 KD12.out
  have co0 := KO12.out.cell 0 rfl
  have fo0 := KO12.out.frozen 0
  have co1 := KO12.out.cell 1 rfl
  have fo1 := KO12.out.frozen 1
  have co2 := KO12.out.cell 2 rfl
  have fo2 := KO12.out.frozen 2
  have co3 := KO12.out.cell 3 rfl
  have fo3 := KO12.out.frozen 3
  have co4 := KO12.out.cell 4 rfl
  have fo4 := KO12.out.frozen 4
  have co5 := KO12.out.cell 5 rfl
  have fo5 := KO12.out.frozen 5
  have co6 := KO12.out.cell 6 rfl
  have fo6 := KO12.out.frozen 6
  have co7 := KO12.out.cell 7 rfl
  have fo7 := KO12.out.frozen 7
  have co8 := KO12.out.cell 8 rfl
  have fo8 := KO12.out.frozen 8
  have co9 := KO12.out.cell 9 rfl
  have fo9 := KO12.out.frozen 9
  have co10 := KO12.out.cell 10 rfl
  have fo10 := KO12.out.frozen 10
  go_wp2
  have SZ : Hid (w.heap.size ≤ go ∧ go + 1 ≤ x4.heap.size ∧ x4.heap.size ≤ x5.heap.size ∧ x5.heap.size ≤ x7.heap.size ∧ x7.heap.size ≤ x8.heap.size ∧ x8.heap.size ≤ x10.heap.size ∧ x10.heap.size ≤ x11.heap.size ∧ x11.heap.size ≤ x12.heap.size) := by have := hid8 L1 Ggo L2 L3 Ggd L4 L5 L6; have := hid6 L7 L8 L9 L10 L11 L12; show _ ∧ _; omega
  have OW : FrOwn x12 x4.heap.size x12.heap.size (draftS ⟨some ⟨gs, 0, none⟩, ms, cs⟩ ⟨some ⟨gb, 0, none⟩, mb, cb⟩ ⟨some ⟨gt, 0, none⟩, mt, ct⟩) (sealD lk role l epoch seq kind pl) := draft_own (ON12.out) (Ob_12.out) (Ot_12.out) (by have := SZ.out; omega) (by have := SZ.out; omega) (by have := SZ.out; omega) (by have := SZ.out; omega) (by have := SZ.out; omega)
  obtain ⟨k1, k2, k3⟩ := fr_stored (D := sealD lk role l epoch seq kind pl) (S := (draftS ⟨some ⟨gs, 0, none⟩, ms, cs⟩ ⟨some ⟨gb, 0, none⟩, mb, cb⟩ ⟨some ⟨gt, 0, none⟩, mt, ct⟩)) KO12.out OW (.inl (by have := SZ.out; omega))
  exact bodyPost_ret (v := .tuple #[frV (sealD lk role l epoch seq kind pl) (draftS ⟨some ⟨gs, 0, none⟩, ms, cs⟩ ⟨some ⟨gb, 0, none⟩, mb, cb⟩ ⟨some ⟨gt, 0, none⟩, mt, ct⟩), .bool true]) (res2 rfl (is_cell rfl k1 aggFr) (is_tmp rfl)) rfl ⟨(draftS ⟨some ⟨gs, 0, none⟩, ms, cs⟩ ⟨some ⟨gb, 0, none⟩, mb, cb⟩ ⟨some ⟨gt, 0, none⟩, mt, ct⟩), rfl, k2.mono (by have := SZ.out; omega) (by rw [fr_size]; exact Nat.le_refl _), k3 _ _ (by have := SZ.out; omega) B12.out⟩

end Go.Proofs.YtmcflfpckpjphaaGreatDoor.SealI
