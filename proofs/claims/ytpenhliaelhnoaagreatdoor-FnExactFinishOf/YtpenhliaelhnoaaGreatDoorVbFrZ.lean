/-
  The struct Frame: its data, its value, what it reads as, what it owns; and what the laws' helpers over it answer.
-/
import Derived.Test.YtpenhliaelhnoaaGreatDoorVbGz6
import Derived.Deep.CutBlock
set_option maxRecDepth 100000
namespace Go.Proofs.YtpenhliaelhnoaaGreatDoor.FrZ
open Go.RowKit Mem Blk Zone ZoneB Res

structure FrD where
 kind : Int
 id : Int
 cn : List Int
 sn : List Int
 tick : Int
 cookie : List Int
 proof : List Int
 epoch : Int
 seq : Int
 body : List Int
 tag : List Int
structure FrS where
 cn : Sl
 sn : Sl
 cookie : Sl
 proof : Sl
 body : Sl
 tag : Sl
def frV (D : FrD) (S : FrS) : Value := .agg #[.int .i64 D.kind, .int .i64 D.id, .slice S.cn.a S.cn.n S.cn.c, .slice S.sn.a S.sn.n S.sn.c, .int .i64 D.tick, .slice S.cookie.a S.cookie.n S.cookie.c, .slice S.proof.a S.proof.n S.proof.c, .int .i64 D.epoch, .int .i64 D.seq, .slice S.body.a S.body.n S.body.c, .slice S.tag.a S.tag.n S.tag.c]
structure FrRd (w : World) (S : FrS) (D : FrD) : Prop where
 cn : SRd w S.cn D.cn
 sn : SRd w S.sn D.sn
 cookie : SRd w S.cookie D.cookie
 proof : SRd w S.proof D.proof
 body : SRd w S.body D.body
 tag : SRd w S.tag D.tag
structure FrApart (S : FrS) : Prop where
 cnsn : S.cn.a = none ∨ S.cn.a ≠ S.sn.a
 cncookie : S.cn.a = none ∨ S.cn.a ≠ S.cookie.a
 cnproof : S.cn.a = none ∨ S.cn.a ≠ S.proof.a
 cnbody : S.cn.a = none ∨ S.cn.a ≠ S.body.a
 cntag : S.cn.a = none ∨ S.cn.a ≠ S.tag.a
 sncookie : S.sn.a = none ∨ S.sn.a ≠ S.cookie.a
 snproof : S.sn.a = none ∨ S.sn.a ≠ S.proof.a
 snbody : S.sn.a = none ∨ S.sn.a ≠ S.body.a
 sntag : S.sn.a = none ∨ S.sn.a ≠ S.tag.a
 cookieproof : S.cookie.a = none ∨ S.cookie.a ≠ S.proof.a
 cookiebody : S.cookie.a = none ∨ S.cookie.a ≠ S.body.a
 cookietag : S.cookie.a = none ∨ S.cookie.a ≠ S.tag.a
 proofbody : S.proof.a = none ∨ S.proof.a ≠ S.body.a
 prooftag : S.proof.a = none ∨ S.proof.a ≠ S.tag.a
 bodytag : S.body.a = none ∨ S.body.a ≠ S.tag.a
structure FrOwn (w : World) (lo hi : Nat) (S : FrS) (D : FrD) : Prop where
 cn : SOwn w lo hi S.cn D.cn
 sn : SOwn w lo hi S.sn D.sn
 cookie : SOwn w lo hi S.cookie D.cookie
 proof : SOwn w lo hi S.proof D.proof
 body : SOwn w lo hi S.body D.body
 tag : SOwn w lo hi S.tag D.tag
 apart : FrApart S
theorem FrOwn.rd {w : World} {lo hi : Nat} {S : FrS} {D : FrD} (h : FrOwn w lo hi S D) : FrRd w S D := ⟨h.cn.rd, h.sn.rd, h.cookie.rd, h.proof.rd, h.body.rd, h.tag.rd⟩
theorem FrOwn.carry {w w' : World} {lo hi a b : Nat} {S : FrS} {D : FrD} (h : FrOwn w lo hi S D) (k : Kept a b w w') (d : hi ≤ a ∨ b ≤ lo) : FrOwn w' lo hi S D := ⟨h.cn.carry k d, h.sn.carry k d, h.cookie.carry k d, h.proof.carry k d, h.body.carry k d, h.tag.carry k d, h.apart⟩
theorem FrOwn.later {w w' : World} {lo hi : Nat} {S : FrS} {D : FrD} (h : FrOwn w lo hi S D) (k : Below w.heap.size w w') : FrOwn w' lo hi S D := h.carry (Kept.of_below k hi) (.inl (Nat.le_refl _))
theorem FrOwn.mono {w : World} {lo hi lo' hi' : Nat} {S : FrS} {D : FrD} (h : FrOwn w lo hi S D) (h1 : lo' ≤ lo) (h2 : hi ≤ hi') : FrOwn w lo' hi' S D := ⟨h.cn.mono h1 h2, h.sn.mono h1 h2, h.cookie.mono h1 h2, h.proof.mono h1 h2, h.body.mono h1 h2, h.tag.mono h1 h2, h.apart⟩
theorem FrRd.later {w w' : World} {S : FrS} {D : FrD} (h : FrRd w S D) (k : Below w.heap.size w w') : FrRd w' S D := ⟨h.cn.later k, h.sn.later k, h.cookie.later k, h.proof.later k, h.body.later k, h.tag.later k⟩
structure FrShort (D : FrD) (n : Nat) : Prop where
 cn : D.cn.length ≤ n
 sn : D.sn.length ≤ n
 cookie : D.cookie.length ≤ n
 proof : D.proof.length ≤ n
 body : D.body.length ≤ n
 tag : D.tag.length ≤ n
theorem aggFr : aggB Tryz.prog 25 11 = true := by kernel_rfl

set_option maxHeartbeats 4000000 in
theorem toFrame (S : FrS) (D : FrD) (w : World) (h : FrRd w S D) (hl : FrShort D 4194304) :
  Calls Tryz.prog 19 #[frV D S] w fun e w' => ∃ S', e = .returned (frV D S') ∧ FrOwn w' w.heap.size w'.heap.size S' D ∧ Below w.heap.size w w' := by
 have HR := hid (h)
 have HL := hid (hl)
 obtain ⟨x0, hx0⟩ : ∃ x0, ((w.alloc (.cells #[.int .i64 D.kind, .int .i64 D.id, .slice S.cn.a S.cn.n S.cn.c, .slice S.sn.a S.sn.n S.sn.c, .int .i64 D.tick, .slice S.cookie.a S.cookie.n S.cookie.c, .slice S.proof.a S.proof.n S.proof.c, .int .i64 D.epoch, .int .i64 D.seq, .slice S.body.a S.body.n S.body.c, .slice S.tag.a S.tag.n S.tag.c] 37)).alloc (.cells #[.int .i64 0, .int .i64 0, .slice none 0 0, .slice none 0 0, .int .i64 0, .slice none 0 0, .slice none 0 0, .int .i64 0, .int .i64 0, .slice none 0 0, .slice none 0 0] 25)).alloc (.cells #[.int .i64 0, .int .i64 0, .slice none 0 0, .slice none 0 0, .int .i64 0, .slice none 0 0, .slice none 0 0, .int .i64 0, .int .i64 0, .slice none 0 0, .slice none 0 0] 25) = x0 := ⟨_, rfl⟩
 have HW0 := hid (hx0)
 have B0 : Hid (Below w.heap.size w x0) := by rw [← hx0]; exact (((Below.refl _ _).alloc (Nat.le_refl _) _).alloc (by simp) _).alloc (by simp; omega) _
 have KA0 : Hid (Blk x0 w.heap.size 37 [.int .i64 D.kind, .int .i64 D.id, .slice S.cn.a S.cn.n S.cn.c, .slice S.sn.a S.sn.n S.sn.c, .int .i64 D.tick, .slice S.cookie.a S.cookie.n S.cookie.c, .slice S.proof.a S.proof.n S.proof.c, .int .i64 D.epoch, .int .i64 D.seq, .slice S.body.a S.body.n S.body.c, .slice S.tag.a S.tag.n S.tag.c]) := by rw [← hx0]; exact ((Blk.new w _ _).alloc _).alloc _
 have KR0 : Hid (Blk x0 (w.heap.size + 1) 25 [.int .i64 0, .int .i64 0, .slice none 0 0, .slice none 0 0, .int .i64 0, .slice none 0 0, .slice none 0 0, .int .i64 0, .int .i64 0, .slice none 0 0, .slice none 0 0]) := by
  have := Blk.new (w.alloc (.cells #[.int .i64 D.kind, .int .i64 D.id, .slice S.cn.a S.cn.n S.cn.c, .slice S.sn.a S.sn.n S.sn.c, .int .i64 D.tick, .slice S.cookie.a S.cookie.n S.cookie.c, .slice S.proof.a S.proof.n S.proof.c, .int .i64 D.epoch, .int .i64 D.seq, .slice S.body.a S.body.n S.body.c, .slice S.tag.a S.tag.n S.tag.c] 37)) 25 [.int .i64 0, .int .i64 0, .slice none 0 0, .slice none 0 0, .int .i64 0, .slice none 0 0, .slice none 0 0, .int .i64 0, .int .i64 0, .slice none 0 0, .slice none 0 0]
  rw [World.size_alloc] at this
  rw [← hx0]; exact this.alloc _
 have KO0 : Hid (Blk x0 (w.heap.size + 1 + 1) 25 [.int .i64 0, .int .i64 0, .slice none 0 0, .slice none 0 0, .int .i64 0, .slice none 0 0, .slice none 0 0, .int .i64 0, .int .i64 0, .slice none 0 0, .slice none 0 0]) := by
  have := Blk.new ((w.alloc (.cells #[.int .i64 D.kind, .int .i64 D.id, .slice S.cn.a S.cn.n S.cn.c, .slice S.sn.a S.sn.n S.sn.c, .int .i64 D.tick, .slice S.cookie.a S.cookie.n S.cookie.c, .slice S.proof.a S.proof.n S.proof.c, .int .i64 D.epoch, .int .i64 D.seq, .slice S.body.a S.body.n S.body.c, .slice S.tag.a S.tag.n S.tag.c] 37)).alloc (.cells #[.int .i64 0, .int .i64 0, .slice none 0 0, .slice none 0 0, .int .i64 0, .slice none 0 0, .slice none 0 0, .int .i64 0, .int .i64 0, .slice none 0 0, .slice none 0 0] 25)) 25 [.int .i64 0, .int .i64 0, .slice none 0 0, .slice none 0 0, .int .i64 0, .slice none 0 0, .slice none 0 0, .int .i64 0, .int .i64 0, .slice none 0 0, .slice none 0 0]
  rw [World.size_alloc, World.size_alloc] at this
  rw [← hx0]; exact this
 have Z0 : Hid (w.heap.size + 1 + 1 < x0.heap.size) := KO0.out.lt
 clear h hl hx0
 unfold frV
 go_enter Tryz.func19, Tryz.ntmps19
 go_upto_region 2 with fail
 rw [HW0.out]
 obtain ⟨ga, hga⟩ : ∃ ga, w.heap.size = ga := ⟨_, rfl⟩
 obtain ⟨gr, hgr⟩ : ∃ gr, w.heap.size + 1 = gr := ⟨_, rfl⟩
 obtain ⟨go, hgo⟩ : ∃ go, w.heap.size + 1 + 1 = go := ⟨_, rfl⟩
 have HGS : Hid (ga = w.heap.size ∧ gr = ga + 1 ∧ go = gr + 1) := ⟨hga.symm, by omega, by omega⟩
 rw [hgo] at KO0 Z0
 rw [hgr] at KR0
 rw [hga] at KA0
 rw [hgo, hgr, hga]
 clear HW0 hga hgr hgo
 have ca := KA0.out.cell 0 rfl
 obtain ⟨x1, hx1⟩ : ∃ x1, x0.setCell ⟨go, 0, none⟩ (.int .i64 D.kind) = x1 := ⟨_, rfl⟩
 have HW := hid (hx1)
 have co := KO0.out.cell 0 rfl
 have fo := KO0.out.frozen 0
 have KA1 : Hid (Blk x1 ga 37 [.int .i64 D.kind, .int .i64 D.id, .slice S.cn.a S.cn.n S.cn.c, .slice S.sn.a S.sn.n S.sn.c, .int .i64 D.tick, .slice S.cookie.a S.cookie.n S.cookie.c, .slice S.proof.a S.proof.n S.proof.c, .int .i64 D.epoch, .int .i64 D.seq, .slice S.body.a S.body.n S.body.c, .slice S.tag.a S.tag.n S.tag.c]) := by rw [← hx1]; exact KA0.out.other (by show ga ≠ go; have := HGS.out; omega) _
 have KR1 : Hid (Blk x1 gr 25 [.int .i64 0, .int .i64 0, .slice none 0 0, .slice none 0 0, .int .i64 0, .slice none 0 0, .slice none 0 0, .int .i64 0, .int .i64 0, .slice none 0 0, .slice none 0 0]) := by rw [← hx1]; exact KR0.out.other (by show gr ≠ go; have := HGS.out; omega) _
 have KO1 : Hid (Blk x1 go 25 [.int .i64 D.kind, .int .i64 0, .slice none 0 0, .slice none 0 0, .int .i64 0, .slice none 0 0, .slice none 0 0, .int .i64 0, .int .i64 0, .slice none 0 0, .slice none 0 0]) := by rw [← hx1]; exact KO0.out.set 0 _ (by simp [maxLen])
 have B1 : Hid (Below w.heap.size w x1) := by rw [← hx1]; exact B0.out.setCell (by show _ ≤ go; have := HGS.out; omega) _
 have KS1 : Hid (Kept go (go + 1) x0 x1) := by rw [← hx1]; exact Kept.setCell _ _ _ _
 have ZS1 : Hid (x1.heap.size = x0.heap.size) := by rw [← hx1]; show _ = _; simp
 clear hx1
 go_upto_region 3 with fail
 rw [HW.out]
 clear HW co fo KA0 KR0 KO0 ca B0
 have ca := KA1.out.cell 1 rfl
 obtain ⟨x2, hx2⟩ : ∃ x2, x1.setCell ⟨go, 1, none⟩ (.int .i64 D.id) = x2 := ⟨_, rfl⟩
 have HW := hid (hx2)
 have co := KO1.out.cell 1 rfl
 have fo := KO1.out.frozen 1
 have KA2 : Hid (Blk x2 ga 37 [.int .i64 D.kind, .int .i64 D.id, .slice S.cn.a S.cn.n S.cn.c, .slice S.sn.a S.sn.n S.sn.c, .int .i64 D.tick, .slice S.cookie.a S.cookie.n S.cookie.c, .slice S.proof.a S.proof.n S.proof.c, .int .i64 D.epoch, .int .i64 D.seq, .slice S.body.a S.body.n S.body.c, .slice S.tag.a S.tag.n S.tag.c]) := by rw [← hx2]; exact KA1.out.other (by show ga ≠ go; have := HGS.out; omega) _
 have KR2 : Hid (Blk x2 gr 25 [.int .i64 0, .int .i64 0, .slice none 0 0, .slice none 0 0, .int .i64 0, .slice none 0 0, .slice none 0 0, .int .i64 0, .int .i64 0, .slice none 0 0, .slice none 0 0]) := by rw [← hx2]; exact KR1.out.other (by show gr ≠ go; have := HGS.out; omega) _
 have KO2 : Hid (Blk x2 go 25 [.int .i64 D.kind, .int .i64 D.id, .slice none 0 0, .slice none 0 0, .int .i64 0, .slice none 0 0, .slice none 0 0, .int .i64 0, .int .i64 0, .slice none 0 0, .slice none 0 0]) := by rw [← hx2]; exact KO1.out.set 1 _ (by simp [maxLen])
 have B2 : Hid (Below w.heap.size w x2) := by rw [← hx2]; exact B1.out.setCell (by show _ ≤ go; have := HGS.out; omega) _
 have KS2 : Hid (Kept go (go + 1) x1 x2) := by rw [← hx2]; exact Kept.setCell _ _ _ _
 have ZS2 : Hid (x2.heap.size = x1.heap.size) := by rw [← hx2]; show _ = _; simp
 clear hx2
 go_upto_region 4 with fail
 rw [HW.out]
 clear HW co fo KA1 KR1 KO1 ca B1
 have ca := KA2.out.cell 2 rfl
 go_wp2_with fail
 refine (toB S.cn D.cn x2 (HR.out.cn.later (Below.mono B2.out (Nat.le_refl _))) HL.out.cn).mono ?_
 rintro e y2 ⟨rfl, o2, b2⟩
 have Ocn := hid (o2)
 have LTcn : Hid (x2.heap.size < y2.heap.size) := by obtain ⟨_, ⟨h1, _⟩ | ⟨g, h1, _, h3, h4, _⟩⟩ := o2; (· cases h1); (· show _ < _; omega)
 have BN2 := hid (B2.out.trans (b2.mono B2.out.size))
 have KA2b := hid (KA2.out.later b2)
 have KR2b := hid (KR2.out.later b2)
 have KO2b := hid (KO2.out.later b2)
 have KP2 : Hid (Kept go (go + 1) x2 y2) := (Kept.of_below b2 0).any
 have LOcn : Hid (go + 1 ≤ x2.heap.size) := KO2.out.lt
 clear o2 b2 ca
 obtain ⟨x3, hx3⟩ : ∃ x3, y2.setCell ⟨go, 2, none⟩ (.slice (some ⟨x2.heap.size, 0, none⟩) S.cn.n S.cn.n) = x3 := ⟨_, rfl⟩
 have HW := hid (hx3)
 have co := KO2b.out.cell 2 rfl
 have fo := KO2b.out.frozen 2
 have KA3 : Hid (Blk x3 ga 37 [.int .i64 D.kind, .int .i64 D.id, .slice S.cn.a S.cn.n S.cn.c, .slice S.sn.a S.sn.n S.sn.c, .int .i64 D.tick, .slice S.cookie.a S.cookie.n S.cookie.c, .slice S.proof.a S.proof.n S.proof.c, .int .i64 D.epoch, .int .i64 D.seq, .slice S.body.a S.body.n S.body.c, .slice S.tag.a S.tag.n S.tag.c]) := by rw [← hx3]; exact KA2b.out.other (by show ga ≠ go; have := HGS.out; omega) _
 have KR3 : Hid (Blk x3 gr 25 [.int .i64 0, .int .i64 0, .slice none 0 0, .slice none 0 0, .int .i64 0, .slice none 0 0, .slice none 0 0, .int .i64 0, .int .i64 0, .slice none 0 0, .slice none 0 0]) := by rw [← hx3]; exact KR2b.out.other (by show gr ≠ go; have := HGS.out; omega) _
 have KO3 : Hid (Blk x3 go 25 [.int .i64 D.kind, .int .i64 D.id, .slice (some ⟨x2.heap.size, 0, none⟩) S.cn.n S.cn.n, .slice none 0 0, .int .i64 0, .slice none 0 0, .slice none 0 0, .int .i64 0, .int .i64 0, .slice none 0 0, .slice none 0 0]) := by rw [← hx3]; exact KO2b.out.set 2 _ (by simp [maxLen])
 have B3 : Hid (Below w.heap.size w x3) := by rw [← hx3]; exact BN2.out.setCell (by show _ ≤ go; have := HGS.out; omega) _
 have KS3 : Hid (Kept go (go + 1) y2 x3) := by rw [← hx3]; exact Kept.setCell _ _ _ _
 have ZS3 : Hid (x3.heap.size = y2.heap.size) := by rw [← hx3]; show _ = _; simp
 clear hx3
 go_upto_region 5 with fail
 rw [HW.out]
 clear HW co fo KA2 KR2 KO2 KA2b KR2b KO2b B2
 have ca := KA3.out.cell 3 rfl
 go_wp2_with fail
 refine (toB S.sn D.sn x3 (HR.out.sn.later (Below.mono B3.out (Nat.le_refl _))) HL.out.sn).mono ?_
 rintro e y3 ⟨rfl, o3, b3⟩
 have Osn := hid (o3)
 have LTsn : Hid (x3.heap.size < y3.heap.size) := by obtain ⟨_, ⟨h1, _⟩ | ⟨g, h1, _, h3, h4, _⟩⟩ := o3; (· cases h1); (· show _ < _; omega)
 have BN3 := hid (B3.out.trans (b3.mono B3.out.size))
 have KA3b := hid (KA3.out.later b3)
 have KR3b := hid (KR3.out.later b3)
 have KO3b := hid (KO3.out.later b3)
 have KP3 : Hid (Kept go (go + 1) x3 y3) := (Kept.of_below b3 0).any
 have LOsn : Hid (go + 1 ≤ x3.heap.size) := KO3.out.lt
 clear o3 b3 ca
 obtain ⟨x4, hx4⟩ : ∃ x4, y3.setCell ⟨go, 3, none⟩ (.slice (some ⟨x3.heap.size, 0, none⟩) S.sn.n S.sn.n) = x4 := ⟨_, rfl⟩
 have HW := hid (hx4)
 have co := KO3b.out.cell 3 rfl
 have fo := KO3b.out.frozen 3
 have KA4 : Hid (Blk x4 ga 37 [.int .i64 D.kind, .int .i64 D.id, .slice S.cn.a S.cn.n S.cn.c, .slice S.sn.a S.sn.n S.sn.c, .int .i64 D.tick, .slice S.cookie.a S.cookie.n S.cookie.c, .slice S.proof.a S.proof.n S.proof.c, .int .i64 D.epoch, .int .i64 D.seq, .slice S.body.a S.body.n S.body.c, .slice S.tag.a S.tag.n S.tag.c]) := by rw [← hx4]; exact KA3b.out.other (by show ga ≠ go; have := HGS.out; omega) _
 have KR4 : Hid (Blk x4 gr 25 [.int .i64 0, .int .i64 0, .slice none 0 0, .slice none 0 0, .int .i64 0, .slice none 0 0, .slice none 0 0, .int .i64 0, .int .i64 0, .slice none 0 0, .slice none 0 0]) := by rw [← hx4]; exact KR3b.out.other (by show gr ≠ go; have := HGS.out; omega) _
 have KO4 : Hid (Blk x4 go 25 [.int .i64 D.kind, .int .i64 D.id, .slice (some ⟨x2.heap.size, 0, none⟩) S.cn.n S.cn.n, .slice (some ⟨x3.heap.size, 0, none⟩) S.sn.n S.sn.n, .int .i64 0, .slice none 0 0, .slice none 0 0, .int .i64 0, .int .i64 0, .slice none 0 0, .slice none 0 0]) := by rw [← hx4]; exact KO3b.out.set 3 _ (by simp [maxLen])
 have B4 : Hid (Below w.heap.size w x4) := by rw [← hx4]; exact BN3.out.setCell (by show _ ≤ go; have := HGS.out; omega) _
 have KS4 : Hid (Kept go (go + 1) y3 x4) := by rw [← hx4]; exact Kept.setCell _ _ _ _
 have ZS4 : Hid (x4.heap.size = y3.heap.size) := by rw [← hx4]; show _ = _; simp
 clear hx4
 go_upto_region 6 with fail
 rw [HW.out]
 clear HW co fo KA3 KR3 KO3 KA3b KR3b KO3b B3
 have ca := KA4.out.cell 4 rfl
 obtain ⟨x5, hx5⟩ : ∃ x5, x4.setCell ⟨go, 4, none⟩ (.int .i64 D.tick) = x5 := ⟨_, rfl⟩
 have HW := hid (hx5)
 have co := KO4.out.cell 4 rfl
 have fo := KO4.out.frozen 4
 have KA5 : Hid (Blk x5 ga 37 [.int .i64 D.kind, .int .i64 D.id, .slice S.cn.a S.cn.n S.cn.c, .slice S.sn.a S.sn.n S.sn.c, .int .i64 D.tick, .slice S.cookie.a S.cookie.n S.cookie.c, .slice S.proof.a S.proof.n S.proof.c, .int .i64 D.epoch, .int .i64 D.seq, .slice S.body.a S.body.n S.body.c, .slice S.tag.a S.tag.n S.tag.c]) := by rw [← hx5]; exact KA4.out.other (by show ga ≠ go; have := HGS.out; omega) _
 have KR5 : Hid (Blk x5 gr 25 [.int .i64 0, .int .i64 0, .slice none 0 0, .slice none 0 0, .int .i64 0, .slice none 0 0, .slice none 0 0, .int .i64 0, .int .i64 0, .slice none 0 0, .slice none 0 0]) := by rw [← hx5]; exact KR4.out.other (by show gr ≠ go; have := HGS.out; omega) _
 have KO5 : Hid (Blk x5 go 25 [.int .i64 D.kind, .int .i64 D.id, .slice (some ⟨x2.heap.size, 0, none⟩) S.cn.n S.cn.n, .slice (some ⟨x3.heap.size, 0, none⟩) S.sn.n S.sn.n, .int .i64 D.tick, .slice none 0 0, .slice none 0 0, .int .i64 0, .int .i64 0, .slice none 0 0, .slice none 0 0]) := by rw [← hx5]; exact KO4.out.set 4 _ (by simp [maxLen])
 have B5 : Hid (Below w.heap.size w x5) := by rw [← hx5]; exact B4.out.setCell (by show _ ≤ go; have := HGS.out; omega) _
 have KS5 : Hid (Kept go (go + 1) x4 x5) := by rw [← hx5]; exact Kept.setCell _ _ _ _
 have ZS5 : Hid (x5.heap.size = x4.heap.size) := by rw [← hx5]; show _ = _; simp
 clear hx5
 go_upto_region 7 with fail
 rw [HW.out]
 clear HW co fo KA4 KR4 KO4 ca B4
 have ca := KA5.out.cell 5 rfl
 go_wp2_with fail
 refine (toB S.cookie D.cookie x5 (HR.out.cookie.later (Below.mono B5.out (Nat.le_refl _))) HL.out.cookie).mono ?_
 rintro e y5 ⟨rfl, o5, b5⟩
 have Ocookie := hid (o5)
 have LTcookie : Hid (x5.heap.size < y5.heap.size) := by obtain ⟨_, ⟨h1, _⟩ | ⟨g, h1, _, h3, h4, _⟩⟩ := o5; (· cases h1); (· show _ < _; omega)
 have BN5 := hid (B5.out.trans (b5.mono B5.out.size))
 have KA5b := hid (KA5.out.later b5)
 have KR5b := hid (KR5.out.later b5)
 have KO5b := hid (KO5.out.later b5)
 have KP5 : Hid (Kept go (go + 1) x5 y5) := (Kept.of_below b5 0).any
 have LOcookie : Hid (go + 1 ≤ x5.heap.size) := KO5.out.lt
 clear o5 b5 ca
 obtain ⟨x6, hx6⟩ : ∃ x6, y5.setCell ⟨go, 5, none⟩ (.slice (some ⟨x5.heap.size, 0, none⟩) S.cookie.n S.cookie.n) = x6 := ⟨_, rfl⟩
 have HW := hid (hx6)
 have co := KO5b.out.cell 5 rfl
 have fo := KO5b.out.frozen 5
 have KA6 : Hid (Blk x6 ga 37 [.int .i64 D.kind, .int .i64 D.id, .slice S.cn.a S.cn.n S.cn.c, .slice S.sn.a S.sn.n S.sn.c, .int .i64 D.tick, .slice S.cookie.a S.cookie.n S.cookie.c, .slice S.proof.a S.proof.n S.proof.c, .int .i64 D.epoch, .int .i64 D.seq, .slice S.body.a S.body.n S.body.c, .slice S.tag.a S.tag.n S.tag.c]) := by rw [← hx6]; exact KA5b.out.other (by show ga ≠ go; have := HGS.out; omega) _
 have KR6 : Hid (Blk x6 gr 25 [.int .i64 0, .int .i64 0, .slice none 0 0, .slice none 0 0, .int .i64 0, .slice none 0 0, .slice none 0 0, .int .i64 0, .int .i64 0, .slice none 0 0, .slice none 0 0]) := by rw [← hx6]; exact KR5b.out.other (by show gr ≠ go; have := HGS.out; omega) _
 have KO6 : Hid (Blk x6 go 25 [.int .i64 D.kind, .int .i64 D.id, .slice (some ⟨x2.heap.size, 0, none⟩) S.cn.n S.cn.n, .slice (some ⟨x3.heap.size, 0, none⟩) S.sn.n S.sn.n, .int .i64 D.tick, .slice (some ⟨x5.heap.size, 0, none⟩) S.cookie.n S.cookie.n, .slice none 0 0, .int .i64 0, .int .i64 0, .slice none 0 0, .slice none 0 0]) := by rw [← hx6]; exact KO5b.out.set 5 _ (by simp [maxLen])
 have B6 : Hid (Below w.heap.size w x6) := by rw [← hx6]; exact BN5.out.setCell (by show _ ≤ go; have := HGS.out; omega) _
 have KS6 : Hid (Kept go (go + 1) y5 x6) := by rw [← hx6]; exact Kept.setCell _ _ _ _
 have ZS6 : Hid (x6.heap.size = y5.heap.size) := by rw [← hx6]; show _ = _; simp
 clear hx6
 go_upto_region 8 with fail
 rw [HW.out]
 clear HW co fo KA5 KR5 KO5 KA5b KR5b KO5b B5
 have ca := KA6.out.cell 6 rfl
 go_wp2_with fail
 refine (toB S.proof D.proof x6 (HR.out.proof.later (Below.mono B6.out (Nat.le_refl _))) HL.out.proof).mono ?_
 rintro e y6 ⟨rfl, o6, b6⟩
 have Oproof := hid (o6)
 have LTproof : Hid (x6.heap.size < y6.heap.size) := by obtain ⟨_, ⟨h1, _⟩ | ⟨g, h1, _, h3, h4, _⟩⟩ := o6; (· cases h1); (· show _ < _; omega)
 have BN6 := hid (B6.out.trans (b6.mono B6.out.size))
 have KA6b := hid (KA6.out.later b6)
 have KR6b := hid (KR6.out.later b6)
 have KO6b := hid (KO6.out.later b6)
 have KP6 : Hid (Kept go (go + 1) x6 y6) := (Kept.of_below b6 0).any
 have LOproof : Hid (go + 1 ≤ x6.heap.size) := KO6.out.lt
 clear o6 b6 ca
 obtain ⟨x7, hx7⟩ : ∃ x7, y6.setCell ⟨go, 6, none⟩ (.slice (some ⟨x6.heap.size, 0, none⟩) S.proof.n S.proof.n) = x7 := ⟨_, rfl⟩
 have HW := hid (hx7)
 have co := KO6b.out.cell 6 rfl
 have fo := KO6b.out.frozen 6
 have KA7 : Hid (Blk x7 ga 37 [.int .i64 D.kind, .int .i64 D.id, .slice S.cn.a S.cn.n S.cn.c, .slice S.sn.a S.sn.n S.sn.c, .int .i64 D.tick, .slice S.cookie.a S.cookie.n S.cookie.c, .slice S.proof.a S.proof.n S.proof.c, .int .i64 D.epoch, .int .i64 D.seq, .slice S.body.a S.body.n S.body.c, .slice S.tag.a S.tag.n S.tag.c]) := by rw [← hx7]; exact KA6b.out.other (by show ga ≠ go; have := HGS.out; omega) _
 have KR7 : Hid (Blk x7 gr 25 [.int .i64 0, .int .i64 0, .slice none 0 0, .slice none 0 0, .int .i64 0, .slice none 0 0, .slice none 0 0, .int .i64 0, .int .i64 0, .slice none 0 0, .slice none 0 0]) := by rw [← hx7]; exact KR6b.out.other (by show gr ≠ go; have := HGS.out; omega) _
 have KO7 : Hid (Blk x7 go 25 [.int .i64 D.kind, .int .i64 D.id, .slice (some ⟨x2.heap.size, 0, none⟩) S.cn.n S.cn.n, .slice (some ⟨x3.heap.size, 0, none⟩) S.sn.n S.sn.n, .int .i64 D.tick, .slice (some ⟨x5.heap.size, 0, none⟩) S.cookie.n S.cookie.n, .slice (some ⟨x6.heap.size, 0, none⟩) S.proof.n S.proof.n, .int .i64 0, .int .i64 0, .slice none 0 0, .slice none 0 0]) := by rw [← hx7]; exact KO6b.out.set 6 _ (by simp [maxLen])
 have B7 : Hid (Below w.heap.size w x7) := by rw [← hx7]; exact BN6.out.setCell (by show _ ≤ go; have := HGS.out; omega) _
 have KS7 : Hid (Kept go (go + 1) y6 x7) := by rw [← hx7]; exact Kept.setCell _ _ _ _
 have ZS7 : Hid (x7.heap.size = y6.heap.size) := by rw [← hx7]; show _ = _; simp
 clear hx7
 go_upto_region 9 with fail
 rw [HW.out]
 clear HW co fo KA6 KR6 KO6 KA6b KR6b KO6b B6
 have ca := KA7.out.cell 7 rfl
 obtain ⟨x8, hx8⟩ : ∃ x8, x7.setCell ⟨go, 7, none⟩ (.int .i64 D.epoch) = x8 := ⟨_, rfl⟩
 have HW := hid (hx8)
 have co := KO7.out.cell 7 rfl
 have fo := KO7.out.frozen 7
 have KA8 : Hid (Blk x8 ga 37 [.int .i64 D.kind, .int .i64 D.id, .slice S.cn.a S.cn.n S.cn.c, .slice S.sn.a S.sn.n S.sn.c, .int .i64 D.tick, .slice S.cookie.a S.cookie.n S.cookie.c, .slice S.proof.a S.proof.n S.proof.c, .int .i64 D.epoch, .int .i64 D.seq, .slice S.body.a S.body.n S.body.c, .slice S.tag.a S.tag.n S.tag.c]) := by rw [← hx8]; exact KA7.out.other (by show ga ≠ go; have := HGS.out; omega) _
 have KR8 : Hid (Blk x8 gr 25 [.int .i64 0, .int .i64 0, .slice none 0 0, .slice none 0 0, .int .i64 0, .slice none 0 0, .slice none 0 0, .int .i64 0, .int .i64 0, .slice none 0 0, .slice none 0 0]) := by rw [← hx8]; exact KR7.out.other (by show gr ≠ go; have := HGS.out; omega) _
 have KO8 : Hid (Blk x8 go 25 [.int .i64 D.kind, .int .i64 D.id, .slice (some ⟨x2.heap.size, 0, none⟩) S.cn.n S.cn.n, .slice (some ⟨x3.heap.size, 0, none⟩) S.sn.n S.sn.n, .int .i64 D.tick, .slice (some ⟨x5.heap.size, 0, none⟩) S.cookie.n S.cookie.n, .slice (some ⟨x6.heap.size, 0, none⟩) S.proof.n S.proof.n, .int .i64 D.epoch, .int .i64 0, .slice none 0 0, .slice none 0 0]) := by rw [← hx8]; exact KO7.out.set 7 _ (by simp [maxLen])
 have B8 : Hid (Below w.heap.size w x8) := by rw [← hx8]; exact B7.out.setCell (by show _ ≤ go; have := HGS.out; omega) _
 have KS8 : Hid (Kept go (go + 1) x7 x8) := by rw [← hx8]; exact Kept.setCell _ _ _ _
 have ZS8 : Hid (x8.heap.size = x7.heap.size) := by rw [← hx8]; show _ = _; simp
 clear hx8
 go_upto_region 10 with fail
 rw [HW.out]
 clear HW co fo KA7 KR7 KO7 ca B7
 have ca := KA8.out.cell 8 rfl
 obtain ⟨x9, hx9⟩ : ∃ x9, x8.setCell ⟨go, 8, none⟩ (.int .i64 D.seq) = x9 := ⟨_, rfl⟩
 have HW := hid (hx9)
 have co := KO8.out.cell 8 rfl
 have fo := KO8.out.frozen 8
 have KA9 : Hid (Blk x9 ga 37 [.int .i64 D.kind, .int .i64 D.id, .slice S.cn.a S.cn.n S.cn.c, .slice S.sn.a S.sn.n S.sn.c, .int .i64 D.tick, .slice S.cookie.a S.cookie.n S.cookie.c, .slice S.proof.a S.proof.n S.proof.c, .int .i64 D.epoch, .int .i64 D.seq, .slice S.body.a S.body.n S.body.c, .slice S.tag.a S.tag.n S.tag.c]) := by rw [← hx9]; exact KA8.out.other (by show ga ≠ go; have := HGS.out; omega) _
 have KR9 : Hid (Blk x9 gr 25 [.int .i64 0, .int .i64 0, .slice none 0 0, .slice none 0 0, .int .i64 0, .slice none 0 0, .slice none 0 0, .int .i64 0, .int .i64 0, .slice none 0 0, .slice none 0 0]) := by rw [← hx9]; exact KR8.out.other (by show gr ≠ go; have := HGS.out; omega) _
 have KO9 : Hid (Blk x9 go 25 [.int .i64 D.kind, .int .i64 D.id, .slice (some ⟨x2.heap.size, 0, none⟩) S.cn.n S.cn.n, .slice (some ⟨x3.heap.size, 0, none⟩) S.sn.n S.sn.n, .int .i64 D.tick, .slice (some ⟨x5.heap.size, 0, none⟩) S.cookie.n S.cookie.n, .slice (some ⟨x6.heap.size, 0, none⟩) S.proof.n S.proof.n, .int .i64 D.epoch, .int .i64 D.seq, .slice none 0 0, .slice none 0 0]) := by rw [← hx9]; exact KO8.out.set 8 _ (by simp [maxLen])
 have B9 : Hid (Below w.heap.size w x9) := by rw [← hx9]; exact B8.out.setCell (by show _ ≤ go; have := HGS.out; omega) _
 have KS9 : Hid (Kept go (go + 1) x8 x9) := by rw [← hx9]; exact Kept.setCell _ _ _ _
 have ZS9 : Hid (x9.heap.size = x8.heap.size) := by rw [← hx9]; show _ = _; simp
 clear hx9
 go_upto_region 11 with fail
 rw [HW.out]
 clear HW co fo KA8 KR8 KO8 ca B8
 have ca := KA9.out.cell 9 rfl
 go_wp2_with fail
 refine (toB S.body D.body x9 (HR.out.body.later (Below.mono B9.out (Nat.le_refl _))) HL.out.body).mono ?_
 rintro e y9 ⟨rfl, o9, b9⟩
 have Obody := hid (o9)
 have LTbody : Hid (x9.heap.size < y9.heap.size) := by obtain ⟨_, ⟨h1, _⟩ | ⟨g, h1, _, h3, h4, _⟩⟩ := o9; (· cases h1); (· show _ < _; omega)
 have BN9 := hid (B9.out.trans (b9.mono B9.out.size))
 have KA9b := hid (KA9.out.later b9)
 have KR9b := hid (KR9.out.later b9)
 have KO9b := hid (KO9.out.later b9)
 have KP9 : Hid (Kept go (go + 1) x9 y9) := (Kept.of_below b9 0).any
 have LObody : Hid (go + 1 ≤ x9.heap.size) := KO9.out.lt
 clear o9 b9 ca
 obtain ⟨x10, hx10⟩ : ∃ x10, y9.setCell ⟨go, 9, none⟩ (.slice (some ⟨x9.heap.size, 0, none⟩) S.body.n S.body.n) = x10 := ⟨_, rfl⟩
 have HW := hid (hx10)
 have co := KO9b.out.cell 9 rfl
 have fo := KO9b.out.frozen 9
 have KA10 : Hid (Blk x10 ga 37 [.int .i64 D.kind, .int .i64 D.id, .slice S.cn.a S.cn.n S.cn.c, .slice S.sn.a S.sn.n S.sn.c, .int .i64 D.tick, .slice S.cookie.a S.cookie.n S.cookie.c, .slice S.proof.a S.proof.n S.proof.c, .int .i64 D.epoch, .int .i64 D.seq, .slice S.body.a S.body.n S.body.c, .slice S.tag.a S.tag.n S.tag.c]) := by rw [← hx10]; exact KA9b.out.other (by show ga ≠ go; have := HGS.out; omega) _
 have KR10 : Hid (Blk x10 gr 25 [.int .i64 0, .int .i64 0, .slice none 0 0, .slice none 0 0, .int .i64 0, .slice none 0 0, .slice none 0 0, .int .i64 0, .int .i64 0, .slice none 0 0, .slice none 0 0]) := by rw [← hx10]; exact KR9b.out.other (by show gr ≠ go; have := HGS.out; omega) _
 have KO10 : Hid (Blk x10 go 25 [.int .i64 D.kind, .int .i64 D.id, .slice (some ⟨x2.heap.size, 0, none⟩) S.cn.n S.cn.n, .slice (some ⟨x3.heap.size, 0, none⟩) S.sn.n S.sn.n, .int .i64 D.tick, .slice (some ⟨x5.heap.size, 0, none⟩) S.cookie.n S.cookie.n, .slice (some ⟨x6.heap.size, 0, none⟩) S.proof.n S.proof.n, .int .i64 D.epoch, .int .i64 D.seq, .slice (some ⟨x9.heap.size, 0, none⟩) S.body.n S.body.n, .slice none 0 0]) := by rw [← hx10]; exact KO9b.out.set 9 _ (by simp [maxLen])
 have B10 : Hid (Below w.heap.size w x10) := by rw [← hx10]; exact BN9.out.setCell (by show _ ≤ go; have := HGS.out; omega) _
 have KS10 : Hid (Kept go (go + 1) y9 x10) := by rw [← hx10]; exact Kept.setCell _ _ _ _
 have ZS10 : Hid (x10.heap.size = y9.heap.size) := by rw [← hx10]; show _ = _; simp
 clear hx10
 go_upto_region 12 with fail
 rw [HW.out]
 clear HW co fo KA9 KR9 KO9 KA9b KR9b KO9b B9
 have ca := KA10.out.cell 10 rfl
 go_wp2_with fail
 refine (toB S.tag D.tag x10 (HR.out.tag.later (Below.mono B10.out (Nat.le_refl _))) HL.out.tag).mono ?_
 rintro e y10 ⟨rfl, o10, b10⟩
 have Otag := hid (o10)
 have LTtag : Hid (x10.heap.size < y10.heap.size) := by obtain ⟨_, ⟨h1, _⟩ | ⟨g, h1, _, h3, h4, _⟩⟩ := o10; (· cases h1); (· show _ < _; omega)
 have BN10 := hid (B10.out.trans (b10.mono B10.out.size))
 have KA10b := hid (KA10.out.later b10)
 have KR10b := hid (KR10.out.later b10)
 have KO10b := hid (KO10.out.later b10)
 have KP10 : Hid (Kept go (go + 1) x10 y10) := (Kept.of_below b10 0).any
 have LOtag : Hid (go + 1 ≤ x10.heap.size) := KO10.out.lt
 clear o10 b10 ca
 obtain ⟨x11, hx11⟩ : ∃ x11, y10.setCell ⟨go, 10, none⟩ (.slice (some ⟨x10.heap.size, 0, none⟩) S.tag.n S.tag.n) = x11 := ⟨_, rfl⟩
 have HW := hid (hx11)
 have co := KO10b.out.cell 10 rfl
 have fo := KO10b.out.frozen 10
 have KA11 : Hid (Blk x11 ga 37 [.int .i64 D.kind, .int .i64 D.id, .slice S.cn.a S.cn.n S.cn.c, .slice S.sn.a S.sn.n S.sn.c, .int .i64 D.tick, .slice S.cookie.a S.cookie.n S.cookie.c, .slice S.proof.a S.proof.n S.proof.c, .int .i64 D.epoch, .int .i64 D.seq, .slice S.body.a S.body.n S.body.c, .slice S.tag.a S.tag.n S.tag.c]) := by rw [← hx11]; exact KA10b.out.other (by show ga ≠ go; have := HGS.out; omega) _
 have KR11 : Hid (Blk x11 gr 25 [.int .i64 0, .int .i64 0, .slice none 0 0, .slice none 0 0, .int .i64 0, .slice none 0 0, .slice none 0 0, .int .i64 0, .int .i64 0, .slice none 0 0, .slice none 0 0]) := by rw [← hx11]; exact KR10b.out.other (by show gr ≠ go; have := HGS.out; omega) _
 have KO11 : Hid (Blk x11 go 25 [.int .i64 D.kind, .int .i64 D.id, .slice (some ⟨x2.heap.size, 0, none⟩) S.cn.n S.cn.n, .slice (some ⟨x3.heap.size, 0, none⟩) S.sn.n S.sn.n, .int .i64 D.tick, .slice (some ⟨x5.heap.size, 0, none⟩) S.cookie.n S.cookie.n, .slice (some ⟨x6.heap.size, 0, none⟩) S.proof.n S.proof.n, .int .i64 D.epoch, .int .i64 D.seq, .slice (some ⟨x9.heap.size, 0, none⟩) S.body.n S.body.n, .slice (some ⟨x10.heap.size, 0, none⟩) S.tag.n S.tag.n]) := by rw [← hx11]; exact KO10b.out.set 10 _ (by simp [maxLen])
 have B11 : Hid (Below w.heap.size w x11) := by rw [← hx11]; exact BN10.out.setCell (by show _ ≤ go; have := HGS.out; omega) _
 have KS11 : Hid (Kept go (go + 1) y10 x11) := by rw [← hx11]; exact Kept.setCell _ _ _ _
 have ZS11 : Hid (x11.heap.size = y10.heap.size) := by rw [← hx11]; show _ = _; simp
 clear hx11
 go_upto_region 13 with fail
 rw [HW.out]
 clear HW co fo KA10 KR10 KO10 KA10b KR10b KO10b B10
 -- the whole is handed over
 obtain ⟨co0, co1, co2, co3, co4, co5, co6, co7, co8, co9, co10⟩ := cells11 KO11.out
 obtain ⟨cr0, cr1, cr2, cr3, cr4, cr5, cr6, cr7, cr8, cr9, cr10⟩ := cells11 KR11.out
 obtain ⟨fr0, fr1, fr2, fr3, fr4, fr5, fr6, fr7, fr8, fr9, fr10⟩ := froz11 KR11.out
 go_wp2
 have KF : Blk (((((((((((x11.setCell ⟨gr, 0, none⟩ (.int .i64 D.kind)).setCell ⟨gr, 1, none⟩ (.int .i64 D.id)).setCell ⟨gr, 2, none⟩ (.slice (some ⟨x2.heap.size, 0, none⟩) S.cn.n S.cn.n)).setCell ⟨gr, 3, none⟩ (.slice (some ⟨x3.heap.size, 0, none⟩) S.sn.n S.sn.n)).setCell ⟨gr, 4, none⟩ (.int .i64 D.tick)).setCell ⟨gr, 5, none⟩ (.slice (some ⟨x5.heap.size, 0, none⟩) S.cookie.n S.cookie.n)).setCell ⟨gr, 6, none⟩ (.slice (some ⟨x6.heap.size, 0, none⟩) S.proof.n S.proof.n)).setCell ⟨gr, 7, none⟩ (.int .i64 D.epoch)).setCell ⟨gr, 8, none⟩ (.int .i64 D.seq)).setCell ⟨gr, 9, none⟩ (.slice (some ⟨x9.heap.size, 0, none⟩) S.body.n S.body.n)).setCell ⟨gr, 10, none⟩ (.slice (some ⟨x10.heap.size, 0, none⟩) S.tag.n S.tag.n)) gr 25 [.int .i64 D.kind, .int .i64 D.id, .slice (some ⟨x2.heap.size, 0, none⟩) S.cn.n S.cn.n, .slice (some ⟨x3.heap.size, 0, none⟩) S.sn.n S.sn.n, .int .i64 D.tick, .slice (some ⟨x5.heap.size, 0, none⟩) S.cookie.n S.cookie.n, .slice (some ⟨x6.heap.size, 0, none⟩) S.proof.n S.proof.n, .int .i64 D.epoch, .int .i64 D.seq, .slice (some ⟨x9.heap.size, 0, none⟩) S.body.n S.body.n, .slice (some ⟨x10.heap.size, 0, none⟩) S.tag.n S.tag.n] := ((((((((((KR11.out.set 0 _ (by simp [maxLen])).set 1 _ (by simp [maxLen])).set 2 _ (by simp [maxLen])).set 3 _ (by simp [maxLen])).set 4 _ (by simp [maxLen])).set 5 _ (by simp [maxLen])).set 6 _ (by simp [maxLen])).set 7 _ (by simp [maxLen])).set 8 _ (by simp [maxLen])).set 9 _ (by simp [maxLen])).set 10 _ (by simp [maxLen])
 have BF : Below w.heap.size w (((((((((((x11.setCell ⟨gr, 0, none⟩ (.int .i64 D.kind)).setCell ⟨gr, 1, none⟩ (.int .i64 D.id)).setCell ⟨gr, 2, none⟩ (.slice (some ⟨x2.heap.size, 0, none⟩) S.cn.n S.cn.n)).setCell ⟨gr, 3, none⟩ (.slice (some ⟨x3.heap.size, 0, none⟩) S.sn.n S.sn.n)).setCell ⟨gr, 4, none⟩ (.int .i64 D.tick)).setCell ⟨gr, 5, none⟩ (.slice (some ⟨x5.heap.size, 0, none⟩) S.cookie.n S.cookie.n)).setCell ⟨gr, 6, none⟩ (.slice (some ⟨x6.heap.size, 0, none⟩) S.proof.n S.proof.n)).setCell ⟨gr, 7, none⟩ (.int .i64 D.epoch)).setCell ⟨gr, 8, none⟩ (.int .i64 D.seq)).setCell ⟨gr, 9, none⟩ (.slice (some ⟨x9.heap.size, 0, none⟩) S.body.n S.body.n)).setCell ⟨gr, 10, none⟩ (.slice (some ⟨x10.heap.size, 0, none⟩) S.tag.n S.tag.n)) := ((((((((((B11.out.setCell (by show _ ≤ gr; have := HGS.out; omega) _).setCell (by show _ ≤ gr; have := HGS.out; omega) _).setCell (by show _ ≤ gr; have := HGS.out; omega) _).setCell (by show _ ≤ gr; have := HGS.out; omega) _).setCell (by show _ ≤ gr; have := HGS.out; omega) _).setCell (by show _ ≤ gr; have := HGS.out; omega) _).setCell (by show _ ≤ gr; have := HGS.out; omega) _).setCell (by show _ ≤ gr; have := HGS.out; omega) _).setCell (by show _ ≤ gr; have := HGS.out; omega) _).setCell (by show _ ≤ gr; have := HGS.out; omega) _).setCell (by show _ ≤ gr; have := HGS.out; omega) _
 have KF2 : Kept gr (gr + 1) x11 (((((((((((x11.setCell ⟨gr, 0, none⟩ (.int .i64 D.kind)).setCell ⟨gr, 1, none⟩ (.int .i64 D.id)).setCell ⟨gr, 2, none⟩ (.slice (some ⟨x2.heap.size, 0, none⟩) S.cn.n S.cn.n)).setCell ⟨gr, 3, none⟩ (.slice (some ⟨x3.heap.size, 0, none⟩) S.sn.n S.sn.n)).setCell ⟨gr, 4, none⟩ (.int .i64 D.tick)).setCell ⟨gr, 5, none⟩ (.slice (some ⟨x5.heap.size, 0, none⟩) S.cookie.n S.cookie.n)).setCell ⟨gr, 6, none⟩ (.slice (some ⟨x6.heap.size, 0, none⟩) S.proof.n S.proof.n)).setCell ⟨gr, 7, none⟩ (.int .i64 D.epoch)).setCell ⟨gr, 8, none⟩ (.int .i64 D.seq)).setCell ⟨gr, 9, none⟩ (.slice (some ⟨x9.heap.size, 0, none⟩) S.body.n S.body.n)).setCell ⟨gr, 10, none⟩ (.slice (some ⟨x10.heap.size, 0, none⟩) S.tag.n S.tag.n)) := ((((((((((Kept.setCell _ _ _ _).trans (Kept.setCell _ _ _ _)).trans (Kept.setCell _ _ _ _)).trans (Kept.setCell _ _ _ _)).trans (Kept.setCell _ _ _ _)).trans (Kept.setCell _ _ _ _)).trans (Kept.setCell _ _ _ _)).trans (Kept.setCell _ _ _ _)).trans (Kept.setCell _ _ _ _)).trans (Kept.setCell _ _ _ _)).trans (Kept.setCell _ _ _ _)
 have Fcn := ((((((((((((((Ocn.out.carry KS3.out (.inr LOcn.out)).carry KP3.out (.inr LOcn.out)).carry KS4.out (.inr LOcn.out)).carry KS5.out (.inr LOcn.out)).carry KP5.out (.inr LOcn.out)).carry KS6.out (.inr LOcn.out)).carry KP6.out (.inr LOcn.out)).carry KS7.out (.inr LOcn.out)).carry KS8.out (.inr LOcn.out)).carry KS9.out (.inr LOcn.out)).carry KP9.out (.inr LOcn.out)).carry KS10.out (.inr LOcn.out)).carry KP10.out (.inr LOcn.out)).carry KS11.out (.inr LOcn.out)).carry KF2 (.inr (Nat.le_trans (by have := HGS.out; omega) LOcn.out))
 have Fsn := ((((((((((((Osn.out.carry KS4.out (.inr LOsn.out)).carry KS5.out (.inr LOsn.out)).carry KP5.out (.inr LOsn.out)).carry KS6.out (.inr LOsn.out)).carry KP6.out (.inr LOsn.out)).carry KS7.out (.inr LOsn.out)).carry KS8.out (.inr LOsn.out)).carry KS9.out (.inr LOsn.out)).carry KP9.out (.inr LOsn.out)).carry KS10.out (.inr LOsn.out)).carry KP10.out (.inr LOsn.out)).carry KS11.out (.inr LOsn.out)).carry KF2 (.inr (Nat.le_trans (by have := HGS.out; omega) LOsn.out))
 have Fcookie := (((((((((Ocookie.out.carry KS6.out (.inr LOcookie.out)).carry KP6.out (.inr LOcookie.out)).carry KS7.out (.inr LOcookie.out)).carry KS8.out (.inr LOcookie.out)).carry KS9.out (.inr LOcookie.out)).carry KP9.out (.inr LOcookie.out)).carry KS10.out (.inr LOcookie.out)).carry KP10.out (.inr LOcookie.out)).carry KS11.out (.inr LOcookie.out)).carry KF2 (.inr (Nat.le_trans (by have := HGS.out; omega) LOcookie.out))
 have Fproof := (((((((Oproof.out.carry KS7.out (.inr LOproof.out)).carry KS8.out (.inr LOproof.out)).carry KS9.out (.inr LOproof.out)).carry KP9.out (.inr LOproof.out)).carry KS10.out (.inr LOproof.out)).carry KP10.out (.inr LOproof.out)).carry KS11.out (.inr LOproof.out)).carry KF2 (.inr (Nat.le_trans (by have := HGS.out; omega) LOproof.out))
 have Fbody := (((Obody.out.carry KS10.out (.inr LObody.out)).carry KP10.out (.inr LObody.out)).carry KS11.out (.inr LObody.out)).carry KF2 (.inr (Nat.le_trans (by have := HGS.out; omega) LObody.out))
 have Ftag := (Otag.out.carry KS11.out (.inr LOtag.out)).carry KF2 (.inr (Nat.le_trans (by have := HGS.out; omega) LOtag.out))
 have ST : Hid (w.heap.size ≤ x2.heap.size ∧ y2.heap.size ≤ (((((((((((x11.setCell ⟨gr, 0, none⟩ (.int .i64 D.kind)).setCell ⟨gr, 1, none⟩ (.int .i64 D.id)).setCell ⟨gr, 2, none⟩ (.slice (some ⟨x2.heap.size, 0, none⟩) S.cn.n S.cn.n)).setCell ⟨gr, 3, none⟩ (.slice (some ⟨x3.heap.size, 0, none⟩) S.sn.n S.sn.n)).setCell ⟨gr, 4, none⟩ (.int .i64 D.tick)).setCell ⟨gr, 5, none⟩ (.slice (some ⟨x5.heap.size, 0, none⟩) S.cookie.n S.cookie.n)).setCell ⟨gr, 6, none⟩ (.slice (some ⟨x6.heap.size, 0, none⟩) S.proof.n S.proof.n)).setCell ⟨gr, 7, none⟩ (.int .i64 D.epoch)).setCell ⟨gr, 8, none⟩ (.int .i64 D.seq)).setCell ⟨gr, 9, none⟩ (.slice (some ⟨x9.heap.size, 0, none⟩) S.body.n S.body.n)).setCell ⟨gr, 10, none⟩ (.slice (some ⟨x10.heap.size, 0, none⟩) S.tag.n S.tag.n)).heap.size ∧ w.heap.size ≤ x3.heap.size ∧ y3.heap.size ≤ (((((((((((x11.setCell ⟨gr, 0, none⟩ (.int .i64 D.kind)).setCell ⟨gr, 1, none⟩ (.int .i64 D.id)).setCell ⟨gr, 2, none⟩ (.slice (some ⟨x2.heap.size, 0, none⟩) S.cn.n S.cn.n)).setCell ⟨gr, 3, none⟩ (.slice (some ⟨x3.heap.size, 0, none⟩) S.sn.n S.sn.n)).setCell ⟨gr, 4, none⟩ (.int .i64 D.tick)).setCell ⟨gr, 5, none⟩ (.slice (some ⟨x5.heap.size, 0, none⟩) S.cookie.n S.cookie.n)).setCell ⟨gr, 6, none⟩ (.slice (some ⟨x6.heap.size, 0, none⟩) S.proof.n S.proof.n)).setCell ⟨gr, 7, none⟩ (.int .i64 D.epoch)).setCell ⟨gr, 8, none⟩ (.int .i64 D.seq)).setCell ⟨gr, 9, none⟩ (.slice (some ⟨x9.heap.size, 0, none⟩) S.body.n S.body.n)).setCell ⟨gr, 10, none⟩ (.slice (some ⟨x10.heap.size, 0, none⟩) S.tag.n S.tag.n)).heap.size ∧ w.heap.size ≤ x5.heap.size ∧ y5.heap.size ≤ (((((((((((x11.setCell ⟨gr, 0, none⟩ (.int .i64 D.kind)).setCell ⟨gr, 1, none⟩ (.int .i64 D.id)).setCell ⟨gr, 2, none⟩ (.slice (some ⟨x2.heap.size, 0, none⟩) S.cn.n S.cn.n)).setCell ⟨gr, 3, none⟩ (.slice (some ⟨x3.heap.size, 0, none⟩) S.sn.n S.sn.n)).setCell ⟨gr, 4, none⟩ (.int .i64 D.tick)).setCell ⟨gr, 5, none⟩ (.slice (some ⟨x5.heap.size, 0, none⟩) S.cookie.n S.cookie.n)).setCell ⟨gr, 6, none⟩ (.slice (some ⟨x6.heap.size, 0, none⟩) S.proof.n S.proof.n)).setCell ⟨gr, 7, none⟩ (.int .i64 D.epoch)).setCell ⟨gr, 8, none⟩ (.int .i64 D.seq)).setCell ⟨gr, 9, none⟩ (.slice (some ⟨x9.heap.size, 0, none⟩) S.body.n S.body.n)).setCell ⟨gr, 10, none⟩ (.slice (some ⟨x10.heap.size, 0, none⟩) S.tag.n S.tag.n)).heap.size ∧ w.heap.size ≤ x6.heap.size ∧ y6.heap.size ≤ (((((((((((x11.setCell ⟨gr, 0, none⟩ (.int .i64 D.kind)).setCell ⟨gr, 1, none⟩ (.int .i64 D.id)).setCell ⟨gr, 2, none⟩ (.slice (some ⟨x2.heap.size, 0, none⟩) S.cn.n S.cn.n)).setCell ⟨gr, 3, none⟩ (.slice (some ⟨x3.heap.size, 0, none⟩) S.sn.n S.sn.n)).setCell ⟨gr, 4, none⟩ (.int .i64 D.tick)).setCell ⟨gr, 5, none⟩ (.slice (some ⟨x5.heap.size, 0, none⟩) S.cookie.n S.cookie.n)).setCell ⟨gr, 6, none⟩ (.slice (some ⟨x6.heap.size, 0, none⟩) S.proof.n S.proof.n)).setCell ⟨gr, 7, none⟩ (.int .i64 D.epoch)).setCell ⟨gr, 8, none⟩ (.int .i64 D.seq)).setCell ⟨gr, 9, none⟩ (.slice (some ⟨x9.heap.size, 0, none⟩) S.body.n S.body.n)).setCell ⟨gr, 10, none⟩ (.slice (some ⟨x10.heap.size, 0, none⟩) S.tag.n S.tag.n)).heap.size ∧ w.heap.size ≤ x9.heap.size ∧ y9.heap.size ≤ (((((((((((x11.setCell ⟨gr, 0, none⟩ (.int .i64 D.kind)).setCell ⟨gr, 1, none⟩ (.int .i64 D.id)).setCell ⟨gr, 2, none⟩ (.slice (some ⟨x2.heap.size, 0, none⟩) S.cn.n S.cn.n)).setCell ⟨gr, 3, none⟩ (.slice (some ⟨x3.heap.size, 0, none⟩) S.sn.n S.sn.n)).setCell ⟨gr, 4, none⟩ (.int .i64 D.tick)).setCell ⟨gr, 5, none⟩ (.slice (some ⟨x5.heap.size, 0, none⟩) S.cookie.n S.cookie.n)).setCell ⟨gr, 6, none⟩ (.slice (some ⟨x6.heap.size, 0, none⟩) S.proof.n S.proof.n)).setCell ⟨gr, 7, none⟩ (.int .i64 D.epoch)).setCell ⟨gr, 8, none⟩ (.int .i64 D.seq)).setCell ⟨gr, 9, none⟩ (.slice (some ⟨x9.heap.size, 0, none⟩) S.body.n S.body.n)).setCell ⟨gr, 10, none⟩ (.slice (some ⟨x10.heap.size, 0, none⟩) S.tag.n S.tag.n)).heap.size ∧ w.heap.size ≤ x10.heap.size ∧ y10.heap.size ≤ (((((((((((x11.setCell ⟨gr, 0, none⟩ (.int .i64 D.kind)).setCell ⟨gr, 1, none⟩ (.int .i64 D.id)).setCell ⟨gr, 2, none⟩ (.slice (some ⟨x2.heap.size, 0, none⟩) S.cn.n S.cn.n)).setCell ⟨gr, 3, none⟩ (.slice (some ⟨x3.heap.size, 0, none⟩) S.sn.n S.sn.n)).setCell ⟨gr, 4, none⟩ (.int .i64 D.tick)).setCell ⟨gr, 5, none⟩ (.slice (some ⟨x5.heap.size, 0, none⟩) S.cookie.n S.cookie.n)).setCell ⟨gr, 6, none⟩ (.slice (some ⟨x6.heap.size, 0, none⟩) S.proof.n S.proof.n)).setCell ⟨gr, 7, none⟩ (.int .i64 D.epoch)).setCell ⟨gr, 8, none⟩ (.int .i64 D.seq)).setCell ⟨gr, 9, none⟩ (.slice (some ⟨x9.heap.size, 0, none⟩) S.body.n S.body.n)).setCell ⟨gr, 10, none⟩ (.slice (some ⟨x10.heap.size, 0, none⟩) S.tag.n S.tag.n)).heap.size) := by
  have s0 := KS1.out.size; have s1 := KS2.out.size; have s2 := KP2.out.size; have s3 := KS3.out.size; have s4 := KP3.out.size; have s5 := KS4.out.size; have s6 := KS5.out.size; have s7 := KP5.out.size; have s8 := KS6.out.size; have s9 := KP6.out.size; have s10 := KS7.out.size; have s11 := KS8.out.size; have s12 := KS9.out.size; have s13 := KP9.out.size; have s14 := KS10.out.size; have s15 := KP10.out.size; have s16 := KS11.out.size; have sf := KF2.size; have lcn := LTcn.out; have lsn := LTsn.out; have lcookie := LTcookie.out; have lproof := LTproof.out; have lbody := LTbody.out; have ltag := LTtag.out; have hg := HGS.out; have z0 := Z0.out
  exact ⟨by omega, by omega, by omega, by omega, by omega, by omega, by omega, by omega, by omega, by omega, by omega, by omega⟩
 have AP : Hid (x2.heap.size ≠ x3.heap.size ∧ x2.heap.size ≠ x5.heap.size ∧ x2.heap.size ≠ x6.heap.size ∧ x2.heap.size ≠ x9.heap.size ∧ x2.heap.size ≠ x10.heap.size ∧ x3.heap.size ≠ x5.heap.size ∧ x3.heap.size ≠ x6.heap.size ∧ x3.heap.size ≠ x9.heap.size ∧ x3.heap.size ≠ x10.heap.size ∧ x5.heap.size ≠ x6.heap.size ∧ x5.heap.size ≠ x9.heap.size ∧ x5.heap.size ≠ x10.heap.size ∧ x6.heap.size ≠ x9.heap.size ∧ x6.heap.size ≠ x10.heap.size ∧ x9.heap.size ≠ x10.heap.size) := by
  have s0 := KS1.out.size; have s1 := KS2.out.size; have s2 := KP2.out.size; have s3 := KS3.out.size; have s4 := KP3.out.size; have s5 := KS4.out.size; have s6 := KS5.out.size; have s7 := KP5.out.size; have s8 := KS6.out.size; have s9 := KP6.out.size; have s10 := KS7.out.size; have s11 := KS8.out.size; have s12 := KS9.out.size; have s13 := KP9.out.size; have s14 := KS10.out.size; have s15 := KP10.out.size; have s16 := KS11.out.size; have sf := KF2.size; have lcn := LTcn.out; have lsn := LTsn.out; have lcookie := LTcookie.out; have lproof := LTproof.out; have lbody := LTbody.out; have ltag := LTtag.out; have hg := HGS.out; have z0 := Z0.out
  exact ⟨by omega, by omega, by omega, by omega, by omega, by omega, by omega, by omega, by omega, by omega, by omega, by omega, by omega, by omega, by omega⟩
 exact bodyPost_ret (v := frV D ⟨⟨some ⟨x2.heap.size, 0, none⟩, S.cn.n, S.cn.n⟩, ⟨some ⟨x3.heap.size, 0, none⟩, S.sn.n, S.sn.n⟩, ⟨some ⟨x5.heap.size, 0, none⟩, S.cookie.n, S.cookie.n⟩, ⟨some ⟨x6.heap.size, 0, none⟩, S.proof.n, S.proof.n⟩, ⟨some ⟨x9.heap.size, 0, none⟩, S.body.n, S.body.n⟩, ⟨some ⟨x10.heap.size, 0, none⟩, S.tag.n, S.tag.n⟩⟩) (res1 rfl (is_cell rfl KF aggFr)) rfl ⟨⟨⟨some ⟨x2.heap.size, 0, none⟩, S.cn.n, S.cn.n⟩, ⟨some ⟨x3.heap.size, 0, none⟩, S.sn.n, S.sn.n⟩, ⟨some ⟨x5.heap.size, 0, none⟩, S.cookie.n, S.cookie.n⟩, ⟨some ⟨x6.heap.size, 0, none⟩, S.proof.n, S.proof.n⟩, ⟨some ⟨x9.heap.size, 0, none⟩, S.body.n, S.body.n⟩, ⟨some ⟨x10.heap.size, 0, none⟩, S.tag.n, S.tag.n⟩⟩, rfl, ⟨Fcn.mono ST.out.1 ST.out.2.1, Fsn.mono ST.out.2.2.1 ST.out.2.2.2.1, Fcookie.mono ST.out.2.2.2.2.1 ST.out.2.2.2.2.2.1, Fproof.mono ST.out.2.2.2.2.2.2.1 ST.out.2.2.2.2.2.2.2.1, Fbody.mono ST.out.2.2.2.2.2.2.2.2.1 ST.out.2.2.2.2.2.2.2.2.2.1, Ftag.mono ST.out.2.2.2.2.2.2.2.2.2.2.1 ST.out.2.2.2.2.2.2.2.2.2.2.2, ⟨.inr (by simp only [ne_eq, Option.some.injEq, Addr.mk.injEq, and_true]; exact AP.out.1), .inr (by simp only [ne_eq, Option.some.injEq, Addr.mk.injEq, and_true]; exact AP.out.2.1), .inr (by simp only [ne_eq, Option.some.injEq, Addr.mk.injEq, and_true]; exact AP.out.2.2.1), .inr (by simp only [ne_eq, Option.some.injEq, Addr.mk.injEq, and_true]; exact AP.out.2.2.2.1), .inr (by simp only [ne_eq, Option.some.injEq, Addr.mk.injEq, and_true]; exact AP.out.2.2.2.2.1), .inr (by simp only [ne_eq, Option.some.injEq, Addr.mk.injEq, and_true]; exact AP.out.2.2.2.2.2.1), .inr (by simp only [ne_eq, Option.some.injEq, Addr.mk.injEq, and_true]; exact AP.out.2.2.2.2.2.2.1), .inr (by simp only [ne_eq, Option.some.injEq, Addr.mk.injEq, and_true]; exact AP.out.2.2.2.2.2.2.2.1), .inr (by simp only [ne_eq, Option.some.injEq, Addr.mk.injEq, and_true]; exact AP.out.2.2.2.2.2.2.2.2.1), .inr (by simp only [ne_eq, Option.some.injEq, Addr.mk.injEq, and_true]; exact AP.out.2.2.2.2.2.2.2.2.2.1), .inr (by simp only [ne_eq, Option.some.injEq, Addr.mk.injEq, and_true]; exact AP.out.2.2.2.2.2.2.2.2.2.2.1), .inr (by simp only [ne_eq, Option.some.injEq, Addr.mk.injEq, and_true]; exact AP.out.2.2.2.2.2.2.2.2.2.2.2.1), .inr (by simp only [ne_eq, Option.some.injEq, Addr.mk.injEq, and_true]; exact AP.out.2.2.2.2.2.2.2.2.2.2.2.2.1), .inr (by simp only [ne_eq, Option.some.injEq, Addr.mk.injEq, and_true]; exact AP.out.2.2.2.2.2.2.2.2.2.2.2.2.2.1), .inr (by simp only [ne_eq, Option.some.injEq, Addr.mk.injEq, and_true]; exact AP.out.2.2.2.2.2.2.2.2.2.2.2.2.2.2)⟩⟩, BF⟩

set_option maxHeartbeats 4000000 in
theorem eqFrame (S S' : FrS) (D : FrD) (w : World) (h : FrRd w S D) (h' : FrRd w S' D) (hl : FrShort D 4194304) :
  Calls Tryz.prog 20 #[frV D S, frV D S'] w fun e w' => e = .returned (.bool true) ∧ Below w.heap.size w w' := by
 have HR := hid (h)
 have HQ : Hid (FrRd w S' D) := h'
 have HL := hid (hl)
 obtain ⟨x0, hx0⟩ : ∃ x0, (w.alloc (.cells #[.int .i64 D.kind, .int .i64 D.id, .slice S.cn.a S.cn.n S.cn.c, .slice S.sn.a S.sn.n S.sn.c, .int .i64 D.tick, .slice S.cookie.a S.cookie.n S.cookie.c, .slice S.proof.a S.proof.n S.proof.c, .int .i64 D.epoch, .int .i64 D.seq, .slice S.body.a S.body.n S.body.c, .slice S.tag.a S.tag.n S.tag.c] 25)).alloc (.cells #[.int .i64 D.kind, .int .i64 D.id, .slice S'.cn.a S'.cn.n S'.cn.c, .slice S'.sn.a S'.sn.n S'.sn.c, .int .i64 D.tick, .slice S'.cookie.a S'.cookie.n S'.cookie.c, .slice S'.proof.a S'.proof.n S'.proof.c, .int .i64 D.epoch, .int .i64 D.seq, .slice S'.body.a S'.body.n S'.body.c, .slice S'.tag.a S'.tag.n S'.tag.c] 25) = x0 := ⟨_, rfl⟩
 have HW0 := hid (hx0)
 have B0 : Hid (Below w.heap.size w x0) := by rw [← hx0]; exact ((Below.refl _ _).alloc (Nat.le_refl _) _).alloc (by simp) _
 have KA0 : Hid (Blk x0 w.heap.size 25 [.int .i64 D.kind, .int .i64 D.id, .slice S.cn.a S.cn.n S.cn.c, .slice S.sn.a S.sn.n S.sn.c, .int .i64 D.tick, .slice S.cookie.a S.cookie.n S.cookie.c, .slice S.proof.a S.proof.n S.proof.c, .int .i64 D.epoch, .int .i64 D.seq, .slice S.body.a S.body.n S.body.c, .slice S.tag.a S.tag.n S.tag.c]) := by rw [← hx0]; exact (Blk.new w _ _).alloc _
 have KB0 : Hid (Blk x0 (w.heap.size + 1) 25 [.int .i64 D.kind, .int .i64 D.id, .slice S'.cn.a S'.cn.n S'.cn.c, .slice S'.sn.a S'.sn.n S'.sn.c, .int .i64 D.tick, .slice S'.cookie.a S'.cookie.n S'.cookie.c, .slice S'.proof.a S'.proof.n S'.proof.c, .int .i64 D.epoch, .int .i64 D.seq, .slice S'.body.a S'.body.n S'.body.c, .slice S'.tag.a S'.tag.n S'.tag.c]) := by
  have := Blk.new (w.alloc (.cells #[.int .i64 D.kind, .int .i64 D.id, .slice S.cn.a S.cn.n S.cn.c, .slice S.sn.a S.sn.n S.sn.c, .int .i64 D.tick, .slice S.cookie.a S.cookie.n S.cookie.c, .slice S.proof.a S.proof.n S.proof.c, .int .i64 D.epoch, .int .i64 D.seq, .slice S.body.a S.body.n S.body.c, .slice S.tag.a S.tag.n S.tag.c] 25)) 25 [.int .i64 D.kind, .int .i64 D.id, .slice S'.cn.a S'.cn.n S'.cn.c, .slice S'.sn.a S'.sn.n S'.sn.c, .int .i64 D.tick, .slice S'.cookie.a S'.cookie.n S'.cookie.c, .slice S'.proof.a S'.proof.n S'.proof.c, .int .i64 D.epoch, .int .i64 D.seq, .slice S'.body.a S'.body.n S'.body.c, .slice S'.tag.a S'.tag.n S'.tag.c]
  rw [World.size_alloc] at this
  rw [← hx0]; exact this
 clear h h' hl hx0
 unfold frV
 go_enter Tryz.func20, Tryz.ntmps20
 go_upto_region 1 with fail
 rw [HW0.out]
 generalize w.heap.size + 1 = gb at *
 obtain ⟨ga, hga⟩ : ∃ ga, w.heap.size = ga := ⟨_, rfl⟩
 have HGA : Hid (w.heap.size = ga) := hga
 rw [hga] at KA0
 rw [hga]
 clear HW0 hga
 have ca0 := KA0.out.cell 0 rfl
 have cb0 := KB0.out.cell 0 rfl
 have ca1 := KA0.out.cell 1 rfl
 have cb1 := KB0.out.cell 1 rfl
 have ca2 := KA0.out.cell 2 rfl
 have cb2 := KB0.out.cell 2 rfl
 go_wp2_with fail
 refine (eqB S.cn S'.cn D.cn D.cn x0 (HR.out.cn.later B0.out) (HQ.out.cn.later B0.out) HL.out.cn HL.out.cn).mono ?_
 rw [decide_eq_true (show D.cn = D.cn from rfl)]
 rintro e x1 ⟨rfl, b⟩
 have KA1 := hid (KA0.out.later b)
 have KB1 := hid (KB0.out.later b)
 have B1 := hid (B0.out.trans (b.mono B0.out.size))
 clear b KA0 KB0 B0 ca0 cb0 ca1 cb1 ca2 cb2
 have ca3 := KA1.out.cell 3 rfl
 have cb3 := KB1.out.cell 3 rfl
 go_wp2_with fail
 refine (eqB S.sn S'.sn D.sn D.sn x1 (HR.out.sn.later B1.out) (HQ.out.sn.later B1.out) HL.out.sn HL.out.sn).mono ?_
 rw [decide_eq_true (show D.sn = D.sn from rfl)]
 rintro e x2 ⟨rfl, b⟩
 have KA2 := hid (KA1.out.later b)
 have KB2 := hid (KB1.out.later b)
 have B2 := hid (B1.out.trans (b.mono B1.out.size))
 clear b KA1 KB1 B1 ca3 cb3
 have ca4 := KA2.out.cell 4 rfl
 have cb4 := KB2.out.cell 4 rfl
 have ca5 := KA2.out.cell 5 rfl
 have cb5 := KB2.out.cell 5 rfl
 go_wp2_with fail
 refine (eqB S.cookie S'.cookie D.cookie D.cookie x2 (HR.out.cookie.later B2.out) (HQ.out.cookie.later B2.out) HL.out.cookie HL.out.cookie).mono ?_
 rw [decide_eq_true (show D.cookie = D.cookie from rfl)]
 rintro e x3 ⟨rfl, b⟩
 have KA3 := hid (KA2.out.later b)
 have KB3 := hid (KB2.out.later b)
 have B3 := hid (B2.out.trans (b.mono B2.out.size))
 clear b KA2 KB2 B2 ca4 cb4 ca5 cb5
 have ca6 := KA3.out.cell 6 rfl
 have cb6 := KB3.out.cell 6 rfl
 go_wp2_with fail
 refine (eqB S.proof S'.proof D.proof D.proof x3 (HR.out.proof.later B3.out) (HQ.out.proof.later B3.out) HL.out.proof HL.out.proof).mono ?_
 rw [decide_eq_true (show D.proof = D.proof from rfl)]
 rintro e x4 ⟨rfl, b⟩
 have KA4 := hid (KA3.out.later b)
 have KB4 := hid (KB3.out.later b)
 have B4 := hid (B3.out.trans (b.mono B3.out.size))
 clear b KA3 KB3 B3 ca6 cb6
 have ca7 := KA4.out.cell 7 rfl
 have cb7 := KB4.out.cell 7 rfl
 have ca8 := KA4.out.cell 8 rfl
 have cb8 := KB4.out.cell 8 rfl
 have ca9 := KA4.out.cell 9 rfl
 have cb9 := KB4.out.cell 9 rfl
 go_wp2_with fail
 refine (eqB S.body S'.body D.body D.body x4 (HR.out.body.later B4.out) (HQ.out.body.later B4.out) HL.out.body HL.out.body).mono ?_
 rw [decide_eq_true (show D.body = D.body from rfl)]
 rintro e x5 ⟨rfl, b⟩
 have KA5 := hid (KA4.out.later b)
 have KB5 := hid (KB4.out.later b)
 have B5 := hid (B4.out.trans (b.mono B4.out.size))
 clear b KA4 KB4 B4 ca7 cb7 ca8 cb8 ca9 cb9
 have ca10 := KA5.out.cell 10 rfl
 have cb10 := KB5.out.cell 10 rfl
 go_wp2_with fail
 refine (eqB S.tag S'.tag D.tag D.tag x5 (HR.out.tag.later B5.out) (HQ.out.tag.later B5.out) HL.out.tag HL.out.tag).mono ?_
 rw [decide_eq_true (show D.tag = D.tag from rfl)]
 rintro e x6 ⟨rfl, b⟩
 have KA6 := hid (KA5.out.later b)
 have KB6 := hid (KB5.out.later b)
 have B6 := hid (B5.out.trans (b.mono B5.out.size))
 clear b KA5 KB5 B5 ca10 cb10
 go_wp2
 go_ret
 exact ⟨rfl, B6.out⟩
def frMarks (k : Int) (S : FrS) (D : FrD) : FrD := { D with cn := marks k S.cn.n, sn := marks (k + (S.cn.n : Int)) S.sn.n, cookie := marks ((k + (S.cn.n : Int)) + (S.sn.n : Int)) S.cookie.n, proof := marks (((k + (S.cn.n : Int)) + (S.sn.n : Int)) + (S.cookie.n : Int)) S.proof.n, body := marks ((((k + (S.cn.n : Int)) + (S.sn.n : Int)) + (S.cookie.n : Int)) + (S.proof.n : Int)) S.body.n, tag := marks (((((k + (S.cn.n : Int)) + (S.sn.n : Int)) + (S.cookie.n : Int)) + (S.proof.n : Int)) + (S.body.n : Int)) S.tag.n }
def frSum (S : FrS) : Nat := S.cn.n + S.sn.n + S.cookie.n + S.proof.n + S.body.n + S.tag.n

set_option maxHeartbeats 4000000 in
theorem markFrame (S : FrS) (D : FrD) (k : Int) (w : World) (lo hi : Nat) (h : FrOwn w lo hi S D) (hh : hi ≤ w.heap.size) (k0 : 0 ≤ k) (k1 : k + frSum S ≤ 4194304) :
  Calls Tryz.prog 23 #[frV D S, .int .i64 k] w fun e w' => e = .returned (.int .i64 (k + frSum S)) ∧ FrOwn w' lo hi S (frMarks k S D) ∧ Kept lo hi w w' := by
 have HA : Hid (FrApart S) := h.apart
 obtain ⟨x0, hx0⟩ : ∃ x0, w.alloc (.cells #[.int .i64 D.kind, .int .i64 D.id, .slice S.cn.a S.cn.n S.cn.c, .slice S.sn.a S.sn.n S.sn.c, .int .i64 D.tick, .slice S.cookie.a S.cookie.n S.cookie.c, .slice S.proof.a S.proof.n S.proof.c, .int .i64 D.epoch, .int .i64 D.seq, .slice S.body.a S.body.n S.body.c, .slice S.tag.a S.tag.n S.tag.c] 25) = x0 := ⟨_, rfl⟩
 have HW0 := hid (hx0)
 have b0 : Below w.heap.size w x0 := by rw [← hx0]; exact (Below.refl _ _).alloc (Nat.le_refl _) _
 have Q0 : Hid (Kept lo hi w x0) := (Kept.of_below b0 0).any
 have KA0 : Hid (Blk x0 w.heap.size 25 [.int .i64 D.kind, .int .i64 D.id, .slice S.cn.a S.cn.n S.cn.c, .slice S.sn.a S.sn.n S.sn.c, .int .i64 D.tick, .slice S.cookie.a S.cookie.n S.cookie.c, .slice S.proof.a S.proof.n S.proof.c, .int .i64 D.epoch, .int .i64 D.seq, .slice S.body.a S.body.n S.body.c, .slice S.tag.a S.tag.n S.tag.c]) := by rw [← hx0]; exact Blk.new w _ _
 have Ocn0 : Hid (SOwn x0 lo hi S.cn D.cn) := h.cn.carry (Kept.of_below b0 hi) (.inl (Nat.le_refl _))
 have Osn0 : Hid (SOwn x0 lo hi S.sn D.sn) := h.sn.carry (Kept.of_below b0 hi) (.inl (Nat.le_refl _))
 have Ocookie0 : Hid (SOwn x0 lo hi S.cookie D.cookie) := h.cookie.carry (Kept.of_below b0 hi) (.inl (Nat.le_refl _))
 have Oproof0 : Hid (SOwn x0 lo hi S.proof D.proof) := h.proof.carry (Kept.of_below b0 hi) (.inl (Nat.le_refl _))
 have Obody0 : Hid (SOwn x0 lo hi S.body D.body) := h.body.carry (Kept.of_below b0 hi) (.inl (Nat.le_refl _))
 have Otag0 : Hid (SOwn x0 lo hi S.tag D.tag) := h.tag.carry (Kept.of_below b0 hi) (.inl (Nat.le_refl _))
 have HZ : Hid (w.heap.size < x0.heap.size) := KA0.out.lt
 have HS : Hid (frSum S = S.cn.n + S.sn.n + S.cookie.n + S.proof.n + S.body.n + S.tag.n) := rfl
 have k1' : k + (S.cn.n : Int) + (S.sn.n : Int) + (S.cookie.n : Int) + (S.proof.n : Int) + (S.body.n : Int) + (S.tag.n : Int) ≤ 4194304 := by have := HS.out; omega
 have HE : Hid (k + (frSum S : Int) = ((((((k + (S.cn.n : Int)) + (S.sn.n : Int)) + (S.cookie.n : Int)) + (S.proof.n : Int)) + (S.body.n : Int)) + (S.tag.n : Int))) := by have := HS.out; show _ = _; omega
 rw [HE.out]
 clear h hx0 b0 k1
 unfold frV
 go_enter Tryz.func23, Tryz.ntmps23
 go_upto_region 1 with fail
 rw [HW0.out]
 obtain ⟨ga, hga⟩ : ∃ ga, w.heap.size = ga := ⟨_, rfl⟩
 have HGA : Hid (hi ≤ ga) := by show hi ≤ ga; omega
 rw [hga] at KA0
 rw [hga]
 clear HW0 hga
 have ca := KA0.out.cell 2 rfl
 go_wp2_with fail
 refine (markB S.cn D.cn k x0 lo hi Ocn0.out (by rw [← Ocn0.out.len]; omega) (by omega) (by omega)).mono ?_
 rintro e x1 ⟨rfl, o, kp, ne⟩
 have KA1 := hid (KA0.out.keep (kp.block ga KA0.out.lt (.inr HGA.out)))
 have Q1 := hid (Q0.out.trans kp)
 have Ocn1 := hid (o)
 have Osn1 : Hid (SOwn x1 lo hi S.sn D.sn) := Osn0.out.carryNe ne HA.out.cnsn
 have Ocookie1 : Hid (SOwn x1 lo hi S.cookie D.cookie) := Ocookie0.out.carryNe ne HA.out.cncookie
 have Oproof1 : Hid (SOwn x1 lo hi S.proof D.proof) := Oproof0.out.carryNe ne HA.out.cnproof
 have Obody1 : Hid (SOwn x1 lo hi S.body D.body) := Obody0.out.carryNe ne HA.out.cnbody
 have Otag1 : Hid (SOwn x1 lo hi S.tag D.tag) := Otag0.out.carryNe ne HA.out.cntag
 clear o kp ne ca KA0 Q0 Ocn0 Osn0 Ocookie0 Oproof0 Obody0 Otag0
 have ca := KA1.out.cell 3 rfl
 go_wp2_with fail
 refine (markB S.sn D.sn (k + (S.cn.n : Int)) x1 lo hi Osn1.out (by rw [← Osn1.out.len]; omega) (by omega) (by omega)).mono ?_
 rintro e x2 ⟨rfl, o, kp, ne⟩
 have KA2 := hid (KA1.out.keep (kp.block ga KA1.out.lt (.inr HGA.out)))
 have Q2 := hid (Q1.out.trans kp)
 have Osn2 := hid (o)
 have Ocn2 : Hid (SOwn x2 lo hi S.cn (marks k S.cn.n)) := Ocn1.out.carryNe2 ne HA.out.cnsn
 have Ocookie2 : Hid (SOwn x2 lo hi S.cookie D.cookie) := Ocookie1.out.carryNe ne HA.out.sncookie
 have Oproof2 : Hid (SOwn x2 lo hi S.proof D.proof) := Oproof1.out.carryNe ne HA.out.snproof
 have Obody2 : Hid (SOwn x2 lo hi S.body D.body) := Obody1.out.carryNe ne HA.out.snbody
 have Otag2 : Hid (SOwn x2 lo hi S.tag D.tag) := Otag1.out.carryNe ne HA.out.sntag
 clear o kp ne ca KA1 Q1 Ocn1 Osn1 Ocookie1 Oproof1 Obody1 Otag1
 have ca := KA2.out.cell 5 rfl
 go_wp2_with fail
 refine (markB S.cookie D.cookie ((k + (S.cn.n : Int)) + (S.sn.n : Int)) x2 lo hi Ocookie2.out (by rw [← Ocookie2.out.len]; omega) (by omega) (by omega)).mono ?_
 rintro e x3 ⟨rfl, o, kp, ne⟩
 have KA3 := hid (KA2.out.keep (kp.block ga KA2.out.lt (.inr HGA.out)))
 have Q3 := hid (Q2.out.trans kp)
 have Ocookie3 := hid (o)
 have Ocn3 : Hid (SOwn x3 lo hi S.cn (marks k S.cn.n)) := Ocn2.out.carryNe2 ne HA.out.cncookie
 have Osn3 : Hid (SOwn x3 lo hi S.sn (marks (k + (S.cn.n : Int)) S.sn.n)) := Osn2.out.carryNe2 ne HA.out.sncookie
 have Oproof3 : Hid (SOwn x3 lo hi S.proof D.proof) := Oproof2.out.carryNe ne HA.out.cookieproof
 have Obody3 : Hid (SOwn x3 lo hi S.body D.body) := Obody2.out.carryNe ne HA.out.cookiebody
 have Otag3 : Hid (SOwn x3 lo hi S.tag D.tag) := Otag2.out.carryNe ne HA.out.cookietag
 clear o kp ne ca KA2 Q2 Ocn2 Osn2 Ocookie2 Oproof2 Obody2 Otag2
 have ca := KA3.out.cell 6 rfl
 go_wp2_with fail
 refine (markB S.proof D.proof (((k + (S.cn.n : Int)) + (S.sn.n : Int)) + (S.cookie.n : Int)) x3 lo hi Oproof3.out (by rw [← Oproof3.out.len]; omega) (by omega) (by omega)).mono ?_
 rintro e x4 ⟨rfl, o, kp, ne⟩
 have KA4 := hid (KA3.out.keep (kp.block ga KA3.out.lt (.inr HGA.out)))
 have Q4 := hid (Q3.out.trans kp)
 have Oproof4 := hid (o)
 have Ocn4 : Hid (SOwn x4 lo hi S.cn (marks k S.cn.n)) := Ocn3.out.carryNe2 ne HA.out.cnproof
 have Osn4 : Hid (SOwn x4 lo hi S.sn (marks (k + (S.cn.n : Int)) S.sn.n)) := Osn3.out.carryNe2 ne HA.out.snproof
 have Ocookie4 : Hid (SOwn x4 lo hi S.cookie (marks ((k + (S.cn.n : Int)) + (S.sn.n : Int)) S.cookie.n)) := Ocookie3.out.carryNe2 ne HA.out.cookieproof
 have Obody4 : Hid (SOwn x4 lo hi S.body D.body) := Obody3.out.carryNe ne HA.out.proofbody
 have Otag4 : Hid (SOwn x4 lo hi S.tag D.tag) := Otag3.out.carryNe ne HA.out.prooftag
 clear o kp ne ca KA3 Q3 Ocn3 Osn3 Ocookie3 Oproof3 Obody3 Otag3
 have ca := KA4.out.cell 9 rfl
 go_wp2_with fail
 refine (markB S.body D.body ((((k + (S.cn.n : Int)) + (S.sn.n : Int)) + (S.cookie.n : Int)) + (S.proof.n : Int)) x4 lo hi Obody4.out (by rw [← Obody4.out.len]; omega) (by omega) (by omega)).mono ?_
 rintro e x5 ⟨rfl, o, kp, ne⟩
 have KA5 := hid (KA4.out.keep (kp.block ga KA4.out.lt (.inr HGA.out)))
 have Q5 := hid (Q4.out.trans kp)
 have Obody5 := hid (o)
 have Ocn5 : Hid (SOwn x5 lo hi S.cn (marks k S.cn.n)) := Ocn4.out.carryNe2 ne HA.out.cnbody
 have Osn5 : Hid (SOwn x5 lo hi S.sn (marks (k + (S.cn.n : Int)) S.sn.n)) := Osn4.out.carryNe2 ne HA.out.snbody
 have Ocookie5 : Hid (SOwn x5 lo hi S.cookie (marks ((k + (S.cn.n : Int)) + (S.sn.n : Int)) S.cookie.n)) := Ocookie4.out.carryNe2 ne HA.out.cookiebody
 have Oproof5 : Hid (SOwn x5 lo hi S.proof (marks (((k + (S.cn.n : Int)) + (S.sn.n : Int)) + (S.cookie.n : Int)) S.proof.n)) := Oproof4.out.carryNe2 ne HA.out.proofbody
 have Otag5 : Hid (SOwn x5 lo hi S.tag D.tag) := Otag4.out.carryNe ne HA.out.bodytag
 clear o kp ne ca KA4 Q4 Ocn4 Osn4 Ocookie4 Oproof4 Obody4 Otag4
 have ca := KA5.out.cell 10 rfl
 go_wp2_with fail
 refine (markB S.tag D.tag (((((k + (S.cn.n : Int)) + (S.sn.n : Int)) + (S.cookie.n : Int)) + (S.proof.n : Int)) + (S.body.n : Int)) x5 lo hi Otag5.out (by rw [← Otag5.out.len]; omega) (by omega) (by omega)).mono ?_
 rintro e x6 ⟨rfl, o, kp, ne⟩
 have KA6 := hid (KA5.out.keep (kp.block ga KA5.out.lt (.inr HGA.out)))
 have Q6 := hid (Q5.out.trans kp)
 have Otag6 := hid (o)
 have Ocn6 : Hid (SOwn x6 lo hi S.cn (marks k S.cn.n)) := Ocn5.out.carryNe2 ne HA.out.cntag
 have Osn6 : Hid (SOwn x6 lo hi S.sn (marks (k + (S.cn.n : Int)) S.sn.n)) := Osn5.out.carryNe2 ne HA.out.sntag
 have Ocookie6 : Hid (SOwn x6 lo hi S.cookie (marks ((k + (S.cn.n : Int)) + (S.sn.n : Int)) S.cookie.n)) := Ocookie5.out.carryNe2 ne HA.out.cookietag
 have Oproof6 : Hid (SOwn x6 lo hi S.proof (marks (((k + (S.cn.n : Int)) + (S.sn.n : Int)) + (S.cookie.n : Int)) S.proof.n)) := Oproof5.out.carryNe2 ne HA.out.prooftag
 have Obody6 : Hid (SOwn x6 lo hi S.body (marks ((((k + (S.cn.n : Int)) + (S.sn.n : Int)) + (S.cookie.n : Int)) + (S.proof.n : Int)) S.body.n)) := Obody5.out.carryNe2 ne HA.out.bodytag
 clear o kp ne ca KA5 Q5 Ocn5 Osn5 Ocookie5 Oproof5 Obody5 Otag5
 go_wp2
 go_ret
 exact ⟨rfl, ⟨Ocn6.out, Osn6.out, Ocookie6.out, Oproof6.out, Obody6.out, Otag6.out, HA.out⟩, Q6.out⟩

set_option maxHeartbeats 4000000 in
theorem heldFrame (S : FrS) (D : FrD) (k : Int) (w : World) (h : FrRd w S (frMarks k S D)) (k0 : 0 ≤ k) (k1 : k + frSum S ≤ 4194304) :
  Calls Tryz.prog 24 #[frV D S, .int .i64 k] w fun e w' => e = .returned (.int .i64 (k + frSum S)) ∧ Below w.heap.size w w' := by
 have HR := hid (h)
 obtain ⟨x0, hx0⟩ : ∃ x0, w.alloc (.cells #[.int .i64 D.kind, .int .i64 D.id, .slice S.cn.a S.cn.n S.cn.c, .slice S.sn.a S.sn.n S.sn.c, .int .i64 D.tick, .slice S.cookie.a S.cookie.n S.cookie.c, .slice S.proof.a S.proof.n S.proof.c, .int .i64 D.epoch, .int .i64 D.seq, .slice S.body.a S.body.n S.body.c, .slice S.tag.a S.tag.n S.tag.c] 25) = x0 := ⟨_, rfl⟩
 have HW0 := hid (hx0)
 have B0 : Hid (Below w.heap.size w x0) := by rw [← hx0]; exact (Below.refl _ _).alloc (Nat.le_refl _) _
 have KA0 : Hid (Blk x0 w.heap.size 25 [.int .i64 D.kind, .int .i64 D.id, .slice S.cn.a S.cn.n S.cn.c, .slice S.sn.a S.sn.n S.sn.c, .int .i64 D.tick, .slice S.cookie.a S.cookie.n S.cookie.c, .slice S.proof.a S.proof.n S.proof.c, .int .i64 D.epoch, .int .i64 D.seq, .slice S.body.a S.body.n S.body.c, .slice S.tag.a S.tag.n S.tag.c]) := by rw [← hx0]; exact Blk.new w _ _
 have HS : Hid (frSum S = S.cn.n + S.sn.n + S.cookie.n + S.proof.n + S.body.n + S.tag.n) := rfl
 have k1' : k + (S.cn.n : Int) + (S.sn.n : Int) + (S.cookie.n : Int) + (S.proof.n : Int) + (S.body.n : Int) + (S.tag.n : Int) ≤ 4194304 := by have := HS.out; omega
 have HE : Hid (k + (frSum S : Int) = ((((((k + (S.cn.n : Int)) + (S.sn.n : Int)) + (S.cookie.n : Int)) + (S.proof.n : Int)) + (S.body.n : Int)) + (S.tag.n : Int))) := by have := HS.out; show _ = _; omega
 rw [HE.out]
 clear h hx0 k1
 unfold frV
 go_enter Tryz.func24, Tryz.ntmps24
 go_upto_region 1 with fail
 rw [HW0.out]
 generalize w.heap.size = ga at KA0 ⊢
 clear HW0
 have ca := KA0.out.cell 2 rfl
 go_wp2_with fail
 refine (heldB S.cn k x0 (HR.out.cn.later B0.out) (by omega) (by omega) (by omega)).mono ?_
 rintro e x1 ⟨rfl, rfl⟩
 have kn0 : ¬ ((k + (S.cn.n : Int)) < 0) := by omega
 clear ca
 have ca := KA0.out.cell 3 rfl
 go_wp2_with fail
 refine (heldB S.sn (k + (S.cn.n : Int)) x0 (HR.out.sn.later B0.out) (by omega) (by omega) (by omega)).mono ?_
 rintro e x1 ⟨rfl, rfl⟩
 have kn1 : ¬ (((k + (S.cn.n : Int)) + (S.sn.n : Int)) < 0) := by omega
 clear ca
 have ca := KA0.out.cell 5 rfl
 go_wp2_with fail
 refine (heldB S.cookie ((k + (S.cn.n : Int)) + (S.sn.n : Int)) x0 (HR.out.cookie.later B0.out) (by omega) (by omega) (by omega)).mono ?_
 rintro e x1 ⟨rfl, rfl⟩
 have kn2 : ¬ ((((k + (S.cn.n : Int)) + (S.sn.n : Int)) + (S.cookie.n : Int)) < 0) := by omega
 clear ca
 have ca := KA0.out.cell 6 rfl
 go_wp2_with fail
 refine (heldB S.proof (((k + (S.cn.n : Int)) + (S.sn.n : Int)) + (S.cookie.n : Int)) x0 (HR.out.proof.later B0.out) (by omega) (by omega) (by omega)).mono ?_
 rintro e x1 ⟨rfl, rfl⟩
 have kn3 : ¬ (((((k + (S.cn.n : Int)) + (S.sn.n : Int)) + (S.cookie.n : Int)) + (S.proof.n : Int)) < 0) := by omega
 clear ca
 have ca := KA0.out.cell 9 rfl
 go_wp2_with fail
 refine (heldB S.body ((((k + (S.cn.n : Int)) + (S.sn.n : Int)) + (S.cookie.n : Int)) + (S.proof.n : Int)) x0 (HR.out.body.later B0.out) (by omega) (by omega) (by omega)).mono ?_
 rintro e x1 ⟨rfl, rfl⟩
 have kn4 : ¬ ((((((k + (S.cn.n : Int)) + (S.sn.n : Int)) + (S.cookie.n : Int)) + (S.proof.n : Int)) + (S.body.n : Int)) < 0) := by omega
 clear ca
 have ca := KA0.out.cell 10 rfl
 go_wp2_with fail
 refine (heldB S.tag (((((k + (S.cn.n : Int)) + (S.sn.n : Int)) + (S.cookie.n : Int)) + (S.proof.n : Int)) + (S.body.n : Int)) x0 (HR.out.tag.later B0.out) (by omega) (by omega) (by omega)).mono ?_
 rintro e x1 ⟨rfl, rfl⟩
 have kn5 : ¬ (((((((k + (S.cn.n : Int)) + (S.sn.n : Int)) + (S.cookie.n : Int)) + (S.proof.n : Int)) + (S.body.n : Int)) + (S.tag.n : Int)) < 0) := by omega
 clear ca
 go_wp2
 go_ret
 exact ⟨rfl, B0.out⟩
structure FrSmall (S : FrS) : Prop where
 cn : S.cn.n ≤ 9223372036854775807
 sn : S.sn.n ≤ 9223372036854775807
 cookie : S.cookie.n ≤ 9223372036854775807
 proof : S.proof.n ≤ 9223372036854775807
 body : S.body.n ≤ 9223372036854775807
 tag : S.tag.n ≤ 9223372036854775807

set_option maxHeartbeats 4000000 in
theorem szFrame (S : FrS) (D : FrD) (k : Int) (w : World) (h : FrSmall S) (k0 : 0 ≤ k) (k1 : k ≤ 4194304) :
  Calls Tryz.prog 17 #[frV D S, .int .i64 k] w fun e w' => e = .returned (.int .i64 (if k - frSum S < 0 then -1 else k - frSum S)) ∧ Below w.heap.size w w' := by
 obtain ⟨x0, hx0⟩ : ∃ x0, w.alloc (.cells #[.int .i64 D.kind, .int .i64 D.id, .slice S.cn.a S.cn.n S.cn.c, .slice S.sn.a S.sn.n S.sn.c, .int .i64 D.tick, .slice S.cookie.a S.cookie.n S.cookie.c, .slice S.proof.a S.proof.n S.proof.c, .int .i64 D.epoch, .int .i64 D.seq, .slice S.body.a S.body.n S.body.c, .slice S.tag.a S.tag.n S.tag.c] 37) = x0 := ⟨_, rfl⟩
 have HW0 := hid (hx0)
 have B0 : Hid (Below w.heap.size w x0) := by rw [← hx0]; exact (Below.refl _ _).alloc (Nat.le_refl _) _
 have KA0 : Hid (Blk x0 w.heap.size 37 [.int .i64 D.kind, .int .i64 D.id, .slice S.cn.a S.cn.n S.cn.c, .slice S.sn.a S.sn.n S.sn.c, .int .i64 D.tick, .slice S.cookie.a S.cookie.n S.cookie.c, .slice S.proof.a S.proof.n S.proof.c, .int .i64 D.epoch, .int .i64 D.seq, .slice S.body.a S.body.n S.body.c, .slice S.tag.a S.tag.n S.tag.c]) := by rw [← hx0]; exact Blk.new w _ _
 have HS : Hid (frSum S = S.cn.n + S.sn.n + S.cookie.n + S.proof.n + S.body.n + S.tag.n) := rfl
 have HM : Hid (FrSmall S) := h
 obtain ⟨v, hv⟩ : ∃ v, (if k - (frSum S : Int) < 0 then -1 else k - (frSum S : Int)) = v := ⟨_, rfl⟩
 have HV : Hid ((if k - (frSum S : Int) < 0 then -1 else k - (frSum S : Int)) = v) := hv
 rw [hv]
 clear h hx0 hv
 unfold frV
 go_enter Tryz.func17, Tryz.ntmps17
 go_upto_region 1 with fail
 rw [HW0.out]
 generalize w.heap.size = ga at KA0 ⊢
 clear HW0
 have ca := KA0.out.cell 2 rfl
 go_wp2_with fail
 refine (szB S.cn (k) x0 HM.out.cn (by omega) (by omega)).mono ?_
 rintro e x1 ⟨rfl, rfl⟩
 clear ca
 by_cases c0 : k - (S.cn.n : Int) < 0
 ·
  obtain rfl : v = -1 := by rw [← HV.out]; exact if_pos (by have := HS.out; omega)
  rw [if_pos c0]
  go_wp2
  go_ret
  exact ⟨rfl, B0.out⟩
 ·
  rw [if_neg c0]
  have ca := KA0.out.cell 3 rfl
  go_wp2_with fail
  refine (szB S.sn (k - (S.cn.n : Int)) x0 HM.out.sn (by omega) (by omega)).mono ?_
  rintro e x1 ⟨rfl, rfl⟩
  clear ca
  by_cases c1 : k - (S.cn.n : Int) - (S.sn.n : Int) < 0
  ·
   obtain rfl : v = -1 := by rw [← HV.out]; exact if_pos (by have := HS.out; omega)
   rw [if_pos c1]
   go_wp2
   go_ret
   exact ⟨rfl, B0.out⟩
  ·
   rw [if_neg c1]
   have ca := KA0.out.cell 5 rfl
   go_wp2_with fail
   refine (szB S.cookie (k - (S.cn.n : Int) - (S.sn.n : Int)) x0 HM.out.cookie (by omega) (by omega)).mono ?_
   rintro e x1 ⟨rfl, rfl⟩
   clear ca
   by_cases c2 : k - (S.cn.n : Int) - (S.sn.n : Int) - (S.cookie.n : Int) < 0
   ·
    obtain rfl : v = -1 := by rw [← HV.out]; exact if_pos (by have := HS.out; omega)
    rw [if_pos c2]
    go_wp2
    go_ret
    exact ⟨rfl, B0.out⟩
   ·
    rw [if_neg c2]
    have ca := KA0.out.cell 6 rfl
    go_wp2_with fail
    refine (szB S.proof (k - (S.cn.n : Int) - (S.sn.n : Int) - (S.cookie.n : Int)) x0 HM.out.proof (by omega) (by omega)).mono ?_
    rintro e x1 ⟨rfl, rfl⟩
    clear ca
    by_cases c3 : k - (S.cn.n : Int) - (S.sn.n : Int) - (S.cookie.n : Int) - (S.proof.n : Int) < 0
    ·
     obtain rfl : v = -1 := by rw [← HV.out]; exact if_pos (by have := HS.out; omega)
     rw [if_pos c3]
     go_wp2
     go_ret
     exact ⟨rfl, B0.out⟩
    ·
     rw [if_neg c3]
     have ca := KA0.out.cell 9 rfl
     go_wp2_with fail
     refine (szB S.body (k - (S.cn.n : Int) - (S.sn.n : Int) - (S.cookie.n : Int) - (S.proof.n : Int)) x0 HM.out.body (by omega) (by omega)).mono ?_
     rintro e x1 ⟨rfl, rfl⟩
     clear ca
     by_cases c4 : k - (S.cn.n : Int) - (S.sn.n : Int) - (S.cookie.n : Int) - (S.proof.n : Int) - (S.body.n : Int) < 0
     ·
      obtain rfl : v = -1 := by rw [← HV.out]; exact if_pos (by have := HS.out; omega)
      rw [if_pos c4]
      go_wp2
      go_ret
      exact ⟨rfl, B0.out⟩
     ·
      rw [if_neg c4]
      have ca := KA0.out.cell 10 rfl
      go_wp2_with fail
      refine (szB S.tag (k - (S.cn.n : Int) - (S.sn.n : Int) - (S.cookie.n : Int) - (S.proof.n : Int) - (S.body.n : Int)) x0 HM.out.tag (by omega) (by omega)).mono ?_
      rintro e x1 ⟨rfl, rfl⟩
      clear ca
      by_cases c5 : k - (S.cn.n : Int) - (S.sn.n : Int) - (S.cookie.n : Int) - (S.proof.n : Int) - (S.body.n : Int) - (S.tag.n : Int) < 0
      ·
       obtain rfl : v = -1 := by rw [← HV.out]; exact if_pos (by have := HS.out; omega)
       rw [if_pos c5]
       go_wp2
       go_ret
       exact ⟨rfl, B0.out⟩
      ·
       rw [if_neg c5]
       obtain rfl : v = k - (S.cn.n : Int) - (S.sn.n : Int) - (S.cookie.n : Int) - (S.proof.n : Int) - (S.body.n : Int) - (S.tag.n : Int) := by have := HS.out; rw [← HV.out, if_neg (by omega)]; omega
       go_wp2
       go_ret
       exact ⟨rfl, B0.out⟩
end Go.Proofs.YtpenhliaelhnoaaGreatDoor.FrZ
