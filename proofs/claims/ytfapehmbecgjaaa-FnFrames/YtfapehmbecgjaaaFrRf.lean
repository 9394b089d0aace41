/-
  What impl's readFrame answers, kind by kind.
-/
import Derived.Test.YtfapehmbecgjaaaFrRc
import Derived.Test.YtfapehmbecgjaaaFrW3
set_option linter.unusedVariables false
namespace Go.Proofs.Ytfapehmbecgjaaa.FrRf
open Go.RowKit Go.Proofs.Ytfapehmbecgjaaa.Mem Go.Proofs.Ytfapehmbecgjaaa.App Go.Proofs.Ytfapehmbecgjaaa.Get Go.Proofs.Ytfapehmbecgjaaa.Cuts Go.Proofs.Ytfapehmbecgjaaa.Blk Go.Proofs.Ytfapehmbecgjaaa.Zone Go.Proofs.Ytfapehmbecgjaaa.Res Go.Proofs.Ytfapehmbecgjaaa.FrZ Go.Proofs.Ytfapehmbecgjaaa.FrM Go.Proofs.Ytfapehmbecgjaaa.FrN Go.Proofs.Ytfapehmbecgjaaa.FrRd Go.Proofs.Ytfapehmbecgjaaa.FrRc Go.Proofs.Ytfapehmbecgjaaa.FrT Go.Proofs.Ytfapehmbecgjaaa.FrW3

def SN : FrS := ⟨⟨none, 0, 0⟩, ⟨none, 0, 0⟩, ⟨none, 0, 0⟩, ⟨none, 0, 0⟩, ⟨none, 0, 0⟩, ⟨none, 0, 0⟩⟩
theorem own_none (w : World) (lo hi : Nat) (k : Int) : FrOwn w lo hi ⟨⟨none, 0, 0⟩, ⟨none, 0, 0⟩, ⟨none, 0, 0⟩, ⟨none, 0, 0⟩, ⟨none, 0, 0⟩, ⟨none, 0, 0⟩⟩ ⟨k, 0, [], [], 0, [], [], 0, 0, [], []⟩ := ⟨SOwn.nil _ _ _, SOwn.nil _ _ _, SOwn.nil _ _ _, SOwn.nil _ _ _, SOwn.nil _ _ _, SOwn.nil _ _ _, ⟨.inl rfl, .inl rfl, .inl rfl, .inl rfl, .inl rfl, .inl rfl, .inl rfl, .inl rfl, .inl rfl, .inl rfl, .inl rfl, .inl rfl, .inl rfl, .inl rfl, .inl rfl⟩⟩
/-- The frame D is handed back, in memory of its own. -/
def Read (w : World) (D : FrD) : Ending → World → Prop := fun e w' => ∃ S, e = .returned (frV D S) ∧ FrOwn w' w.heap.size w'.heap.size S D ∧ Below w.heap.size w w'
theorem ret_read {fn : Func} {p : Tmp} {a : Act} {w w' : World} {g : Nat} {D : FrD} {S : FrS} (hf : fn.results = #[.cell p 25]) (hp : a.tmps.getD p undef = .pointer (some ⟨g, 0, none⟩))
    (hg : Blk w' g 25 [.int .i64 D.kind, .int .i64 D.id, .slice S.cn.a S.cn.n S.cn.c, .slice S.sn.a S.sn.n S.sn.c, .int .i64 D.tick, .slice S.cookie.a S.cookie.n S.cookie.c, .slice S.proof.a S.proof.n S.proof.c, .int .i64 D.epoch, .int .i64 D.seq, .slice S.body.a S.body.n S.body.c, .slice S.tag.a S.tag.n S.tag.c]) (hd : a.defers = []) (h2 : FrOwn w' w.heap.size w'.heap.size S D) (h3 : Below w.heap.size w w') : bodyPost Try.prog fn (Read w D) .ret a w' :=
  bodyPost_ret (v := frV D S) (res1 hf (is_cell hp hg aggFr)) hd ⟨S, rfl, h2, h3⟩
theorem one_add (k : Int) : (0 : Int) + 1 = 1 := rfl

set_option maxRecDepth 100000 in
set_option maxHeartbeats 8000000 in
theorem readFrame1 (bb off N c : Nat) (l : List Int) (w : World) (hn : N = l.length) (hr : Rd w (some ⟨bb, off, none⟩) l) (hb : Bytes l) (hc : N ≤ c) (hm : N ≤ 2000000) (hk : numAt l 0 1 = 1) :
    Calls Try.prog 41 #[.slice (some ⟨bb, off, none⟩) N c] w (Read w ⟨1, numAt l 1 1, cutOf l 2 12, [], 0, [], [], 0, 0, [], []⟩) := by
  have HLen : Hid (N = l.length) := hn
  have HRd : Hid (Rd w (some ⟨bb, off, none⟩) l) := hr
  have HBy : Hid (Bytes l) := hb
  have HKd : Hid (numAt l 0 1 = 1) := hk
  obtain ⟨x0, hx0⟩ : ∃ x0, (w.alloc (.cells #[.int .i64 0, .int .i64 0, .slice none 0 0, .slice none 0 0, .int .i64 0, .slice none 0 0, .slice none 0 0, .int .i64 0, .int .i64 0, .slice none 0 0, .slice none 0 0] 25)).alloc (.cells #[.slice (some ⟨bb, off, none⟩) N c, .int .i64 0] 84) = x0 := ⟨_, rfl⟩
  have HW0 : Hid ((w.alloc (.cells #[.int .i64 0, .int .i64 0, .slice none 0 0, .slice none 0 0, .int .i64 0, .slice none 0 0, .slice none 0 0, .int .i64 0, .int .i64 0, .slice none 0 0, .slice none 0 0] 25)).alloc (.cells #[.slice (some ⟨bb, off, none⟩) N c, .int .i64 0] 84) = x0) := hx0
  have B0 : Hid (Below w.heap.size w x0) := by rw [← hx0]; exact ((Below.refl _ _).alloc (Nat.le_refl _) _).alloc (by simp) _
  have KR0 : Hid (Blk x0 w.heap.size 25 [.int .i64 0, .int .i64 0, .slice none 0 0, .slice none 0 0, .int .i64 0, .slice none 0 0, .slice none 0 0, .int .i64 0, .int .i64 0, .slice none 0 0, .slice none 0 0]) := by rw [← hx0]; exact (Blk.new w _ [.int .i64 0, .int .i64 0, .slice none 0 0, .slice none 0 0, .int .i64 0, .slice none 0 0, .slice none 0 0, .int .i64 0, .int .i64 0, .slice none 0 0, .slice none 0 0]).alloc _
  have K0 : Hid (Blk x0 (w.heap.size + 1) 84 [.slice (some ⟨bb, off, none⟩) N c, .int .i64 (0)]) := by
    have := Blk.new (w.alloc (.cells #[.int .i64 0, .int .i64 0, .slice none 0 0, .slice none 0 0, .int .i64 0, .slice none 0 0, .slice none 0 0, .int .i64 0, .int .i64 0, .slice none 0 0, .slice none 0 0] 25)) 84 [.slice (some ⟨bb, off, none⟩) N c, .int .i64 0]
    rw [World.size_alloc] at this
    rw [← hx0]; exact this
  have hm4 : N ≤ 4194304 := by omega
  clear hx0 hn hr hb hk
  have t1 := as1_1
  have t2 := as1_2
  have t3 := as1_3
  have t4 := as1_4
  have t5 := as1_5
  have t6 := as1_6
  have t7 := as1_7
  have t8 := as1_8
  go_enter Try.func41, Try.ntmps41
  go_wp2_with fail
  rw [HW0.out]
  obtain ⟨gr, hgr⟩ : ∃ gr, w.heap.size = gr := ⟨_, rfl⟩
  obtain ⟨gq, hgq⟩ : ∃ gq, w.heap.size + 1 = gq := ⟨_, rfl⟩
  have HG0 : Hid (w.heap.size = gr ∧ gq = gr + 1) := ⟨hgr, by omega⟩
  rw [hgq] at K0 ⊢
  rw [hgr] at KR0
  rw [hgr]
  clear hgr hgq HW0
  refine (number gq bb off N c 0 1 l x0 K0.out HLen.out (HRd.out.later B0.out (Nat.le_refl _)) HBy.out hc hm4 (by omega) (by omega) (by omega) (by omega)).mono ?_
  rw [HKd.out]
  rintro e y1 ⟨rfl, kb1, kp1⟩
  have KY : Hid (Blk y1 gq 84 [.slice (some ⟨bb, off, none⟩) N c, .int .i64 (1)]) := kb1
  have BY : Hid (Below w.heap.size w y1) := B0.out.trans (kp1.below (by have := HG0.out; omega) B0.out.size)
  have KRY : Hid (Blk y1 gr 25 [.int .i64 0, .int .i64 0, .slice none 0 0, .slice none 0 0, .int .i64 0, .slice none 0 0, .slice none 0 0, .int .i64 0, .int .i64 0, .slice none 0 0, .slice none 0 0]) := KR0.out.keep (kp1.block gr KR0.out.lt (by have := HG0.out; omega))
  clear kb1 kp1 B0 K0 KR0
  obtain ⟨x1, hx1⟩ : ∃ x1, y1.alloc (.cells #[.int .i64 1, .int .i64 0, .slice none 0 0, .slice none 0 0, .int .i64 0, .slice none 0 0, .slice none 0 0, .int .i64 0, .int .i64 0, .slice none 0 0, .slice none 0 0] 25) = x1 := ⟨_, rfl⟩
  have HW1 : Hid (y1.alloc (.cells #[.int .i64 1, .int .i64 0, .slice none 0 0, .slice none 0 0, .int .i64 0, .slice none 0 0, .slice none 0 0, .int .i64 0, .int .i64 0, .slice none 0 0, .slice none 0 0] 25) = x1) := hx1
  have KB : Blk x1 y1.heap.size 25 [.int .i64 1, .int .i64 0, .slice none 0 0, .slice none 0 0, .int .i64 0, .slice none 0 0, .slice none 0 0, .int .i64 0, .int .i64 0, .slice none 0 0, .slice none 0 0] := by rw [← hx1]; exact Blk.new y1 _ [.int .i64 1, .int .i64 0, .slice none 0 0, .slice none 0 0, .int .i64 0, .slice none 0 0, .slice none 0 0, .int .i64 0, .int .i64 0, .slice none 0 0, .slice none 0 0]
  have M1 : Hid (FrMk x1 y1.heap.size (y1.heap.size + 1) ⟨1, 0, [], [], 0, [], [], 0, 0, [], []⟩ ⟨⟨none, 0, 0⟩, ⟨none, 0, 0⟩, ⟨none, 0, 0⟩, ⟨none, 0, 0⟩, ⟨none, 0, 0⟩, ⟨none, 0, 0⟩⟩) := ⟨KB, own_none _ _ _ _, Nat.lt_succ_self _⟩
  have K1 : Hid (Blk x1 gq 84 [.slice (some ⟨bb, off, none⟩) N c, .int .i64 (1)]) := by rw [← hx1]; exact KY.out.alloc _
  have KR1 : Hid (Blk x1 gr 25 [.int .i64 0, .int .i64 0, .slice none 0 0, .slice none 0 0, .int .i64 0, .slice none 0 0, .slice none 0 0, .int .i64 0, .int .i64 0, .slice none 0 0, .slice none 0 0]) := by rw [← hx1]; exact KRY.out.alloc _
  have B1 : Hid (Below w.heap.size w x1) := by rw [← hx1]; exact BY.out.alloc BY.out.size _
  have LG : Hid (gq < y1.heap.size) := KY.out.lt
  clear hx1 KB KY BY KRY
  go_wp2_with fail
  rw [HW1.out]
  obtain ⟨gf, hgf⟩ : ∃ gf, y1.heap.size = gf := ⟨_, rfl⟩
  rw [hgf] at M1 LG ⊢
  clear HW1 hgf
  have HG : Hid (w.heap.size = gr ∧ gq = gr + 1 ∧ gq < gf) := ⟨HG0.out.1, HG0.out.2, LG.out⟩
  refine (wordOf1 0 ⟨none, 0, 0⟩ ⟨none, 0, 0⟩ 0 ⟨none, 0, 0⟩ ⟨none, 0, 0⟩ 0 0 ⟨none, 0, 0⟩ ⟨none, 0, 0⟩ x1).mono ?_
  rintro e x2 ⟨rfl, b2⟩
  have M2 : Hid (FrMk x2 gf (gf + 1) ⟨1, 0, [], [], 0, [], [], 0, 0, [], []⟩ ⟨⟨none, 0, 0⟩, ⟨none, 0, 0⟩, ⟨none, 0, 0⟩, ⟨none, 0, 0⟩, ⟨none, 0, 0⟩, ⟨none, 0, 0⟩⟩) := M1.out.later b2
  have K2 : Hid (Blk x2 gq 84 [.slice (some ⟨bb, off, none⟩) N c, .int .i64 (1)]) := K1.out.later b2
  have KR2 : Hid (Blk x2 gr 25 [.int .i64 0, .int .i64 0, .slice none 0 0, .slice none 0 0, .int .i64 0, .slice none 0 0, .slice none 0 0, .int .i64 0, .int .i64 0, .slice none 0 0, .slice none 0 0]) := KR1.out.later b2
  have B2 : Hid (Below w.heap.size w x2) := B1.out.trans (b2.mono B1.out.size)
  clear b2 M1 K1 KR1 B1 LG HG0
  go_wp2_with fail
  refine (number gq bb off N c (1) 1 l x2 K2.out HLen.out (HRd.out.later B2.out (Nat.le_refl _)) HBy.out hc hm4 (by omega) (by omega) (by omega) (by omega)).mono ?_
  rintro e y3 ⟨rfl, kb3, kp3⟩
  have KP3 : Hid (Kept gq (gq + 1) x2 y3) := kp3
  have MY3 : Hid (FrMk y3 gf (gf + 1) ⟨1, 0, [], [], 0, [], [], 0, 0, [], []⟩ ⟨⟨none, 0, 0⟩, ⟨none, 0, 0⟩, ⟨none, 0, 0⟩, ⟨none, 0, 0⟩, ⟨none, 0, 0⟩, ⟨none, 0, 0⟩⟩) := FrMk.kept M2.out kp3 (by have := HG.out; omega) (by have := HG.out; omega)
  have co : y3.cell? ⟨gf, 1, none⟩ = some (.int .i64 0) := MY3.out.blk.cell 1 rfl
  have fo := MY3.out.blk.frozen 1
  obtain ⟨x3, hx3⟩ : ∃ x3, y3.setCell ⟨gf, 1, none⟩ (.int .i64 (numAt l (1) 1)) = x3 := ⟨_, rfl⟩
  have HW3 : Hid (y3.setCell ⟨gf, 1, none⟩ (.int .i64 (numAt l (1) 1)) = x3) := hx3
  have M3 : Hid (FrMk x3 gf (gf + 1) { (⟨1, 0, [], [], 0, [], [], 0, 0, [], []⟩ : FrD) with id := numAt l (1) 1 } ⟨⟨none, 0, 0⟩, ⟨none, 0, 0⟩, ⟨none, 0, 0⟩, ⟨none, 0, 0⟩, ⟨none, 0, 0⟩, ⟨none, 0, 0⟩⟩) := by rw [← hx3]; exact MY3.out.id _
  have K3 : Hid (Blk x3 gq 84 [.slice (some ⟨bb, off, none⟩) N c, .int .i64 (2)]) := by rw [← hx3]; exact kb3.other (by show gq ≠ gf; have := HG.out; omega) _
  have KR3 : Hid (Blk x3 gr 25 [.int .i64 0, .int .i64 0, .slice none 0 0, .slice none 0 0, .int .i64 0, .slice none 0 0, .slice none 0 0, .int .i64 0, .int .i64 0, .slice none 0 0, .slice none 0 0]) := by rw [← hx3]; exact (KR2.out.keep (KP3.out.block gr KR2.out.lt (by have := HG.out; omega))).other (by show gr ≠ gf; have := HG.out; omega) _
  have B3 : Hid (Below w.heap.size w x3) := by rw [← hx3]; exact (B2.out.trans (KP3.out.below (by have := HG.out; omega) B2.out.size)).setCell (by show _ ≤ gf; have := HG.out; omega) _
  clear hx3 kb3 kp3 MY3 KP3
  go_upto_region 6 with fail
  rw [HW3.out]
  clear co fo HW3 M2 K2 KR2 B2
  go_wp2_with fail
  refine (take gq bb off N c (2) 12 l x3 K3.out HLen.out (HRd.out.later B3.out (Nat.le_refl _)) HBy.out hc hm4 (by omega) (by omega) (by omega) (by omega)).mono ?_
  rintro e y4 ⟨q4, m4, c4, rfl, em4, kq4, r4, kb4, kp4⟩
  have KP4 : Hid (Kept gq (gq + 1) x3 y4) := kp4
  have BL4 : Blk y4 gf 25 [.int .i64 ({ (⟨1, 0, [], [], 0, [], [], 0, 0, [], []⟩ : FrD) with id := numAt l (1) 1 } : FrD).kind, .int .i64 ({ (⟨1, 0, [], [], 0, [], [], 0, 0, [], []⟩ : FrD) with id := numAt l (1) 1 } : FrD).id, .slice (⟨⟨none, 0, 0⟩, ⟨none, 0, 0⟩, ⟨none, 0, 0⟩, ⟨none, 0, 0⟩, ⟨none, 0, 0⟩, ⟨none, 0, 0⟩⟩ : FrS).cn.a (⟨⟨none, 0, 0⟩, ⟨none, 0, 0⟩, ⟨none, 0, 0⟩, ⟨none, 0, 0⟩, ⟨none, 0, 0⟩, ⟨none, 0, 0⟩⟩ : FrS).cn.n (⟨⟨none, 0, 0⟩, ⟨none, 0, 0⟩, ⟨none, 0, 0⟩, ⟨none, 0, 0⟩, ⟨none, 0, 0⟩, ⟨none, 0, 0⟩⟩ : FrS).cn.c, .slice (⟨⟨none, 0, 0⟩, ⟨none, 0, 0⟩, ⟨none, 0, 0⟩, ⟨none, 0, 0⟩, ⟨none, 0, 0⟩, ⟨none, 0, 0⟩⟩ : FrS).sn.a (⟨⟨none, 0, 0⟩, ⟨none, 0, 0⟩, ⟨none, 0, 0⟩, ⟨none, 0, 0⟩, ⟨none, 0, 0⟩, ⟨none, 0, 0⟩⟩ : FrS).sn.n (⟨⟨none, 0, 0⟩, ⟨none, 0, 0⟩, ⟨none, 0, 0⟩, ⟨none, 0, 0⟩, ⟨none, 0, 0⟩, ⟨none, 0, 0⟩⟩ : FrS).sn.c, .int .i64 ({ (⟨1, 0, [], [], 0, [], [], 0, 0, [], []⟩ : FrD) with id := numAt l (1) 1 } : FrD).tick, .slice (⟨⟨none, 0, 0⟩, ⟨none, 0, 0⟩, ⟨none, 0, 0⟩, ⟨none, 0, 0⟩, ⟨none, 0, 0⟩, ⟨none, 0, 0⟩⟩ : FrS).cookie.a (⟨⟨none, 0, 0⟩, ⟨none, 0, 0⟩, ⟨none, 0, 0⟩, ⟨none, 0, 0⟩, ⟨none, 0, 0⟩, ⟨none, 0, 0⟩⟩ : FrS).cookie.n (⟨⟨none, 0, 0⟩, ⟨none, 0, 0⟩, ⟨none, 0, 0⟩, ⟨none, 0, 0⟩, ⟨none, 0, 0⟩, ⟨none, 0, 0⟩⟩ : FrS).cookie.c, .slice (⟨⟨none, 0, 0⟩, ⟨none, 0, 0⟩, ⟨none, 0, 0⟩, ⟨none, 0, 0⟩, ⟨none, 0, 0⟩, ⟨none, 0, 0⟩⟩ : FrS).proof.a (⟨⟨none, 0, 0⟩, ⟨none, 0, 0⟩, ⟨none, 0, 0⟩, ⟨none, 0, 0⟩, ⟨none, 0, 0⟩, ⟨none, 0, 0⟩⟩ : FrS).proof.n (⟨⟨none, 0, 0⟩, ⟨none, 0, 0⟩, ⟨none, 0, 0⟩, ⟨none, 0, 0⟩, ⟨none, 0, 0⟩, ⟨none, 0, 0⟩⟩ : FrS).proof.c, .int .i64 ({ (⟨1, 0, [], [], 0, [], [], 0, 0, [], []⟩ : FrD) with id := numAt l (1) 1 } : FrD).epoch, .int .i64 ({ (⟨1, 0, [], [], 0, [], [], 0, 0, [], []⟩ : FrD) with id := numAt l (1) 1 } : FrD).seq, .slice (⟨⟨none, 0, 0⟩, ⟨none, 0, 0⟩, ⟨none, 0, 0⟩, ⟨none, 0, 0⟩, ⟨none, 0, 0⟩, ⟨none, 0, 0⟩⟩ : FrS).body.a (⟨⟨none, 0, 0⟩, ⟨none, 0, 0⟩, ⟨none, 0, 0⟩, ⟨none, 0, 0⟩, ⟨none, 0, 0⟩, ⟨none, 0, 0⟩⟩ : FrS).body.n (⟨⟨none, 0, 0⟩, ⟨none, 0, 0⟩, ⟨none, 0, 0⟩, ⟨none, 0, 0⟩, ⟨none, 0, 0⟩, ⟨none, 0, 0⟩⟩ : FrS).body.c, .slice (⟨⟨none, 0, 0⟩, ⟨none, 0, 0⟩, ⟨none, 0, 0⟩, ⟨none, 0, 0⟩, ⟨none, 0, 0⟩, ⟨none, 0, 0⟩⟩ : FrS).tag.a (⟨⟨none, 0, 0⟩, ⟨none, 0, 0⟩, ⟨none, 0, 0⟩, ⟨none, 0, 0⟩, ⟨none, 0, 0⟩, ⟨none, 0, 0⟩⟩ : FrS).tag.n (⟨⟨none, 0, 0⟩, ⟨none, 0, 0⟩, ⟨none, 0, 0⟩, ⟨none, 0, 0⟩, ⟨none, 0, 0⟩, ⟨none, 0, 0⟩⟩ : FrS).tag.c] := M3.out.blk.keep (kp4.block gf M3.out.blk.lt (by have := HG.out; omega))
  have OW4 : FrOwn y4 (gf + 1) x3.heap.size ⟨⟨none, 0, 0⟩, ⟨none, 0, 0⟩, ⟨none, 0, 0⟩, ⟨none, 0, 0⟩, ⟨none, 0, 0⟩, ⟨none, 0, 0⟩⟩ { (⟨1, 0, [], [], 0, [], [], 0, 0, [], []⟩ : FrD) with id := numAt l (1) 1 } := M3.out.own.carry kp4 (.inr (by have := HG.out; omega))
  have co : y4.cell? ⟨gf, 2, none⟩ = some (.slice none 0 0) := BL4.cell 2 rfl
  have fo := BL4.frozen 2
  obtain ⟨x4, hx4⟩ : ∃ x4, y4.setCell ⟨gf, 2, none⟩ (.slice (some ⟨q4, 0, none⟩) m4 c4) = x4 := ⟨_, rfl⟩
  have HW4 : Hid (y4.setCell ⟨gf, 2, none⟩ (.slice (some ⟨q4, 0, none⟩) m4 c4) = x4) := hx4
  have M4 : Hid (FrMk x4 gf (gf + 1) { ({ (⟨1, 0, [], [], 0, [], [], 0, 0, [], []⟩ : FrD) with id := numAt l (1) 1 } : FrD) with cn := cutOf l (2) 12 } { (⟨⟨none, 0, 0⟩, ⟨none, 0, 0⟩, ⟨none, 0, 0⟩, ⟨none, 0, 0⟩, ⟨none, 0, 0⟩, ⟨none, 0, 0⟩⟩ : FrS) with cn := ⟨some ⟨q4, 0, none⟩, m4, c4⟩ }) := by rw [← hx4]; exact FrMk.cn2 BL4 OW4 (Nat.lt_succ_self _) M3.out.blk.lt r4 em4 (cut_bytes HBy.out _ _) kq4
  have K4 : Hid (Blk x4 gq 84 [.slice (some ⟨bb, off, none⟩) N c, .int .i64 (2 + 12)]) := by rw [← hx4]; exact kb4.other (by show gq ≠ gf; have := HG.out; omega) _
  have KR4 : Hid (Blk x4 gr 25 [.int .i64 0, .int .i64 0, .slice none 0 0, .slice none 0 0, .int .i64 0, .slice none 0 0, .slice none 0 0, .int .i64 0, .int .i64 0, .slice none 0 0, .slice none 0 0]) := by rw [← hx4]; exact (KR3.out.keep (KP4.out.block gr KR3.out.lt (by have := HG.out; omega))).other (by show gr ≠ gf; have := HG.out; omega) _
  have B4 : Hid (Below w.heap.size w x4) := by rw [← hx4]; exact (B3.out.trans (KP4.out.below (by have := HG.out; omega) B3.out.size)).setCell (by show _ ≤ gf; have := HG.out; omega) _
  clear hx4 kb4 kp4 BL4 OW4 r4 em4 kq4 KP4
  go_upto_region 15 with fail
  rw [HW4.out]
  clear co fo HW4 M3 K3 KR3 B3
  obtain ⟨SS, hSS⟩ : ∃ SS : FrS, { (⟨⟨none, 0, 0⟩, ⟨none, 0, 0⟩, ⟨none, 0, 0⟩, ⟨none, 0, 0⟩, ⟨none, 0, 0⟩, ⟨none, 0, 0⟩⟩ : FrS) with cn := ⟨some ⟨q4, 0, none⟩, m4, c4⟩ } = SS := ⟨_, rfl⟩
  obtain ⟨DD, hDD⟩ : ∃ DD : FrD, ⟨1, numAt l 1 1, cutOf l 2 12, [], 0, [], [], 0, 0, [], []⟩ = DD := ⟨_, rfl⟩
  have MD : Hid (FrMk x4 gf (gf + 1) DD SS) := by rw [← hSS, ← hDD]; exact M4.out
  have HDD : Hid (⟨1, numAt l 1 1, cutOf l 2 12, [], 0, [], [], 0, 0, [], []⟩ = DD) := hDD
  clear hSS hDD M4
  have zc0 := KR4.out.cell 0 rfl
  have zf0 := KR4.out.frozen 0
  have zo0 : x4.cell? ⟨gf, 0, none⟩ = some (.int .i64 DD.kind) := MD.out.blk.cell 0 rfl
  have zc1 := KR4.out.cell 1 rfl
  have zf1 := KR4.out.frozen 1
  have zo1 : x4.cell? ⟨gf, 1, none⟩ = some (.int .i64 DD.id) := MD.out.blk.cell 1 rfl
  have zc2 := KR4.out.cell 2 rfl
  have zf2 := KR4.out.frozen 2
  have zo2 : x4.cell? ⟨gf, 2, none⟩ = some (.slice SS.cn.a SS.cn.n SS.cn.c) := MD.out.blk.cell 2 rfl
  have zc3 := KR4.out.cell 3 rfl
  have zf3 := KR4.out.frozen 3
  have zo3 : x4.cell? ⟨gf, 3, none⟩ = some (.slice SS.sn.a SS.sn.n SS.sn.c) := MD.out.blk.cell 3 rfl
  have zc4 := KR4.out.cell 4 rfl
  have zf4 := KR4.out.frozen 4
  have zo4 : x4.cell? ⟨gf, 4, none⟩ = some (.int .i64 DD.tick) := MD.out.blk.cell 4 rfl
  have zc5 := KR4.out.cell 5 rfl
  have zf5 := KR4.out.frozen 5
  have zo5 : x4.cell? ⟨gf, 5, none⟩ = some (.slice SS.cookie.a SS.cookie.n SS.cookie.c) := MD.out.blk.cell 5 rfl
  have zc6 := KR4.out.cell 6 rfl
  have zf6 := KR4.out.frozen 6
  have zo6 : x4.cell? ⟨gf, 6, none⟩ = some (.slice SS.proof.a SS.proof.n SS.proof.c) := MD.out.blk.cell 6 rfl
  have zc7 := KR4.out.cell 7 rfl
  have zf7 := KR4.out.frozen 7
  have zo7 : x4.cell? ⟨gf, 7, none⟩ = some (.int .i64 DD.epoch) := MD.out.blk.cell 7 rfl
  have zc8 := KR4.out.cell 8 rfl
  have zf8 := KR4.out.frozen 8
  have zo8 : x4.cell? ⟨gf, 8, none⟩ = some (.int .i64 DD.seq) := MD.out.blk.cell 8 rfl
  have zc9 := KR4.out.cell 9 rfl
  have zf9 := KR4.out.frozen 9
  have zo9 : x4.cell? ⟨gf, 9, none⟩ = some (.slice SS.body.a SS.body.n SS.body.c) := MD.out.blk.cell 9 rfl
  have zc10 := KR4.out.cell 10 rfl
  have zf10 := KR4.out.frozen 10
  have zo10 : x4.cell? ⟨gf, 10, none⟩ = some (.slice SS.tag.a SS.tag.n SS.tag.c) := MD.out.blk.cell 10 rfl
  have ne1 : gr ≠ gf := by have := HG.out; omega
  have ne2 : gf ≠ gr := by have := HG.out; omega
  go_wp2
  have KF : Blk ((((((((((((x4).setCell ⟨gr, 0, none⟩ (.int .i64 DD.kind)).setCell ⟨gr, 1, none⟩ (.int .i64 DD.id)).setCell ⟨gr, 2, none⟩ (.slice SS.cn.a SS.cn.n SS.cn.c)).setCell ⟨gr, 3, none⟩ (.slice SS.sn.a SS.sn.n SS.sn.c)).setCell ⟨gr, 4, none⟩ (.int .i64 DD.tick)).setCell ⟨gr, 5, none⟩ (.slice SS.cookie.a SS.cookie.n SS.cookie.c)).setCell ⟨gr, 6, none⟩ (.slice SS.proof.a SS.proof.n SS.proof.c)).setCell ⟨gr, 7, none⟩ (.int .i64 DD.epoch)).setCell ⟨gr, 8, none⟩ (.int .i64 DD.seq)).setCell ⟨gr, 9, none⟩ (.slice SS.body.a SS.body.n SS.body.c)).setCell ⟨gr, 10, none⟩ (.slice SS.tag.a SS.tag.n SS.tag.c)) gr 25 [.int .i64 DD.kind, .int .i64 DD.id, .slice SS.cn.a SS.cn.n SS.cn.c, .slice SS.sn.a SS.sn.n SS.sn.c, .int .i64 DD.tick, .slice SS.cookie.a SS.cookie.n SS.cookie.c, .slice SS.proof.a SS.proof.n SS.proof.c, .int .i64 DD.epoch, .int .i64 DD.seq, .slice SS.body.a SS.body.n SS.body.c, .slice SS.tag.a SS.tag.n SS.tag.c] := (((((((((((KR4.out).set 0 _ (by simp [maxLen])).set 1 _ (by simp [maxLen])).set 2 _ (by simp [maxLen])).set 3 _ (by simp [maxLen])).set 4 _ (by simp [maxLen])).set 5 _ (by simp [maxLen])).set 6 _ (by simp [maxLen])).set 7 _ (by simp [maxLen])).set 8 _ (by simp [maxLen])).set 9 _ (by simp [maxLen])).set 10 _ (by simp [maxLen])
  have KK : Kept gr (gr + 1) x4 ((((((((((((x4).setCell ⟨gr, 0, none⟩ (.int .i64 DD.kind)).setCell ⟨gr, 1, none⟩ (.int .i64 DD.id)).setCell ⟨gr, 2, none⟩ (.slice SS.cn.a SS.cn.n SS.cn.c)).setCell ⟨gr, 3, none⟩ (.slice SS.sn.a SS.sn.n SS.sn.c)).setCell ⟨gr, 4, none⟩ (.int .i64 DD.tick)).setCell ⟨gr, 5, none⟩ (.slice SS.cookie.a SS.cookie.n SS.cookie.c)).setCell ⟨gr, 6, none⟩ (.slice SS.proof.a SS.proof.n SS.proof.c)).setCell ⟨gr, 7, none⟩ (.int .i64 DD.epoch)).setCell ⟨gr, 8, none⟩ (.int .i64 DD.seq)).setCell ⟨gr, 9, none⟩ (.slice SS.body.a SS.body.n SS.body.c)).setCell ⟨gr, 10, none⟩ (.slice SS.tag.a SS.tag.n SS.tag.c)) := ((((((((((((Kept.refl gr (gr + 1) x4)).trans (Kept.setCell _ gr 0 _)).trans (Kept.setCell _ gr 1 _)).trans (Kept.setCell _ gr 2 _)).trans (Kept.setCell _ gr 3 _)).trans (Kept.setCell _ gr 4 _)).trans (Kept.setCell _ gr 5 _)).trans (Kept.setCell _ gr 6 _)).trans (Kept.setCell _ gr 7 _)).trans (Kept.setCell _ gr 8 _)).trans (Kept.setCell _ gr 9 _)).trans (Kept.setCell _ gr 10 _)
  rw [HDD.out]
  exact ret_read rfl rfl KF rfl (D := DD) (S := SS) ((MD.out.own.carry KK (.inr (by have := HG.out; omega))).mono (by have := HG.out; omega) KK.size) ((((((((((((B4.out).setCell (by show _ ≤ gr; have := HG.out; omega) _).setCell (by show _ ≤ gr; have := HG.out; omega) _).setCell (by show _ ≤ gr; have := HG.out; omega) _).setCell (by show _ ≤ gr; have := HG.out; omega) _).setCell (by show _ ≤ gr; have := HG.out; omega) _).setCell (by show _ ≤ gr; have := HG.out; omega) _).setCell (by show _ ≤ gr; have := HG.out; omega) _).setCell (by show _ ≤ gr; have := HG.out; omega) _).setCell (by show _ ≤ gr; have := HG.out; omega) _).setCell (by show _ ≤ gr; have := HG.out; omega) _).setCell (by show _ ≤ gr; have := HG.out; omega) _)

set_option maxRecDepth 100000 in
set_option maxHeartbeats 8000000 in
theorem readFrame2 (bb off N c : Nat) (l : List Int) (w : World) (hn : N = l.length) (hr : Rd w (some ⟨bb, off, none⟩) l) (hb : Bytes l) (hc : N ≤ c) (hm : N ≤ 2000000) (hk : numAt l 0 1 = 2) :
    Calls Try.prog 41 #[.slice (some ⟨bb, off, none⟩) N c] w (Read w ⟨2, 0, cutOf l 1 12, cutOf l (1 + 12) 12, numAt l (1 + 24) 4, cutOf l (1 + 28) 16, [], 0, 0, [], []⟩) := by
  have HLen : Hid (N = l.length) := hn
  have HRd : Hid (Rd w (some ⟨bb, off, none⟩) l) := hr
  have HBy : Hid (Bytes l) := hb
  have HKd : Hid (numAt l 0 1 = 2) := hk
  obtain ⟨x0, hx0⟩ : ∃ x0, (w.alloc (.cells #[.int .i64 0, .int .i64 0, .slice none 0 0, .slice none 0 0, .int .i64 0, .slice none 0 0, .slice none 0 0, .int .i64 0, .int .i64 0, .slice none 0 0, .slice none 0 0] 25)).alloc (.cells #[.slice (some ⟨bb, off, none⟩) N c, .int .i64 0] 84) = x0 := ⟨_, rfl⟩
  have HW0 : Hid ((w.alloc (.cells #[.int .i64 0, .int .i64 0, .slice none 0 0, .slice none 0 0, .int .i64 0, .slice none 0 0, .slice none 0 0, .int .i64 0, .int .i64 0, .slice none 0 0, .slice none 0 0] 25)).alloc (.cells #[.slice (some ⟨bb, off, none⟩) N c, .int .i64 0] 84) = x0) := hx0
  have B0 : Hid (Below w.heap.size w x0) := by rw [← hx0]; exact ((Below.refl _ _).alloc (Nat.le_refl _) _).alloc (by simp) _
  have KR0 : Hid (Blk x0 w.heap.size 25 [.int .i64 0, .int .i64 0, .slice none 0 0, .slice none 0 0, .int .i64 0, .slice none 0 0, .slice none 0 0, .int .i64 0, .int .i64 0, .slice none 0 0, .slice none 0 0]) := by rw [← hx0]; exact (Blk.new w _ [.int .i64 0, .int .i64 0, .slice none 0 0, .slice none 0 0, .int .i64 0, .slice none 0 0, .slice none 0 0, .int .i64 0, .int .i64 0, .slice none 0 0, .slice none 0 0]).alloc _
  have K0 : Hid (Blk x0 (w.heap.size + 1) 84 [.slice (some ⟨bb, off, none⟩) N c, .int .i64 (0)]) := by
    have := Blk.new (w.alloc (.cells #[.int .i64 0, .int .i64 0, .slice none 0 0, .slice none 0 0, .int .i64 0, .slice none 0 0, .slice none 0 0, .int .i64 0, .int .i64 0, .slice none 0 0, .slice none 0 0] 25)) 84 [.slice (some ⟨bb, off, none⟩) N c, .int .i64 0]
    rw [World.size_alloc] at this
    rw [← hx0]; exact this
  have hm4 : N ≤ 4194304 := by omega
  clear hx0 hn hr hb hk
  have t1 := as2_1
  have t2 := as2_2
  have t3 := as2_3
  have t4 := as2_4
  have t5 := as2_5
  have t6 := as2_6
  have t7 := as2_7
  have t8 := as2_8
  go_enter Try.func41, Try.ntmps41
  go_wp2_with fail
  rw [HW0.out]
  obtain ⟨gr, hgr⟩ : ∃ gr, w.heap.size = gr := ⟨_, rfl⟩
  obtain ⟨gq, hgq⟩ : ∃ gq, w.heap.size + 1 = gq := ⟨_, rfl⟩
  have HG0 : Hid (w.heap.size = gr ∧ gq = gr + 1) := ⟨hgr, by omega⟩
  rw [hgq] at K0 ⊢
  rw [hgr] at KR0
  rw [hgr]
  clear hgr hgq HW0
  refine (number gq bb off N c 0 1 l x0 K0.out HLen.out (HRd.out.later B0.out (Nat.le_refl _)) HBy.out hc hm4 (by omega) (by omega) (by omega) (by omega)).mono ?_
  rw [HKd.out]
  rintro e y1 ⟨rfl, kb1, kp1⟩
  have KY : Hid (Blk y1 gq 84 [.slice (some ⟨bb, off, none⟩) N c, .int .i64 (1)]) := kb1
  have BY : Hid (Below w.heap.size w y1) := B0.out.trans (kp1.below (by have := HG0.out; omega) B0.out.size)
  have KRY : Hid (Blk y1 gr 25 [.int .i64 0, .int .i64 0, .slice none 0 0, .slice none 0 0, .int .i64 0, .slice none 0 0, .slice none 0 0, .int .i64 0, .int .i64 0, .slice none 0 0, .slice none 0 0]) := KR0.out.keep (kp1.block gr KR0.out.lt (by have := HG0.out; omega))
  clear kb1 kp1 B0 K0 KR0
  obtain ⟨x1, hx1⟩ : ∃ x1, y1.alloc (.cells #[.int .i64 2, .int .i64 0, .slice none 0 0, .slice none 0 0, .int .i64 0, .slice none 0 0, .slice none 0 0, .int .i64 0, .int .i64 0, .slice none 0 0, .slice none 0 0] 25) = x1 := ⟨_, rfl⟩
  have HW1 : Hid (y1.alloc (.cells #[.int .i64 2, .int .i64 0, .slice none 0 0, .slice none 0 0, .int .i64 0, .slice none 0 0, .slice none 0 0, .int .i64 0, .int .i64 0, .slice none 0 0, .slice none 0 0] 25) = x1) := hx1
  have KB : Blk x1 y1.heap.size 25 [.int .i64 2, .int .i64 0, .slice none 0 0, .slice none 0 0, .int .i64 0, .slice none 0 0, .slice none 0 0, .int .i64 0, .int .i64 0, .slice none 0 0, .slice none 0 0] := by rw [← hx1]; exact Blk.new y1 _ [.int .i64 2, .int .i64 0, .slice none 0 0, .slice none 0 0, .int .i64 0, .slice none 0 0, .slice none 0 0, .int .i64 0, .int .i64 0, .slice none 0 0, .slice none 0 0]
  have M1 : Hid (FrMk x1 y1.heap.size (y1.heap.size + 1) ⟨2, 0, [], [], 0, [], [], 0, 0, [], []⟩ ⟨⟨none, 0, 0⟩, ⟨none, 0, 0⟩, ⟨none, 0, 0⟩, ⟨none, 0, 0⟩, ⟨none, 0, 0⟩, ⟨none, 0, 0⟩⟩) := ⟨KB, own_none _ _ _ _, Nat.lt_succ_self _⟩
  have K1 : Hid (Blk x1 gq 84 [.slice (some ⟨bb, off, none⟩) N c, .int .i64 (1)]) := by rw [← hx1]; exact KY.out.alloc _
  have KR1 : Hid (Blk x1 gr 25 [.int .i64 0, .int .i64 0, .slice none 0 0, .slice none 0 0, .int .i64 0, .slice none 0 0, .slice none 0 0, .int .i64 0, .int .i64 0, .slice none 0 0, .slice none 0 0]) := by rw [← hx1]; exact KRY.out.alloc _
  have B1 : Hid (Below w.heap.size w x1) := by rw [← hx1]; exact BY.out.alloc BY.out.size _
  have LG : Hid (gq < y1.heap.size) := KY.out.lt
  clear hx1 KB KY BY KRY
  go_wp2_with fail
  rw [HW1.out]
  obtain ⟨gf, hgf⟩ : ∃ gf, y1.heap.size = gf := ⟨_, rfl⟩
  rw [hgf] at M1 LG ⊢
  clear HW1 hgf
  have HG : Hid (w.heap.size = gr ∧ gq = gr + 1 ∧ gq < gf) := ⟨HG0.out.1, HG0.out.2, LG.out⟩
  refine (wordOf2 0 ⟨none, 0, 0⟩ ⟨none, 0, 0⟩ 0 ⟨none, 0, 0⟩ ⟨none, 0, 0⟩ 0 0 ⟨none, 0, 0⟩ ⟨none, 0, 0⟩ x1).mono ?_
  rintro e x2 ⟨rfl, b2⟩
  have M2 : Hid (FrMk x2 gf (gf + 1) ⟨2, 0, [], [], 0, [], [], 0, 0, [], []⟩ ⟨⟨none, 0, 0⟩, ⟨none, 0, 0⟩, ⟨none, 0, 0⟩, ⟨none, 0, 0⟩, ⟨none, 0, 0⟩, ⟨none, 0, 0⟩⟩) := M1.out.later b2
  have K2 : Hid (Blk x2 gq 84 [.slice (some ⟨bb, off, none⟩) N c, .int .i64 (1)]) := K1.out.later b2
  have KR2 : Hid (Blk x2 gr 25 [.int .i64 0, .int .i64 0, .slice none 0 0, .slice none 0 0, .int .i64 0, .slice none 0 0, .slice none 0 0, .int .i64 0, .int .i64 0, .slice none 0 0, .slice none 0 0]) := KR1.out.later b2
  have B2 : Hid (Below w.heap.size w x2) := B1.out.trans (b2.mono B1.out.size)
  clear b2 M1 K1 KR1 B1 LG HG0
  go_wp2_with fail
  refine (readCookie gq gf bb off N c 1 l ⟨2, 0, [], [], 0, [], [], 0, 0, [], []⟩ ⟨⟨none, 0, 0⟩, ⟨none, 0, 0⟩, ⟨none, 0, 0⟩, ⟨none, 0, 0⟩, ⟨none, 0, 0⟩, ⟨none, 0, 0⟩⟩ w x2 K2.out M2.out (by have := HG.out; omega) (by have := HG.out; omega) B2.out HLen.out HRd.out HBy.out hc hm (by omega) (by omega)).mono ?_
  rintro e x3 ⟨S3, p3, rfl, mm3, kk3, rfl, ks3⟩
  have M3 : Hid (FrMk x3 gf (gf + 1) { (⟨2, 0, [], [], 0, [], [], 0, 0, [], []⟩ : FrD) with cn := cutOf l 1 12, sn := cutOf l (1 + 12) 12, tick := numAt l (1 + 24) 4, cookie := cutOf l (1 + 28) 16 } S3) := mm3
  have K3 : Hid (Blk x3 gq 84 [.slice (some ⟨bb, off, none⟩) N c, .int .i64 (1 + 44)]) := kk3
  have KR3 : Hid (Blk x3 gr 25 [.int .i64 0, .int .i64 0, .slice none 0 0, .slice none 0 0, .int .i64 0, .slice none 0 0, .slice none 0 0, .int .i64 0, .int .i64 0, .slice none 0 0, .slice none 0 0]) := KR2.out.keep (ks3.block gr KR2.out.lt (by have := HG.out; omega))
  have B3 : Hid (Below w.heap.size w x3) := B2.out.trans (ks3.below (by have := HG.out; omega) B2.out.size)
  clear mm3 kk3 ks3 M2 K2 KR2 B2
  go_upto_region 15 with fail
  obtain ⟨SS, hSS⟩ : ∃ SS : FrS, S3 = SS := ⟨_, rfl⟩
  obtain ⟨DD, hDD⟩ : ∃ DD : FrD, ⟨2, 0, cutOf l 1 12, cutOf l (1 + 12) 12, numAt l (1 + 24) 4, cutOf l (1 + 28) 16, [], 0, 0, [], []⟩ = DD := ⟨_, rfl⟩
  have MD : Hid (FrMk x3 gf (gf + 1) DD SS) := by rw [← hSS, ← hDD]; exact M3.out
  have HDD : Hid (⟨2, 0, cutOf l 1 12, cutOf l (1 + 12) 12, numAt l (1 + 24) 4, cutOf l (1 + 28) 16, [], 0, 0, [], []⟩ = DD) := hDD
  clear hSS hDD M3
  have zc0 := KR3.out.cell 0 rfl
  have zf0 := KR3.out.frozen 0
  have zo0 : x3.cell? ⟨gf, 0, none⟩ = some (.int .i64 DD.kind) := MD.out.blk.cell 0 rfl
  have zc1 := KR3.out.cell 1 rfl
  have zf1 := KR3.out.frozen 1
  have zo1 : x3.cell? ⟨gf, 1, none⟩ = some (.int .i64 DD.id) := MD.out.blk.cell 1 rfl
  have zc2 := KR3.out.cell 2 rfl
  have zf2 := KR3.out.frozen 2
  have zo2 : x3.cell? ⟨gf, 2, none⟩ = some (.slice SS.cn.a SS.cn.n SS.cn.c) := MD.out.blk.cell 2 rfl
  have zc3 := KR3.out.cell 3 rfl
  have zf3 := KR3.out.frozen 3
  have zo3 : x3.cell? ⟨gf, 3, none⟩ = some (.slice SS.sn.a SS.sn.n SS.sn.c) := MD.out.blk.cell 3 rfl
  have zc4 := KR3.out.cell 4 rfl
  have zf4 := KR3.out.frozen 4
  have zo4 : x3.cell? ⟨gf, 4, none⟩ = some (.int .i64 DD.tick) := MD.out.blk.cell 4 rfl
  have zc5 := KR3.out.cell 5 rfl
  have zf5 := KR3.out.frozen 5
  have zo5 : x3.cell? ⟨gf, 5, none⟩ = some (.slice SS.cookie.a SS.cookie.n SS.cookie.c) := MD.out.blk.cell 5 rfl
  have zc6 := KR3.out.cell 6 rfl
  have zf6 := KR3.out.frozen 6
  have zo6 : x3.cell? ⟨gf, 6, none⟩ = some (.slice SS.proof.a SS.proof.n SS.proof.c) := MD.out.blk.cell 6 rfl
  have zc7 := KR3.out.cell 7 rfl
  have zf7 := KR3.out.frozen 7
  have zo7 : x3.cell? ⟨gf, 7, none⟩ = some (.int .i64 DD.epoch) := MD.out.blk.cell 7 rfl
  have zc8 := KR3.out.cell 8 rfl
  have zf8 := KR3.out.frozen 8
  have zo8 : x3.cell? ⟨gf, 8, none⟩ = some (.int .i64 DD.seq) := MD.out.blk.cell 8 rfl
  have zc9 := KR3.out.cell 9 rfl
  have zf9 := KR3.out.frozen 9
  have zo9 : x3.cell? ⟨gf, 9, none⟩ = some (.slice SS.body.a SS.body.n SS.body.c) := MD.out.blk.cell 9 rfl
  have zc10 := KR3.out.cell 10 rfl
  have zf10 := KR3.out.frozen 10
  have zo10 : x3.cell? ⟨gf, 10, none⟩ = some (.slice SS.tag.a SS.tag.n SS.tag.c) := MD.out.blk.cell 10 rfl
  have ne1 : gr ≠ gf := by have := HG.out; omega
  have ne2 : gf ≠ gr := by have := HG.out; omega
  go_wp2
  have KF : Blk ((((((((((((x3).setCell ⟨gr, 0, none⟩ (.int .i64 DD.kind)).setCell ⟨gr, 1, none⟩ (.int .i64 DD.id)).setCell ⟨gr, 2, none⟩ (.slice SS.cn.a SS.cn.n SS.cn.c)).setCell ⟨gr, 3, none⟩ (.slice SS.sn.a SS.sn.n SS.sn.c)).setCell ⟨gr, 4, none⟩ (.int .i64 DD.tick)).setCell ⟨gr, 5, none⟩ (.slice SS.cookie.a SS.cookie.n SS.cookie.c)).setCell ⟨gr, 6, none⟩ (.slice SS.proof.a SS.proof.n SS.proof.c)).setCell ⟨gr, 7, none⟩ (.int .i64 DD.epoch)).setCell ⟨gr, 8, none⟩ (.int .i64 DD.seq)).setCell ⟨gr, 9, none⟩ (.slice SS.body.a SS.body.n SS.body.c)).setCell ⟨gr, 10, none⟩ (.slice SS.tag.a SS.tag.n SS.tag.c)) gr 25 [.int .i64 DD.kind, .int .i64 DD.id, .slice SS.cn.a SS.cn.n SS.cn.c, .slice SS.sn.a SS.sn.n SS.sn.c, .int .i64 DD.tick, .slice SS.cookie.a SS.cookie.n SS.cookie.c, .slice SS.proof.a SS.proof.n SS.proof.c, .int .i64 DD.epoch, .int .i64 DD.seq, .slice SS.body.a SS.body.n SS.body.c, .slice SS.tag.a SS.tag.n SS.tag.c] := (((((((((((KR3.out).set 0 _ (by simp [maxLen])).set 1 _ (by simp [maxLen])).set 2 _ (by simp [maxLen])).set 3 _ (by simp [maxLen])).set 4 _ (by simp [maxLen])).set 5 _ (by simp [maxLen])).set 6 _ (by simp [maxLen])).set 7 _ (by simp [maxLen])).set 8 _ (by simp [maxLen])).set 9 _ (by simp [maxLen])).set 10 _ (by simp [maxLen])
  have KK : Kept gr (gr + 1) x3 ((((((((((((x3).setCell ⟨gr, 0, none⟩ (.int .i64 DD.kind)).setCell ⟨gr, 1, none⟩ (.int .i64 DD.id)).setCell ⟨gr, 2, none⟩ (.slice SS.cn.a SS.cn.n SS.cn.c)).setCell ⟨gr, 3, none⟩ (.slice SS.sn.a SS.sn.n SS.sn.c)).setCell ⟨gr, 4, none⟩ (.int .i64 DD.tick)).setCell ⟨gr, 5, none⟩ (.slice SS.cookie.a SS.cookie.n SS.cookie.c)).setCell ⟨gr, 6, none⟩ (.slice SS.proof.a SS.proof.n SS.proof.c)).setCell ⟨gr, 7, none⟩ (.int .i64 DD.epoch)).setCell ⟨gr, 8, none⟩ (.int .i64 DD.seq)).setCell ⟨gr, 9, none⟩ (.slice SS.body.a SS.body.n SS.body.c)).setCell ⟨gr, 10, none⟩ (.slice SS.tag.a SS.tag.n SS.tag.c)) := ((((((((((((Kept.refl gr (gr + 1) x3)).trans (Kept.setCell _ gr 0 _)).trans (Kept.setCell _ gr 1 _)).trans (Kept.setCell _ gr 2 _)).trans (Kept.setCell _ gr 3 _)).trans (Kept.setCell _ gr 4 _)).trans (Kept.setCell _ gr 5 _)).trans (Kept.setCell _ gr 6 _)).trans (Kept.setCell _ gr 7 _)).trans (Kept.setCell _ gr 8 _)).trans (Kept.setCell _ gr 9 _)).trans (Kept.setCell _ gr 10 _)
  rw [HDD.out]
  exact ret_read rfl rfl KF rfl (D := DD) (S := SS) ((MD.out.own.carry KK (.inr (by have := HG.out; omega))).mono (by have := HG.out; omega) KK.size) ((((((((((((B3.out).setCell (by show _ ≤ gr; have := HG.out; omega) _).setCell (by show _ ≤ gr; have := HG.out; omega) _).setCell (by show _ ≤ gr; have := HG.out; omega) _).setCell (by show _ ≤ gr; have := HG.out; omega) _).setCell (by show _ ≤ gr; have := HG.out; omega) _).setCell (by show _ ≤ gr; have := HG.out; omega) _).setCell (by show _ ≤ gr; have := HG.out; omega) _).setCell (by show _ ≤ gr; have := HG.out; omega) _).setCell (by show _ ≤ gr; have := HG.out; omega) _).setCell (by show _ ≤ gr; have := HG.out; omega) _).setCell (by show _ ≤ gr; have := HG.out; omega) _)

set_option maxRecDepth 100000 in
set_option maxHeartbeats 8000000 in
theorem readFrame3 (bb off N c : Nat) (l : List Int) (w : World) (hn : N = l.length) (hr : Rd w (some ⟨bb, off, none⟩) l) (hb : Bytes l) (hc : N ≤ c) (hm : N ≤ 2000000) (hk : numAt l 0 1 = 3) :
    Calls Try.prog 41 #[.slice (some ⟨bb, off, none⟩) N c] w (Read w ⟨3, numAt l 1 1, cutOf l 2 12, cutOf l (2 + 12) 12, numAt l (2 + 24) 4, cutOf l (2 + 28) 16, cutOf l (2 + 44) 16, 0, 0, [], []⟩) := by
  have HLen : Hid (N = l.length) := hn
  have HRd : Hid (Rd w (some ⟨bb, off, none⟩) l) := hr
  have HBy : Hid (Bytes l) := hb
  have HKd : Hid (numAt l 0 1 = 3) := hk
  obtain ⟨x0, hx0⟩ : ∃ x0, (w.alloc (.cells #[.int .i64 0, .int .i64 0, .slice none 0 0, .slice none 0 0, .int .i64 0, .slice none 0 0, .slice none 0 0, .int .i64 0, .int .i64 0, .slice none 0 0, .slice none 0 0] 25)).alloc (.cells #[.slice (some ⟨bb, off, none⟩) N c, .int .i64 0] 84) = x0 := ⟨_, rfl⟩
  have HW0 : Hid ((w.alloc (.cells #[.int .i64 0, .int .i64 0, .slice none 0 0, .slice none 0 0, .int .i64 0, .slice none 0 0, .slice none 0 0, .int .i64 0, .int .i64 0, .slice none 0 0, .slice none 0 0] 25)).alloc (.cells #[.slice (some ⟨bb, off, none⟩) N c, .int .i64 0] 84) = x0) := hx0
  have B0 : Hid (Below w.heap.size w x0) := by rw [← hx0]; exact ((Below.refl _ _).alloc (Nat.le_refl _) _).alloc (by simp) _
  have KR0 : Hid (Blk x0 w.heap.size 25 [.int .i64 0, .int .i64 0, .slice none 0 0, .slice none 0 0, .int .i64 0, .slice none 0 0, .slice none 0 0, .int .i64 0, .int .i64 0, .slice none 0 0, .slice none 0 0]) := by rw [← hx0]; exact (Blk.new w _ [.int .i64 0, .int .i64 0, .slice none 0 0, .slice none 0 0, .int .i64 0, .slice none 0 0, .slice none 0 0, .int .i64 0, .int .i64 0, .slice none 0 0, .slice none 0 0]).alloc _
  have K0 : Hid (Blk x0 (w.heap.size + 1) 84 [.slice (some ⟨bb, off, none⟩) N c, .int .i64 (0)]) := by
    have := Blk.new (w.alloc (.cells #[.int .i64 0, .int .i64 0, .slice none 0 0, .slice none 0 0, .int .i64 0, .slice none 0 0, .slice none 0 0, .int .i64 0, .int .i64 0, .slice none 0 0, .slice none 0 0] 25)) 84 [.slice (some ⟨bb, off, none⟩) N c, .int .i64 0]
    rw [World.size_alloc] at this
    rw [← hx0]; exact this
  have hm4 : N ≤ 4194304 := by omega
  clear hx0 hn hr hb hk
  have t1 := as3_1
  have t2 := as3_2
  have t3 := as3_3
  have t4 := as3_4
  have t5 := as3_5
  have t6 := as3_6
  have t7 := as3_7
  have t8 := as3_8
  go_enter Try.func41, Try.ntmps41
  go_wp2_with fail
  rw [HW0.out]
  obtain ⟨gr, hgr⟩ : ∃ gr, w.heap.size = gr := ⟨_, rfl⟩
  obtain ⟨gq, hgq⟩ : ∃ gq, w.heap.size + 1 = gq := ⟨_, rfl⟩
  have HG0 : Hid (w.heap.size = gr ∧ gq = gr + 1) := ⟨hgr, by omega⟩
  rw [hgq] at K0 ⊢
  rw [hgr] at KR0
  rw [hgr]
  clear hgr hgq HW0
  refine (number gq bb off N c 0 1 l x0 K0.out HLen.out (HRd.out.later B0.out (Nat.le_refl _)) HBy.out hc hm4 (by omega) (by omega) (by omega) (by omega)).mono ?_
  rw [HKd.out]
  rintro e y1 ⟨rfl, kb1, kp1⟩
  have KY : Hid (Blk y1 gq 84 [.slice (some ⟨bb, off, none⟩) N c, .int .i64 (1)]) := kb1
  have BY : Hid (Below w.heap.size w y1) := B0.out.trans (kp1.below (by have := HG0.out; omega) B0.out.size)
  have KRY : Hid (Blk y1 gr 25 [.int .i64 0, .int .i64 0, .slice none 0 0, .slice none 0 0, .int .i64 0, .slice none 0 0, .slice none 0 0, .int .i64 0, .int .i64 0, .slice none 0 0, .slice none 0 0]) := KR0.out.keep (kp1.block gr KR0.out.lt (by have := HG0.out; omega))
  clear kb1 kp1 B0 K0 KR0
  obtain ⟨x1, hx1⟩ : ∃ x1, y1.alloc (.cells #[.int .i64 3, .int .i64 0, .slice none 0 0, .slice none 0 0, .int .i64 0, .slice none 0 0, .slice none 0 0, .int .i64 0, .int .i64 0, .slice none 0 0, .slice none 0 0] 25) = x1 := ⟨_, rfl⟩
  have HW1 : Hid (y1.alloc (.cells #[.int .i64 3, .int .i64 0, .slice none 0 0, .slice none 0 0, .int .i64 0, .slice none 0 0, .slice none 0 0, .int .i64 0, .int .i64 0, .slice none 0 0, .slice none 0 0] 25) = x1) := hx1
  have KB : Blk x1 y1.heap.size 25 [.int .i64 3, .int .i64 0, .slice none 0 0, .slice none 0 0, .int .i64 0, .slice none 0 0, .slice none 0 0, .int .i64 0, .int .i64 0, .slice none 0 0, .slice none 0 0] := by rw [← hx1]; exact Blk.new y1 _ [.int .i64 3, .int .i64 0, .slice none 0 0, .slice none 0 0, .int .i64 0, .slice none 0 0, .slice none 0 0, .int .i64 0, .int .i64 0, .slice none 0 0, .slice none 0 0]
  have M1 : Hid (FrMk x1 y1.heap.size (y1.heap.size + 1) ⟨3, 0, [], [], 0, [], [], 0, 0, [], []⟩ ⟨⟨none, 0, 0⟩, ⟨none, 0, 0⟩, ⟨none, 0, 0⟩, ⟨none, 0, 0⟩, ⟨none, 0, 0⟩, ⟨none, 0, 0⟩⟩) := ⟨KB, own_none _ _ _ _, Nat.lt_succ_self _⟩
  have K1 : Hid (Blk x1 gq 84 [.slice (some ⟨bb, off, none⟩) N c, .int .i64 (1)]) := by rw [← hx1]; exact KY.out.alloc _
  have KR1 : Hid (Blk x1 gr 25 [.int .i64 0, .int .i64 0, .slice none 0 0, .slice none 0 0, .int .i64 0, .slice none 0 0, .slice none 0 0, .int .i64 0, .int .i64 0, .slice none 0 0, .slice none 0 0]) := by rw [← hx1]; exact KRY.out.alloc _
  have B1 : Hid (Below w.heap.size w x1) := by rw [← hx1]; exact BY.out.alloc BY.out.size _
  have LG : Hid (gq < y1.heap.size) := KY.out.lt
  clear hx1 KB KY BY KRY
  go_wp2_with fail
  rw [HW1.out]
  obtain ⟨gf, hgf⟩ : ∃ gf, y1.heap.size = gf := ⟨_, rfl⟩
  rw [hgf] at M1 LG ⊢
  clear HW1 hgf
  have HG : Hid (w.heap.size = gr ∧ gq = gr + 1 ∧ gq < gf) := ⟨HG0.out.1, HG0.out.2, LG.out⟩
  refine (wordOf3 0 ⟨none, 0, 0⟩ ⟨none, 0, 0⟩ 0 ⟨none, 0, 0⟩ ⟨none, 0, 0⟩ 0 0 ⟨none, 0, 0⟩ ⟨none, 0, 0⟩ x1).mono ?_
  rintro e x2 ⟨rfl, b2⟩
  have M2 : Hid (FrMk x2 gf (gf + 1) ⟨3, 0, [], [], 0, [], [], 0, 0, [], []⟩ ⟨⟨none, 0, 0⟩, ⟨none, 0, 0⟩, ⟨none, 0, 0⟩, ⟨none, 0, 0⟩, ⟨none, 0, 0⟩, ⟨none, 0, 0⟩⟩) := M1.out.later b2
  have K2 : Hid (Blk x2 gq 84 [.slice (some ⟨bb, off, none⟩) N c, .int .i64 (1)]) := K1.out.later b2
  have KR2 : Hid (Blk x2 gr 25 [.int .i64 0, .int .i64 0, .slice none 0 0, .slice none 0 0, .int .i64 0, .slice none 0 0, .slice none 0 0, .int .i64 0, .int .i64 0, .slice none 0 0, .slice none 0 0]) := KR1.out.later b2
  have B2 : Hid (Below w.heap.size w x2) := B1.out.trans (b2.mono B1.out.size)
  clear b2 M1 K1 KR1 B1 LG HG0
  go_wp2_with fail
  refine (number gq bb off N c (1) 1 l x2 K2.out HLen.out (HRd.out.later B2.out (Nat.le_refl _)) HBy.out hc hm4 (by omega) (by omega) (by omega) (by omega)).mono ?_
  rintro e y3 ⟨rfl, kb3, kp3⟩
  have KP3 : Hid (Kept gq (gq + 1) x2 y3) := kp3
  have MY3 : Hid (FrMk y3 gf (gf + 1) ⟨3, 0, [], [], 0, [], [], 0, 0, [], []⟩ ⟨⟨none, 0, 0⟩, ⟨none, 0, 0⟩, ⟨none, 0, 0⟩, ⟨none, 0, 0⟩, ⟨none, 0, 0⟩, ⟨none, 0, 0⟩⟩) := FrMk.kept M2.out kp3 (by have := HG.out; omega) (by have := HG.out; omega)
  have co : y3.cell? ⟨gf, 1, none⟩ = some (.int .i64 0) := MY3.out.blk.cell 1 rfl
  have fo := MY3.out.blk.frozen 1
  obtain ⟨x3, hx3⟩ : ∃ x3, y3.setCell ⟨gf, 1, none⟩ (.int .i64 (numAt l (1) 1)) = x3 := ⟨_, rfl⟩
  have HW3 : Hid (y3.setCell ⟨gf, 1, none⟩ (.int .i64 (numAt l (1) 1)) = x3) := hx3
  have M3 : Hid (FrMk x3 gf (gf + 1) { (⟨3, 0, [], [], 0, [], [], 0, 0, [], []⟩ : FrD) with id := numAt l (1) 1 } ⟨⟨none, 0, 0⟩, ⟨none, 0, 0⟩, ⟨none, 0, 0⟩, ⟨none, 0, 0⟩, ⟨none, 0, 0⟩, ⟨none, 0, 0⟩⟩) := by rw [← hx3]; exact MY3.out.id _
  have K3 : Hid (Blk x3 gq 84 [.slice (some ⟨bb, off, none⟩) N c, .int .i64 (2)]) := by rw [← hx3]; exact kb3.other (by show gq ≠ gf; have := HG.out; omega) _
  have KR3 : Hid (Blk x3 gr 25 [.int .i64 0, .int .i64 0, .slice none 0 0, .slice none 0 0, .int .i64 0, .slice none 0 0, .slice none 0 0, .int .i64 0, .int .i64 0, .slice none 0 0, .slice none 0 0]) := by rw [← hx3]; exact (KR2.out.keep (KP3.out.block gr KR2.out.lt (by have := HG.out; omega))).other (by show gr ≠ gf; have := HG.out; omega) _
  have B3 : Hid (Below w.heap.size w x3) := by rw [← hx3]; exact (B2.out.trans (KP3.out.below (by have := HG.out; omega) B2.out.size)).setCell (by show _ ≤ gf; have := HG.out; omega) _
  clear hx3 kb3 kp3 MY3 KP3
  go_upto_region 11 with fail
  rw [HW3.out]
  clear co fo HW3 M2 K2 KR2 B2
  go_wp2_with fail
  refine (readCookie gq gf bb off N c 2 l { (⟨3, 0, [], [], 0, [], [], 0, 0, [], []⟩ : FrD) with id := numAt l (1) 1 } ⟨⟨none, 0, 0⟩, ⟨none, 0, 0⟩, ⟨none, 0, 0⟩, ⟨none, 0, 0⟩, ⟨none, 0, 0⟩, ⟨none, 0, 0⟩⟩ w x3 K3.out M3.out (by have := HG.out; omega) (by have := HG.out; omega) B3.out HLen.out HRd.out HBy.out hc hm (by omega) (by omega)).mono ?_
  rintro e x4 ⟨S4, p4, rfl, mm4, kk4, rfl, ks4⟩
  have M4 : Hid (FrMk x4 gf (gf + 1) { ({ (⟨3, 0, [], [], 0, [], [], 0, 0, [], []⟩ : FrD) with id := numAt l (1) 1 } : FrD) with cn := cutOf l 2 12, sn := cutOf l (2 + 12) 12, tick := numAt l (2 + 24) 4, cookie := cutOf l (2 + 28) 16 } S4) := mm4
  have K4 : Hid (Blk x4 gq 84 [.slice (some ⟨bb, off, none⟩) N c, .int .i64 (2 + 44)]) := kk4
  have KR4 : Hid (Blk x4 gr 25 [.int .i64 0, .int .i64 0, .slice none 0 0, .slice none 0 0, .int .i64 0, .slice none 0 0, .slice none 0 0, .int .i64 0, .int .i64 0, .slice none 0 0, .slice none 0 0]) := KR3.out.keep (ks4.block gr KR3.out.lt (by have := HG.out; omega))
  have B4 : Hid (Below w.heap.size w x4) := B3.out.trans (ks4.below (by have := HG.out; omega) B3.out.size)
  clear mm4 kk4 ks4 M3 K3 KR3 B3
  go_upto_region 12 with fail
  go_wp2_with fail
  refine (take gq bb off N c (2 + 44) 16 l x4 K4.out HLen.out (HRd.out.later B4.out (Nat.le_refl _)) HBy.out hc hm4 (by omega) (by omega) (by omega) (by omega)).mono ?_
  rintro e y5 ⟨q5, m5, c5, rfl, em5, kq5, r5, kb5, kp5⟩
  have KP5 : Hid (Kept gq (gq + 1) x4 y5) := kp5
  have BL5 : Blk y5 gf 25 [.int .i64 ({ ({ (⟨3, 0, [], [], 0, [], [], 0, 0, [], []⟩ : FrD) with id := numAt l (1) 1 } : FrD) with cn := cutOf l 2 12, sn := cutOf l (2 + 12) 12, tick := numAt l (2 + 24) 4, cookie := cutOf l (2 + 28) 16 } : FrD).kind, .int .i64 ({ ({ (⟨3, 0, [], [], 0, [], [], 0, 0, [], []⟩ : FrD) with id := numAt l (1) 1 } : FrD) with cn := cutOf l 2 12, sn := cutOf l (2 + 12) 12, tick := numAt l (2 + 24) 4, cookie := cutOf l (2 + 28) 16 } : FrD).id, .slice (S4 : FrS).cn.a (S4 : FrS).cn.n (S4 : FrS).cn.c, .slice (S4 : FrS).sn.a (S4 : FrS).sn.n (S4 : FrS).sn.c, .int .i64 ({ ({ (⟨3, 0, [], [], 0, [], [], 0, 0, [], []⟩ : FrD) with id := numAt l (1) 1 } : FrD) with cn := cutOf l 2 12, sn := cutOf l (2 + 12) 12, tick := numAt l (2 + 24) 4, cookie := cutOf l (2 + 28) 16 } : FrD).tick, .slice (S4 : FrS).cookie.a (S4 : FrS).cookie.n (S4 : FrS).cookie.c, .slice (S4 : FrS).proof.a (S4 : FrS).proof.n (S4 : FrS).proof.c, .int .i64 ({ ({ (⟨3, 0, [], [], 0, [], [], 0, 0, [], []⟩ : FrD) with id := numAt l (1) 1 } : FrD) with cn := cutOf l 2 12, sn := cutOf l (2 + 12) 12, tick := numAt l (2 + 24) 4, cookie := cutOf l (2 + 28) 16 } : FrD).epoch, .int .i64 ({ ({ (⟨3, 0, [], [], 0, [], [], 0, 0, [], []⟩ : FrD) with id := numAt l (1) 1 } : FrD) with cn := cutOf l 2 12, sn := cutOf l (2 + 12) 12, tick := numAt l (2 + 24) 4, cookie := cutOf l (2 + 28) 16 } : FrD).seq, .slice (S4 : FrS).body.a (S4 : FrS).body.n (S4 : FrS).body.c, .slice (S4 : FrS).tag.a (S4 : FrS).tag.n (S4 : FrS).tag.c] := M4.out.blk.keep (kp5.block gf M4.out.blk.lt (by have := HG.out; omega))
  have OW5 : FrOwn y5 (gf + 1) x4.heap.size S4 { ({ (⟨3, 0, [], [], 0, [], [], 0, 0, [], []⟩ : FrD) with id := numAt l (1) 1 } : FrD) with cn := cutOf l 2 12, sn := cutOf l (2 + 12) 12, tick := numAt l (2 + 24) 4, cookie := cutOf l (2 + 28) 16 } := M4.out.own.carry kp5 (.inr (by have := HG.out; omega))
  have co : y5.cell? ⟨gf, 6, none⟩ = some (.slice S4.proof.a S4.proof.n S4.proof.c) := BL5.cell 6 rfl
  have fo := BL5.frozen 6
  obtain ⟨x5, hx5⟩ : ∃ x5, y5.setCell ⟨gf, 6, none⟩ (.slice (some ⟨q5, 0, none⟩) m5 c5) = x5 := ⟨_, rfl⟩
  have HW5 : Hid (y5.setCell ⟨gf, 6, none⟩ (.slice (some ⟨q5, 0, none⟩) m5 c5) = x5) := hx5
  have M5 : Hid (FrMk x5 gf (gf + 1) { ({ ({ (⟨3, 0, [], [], 0, [], [], 0, 0, [], []⟩ : FrD) with id := numAt l (1) 1 } : FrD) with cn := cutOf l 2 12, sn := cutOf l (2 + 12) 12, tick := numAt l (2 + 24) 4, cookie := cutOf l (2 + 28) 16 } : FrD) with proof := cutOf l (2 + 44) 16 } { (S4 : FrS) with proof := ⟨some ⟨q5, 0, none⟩, m5, c5⟩ }) := by rw [← hx5]; exact FrMk.proof2 BL5 OW5 (Nat.lt_succ_self _) M4.out.blk.lt r5 em5 (cut_bytes HBy.out _ _) kq5
  have K5 : Hid (Blk x5 gq 84 [.slice (some ⟨bb, off, none⟩) N c, .int .i64 (2 + 44 + 16)]) := by rw [← hx5]; exact kb5.other (by show gq ≠ gf; have := HG.out; omega) _
  have KR5 : Hid (Blk x5 gr 25 [.int .i64 0, .int .i64 0, .slice none 0 0, .slice none 0 0, .int .i64 0, .slice none 0 0, .slice none 0 0, .int .i64 0, .int .i64 0, .slice none 0 0, .slice none 0 0]) := by rw [← hx5]; exact (KR4.out.keep (KP5.out.block gr KR4.out.lt (by have := HG.out; omega))).other (by show gr ≠ gf; have := HG.out; omega) _
  have B5 : Hid (Below w.heap.size w x5) := by rw [← hx5]; exact (B4.out.trans (KP5.out.below (by have := HG.out; omega) B4.out.size)).setCell (by show _ ≤ gf; have := HG.out; omega) _
  clear hx5 kb5 kp5 BL5 OW5 r5 em5 kq5 KP5
  go_upto_region 15 with fail
  rw [HW5.out]
  clear co fo HW5 M4 K4 KR4 B4
  obtain ⟨SS, hSS⟩ : ∃ SS : FrS, { (S4 : FrS) with proof := ⟨some ⟨q5, 0, none⟩, m5, c5⟩ } = SS := ⟨_, rfl⟩
  obtain ⟨DD, hDD⟩ : ∃ DD : FrD, ⟨3, numAt l 1 1, cutOf l 2 12, cutOf l (2 + 12) 12, numAt l (2 + 24) 4, cutOf l (2 + 28) 16, cutOf l (2 + 44) 16, 0, 0, [], []⟩ = DD := ⟨_, rfl⟩
  have MD : Hid (FrMk x5 gf (gf + 1) DD SS) := by rw [← hSS, ← hDD]; exact M5.out
  have HDD : Hid (⟨3, numAt l 1 1, cutOf l 2 12, cutOf l (2 + 12) 12, numAt l (2 + 24) 4, cutOf l (2 + 28) 16, cutOf l (2 + 44) 16, 0, 0, [], []⟩ = DD) := hDD
  clear hSS hDD M5
  have zc0 := KR5.out.cell 0 rfl
  have zf0 := KR5.out.frozen 0
  have zo0 : x5.cell? ⟨gf, 0, none⟩ = some (.int .i64 DD.kind) := MD.out.blk.cell 0 rfl
  have zc1 := KR5.out.cell 1 rfl
  have zf1 := KR5.out.frozen 1
  have zo1 : x5.cell? ⟨gf, 1, none⟩ = some (.int .i64 DD.id) := MD.out.blk.cell 1 rfl
  have zc2 := KR5.out.cell 2 rfl
  have zf2 := KR5.out.frozen 2
  have zo2 : x5.cell? ⟨gf, 2, none⟩ = some (.slice SS.cn.a SS.cn.n SS.cn.c) := MD.out.blk.cell 2 rfl
  have zc3 := KR5.out.cell 3 rfl
  have zf3 := KR5.out.frozen 3
  have zo3 : x5.cell? ⟨gf, 3, none⟩ = some (.slice SS.sn.a SS.sn.n SS.sn.c) := MD.out.blk.cell 3 rfl
  have zc4 := KR5.out.cell 4 rfl
  have zf4 := KR5.out.frozen 4
  have zo4 : x5.cell? ⟨gf, 4, none⟩ = some (.int .i64 DD.tick) := MD.out.blk.cell 4 rfl
  have zc5 := KR5.out.cell 5 rfl
  have zf5 := KR5.out.frozen 5
  have zo5 : x5.cell? ⟨gf, 5, none⟩ = some (.slice SS.cookie.a SS.cookie.n SS.cookie.c) := MD.out.blk.cell 5 rfl
  have zc6 := KR5.out.cell 6 rfl
  have zf6 := KR5.out.frozen 6
  have zo6 : x5.cell? ⟨gf, 6, none⟩ = some (.slice SS.proof.a SS.proof.n SS.proof.c) := MD.out.blk.cell 6 rfl
  have zc7 := KR5.out.cell 7 rfl
  have zf7 := KR5.out.frozen 7
  have zo7 : x5.cell? ⟨gf, 7, none⟩ = some (.int .i64 DD.epoch) := MD.out.blk.cell 7 rfl
  have zc8 := KR5.out.cell 8 rfl
  have zf8 := KR5.out.frozen 8
  have zo8 : x5.cell? ⟨gf, 8, none⟩ = some (.int .i64 DD.seq) := MD.out.blk.cell 8 rfl
  have zc9 := KR5.out.cell 9 rfl
  have zf9 := KR5.out.frozen 9
  have zo9 : x5.cell? ⟨gf, 9, none⟩ = some (.slice SS.body.a SS.body.n SS.body.c) := MD.out.blk.cell 9 rfl
  have zc10 := KR5.out.cell 10 rfl
  have zf10 := KR5.out.frozen 10
  have zo10 : x5.cell? ⟨gf, 10, none⟩ = some (.slice SS.tag.a SS.tag.n SS.tag.c) := MD.out.blk.cell 10 rfl
  have ne1 : gr ≠ gf := by have := HG.out; omega
  have ne2 : gf ≠ gr := by have := HG.out; omega
  go_wp2
  have KF : Blk ((((((((((((x5).setCell ⟨gr, 0, none⟩ (.int .i64 DD.kind)).setCell ⟨gr, 1, none⟩ (.int .i64 DD.id)).setCell ⟨gr, 2, none⟩ (.slice SS.cn.a SS.cn.n SS.cn.c)).setCell ⟨gr, 3, none⟩ (.slice SS.sn.a SS.sn.n SS.sn.c)).setCell ⟨gr, 4, none⟩ (.int .i64 DD.tick)).setCell ⟨gr, 5, none⟩ (.slice SS.cookie.a SS.cookie.n SS.cookie.c)).setCell ⟨gr, 6, none⟩ (.slice SS.proof.a SS.proof.n SS.proof.c)).setCell ⟨gr, 7, none⟩ (.int .i64 DD.epoch)).setCell ⟨gr, 8, none⟩ (.int .i64 DD.seq)).setCell ⟨gr, 9, none⟩ (.slice SS.body.a SS.body.n SS.body.c)).setCell ⟨gr, 10, none⟩ (.slice SS.tag.a SS.tag.n SS.tag.c)) gr 25 [.int .i64 DD.kind, .int .i64 DD.id, .slice SS.cn.a SS.cn.n SS.cn.c, .slice SS.sn.a SS.sn.n SS.sn.c, .int .i64 DD.tick, .slice SS.cookie.a SS.cookie.n SS.cookie.c, .slice SS.proof.a SS.proof.n SS.proof.c, .int .i64 DD.epoch, .int .i64 DD.seq, .slice SS.body.a SS.body.n SS.body.c, .slice SS.tag.a SS.tag.n SS.tag.c] := (((((((((((KR5.out).set 0 _ (by simp [maxLen])).set 1 _ (by simp [maxLen])).set 2 _ (by simp [maxLen])).set 3 _ (by simp [maxLen])).set 4 _ (by simp [maxLen])).set 5 _ (by simp [maxLen])).set 6 _ (by simp [maxLen])).set 7 _ (by simp [maxLen])).set 8 _ (by simp [maxLen])).set 9 _ (by simp [maxLen])).set 10 _ (by simp [maxLen])
  have KK : Kept gr (gr + 1) x5 ((((((((((((x5).setCell ⟨gr, 0, none⟩ (.int .i64 DD.kind)).setCell ⟨gr, 1, none⟩ (.int .i64 DD.id)).setCell ⟨gr, 2, none⟩ (.slice SS.cn.a SS.cn.n SS.cn.c)).setCell ⟨gr, 3, none⟩ (.slice SS.sn.a SS.sn.n SS.sn.c)).setCell ⟨gr, 4, none⟩ (.int .i64 DD.tick)).setCell ⟨gr, 5, none⟩ (.slice SS.cookie.a SS.cookie.n SS.cookie.c)).setCell ⟨gr, 6, none⟩ (.slice SS.proof.a SS.proof.n SS.proof.c)).setCell ⟨gr, 7, none⟩ (.int .i64 DD.epoch)).setCell ⟨gr, 8, none⟩ (.int .i64 DD.seq)).setCell ⟨gr, 9, none⟩ (.slice SS.body.a SS.body.n SS.body.c)).setCell ⟨gr, 10, none⟩ (.slice SS.tag.a SS.tag.n SS.tag.c)) := ((((((((((((Kept.refl gr (gr + 1) x5)).trans (Kept.setCell _ gr 0 _)).trans (Kept.setCell _ gr 1 _)).trans (Kept.setCell _ gr 2 _)).trans (Kept.setCell _ gr 3 _)).trans (Kept.setCell _ gr 4 _)).trans (Kept.setCell _ gr 5 _)).trans (Kept.setCell _ gr 6 _)).trans (Kept.setCell _ gr 7 _)).trans (Kept.setCell _ gr 8 _)).trans (Kept.setCell _ gr 9 _)).trans (Kept.setCell _ gr 10 _)
  rw [HDD.out]
  exact ret_read rfl rfl KF rfl (D := DD) (S := SS) ((MD.out.own.carry KK (.inr (by have := HG.out; omega))).mono (by have := HG.out; omega) KK.size) ((((((((((((B5.out).setCell (by show _ ≤ gr; have := HG.out; omega) _).setCell (by show _ ≤ gr; have := HG.out; omega) _).setCell (by show _ ≤ gr; have := HG.out; omega) _).setCell (by show _ ≤ gr; have := HG.out; omega) _).setCell (by show _ ≤ gr; have := HG.out; omega) _).setCell (by show _ ≤ gr; have := HG.out; omega) _).setCell (by show _ ≤ gr; have := HG.out; omega) _).setCell (by show _ ≤ gr; have := HG.out; omega) _).setCell (by show _ ≤ gr; have := HG.out; omega) _).setCell (by show _ ≤ gr; have := HG.out; omega) _).setCell (by show _ ≤ gr; have := HG.out; omega) _)

set_option maxRecDepth 100000 in
set_option maxHeartbeats 8000000 in
theorem readFrame4 (bb off N c : Nat) (l : List Int) (w : World) (hn : N = l.length) (hr : Rd w (some ⟨bb, off, none⟩) l) (hb : Bytes l) (hc : N ≤ c) (hm : N ≤ 2000000) (hk : numAt l 0 1 = 4) :
    Calls Try.prog 41 #[.slice (some ⟨bb, off, none⟩) N c] w (Read w ⟨4, 0, [], cutOf l 1 12, 0, [], [], numAt l (1 + 12) 4, numAt l (1 + 16) 6, cutOf l (1 + 38) ((N : Int) - (1 + 38)), cutOf l (1 + 22) 16⟩) := by
  have HLen : Hid (N = l.length) := hn
  have HRd : Hid (Rd w (some ⟨bb, off, none⟩) l) := hr
  have HBy : Hid (Bytes l) := hb
  have HKd : Hid (numAt l 0 1 = 4) := hk
  obtain ⟨x0, hx0⟩ : ∃ x0, (w.alloc (.cells #[.int .i64 0, .int .i64 0, .slice none 0 0, .slice none 0 0, .int .i64 0, .slice none 0 0, .slice none 0 0, .int .i64 0, .int .i64 0, .slice none 0 0, .slice none 0 0] 25)).alloc (.cells #[.slice (some ⟨bb, off, none⟩) N c, .int .i64 0] 84) = x0 := ⟨_, rfl⟩
  have HW0 : Hid ((w.alloc (.cells #[.int .i64 0, .int .i64 0, .slice none 0 0, .slice none 0 0, .int .i64 0, .slice none 0 0, .slice none 0 0, .int .i64 0, .int .i64 0, .slice none 0 0, .slice none 0 0] 25)).alloc (.cells #[.slice (some ⟨bb, off, none⟩) N c, .int .i64 0] 84) = x0) := hx0
  have B0 : Hid (Below w.heap.size w x0) := by rw [← hx0]; exact ((Below.refl _ _).alloc (Nat.le_refl _) _).alloc (by simp) _
  have KR0 : Hid (Blk x0 w.heap.size 25 [.int .i64 0, .int .i64 0, .slice none 0 0, .slice none 0 0, .int .i64 0, .slice none 0 0, .slice none 0 0, .int .i64 0, .int .i64 0, .slice none 0 0, .slice none 0 0]) := by rw [← hx0]; exact (Blk.new w _ [.int .i64 0, .int .i64 0, .slice none 0 0, .slice none 0 0, .int .i64 0, .slice none 0 0, .slice none 0 0, .int .i64 0, .int .i64 0, .slice none 0 0, .slice none 0 0]).alloc _
  have K0 : Hid (Blk x0 (w.heap.size + 1) 84 [.slice (some ⟨bb, off, none⟩) N c, .int .i64 (0)]) := by
    have := Blk.new (w.alloc (.cells #[.int .i64 0, .int .i64 0, .slice none 0 0, .slice none 0 0, .int .i64 0, .slice none 0 0, .slice none 0 0, .int .i64 0, .int .i64 0, .slice none 0 0, .slice none 0 0] 25)) 84 [.slice (some ⟨bb, off, none⟩) N c, .int .i64 0]
    rw [World.size_alloc] at this
    rw [← hx0]; exact this
  have hm4 : N ≤ 4194304 := by omega
  clear hx0 hn hr hb hk
  have t1 := as4_1
  have t2 := as4_2
  have t3 := as4_3
  have t4 := as4_4
  have t5 := as4_5
  have t6 := as4_6
  have t7 := as4_7
  have t8 := as4_8
  go_enter Try.func41, Try.ntmps41
  go_wp2_with fail
  rw [HW0.out]
  obtain ⟨gr, hgr⟩ : ∃ gr, w.heap.size = gr := ⟨_, rfl⟩
  obtain ⟨gq, hgq⟩ : ∃ gq, w.heap.size + 1 = gq := ⟨_, rfl⟩
  have HG0 : Hid (w.heap.size = gr ∧ gq = gr + 1) := ⟨hgr, by omega⟩
  rw [hgq] at K0 ⊢
  rw [hgr] at KR0
  rw [hgr]
  clear hgr hgq HW0
  refine (number gq bb off N c 0 1 l x0 K0.out HLen.out (HRd.out.later B0.out (Nat.le_refl _)) HBy.out hc hm4 (by omega) (by omega) (by omega) (by omega)).mono ?_
  rw [HKd.out]
  rintro e y1 ⟨rfl, kb1, kp1⟩
  have KY : Hid (Blk y1 gq 84 [.slice (some ⟨bb, off, none⟩) N c, .int .i64 (1)]) := kb1
  have BY : Hid (Below w.heap.size w y1) := B0.out.trans (kp1.below (by have := HG0.out; omega) B0.out.size)
  have KRY : Hid (Blk y1 gr 25 [.int .i64 0, .int .i64 0, .slice none 0 0, .slice none 0 0, .int .i64 0, .slice none 0 0, .slice none 0 0, .int .i64 0, .int .i64 0, .slice none 0 0, .slice none 0 0]) := KR0.out.keep (kp1.block gr KR0.out.lt (by have := HG0.out; omega))
  clear kb1 kp1 B0 K0 KR0
  obtain ⟨x1, hx1⟩ : ∃ x1, y1.alloc (.cells #[.int .i64 4, .int .i64 0, .slice none 0 0, .slice none 0 0, .int .i64 0, .slice none 0 0, .slice none 0 0, .int .i64 0, .int .i64 0, .slice none 0 0, .slice none 0 0] 25) = x1 := ⟨_, rfl⟩
  have HW1 : Hid (y1.alloc (.cells #[.int .i64 4, .int .i64 0, .slice none 0 0, .slice none 0 0, .int .i64 0, .slice none 0 0, .slice none 0 0, .int .i64 0, .int .i64 0, .slice none 0 0, .slice none 0 0] 25) = x1) := hx1
  have KB : Blk x1 y1.heap.size 25 [.int .i64 4, .int .i64 0, .slice none 0 0, .slice none 0 0, .int .i64 0, .slice none 0 0, .slice none 0 0, .int .i64 0, .int .i64 0, .slice none 0 0, .slice none 0 0] := by rw [← hx1]; exact Blk.new y1 _ [.int .i64 4, .int .i64 0, .slice none 0 0, .slice none 0 0, .int .i64 0, .slice none 0 0, .slice none 0 0, .int .i64 0, .int .i64 0, .slice none 0 0, .slice none 0 0]
  have M1 : Hid (FrMk x1 y1.heap.size (y1.heap.size + 1) ⟨4, 0, [], [], 0, [], [], 0, 0, [], []⟩ ⟨⟨none, 0, 0⟩, ⟨none, 0, 0⟩, ⟨none, 0, 0⟩, ⟨none, 0, 0⟩, ⟨none, 0, 0⟩, ⟨none, 0, 0⟩⟩) := ⟨KB, own_none _ _ _ _, Nat.lt_succ_self _⟩
  have K1 : Hid (Blk x1 gq 84 [.slice (some ⟨bb, off, none⟩) N c, .int .i64 (1)]) := by rw [← hx1]; exact KY.out.alloc _
  have KR1 : Hid (Blk x1 gr 25 [.int .i64 0, .int .i64 0, .slice none 0 0, .slice none 0 0, .int .i64 0, .slice none 0 0, .slice none 0 0, .int .i64 0, .int .i64 0, .slice none 0 0, .slice none 0 0]) := by rw [← hx1]; exact KRY.out.alloc _
  have B1 : Hid (Below w.heap.size w x1) := by rw [← hx1]; exact BY.out.alloc BY.out.size _
  have LG : Hid (gq < y1.heap.size) := KY.out.lt
  clear hx1 KB KY BY KRY
  go_wp2_with fail
  rw [HW1.out]
  obtain ⟨gf, hgf⟩ : ∃ gf, y1.heap.size = gf := ⟨_, rfl⟩
  rw [hgf] at M1 LG ⊢
  clear HW1 hgf
  have HG : Hid (w.heap.size = gr ∧ gq = gr + 1 ∧ gq < gf) := ⟨HG0.out.1, HG0.out.2, LG.out⟩
  refine (wordOf4 0 ⟨none, 0, 0⟩ ⟨none, 0, 0⟩ 0 ⟨none, 0, 0⟩ ⟨none, 0, 0⟩ 0 0 ⟨none, 0, 0⟩ ⟨none, 0, 0⟩ x1).mono ?_
  rintro e x2 ⟨rfl, b2⟩
  have M2 : Hid (FrMk x2 gf (gf + 1) ⟨4, 0, [], [], 0, [], [], 0, 0, [], []⟩ ⟨⟨none, 0, 0⟩, ⟨none, 0, 0⟩, ⟨none, 0, 0⟩, ⟨none, 0, 0⟩, ⟨none, 0, 0⟩, ⟨none, 0, 0⟩⟩) := M1.out.later b2
  have K2 : Hid (Blk x2 gq 84 [.slice (some ⟨bb, off, none⟩) N c, .int .i64 (1)]) := K1.out.later b2
  have KR2 : Hid (Blk x2 gr 25 [.int .i64 0, .int .i64 0, .slice none 0 0, .slice none 0 0, .int .i64 0, .slice none 0 0, .slice none 0 0, .int .i64 0, .int .i64 0, .slice none 0 0, .slice none 0 0]) := KR1.out.later b2
  have B2 : Hid (Below w.heap.size w x2) := B1.out.trans (b2.mono B1.out.size)
  clear b2 M1 K1 KR1 B1 LG HG0
  go_wp2_with fail
  refine (readSealed gq gf bb off N c 1 l ⟨4, 0, [], [], 0, [], [], 0, 0, [], []⟩ ⟨⟨none, 0, 0⟩, ⟨none, 0, 0⟩, ⟨none, 0, 0⟩, ⟨none, 0, 0⟩, ⟨none, 0, 0⟩, ⟨none, 0, 0⟩⟩ w x2 K2.out M2.out (by have := HG.out; omega) (by have := HG.out; omega) B2.out HLen.out HRd.out HBy.out hc hm (by omega) (by omega)).mono ?_
  rintro e x3 ⟨S3, p3, rfl, mm3, kk3, ks3⟩
  have M3 : Hid (FrMk x3 gf (gf + 1) { (⟨4, 0, [], [], 0, [], [], 0, 0, [], []⟩ : FrD) with sn := cutOf l 1 12, epoch := numAt l (1 + 12) 4, seq := numAt l (1 + 16) 6, tag := cutOf l (1 + 22) 16, body := cutOf l (1 + 38) ((N : Int) - (1 + 38)) } S3) := mm3
  have K3 : Hid (Blk x3 gq 84 [.slice (some ⟨bb, off, none⟩) N c, .int .i64 (p3)]) := kk3
  have KR3 : Hid (Blk x3 gr 25 [.int .i64 0, .int .i64 0, .slice none 0 0, .slice none 0 0, .int .i64 0, .slice none 0 0, .slice none 0 0, .int .i64 0, .int .i64 0, .slice none 0 0, .slice none 0 0]) := KR2.out.keep (ks3.block gr KR2.out.lt (by have := HG.out; omega))
  have B3 : Hid (Below w.heap.size w x3) := B2.out.trans (ks3.below (by have := HG.out; omega) B2.out.size)
  clear mm3 kk3 ks3 M2 K2 KR2 B2
  go_upto_region 15 with fail
  obtain ⟨SS, hSS⟩ : ∃ SS : FrS, S3 = SS := ⟨_, rfl⟩
  obtain ⟨DD, hDD⟩ : ∃ DD : FrD, ⟨4, 0, [], cutOf l 1 12, 0, [], [], numAt l (1 + 12) 4, numAt l (1 + 16) 6, cutOf l (1 + 38) ((N : Int) - (1 + 38)), cutOf l (1 + 22) 16⟩ = DD := ⟨_, rfl⟩
  have MD : Hid (FrMk x3 gf (gf + 1) DD SS) := by rw [← hSS, ← hDD]; exact M3.out
  have HDD : Hid (⟨4, 0, [], cutOf l 1 12, 0, [], [], numAt l (1 + 12) 4, numAt l (1 + 16) 6, cutOf l (1 + 38) ((N : Int) - (1 + 38)), cutOf l (1 + 22) 16⟩ = DD) := hDD
  clear hSS hDD M3
  have zc0 := KR3.out.cell 0 rfl
  have zf0 := KR3.out.frozen 0
  have zo0 : x3.cell? ⟨gf, 0, none⟩ = some (.int .i64 DD.kind) := MD.out.blk.cell 0 rfl
  have zc1 := KR3.out.cell 1 rfl
  have zf1 := KR3.out.frozen 1
  have zo1 : x3.cell? ⟨gf, 1, none⟩ = some (.int .i64 DD.id) := MD.out.blk.cell 1 rfl
  have zc2 := KR3.out.cell 2 rfl
  have zf2 := KR3.out.frozen 2
  have zo2 : x3.cell? ⟨gf, 2, none⟩ = some (.slice SS.cn.a SS.cn.n SS.cn.c) := MD.out.blk.cell 2 rfl
  have zc3 := KR3.out.cell 3 rfl
  have zf3 := KR3.out.frozen 3
  have zo3 : x3.cell? ⟨gf, 3, none⟩ = some (.slice SS.sn.a SS.sn.n SS.sn.c) := MD.out.blk.cell 3 rfl
  have zc4 := KR3.out.cell 4 rfl
  have zf4 := KR3.out.frozen 4
  have zo4 : x3.cell? ⟨gf, 4, none⟩ = some (.int .i64 DD.tick) := MD.out.blk.cell 4 rfl
  have zc5 := KR3.out.cell 5 rfl
  have zf5 := KR3.out.frozen 5
  have zo5 : x3.cell? ⟨gf, 5, none⟩ = some (.slice SS.cookie.a SS.cookie.n SS.cookie.c) := MD.out.blk.cell 5 rfl
  have zc6 := KR3.out.cell 6 rfl
  have zf6 := KR3.out.frozen 6
  have zo6 : x3.cell? ⟨gf, 6, none⟩ = some (.slice SS.proof.a SS.proof.n SS.proof.c) := MD.out.blk.cell 6 rfl
  have zc7 := KR3.out.cell 7 rfl
  have zf7 := KR3.out.frozen 7
  have zo7 : x3.cell? ⟨gf, 7, none⟩ = some (.int .i64 DD.epoch) := MD.out.blk.cell 7 rfl
  have zc8 := KR3.out.cell 8 rfl
  have zf8 := KR3.out.frozen 8
  have zo8 : x3.cell? ⟨gf, 8, none⟩ = some (.int .i64 DD.seq) := MD.out.blk.cell 8 rfl
  have zc9 := KR3.out.cell 9 rfl
  have zf9 := KR3.out.frozen 9
  have zo9 : x3.cell? ⟨gf, 9, none⟩ = some (.slice SS.body.a SS.body.n SS.body.c) := MD.out.blk.cell 9 rfl
  have zc10 := KR3.out.cell 10 rfl
  have zf10 := KR3.out.frozen 10
  have zo10 : x3.cell? ⟨gf, 10, none⟩ = some (.slice SS.tag.a SS.tag.n SS.tag.c) := MD.out.blk.cell 10 rfl
  have ne1 : gr ≠ gf := by have := HG.out; omega
  have ne2 : gf ≠ gr := by have := HG.out; omega
  go_wp2
  have KF : Blk ((((((((((((x3).setCell ⟨gr, 0, none⟩ (.int .i64 DD.kind)).setCell ⟨gr, 1, none⟩ (.int .i64 DD.id)).setCell ⟨gr, 2, none⟩ (.slice SS.cn.a SS.cn.n SS.cn.c)).setCell ⟨gr, 3, none⟩ (.slice SS.sn.a SS.sn.n SS.sn.c)).setCell ⟨gr, 4, none⟩ (.int .i64 DD.tick)).setCell ⟨gr, 5, none⟩ (.slice SS.cookie.a SS.cookie.n SS.cookie.c)).setCell ⟨gr, 6, none⟩ (.slice SS.proof.a SS.proof.n SS.proof.c)).setCell ⟨gr, 7, none⟩ (.int .i64 DD.epoch)).setCell ⟨gr, 8, none⟩ (.int .i64 DD.seq)).setCell ⟨gr, 9, none⟩ (.slice SS.body.a SS.body.n SS.body.c)).setCell ⟨gr, 10, none⟩ (.slice SS.tag.a SS.tag.n SS.tag.c)) gr 25 [.int .i64 DD.kind, .int .i64 DD.id, .slice SS.cn.a SS.cn.n SS.cn.c, .slice SS.sn.a SS.sn.n SS.sn.c, .int .i64 DD.tick, .slice SS.cookie.a SS.cookie.n SS.cookie.c, .slice SS.proof.a SS.proof.n SS.proof.c, .int .i64 DD.epoch, .int .i64 DD.seq, .slice SS.body.a SS.body.n SS.body.c, .slice SS.tag.a SS.tag.n SS.tag.c] := (((((((((((KR3.out).set 0 _ (by simp [maxLen])).set 1 _ (by simp [maxLen])).set 2 _ (by simp [maxLen])).set 3 _ (by simp [maxLen])).set 4 _ (by simp [maxLen])).set 5 _ (by simp [maxLen])).set 6 _ (by simp [maxLen])).set 7 _ (by simp [maxLen])).set 8 _ (by simp [maxLen])).set 9 _ (by simp [maxLen])).set 10 _ (by simp [maxLen])
  have KK : Kept gr (gr + 1) x3 ((((((((((((x3).setCell ⟨gr, 0, none⟩ (.int .i64 DD.kind)).setCell ⟨gr, 1, none⟩ (.int .i64 DD.id)).setCell ⟨gr, 2, none⟩ (.slice SS.cn.a SS.cn.n SS.cn.c)).setCell ⟨gr, 3, none⟩ (.slice SS.sn.a SS.sn.n SS.sn.c)).setCell ⟨gr, 4, none⟩ (.int .i64 DD.tick)).setCell ⟨gr, 5, none⟩ (.slice SS.cookie.a SS.cookie.n SS.cookie.c)).setCell ⟨gr, 6, none⟩ (.slice SS.proof.a SS.proof.n SS.proof.c)).setCell ⟨gr, 7, none⟩ (.int .i64 DD.epoch)).setCell ⟨gr, 8, none⟩ (.int .i64 DD.seq)).setCell ⟨gr, 9, none⟩ (.slice SS.body.a SS.body.n SS.body.c)).setCell ⟨gr, 10, none⟩ (.slice SS.tag.a SS.tag.n SS.tag.c)) := ((((((((((((Kept.refl gr (gr + 1) x3)).trans (Kept.setCell _ gr 0 _)).trans (Kept.setCell _ gr 1 _)).trans (Kept.setCell _ gr 2 _)).trans (Kept.setCell _ gr 3 _)).trans (Kept.setCell _ gr 4 _)).trans (Kept.setCell _ gr 5 _)).trans (Kept.setCell _ gr 6 _)).trans (Kept.setCell _ gr 7 _)).trans (Kept.setCell _ gr 8 _)).trans (Kept.setCell _ gr 9 _)).trans (Kept.setCell _ gr 10 _)
  rw [HDD.out]
  exact ret_read rfl rfl KF rfl (D := DD) (S := SS) ((MD.out.own.carry KK (.inr (by have := HG.out; omega))).mono (by have := HG.out; omega) KK.size) ((((((((((((B3.out).setCell (by show _ ≤ gr; have := HG.out; omega) _).setCell (by show _ ≤ gr; have := HG.out; omega) _).setCell (by show _ ≤ gr; have := HG.out; omega) _).setCell (by show _ ≤ gr; have := HG.out; omega) _).setCell (by show _ ≤ gr; have := HG.out; omega) _).setCell (by show _ ≤ gr; have := HG.out; omega) _).setCell (by show _ ≤ gr; have := HG.out; omega) _).setCell (by show _ ≤ gr; have := HG.out; omega) _).setCell (by show _ ≤ gr; have := HG.out; omega) _).setCell (by show _ ≤ gr; have := HG.out; omega) _).setCell (by show _ ≤ gr; have := HG.out; omega) _)

set_option maxRecDepth 100000 in
set_option maxHeartbeats 8000000 in
theorem readFrame5 (bb off N c : Nat) (l : List Int) (w : World) (hn : N = l.length) (hr : Rd w (some ⟨bb, off, none⟩) l) (hb : Bytes l) (hc : N ≤ c) (hm : N ≤ 2000000) (hk : numAt l 0 1 = 5) :
    Calls Try.prog 41 #[.slice (some ⟨bb, off, none⟩) N c] w (Read w ⟨5, 0, [], cutOf l 1 12, 0, [], [], numAt l (1 + 12) 4, numAt l (1 + 16) 6, cutOf l (1 + 38) ((N : Int) - (1 + 38)), cutOf l (1 + 22) 16⟩) := by
  have HLen : Hid (N = l.length) := hn
  have HRd : Hid (Rd w (some ⟨bb, off, none⟩) l) := hr
  have HBy : Hid (Bytes l) := hb
  have HKd : Hid (numAt l 0 1 = 5) := hk
  obtain ⟨x0, hx0⟩ : ∃ x0, (w.alloc (.cells #[.int .i64 0, .int .i64 0, .slice none 0 0, .slice none 0 0, .int .i64 0, .slice none 0 0, .slice none 0 0, .int .i64 0, .int .i64 0, .slice none 0 0, .slice none 0 0] 25)).alloc (.cells #[.slice (some ⟨bb, off, none⟩) N c, .int .i64 0] 84) = x0 := ⟨_, rfl⟩
  have HW0 : Hid ((w.alloc (.cells #[.int .i64 0, .int .i64 0, .slice none 0 0, .slice none 0 0, .int .i64 0, .slice none 0 0, .slice none 0 0, .int .i64 0, .int .i64 0, .slice none 0 0, .slice none 0 0] 25)).alloc (.cells #[.slice (some ⟨bb, off, none⟩) N c, .int .i64 0] 84) = x0) := hx0
  have B0 : Hid (Below w.heap.size w x0) := by rw [← hx0]; exact ((Below.refl _ _).alloc (Nat.le_refl _) _).alloc (by simp) _
  have KR0 : Hid (Blk x0 w.heap.size 25 [.int .i64 0, .int .i64 0, .slice none 0 0, .slice none 0 0, .int .i64 0, .slice none 0 0, .slice none 0 0, .int .i64 0, .int .i64 0, .slice none 0 0, .slice none 0 0]) := by rw [← hx0]; exact (Blk.new w _ [.int .i64 0, .int .i64 0, .slice none 0 0, .slice none 0 0, .int .i64 0, .slice none 0 0, .slice none 0 0, .int .i64 0, .int .i64 0, .slice none 0 0, .slice none 0 0]).alloc _
  have K0 : Hid (Blk x0 (w.heap.size + 1) 84 [.slice (some ⟨bb, off, none⟩) N c, .int .i64 (0)]) := by
    have := Blk.new (w.alloc (.cells #[.int .i64 0, .int .i64 0, .slice none 0 0, .slice none 0 0, .int .i64 0, .slice none 0 0, .slice none 0 0, .int .i64 0, .int .i64 0, .slice none 0 0, .slice none 0 0] 25)) 84 [.slice (some ⟨bb, off, none⟩) N c, .int .i64 0]
    rw [World.size_alloc] at this
    rw [← hx0]; exact this
  have hm4 : N ≤ 4194304 := by omega
  clear hx0 hn hr hb hk
  have t1 := as5_1
  have t2 := as5_2
  have t3 := as5_3
  have t4 := as5_4
  have t5 := as5_5
  have t6 := as5_6
  have t7 := as5_7
  have t8 := as5_8
  go_enter Try.func41, Try.ntmps41
  go_wp2_with fail
  rw [HW0.out]
  obtain ⟨gr, hgr⟩ : ∃ gr, w.heap.size = gr := ⟨_, rfl⟩
  obtain ⟨gq, hgq⟩ : ∃ gq, w.heap.size + 1 = gq := ⟨_, rfl⟩
  have HG0 : Hid (w.heap.size = gr ∧ gq = gr + 1) := ⟨hgr, by omega⟩
  rw [hgq] at K0 ⊢
  rw [hgr] at KR0
  rw [hgr]
  clear hgr hgq HW0
  refine (number gq bb off N c 0 1 l x0 K0.out HLen.out (HRd.out.later B0.out (Nat.le_refl _)) HBy.out hc hm4 (by omega) (by omega) (by omega) (by omega)).mono ?_
  rw [HKd.out]
  rintro e y1 ⟨rfl, kb1, kp1⟩
  have KY : Hid (Blk y1 gq 84 [.slice (some ⟨bb, off, none⟩) N c, .int .i64 (1)]) := kb1
  have BY : Hid (Below w.heap.size w y1) := B0.out.trans (kp1.below (by have := HG0.out; omega) B0.out.size)
  have KRY : Hid (Blk y1 gr 25 [.int .i64 0, .int .i64 0, .slice none 0 0, .slice none 0 0, .int .i64 0, .slice none 0 0, .slice none 0 0, .int .i64 0, .int .i64 0, .slice none 0 0, .slice none 0 0]) := KR0.out.keep (kp1.block gr KR0.out.lt (by have := HG0.out; omega))
  clear kb1 kp1 B0 K0 KR0
  obtain ⟨x1, hx1⟩ : ∃ x1, y1.alloc (.cells #[.int .i64 5, .int .i64 0, .slice none 0 0, .slice none 0 0, .int .i64 0, .slice none 0 0, .slice none 0 0, .int .i64 0, .int .i64 0, .slice none 0 0, .slice none 0 0] 25) = x1 := ⟨_, rfl⟩
  have HW1 : Hid (y1.alloc (.cells #[.int .i64 5, .int .i64 0, .slice none 0 0, .slice none 0 0, .int .i64 0, .slice none 0 0, .slice none 0 0, .int .i64 0, .int .i64 0, .slice none 0 0, .slice none 0 0] 25) = x1) := hx1
  have KB : Blk x1 y1.heap.size 25 [.int .i64 5, .int .i64 0, .slice none 0 0, .slice none 0 0, .int .i64 0, .slice none 0 0, .slice none 0 0, .int .i64 0, .int .i64 0, .slice none 0 0, .slice none 0 0] := by rw [← hx1]; exact Blk.new y1 _ [.int .i64 5, .int .i64 0, .slice none 0 0, .slice none 0 0, .int .i64 0, .slice none 0 0, .slice none 0 0, .int .i64 0, .int .i64 0, .slice none 0 0, .slice none 0 0]
  have M1 : Hid (FrMk x1 y1.heap.size (y1.heap.size + 1) ⟨5, 0, [], [], 0, [], [], 0, 0, [], []⟩ ⟨⟨none, 0, 0⟩, ⟨none, 0, 0⟩, ⟨none, 0, 0⟩, ⟨none, 0, 0⟩, ⟨none, 0, 0⟩, ⟨none, 0, 0⟩⟩) := ⟨KB, own_none _ _ _ _, Nat.lt_succ_self _⟩
  have K1 : Hid (Blk x1 gq 84 [.slice (some ⟨bb, off, none⟩) N c, .int .i64 (1)]) := by rw [← hx1]; exact KY.out.alloc _
  have KR1 : Hid (Blk x1 gr 25 [.int .i64 0, .int .i64 0, .slice none 0 0, .slice none 0 0, .int .i64 0, .slice none 0 0, .slice none 0 0, .int .i64 0, .int .i64 0, .slice none 0 0, .slice none 0 0]) := by rw [← hx1]; exact KRY.out.alloc _
  have B1 : Hid (Below w.heap.size w x1) := by rw [← hx1]; exact BY.out.alloc BY.out.size _
  have LG : Hid (gq < y1.heap.size) := KY.out.lt
  clear hx1 KB KY BY KRY
  go_wp2_with fail
  rw [HW1.out]
  obtain ⟨gf, hgf⟩ : ∃ gf, y1.heap.size = gf := ⟨_, rfl⟩
  rw [hgf] at M1 LG ⊢
  clear HW1 hgf
  have HG : Hid (w.heap.size = gr ∧ gq = gr + 1 ∧ gq < gf) := ⟨HG0.out.1, HG0.out.2, LG.out⟩
  refine (wordOf5 0 ⟨none, 0, 0⟩ ⟨none, 0, 0⟩ 0 ⟨none, 0, 0⟩ ⟨none, 0, 0⟩ 0 0 ⟨none, 0, 0⟩ ⟨none, 0, 0⟩ x1).mono ?_
  rintro e x2 ⟨rfl, b2⟩
  have M2 : Hid (FrMk x2 gf (gf + 1) ⟨5, 0, [], [], 0, [], [], 0, 0, [], []⟩ ⟨⟨none, 0, 0⟩, ⟨none, 0, 0⟩, ⟨none, 0, 0⟩, ⟨none, 0, 0⟩, ⟨none, 0, 0⟩, ⟨none, 0, 0⟩⟩) := M1.out.later b2
  have K2 : Hid (Blk x2 gq 84 [.slice (some ⟨bb, off, none⟩) N c, .int .i64 (1)]) := K1.out.later b2
  have KR2 : Hid (Blk x2 gr 25 [.int .i64 0, .int .i64 0, .slice none 0 0, .slice none 0 0, .int .i64 0, .slice none 0 0, .slice none 0 0, .int .i64 0, .int .i64 0, .slice none 0 0, .slice none 0 0]) := KR1.out.later b2
  have B2 : Hid (Below w.heap.size w x2) := B1.out.trans (b2.mono B1.out.size)
  clear b2 M1 K1 KR1 B1 LG HG0
  go_wp2_with fail
  refine (readSealed gq gf bb off N c 1 l ⟨5, 0, [], [], 0, [], [], 0, 0, [], []⟩ ⟨⟨none, 0, 0⟩, ⟨none, 0, 0⟩, ⟨none, 0, 0⟩, ⟨none, 0, 0⟩, ⟨none, 0, 0⟩, ⟨none, 0, 0⟩⟩ w x2 K2.out M2.out (by have := HG.out; omega) (by have := HG.out; omega) B2.out HLen.out HRd.out HBy.out hc hm (by omega) (by omega)).mono ?_
  rintro e x3 ⟨S3, p3, rfl, mm3, kk3, ks3⟩
  have M3 : Hid (FrMk x3 gf (gf + 1) { (⟨5, 0, [], [], 0, [], [], 0, 0, [], []⟩ : FrD) with sn := cutOf l 1 12, epoch := numAt l (1 + 12) 4, seq := numAt l (1 + 16) 6, tag := cutOf l (1 + 22) 16, body := cutOf l (1 + 38) ((N : Int) - (1 + 38)) } S3) := mm3
  have K3 : Hid (Blk x3 gq 84 [.slice (some ⟨bb, off, none⟩) N c, .int .i64 (p3)]) := kk3
  have KR3 : Hid (Blk x3 gr 25 [.int .i64 0, .int .i64 0, .slice none 0 0, .slice none 0 0, .int .i64 0, .slice none 0 0, .slice none 0 0, .int .i64 0, .int .i64 0, .slice none 0 0, .slice none 0 0]) := KR2.out.keep (ks3.block gr KR2.out.lt (by have := HG.out; omega))
  have B3 : Hid (Below w.heap.size w x3) := B2.out.trans (ks3.below (by have := HG.out; omega) B2.out.size)
  clear mm3 kk3 ks3 M2 K2 KR2 B2
  go_upto_region 15 with fail
  obtain ⟨SS, hSS⟩ : ∃ SS : FrS, S3 = SS := ⟨_, rfl⟩
  obtain ⟨DD, hDD⟩ : ∃ DD : FrD, ⟨5, 0, [], cutOf l 1 12, 0, [], [], numAt l (1 + 12) 4, numAt l (1 + 16) 6, cutOf l (1 + 38) ((N : Int) - (1 + 38)), cutOf l (1 + 22) 16⟩ = DD := ⟨_, rfl⟩
  have MD : Hid (FrMk x3 gf (gf + 1) DD SS) := by rw [← hSS, ← hDD]; exact M3.out
  have HDD : Hid (⟨5, 0, [], cutOf l 1 12, 0, [], [], numAt l (1 + 12) 4, numAt l (1 + 16) 6, cutOf l (1 + 38) ((N : Int) - (1 + 38)), cutOf l (1 + 22) 16⟩ = DD) := hDD
  clear hSS hDD M3
  have zc0 := KR3.out.cell 0 rfl
  have zf0 := KR3.out.frozen 0
  have zo0 : x3.cell? ⟨gf, 0, none⟩ = some (.int .i64 DD.kind) := MD.out.blk.cell 0 rfl
  have zc1 := KR3.out.cell 1 rfl
  have zf1 := KR3.out.frozen 1
  have zo1 : x3.cell? ⟨gf, 1, none⟩ = some (.int .i64 DD.id) := MD.out.blk.cell 1 rfl
  have zc2 := KR3.out.cell 2 rfl
  have zf2 := KR3.out.frozen 2
  have zo2 : x3.cell? ⟨gf, 2, none⟩ = some (.slice SS.cn.a SS.cn.n SS.cn.c) := MD.out.blk.cell 2 rfl
  have zc3 := KR3.out.cell 3 rfl
  have zf3 := KR3.out.frozen 3
  have zo3 : x3.cell? ⟨gf, 3, none⟩ = some (.slice SS.sn.a SS.sn.n SS.sn.c) := MD.out.blk.cell 3 rfl
  have zc4 := KR3.out.cell 4 rfl
  have zf4 := KR3.out.frozen 4
  have zo4 : x3.cell? ⟨gf, 4, none⟩ = some (.int .i64 DD.tick) := MD.out.blk.cell 4 rfl
  have zc5 := KR3.out.cell 5 rfl
  have zf5 := KR3.out.frozen 5
  have zo5 : x3.cell? ⟨gf, 5, none⟩ = some (.slice SS.cookie.a SS.cookie.n SS.cookie.c) := MD.out.blk.cell 5 rfl
  have zc6 := KR3.out.cell 6 rfl
  have zf6 := KR3.out.frozen 6
  have zo6 : x3.cell? ⟨gf, 6, none⟩ = some (.slice SS.proof.a SS.proof.n SS.proof.c) := MD.out.blk.cell 6 rfl
  have zc7 := KR3.out.cell 7 rfl
  have zf7 := KR3.out.frozen 7
  have zo7 : x3.cell? ⟨gf, 7, none⟩ = some (.int .i64 DD.epoch) := MD.out.blk.cell 7 rfl
  have zc8 := KR3.out.cell 8 rfl
  have zf8 := KR3.out.frozen 8
  have zo8 : x3.cell? ⟨gf, 8, none⟩ = some (.int .i64 DD.seq) := MD.out.blk.cell 8 rfl
  have zc9 := KR3.out.cell 9 rfl
  have zf9 := KR3.out.frozen 9
  have zo9 : x3.cell? ⟨gf, 9, none⟩ = some (.slice SS.body.a SS.body.n SS.body.c) := MD.out.blk.cell 9 rfl
  have zc10 := KR3.out.cell 10 rfl
  have zf10 := KR3.out.frozen 10
  have zo10 : x3.cell? ⟨gf, 10, none⟩ = some (.slice SS.tag.a SS.tag.n SS.tag.c) := MD.out.blk.cell 10 rfl
  have ne1 : gr ≠ gf := by have := HG.out; omega
  have ne2 : gf ≠ gr := by have := HG.out; omega
  go_wp2
  have KF : Blk ((((((((((((x3).setCell ⟨gr, 0, none⟩ (.int .i64 DD.kind)).setCell ⟨gr, 1, none⟩ (.int .i64 DD.id)).setCell ⟨gr, 2, none⟩ (.slice SS.cn.a SS.cn.n SS.cn.c)).setCell ⟨gr, 3, none⟩ (.slice SS.sn.a SS.sn.n SS.sn.c)).setCell ⟨gr, 4, none⟩ (.int .i64 DD.tick)).setCell ⟨gr, 5, none⟩ (.slice SS.cookie.a SS.cookie.n SS.cookie.c)).setCell ⟨gr, 6, none⟩ (.slice SS.proof.a SS.proof.n SS.proof.c)).setCell ⟨gr, 7, none⟩ (.int .i64 DD.epoch)).setCell ⟨gr, 8, none⟩ (.int .i64 DD.seq)).setCell ⟨gr, 9, none⟩ (.slice SS.body.a SS.body.n SS.body.c)).setCell ⟨gr, 10, none⟩ (.slice SS.tag.a SS.tag.n SS.tag.c)) gr 25 [.int .i64 DD.kind, .int .i64 DD.id, .slice SS.cn.a SS.cn.n SS.cn.c, .slice SS.sn.a SS.sn.n SS.sn.c, .int .i64 DD.tick, .slice SS.cookie.a SS.cookie.n SS.cookie.c, .slice SS.proof.a SS.proof.n SS.proof.c, .int .i64 DD.epoch, .int .i64 DD.seq, .slice SS.body.a SS.body.n SS.body.c, .slice SS.tag.a SS.tag.n SS.tag.c] := (((((((((((KR3.out).set 0 _ (by simp [maxLen])).set 1 _ (by simp [maxLen])).set 2 _ (by simp [maxLen])).set 3 _ (by simp [maxLen])).set 4 _ (by simp [maxLen])).set 5 _ (by simp [maxLen])).set 6 _ (by simp [maxLen])).set 7 _ (by simp [maxLen])).set 8 _ (by simp [maxLen])).set 9 _ (by simp [maxLen])).set 10 _ (by simp [maxLen])
  have KK : Kept gr (gr + 1) x3 ((((((((((((x3).setCell ⟨gr, 0, none⟩ (.int .i64 DD.kind)).setCell ⟨gr, 1, none⟩ (.int .i64 DD.id)).setCell ⟨gr, 2, none⟩ (.slice SS.cn.a SS.cn.n SS.cn.c)).setCell ⟨gr, 3, none⟩ (.slice SS.sn.a SS.sn.n SS.sn.c)).setCell ⟨gr, 4, none⟩ (.int .i64 DD.tick)).setCell ⟨gr, 5, none⟩ (.slice SS.cookie.a SS.cookie.n SS.cookie.c)).setCell ⟨gr, 6, none⟩ (.slice SS.proof.a SS.proof.n SS.proof.c)).setCell ⟨gr, 7, none⟩ (.int .i64 DD.epoch)).setCell ⟨gr, 8, none⟩ (.int .i64 DD.seq)).setCell ⟨gr, 9, none⟩ (.slice SS.body.a SS.body.n SS.body.c)).setCell ⟨gr, 10, none⟩ (.slice SS.tag.a SS.tag.n SS.tag.c)) := ((((((((((((Kept.refl gr (gr + 1) x3)).trans (Kept.setCell _ gr 0 _)).trans (Kept.setCell _ gr 1 _)).trans (Kept.setCell _ gr 2 _)).trans (Kept.setCell _ gr 3 _)).trans (Kept.setCell _ gr 4 _)).trans (Kept.setCell _ gr 5 _)).trans (Kept.setCell _ gr 6 _)).trans (Kept.setCell _ gr 7 _)).trans (Kept.setCell _ gr 8 _)).trans (Kept.setCell _ gr 9 _)).trans (Kept.setCell _ gr 10 _)
  rw [HDD.out]
  exact ret_read rfl rfl KF rfl (D := DD) (S := SS) ((MD.out.own.carry KK (.inr (by have := HG.out; omega))).mono (by have := HG.out; omega) KK.size) ((((((((((((B3.out).setCell (by show _ ≤ gr; have := HG.out; omega) _).setCell (by show _ ≤ gr; have := HG.out; omega) _).setCell (by show _ ≤ gr; have := HG.out; omega) _).setCell (by show _ ≤ gr; have := HG.out; omega) _).setCell (by show _ ≤ gr; have := HG.out; omega) _).setCell (by show _ ≤ gr; have := HG.out; omega) _).setCell (by show _ ≤ gr; have := HG.out; omega) _).setCell (by show _ ≤ gr; have := HG.out; omega) _).setCell (by show _ ≤ gr; have := HG.out; omega) _).setCell (by show _ ≤ gr; have := HG.out; omega) _).setCell (by show _ ≤ gr; have := HG.out; omega) _)

set_option maxRecDepth 100000 in
set_option maxHeartbeats 8000000 in
theorem readFrame6 (bb off N c : Nat) (l : List Int) (w : World) (hn : N = l.length) (hr : Rd w (some ⟨bb, off, none⟩) l) (hb : Bytes l) (hc : N ≤ c) (hm : N ≤ 2000000) (hk : numAt l 0 1 = 6) :
    Calls Try.prog 41 #[.slice (some ⟨bb, off, none⟩) N c] w (Read w ⟨6, 0, [], cutOf l 1 12, 0, [], [], numAt l (1 + 12) 4, numAt l (1 + 16) 6, cutOf l (1 + 38) ((N : Int) - (1 + 38)), cutOf l (1 + 22) 16⟩) := by
  have HLen : Hid (N = l.length) := hn
  have HRd : Hid (Rd w (some ⟨bb, off, none⟩) l) := hr
  have HBy : Hid (Bytes l) := hb
  have HKd : Hid (numAt l 0 1 = 6) := hk
  obtain ⟨x0, hx0⟩ : ∃ x0, (w.alloc (.cells #[.int .i64 0, .int .i64 0, .slice none 0 0, .slice none 0 0, .int .i64 0, .slice none 0 0, .slice none 0 0, .int .i64 0, .int .i64 0, .slice none 0 0, .slice none 0 0] 25)).alloc (.cells #[.slice (some ⟨bb, off, none⟩) N c, .int .i64 0] 84) = x0 := ⟨_, rfl⟩
  have HW0 : Hid ((w.alloc (.cells #[.int .i64 0, .int .i64 0, .slice none 0 0, .slice none 0 0, .int .i64 0, .slice none 0 0, .slice none 0 0, .int .i64 0, .int .i64 0, .slice none 0 0, .slice none 0 0] 25)).alloc (.cells #[.slice (some ⟨bb, off, none⟩) N c, .int .i64 0] 84) = x0) := hx0
  have B0 : Hid (Below w.heap.size w x0) := by rw [← hx0]; exact ((Below.refl _ _).alloc (Nat.le_refl _) _).alloc (by simp) _
  have KR0 : Hid (Blk x0 w.heap.size 25 [.int .i64 0, .int .i64 0, .slice none 0 0, .slice none 0 0, .int .i64 0, .slice none 0 0, .slice none 0 0, .int .i64 0, .int .i64 0, .slice none 0 0, .slice none 0 0]) := by rw [← hx0]; exact (Blk.new w _ [.int .i64 0, .int .i64 0, .slice none 0 0, .slice none 0 0, .int .i64 0, .slice none 0 0, .slice none 0 0, .int .i64 0, .int .i64 0, .slice none 0 0, .slice none 0 0]).alloc _
  have K0 : Hid (Blk x0 (w.heap.size + 1) 84 [.slice (some ⟨bb, off, none⟩) N c, .int .i64 (0)]) := by
    have := Blk.new (w.alloc (.cells #[.int .i64 0, .int .i64 0, .slice none 0 0, .slice none 0 0, .int .i64 0, .slice none 0 0, .slice none 0 0, .int .i64 0, .int .i64 0, .slice none 0 0, .slice none 0 0] 25)) 84 [.slice (some ⟨bb, off, none⟩) N c, .int .i64 0]
    rw [World.size_alloc] at this
    rw [← hx0]; exact this
  have hm4 : N ≤ 4194304 := by omega
  clear hx0 hn hr hb hk
  have t1 := as6_1
  have t2 := as6_2
  have t3 := as6_3
  have t4 := as6_4
  have t5 := as6_5
  have t6 := as6_6
  have t7 := as6_7
  have t8 := as6_8
  go_enter Try.func41, Try.ntmps41
  go_wp2_with fail
  rw [HW0.out]
  obtain ⟨gr, hgr⟩ : ∃ gr, w.heap.size = gr := ⟨_, rfl⟩
  obtain ⟨gq, hgq⟩ : ∃ gq, w.heap.size + 1 = gq := ⟨_, rfl⟩
  have HG0 : Hid (w.heap.size = gr ∧ gq = gr + 1) := ⟨hgr, by omega⟩
  rw [hgq] at K0 ⊢
  rw [hgr] at KR0
  rw [hgr]
  clear hgr hgq HW0
  refine (number gq bb off N c 0 1 l x0 K0.out HLen.out (HRd.out.later B0.out (Nat.le_refl _)) HBy.out hc hm4 (by omega) (by omega) (by omega) (by omega)).mono ?_
  rw [HKd.out]
  rintro e y1 ⟨rfl, kb1, kp1⟩
  have KY : Hid (Blk y1 gq 84 [.slice (some ⟨bb, off, none⟩) N c, .int .i64 (1)]) := kb1
  have BY : Hid (Below w.heap.size w y1) := B0.out.trans (kp1.below (by have := HG0.out; omega) B0.out.size)
  have KRY : Hid (Blk y1 gr 25 [.int .i64 0, .int .i64 0, .slice none 0 0, .slice none 0 0, .int .i64 0, .slice none 0 0, .slice none 0 0, .int .i64 0, .int .i64 0, .slice none 0 0, .slice none 0 0]) := KR0.out.keep (kp1.block gr KR0.out.lt (by have := HG0.out; omega))
  clear kb1 kp1 B0 K0 KR0
  obtain ⟨x1, hx1⟩ : ∃ x1, y1.alloc (.cells #[.int .i64 6, .int .i64 0, .slice none 0 0, .slice none 0 0, .int .i64 0, .slice none 0 0, .slice none 0 0, .int .i64 0, .int .i64 0, .slice none 0 0, .slice none 0 0] 25) = x1 := ⟨_, rfl⟩
  have HW1 : Hid (y1.alloc (.cells #[.int .i64 6, .int .i64 0, .slice none 0 0, .slice none 0 0, .int .i64 0, .slice none 0 0, .slice none 0 0, .int .i64 0, .int .i64 0, .slice none 0 0, .slice none 0 0] 25) = x1) := hx1
  have KB : Blk x1 y1.heap.size 25 [.int .i64 6, .int .i64 0, .slice none 0 0, .slice none 0 0, .int .i64 0, .slice none 0 0, .slice none 0 0, .int .i64 0, .int .i64 0, .slice none 0 0, .slice none 0 0] := by rw [← hx1]; exact Blk.new y1 _ [.int .i64 6, .int .i64 0, .slice none 0 0, .slice none 0 0, .int .i64 0, .slice none 0 0, .slice none 0 0, .int .i64 0, .int .i64 0, .slice none 0 0, .slice none 0 0]
  have M1 : Hid (FrMk x1 y1.heap.size (y1.heap.size + 1) ⟨6, 0, [], [], 0, [], [], 0, 0, [], []⟩ ⟨⟨none, 0, 0⟩, ⟨none, 0, 0⟩, ⟨none, 0, 0⟩, ⟨none, 0, 0⟩, ⟨none, 0, 0⟩, ⟨none, 0, 0⟩⟩) := ⟨KB, own_none _ _ _ _, Nat.lt_succ_self _⟩
  have K1 : Hid (Blk x1 gq 84 [.slice (some ⟨bb, off, none⟩) N c, .int .i64 (1)]) := by rw [← hx1]; exact KY.out.alloc _
  have KR1 : Hid (Blk x1 gr 25 [.int .i64 0, .int .i64 0, .slice none 0 0, .slice none 0 0, .int .i64 0, .slice none 0 0, .slice none 0 0, .int .i64 0, .int .i64 0, .slice none 0 0, .slice none 0 0]) := by rw [← hx1]; exact KRY.out.alloc _
  have B1 : Hid (Below w.heap.size w x1) := by rw [← hx1]; exact BY.out.alloc BY.out.size _
  have LG : Hid (gq < y1.heap.size) := KY.out.lt
  clear hx1 KB KY BY KRY
  go_wp2_with fail
  rw [HW1.out]
  obtain ⟨gf, hgf⟩ : ∃ gf, y1.heap.size = gf := ⟨_, rfl⟩
  rw [hgf] at M1 LG ⊢
  clear HW1 hgf
  have HG : Hid (w.heap.size = gr ∧ gq = gr + 1 ∧ gq < gf) := ⟨HG0.out.1, HG0.out.2, LG.out⟩
  refine (wordOf6 0 ⟨none, 0, 0⟩ ⟨none, 0, 0⟩ 0 ⟨none, 0, 0⟩ ⟨none, 0, 0⟩ 0 0 ⟨none, 0, 0⟩ ⟨none, 0, 0⟩ x1).mono ?_
  rintro e x2 ⟨rfl, b2⟩
  have M2 : Hid (FrMk x2 gf (gf + 1) ⟨6, 0, [], [], 0, [], [], 0, 0, [], []⟩ ⟨⟨none, 0, 0⟩, ⟨none, 0, 0⟩, ⟨none, 0, 0⟩, ⟨none, 0, 0⟩, ⟨none, 0, 0⟩, ⟨none, 0, 0⟩⟩) := M1.out.later b2
  have K2 : Hid (Blk x2 gq 84 [.slice (some ⟨bb, off, none⟩) N c, .int .i64 (1)]) := K1.out.later b2
  have KR2 : Hid (Blk x2 gr 25 [.int .i64 0, .int .i64 0, .slice none 0 0, .slice none 0 0, .int .i64 0, .slice none 0 0, .slice none 0 0, .int .i64 0, .int .i64 0, .slice none 0 0, .slice none 0 0]) := KR1.out.later b2
  have B2 : Hid (Below w.heap.size w x2) := B1.out.trans (b2.mono B1.out.size)
  clear b2 M1 K1 KR1 B1 LG HG0
  go_wp2_with fail
  refine (readSealed gq gf bb off N c 1 l ⟨6, 0, [], [], 0, [], [], 0, 0, [], []⟩ ⟨⟨none, 0, 0⟩, ⟨none, 0, 0⟩, ⟨none, 0, 0⟩, ⟨none, 0, 0⟩, ⟨none, 0, 0⟩, ⟨none, 0, 0⟩⟩ w x2 K2.out M2.out (by have := HG.out; omega) (by have := HG.out; omega) B2.out HLen.out HRd.out HBy.out hc hm (by omega) (by omega)).mono ?_
  rintro e x3 ⟨S3, p3, rfl, mm3, kk3, ks3⟩
  have M3 : Hid (FrMk x3 gf (gf + 1) { (⟨6, 0, [], [], 0, [], [], 0, 0, [], []⟩ : FrD) with sn := cutOf l 1 12, epoch := numAt l (1 + 12) 4, seq := numAt l (1 + 16) 6, tag := cutOf l (1 + 22) 16, body := cutOf l (1 + 38) ((N : Int) - (1 + 38)) } S3) := mm3
  have K3 : Hid (Blk x3 gq 84 [.slice (some ⟨bb, off, none⟩) N c, .int .i64 (p3)]) := kk3
  have KR3 : Hid (Blk x3 gr 25 [.int .i64 0, .int .i64 0, .slice none 0 0, .slice none 0 0, .int .i64 0, .slice none 0 0, .slice none 0 0, .int .i64 0, .int .i64 0, .slice none 0 0, .slice none 0 0]) := KR2.out.keep (ks3.block gr KR2.out.lt (by have := HG.out; omega))
  have B3 : Hid (Below w.heap.size w x3) := B2.out.trans (ks3.below (by have := HG.out; omega) B2.out.size)
  clear mm3 kk3 ks3 M2 K2 KR2 B2
  go_upto_region 15 with fail
  obtain ⟨SS, hSS⟩ : ∃ SS : FrS, S3 = SS := ⟨_, rfl⟩
  obtain ⟨DD, hDD⟩ : ∃ DD : FrD, ⟨6, 0, [], cutOf l 1 12, 0, [], [], numAt l (1 + 12) 4, numAt l (1 + 16) 6, cutOf l (1 + 38) ((N : Int) - (1 + 38)), cutOf l (1 + 22) 16⟩ = DD := ⟨_, rfl⟩
  have MD : Hid (FrMk x3 gf (gf + 1) DD SS) := by rw [← hSS, ← hDD]; exact M3.out
  have HDD : Hid (⟨6, 0, [], cutOf l 1 12, 0, [], [], numAt l (1 + 12) 4, numAt l (1 + 16) 6, cutOf l (1 + 38) ((N : Int) - (1 + 38)), cutOf l (1 + 22) 16⟩ = DD) := hDD
  clear hSS hDD M3
  have zc0 := KR3.out.cell 0 rfl
  have zf0 := KR3.out.frozen 0
  have zo0 : x3.cell? ⟨gf, 0, none⟩ = some (.int .i64 DD.kind) := MD.out.blk.cell 0 rfl
  have zc1 := KR3.out.cell 1 rfl
  have zf1 := KR3.out.frozen 1
  have zo1 : x3.cell? ⟨gf, 1, none⟩ = some (.int .i64 DD.id) := MD.out.blk.cell 1 rfl
  have zc2 := KR3.out.cell 2 rfl
  have zf2 := KR3.out.frozen 2
  have zo2 : x3.cell? ⟨gf, 2, none⟩ = some (.slice SS.cn.a SS.cn.n SS.cn.c) := MD.out.blk.cell 2 rfl
  have zc3 := KR3.out.cell 3 rfl
  have zf3 := KR3.out.frozen 3
  have zo3 : x3.cell? ⟨gf, 3, none⟩ = some (.slice SS.sn.a SS.sn.n SS.sn.c) := MD.out.blk.cell 3 rfl
  have zc4 := KR3.out.cell 4 rfl
  have zf4 := KR3.out.frozen 4
  have zo4 : x3.cell? ⟨gf, 4, none⟩ = some (.int .i64 DD.tick) := MD.out.blk.cell 4 rfl
  have zc5 := KR3.out.cell 5 rfl
  have zf5 := KR3.out.frozen 5
  have zo5 : x3.cell? ⟨gf, 5, none⟩ = some (.slice SS.cookie.a SS.cookie.n SS.cookie.c) := MD.out.blk.cell 5 rfl
  have zc6 := KR3.out.cell 6 rfl
  have zf6 := KR3.out.frozen 6
  have zo6 : x3.cell? ⟨gf, 6, none⟩ = some (.slice SS.proof.a SS.proof.n SS.proof.c) := MD.out.blk.cell 6 rfl
  have zc7 := KR3.out.cell 7 rfl
  have zf7 := KR3.out.frozen 7
  have zo7 : x3.cell? ⟨gf, 7, none⟩ = some (.int .i64 DD.epoch) := MD.out.blk.cell 7 rfl
  have zc8 := KR3.out.cell 8 rfl
  have zf8 := KR3.out.frozen 8
  have zo8 : x3.cell? ⟨gf, 8, none⟩ = some (.int .i64 DD.seq) := MD.out.blk.cell 8 rfl
  have zc9 := KR3.out.cell 9 rfl
  have zf9 := KR3.out.frozen 9
  have zo9 : x3.cell? ⟨gf, 9, none⟩ = some (.slice SS.body.a SS.body.n SS.body.c) := MD.out.blk.cell 9 rfl
  have zc10 := KR3.out.cell 10 rfl
  have zf10 := KR3.out.frozen 10
  have zo10 : x3.cell? ⟨gf, 10, none⟩ = some (.slice SS.tag.a SS.tag.n SS.tag.c) := MD.out.blk.cell 10 rfl
  have ne1 : gr ≠ gf := by have := HG.out; omega
  have ne2 : gf ≠ gr := by have := HG.out; omega
  go_wp2
  have KF : Blk ((((((((((((x3).setCell ⟨gr, 0, none⟩ (.int .i64 DD.kind)).setCell ⟨gr, 1, none⟩ (.int .i64 DD.id)).setCell ⟨gr, 2, none⟩ (.slice SS.cn.a SS.cn.n SS.cn.c)).setCell ⟨gr, 3, none⟩ (.slice SS.sn.a SS.sn.n SS.sn.c)).setCell ⟨gr, 4, none⟩ (.int .i64 DD.tick)).setCell ⟨gr, 5, none⟩ (.slice SS.cookie.a SS.cookie.n SS.cookie.c)).setCell ⟨gr, 6, none⟩ (.slice SS.proof.a SS.proof.n SS.proof.c)).setCell ⟨gr, 7, none⟩ (.int .i64 DD.epoch)).setCell ⟨gr, 8, none⟩ (.int .i64 DD.seq)).setCell ⟨gr, 9, none⟩ (.slice SS.body.a SS.body.n SS.body.c)).setCell ⟨gr, 10, none⟩ (.slice SS.tag.a SS.tag.n SS.tag.c)) gr 25 [.int .i64 DD.kind, .int .i64 DD.id, .slice SS.cn.a SS.cn.n SS.cn.c, .slice SS.sn.a SS.sn.n SS.sn.c, .int .i64 DD.tick, .slice SS.cookie.a SS.cookie.n SS.cookie.c, .slice SS.proof.a SS.proof.n SS.proof.c, .int .i64 DD.epoch, .int .i64 DD.seq, .slice SS.body.a SS.body.n SS.body.c, .slice SS.tag.a SS.tag.n SS.tag.c] := (((((((((((KR3.out).set 0 _ (by simp [maxLen])).set 1 _ (by simp [maxLen])).set 2 _ (by simp [maxLen])).set 3 _ (by simp [maxLen])).set 4 _ (by simp [maxLen])).set 5 _ (by simp [maxLen])).set 6 _ (by simp [maxLen])).set 7 _ (by simp [maxLen])).set 8 _ (by simp [maxLen])).set 9 _ (by simp [maxLen])).set 10 _ (by simp [maxLen])
  have KK : Kept gr (gr + 1) x3 ((((((((((((x3).setCell ⟨gr, 0, none⟩ (.int .i64 DD.kind)).setCell ⟨gr, 1, none⟩ (.int .i64 DD.id)).setCell ⟨gr, 2, none⟩ (.slice SS.cn.a SS.cn.n SS.cn.c)).setCell ⟨gr, 3, none⟩ (.slice SS.sn.a SS.sn.n SS.sn.c)).setCell ⟨gr, 4, none⟩ (.int .i64 DD.tick)).setCell ⟨gr, 5, none⟩ (.slice SS.cookie.a SS.cookie.n SS.cookie.c)).setCell ⟨gr, 6, none⟩ (.slice SS.proof.a SS.proof.n SS.proof.c)).setCell ⟨gr, 7, none⟩ (.int .i64 DD.epoch)).setCell ⟨gr, 8, none⟩ (.int .i64 DD.seq)).setCell ⟨gr, 9, none⟩ (.slice SS.body.a SS.body.n SS.body.c)).setCell ⟨gr, 10, none⟩ (.slice SS.tag.a SS.tag.n SS.tag.c)) := ((((((((((((Kept.refl gr (gr + 1) x3)).trans (Kept.setCell _ gr 0 _)).trans (Kept.setCell _ gr 1 _)).trans (Kept.setCell _ gr 2 _)).trans (Kept.setCell _ gr 3 _)).trans (Kept.setCell _ gr 4 _)).trans (Kept.setCell _ gr 5 _)).trans (Kept.setCell _ gr 6 _)).trans (Kept.setCell _ gr 7 _)).trans (Kept.setCell _ gr 8 _)).trans (Kept.setCell _ gr 9 _)).trans (Kept.setCell _ gr 10 _)
  rw [HDD.out]
  exact ret_read rfl rfl KF rfl (D := DD) (S := SS) ((MD.out.own.carry KK (.inr (by have := HG.out; omega))).mono (by have := HG.out; omega) KK.size) ((((((((((((B3.out).setCell (by show _ ≤ gr; have := HG.out; omega) _).setCell (by show _ ≤ gr; have := HG.out; omega) _).setCell (by show _ ≤ gr; have := HG.out; omega) _).setCell (by show _ ≤ gr; have := HG.out; omega) _).setCell (by show _ ≤ gr; have := HG.out; omega) _).setCell (by show _ ≤ gr; have := HG.out; omega) _).setCell (by show _ ≤ gr; have := HG.out; omega) _).setCell (by show _ ≤ gr; have := HG.out; omega) _).setCell (by show _ ≤ gr; have := HG.out; omega) _).setCell (by show _ ≤ gr; have := HG.out; omega) _).setCell (by show _ ≤ gr; have := HG.out; omega) _)

set_option maxRecDepth 100000 in
set_option maxHeartbeats 8000000 in
theorem readFrame7 (bb off N c : Nat) (l : List Int) (w : World) (hn : N = l.length) (hr : Rd w (some ⟨bb, off, none⟩) l) (hb : Bytes l) (hc : N ≤ c) (hm : N ≤ 2000000) (hk : numAt l 0 1 = 7) :
    Calls Try.prog 41 #[.slice (some ⟨bb, off, none⟩) N c] w (Read w ⟨7, 0, [], cutOf l 1 12, 0, [], [], numAt l (1 + 12) 4, numAt l (1 + 16) 6, cutOf l (1 + 38) ((N : Int) - (1 + 38)), cutOf l (1 + 22) 16⟩) := by
  have HLen : Hid (N = l.length) := hn
  have HRd : Hid (Rd w (some ⟨bb, off, none⟩) l) := hr
  have HBy : Hid (Bytes l) := hb
  have HKd : Hid (numAt l 0 1 = 7) := hk
  obtain ⟨x0, hx0⟩ : ∃ x0, (w.alloc (.cells #[.int .i64 0, .int .i64 0, .slice none 0 0, .slice none 0 0, .int .i64 0, .slice none 0 0, .slice none 0 0, .int .i64 0, .int .i64 0, .slice none 0 0, .slice none 0 0] 25)).alloc (.cells #[.slice (some ⟨bb, off, none⟩) N c, .int .i64 0] 84) = x0 := ⟨_, rfl⟩
  have HW0 : Hid ((w.alloc (.cells #[.int .i64 0, .int .i64 0, .slice none 0 0, .slice none 0 0, .int .i64 0, .slice none 0 0, .slice none 0 0, .int .i64 0, .int .i64 0, .slice none 0 0, .slice none 0 0] 25)).alloc (.cells #[.slice (some ⟨bb, off, none⟩) N c, .int .i64 0] 84) = x0) := hx0
  have B0 : Hid (Below w.heap.size w x0) := by rw [← hx0]; exact ((Below.refl _ _).alloc (Nat.le_refl _) _).alloc (by simp) _
  have KR0 : Hid (Blk x0 w.heap.size 25 [.int .i64 0, .int .i64 0, .slice none 0 0, .slice none 0 0, .int .i64 0, .slice none 0 0, .slice none 0 0, .int .i64 0, .int .i64 0, .slice none 0 0, .slice none 0 0]) := by rw [← hx0]; exact (Blk.new w _ [.int .i64 0, .int .i64 0, .slice none 0 0, .slice none 0 0, .int .i64 0, .slice none 0 0, .slice none 0 0, .int .i64 0, .int .i64 0, .slice none 0 0, .slice none 0 0]).alloc _
  have K0 : Hid (Blk x0 (w.heap.size + 1) 84 [.slice (some ⟨bb, off, none⟩) N c, .int .i64 (0)]) := by
    have := Blk.new (w.alloc (.cells #[.int .i64 0, .int .i64 0, .slice none 0 0, .slice none 0 0, .int .i64 0, .slice none 0 0, .slice none 0 0, .int .i64 0, .int .i64 0, .slice none 0 0, .slice none 0 0] 25)) 84 [.slice (some ⟨bb, off, none⟩) N c, .int .i64 0]
    rw [World.size_alloc] at this
    rw [← hx0]; exact this
  have hm4 : N ≤ 4194304 := by omega
  clear hx0 hn hr hb hk
  have t1 := as7_1
  have t2 := as7_2
  have t3 := as7_3
  have t4 := as7_4
  have t5 := as7_5
  have t6 := as7_6
  have t7 := as7_7
  have t8 := as7_8
  go_enter Try.func41, Try.ntmps41
  go_wp2_with fail
  rw [HW0.out]
  obtain ⟨gr, hgr⟩ : ∃ gr, w.heap.size = gr := ⟨_, rfl⟩
  obtain ⟨gq, hgq⟩ : ∃ gq, w.heap.size + 1 = gq := ⟨_, rfl⟩
  have HG0 : Hid (w.heap.size = gr ∧ gq = gr + 1) := ⟨hgr, by omega⟩
  rw [hgq] at K0 ⊢
  rw [hgr] at KR0
  rw [hgr]
  clear hgr hgq HW0
  refine (number gq bb off N c 0 1 l x0 K0.out HLen.out (HRd.out.later B0.out (Nat.le_refl _)) HBy.out hc hm4 (by omega) (by omega) (by omega) (by omega)).mono ?_
  rw [HKd.out]
  rintro e y1 ⟨rfl, kb1, kp1⟩
  have KY : Hid (Blk y1 gq 84 [.slice (some ⟨bb, off, none⟩) N c, .int .i64 (1)]) := kb1
  have BY : Hid (Below w.heap.size w y1) := B0.out.trans (kp1.below (by have := HG0.out; omega) B0.out.size)
  have KRY : Hid (Blk y1 gr 25 [.int .i64 0, .int .i64 0, .slice none 0 0, .slice none 0 0, .int .i64 0, .slice none 0 0, .slice none 0 0, .int .i64 0, .int .i64 0, .slice none 0 0, .slice none 0 0]) := KR0.out.keep (kp1.block gr KR0.out.lt (by have := HG0.out; omega))
  clear kb1 kp1 B0 K0 KR0
  obtain ⟨x1, hx1⟩ : ∃ x1, y1.alloc (.cells #[.int .i64 7, .int .i64 0, .slice none 0 0, .slice none 0 0, .int .i64 0, .slice none 0 0, .slice none 0 0, .int .i64 0, .int .i64 0, .slice none 0 0, .slice none 0 0] 25) = x1 := ⟨_, rfl⟩
  have HW1 : Hid (y1.alloc (.cells #[.int .i64 7, .int .i64 0, .slice none 0 0, .slice none 0 0, .int .i64 0, .slice none 0 0, .slice none 0 0, .int .i64 0, .int .i64 0, .slice none 0 0, .slice none 0 0] 25) = x1) := hx1
  have KB : Blk x1 y1.heap.size 25 [.int .i64 7, .int .i64 0, .slice none 0 0, .slice none 0 0, .int .i64 0, .slice none 0 0, .slice none 0 0, .int .i64 0, .int .i64 0, .slice none 0 0, .slice none 0 0] := by rw [← hx1]; exact Blk.new y1 _ [.int .i64 7, .int .i64 0, .slice none 0 0, .slice none 0 0, .int .i64 0, .slice none 0 0, .slice none 0 0, .int .i64 0, .int .i64 0, .slice none 0 0, .slice none 0 0]
  have M1 : Hid (FrMk x1 y1.heap.size (y1.heap.size + 1) ⟨7, 0, [], [], 0, [], [], 0, 0, [], []⟩ ⟨⟨none, 0, 0⟩, ⟨none, 0, 0⟩, ⟨none, 0, 0⟩, ⟨none, 0, 0⟩, ⟨none, 0, 0⟩, ⟨none, 0, 0⟩⟩) := ⟨KB, own_none _ _ _ _, Nat.lt_succ_self _⟩
  have K1 : Hid (Blk x1 gq 84 [.slice (some ⟨bb, off, none⟩) N c, .int .i64 (1)]) := by rw [← hx1]; exact KY.out.alloc _
  have KR1 : Hid (Blk x1 gr 25 [.int .i64 0, .int .i64 0, .slice none 0 0, .slice none 0 0, .int .i64 0, .slice none 0 0, .slice none 0 0, .int .i64 0, .int .i64 0, .slice none 0 0, .slice none 0 0]) := by rw [← hx1]; exact KRY.out.alloc _
  have B1 : Hid (Below w.heap.size w x1) := by rw [← hx1]; exact BY.out.alloc BY.out.size _
  have LG : Hid (gq < y1.heap.size) := KY.out.lt
  clear hx1 KB KY BY KRY
  go_wp2_with fail
  rw [HW1.out]
  obtain ⟨gf, hgf⟩ : ∃ gf, y1.heap.size = gf := ⟨_, rfl⟩
  rw [hgf] at M1 LG ⊢
  clear HW1 hgf
  have HG : Hid (w.heap.size = gr ∧ gq = gr + 1 ∧ gq < gf) := ⟨HG0.out.1, HG0.out.2, LG.out⟩
  refine (wordOf7 0 ⟨none, 0, 0⟩ ⟨none, 0, 0⟩ 0 ⟨none, 0, 0⟩ ⟨none, 0, 0⟩ 0 0 ⟨none, 0, 0⟩ ⟨none, 0, 0⟩ x1).mono ?_
  rintro e x2 ⟨rfl, b2⟩
  have M2 : Hid (FrMk x2 gf (gf + 1) ⟨7, 0, [], [], 0, [], [], 0, 0, [], []⟩ ⟨⟨none, 0, 0⟩, ⟨none, 0, 0⟩, ⟨none, 0, 0⟩, ⟨none, 0, 0⟩, ⟨none, 0, 0⟩, ⟨none, 0, 0⟩⟩) := M1.out.later b2
  have K2 : Hid (Blk x2 gq 84 [.slice (some ⟨bb, off, none⟩) N c, .int .i64 (1)]) := K1.out.later b2
  have KR2 : Hid (Blk x2 gr 25 [.int .i64 0, .int .i64 0, .slice none 0 0, .slice none 0 0, .int .i64 0, .slice none 0 0, .slice none 0 0, .int .i64 0, .int .i64 0, .slice none 0 0, .slice none 0 0]) := KR1.out.later b2
  have B2 : Hid (Below w.heap.size w x2) := B1.out.trans (b2.mono B1.out.size)
  clear b2 M1 K1 KR1 B1 LG HG0
  go_wp2_with fail
  refine (readSealed gq gf bb off N c 1 l ⟨7, 0, [], [], 0, [], [], 0, 0, [], []⟩ ⟨⟨none, 0, 0⟩, ⟨none, 0, 0⟩, ⟨none, 0, 0⟩, ⟨none, 0, 0⟩, ⟨none, 0, 0⟩, ⟨none, 0, 0⟩⟩ w x2 K2.out M2.out (by have := HG.out; omega) (by have := HG.out; omega) B2.out HLen.out HRd.out HBy.out hc hm (by omega) (by omega)).mono ?_
  rintro e x3 ⟨S3, p3, rfl, mm3, kk3, ks3⟩
  have M3 : Hid (FrMk x3 gf (gf + 1) { (⟨7, 0, [], [], 0, [], [], 0, 0, [], []⟩ : FrD) with sn := cutOf l 1 12, epoch := numAt l (1 + 12) 4, seq := numAt l (1 + 16) 6, tag := cutOf l (1 + 22) 16, body := cutOf l (1 + 38) ((N : Int) - (1 + 38)) } S3) := mm3
  have K3 : Hid (Blk x3 gq 84 [.slice (some ⟨bb, off, none⟩) N c, .int .i64 (p3)]) := kk3
  have KR3 : Hid (Blk x3 gr 25 [.int .i64 0, .int .i64 0, .slice none 0 0, .slice none 0 0, .int .i64 0, .slice none 0 0, .slice none 0 0, .int .i64 0, .int .i64 0, .slice none 0 0, .slice none 0 0]) := KR2.out.keep (ks3.block gr KR2.out.lt (by have := HG.out; omega))
  have B3 : Hid (Below w.heap.size w x3) := B2.out.trans (ks3.below (by have := HG.out; omega) B2.out.size)
  clear mm3 kk3 ks3 M2 K2 KR2 B2
  go_upto_region 15 with fail
  obtain ⟨SS, hSS⟩ : ∃ SS : FrS, S3 = SS := ⟨_, rfl⟩
  obtain ⟨DD, hDD⟩ : ∃ DD : FrD, ⟨7, 0, [], cutOf l 1 12, 0, [], [], numAt l (1 + 12) 4, numAt l (1 + 16) 6, cutOf l (1 + 38) ((N : Int) - (1 + 38)), cutOf l (1 + 22) 16⟩ = DD := ⟨_, rfl⟩
  have MD : Hid (FrMk x3 gf (gf + 1) DD SS) := by rw [← hSS, ← hDD]; exact M3.out
  have HDD : Hid (⟨7, 0, [], cutOf l 1 12, 0, [], [], numAt l (1 + 12) 4, numAt l (1 + 16) 6, cutOf l (1 + 38) ((N : Int) - (1 + 38)), cutOf l (1 + 22) 16⟩ = DD) := hDD
  clear hSS hDD M3
  have zc0 := KR3.out.cell 0 rfl
  have zf0 := KR3.out.frozen 0
  have zo0 : x3.cell? ⟨gf, 0, none⟩ = some (.int .i64 DD.kind) := MD.out.blk.cell 0 rfl
  have zc1 := KR3.out.cell 1 rfl
  have zf1 := KR3.out.frozen 1
  have zo1 : x3.cell? ⟨gf, 1, none⟩ = some (.int .i64 DD.id) := MD.out.blk.cell 1 rfl
  have zc2 := KR3.out.cell 2 rfl
  have zf2 := KR3.out.frozen 2
  have zo2 : x3.cell? ⟨gf, 2, none⟩ = some (.slice SS.cn.a SS.cn.n SS.cn.c) := MD.out.blk.cell 2 rfl
  have zc3 := KR3.out.cell 3 rfl
  have zf3 := KR3.out.frozen 3
  have zo3 : x3.cell? ⟨gf, 3, none⟩ = some (.slice SS.sn.a SS.sn.n SS.sn.c) := MD.out.blk.cell 3 rfl
  have zc4 := KR3.out.cell 4 rfl
  have zf4 := KR3.out.frozen 4
  have zo4 : x3.cell? ⟨gf, 4, none⟩ = some (.int .i64 DD.tick) := MD.out.blk.cell 4 rfl
  have zc5 := KR3.out.cell 5 rfl
  have zf5 := KR3.out.frozen 5
  have zo5 : x3.cell? ⟨gf, 5, none⟩ = some (.slice SS.cookie.a SS.cookie.n SS.cookie.c) := MD.out.blk.cell 5 rfl
  have zc6 := KR3.out.cell 6 rfl
  have zf6 := KR3.out.frozen 6
  have zo6 : x3.cell? ⟨gf, 6, none⟩ = some (.slice SS.proof.a SS.proof.n SS.proof.c) := MD.out.blk.cell 6 rfl
  have zc7 := KR3.out.cell 7 rfl
  have zf7 := KR3.out.frozen 7
  have zo7 : x3.cell? ⟨gf, 7, none⟩ = some (.int .i64 DD.epoch) := MD.out.blk.cell 7 rfl
  have zc8 := KR3.out.cell 8 rfl
  have zf8 := KR3.out.frozen 8
  have zo8 : x3.cell? ⟨gf, 8, none⟩ = some (.int .i64 DD.seq) := MD.out.blk.cell 8 rfl
  have zc9 := KR3.out.cell 9 rfl
  have zf9 := KR3.out.frozen 9
  have zo9 : x3.cell? ⟨gf, 9, none⟩ = some (.slice SS.body.a SS.body.n SS.body.c) := MD.out.blk.cell 9 rfl
  have zc10 := KR3.out.cell 10 rfl
  have zf10 := KR3.out.frozen 10
  have zo10 : x3.cell? ⟨gf, 10, none⟩ = some (.slice SS.tag.a SS.tag.n SS.tag.c) := MD.out.blk.cell 10 rfl
  have ne1 : gr ≠ gf := by have := HG.out; omega
  have ne2 : gf ≠ gr := by have := HG.out; omega
  go_wp2
  have KF : Blk ((((((((((((x3).setCell ⟨gr, 0, none⟩ (.int .i64 DD.kind)).setCell ⟨gr, 1, none⟩ (.int .i64 DD.id)).setCell ⟨gr, 2, none⟩ (.slice SS.cn.a SS.cn.n SS.cn.c)).setCell ⟨gr, 3, none⟩ (.slice SS.sn.a SS.sn.n SS.sn.c)).setCell ⟨gr, 4, none⟩ (.int .i64 DD.tick)).setCell ⟨gr, 5, none⟩ (.slice SS.cookie.a SS.cookie.n SS.cookie.c)).setCell ⟨gr, 6, none⟩ (.slice SS.proof.a SS.proof.n SS.proof.c)).setCell ⟨gr, 7, none⟩ (.int .i64 DD.epoch)).setCell ⟨gr, 8, none⟩ (.int .i64 DD.seq)).setCell ⟨gr, 9, none⟩ (.slice SS.body.a SS.body.n SS.body.c)).setCell ⟨gr, 10, none⟩ (.slice SS.tag.a SS.tag.n SS.tag.c)) gr 25 [.int .i64 DD.kind, .int .i64 DD.id, .slice SS.cn.a SS.cn.n SS.cn.c, .slice SS.sn.a SS.sn.n SS.sn.c, .int .i64 DD.tick, .slice SS.cookie.a SS.cookie.n SS.cookie.c, .slice SS.proof.a SS.proof.n SS.proof.c, .int .i64 DD.epoch, .int .i64 DD.seq, .slice SS.body.a SS.body.n SS.body.c, .slice SS.tag.a SS.tag.n SS.tag.c] := (((((((((((KR3.out).set 0 _ (by simp [maxLen])).set 1 _ (by simp [maxLen])).set 2 _ (by simp [maxLen])).set 3 _ (by simp [maxLen])).set 4 _ (by simp [maxLen])).set 5 _ (by simp [maxLen])).set 6 _ (by simp [maxLen])).set 7 _ (by simp [maxLen])).set 8 _ (by simp [maxLen])).set 9 _ (by simp [maxLen])).set 10 _ (by simp [maxLen])
  have KK : Kept gr (gr + 1) x3 ((((((((((((x3).setCell ⟨gr, 0, none⟩ (.int .i64 DD.kind)).setCell ⟨gr, 1, none⟩ (.int .i64 DD.id)).setCell ⟨gr, 2, none⟩ (.slice SS.cn.a SS.cn.n SS.cn.c)).setCell ⟨gr, 3, none⟩ (.slice SS.sn.a SS.sn.n SS.sn.c)).setCell ⟨gr, 4, none⟩ (.int .i64 DD.tick)).setCell ⟨gr, 5, none⟩ (.slice SS.cookie.a SS.cookie.n SS.cookie.c)).setCell ⟨gr, 6, none⟩ (.slice SS.proof.a SS.proof.n SS.proof.c)).setCell ⟨gr, 7, none⟩ (.int .i64 DD.epoch)).setCell ⟨gr, 8, none⟩ (.int .i64 DD.seq)).setCell ⟨gr, 9, none⟩ (.slice SS.body.a SS.body.n SS.body.c)).setCell ⟨gr, 10, none⟩ (.slice SS.tag.a SS.tag.n SS.tag.c)) := ((((((((((((Kept.refl gr (gr + 1) x3)).trans (Kept.setCell _ gr 0 _)).trans (Kept.setCell _ gr 1 _)).trans (Kept.setCell _ gr 2 _)).trans (Kept.setCell _ gr 3 _)).trans (Kept.setCell _ gr 4 _)).trans (Kept.setCell _ gr 5 _)).trans (Kept.setCell _ gr 6 _)).trans (Kept.setCell _ gr 7 _)).trans (Kept.setCell _ gr 8 _)).trans (Kept.setCell _ gr 9 _)).trans (Kept.setCell _ gr 10 _)
  rw [HDD.out]
  exact ret_read rfl rfl KF rfl (D := DD) (S := SS) ((MD.out.own.carry KK (.inr (by have := HG.out; omega))).mono (by have := HG.out; omega) KK.size) ((((((((((((B3.out).setCell (by show _ ≤ gr; have := HG.out; omega) _).setCell (by show _ ≤ gr; have := HG.out; omega) _).setCell (by show _ ≤ gr; have := HG.out; omega) _).setCell (by show _ ≤ gr; have := HG.out; omega) _).setCell (by show _ ≤ gr; have := HG.out; omega) _).setCell (by show _ ≤ gr; have := HG.out; omega) _).setCell (by show _ ≤ gr; have := HG.out; omega) _).setCell (by show _ ≤ gr; have := HG.out; omega) _).setCell (by show _ ≤ gr; have := HG.out; omega) _).setCell (by show _ ≤ gr; have := HG.out; omega) _).setCell (by show _ ≤ gr; have := HG.out; omega) _)

set_option maxRecDepth 100000 in
set_option maxHeartbeats 8000000 in
theorem readFrame8 (bb off N c : Nat) (l : List Int) (w : World) (hn : N = l.length) (hr : Rd w (some ⟨bb, off, none⟩) l) (hb : Bytes l) (hc : N ≤ c) (hm : N ≤ 2000000) (hk : numAt l 0 1 = 8) :
    Calls Try.prog 41 #[.slice (some ⟨bb, off, none⟩) N c] w (Read w ⟨8, 0, [], cutOf l 1 12, 0, [], [], numAt l (1 + 12) 4, numAt l (1 + 16) 6, cutOf l (1 + 38) ((N : Int) - (1 + 38)), cutOf l (1 + 22) 16⟩) := by
  have HLen : Hid (N = l.length) := hn
  have HRd : Hid (Rd w (some ⟨bb, off, none⟩) l) := hr
  have HBy : Hid (Bytes l) := hb
  have HKd : Hid (numAt l 0 1 = 8) := hk
  obtain ⟨x0, hx0⟩ : ∃ x0, (w.alloc (.cells #[.int .i64 0, .int .i64 0, .slice none 0 0, .slice none 0 0, .int .i64 0, .slice none 0 0, .slice none 0 0, .int .i64 0, .int .i64 0, .slice none 0 0, .slice none 0 0] 25)).alloc (.cells #[.slice (some ⟨bb, off, none⟩) N c, .int .i64 0] 84) = x0 := ⟨_, rfl⟩
  have HW0 : Hid ((w.alloc (.cells #[.int .i64 0, .int .i64 0, .slice none 0 0, .slice none 0 0, .int .i64 0, .slice none 0 0, .slice none 0 0, .int .i64 0, .int .i64 0, .slice none 0 0, .slice none 0 0] 25)).alloc (.cells #[.slice (some ⟨bb, off, none⟩) N c, .int .i64 0] 84) = x0) := hx0
  have B0 : Hid (Below w.heap.size w x0) := by rw [← hx0]; exact ((Below.refl _ _).alloc (Nat.le_refl _) _).alloc (by simp) _
  have KR0 : Hid (Blk x0 w.heap.size 25 [.int .i64 0, .int .i64 0, .slice none 0 0, .slice none 0 0, .int .i64 0, .slice none 0 0, .slice none 0 0, .int .i64 0, .int .i64 0, .slice none 0 0, .slice none 0 0]) := by rw [← hx0]; exact (Blk.new w _ [.int .i64 0, .int .i64 0, .slice none 0 0, .slice none 0 0, .int .i64 0, .slice none 0 0, .slice none 0 0, .int .i64 0, .int .i64 0, .slice none 0 0, .slice none 0 0]).alloc _
  have K0 : Hid (Blk x0 (w.heap.size + 1) 84 [.slice (some ⟨bb, off, none⟩) N c, .int .i64 (0)]) := by
    have := Blk.new (w.alloc (.cells #[.int .i64 0, .int .i64 0, .slice none 0 0, .slice none 0 0, .int .i64 0, .slice none 0 0, .slice none 0 0, .int .i64 0, .int .i64 0, .slice none 0 0, .slice none 0 0] 25)) 84 [.slice (some ⟨bb, off, none⟩) N c, .int .i64 0]
    rw [World.size_alloc] at this
    rw [← hx0]; exact this
  have hm4 : N ≤ 4194304 := by omega
  clear hx0 hn hr hb hk
  have t1 := as8_1
  have t2 := as8_2
  have t3 := as8_3
  have t4 := as8_4
  have t5 := as8_5
  have t6 := as8_6
  have t7 := as8_7
  have t8 := as8_8
  go_enter Try.func41, Try.ntmps41
  go_wp2_with fail
  rw [HW0.out]
  obtain ⟨gr, hgr⟩ : ∃ gr, w.heap.size = gr := ⟨_, rfl⟩
  obtain ⟨gq, hgq⟩ : ∃ gq, w.heap.size + 1 = gq := ⟨_, rfl⟩
  have HG0 : Hid (w.heap.size = gr ∧ gq = gr + 1) := ⟨hgr, by omega⟩
  rw [hgq] at K0 ⊢
  rw [hgr] at KR0
  rw [hgr]
  clear hgr hgq HW0
  refine (number gq bb off N c 0 1 l x0 K0.out HLen.out (HRd.out.later B0.out (Nat.le_refl _)) HBy.out hc hm4 (by omega) (by omega) (by omega) (by omega)).mono ?_
  rw [HKd.out]
  rintro e y1 ⟨rfl, kb1, kp1⟩
  have KY : Hid (Blk y1 gq 84 [.slice (some ⟨bb, off, none⟩) N c, .int .i64 (1)]) := kb1
  have BY : Hid (Below w.heap.size w y1) := B0.out.trans (kp1.below (by have := HG0.out; omega) B0.out.size)
  have KRY : Hid (Blk y1 gr 25 [.int .i64 0, .int .i64 0, .slice none 0 0, .slice none 0 0, .int .i64 0, .slice none 0 0, .slice none 0 0, .int .i64 0, .int .i64 0, .slice none 0 0, .slice none 0 0]) := KR0.out.keep (kp1.block gr KR0.out.lt (by have := HG0.out; omega))
  clear kb1 kp1 B0 K0 KR0
  obtain ⟨x1, hx1⟩ : ∃ x1, y1.alloc (.cells #[.int .i64 8, .int .i64 0, .slice none 0 0, .slice none 0 0, .int .i64 0, .slice none 0 0, .slice none 0 0, .int .i64 0, .int .i64 0, .slice none 0 0, .slice none 0 0] 25) = x1 := ⟨_, rfl⟩
  have HW1 : Hid (y1.alloc (.cells #[.int .i64 8, .int .i64 0, .slice none 0 0, .slice none 0 0, .int .i64 0, .slice none 0 0, .slice none 0 0, .int .i64 0, .int .i64 0, .slice none 0 0, .slice none 0 0] 25) = x1) := hx1
  have KB : Blk x1 y1.heap.size 25 [.int .i64 8, .int .i64 0, .slice none 0 0, .slice none 0 0, .int .i64 0, .slice none 0 0, .slice none 0 0, .int .i64 0, .int .i64 0, .slice none 0 0, .slice none 0 0] := by rw [← hx1]; exact Blk.new y1 _ [.int .i64 8, .int .i64 0, .slice none 0 0, .slice none 0 0, .int .i64 0, .slice none 0 0, .slice none 0 0, .int .i64 0, .int .i64 0, .slice none 0 0, .slice none 0 0]
  have M1 : Hid (FrMk x1 y1.heap.size (y1.heap.size + 1) ⟨8, 0, [], [], 0, [], [], 0, 0, [], []⟩ ⟨⟨none, 0, 0⟩, ⟨none, 0, 0⟩, ⟨none, 0, 0⟩, ⟨none, 0, 0⟩, ⟨none, 0, 0⟩, ⟨none, 0, 0⟩⟩) := ⟨KB, own_none _ _ _ _, Nat.lt_succ_self _⟩
  have K1 : Hid (Blk x1 gq 84 [.slice (some ⟨bb, off, none⟩) N c, .int .i64 (1)]) := by rw [← hx1]; exact KY.out.alloc _
  have KR1 : Hid (Blk x1 gr 25 [.int .i64 0, .int .i64 0, .slice none 0 0, .slice none 0 0, .int .i64 0, .slice none 0 0, .slice none 0 0, .int .i64 0, .int .i64 0, .slice none 0 0, .slice none 0 0]) := by rw [← hx1]; exact KRY.out.alloc _
  have B1 : Hid (Below w.heap.size w x1) := by rw [← hx1]; exact BY.out.alloc BY.out.size _
  have LG : Hid (gq < y1.heap.size) := KY.out.lt
  clear hx1 KB KY BY KRY
  go_wp2_with fail
  rw [HW1.out]
  obtain ⟨gf, hgf⟩ : ∃ gf, y1.heap.size = gf := ⟨_, rfl⟩
  rw [hgf] at M1 LG ⊢
  clear HW1 hgf
  have HG : Hid (w.heap.size = gr ∧ gq = gr + 1 ∧ gq < gf) := ⟨HG0.out.1, HG0.out.2, LG.out⟩
  refine (wordOf8 0 ⟨none, 0, 0⟩ ⟨none, 0, 0⟩ 0 ⟨none, 0, 0⟩ ⟨none, 0, 0⟩ 0 0 ⟨none, 0, 0⟩ ⟨none, 0, 0⟩ x1).mono ?_
  rintro e x2 ⟨rfl, b2⟩
  have M2 : Hid (FrMk x2 gf (gf + 1) ⟨8, 0, [], [], 0, [], [], 0, 0, [], []⟩ ⟨⟨none, 0, 0⟩, ⟨none, 0, 0⟩, ⟨none, 0, 0⟩, ⟨none, 0, 0⟩, ⟨none, 0, 0⟩, ⟨none, 0, 0⟩⟩) := M1.out.later b2
  have K2 : Hid (Blk x2 gq 84 [.slice (some ⟨bb, off, none⟩) N c, .int .i64 (1)]) := K1.out.later b2
  have KR2 : Hid (Blk x2 gr 25 [.int .i64 0, .int .i64 0, .slice none 0 0, .slice none 0 0, .int .i64 0, .slice none 0 0, .slice none 0 0, .int .i64 0, .int .i64 0, .slice none 0 0, .slice none 0 0]) := KR1.out.later b2
  have B2 : Hid (Below w.heap.size w x2) := B1.out.trans (b2.mono B1.out.size)
  clear b2 M1 K1 KR1 B1 LG HG0
  go_wp2_with fail
  refine (readSealed gq gf bb off N c 1 l ⟨8, 0, [], [], 0, [], [], 0, 0, [], []⟩ ⟨⟨none, 0, 0⟩, ⟨none, 0, 0⟩, ⟨none, 0, 0⟩, ⟨none, 0, 0⟩, ⟨none, 0, 0⟩, ⟨none, 0, 0⟩⟩ w x2 K2.out M2.out (by have := HG.out; omega) (by have := HG.out; omega) B2.out HLen.out HRd.out HBy.out hc hm (by omega) (by omega)).mono ?_
  rintro e x3 ⟨S3, p3, rfl, mm3, kk3, ks3⟩
  have M3 : Hid (FrMk x3 gf (gf + 1) { (⟨8, 0, [], [], 0, [], [], 0, 0, [], []⟩ : FrD) with sn := cutOf l 1 12, epoch := numAt l (1 + 12) 4, seq := numAt l (1 + 16) 6, tag := cutOf l (1 + 22) 16, body := cutOf l (1 + 38) ((N : Int) - (1 + 38)) } S3) := mm3
  have K3 : Hid (Blk x3 gq 84 [.slice (some ⟨bb, off, none⟩) N c, .int .i64 (p3)]) := kk3
  have KR3 : Hid (Blk x3 gr 25 [.int .i64 0, .int .i64 0, .slice none 0 0, .slice none 0 0, .int .i64 0, .slice none 0 0, .slice none 0 0, .int .i64 0, .int .i64 0, .slice none 0 0, .slice none 0 0]) := KR2.out.keep (ks3.block gr KR2.out.lt (by have := HG.out; omega))
  have B3 : Hid (Below w.heap.size w x3) := B2.out.trans (ks3.below (by have := HG.out; omega) B2.out.size)
  clear mm3 kk3 ks3 M2 K2 KR2 B2
  go_upto_region 15 with fail
  obtain ⟨SS, hSS⟩ : ∃ SS : FrS, S3 = SS := ⟨_, rfl⟩
  obtain ⟨DD, hDD⟩ : ∃ DD : FrD, ⟨8, 0, [], cutOf l 1 12, 0, [], [], numAt l (1 + 12) 4, numAt l (1 + 16) 6, cutOf l (1 + 38) ((N : Int) - (1 + 38)), cutOf l (1 + 22) 16⟩ = DD := ⟨_, rfl⟩
  have MD : Hid (FrMk x3 gf (gf + 1) DD SS) := by rw [← hSS, ← hDD]; exact M3.out
  have HDD : Hid (⟨8, 0, [], cutOf l 1 12, 0, [], [], numAt l (1 + 12) 4, numAt l (1 + 16) 6, cutOf l (1 + 38) ((N : Int) - (1 + 38)), cutOf l (1 + 22) 16⟩ = DD) := hDD
  clear hSS hDD M3
  have zc0 := KR3.out.cell 0 rfl
  have zf0 := KR3.out.frozen 0
  have zo0 : x3.cell? ⟨gf, 0, none⟩ = some (.int .i64 DD.kind) := MD.out.blk.cell 0 rfl
  have zc1 := KR3.out.cell 1 rfl
  have zf1 := KR3.out.frozen 1
  have zo1 : x3.cell? ⟨gf, 1, none⟩ = some (.int .i64 DD.id) := MD.out.blk.cell 1 rfl
  have zc2 := KR3.out.cell 2 rfl
  have zf2 := KR3.out.frozen 2
  have zo2 : x3.cell? ⟨gf, 2, none⟩ = some (.slice SS.cn.a SS.cn.n SS.cn.c) := MD.out.blk.cell 2 rfl
  have zc3 := KR3.out.cell 3 rfl
  have zf3 := KR3.out.frozen 3
  have zo3 : x3.cell? ⟨gf, 3, none⟩ = some (.slice SS.sn.a SS.sn.n SS.sn.c) := MD.out.blk.cell 3 rfl
  have zc4 := KR3.out.cell 4 rfl
  have zf4 := KR3.out.frozen 4
  have zo4 : x3.cell? ⟨gf, 4, none⟩ = some (.int .i64 DD.tick) := MD.out.blk.cell 4 rfl
  have zc5 := KR3.out.cell 5 rfl
  have zf5 := KR3.out.frozen 5
  have zo5 : x3.cell? ⟨gf, 5, none⟩ = some (.slice SS.cookie.a SS.cookie.n SS.cookie.c) := MD.out.blk.cell 5 rfl
  have zc6 := KR3.out.cell 6 rfl
  have zf6 := KR3.out.frozen 6
  have zo6 : x3.cell? ⟨gf, 6, none⟩ = some (.slice SS.proof.a SS.proof.n SS.proof.c) := MD.out.blk.cell 6 rfl
  have zc7 := KR3.out.cell 7 rfl
  have zf7 := KR3.out.frozen 7
  have zo7 : x3.cell? ⟨gf, 7, none⟩ = some (.int .i64 DD.epoch) := MD.out.blk.cell 7 rfl
  have zc8 := KR3.out.cell 8 rfl
  have zf8 := KR3.out.frozen 8
  have zo8 : x3.cell? ⟨gf, 8, none⟩ = some (.int .i64 DD.seq) := MD.out.blk.cell 8 rfl
  have zc9 := KR3.out.cell 9 rfl
  have zf9 := KR3.out.frozen 9
  have zo9 : x3.cell? ⟨gf, 9, none⟩ = some (.slice SS.body.a SS.body.n SS.body.c) := MD.out.blk.cell 9 rfl
  have zc10 := KR3.out.cell 10 rfl
  have zf10 := KR3.out.frozen 10
  have zo10 : x3.cell? ⟨gf, 10, none⟩ = some (.slice SS.tag.a SS.tag.n SS.tag.c) := MD.out.blk.cell 10 rfl
  have ne1 : gr ≠ gf := by have := HG.out; omega
  have ne2 : gf ≠ gr := by have := HG.out; omega
  go_wp2
  have KF : Blk ((((((((((((x3).setCell ⟨gr, 0, none⟩ (.int .i64 DD.kind)).setCell ⟨gr, 1, none⟩ (.int .i64 DD.id)).setCell ⟨gr, 2, none⟩ (.slice SS.cn.a SS.cn.n SS.cn.c)).setCell ⟨gr, 3, none⟩ (.slice SS.sn.a SS.sn.n SS.sn.c)).setCell ⟨gr, 4, none⟩ (.int .i64 DD.tick)).setCell ⟨gr, 5, none⟩ (.slice SS.cookie.a SS.cookie.n SS.cookie.c)).setCell ⟨gr, 6, none⟩ (.slice SS.proof.a SS.proof.n SS.proof.c)).setCell ⟨gr, 7, none⟩ (.int .i64 DD.epoch)).setCell ⟨gr, 8, none⟩ (.int .i64 DD.seq)).setCell ⟨gr, 9, none⟩ (.slice SS.body.a SS.body.n SS.body.c)).setCell ⟨gr, 10, none⟩ (.slice SS.tag.a SS.tag.n SS.tag.c)) gr 25 [.int .i64 DD.kind, .int .i64 DD.id, .slice SS.cn.a SS.cn.n SS.cn.c, .slice SS.sn.a SS.sn.n SS.sn.c, .int .i64 DD.tick, .slice SS.cookie.a SS.cookie.n SS.cookie.c, .slice SS.proof.a SS.proof.n SS.proof.c, .int .i64 DD.epoch, .int .i64 DD.seq, .slice SS.body.a SS.body.n SS.body.c, .slice SS.tag.a SS.tag.n SS.tag.c] := (((((((((((KR3.out).set 0 _ (by simp [maxLen])).set 1 _ (by simp [maxLen])).set 2 _ (by simp [maxLen])).set 3 _ (by simp [maxLen])).set 4 _ (by simp [maxLen])).set 5 _ (by simp [maxLen])).set 6 _ (by simp [maxLen])).set 7 _ (by simp [maxLen])).set 8 _ (by simp [maxLen])).set 9 _ (by simp [maxLen])).set 10 _ (by simp [maxLen])
  have KK : Kept gr (gr + 1) x3 ((((((((((((x3).setCell ⟨gr, 0, none⟩ (.int .i64 DD.kind)).setCell ⟨gr, 1, none⟩ (.int .i64 DD.id)).setCell ⟨gr, 2, none⟩ (.slice SS.cn.a SS.cn.n SS.cn.c)).setCell ⟨gr, 3, none⟩ (.slice SS.sn.a SS.sn.n SS.sn.c)).setCell ⟨gr, 4, none⟩ (.int .i64 DD.tick)).setCell ⟨gr, 5, none⟩ (.slice SS.cookie.a SS.cookie.n SS.cookie.c)).setCell ⟨gr, 6, none⟩ (.slice SS.proof.a SS.proof.n SS.proof.c)).setCell ⟨gr, 7, none⟩ (.int .i64 DD.epoch)).setCell ⟨gr, 8, none⟩ (.int .i64 DD.seq)).setCell ⟨gr, 9, none⟩ (.slice SS.body.a SS.body.n SS.body.c)).setCell ⟨gr, 10, none⟩ (.slice SS.tag.a SS.tag.n SS.tag.c)) := ((((((((((((Kept.refl gr (gr + 1) x3)).trans (Kept.setCell _ gr 0 _)).trans (Kept.setCell _ gr 1 _)).trans (Kept.setCell _ gr 2 _)).trans (Kept.setCell _ gr 3 _)).trans (Kept.setCell _ gr 4 _)).trans (Kept.setCell _ gr 5 _)).trans (Kept.setCell _ gr 6 _)).trans (Kept.setCell _ gr 7 _)).trans (Kept.setCell _ gr 8 _)).trans (Kept.setCell _ gr 9 _)).trans (Kept.setCell _ gr 10 _)
  rw [HDD.out]
  exact ret_read rfl rfl KF rfl (D := DD) (S := SS) ((MD.out.own.carry KK (.inr (by have := HG.out; omega))).mono (by have := HG.out; omega) KK.size) ((((((((((((B3.out).setCell (by show _ ≤ gr; have := HG.out; omega) _).setCell (by show _ ≤ gr; have := HG.out; omega) _).setCell (by show _ ≤ gr; have := HG.out; omega) _).setCell (by show _ ≤ gr; have := HG.out; omega) _).setCell (by show _ ≤ gr; have := HG.out; omega) _).setCell (by show _ ≤ gr; have := HG.out; omega) _).setCell (by show _ ≤ gr; have := HG.out; omega) _).setCell (by show _ ≤ gr; have := HG.out; omega) _).setCell (by show _ ≤ gr; have := HG.out; omega) _).setCell (by show _ ≤ gr; have := HG.out; omega) _).setCell (by show _ ≤ gr; have := HG.out; omega) _)

set_option maxRecDepth 100000 in
set_option maxHeartbeats 8000000 in
theorem readFrame0 (bb off N c : Nat) (l : List Int) (v : Int) (w : World) (hn : N = l.length) (hr : Rd w (some ⟨bb, off, none⟩) l) (hb : Bytes l) (hc : N ≤ c) (hm : N ≤ 2000000) (hk : numAt l 0 1 = v) (h1 : (v == 1) = false) (h2 : (v == 2) = false) (h3 : (v == 3) = false) (h4 : (v == 4) = false) (h5 : (v == 5) = false) (h6 : (v == 6) = false) (h7 : (v == 7) = false) (h8 : (v == 8) = false) :
    Calls Try.prog 41 #[.slice (some ⟨bb, off, none⟩) N c] w (Read w ⟨v, 0, [], [], 0, [], [], 0, 0, [], []⟩) := by
  have HLen : Hid (N = l.length) := hn
  have HRd : Hid (Rd w (some ⟨bb, off, none⟩) l) := hr
  have HBy : Hid (Bytes l) := hb
  have HKd : Hid (numAt l 0 1 = v) := hk
  obtain ⟨x0, hx0⟩ : ∃ x0, (w.alloc (.cells #[.int .i64 0, .int .i64 0, .slice none 0 0, .slice none 0 0, .int .i64 0, .slice none 0 0, .slice none 0 0, .int .i64 0, .int .i64 0, .slice none 0 0, .slice none 0 0] 25)).alloc (.cells #[.slice (some ⟨bb, off, none⟩) N c, .int .i64 0] 84) = x0 := ⟨_, rfl⟩
  have HW0 : Hid ((w.alloc (.cells #[.int .i64 0, .int .i64 0, .slice none 0 0, .slice none 0 0, .int .i64 0, .slice none 0 0, .slice none 0 0, .int .i64 0, .int .i64 0, .slice none 0 0, .slice none 0 0] 25)).alloc (.cells #[.slice (some ⟨bb, off, none⟩) N c, .int .i64 0] 84) = x0) := hx0
  have B0 : Hid (Below w.heap.size w x0) := by rw [← hx0]; exact ((Below.refl _ _).alloc (Nat.le_refl _) _).alloc (by simp) _
  have KR0 : Hid (Blk x0 w.heap.size 25 [.int .i64 0, .int .i64 0, .slice none 0 0, .slice none 0 0, .int .i64 0, .slice none 0 0, .slice none 0 0, .int .i64 0, .int .i64 0, .slice none 0 0, .slice none 0 0]) := by rw [← hx0]; exact (Blk.new w _ [.int .i64 0, .int .i64 0, .slice none 0 0, .slice none 0 0, .int .i64 0, .slice none 0 0, .slice none 0 0, .int .i64 0, .int .i64 0, .slice none 0 0, .slice none 0 0]).alloc _
  have K0 : Hid (Blk x0 (w.heap.size + 1) 84 [.slice (some ⟨bb, off, none⟩) N c, .int .i64 (0)]) := by
    have := Blk.new (w.alloc (.cells #[.int .i64 0, .int .i64 0, .slice none 0 0, .slice none 0 0, .int .i64 0, .slice none 0 0, .slice none 0 0, .int .i64 0, .int .i64 0, .slice none 0 0, .slice none 0 0] 25)) 84 [.slice (some ⟨bb, off, none⟩) N c, .int .i64 0]
    rw [World.size_alloc] at this
    rw [← hx0]; exact this
  have hm4 : N ≤ 4194304 := by omega
  clear hx0 hn hr hb hk
  have t1 := as0_1
  have t2 := as0_2
  have t3 := as0_3
  have t4 := as0_4
  have t5 := as0_5
  have t6 := as0_6
  have t7 := as0_7
  have t8 := as0_8
  go_enter Try.func41, Try.ntmps41
  go_wp2_with fail
  rw [HW0.out]
  obtain ⟨gr, hgr⟩ : ∃ gr, w.heap.size = gr := ⟨_, rfl⟩
  obtain ⟨gq, hgq⟩ : ∃ gq, w.heap.size + 1 = gq := ⟨_, rfl⟩
  have HG0 : Hid (w.heap.size = gr ∧ gq = gr + 1) := ⟨hgr, by omega⟩
  rw [hgq] at K0 ⊢
  rw [hgr] at KR0
  rw [hgr]
  clear hgr hgq HW0
  refine (number gq bb off N c 0 1 l x0 K0.out HLen.out (HRd.out.later B0.out (Nat.le_refl _)) HBy.out hc hm4 (by omega) (by omega) (by omega) (by omega)).mono ?_
  rw [HKd.out]
  rintro e y1 ⟨rfl, kb1, kp1⟩
  have KY : Hid (Blk y1 gq 84 [.slice (some ⟨bb, off, none⟩) N c, .int .i64 (1)]) := kb1
  have BY : Hid (Below w.heap.size w y1) := B0.out.trans (kp1.below (by have := HG0.out; omega) B0.out.size)
  have KRY : Hid (Blk y1 gr 25 [.int .i64 0, .int .i64 0, .slice none 0 0, .slice none 0 0, .int .i64 0, .slice none 0 0, .slice none 0 0, .int .i64 0, .int .i64 0, .slice none 0 0, .slice none 0 0]) := KR0.out.keep (kp1.block gr KR0.out.lt (by have := HG0.out; omega))
  clear kb1 kp1 B0 K0 KR0
  obtain ⟨x1, hx1⟩ : ∃ x1, y1.alloc (.cells #[.int .i64 v, .int .i64 0, .slice none 0 0, .slice none 0 0, .int .i64 0, .slice none 0 0, .slice none 0 0, .int .i64 0, .int .i64 0, .slice none 0 0, .slice none 0 0] 25) = x1 := ⟨_, rfl⟩
  have HW1 : Hid (y1.alloc (.cells #[.int .i64 v, .int .i64 0, .slice none 0 0, .slice none 0 0, .int .i64 0, .slice none 0 0, .slice none 0 0, .int .i64 0, .int .i64 0, .slice none 0 0, .slice none 0 0] 25) = x1) := hx1
  have KB : Blk x1 y1.heap.size 25 [.int .i64 v, .int .i64 0, .slice none 0 0, .slice none 0 0, .int .i64 0, .slice none 0 0, .slice none 0 0, .int .i64 0, .int .i64 0, .slice none 0 0, .slice none 0 0] := by rw [← hx1]; exact Blk.new y1 _ [.int .i64 v, .int .i64 0, .slice none 0 0, .slice none 0 0, .int .i64 0, .slice none 0 0, .slice none 0 0, .int .i64 0, .int .i64 0, .slice none 0 0, .slice none 0 0]
  have M1 : Hid (FrMk x1 y1.heap.size (y1.heap.size + 1) ⟨v, 0, [], [], 0, [], [], 0, 0, [], []⟩ ⟨⟨none, 0, 0⟩, ⟨none, 0, 0⟩, ⟨none, 0, 0⟩, ⟨none, 0, 0⟩, ⟨none, 0, 0⟩, ⟨none, 0, 0⟩⟩) := ⟨KB, own_none _ _ _ _, Nat.lt_succ_self _⟩
  have K1 : Hid (Blk x1 gq 84 [.slice (some ⟨bb, off, none⟩) N c, .int .i64 (1)]) := by rw [← hx1]; exact KY.out.alloc _
  have KR1 : Hid (Blk x1 gr 25 [.int .i64 0, .int .i64 0, .slice none 0 0, .slice none 0 0, .int .i64 0, .slice none 0 0, .slice none 0 0, .int .i64 0, .int .i64 0, .slice none 0 0, .slice none 0 0]) := by rw [← hx1]; exact KRY.out.alloc _
  have B1 : Hid (Below w.heap.size w x1) := by rw [← hx1]; exact BY.out.alloc BY.out.size _
  have LG : Hid (gq < y1.heap.size) := KY.out.lt
  clear hx1 KB KY BY KRY
  go_wp2_with fail
  rw [HW1.out]
  obtain ⟨gf, hgf⟩ : ∃ gf, y1.heap.size = gf := ⟨_, rfl⟩
  rw [hgf] at M1 LG ⊢
  clear HW1 hgf
  have HG : Hid (w.heap.size = gr ∧ gq = gr + 1 ∧ gq < gf) := ⟨HG0.out.1, HG0.out.2, LG.out⟩
  refine (wordOf0 v 0 ⟨none, 0, 0⟩ ⟨none, 0, 0⟩ 0 ⟨none, 0, 0⟩ ⟨none, 0, 0⟩ 0 0 ⟨none, 0, 0⟩ ⟨none, 0, 0⟩ h1 h2 h3 h4 h5 h6 h7 h8 x1).mono ?_
  rintro e x2 ⟨rfl, b2⟩
  have M2 : Hid (FrMk x2 gf (gf + 1) ⟨v, 0, [], [], 0, [], [], 0, 0, [], []⟩ ⟨⟨none, 0, 0⟩, ⟨none, 0, 0⟩, ⟨none, 0, 0⟩, ⟨none, 0, 0⟩, ⟨none, 0, 0⟩, ⟨none, 0, 0⟩⟩) := M1.out.later b2
  have K2 : Hid (Blk x2 gq 84 [.slice (some ⟨bb, off, none⟩) N c, .int .i64 (1)]) := K1.out.later b2
  have KR2 : Hid (Blk x2 gr 25 [.int .i64 0, .int .i64 0, .slice none 0 0, .slice none 0 0, .int .i64 0, .slice none 0 0, .slice none 0 0, .int .i64 0, .int .i64 0, .slice none 0 0, .slice none 0 0]) := KR1.out.later b2
  have B2 : Hid (Below w.heap.size w x2) := B1.out.trans (b2.mono B1.out.size)
  clear b2 M1 K1 KR1 B1 LG HG0
  go_upto_region 15 with fail
  obtain ⟨SS, hSS⟩ : ∃ SS : FrS, ⟨⟨none, 0, 0⟩, ⟨none, 0, 0⟩, ⟨none, 0, 0⟩, ⟨none, 0, 0⟩, ⟨none, 0, 0⟩, ⟨none, 0, 0⟩⟩ = SS := ⟨_, rfl⟩
  obtain ⟨DD, hDD⟩ : ∃ DD : FrD, ⟨v, 0, [], [], 0, [], [], 0, 0, [], []⟩ = DD := ⟨_, rfl⟩
  have MD : Hid (FrMk x2 gf (gf + 1) DD SS) := by rw [← hSS, ← hDD]; exact M2.out
  have HDD : Hid (⟨v, 0, [], [], 0, [], [], 0, 0, [], []⟩ = DD) := hDD
  clear hSS hDD M2
  have zc0 := KR2.out.cell 0 rfl
  have zf0 := KR2.out.frozen 0
  have zo0 : x2.cell? ⟨gf, 0, none⟩ = some (.int .i64 DD.kind) := MD.out.blk.cell 0 rfl
  have zc1 := KR2.out.cell 1 rfl
  have zf1 := KR2.out.frozen 1
  have zo1 : x2.cell? ⟨gf, 1, none⟩ = some (.int .i64 DD.id) := MD.out.blk.cell 1 rfl
  have zc2 := KR2.out.cell 2 rfl
  have zf2 := KR2.out.frozen 2
  have zo2 : x2.cell? ⟨gf, 2, none⟩ = some (.slice SS.cn.a SS.cn.n SS.cn.c) := MD.out.blk.cell 2 rfl
  have zc3 := KR2.out.cell 3 rfl
  have zf3 := KR2.out.frozen 3
  have zo3 : x2.cell? ⟨gf, 3, none⟩ = some (.slice SS.sn.a SS.sn.n SS.sn.c) := MD.out.blk.cell 3 rfl
  have zc4 := KR2.out.cell 4 rfl
  have zf4 := KR2.out.frozen 4
  have zo4 : x2.cell? ⟨gf, 4, none⟩ = some (.int .i64 DD.tick) := MD.out.blk.cell 4 rfl
  have zc5 := KR2.out.cell 5 rfl
  have zf5 := KR2.out.frozen 5
  have zo5 : x2.cell? ⟨gf, 5, none⟩ = some (.slice SS.cookie.a SS.cookie.n SS.cookie.c) := MD.out.blk.cell 5 rfl
  have zc6 := KR2.out.cell 6 rfl
  have zf6 := KR2.out.frozen 6
  have zo6 : x2.cell? ⟨gf, 6, none⟩ = some (.slice SS.proof.a SS.proof.n SS.proof.c) := MD.out.blk.cell 6 rfl
  have zc7 := KR2.out.cell 7 rfl
  have zf7 := KR2.out.frozen 7
  have zo7 : x2.cell? ⟨gf, 7, none⟩ = some (.int .i64 DD.epoch) := MD.out.blk.cell 7 rfl
  have zc8 := KR2.out.cell 8 rfl
  have zf8 := KR2.out.frozen 8
  have zo8 : x2.cell? ⟨gf, 8, none⟩ = some (.int .i64 DD.seq) := MD.out.blk.cell 8 rfl
  have zc9 := KR2.out.cell 9 rfl
  have zf9 := KR2.out.frozen 9
  have zo9 : x2.cell? ⟨gf, 9, none⟩ = some (.slice SS.body.a SS.body.n SS.body.c) := MD.out.blk.cell 9 rfl
  have zc10 := KR2.out.cell 10 rfl
  have zf10 := KR2.out.frozen 10
  have zo10 : x2.cell? ⟨gf, 10, none⟩ = some (.slice SS.tag.a SS.tag.n SS.tag.c) := MD.out.blk.cell 10 rfl
  have ne1 : gr ≠ gf := by have := HG.out; omega
  have ne2 : gf ≠ gr := by have := HG.out; omega
  go_wp2
  have KF : Blk ((((((((((((x2).setCell ⟨gr, 0, none⟩ (.int .i64 DD.kind)).setCell ⟨gr, 1, none⟩ (.int .i64 DD.id)).setCell ⟨gr, 2, none⟩ (.slice SS.cn.a SS.cn.n SS.cn.c)).setCell ⟨gr, 3, none⟩ (.slice SS.sn.a SS.sn.n SS.sn.c)).setCell ⟨gr, 4, none⟩ (.int .i64 DD.tick)).setCell ⟨gr, 5, none⟩ (.slice SS.cookie.a SS.cookie.n SS.cookie.c)).setCell ⟨gr, 6, none⟩ (.slice SS.proof.a SS.proof.n SS.proof.c)).setCell ⟨gr, 7, none⟩ (.int .i64 DD.epoch)).setCell ⟨gr, 8, none⟩ (.int .i64 DD.seq)).setCell ⟨gr, 9, none⟩ (.slice SS.body.a SS.body.n SS.body.c)).setCell ⟨gr, 10, none⟩ (.slice SS.tag.a SS.tag.n SS.tag.c)) gr 25 [.int .i64 DD.kind, .int .i64 DD.id, .slice SS.cn.a SS.cn.n SS.cn.c, .slice SS.sn.a SS.sn.n SS.sn.c, .int .i64 DD.tick, .slice SS.cookie.a SS.cookie.n SS.cookie.c, .slice SS.proof.a SS.proof.n SS.proof.c, .int .i64 DD.epoch, .int .i64 DD.seq, .slice SS.body.a SS.body.n SS.body.c, .slice SS.tag.a SS.tag.n SS.tag.c] := (((((((((((KR2.out).set 0 _ (by simp [maxLen])).set 1 _ (by simp [maxLen])).set 2 _ (by simp [maxLen])).set 3 _ (by simp [maxLen])).set 4 _ (by simp [maxLen])).set 5 _ (by simp [maxLen])).set 6 _ (by simp [maxLen])).set 7 _ (by simp [maxLen])).set 8 _ (by simp [maxLen])).set 9 _ (by simp [maxLen])).set 10 _ (by simp [maxLen])
  have KK : Kept gr (gr + 1) x2 ((((((((((((x2).setCell ⟨gr, 0, none⟩ (.int .i64 DD.kind)).setCell ⟨gr, 1, none⟩ (.int .i64 DD.id)).setCell ⟨gr, 2, none⟩ (.slice SS.cn.a SS.cn.n SS.cn.c)).setCell ⟨gr, 3, none⟩ (.slice SS.sn.a SS.sn.n SS.sn.c)).setCell ⟨gr, 4, none⟩ (.int .i64 DD.tick)).setCell ⟨gr, 5, none⟩ (.slice SS.cookie.a SS.cookie.n SS.cookie.c)).setCell ⟨gr, 6, none⟩ (.slice SS.proof.a SS.proof.n SS.proof.c)).setCell ⟨gr, 7, none⟩ (.int .i64 DD.epoch)).setCell ⟨gr, 8, none⟩ (.int .i64 DD.seq)).setCell ⟨gr, 9, none⟩ (.slice SS.body.a SS.body.n SS.body.c)).setCell ⟨gr, 10, none⟩ (.slice SS.tag.a SS.tag.n SS.tag.c)) := ((((((((((((Kept.refl gr (gr + 1) x2)).trans (Kept.setCell _ gr 0 _)).trans (Kept.setCell _ gr 1 _)).trans (Kept.setCell _ gr 2 _)).trans (Kept.setCell _ gr 3 _)).trans (Kept.setCell _ gr 4 _)).trans (Kept.setCell _ gr 5 _)).trans (Kept.setCell _ gr 6 _)).trans (Kept.setCell _ gr 7 _)).trans (Kept.setCell _ gr 8 _)).trans (Kept.setCell _ gr 9 _)).trans (Kept.setCell _ gr 10 _)
  rw [HDD.out]
  exact ret_read rfl rfl KF rfl (D := DD) (S := SS) ((MD.out.own.carry KK (.inr (by have := HG.out; omega))).mono (by have := HG.out; omega) KK.size) ((((((((((((B2.out).setCell (by show _ ≤ gr; have := HG.out; omega) _).setCell (by show _ ≤ gr; have := HG.out; omega) _).setCell (by show _ ≤ gr; have := HG.out; omega) _).setCell (by show _ ≤ gr; have := HG.out; omega) _).setCell (by show _ ≤ gr; have := HG.out; omega) _).setCell (by show _ ≤ gr; have := HG.out; omega) _).setCell (by show _ ≤ gr; have := HG.out; omega) _).setCell (by show _ ≤ gr; have := HG.out; omega) _).setCell (by show _ ≤ gr; have := HG.out; omega) _).setCell (by show _ ≤ gr; have := HG.out; omega) _).setCell (by show _ ≤ gr; have := HG.out; omega) _)

end Go.Proofs.Ytfapehmbecgjaaa.FrRf
