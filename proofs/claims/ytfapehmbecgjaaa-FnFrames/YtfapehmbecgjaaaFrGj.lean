/-
  What impl reads of a right frame's bytes is that frame.
  What impl.GetFrame answers.
-/
import Derived.Test.YtfapehmbecgjaaaFrH
import Derived.Test.YtfapehmbecgjaaaFrRd
import Derived.Test.YtfapehmbecgjaaaFrGe
import Derived.Test.YtfapehmbecgjaaaFrRf
import Derived.Test.YtfapehmbecgjaaaFrQ3
set_option linter.unusedVariables false
namespace Go.Proofs.Ytfapehmbecgjaaa.FrR
open Go.RowKit Go.Proofs.Ytfapehmbecgjaaa.Mem Go.Proofs.Ytfapehmbecgjaaa.App Go.Proofs.Ytfapehmbecgjaaa.Get Go.Proofs.Ytfapehmbecgjaaa.Cuts Go.Proofs.Ytfapehmbecgjaaa.FrZ Go.Proofs.Ytfapehmbecgjaaa.FrP Go.Proofs.Ytfapehmbecgjaaa.FrB Go.Proofs.Ytfapehmbecgjaaa.FrG Go.Proofs.Ytfapehmbecgjaaa.FrH Go.Proofs.Ytfapehmbecgjaaa.FrRd

theorem numAt_yes (l : List Int) (i k : Nat) (hk : isSize k = true) (h : i + k ≤ l.length) : numAt l i k = val (piece l i k) := by
  unfold numAt
  rw [if_pos ⟨hk, there_yes ⟨by omega, by omega, by omega⟩⟩, Int.toNat_natCast, Int.toNat_natCast]
theorem cutOf_yes (l : List Int) (i k : Nat) (h : i + k ≤ l.length) : cutOf l i k = piece l i k := by
  unfold cutOf
  rw [if_pos (there_yes ⟨by omega, by omega, by omega⟩), Int.toNat_natCast, Int.toNat_natCast]
theorem cutOf_rest (l : List Int) (i k : Nat) (h : i + k = l.length) : cutOf l i k = l.drop i := by
  rw [cutOf_yes l i k (by omega)]
  unfold piece
  exact List.take_of_length_le (by rw [List.length_drop]; omega)
theorem numAt_one (l : List Int) (i : Nat) (h : i < l.length) : numAt l i 1 = l.getD i 0 := by
  rw [show (1 : Int) = ((1 : Nat) : Int) from rfl, numAt_yes l i 1 rfl (by omega)]
  have e : piece l i 1 = [l.getD i 0] := by
    unfold piece
    apply List.ext_getElem?
    intro j
    cases j with
    | zero => simp [List.getD, h]
    | succ j => simp; omega
  rw [e]
  unfold val
  simp
theorem kind_num {E : FrD} (ok : frameOk E = true) : numAt (putF E) 0 1 = E.kind := by
  have h := kind_at E ok
  have h0 : 0 < (putF E).length := List.length_pos_iff.2 h.2
  rw [show (0 : Int) = ((0 : Nat) : Int) from rfl, numAt_one _ 0 h0]
  exact h.1

theorem cand1 {l : List Int} (hk : numAt l 0 1 = 1) (E : FrD) (ok : frameOk E = true) (e : putF E = l) : E = ⟨1, numAt l 1 1, cutOf l 2 12, [], 0, [], [], 0, 0, [], []⟩ := by
  subst e
  have k1 : E.kind = 1 := by rw [← kind_num ok]; exact hk
  obtain ⟨len, g⟩ := back1 E ok k1
  have k0 := (kind_at E ok).1
  generalize putF E = l at *
  rw [← g]
  unfold get1
  have q0 : numAt l 1 1 = l.getD 1 0 := numAt_one l 1 (by omega)
  have q1 : cutOf l 2 12 = piece l 2 12 := cutOf_yes l 2 12 (by omega)
  rw [q0, q1, k0, k1]

theorem cand2 {l : List Int} (hk : numAt l 0 1 = 2) (E : FrD) (ok : frameOk E = true) (e : putF E = l) : E = ⟨2, 0, cutOf l 1 12, cutOf l (1 + 12) 12, numAt l (1 + 24) 4, cutOf l (1 + 28) 16, [], 0, 0, [], []⟩ := by
  subst e
  have k1 : E.kind = 2 := by rw [← kind_num ok]; exact hk
  obtain ⟨len, g⟩ := back2 E ok k1
  have k0 := (kind_at E ok).1
  generalize putF E = l at *
  rw [← g]
  unfold get2
  have q1 : cutOf l 1 12 = piece l 1 12 := cutOf_yes l 1 12 (by omega)
  have q2 : cutOf l (1 + 12) 12 = piece l 13 12 := cutOf_yes l 13 12 (by omega)
  have q3 : numAt l (1 + 24) 4 = val (piece l 25 4) := numAt_yes l 25 4 rfl (by omega)
  have q4 : cutOf l (1 + 28) 16 = l.drop 29 := cutOf_rest l 29 16 (by omega)
  rw [q1, q2, q3, q4, k0, k1]

theorem cand3 {l : List Int} (hk : numAt l 0 1 = 3) (E : FrD) (ok : frameOk E = true) (e : putF E = l) : E = ⟨3, numAt l 1 1, cutOf l 2 12, cutOf l (2 + 12) 12, numAt l (2 + 24) 4, cutOf l (2 + 28) 16, cutOf l (2 + 44) 16, 0, 0, [], []⟩ := by
  subst e
  have k1 : E.kind = 3 := by rw [← kind_num ok]; exact hk
  obtain ⟨len, g⟩ := back3 E ok k1
  have k0 := (kind_at E ok).1
  generalize putF E = l at *
  rw [← g]
  unfold get3
  have q0 : numAt l 1 1 = l.getD 1 0 := numAt_one l 1 (by omega)
  have q1 : cutOf l 2 12 = piece l 2 12 := cutOf_yes l 2 12 (by omega)
  have q2 : cutOf l (2 + 12) 12 = piece l 14 12 := cutOf_yes l 14 12 (by omega)
  have q3 : numAt l (2 + 24) 4 = val (piece l 26 4) := numAt_yes l 26 4 rfl (by omega)
  have q4 : cutOf l (2 + 28) 16 = piece l 30 16 := cutOf_yes l 30 16 (by omega)
  have q5 : cutOf l (2 + 44) 16 = l.drop 46 := cutOf_rest l 46 16 (by omega)
  rw [q0, q1, q2, q3, q4, q5, k0, k1]

theorem candS {l : List Int} {k : Int} {N : Nat} (hN : N = l.length) (hk : numAt l 0 1 = k) (n1 : k ≠ 1) (n2 : k ≠ 2) (n3 : k ≠ 3) (E : FrD) (ok : frameOk E = true) (e : putF E = l) : E = ⟨k, 0, [], cutOf l 1 12, 0, [], [], numAt l (1 + 12) 4, numAt l (1 + 16) 6, cutOf l (1 + 38) ((N : Int) - (1 + 38)), cutOf l (1 + 22) 16⟩ := by
  subst e
  have k1 : E.kind = k := by rw [← kind_num ok]; exact hk
  obtain ⟨len, g⟩ := backS E ok (by rw [k1]; exact n1) (by rw [k1]; exact n2) (by rw [k1]; exact n3)
  have k0 := (kind_at E ok).1
  generalize putF E = l at *
  rw [← g]
  unfold getS
  have q1 : cutOf l 1 12 = piece l 1 12 := cutOf_yes l 1 12 (by omega)
  have q2 : numAt l (1 + 12) 4 = val (piece l 13 4) := numAt_yes l 13 4 rfl (by omega)
  have q3 : numAt l (1 + 16) 6 = val (piece l 17 6) := numAt_yes l 17 6 rfl (by omega)
  have q4 : cutOf l (1 + 22) 16 = piece l 23 16 := cutOf_yes l 23 16 (by omega)
  have q5 : cutOf l (1 + 38) ((N : Int) - (1 + 38)) = l.drop 39 := by
    rw [show (N : Int) - (1 + 38) = ((N - 39 : Nat) : Int) by omega]
    exact cutOf_rest l 39 (N - 39) (by omega)
  rw [q1, q2, q3, q4, q5, k0, k1]
theorem cand0 {l : List Int} {v : Int} (hk : numAt l 0 1 = v) (h : v < 1 ∨ 8 < v) (E : FrD) (ok : frameOk E = true) (e : putF E = l) : False := by
  subst e
  have k1 : E.kind = v := by rw [← kind_num ok]; exact hk
  have := ok_kind E ok
  omega
end Go.Proofs.Ytfapehmbecgjaaa.FrR

namespace Go.Proofs.Ytfapehmbecgjaaa.FrGi
open Go.RowKit Go.Proofs.Ytfapehmbecgjaaa.Mem Go.Proofs.Ytfapehmbecgjaaa.App Go.Proofs.Ytfapehmbecgjaaa.Get Go.Proofs.Ytfapehmbecgjaaa.Cuts Go.Proofs.Ytfapehmbecgjaaa.Blk Go.Proofs.Ytfapehmbecgjaaa.Zone Go.Proofs.Ytfapehmbecgjaaa.Res Go.Proofs.Ytfapehmbecgjaaa.FrZ Go.Proofs.Ytfapehmbecgjaaa.FrP Go.Proofs.Ytfapehmbecgjaaa.FrB Go.Proofs.Ytfapehmbecgjaaa.FrG Go.Proofs.Ytfapehmbecgjaaa.FrRd Go.Proofs.Ytfapehmbecgjaaa.FrRf Go.Proofs.Ytfapehmbecgjaaa.FrGet Go.Proofs.Ytfapehmbecgjaaa.FrQ3 Go.Proofs.Ytfapehmbecgjaaa.FrO2 Go.Proofs.Ytfapehmbecgjaaa.FrE Go.Proofs.Ytfapehmbecgjaaa.FrQ

/-- Whatever right frame has these bytes is what was read. -/
theorem readAny (bb off N c : Nat) (l : List Int) (hn : N = l.length) (hb : Bytes l) (hc : N ≤ c) (hm : N ≤ 2000000) :
    ∃ D : FrD, (∀ E, frameOk E = true → putF E = l → E = D) ∧ ∀ x, Rd x (some ⟨bb, off, none⟩) l → Calls Try.prog 41 #[.slice (some ⟨bb, off, none⟩) N c] x (FrRf.Read x D) := by
  obtain ⟨v, hv⟩ : ∃ v, numAt l 0 1 = v := ⟨_, rfl⟩

  by_cases k1 : v = 1
  · subst k1
    exact ⟨_, FrR.cand1 hv, fun x hr => readFrame1 bb off N c l x hn hr hb hc hm hv⟩
  by_cases k2 : v = 2
  · subst k2
    exact ⟨_, FrR.cand2 hv, fun x hr => readFrame2 bb off N c l x hn hr hb hc hm hv⟩
  by_cases k3 : v = 3
  · subst k3
    exact ⟨_, FrR.cand3 hv, fun x hr => readFrame3 bb off N c l x hn hr hb hc hm hv⟩
  by_cases k4 : v = 4
  · subst k4
    exact ⟨_, FrR.candS hn hv (by omega) (by omega) (by omega), fun x hr => readFrame4 bb off N c l x hn hr hb hc hm hv⟩
  by_cases k5 : v = 5
  · subst k5
    exact ⟨_, FrR.candS hn hv (by omega) (by omega) (by omega), fun x hr => readFrame5 bb off N c l x hn hr hb hc hm hv⟩
  by_cases k6 : v = 6
  · subst k6
    exact ⟨_, FrR.candS hn hv (by omega) (by omega) (by omega), fun x hr => readFrame6 bb off N c l x hn hr hb hc hm hv⟩
  by_cases k7 : v = 7
  · subst k7
    exact ⟨_, FrR.candS hn hv (by omega) (by omega) (by omega), fun x hr => readFrame7 bb off N c l x hn hr hb hc hm hv⟩
  by_cases k8 : v = 8
  · subst k8
    exact ⟨_, FrR.candS hn hv (by omega) (by omega) (by omega), fun x hr => readFrame8 bb off N c l x hn hr hb hc hm hv⟩
  exact ⟨_, fun E ok e => (FrR.cand0 hv (by omega) E ok e).elim, fun x hr => readFrame0 bb off N c l v x hn hr hb hc hm hv (by simpa using k1) (by simpa using k2) (by simpa using k3) (by simpa using k4) (by simpa using k5) (by simpa using k6) (by simpa using k7) (by simpa using k8)⟩

set_option maxRecDepth 100000 in
set_option maxHeartbeats 8000000 in
theorem implGetFrame (s : Sl) (l : List Int) (w : World) (h : SRd w s l) (bb off : Nat) (ha : s.a = some ⟨bb, off, none⟩) (hm : l.length ≤ 2000000) :
    Calls Try.prog 16 #[.slice s.a s.n s.c] w (Gave w l) := by
  obtain ⟨a, N, c⟩ := s
  have ha' : a = some ⟨bb, off, none⟩ := ha
  subst ha'
  have HB : Hid (SRd w ⟨some ⟨bb, off, none⟩, N, c⟩ l) := h
  have HLen : Hid (N = l.length) := h.len
  obtain ⟨D, hcand, hread⟩ := readAny bb off N c l h.len h.bytes h.cap (by have := h.len; simp only at this; omega)
  have HC : Hid (∀ E, frameOk E = true → putF E = l → E = D) := hcand
  have HRead : Hid (∀ x, Rd x (some ⟨bb, off, none⟩) l → Calls Try.prog 41 #[.slice (some ⟨bb, off, none⟩) N c] x (FrRf.Read x D)) := hread
  obtain ⟨x0, hx0⟩ : ∃ x0, w.alloc (.cells #[.int .i64 0, .int .i64 0, .slice none 0 0, .slice none 0 0, .int .i64 0, .slice none 0 0, .slice none 0 0, .int .i64 0, .int .i64 0, .slice none 0 0, .slice none 0 0] 25) = x0 := ⟨_, rfl⟩
  have HW0 : Hid (w.alloc (.cells #[.int .i64 0, .int .i64 0, .slice none 0 0, .slice none 0 0, .int .i64 0, .slice none 0 0, .slice none 0 0, .int .i64 0, .int .i64 0, .slice none 0 0, .slice none 0 0] 25) = x0) := hx0
  have B0 : Hid (Below w.heap.size w x0) := by rw [← hx0]; exact (Below.refl _ _).alloc (Nat.le_refl _) _
  have KR0 : Hid (Blk x0 w.heap.size 25 [.int .i64 0, .int .i64 0, .slice none 0 0, .slice none 0 0, .int .i64 0, .slice none 0 0, .slice none 0 0, .int .i64 0, .int .i64 0, .slice none 0 0, .slice none 0 0]) := by rw [← hx0]; exact Blk.new w _ [.int .i64 0, .int .i64 0, .slice none 0 0, .slice none 0 0, .int .i64 0, .slice none 0 0, .slice none 0 0, .int .i64 0, .int .i64 0, .slice none 0 0, .slice none 0 0]
  clear hx0 h hcand hread ha
  show Calls Try.prog 16 #[.slice (some ⟨bb, off, none⟩) N c] w (Gave w l)
  go_enter Try.func16, Try.ntmps16
  go_wp2_with fail
  rw [HW0.out]
  obtain ⟨gr, hgr⟩ : ∃ gr, w.heap.size = gr := ⟨_, rfl⟩
  have HG0 : Hid (w.heap.size = gr) := hgr
  rw [hgr] at KR0
  rw [hgr]
  clear hgr HW0
  refine (HRead.out x0 (HB.out.later B0.out).rd).mono ?_
  rintro e y1 ⟨S, rfl, ow, b1⟩
  have OW : Hid (FrOwn y1 x0.heap.size y1.heap.size S D) := ow
  have BY : Hid (Below w.heap.size w y1) := B0.out.trans (b1.mono B0.out.size)
  have KRY : Hid (Blk y1 gr 25 [.int .i64 0, .int .i64 0, .slice none 0 0, .slice none 0 0, .int .i64 0, .slice none 0 0, .slice none 0 0, .int .i64 0, .int .i64 0, .slice none 0 0, .slice none 0 0]) := KR0.out.later b1
  have LR : Hid (gr < x0.heap.size) := KR0.out.lt
  clear ow b1 B0 KR0
  obtain ⟨x1, hx1⟩ : ∃ x1, y1.alloc (.cells #[.int .i64 D.kind, .int .i64 D.id, .slice S.cn.a S.cn.n S.cn.c, .slice S.sn.a S.sn.n S.sn.c, .int .i64 D.tick, .slice S.cookie.a S.cookie.n S.cookie.c, .slice S.proof.a S.proof.n S.proof.c, .int .i64 D.epoch, .int .i64 D.seq, .slice S.body.a S.body.n S.body.c, .slice S.tag.a S.tag.n S.tag.c] 25) = x1 := ⟨_, rfl⟩
  have HW1 : Hid (y1.alloc (.cells #[.int .i64 D.kind, .int .i64 D.id, .slice S.cn.a S.cn.n S.cn.c, .slice S.sn.a S.sn.n S.sn.c, .int .i64 D.tick, .slice S.cookie.a S.cookie.n S.cookie.c, .slice S.proof.a S.proof.n S.proof.c, .int .i64 D.epoch, .int .i64 D.seq, .slice S.body.a S.body.n S.body.c, .slice S.tag.a S.tag.n S.tag.c] 25) = x1) := hx1
  have KF1 : Hid (Blk x1 y1.heap.size 25 [.int .i64 D.kind, .int .i64 D.id, .slice S.cn.a S.cn.n S.cn.c, .slice S.sn.a S.sn.n S.sn.c, .int .i64 D.tick, .slice S.cookie.a S.cookie.n S.cookie.c, .slice S.proof.a S.proof.n S.proof.c, .int .i64 D.epoch, .int .i64 D.seq, .slice S.body.a S.body.n S.body.c, .slice S.tag.a S.tag.n S.tag.c]) := by rw [← hx1]; exact Blk.new y1 _ _
  have b1 : Below y1.heap.size y1 x1 := by rw [← hx1]; exact (Below.refl _ _).alloc (Nat.le_refl _) _
  have O1 : Hid (FrOwn x1 x0.heap.size x1.heap.size S D) := (OW.out.later b1).mono (Nat.le_refl _) b1.size
  have B1 : Hid (Below w.heap.size w x1) := BY.out.trans (b1.mono BY.out.size)
  have KR1 : Hid (Blk x1 gr 25 [.int .i64 0, .int .i64 0, .slice none 0 0, .slice none 0 0, .int .i64 0, .slice none 0 0, .slice none 0 0, .int .i64 0, .int .i64 0, .slice none 0 0, .slice none 0 0]) := KRY.out.later b1
  have LF : Hid (gr < y1.heap.size) := KRY.out.lt
  clear hx1 b1 OW BY KRY
  unfold frV
  go_wp2_with fail
  rw [HW1.out]
  obtain ⟨gf, hgf⟩ : ∃ gf, y1.heap.size = gf := ⟨_, rfl⟩
  rw [hgf] at KF1 LF ⊢
  have HG : Hid (w.heap.size = gr ∧ gr < gf ∧ gr < x0.heap.size) := ⟨HG0.out, LF.out, LR.out⟩
  clear HW1 hgf HG0 LF LR
  refine (implFrameOk S D x1 O1.out.rd).mono ?_
  cases hok : frameOk D with
  | false =>
    have HN : Hid (∀ E, frameOk E = true → putF E ≠ l) := fun E ok e => by have := HC.out E ok e; subst this; rw [hok] at ok; cases ok
    clear hok
    rintro e x2 ⟨rfl, b2⟩
    have KR2 : Hid (Blk x2 gr 25 [.int .i64 0, .int .i64 0, .slice none 0 0, .slice none 0 0, .int .i64 0, .slice none 0 0, .slice none 0 0, .int .i64 0, .int .i64 0, .slice none 0 0, .slice none 0 0]) := KR1.out.later b2
    have B2 : Hid (Below w.heap.size w x2) := B1.out.trans (b2.mono B1.out.size)
    clear b2
    have zc0 := KR2.out.cell 0 rfl
    have zf0 := KR2.out.frozen 0
    have zc1 := KR2.out.cell 1 rfl
    have zf1 := KR2.out.frozen 1
    have zc2 := KR2.out.cell 2 rfl
    have zf2 := KR2.out.frozen 2
    have zc3 := KR2.out.cell 3 rfl
    have zf3 := KR2.out.frozen 3
    have zc4 := KR2.out.cell 4 rfl
    have zf4 := KR2.out.frozen 4
    have zc5 := KR2.out.cell 5 rfl
    have zf5 := KR2.out.frozen 5
    have zc6 := KR2.out.cell 6 rfl
    have zf6 := KR2.out.frozen 6
    have zc7 := KR2.out.cell 7 rfl
    have zf7 := KR2.out.frozen 7
    have zc8 := KR2.out.cell 8 rfl
    have zf8 := KR2.out.frozen 8
    have zc9 := KR2.out.cell 9 rfl
    have zf9 := KR2.out.frozen 9
    have zc10 := KR2.out.cell 10 rfl
    have zf10 := KR2.out.frozen 10
    go_wp2
    have KF : Blk ((((((((((((x2).setCell ⟨gr, 0, none⟩ (.int .i64 0)).setCell ⟨gr, 1, none⟩ (.int .i64 0)).setCell ⟨gr, 2, none⟩ (.slice none 0 0)).setCell ⟨gr, 3, none⟩ (.slice none 0 0)).setCell ⟨gr, 4, none⟩ (.int .i64 0)).setCell ⟨gr, 5, none⟩ (.slice none 0 0)).setCell ⟨gr, 6, none⟩ (.slice none 0 0)).setCell ⟨gr, 7, none⟩ (.int .i64 0)).setCell ⟨gr, 8, none⟩ (.int .i64 0)).setCell ⟨gr, 9, none⟩ (.slice none 0 0)).setCell ⟨gr, 10, none⟩ (.slice none 0 0)) gr 25 [.int .i64 0, .int .i64 0, .slice none 0 0, .slice none 0 0, .int .i64 0, .slice none 0 0, .slice none 0 0, .int .i64 0, .int .i64 0, .slice none 0 0, .slice none 0 0] := (((((((((((KR2.out).set 0 _ (by simp [maxLen])).set 1 _ (by simp [maxLen])).set 2 _ (by simp [maxLen])).set 3 _ (by simp [maxLen])).set 4 _ (by simp [maxLen])).set 5 _ (by simp [maxLen])).set 6 _ (by simp [maxLen])).set 7 _ (by simp [maxLen])).set 8 _ (by simp [maxLen])).set 9 _ (by simp [maxLen])).set 10 _ (by simp [maxLen])
    exact ret_got rfl rfl rfl KF rfl (D := zeroF) (S := FrGet.SN) (.inr ⟨rfl, rfl, HN.out⟩) (own_nil _ _ _) ((((((((((((B2.out).setCell (by show _ ≤ gr; have := HG.out; omega) _).setCell (by show _ ≤ gr; have := HG.out; omega) _).setCell (by show _ ≤ gr; have := HG.out; omega) _).setCell (by show _ ≤ gr; have := HG.out; omega) _).setCell (by show _ ≤ gr; have := HG.out; omega) _).setCell (by show _ ≤ gr; have := HG.out; omega) _).setCell (by show _ ≤ gr; have := HG.out; omega) _).setCell (by show _ ≤ gr; have := HG.out; omega) _).setCell (by show _ ≤ gr; have := HG.out; omega) _).setCell (by show _ ≤ gr; have := HG.out; omega) _).setCell (by show _ ≤ gr; have := HG.out; omega) _)
  | true =>
    have HOK : Hid (frameOk D = true) := hok
    clear hok
    rintro e x2 ⟨rfl, b2⟩
    have KR2 : Hid (Blk x2 gr 25 [.int .i64 0, .int .i64 0, .slice none 0 0, .slice none 0 0, .int .i64 0, .slice none 0 0, .slice none 0 0, .int .i64 0, .int .i64 0, .slice none 0 0, .slice none 0 0]) := KR1.out.later b2
    have KF2 : Hid (Blk x2 gf 25 [.int .i64 D.kind, .int .i64 D.id, .slice S.cn.a S.cn.n S.cn.c, .slice S.sn.a S.sn.n S.sn.c, .int .i64 D.tick, .slice S.cookie.a S.cookie.n S.cookie.c, .slice S.proof.a S.proof.n S.proof.c, .int .i64 D.epoch, .int .i64 D.seq, .slice S.body.a S.body.n S.body.c, .slice S.tag.a S.tag.n S.tag.c]) := KF1.out.later b2
    have O2 : Hid (FrOwn x2 x0.heap.size x2.heap.size S D) := (O1.out.later b2).mono (Nat.le_refl _) b2.size
    have B2 : Hid (Below w.heap.size w x2) := B1.out.trans (b2.mono B1.out.size)
    clear b2 KR1 KF1 O1 B1
    have zd0 := KF2.out.cell 0 rfl
    have zd1 := KF2.out.cell 1 rfl
    have zd2 := KF2.out.cell 2 rfl
    have zd3 := KF2.out.cell 3 rfl
    have zd4 := KF2.out.cell 4 rfl
    have zd5 := KF2.out.cell 5 rfl
    have zd6 := KF2.out.cell 6 rfl
    have zd7 := KF2.out.cell 7 rfl
    have zd8 := KF2.out.cell 8 rfl
    have zd9 := KF2.out.cell 9 rfl
    have zd10 := KF2.out.cell 10 rfl
    go_wp2_with fail
    refine (implPutFrame S D x2 O2.out.rd).mono ?_
    rintro e x3 ⟨g3, m3, c3, rfl, em3, k3, r3, b3⟩
    have R3 : Hid (SRd x3 ⟨some ⟨g3, 0, none⟩, m3, c3⟩ (putF D)) := rowRd r3 em3 (FrB2.putF_bytes O2.out.rd)
    have KR3 : Hid (Blk x3 gr 25 [.int .i64 0, .int .i64 0, .slice none 0 0, .slice none 0 0, .int .i64 0, .slice none 0 0, .slice none 0 0, .int .i64 0, .int .i64 0, .slice none 0 0, .slice none 0 0]) := KR2.out.later b3
    have KF3 : Hid (Blk x3 gf 25 [.int .i64 D.kind, .int .i64 D.id, .slice S.cn.a S.cn.n S.cn.c, .slice S.sn.a S.sn.n S.sn.c, .int .i64 D.tick, .slice S.cookie.a S.cookie.n S.cookie.c, .slice S.proof.a S.proof.n S.proof.c, .int .i64 D.epoch, .int .i64 D.seq, .slice S.body.a S.body.n S.body.c, .slice S.tag.a S.tag.n S.tag.c]) := KF2.out.later b3
    have O3 : Hid (FrOwn x3 x0.heap.size x3.heap.size S D) := (O2.out.later b3).mono (Nat.le_refl _) b3.size
    have B3 : Hid (Below w.heap.size w x3) := B2.out.trans (b3.mono B2.out.size)
    clear em3 k3 r3 b3 KR2 KF2 O2 B2 zd0 zd1 zd2 zd3 zd4 zd5 zd6 zd7 zd8 zd9 zd10
    go_wp2_with fail
    refine (bytesEq ⟨some ⟨g3, 0, none⟩, m3, c3⟩ ⟨some ⟨bb, off, none⟩, N, c⟩ (putF D) l x3 R3.out (HB.out.later B3.out)).mono ?_
    by_cases hp : putF D = l
    · have HP : Hid (putF D = l) := hp
      rw [decide_eq_true hp]
      clear hp
      rintro e y ⟨rfl, rfl⟩
      have zc0 := KR3.out.cell 0 rfl
      have zf0 := KR3.out.frozen 0
      have zo0 := KF3.out.cell 0 rfl
      have zc1 := KR3.out.cell 1 rfl
      have zf1 := KR3.out.frozen 1
      have zo1 := KF3.out.cell 1 rfl
      have zc2 := KR3.out.cell 2 rfl
      have zf2 := KR3.out.frozen 2
      have zo2 := KF3.out.cell 2 rfl
      have zc3 := KR3.out.cell 3 rfl
      have zf3 := KR3.out.frozen 3
      have zo3 := KF3.out.cell 3 rfl
      have zc4 := KR3.out.cell 4 rfl
      have zf4 := KR3.out.frozen 4
      have zo4 := KF3.out.cell 4 rfl
      have zc5 := KR3.out.cell 5 rfl
      have zf5 := KR3.out.frozen 5
      have zo5 := KF3.out.cell 5 rfl
      have zc6 := KR3.out.cell 6 rfl
      have zf6 := KR3.out.frozen 6
      have zo6 := KF3.out.cell 6 rfl
      have zc7 := KR3.out.cell 7 rfl
      have zf7 := KR3.out.frozen 7
      have zo7 := KF3.out.cell 7 rfl
      have zc8 := KR3.out.cell 8 rfl
      have zf8 := KR3.out.frozen 8
      have zo8 := KF3.out.cell 8 rfl
      have zc9 := KR3.out.cell 9 rfl
      have zf9 := KR3.out.frozen 9
      have zo9 := KF3.out.cell 9 rfl
      have zc10 := KR3.out.cell 10 rfl
      have zf10 := KR3.out.frozen 10
      have zo10 := KF3.out.cell 10 rfl
      have ne1 : gr ≠ gf := by have := HG.out; omega
      have ne2 : gf ≠ gr := by have := HG.out; omega
      go_wp2
      have KF : Blk ((((((((((((x3).setCell ⟨gr, 0, none⟩ (.int .i64 D.kind)).setCell ⟨gr, 1, none⟩ (.int .i64 D.id)).setCell ⟨gr, 2, none⟩ (.slice S.cn.a S.cn.n S.cn.c)).setCell ⟨gr, 3, none⟩ (.slice S.sn.a S.sn.n S.sn.c)).setCell ⟨gr, 4, none⟩ (.int .i64 D.tick)).setCell ⟨gr, 5, none⟩ (.slice S.cookie.a S.cookie.n S.cookie.c)).setCell ⟨gr, 6, none⟩ (.slice S.proof.a S.proof.n S.proof.c)).setCell ⟨gr, 7, none⟩ (.int .i64 D.epoch)).setCell ⟨gr, 8, none⟩ (.int .i64 D.seq)).setCell ⟨gr, 9, none⟩ (.slice S.body.a S.body.n S.body.c)).setCell ⟨gr, 10, none⟩ (.slice S.tag.a S.tag.n S.tag.c)) gr 25 [.int .i64 D.kind, .int .i64 D.id, .slice S.cn.a S.cn.n S.cn.c, .slice S.sn.a S.sn.n S.sn.c, .int .i64 D.tick, .slice S.cookie.a S.cookie.n S.cookie.c, .slice S.proof.a S.proof.n S.proof.c, .int .i64 D.epoch, .int .i64 D.seq, .slice S.body.a S.body.n S.body.c, .slice S.tag.a S.tag.n S.tag.c] := (((((((((((KR3.out).set 0 _ (by simp [maxLen])).set 1 _ (by simp [maxLen])).set 2 _ (by simp [maxLen])).set 3 _ (by simp [maxLen])).set 4 _ (by simp [maxLen])).set 5 _ (by simp [maxLen])).set 6 _ (by simp [maxLen])).set 7 _ (by simp [maxLen])).set 8 _ (by simp [maxLen])).set 9 _ (by simp [maxLen])).set 10 _ (by simp [maxLen])
      have KK : Kept gr (gr + 1) x3 ((((((((((((x3).setCell ⟨gr, 0, none⟩ (.int .i64 D.kind)).setCell ⟨gr, 1, none⟩ (.int .i64 D.id)).setCell ⟨gr, 2, none⟩ (.slice S.cn.a S.cn.n S.cn.c)).setCell ⟨gr, 3, none⟩ (.slice S.sn.a S.sn.n S.sn.c)).setCell ⟨gr, 4, none⟩ (.int .i64 D.tick)).setCell ⟨gr, 5, none⟩ (.slice S.cookie.a S.cookie.n S.cookie.c)).setCell ⟨gr, 6, none⟩ (.slice S.proof.a S.proof.n S.proof.c)).setCell ⟨gr, 7, none⟩ (.int .i64 D.epoch)).setCell ⟨gr, 8, none⟩ (.int .i64 D.seq)).setCell ⟨gr, 9, none⟩ (.slice S.body.a S.body.n S.body.c)).setCell ⟨gr, 10, none⟩ (.slice S.tag.a S.tag.n S.tag.c)) := ((((((((((((Kept.refl gr (gr + 1) x3)).trans (Kept.setCell _ gr 0 _)).trans (Kept.setCell _ gr 1 _)).trans (Kept.setCell _ gr 2 _)).trans (Kept.setCell _ gr 3 _)).trans (Kept.setCell _ gr 4 _)).trans (Kept.setCell _ gr 5 _)).trans (Kept.setCell _ gr 6 _)).trans (Kept.setCell _ gr 7 _)).trans (Kept.setCell _ gr 8 _)).trans (Kept.setCell _ gr 9 _)).trans (Kept.setCell _ gr 10 _)
      exact ret_got rfl rfl rfl KF rfl (D := D) (S := S) (.inl ⟨rfl, HOK.out, HP.out⟩) ((O3.out.carry KK (.inr (by have := HG.out; omega))).mono (by have := HG.out; omega) KK.size) ((((((((((((B3.out).setCell (by show _ ≤ gr; have := HG.out; omega) _).setCell (by show _ ≤ gr; have := HG.out; omega) _).setCell (by show _ ≤ gr; have := HG.out; omega) _).setCell (by show _ ≤ gr; have := HG.out; omega) _).setCell (by show _ ≤ gr; have := HG.out; omega) _).setCell (by show _ ≤ gr; have := HG.out; omega) _).setCell (by show _ ≤ gr; have := HG.out; omega) _).setCell (by show _ ≤ gr; have := HG.out; omega) _).setCell (by show _ ≤ gr; have := HG.out; omega) _).setCell (by show _ ≤ gr; have := HG.out; omega) _).setCell (by show _ ≤ gr; have := HG.out; omega) _)
    · have HN : Hid (∀ E, frameOk E = true → putF E ≠ l) := fun E ok e => by have := HC.out E ok e; subst this; exact hp e
      rw [decide_eq_false hp]
      clear hp
      rintro e y ⟨rfl, rfl⟩
      have zc0 := KR3.out.cell 0 rfl
      have zf0 := KR3.out.frozen 0
      have zc1 := KR3.out.cell 1 rfl
      have zf1 := KR3.out.frozen 1
      have zc2 := KR3.out.cell 2 rfl
      have zf2 := KR3.out.frozen 2
      have zc3 := KR3.out.cell 3 rfl
      have zf3 := KR3.out.frozen 3
      have zc4 := KR3.out.cell 4 rfl
      have zf4 := KR3.out.frozen 4
      have zc5 := KR3.out.cell 5 rfl
      have zf5 := KR3.out.frozen 5
      have zc6 := KR3.out.cell 6 rfl
      have zf6 := KR3.out.frozen 6
      have zc7 := KR3.out.cell 7 rfl
      have zf7 := KR3.out.frozen 7
      have zc8 := KR3.out.cell 8 rfl
      have zf8 := KR3.out.frozen 8
      have zc9 := KR3.out.cell 9 rfl
      have zf9 := KR3.out.frozen 9
      have zc10 := KR3.out.cell 10 rfl
      have zf10 := KR3.out.frozen 10
      go_wp2
      have KF : Blk ((((((((((((x3).setCell ⟨gr, 0, none⟩ (.int .i64 0)).setCell ⟨gr, 1, none⟩ (.int .i64 0)).setCell ⟨gr, 2, none⟩ (.slice none 0 0)).setCell ⟨gr, 3, none⟩ (.slice none 0 0)).setCell ⟨gr, 4, none⟩ (.int .i64 0)).setCell ⟨gr, 5, none⟩ (.slice none 0 0)).setCell ⟨gr, 6, none⟩ (.slice none 0 0)).setCell ⟨gr, 7, none⟩ (.int .i64 0)).setCell ⟨gr, 8, none⟩ (.int .i64 0)).setCell ⟨gr, 9, none⟩ (.slice none 0 0)).setCell ⟨gr, 10, none⟩ (.slice none 0 0)) gr 25 [.int .i64 0, .int .i64 0, .slice none 0 0, .slice none 0 0, .int .i64 0, .slice none 0 0, .slice none 0 0, .int .i64 0, .int .i64 0, .slice none 0 0, .slice none 0 0] := (((((((((((KR3.out).set 0 _ (by simp [maxLen])).set 1 _ (by simp [maxLen])).set 2 _ (by simp [maxLen])).set 3 _ (by simp [maxLen])).set 4 _ (by simp [maxLen])).set 5 _ (by simp [maxLen])).set 6 _ (by simp [maxLen])).set 7 _ (by simp [maxLen])).set 8 _ (by simp [maxLen])).set 9 _ (by simp [maxLen])).set 10 _ (by simp [maxLen])
      exact ret_got rfl rfl rfl KF rfl (D := zeroF) (S := FrGet.SN) (.inr ⟨rfl, rfl, HN.out⟩) (own_nil _ _ _) ((((((((((((B3.out).setCell (by show _ ≤ gr; have := HG.out; omega) _).setCell (by show _ ≤ gr; have := HG.out; omega) _).setCell (by show _ ≤ gr; have := HG.out; omega) _).setCell (by show _ ≤ gr; have := HG.out; omega) _).setCell (by show _ ≤ gr; have := HG.out; omega) _).setCell (by show _ ≤ gr; have := HG.out; omega) _).setCell (by show _ ≤ gr; have := HG.out; omega) _).setCell (by show _ ≤ gr; have := HG.out; omega) _).setCell (by show _ ≤ gr; have := HG.out; omega) _).setCell (by show _ ≤ gr; have := HG.out; omega) _).setCell (by show _ ≤ gr; have := HG.out; omega) _)

end Go.Proofs.Ytfapehmbecgjaaa.FrGi
