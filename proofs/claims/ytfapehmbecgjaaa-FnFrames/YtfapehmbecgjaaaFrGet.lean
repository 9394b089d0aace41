/-
  What spec.GetFrame answers.
-/
import Derived.Test.YtfapehmbecgjaaaFrH
import Derived.Test.YtfapehmbecgjaaaFrM
import Derived.Test.YtfapehmbecgjaaaFrPut
import Derived.Test.YtfapehmbecgjaaaFrB2
import Derived.Test.YtfapehmbecgjaaaSame
import Derived.Test.YtfapehmbecgjaaaOps
import Derived.Test.YtfapehmbecgjaaaCuts
set_option linter.unusedVariables false
namespace Go.Proofs.Ytfapehmbecgjaaa.FrGet
open Go.RowKit Go.Proofs.Ytfapehmbecgjaaa.Mem Go.Proofs.Ytfapehmbecgjaaa.App Go.Proofs.Ytfapehmbecgjaaa.Get Go.Proofs.Ytfapehmbecgjaaa.Blk Go.Proofs.Ytfapehmbecgjaaa.Words Go.Proofs.Ytfapehmbecgjaaa.Zone Go.Proofs.Ytfapehmbecgjaaa.Res Go.Proofs.Ytfapehmbecgjaaa.FrZ Go.Proofs.Ytfapehmbecgjaaa.FrP Go.Proofs.Ytfapehmbecgjaaa.FrB Go.Proofs.Ytfapehmbecgjaaa.FrB2 Go.Proofs.Ytfapehmbecgjaaa.FrG Go.Proofs.Ytfapehmbecgjaaa.FrH Go.Proofs.Ytfapehmbecgjaaa.FrM Go.Proofs.Ytfapehmbecgjaaa.FrPut Go.Proofs.Ytfapehmbecgjaaa.Each Go.Proofs.Ytfapehmbecgjaaa.Copy Go.Proofs.Ytfapehmbecgjaaa.Ops Go.Proofs.Ytfapehmbecgjaaa.Same Go.Proofs.Ytfapehmbecgjaaa.Cuts

/-- y stands in l from i on. -/
theorem rdPiece {w : World} {b off : Nat} {l : List Int} (h : Rd w (some ⟨b, off, none⟩) l) (i : Nat) (y : List Int) (hy : ∀ j, j < y.length → i + j < l.length ∧ y.getD j 0 = l.getD (i + j) 0) : Rd w (some ⟨b, off + i, none⟩) y := by
  intro j hj
  obtain ⟨h1, h2⟩ := hy j hj
  obtain ⟨b', off', e, h3, h4⟩ := h (i + j) h1
  simp only [Option.some.injEq, Addr.mk.injEq, and_true] at e
  obtain ⟨rfl, rfl⟩ := e
  exact ⟨b, off + i, rfl, h3, by rw [h2, Nat.add_assoc]; exact h4⟩
theorem piece_sub (l : List Int) (i k : Nat) : ∀ j, j < (piece l i k).length → i + j < l.length ∧ (piece l i k).getD j 0 = l.getD (i + j) 0 := by
  intro j hj
  have hj' : j < min k (l.length - i) := by simpa [piece] using hj
  exact ⟨by omega, by simp [piece, List.getD, show j < k by omega]⟩
theorem drop_sub (l : List Int) (i : Nat) : ∀ j, j < (l.drop i).length → i + j < l.length ∧ (l.drop i).getD j 0 = l.getD (i + j) 0 := by
  intro j hj
  rw [List.length_drop] at hj
  exact ⟨by omega, by simp [List.getD]⟩
theorem bytes_piece {l : List Int} (h : Bytes l) (i k : Nat) : Bytes (piece l i k) := fun z hz => h z (List.mem_of_mem_drop (List.mem_of_mem_take hz))
theorem bytes_drop {l : List Int} (h : Bytes l) (i : Nat) : Bytes (l.drop i) := fun z hz => h z (List.mem_of_mem_drop hz)
def SN : FrS := ⟨⟨none, 0, 0⟩, ⟨none, 0, 0⟩, ⟨none, 0, 0⟩, ⟨none, 0, 0⟩, ⟨none, 0, 0⟩, ⟨none, 0, 0⟩⟩
theorem own_nil (w : World) (lo hi : Nat) : FrOwn w lo hi SN zeroF := ⟨SOwn.nil _ _ _, SOwn.nil _ _ _, SOwn.nil _ _ _, SOwn.nil _ _ _, SOwn.nil _ _ _, SOwn.nil _ _ _, ⟨.inl rfl, .inl rfl, .inl rfl, .inl rfl, .inl rfl, .inl rfl, .inl rfl, .inl rfl, .inl rfl, .inl rfl, .inl rfl, .inl rfl, .inl rfl, .inl rfl, .inl rfl⟩⟩
/-- What is handed back: what was read, in memory of its own. -/
def Gave (w : World) (l : List Int) : Ending → World → Prop := fun e w' => ∃ D S ok, e = .returned (.tuple #[frV D S, .bool ok]) ∧ IsGot l D ok ∧ FrOwn w' w.heap.size w'.heap.size S D ∧ Below w.heap.size w w'
theorem ret_got {fn : Func} {p q : Tmp} {a : Act} {w w' : World} {g : Nat} {l : List Int} {D : FrD} {S : FrS} {ok : Bool} (hf : fn.results = #[.cell p 25, .tmp q]) (hp : a.tmps.getD p undef = .pointer (some ⟨g, 0, none⟩)) (hq : a.tmps.getD q undef = .bool ok)
    (hg : Blk w' g 25 [.int .i64 D.kind, .int .i64 D.id, .slice S.cn.a S.cn.n S.cn.c, .slice S.sn.a S.sn.n S.sn.c, .int .i64 D.tick, .slice S.cookie.a S.cookie.n S.cookie.c, .slice S.proof.a S.proof.n S.proof.c, .int .i64 D.epoch, .int .i64 D.seq, .slice S.body.a S.body.n S.body.c, .slice S.tag.a S.tag.n S.tag.c]) (hd : a.defers = []) (h1 : IsGot l D ok) (h2 : FrOwn w' w.heap.size w'.heap.size S D) (h3 : Below w.heap.size w w') : bodyPost Try.prog fn (Gave w l) .ret a w' :=
  bodyPost_ret (v := .tuple #[frV D S, .bool ok]) (res2 hf (is_cell hp hg aggFr) (is_tmp hq)) hd ⟨D, S, ok, rfl, h1, h2, h3⟩
theorem gotN_yes (l : List Int) (i k : Nat) (j : Int) (hj : j = i + k) (hk : isSize k = true) (h : i + k ≤ l.length) : gotN l i k = .tuple #[.int .i64 (val (piece l i k)), .int .i64 j, .bool true] := by
  unfold gotN
  rw [if_pos ⟨hk, there_yes ⟨by omega, by omega, by omega⟩⟩, Int.toNat_natCast, Int.toNat_natCast, hj]

theorem strs_ne {x y : List Int} (hx : Bytes x) (hy : Bytes y) : (!((strOfNums x).toList == (strOfNums y).toList)) = decide (x ≠ y) := by
  rw [Lib.strOfNums_toList, Lib.strOfNums_toList]
  by_cases e : x = y
  · subst e; simp
  · have : ¬ Lib.bytesOf x = Lib.bytesOf y := fun h => e (nums_inj hx hy (by unfold strOfNums; rw [show (x.map fun n => UInt8.ofNat n.toNat) = (y.map fun n => UInt8.ofNat n.toNat) from h]))
    simp [e, this]

set_option maxRecDepth 100000 in
set_option maxHeartbeats 8000000 in
theorem get_nil (bb off N c : Nat) (l : List Int) (w : World) (hn : N = l.length) (hr : Rd w (some ⟨bb, off, none⟩) l) (hb : Bytes l) (hc : N ≤ c) (hm : N ≤ 4194304) (h0 : N = 0) :
    Calls Try.prog 19 #[.slice (some ⟨bb, off, none⟩) N c] w (Gave w l) := by
  have HRd : Hid (Rd w (some ⟨bb, off, none⟩) l) := hr
  have HBy : Hid (Bytes l) := hb
  have HLen : Hid (N = l.length) := hn
  obtain ⟨x0, hx0⟩ : ∃ x0, (w.alloc (.cells #[.int .i64 0, .int .i64 0, .slice none 0 0, .slice none 0 0, .int .i64 0, .slice none 0 0, .slice none 0 0, .int .i64 0, .int .i64 0, .slice none 0 0, .slice none 0 0] 25)).alloc (.cells #[.int .i64 0, .int .i64 0, .slice none 0 0, .slice none 0 0, .int .i64 0, .slice none 0 0, .slice none 0 0, .int .i64 0, .int .i64 0, .slice none 0 0, .slice none 0 0] 25) = x0 := ⟨_, rfl⟩
  have HW0 : Hid ((w.alloc (.cells #[.int .i64 0, .int .i64 0, .slice none 0 0, .slice none 0 0, .int .i64 0, .slice none 0 0, .slice none 0 0, .int .i64 0, .int .i64 0, .slice none 0 0, .slice none 0 0] 25)).alloc (.cells #[.int .i64 0, .int .i64 0, .slice none 0 0, .slice none 0 0, .int .i64 0, .slice none 0 0, .slice none 0 0, .int .i64 0, .int .i64 0, .slice none 0 0, .slice none 0 0] 25) = x0) := hx0
  have B0 : Hid (Below w.heap.size w x0) := by rw [← hx0]; exact ((Below.refl _ _).alloc (Nat.le_refl _) _).alloc (by simp) _
  have KR0 : Hid (Blk x0 w.heap.size 25 [.int .i64 0, .int .i64 0, .slice none 0 0, .slice none 0 0, .int .i64 0, .slice none 0 0, .slice none 0 0, .int .i64 0, .int .i64 0, .slice none 0 0, .slice none 0 0]) := by rw [← hx0]; exact (Blk.new w _ [.int .i64 0, .int .i64 0, .slice none 0 0, .slice none 0 0, .int .i64 0, .slice none 0 0, .slice none 0 0, .int .i64 0, .int .i64 0, .slice none 0 0, .slice none 0 0]).alloc _
  have KF0 : Blk x0 (w.heap.size + 1) 25 [.int .i64 0, .int .i64 0, .slice none 0 0, .slice none 0 0, .int .i64 0, .slice none 0 0, .slice none 0 0, .int .i64 0, .int .i64 0, .slice none 0 0, .slice none 0 0] := by
    have := Blk.new (w.alloc (.cells #[.int .i64 0, .int .i64 0, .slice none 0 0, .slice none 0 0, .int .i64 0, .slice none 0 0, .slice none 0 0, .int .i64 0, .int .i64 0, .slice none 0 0, .slice none 0 0] 25)) 25 [.int .i64 0, .int .i64 0, .slice none 0 0, .slice none 0 0, .int .i64 0, .slice none 0 0, .slice none 0 0, .int .i64 0, .int .i64 0, .slice none 0 0, .slice none 0 0]
    rw [World.size_alloc] at this
    rw [← hx0]; exact this
  have M0 : Hid (FrMk x0 (w.heap.size + 1) (w.heap.size + 1 + 1) ⟨0, 0, [], [], 0, [], [], 0, 0, [], []⟩ ⟨⟨none, 0, 0⟩, ⟨none, 0, 0⟩, ⟨none, 0, 0⟩, ⟨none, 0, 0⟩, ⟨none, 0, 0⟩, ⟨none, 0, 0⟩⟩) := ⟨KF0, own_nil _ _ _, Nat.lt_succ_self _⟩
  clear hx0 hr hb KF0 hn
  subst h0
  go_enter Try.func19, Try.ntmps19
  go_upto_region 3 with fail
  rw [HW0.out]
  obtain ⟨gr, hgr⟩ : ∃ gr, w.heap.size = gr := ⟨_, rfl⟩
  obtain ⟨gf, hgf⟩ : ∃ gf, w.heap.size + 1 = gf := ⟨_, rfl⟩
  have HG : Hid (w.heap.size = gr ∧ gf = gr + 1) := ⟨hgr, by omega⟩
  rw [hgf] at M0 ⊢
  rw [hgr] at KR0
  rw [hgr]
  clear hgr hgf HW0
  have c0 := KR0.out.cell 0 rfl
  have f0 := KR0.out.frozen 0
  have o0 : x0.cell? ⟨gf, 0, none⟩ = some (.int .i64 0) := M0.out.blk.cell 0 rfl
  have c1 := KR0.out.cell 1 rfl
  have f1 := KR0.out.frozen 1
  have o1 : x0.cell? ⟨gf, 1, none⟩ = some (.int .i64 0) := M0.out.blk.cell 1 rfl
  have c2 := KR0.out.cell 2 rfl
  have f2 := KR0.out.frozen 2
  have o2 : x0.cell? ⟨gf, 2, none⟩ = some (.slice none 0 0) := M0.out.blk.cell 2 rfl
  have c3 := KR0.out.cell 3 rfl
  have f3 := KR0.out.frozen 3
  have o3 : x0.cell? ⟨gf, 3, none⟩ = some (.slice none 0 0) := M0.out.blk.cell 3 rfl
  have c4 := KR0.out.cell 4 rfl
  have f4 := KR0.out.frozen 4
  have o4 : x0.cell? ⟨gf, 4, none⟩ = some (.int .i64 0) := M0.out.blk.cell 4 rfl
  have c5 := KR0.out.cell 5 rfl
  have f5 := KR0.out.frozen 5
  have o5 : x0.cell? ⟨gf, 5, none⟩ = some (.slice none 0 0) := M0.out.blk.cell 5 rfl
  have c6 := KR0.out.cell 6 rfl
  have f6 := KR0.out.frozen 6
  have o6 : x0.cell? ⟨gf, 6, none⟩ = some (.slice none 0 0) := M0.out.blk.cell 6 rfl
  have c7 := KR0.out.cell 7 rfl
  have f7 := KR0.out.frozen 7
  have o7 : x0.cell? ⟨gf, 7, none⟩ = some (.int .i64 0) := M0.out.blk.cell 7 rfl
  have c8 := KR0.out.cell 8 rfl
  have f8 := KR0.out.frozen 8
  have o8 : x0.cell? ⟨gf, 8, none⟩ = some (.int .i64 0) := M0.out.blk.cell 8 rfl
  have c9 := KR0.out.cell 9 rfl
  have f9 := KR0.out.frozen 9
  have o9 : x0.cell? ⟨gf, 9, none⟩ = some (.slice none 0 0) := M0.out.blk.cell 9 rfl
  have c10 := KR0.out.cell 10 rfl
  have f10 := KR0.out.frozen 10
  have o10 : x0.cell? ⟨gf, 10, none⟩ = some (.slice none 0 0) := M0.out.blk.cell 10 rfl
  have ne1 : gr ≠ gf := by have := HG.out; omega
  have ne2 : gf ≠ gr := by have := HG.out; omega
  have hl : Hid (l = []) := List.eq_nil_of_length_eq_zero HLen.out.symm
  go_wp2
  have KF : Blk ((((((((((((x0).setCell ⟨gr, 0, none⟩ (.int .i64 0)).setCell ⟨gr, 1, none⟩ (.int .i64 0)).setCell ⟨gr, 2, none⟩ (.slice none 0 0)).setCell ⟨gr, 3, none⟩ (.slice none 0 0)).setCell ⟨gr, 4, none⟩ (.int .i64 0)).setCell ⟨gr, 5, none⟩ (.slice none 0 0)).setCell ⟨gr, 6, none⟩ (.slice none 0 0)).setCell ⟨gr, 7, none⟩ (.int .i64 0)).setCell ⟨gr, 8, none⟩ (.int .i64 0)).setCell ⟨gr, 9, none⟩ (.slice none 0 0)).setCell ⟨gr, 10, none⟩ (.slice none 0 0)) gr 25 [.int .i64 0, .int .i64 0, .slice none 0 0, .slice none 0 0, .int .i64 0, .slice none 0 0, .slice none 0 0, .int .i64 0, .int .i64 0, .slice none 0 0, .slice none 0 0] := (((((((((((KR0.out).set 0 _ (by simp [maxLen])).set 1 _ (by simp [maxLen])).set 2 _ (by simp [maxLen])).set 3 _ (by simp [maxLen])).set 4 _ (by simp [maxLen])).set 5 _ (by simp [maxLen])).set 6 _ (by simp [maxLen])).set 7 _ (by simp [maxLen])).set 8 _ (by simp [maxLen])).set 9 _ (by simp [maxLen])).set 10 _ (by simp [maxLen])
  exact ret_got rfl rfl rfl KF rfl (D := zeroF) (S := SN) (by rw [hl.out]; exact got_nil) (own_nil _ _ _) ((((((((((((B0.out).setCell (by show _ ≤ gr; have := HG.out; omega) _).setCell (by show _ ≤ gr; have := HG.out; omega) _).setCell (by show _ ≤ gr; have := HG.out; omega) _).setCell (by show _ ≤ gr; have := HG.out; omega) _).setCell (by show _ ≤ gr; have := HG.out; omega) _).setCell (by show _ ≤ gr; have := HG.out; omega) _).setCell (by show _ ≤ gr; have := HG.out; omega) _).setCell (by show _ ≤ gr; have := HG.out; omega) _).setCell (by show _ ≤ gr; have := HG.out; omega) _).setCell (by show _ ≤ gr; have := HG.out; omega) _).setCell (by show _ ≤ gr; have := HG.out; omega) _)

set_option maxRecDepth 100000 in
set_option maxHeartbeats 8000000 in
theorem get1_no (bb off N c : Nat) (l : List Int) (w : World) (hn : N = l.length) (hr : Rd w (some ⟨bb, off, none⟩) l) (hb : Bytes l) (hc : N ≤ c) (hm : N ≤ 4194304) (k1 : (l.getD 0 0 == 1) = true) (hl : ¬ N = 34) (h0 : ¬ N = 0) :
    Calls Try.prog 19 #[.slice (some ⟨bb, off, none⟩) N c] w (Gave w l) := by
  have HRd : Hid (Rd w (some ⟨bb, off, none⟩) l) := hr
  have HBy : Hid (Bytes l) := hb
  have HLen : Hid (N = l.length) := hn
  obtain ⟨x0, hx0⟩ : ∃ x0, (w.alloc (.cells #[.int .i64 0, .int .i64 0, .slice none 0 0, .slice none 0 0, .int .i64 0, .slice none 0 0, .slice none 0 0, .int .i64 0, .int .i64 0, .slice none 0 0, .slice none 0 0] 25)).alloc (.cells #[.int .i64 0, .int .i64 0, .slice none 0 0, .slice none 0 0, .int .i64 0, .slice none 0 0, .slice none 0 0, .int .i64 0, .int .i64 0, .slice none 0 0, .slice none 0 0] 25) = x0 := ⟨_, rfl⟩
  have HW0 : Hid ((w.alloc (.cells #[.int .i64 0, .int .i64 0, .slice none 0 0, .slice none 0 0, .int .i64 0, .slice none 0 0, .slice none 0 0, .int .i64 0, .int .i64 0, .slice none 0 0, .slice none 0 0] 25)).alloc (.cells #[.int .i64 0, .int .i64 0, .slice none 0 0, .slice none 0 0, .int .i64 0, .slice none 0 0, .slice none 0 0, .int .i64 0, .int .i64 0, .slice none 0 0, .slice none 0 0] 25) = x0) := hx0
  have B0 : Hid (Below w.heap.size w x0) := by rw [← hx0]; exact ((Below.refl _ _).alloc (Nat.le_refl _) _).alloc (by simp) _
  have KR0 : Hid (Blk x0 w.heap.size 25 [.int .i64 0, .int .i64 0, .slice none 0 0, .slice none 0 0, .int .i64 0, .slice none 0 0, .slice none 0 0, .int .i64 0, .int .i64 0, .slice none 0 0, .slice none 0 0]) := by rw [← hx0]; exact (Blk.new w _ [.int .i64 0, .int .i64 0, .slice none 0 0, .slice none 0 0, .int .i64 0, .slice none 0 0, .slice none 0 0, .int .i64 0, .int .i64 0, .slice none 0 0, .slice none 0 0]).alloc _
  have KF0 : Blk x0 (w.heap.size + 1) 25 [.int .i64 0, .int .i64 0, .slice none 0 0, .slice none 0 0, .int .i64 0, .slice none 0 0, .slice none 0 0, .int .i64 0, .int .i64 0, .slice none 0 0, .slice none 0 0] := by
    have := Blk.new (w.alloc (.cells #[.int .i64 0, .int .i64 0, .slice none 0 0, .slice none 0 0, .int .i64 0, .slice none 0 0, .slice none 0 0, .int .i64 0, .int .i64 0, .slice none 0 0, .slice none 0 0] 25)) 25 [.int .i64 0, .int .i64 0, .slice none 0 0, .slice none 0 0, .int .i64 0, .slice none 0 0, .slice none 0 0, .int .i64 0, .int .i64 0, .slice none 0 0, .slice none 0 0]
    rw [World.size_alloc] at this
    rw [← hx0]; exact this
  have M0 : Hid (FrMk x0 (w.heap.size + 1) (w.heap.size + 1 + 1) ⟨0, 0, [], [], 0, [], [], 0, 0, [], []⟩ ⟨⟨none, 0, 0⟩, ⟨none, 0, 0⟩, ⟨none, 0, 0⟩, ⟨none, 0, 0⟩, ⟨none, 0, 0⟩, ⟨none, 0, 0⟩⟩) := ⟨KF0, own_nil _ _ _, Nat.lt_succ_self _⟩
  clear hx0 hr hb KF0 hn
  have hlI : ((N : Int) != 34) = true := by simp; omega
  obtain ⟨z0, hz0⟩ : ∃ z0, l.getD 0 0 = z0 := ⟨_, rfl⟩
  have HZ0 : Hid (l.getD 0 0 = z0) := hz0
  rw [hz0] at k1
  have hb0 := HBy.out.at 0
  rw [hz0] at hb0
  have hwz : IntKind.i64.wrap z0 = z0 := by rw [IntKind.wrap_i64]; omega
  have hcb : x0.cell? ⟨bb, off, none⟩ = some (.int .u8 z0) := by
    obtain ⟨b', off', e, h3, h4⟩ := HRd.out 0 (by have := HLen.out; omega)
    simp only [Option.some.injEq, Addr.mk.injEq, and_true] at e
    obtain ⟨rfl, rfl⟩ := e
    rw [Nat.add_zero, hz0] at h4
    rw [B0.out.cell h3]; exact h4
  clear hz0 hb0
  have hNI : ¬ ((N : Int) = 0) := by omega
  have hN1 : (0 : Int) < (N : Int) := by omega
  go_enter Try.func19, Try.ntmps19
  go_upto_region 4 with fail
  rw [HW0.out]
  obtain ⟨gr, hgr⟩ : ∃ gr, w.heap.size = gr := ⟨_, rfl⟩
  obtain ⟨gf, hgf⟩ : ∃ gf, w.heap.size + 1 = gf := ⟨_, rfl⟩
  have HG : Hid (w.heap.size = gr ∧ gf = gr + 1) := ⟨hgr, by omega⟩
  rw [hgf] at M0 ⊢
  rw [hgr] at KR0
  rw [hgr]
  clear hgr hgf HW0
  have co : x0.cell? ⟨gf, 0, none⟩ = some (.int .i64 0) := M0.out.blk.cell 0 rfl
  have fo := M0.out.blk.frozen 0
  obtain ⟨x1, hx1⟩ : ∃ x1, x0.setCell ⟨gf, 0, none⟩ (.int .i64 (z0)) = x1 := ⟨_, rfl⟩
  have HW1 : Hid (x0.setCell ⟨gf, 0, none⟩ (.int .i64 (z0)) = x1) := hx1
  have M1 : Hid (FrMk x1 gf (gf + 1) ⟨(z0), 0, [], [], 0, [], [], 0, 0, [], []⟩ ⟨⟨none, 0, 0⟩, ⟨none, 0, 0⟩, ⟨none, 0, 0⟩, ⟨none, 0, 0⟩, ⟨none, 0, 0⟩, ⟨none, 0, 0⟩⟩) := by rw [← hx1]; exact M0.out.kind _
  have KR1 : Hid (Blk x1 gr 25 [.int .i64 0, .int .i64 0, .slice none 0 0, .slice none 0 0, .int .i64 0, .slice none 0 0, .slice none 0 0, .int .i64 0, .int .i64 0, .slice none 0 0, .slice none 0 0]) := by rw [← hx1]; exact KR0.out.other (by show gr ≠ gf; have := HG.out; omega) _
  have B1 : Hid (Below w.heap.size w x1) := by rw [← hx1]; exact B0.out.setCell (by show _ ≤ gf; have := HG.out; omega) _
  clear hx1
  go_upto_region 5 with fail
  rw [HW1.out]
  clear co fo HW1 M0 KR0 B0
  have kc : x1.cell? ⟨gf, 0, none⟩ = some (.int .i64 z0) := M1.out.blk.cell 0 rfl
  have c0 := KR1.out.cell 0 rfl
  have f0 := KR1.out.frozen 0
  have c1 := KR1.out.cell 1 rfl
  have f1 := KR1.out.frozen 1
  have c2 := KR1.out.cell 2 rfl
  have f2 := KR1.out.frozen 2
  have c3 := KR1.out.cell 3 rfl
  have f3 := KR1.out.frozen 3
  have c4 := KR1.out.cell 4 rfl
  have f4 := KR1.out.frozen 4
  have c5 := KR1.out.cell 5 rfl
  have f5 := KR1.out.frozen 5
  have c6 := KR1.out.cell 6 rfl
  have f6 := KR1.out.frozen 6
  have c7 := KR1.out.cell 7 rfl
  have f7 := KR1.out.frozen 7
  have c8 := KR1.out.cell 8 rfl
  have f8 := KR1.out.frozen 8
  have c9 := KR1.out.cell 9 rfl
  have f9 := KR1.out.frozen 9
  have c10 := KR1.out.cell 10 rfl
  have f10 := KR1.out.frozen 10
  go_wp2
  have KF : Blk ((((((((((((x1).setCell ⟨gr, 0, none⟩ (.int .i64 0)).setCell ⟨gr, 1, none⟩ (.int .i64 0)).setCell ⟨gr, 2, none⟩ (.slice none 0 0)).setCell ⟨gr, 3, none⟩ (.slice none 0 0)).setCell ⟨gr, 4, none⟩ (.int .i64 0)).setCell ⟨gr, 5, none⟩ (.slice none 0 0)).setCell ⟨gr, 6, none⟩ (.slice none 0 0)).setCell ⟨gr, 7, none⟩ (.int .i64 0)).setCell ⟨gr, 8, none⟩ (.int .i64 0)).setCell ⟨gr, 9, none⟩ (.slice none 0 0)).setCell ⟨gr, 10, none⟩ (.slice none 0 0)) gr 25 [.int .i64 0, .int .i64 0, .slice none 0 0, .slice none 0 0, .int .i64 0, .slice none 0 0, .slice none 0 0, .int .i64 0, .int .i64 0, .slice none 0 0, .slice none 0 0] := (((((((((((KR1.out).set 0 _ (by simp [maxLen])).set 1 _ (by simp [maxLen])).set 2 _ (by simp [maxLen])).set 3 _ (by simp [maxLen])).set 4 _ (by simp [maxLen])).set 5 _ (by simp [maxLen])).set 6 _ (by simp [maxLen])).set 7 _ (by simp [maxLen])).set 8 _ (by simp [maxLen])).set 9 _ (by simp [maxLen])).set 10 _ (by simp [maxLen])
  exact ret_got rfl rfl rfl KF rfl (D := zeroF) (S := SN) (got_len1 (by rw [HZ0.out]; exact eq_of_beq k1) (by have := HLen.out; omega)) (own_nil _ _ _) ((((((((((((B1.out).setCell (by show _ ≤ gr; have := HG.out; omega) _).setCell (by show _ ≤ gr; have := HG.out; omega) _).setCell (by show _ ≤ gr; have := HG.out; omega) _).setCell (by show _ ≤ gr; have := HG.out; omega) _).setCell (by show _ ≤ gr; have := HG.out; omega) _).setCell (by show _ ≤ gr; have := HG.out; omega) _).setCell (by show _ ≤ gr; have := HG.out; omega) _).setCell (by show _ ≤ gr; have := HG.out; omega) _).setCell (by show _ ≤ gr; have := HG.out; omega) _).setCell (by show _ ≤ gr; have := HG.out; omega) _).setCell (by show _ ≤ gr; have := HG.out; omega) _)

set_option maxRecDepth 100000 in
set_option maxHeartbeats 8000000 in
theorem get2_no (bb off N c : Nat) (l : List Int) (w : World) (hn : N = l.length) (hr : Rd w (some ⟨bb, off, none⟩) l) (hb : Bytes l) (hc : N ≤ c) (hm : N ≤ 4194304) (k1 : (l.getD 0 0 == 1) = false) (k2 : (l.getD 0 0 == 2) = true) (hl : ¬ N = 45) (h0 : ¬ N = 0) :
    Calls Try.prog 19 #[.slice (some ⟨bb, off, none⟩) N c] w (Gave w l) := by
  have HRd : Hid (Rd w (some ⟨bb, off, none⟩) l) := hr
  have HBy : Hid (Bytes l) := hb
  have HLen : Hid (N = l.length) := hn
  obtain ⟨x0, hx0⟩ : ∃ x0, (w.alloc (.cells #[.int .i64 0, .int .i64 0, .slice none 0 0, .slice none 0 0, .int .i64 0, .slice none 0 0, .slice none 0 0, .int .i64 0, .int .i64 0, .slice none 0 0, .slice none 0 0] 25)).alloc (.cells #[.int .i64 0, .int .i64 0, .slice none 0 0, .slice none 0 0, .int .i64 0, .slice none 0 0, .slice none 0 0, .int .i64 0, .int .i64 0, .slice none 0 0, .slice none 0 0] 25) = x0 := ⟨_, rfl⟩
  have HW0 : Hid ((w.alloc (.cells #[.int .i64 0, .int .i64 0, .slice none 0 0, .slice none 0 0, .int .i64 0, .slice none 0 0, .slice none 0 0, .int .i64 0, .int .i64 0, .slice none 0 0, .slice none 0 0] 25)).alloc (.cells #[.int .i64 0, .int .i64 0, .slice none 0 0, .slice none 0 0, .int .i64 0, .slice none 0 0, .slice none 0 0, .int .i64 0, .int .i64 0, .slice none 0 0, .slice none 0 0] 25) = x0) := hx0
  have B0 : Hid (Below w.heap.size w x0) := by rw [← hx0]; exact ((Below.refl _ _).alloc (Nat.le_refl _) _).alloc (by simp) _
  have KR0 : Hid (Blk x0 w.heap.size 25 [.int .i64 0, .int .i64 0, .slice none 0 0, .slice none 0 0, .int .i64 0, .slice none 0 0, .slice none 0 0, .int .i64 0, .int .i64 0, .slice none 0 0, .slice none 0 0]) := by rw [← hx0]; exact (Blk.new w _ [.int .i64 0, .int .i64 0, .slice none 0 0, .slice none 0 0, .int .i64 0, .slice none 0 0, .slice none 0 0, .int .i64 0, .int .i64 0, .slice none 0 0, .slice none 0 0]).alloc _
  have KF0 : Blk x0 (w.heap.size + 1) 25 [.int .i64 0, .int .i64 0, .slice none 0 0, .slice none 0 0, .int .i64 0, .slice none 0 0, .slice none 0 0, .int .i64 0, .int .i64 0, .slice none 0 0, .slice none 0 0] := by
    have := Blk.new (w.alloc (.cells #[.int .i64 0, .int .i64 0, .slice none 0 0, .slice none 0 0, .int .i64 0, .slice none 0 0, .slice none 0 0, .int .i64 0, .int .i64 0, .slice none 0 0, .slice none 0 0] 25)) 25 [.int .i64 0, .int .i64 0, .slice none 0 0, .slice none 0 0, .int .i64 0, .slice none 0 0, .slice none 0 0, .int .i64 0, .int .i64 0, .slice none 0 0, .slice none 0 0]
    rw [World.size_alloc] at this
    rw [← hx0]; exact this
  have M0 : Hid (FrMk x0 (w.heap.size + 1) (w.heap.size + 1 + 1) ⟨0, 0, [], [], 0, [], [], 0, 0, [], []⟩ ⟨⟨none, 0, 0⟩, ⟨none, 0, 0⟩, ⟨none, 0, 0⟩, ⟨none, 0, 0⟩, ⟨none, 0, 0⟩, ⟨none, 0, 0⟩⟩) := ⟨KF0, own_nil _ _ _, Nat.lt_succ_self _⟩
  clear hx0 hr hb KF0 hn
  have hlI : ((N : Int) != 45) = true := by simp; omega
  obtain ⟨z0, hz0⟩ : ∃ z0, l.getD 0 0 = z0 := ⟨_, rfl⟩
  have HZ0 : Hid (l.getD 0 0 = z0) := hz0
  rw [hz0] at k1 k2
  have hb0 := HBy.out.at 0
  rw [hz0] at hb0
  have hwz : IntKind.i64.wrap z0 = z0 := by rw [IntKind.wrap_i64]; omega
  have hcb : x0.cell? ⟨bb, off, none⟩ = some (.int .u8 z0) := by
    obtain ⟨b', off', e, h3, h4⟩ := HRd.out 0 (by have := HLen.out; omega)
    simp only [Option.some.injEq, Addr.mk.injEq, and_true] at e
    obtain ⟨rfl, rfl⟩ := e
    rw [Nat.add_zero, hz0] at h4
    rw [B0.out.cell h3]; exact h4
  clear hz0 hb0
  have hNI : ¬ ((N : Int) = 0) := by omega
  have hN1 : (0 : Int) < (N : Int) := by omega
  go_enter Try.func19, Try.ntmps19
  go_upto_region 4 with fail
  rw [HW0.out]
  obtain ⟨gr, hgr⟩ : ∃ gr, w.heap.size = gr := ⟨_, rfl⟩
  obtain ⟨gf, hgf⟩ : ∃ gf, w.heap.size + 1 = gf := ⟨_, rfl⟩
  have HG : Hid (w.heap.size = gr ∧ gf = gr + 1) := ⟨hgr, by omega⟩
  rw [hgf] at M0 ⊢
  rw [hgr] at KR0
  rw [hgr]
  clear hgr hgf HW0
  have co : x0.cell? ⟨gf, 0, none⟩ = some (.int .i64 0) := M0.out.blk.cell 0 rfl
  have fo := M0.out.blk.frozen 0
  obtain ⟨x1, hx1⟩ : ∃ x1, x0.setCell ⟨gf, 0, none⟩ (.int .i64 (z0)) = x1 := ⟨_, rfl⟩
  have HW1 : Hid (x0.setCell ⟨gf, 0, none⟩ (.int .i64 (z0)) = x1) := hx1
  have M1 : Hid (FrMk x1 gf (gf + 1) ⟨(z0), 0, [], [], 0, [], [], 0, 0, [], []⟩ ⟨⟨none, 0, 0⟩, ⟨none, 0, 0⟩, ⟨none, 0, 0⟩, ⟨none, 0, 0⟩, ⟨none, 0, 0⟩, ⟨none, 0, 0⟩⟩) := by rw [← hx1]; exact M0.out.kind _
  have KR1 : Hid (Blk x1 gr 25 [.int .i64 0, .int .i64 0, .slice none 0 0, .slice none 0 0, .int .i64 0, .slice none 0 0, .slice none 0 0, .int .i64 0, .int .i64 0, .slice none 0 0, .slice none 0 0]) := by rw [← hx1]; exact KR0.out.other (by show gr ≠ gf; have := HG.out; omega) _
  have B1 : Hid (Below w.heap.size w x1) := by rw [← hx1]; exact B0.out.setCell (by show _ ≤ gf; have := HG.out; omega) _
  clear hx1
  go_upto_region 5 with fail
  rw [HW1.out]
  clear co fo HW1 M0 KR0 B0
  have kc : x1.cell? ⟨gf, 0, none⟩ = some (.int .i64 z0) := M1.out.blk.cell 0 rfl
  have c0 := KR1.out.cell 0 rfl
  have f0 := KR1.out.frozen 0
  have c1 := KR1.out.cell 1 rfl
  have f1 := KR1.out.frozen 1
  have c2 := KR1.out.cell 2 rfl
  have f2 := KR1.out.frozen 2
  have c3 := KR1.out.cell 3 rfl
  have f3 := KR1.out.frozen 3
  have c4 := KR1.out.cell 4 rfl
  have f4 := KR1.out.frozen 4
  have c5 := KR1.out.cell 5 rfl
  have f5 := KR1.out.frozen 5
  have c6 := KR1.out.cell 6 rfl
  have f6 := KR1.out.frozen 6
  have c7 := KR1.out.cell 7 rfl
  have f7 := KR1.out.frozen 7
  have c8 := KR1.out.cell 8 rfl
  have f8 := KR1.out.frozen 8
  have c9 := KR1.out.cell 9 rfl
  have f9 := KR1.out.frozen 9
  have c10 := KR1.out.cell 10 rfl
  have f10 := KR1.out.frozen 10
  go_wp2
  have KF : Blk ((((((((((((x1).setCell ⟨gr, 0, none⟩ (.int .i64 0)).setCell ⟨gr, 1, none⟩ (.int .i64 0)).setCell ⟨gr, 2, none⟩ (.slice none 0 0)).setCell ⟨gr, 3, none⟩ (.slice none 0 0)).setCell ⟨gr, 4, none⟩ (.int .i64 0)).setCell ⟨gr, 5, none⟩ (.slice none 0 0)).setCell ⟨gr, 6, none⟩ (.slice none 0 0)).setCell ⟨gr, 7, none⟩ (.int .i64 0)).setCell ⟨gr, 8, none⟩ (.int .i64 0)).setCell ⟨gr, 9, none⟩ (.slice none 0 0)).setCell ⟨gr, 10, none⟩ (.slice none 0 0)) gr 25 [.int .i64 0, .int .i64 0, .slice none 0 0, .slice none 0 0, .int .i64 0, .slice none 0 0, .slice none 0 0, .int .i64 0, .int .i64 0, .slice none 0 0, .slice none 0 0] := (((((((((((KR1.out).set 0 _ (by simp [maxLen])).set 1 _ (by simp [maxLen])).set 2 _ (by simp [maxLen])).set 3 _ (by simp [maxLen])).set 4 _ (by simp [maxLen])).set 5 _ (by simp [maxLen])).set 6 _ (by simp [maxLen])).set 7 _ (by simp [maxLen])).set 8 _ (by simp [maxLen])).set 9 _ (by simp [maxLen])).set 10 _ (by simp [maxLen])
  exact ret_got rfl rfl rfl KF rfl (D := zeroF) (S := SN) (got_len2 (by rw [HZ0.out]; exact eq_of_beq k2) (by have := HLen.out; omega)) (own_nil _ _ _) ((((((((((((B1.out).setCell (by show _ ≤ gr; have := HG.out; omega) _).setCell (by show _ ≤ gr; have := HG.out; omega) _).setCell (by show _ ≤ gr; have := HG.out; omega) _).setCell (by show _ ≤ gr; have := HG.out; omega) _).setCell (by show _ ≤ gr; have := HG.out; omega) _).setCell (by show _ ≤ gr; have := HG.out; omega) _).setCell (by show _ ≤ gr; have := HG.out; omega) _).setCell (by show _ ≤ gr; have := HG.out; omega) _).setCell (by show _ ≤ gr; have := HG.out; omega) _).setCell (by show _ ≤ gr; have := HG.out; omega) _).setCell (by show _ ≤ gr; have := HG.out; omega) _)

set_option maxRecDepth 100000 in
set_option maxHeartbeats 8000000 in
theorem get3_no (bb off N c : Nat) (l : List Int) (w : World) (hn : N = l.length) (hr : Rd w (some ⟨bb, off, none⟩) l) (hb : Bytes l) (hc : N ≤ c) (hm : N ≤ 4194304) (k1 : (l.getD 0 0 == 1) = false) (k2 : (l.getD 0 0 == 2) = false) (k3 : (l.getD 0 0 == 3) = true) (hl : ¬ N = 62) (h0 : ¬ N = 0) :
    Calls Try.prog 19 #[.slice (some ⟨bb, off, none⟩) N c] w (Gave w l) := by
  have HRd : Hid (Rd w (some ⟨bb, off, none⟩) l) := hr
  have HBy : Hid (Bytes l) := hb
  have HLen : Hid (N = l.length) := hn
  obtain ⟨x0, hx0⟩ : ∃ x0, (w.alloc (.cells #[.int .i64 0, .int .i64 0, .slice none 0 0, .slice none 0 0, .int .i64 0, .slice none 0 0, .slice none 0 0, .int .i64 0, .int .i64 0, .slice none 0 0, .slice none 0 0] 25)).alloc (.cells #[.int .i64 0, .int .i64 0, .slice none 0 0, .slice none 0 0, .int .i64 0, .slice none 0 0, .slice none 0 0, .int .i64 0, .int .i64 0, .slice none 0 0, .slice none 0 0] 25) = x0 := ⟨_, rfl⟩
  have HW0 : Hid ((w.alloc (.cells #[.int .i64 0, .int .i64 0, .slice none 0 0, .slice none 0 0, .int .i64 0, .slice none 0 0, .slice none 0 0, .int .i64 0, .int .i64 0, .slice none 0 0, .slice none 0 0] 25)).alloc (.cells #[.int .i64 0, .int .i64 0, .slice none 0 0, .slice none 0 0, .int .i64 0, .slice none 0 0, .slice none 0 0, .int .i64 0, .int .i64 0, .slice none 0 0, .slice none 0 0] 25) = x0) := hx0
  have B0 : Hid (Below w.heap.size w x0) := by rw [← hx0]; exact ((Below.refl _ _).alloc (Nat.le_refl _) _).alloc (by simp) _
  have KR0 : Hid (Blk x0 w.heap.size 25 [.int .i64 0, .int .i64 0, .slice none 0 0, .slice none 0 0, .int .i64 0, .slice none 0 0, .slice none 0 0, .int .i64 0, .int .i64 0, .slice none 0 0, .slice none 0 0]) := by rw [← hx0]; exact (Blk.new w _ [.int .i64 0, .int .i64 0, .slice none 0 0, .slice none 0 0, .int .i64 0, .slice none 0 0, .slice none 0 0, .int .i64 0, .int .i64 0, .slice none 0 0, .slice none 0 0]).alloc _
  have KF0 : Blk x0 (w.heap.size + 1) 25 [.int .i64 0, .int .i64 0, .slice none 0 0, .slice none 0 0, .int .i64 0, .slice none 0 0, .slice none 0 0, .int .i64 0, .int .i64 0, .slice none 0 0, .slice none 0 0] := by
    have := Blk.new (w.alloc (.cells #[.int .i64 0, .int .i64 0, .slice none 0 0, .slice none 0 0, .int .i64 0, .slice none 0 0, .slice none 0 0, .int .i64 0, .int .i64 0, .slice none 0 0, .slice none 0 0] 25)) 25 [.int .i64 0, .int .i64 0, .slice none 0 0, .slice none 0 0, .int .i64 0, .slice none 0 0, .slice none 0 0, .int .i64 0, .int .i64 0, .slice none 0 0, .slice none 0 0]
    rw [World.size_alloc] at this
    rw [← hx0]; exact this
  have M0 : Hid (FrMk x0 (w.heap.size + 1) (w.heap.size + 1 + 1) ⟨0, 0, [], [], 0, [], [], 0, 0, [], []⟩ ⟨⟨none, 0, 0⟩, ⟨none, 0, 0⟩, ⟨none, 0, 0⟩, ⟨none, 0, 0⟩, ⟨none, 0, 0⟩, ⟨none, 0, 0⟩⟩) := ⟨KF0, own_nil _ _ _, Nat.lt_succ_self _⟩
  clear hx0 hr hb KF0 hn
  have hlI : ((N : Int) != 62) = true := by simp; omega
  obtain ⟨z0, hz0⟩ : ∃ z0, l.getD 0 0 = z0 := ⟨_, rfl⟩
  have HZ0 : Hid (l.getD 0 0 = z0) := hz0
  rw [hz0] at k1 k2 k3
  have hb0 := HBy.out.at 0
  rw [hz0] at hb0
  have hwz : IntKind.i64.wrap z0 = z0 := by rw [IntKind.wrap_i64]; omega
  have hcb : x0.cell? ⟨bb, off, none⟩ = some (.int .u8 z0) := by
    obtain ⟨b', off', e, h3, h4⟩ := HRd.out 0 (by have := HLen.out; omega)
    simp only [Option.some.injEq, Addr.mk.injEq, and_true] at e
    obtain ⟨rfl, rfl⟩ := e
    rw [Nat.add_zero, hz0] at h4
    rw [B0.out.cell h3]; exact h4
  clear hz0 hb0
  have hNI : ¬ ((N : Int) = 0) := by omega
  have hN1 : (0 : Int) < (N : Int) := by omega
  go_enter Try.func19, Try.ntmps19
  go_upto_region 4 with fail
  rw [HW0.out]
  obtain ⟨gr, hgr⟩ : ∃ gr, w.heap.size = gr := ⟨_, rfl⟩
  obtain ⟨gf, hgf⟩ : ∃ gf, w.heap.size + 1 = gf := ⟨_, rfl⟩
  have HG : Hid (w.heap.size = gr ∧ gf = gr + 1) := ⟨hgr, by omega⟩
  rw [hgf] at M0 ⊢
  rw [hgr] at KR0
  rw [hgr]
  clear hgr hgf HW0
  have co : x0.cell? ⟨gf, 0, none⟩ = some (.int .i64 0) := M0.out.blk.cell 0 rfl
  have fo := M0.out.blk.frozen 0
  obtain ⟨x1, hx1⟩ : ∃ x1, x0.setCell ⟨gf, 0, none⟩ (.int .i64 (z0)) = x1 := ⟨_, rfl⟩
  have HW1 : Hid (x0.setCell ⟨gf, 0, none⟩ (.int .i64 (z0)) = x1) := hx1
  have M1 : Hid (FrMk x1 gf (gf + 1) ⟨(z0), 0, [], [], 0, [], [], 0, 0, [], []⟩ ⟨⟨none, 0, 0⟩, ⟨none, 0, 0⟩, ⟨none, 0, 0⟩, ⟨none, 0, 0⟩, ⟨none, 0, 0⟩, ⟨none, 0, 0⟩⟩) := by rw [← hx1]; exact M0.out.kind _
  have KR1 : Hid (Blk x1 gr 25 [.int .i64 0, .int .i64 0, .slice none 0 0, .slice none 0 0, .int .i64 0, .slice none 0 0, .slice none 0 0, .int .i64 0, .int .i64 0, .slice none 0 0, .slice none 0 0]) := by rw [← hx1]; exact KR0.out.other (by show gr ≠ gf; have := HG.out; omega) _
  have B1 : Hid (Below w.heap.size w x1) := by rw [← hx1]; exact B0.out.setCell (by show _ ≤ gf; have := HG.out; omega) _
  clear hx1
  go_upto_region 5 with fail
  rw [HW1.out]
  clear co fo HW1 M0 KR0 B0
  have kc : x1.cell? ⟨gf, 0, none⟩ = some (.int .i64 z0) := M1.out.blk.cell 0 rfl
  have c0 := KR1.out.cell 0 rfl
  have f0 := KR1.out.frozen 0
  have c1 := KR1.out.cell 1 rfl
  have f1 := KR1.out.frozen 1
  have c2 := KR1.out.cell 2 rfl
  have f2 := KR1.out.frozen 2
  have c3 := KR1.out.cell 3 rfl
  have f3 := KR1.out.frozen 3
  have c4 := KR1.out.cell 4 rfl
  have f4 := KR1.out.frozen 4
  have c5 := KR1.out.cell 5 rfl
  have f5 := KR1.out.frozen 5
  have c6 := KR1.out.cell 6 rfl
  have f6 := KR1.out.frozen 6
  have c7 := KR1.out.cell 7 rfl
  have f7 := KR1.out.frozen 7
  have c8 := KR1.out.cell 8 rfl
  have f8 := KR1.out.frozen 8
  have c9 := KR1.out.cell 9 rfl
  have f9 := KR1.out.frozen 9
  have c10 := KR1.out.cell 10 rfl
  have f10 := KR1.out.frozen 10
  go_wp2
  have KF : Blk ((((((((((((x1).setCell ⟨gr, 0, none⟩ (.int .i64 0)).setCell ⟨gr, 1, none⟩ (.int .i64 0)).setCell ⟨gr, 2, none⟩ (.slice none 0 0)).setCell ⟨gr, 3, none⟩ (.slice none 0 0)).setCell ⟨gr, 4, none⟩ (.int .i64 0)).setCell ⟨gr, 5, none⟩ (.slice none 0 0)).setCell ⟨gr, 6, none⟩ (.slice none 0 0)).setCell ⟨gr, 7, none⟩ (.int .i64 0)).setCell ⟨gr, 8, none⟩ (.int .i64 0)).setCell ⟨gr, 9, none⟩ (.slice none 0 0)).setCell ⟨gr, 10, none⟩ (.slice none 0 0)) gr 25 [.int .i64 0, .int .i64 0, .slice none 0 0, .slice none 0 0, .int .i64 0, .slice none 0 0, .slice none 0 0, .int .i64 0, .int .i64 0, .slice none 0 0, .slice none 0 0] := (((((((((((KR1.out).set 0 _ (by simp [maxLen])).set 1 _ (by simp [maxLen])).set 2 _ (by simp [maxLen])).set 3 _ (by simp [maxLen])).set 4 _ (by simp [maxLen])).set 5 _ (by simp [maxLen])).set 6 _ (by simp [maxLen])).set 7 _ (by simp [maxLen])).set 8 _ (by simp [maxLen])).set 9 _ (by simp [maxLen])).set 10 _ (by simp [maxLen])
  exact ret_got rfl rfl rfl KF rfl (D := zeroF) (S := SN) (got_len3 (by rw [HZ0.out]; exact eq_of_beq k3) (by have := HLen.out; omega)) (own_nil _ _ _) ((((((((((((B1.out).setCell (by show _ ≤ gr; have := HG.out; omega) _).setCell (by show _ ≤ gr; have := HG.out; omega) _).setCell (by show _ ≤ gr; have := HG.out; omega) _).setCell (by show _ ≤ gr; have := HG.out; omega) _).setCell (by show _ ≤ gr; have := HG.out; omega) _).setCell (by show _ ≤ gr; have := HG.out; omega) _).setCell (by show _ ≤ gr; have := HG.out; omega) _).setCell (by show _ ≤ gr; have := HG.out; omega) _).setCell (by show _ ≤ gr; have := HG.out; omega) _).setCell (by show _ ≤ gr; have := HG.out; omega) _).setCell (by show _ ≤ gr; have := HG.out; omega) _)

set_option maxRecDepth 100000 in
set_option maxHeartbeats 8000000 in
theorem getS_no (bb off N c : Nat) (l : List Int) (w : World) (hn : N = l.length) (hr : Rd w (some ⟨bb, off, none⟩) l) (hb : Bytes l) (hc : N ≤ c) (hm : N ≤ 4194304) (k1 : (l.getD 0 0 == 1) = false) (k2 : (l.getD 0 0 == 2) = false) (k3 : (l.getD 0 0 == 3) = false) (hl : N < 39) (h0 : ¬ N = 0) :
    Calls Try.prog 19 #[.slice (some ⟨bb, off, none⟩) N c] w (Gave w l) := by
  have HRd : Hid (Rd w (some ⟨bb, off, none⟩) l) := hr
  have HBy : Hid (Bytes l) := hb
  have HLen : Hid (N = l.length) := hn
  obtain ⟨x0, hx0⟩ : ∃ x0, (w.alloc (.cells #[.int .i64 0, .int .i64 0, .slice none 0 0, .slice none 0 0, .int .i64 0, .slice none 0 0, .slice none 0 0, .int .i64 0, .int .i64 0, .slice none 0 0, .slice none 0 0] 25)).alloc (.cells #[.int .i64 0, .int .i64 0, .slice none 0 0, .slice none 0 0, .int .i64 0, .slice none 0 0, .slice none 0 0, .int .i64 0, .int .i64 0, .slice none 0 0, .slice none 0 0] 25) = x0 := ⟨_, rfl⟩
  have HW0 : Hid ((w.alloc (.cells #[.int .i64 0, .int .i64 0, .slice none 0 0, .slice none 0 0, .int .i64 0, .slice none 0 0, .slice none 0 0, .int .i64 0, .int .i64 0, .slice none 0 0, .slice none 0 0] 25)).alloc (.cells #[.int .i64 0, .int .i64 0, .slice none 0 0, .slice none 0 0, .int .i64 0, .slice none 0 0, .slice none 0 0, .int .i64 0, .int .i64 0, .slice none 0 0, .slice none 0 0] 25) = x0) := hx0
  have B0 : Hid (Below w.heap.size w x0) := by rw [← hx0]; exact ((Below.refl _ _).alloc (Nat.le_refl _) _).alloc (by simp) _
  have KR0 : Hid (Blk x0 w.heap.size 25 [.int .i64 0, .int .i64 0, .slice none 0 0, .slice none 0 0, .int .i64 0, .slice none 0 0, .slice none 0 0, .int .i64 0, .int .i64 0, .slice none 0 0, .slice none 0 0]) := by rw [← hx0]; exact (Blk.new w _ [.int .i64 0, .int .i64 0, .slice none 0 0, .slice none 0 0, .int .i64 0, .slice none 0 0, .slice none 0 0, .int .i64 0, .int .i64 0, .slice none 0 0, .slice none 0 0]).alloc _
  have KF0 : Blk x0 (w.heap.size + 1) 25 [.int .i64 0, .int .i64 0, .slice none 0 0, .slice none 0 0, .int .i64 0, .slice none 0 0, .slice none 0 0, .int .i64 0, .int .i64 0, .slice none 0 0, .slice none 0 0] := by
    have := Blk.new (w.alloc (.cells #[.int .i64 0, .int .i64 0, .slice none 0 0, .slice none 0 0, .int .i64 0, .slice none 0 0, .slice none 0 0, .int .i64 0, .int .i64 0, .slice none 0 0, .slice none 0 0] 25)) 25 [.int .i64 0, .int .i64 0, .slice none 0 0, .slice none 0 0, .int .i64 0, .slice none 0 0, .slice none 0 0, .int .i64 0, .int .i64 0, .slice none 0 0, .slice none 0 0]
    rw [World.size_alloc] at this
    rw [← hx0]; exact this
  have M0 : Hid (FrMk x0 (w.heap.size + 1) (w.heap.size + 1 + 1) ⟨0, 0, [], [], 0, [], [], 0, 0, [], []⟩ ⟨⟨none, 0, 0⟩, ⟨none, 0, 0⟩, ⟨none, 0, 0⟩, ⟨none, 0, 0⟩, ⟨none, 0, 0⟩, ⟨none, 0, 0⟩⟩) := ⟨KF0, own_nil _ _ _, Nat.lt_succ_self _⟩
  clear hx0 hr hb KF0 hn
  have hlI : (N : Int) < 39 := by omega
  obtain ⟨z0, hz0⟩ : ∃ z0, l.getD 0 0 = z0 := ⟨_, rfl⟩
  have HZ0 : Hid (l.getD 0 0 = z0) := hz0
  rw [hz0] at k1 k2 k3
  have hb0 := HBy.out.at 0
  rw [hz0] at hb0
  have hwz : IntKind.i64.wrap z0 = z0 := by rw [IntKind.wrap_i64]; omega
  have hcb : x0.cell? ⟨bb, off, none⟩ = some (.int .u8 z0) := by
    obtain ⟨b', off', e, h3, h4⟩ := HRd.out 0 (by have := HLen.out; omega)
    simp only [Option.some.injEq, Addr.mk.injEq, and_true] at e
    obtain ⟨rfl, rfl⟩ := e
    rw [Nat.add_zero, hz0] at h4
    rw [B0.out.cell h3]; exact h4
  clear hz0 hb0
  have hNI : ¬ ((N : Int) = 0) := by omega
  have hN1 : (0 : Int) < (N : Int) := by omega
  go_enter Try.func19, Try.ntmps19
  go_upto_region 4 with fail
  rw [HW0.out]
  obtain ⟨gr, hgr⟩ : ∃ gr, w.heap.size = gr := ⟨_, rfl⟩
  obtain ⟨gf, hgf⟩ : ∃ gf, w.heap.size + 1 = gf := ⟨_, rfl⟩
  have HG : Hid (w.heap.size = gr ∧ gf = gr + 1) := ⟨hgr, by omega⟩
  rw [hgf] at M0 ⊢
  rw [hgr] at KR0
  rw [hgr]
  clear hgr hgf HW0
  have co : x0.cell? ⟨gf, 0, none⟩ = some (.int .i64 0) := M0.out.blk.cell 0 rfl
  have fo := M0.out.blk.frozen 0
  obtain ⟨x1, hx1⟩ : ∃ x1, x0.setCell ⟨gf, 0, none⟩ (.int .i64 (z0)) = x1 := ⟨_, rfl⟩
  have HW1 : Hid (x0.setCell ⟨gf, 0, none⟩ (.int .i64 (z0)) = x1) := hx1
  have M1 : Hid (FrMk x1 gf (gf + 1) ⟨(z0), 0, [], [], 0, [], [], 0, 0, [], []⟩ ⟨⟨none, 0, 0⟩, ⟨none, 0, 0⟩, ⟨none, 0, 0⟩, ⟨none, 0, 0⟩, ⟨none, 0, 0⟩, ⟨none, 0, 0⟩⟩) := by rw [← hx1]; exact M0.out.kind _
  have KR1 : Hid (Blk x1 gr 25 [.int .i64 0, .int .i64 0, .slice none 0 0, .slice none 0 0, .int .i64 0, .slice none 0 0, .slice none 0 0, .int .i64 0, .int .i64 0, .slice none 0 0, .slice none 0 0]) := by rw [← hx1]; exact KR0.out.other (by show gr ≠ gf; have := HG.out; omega) _
  have B1 : Hid (Below w.heap.size w x1) := by rw [← hx1]; exact B0.out.setCell (by show _ ≤ gf; have := HG.out; omega) _
  clear hx1
  go_upto_region 5 with fail
  rw [HW1.out]
  clear co fo HW1 M0 KR0 B0
  have kc : x1.cell? ⟨gf, 0, none⟩ = some (.int .i64 z0) := M1.out.blk.cell 0 rfl
  have c0 := KR1.out.cell 0 rfl
  have f0 := KR1.out.frozen 0
  have c1 := KR1.out.cell 1 rfl
  have f1 := KR1.out.frozen 1
  have c2 := KR1.out.cell 2 rfl
  have f2 := KR1.out.frozen 2
  have c3 := KR1.out.cell 3 rfl
  have f3 := KR1.out.frozen 3
  have c4 := KR1.out.cell 4 rfl
  have f4 := KR1.out.frozen 4
  have c5 := KR1.out.cell 5 rfl
  have f5 := KR1.out.frozen 5
  have c6 := KR1.out.cell 6 rfl
  have f6 := KR1.out.frozen 6
  have c7 := KR1.out.cell 7 rfl
  have f7 := KR1.out.frozen 7
  have c8 := KR1.out.cell 8 rfl
  have f8 := KR1.out.frozen 8
  have c9 := KR1.out.cell 9 rfl
  have f9 := KR1.out.frozen 9
  have c10 := KR1.out.cell 10 rfl
  have f10 := KR1.out.frozen 10
  go_wp2
  have KF : Blk ((((((((((((x1).setCell ⟨gr, 0, none⟩ (.int .i64 0)).setCell ⟨gr, 1, none⟩ (.int .i64 0)).setCell ⟨gr, 2, none⟩ (.slice none 0 0)).setCell ⟨gr, 3, none⟩ (.slice none 0 0)).setCell ⟨gr, 4, none⟩ (.int .i64 0)).setCell ⟨gr, 5, none⟩ (.slice none 0 0)).setCell ⟨gr, 6, none⟩ (.slice none 0 0)).setCell ⟨gr, 7, none⟩ (.int .i64 0)).setCell ⟨gr, 8, none⟩ (.int .i64 0)).setCell ⟨gr, 9, none⟩ (.slice none 0 0)).setCell ⟨gr, 10, none⟩ (.slice none 0 0)) gr 25 [.int .i64 0, .int .i64 0, .slice none 0 0, .slice none 0 0, .int .i64 0, .slice none 0 0, .slice none 0 0, .int .i64 0, .int .i64 0, .slice none 0 0, .slice none 0 0] := (((((((((((KR1.out).set 0 _ (by simp [maxLen])).set 1 _ (by simp [maxLen])).set 2 _ (by simp [maxLen])).set 3 _ (by simp [maxLen])).set 4 _ (by simp [maxLen])).set 5 _ (by simp [maxLen])).set 6 _ (by simp [maxLen])).set 7 _ (by simp [maxLen])).set 8 _ (by simp [maxLen])).set 9 _ (by simp [maxLen])).set 10 _ (by simp [maxLen])
  exact ret_got rfl rfl rfl KF rfl (D := zeroF) (S := SN) (got_lenS (by rw [HZ0.out]; exact ne_of_beq_false k1) (by rw [HZ0.out]; exact ne_of_beq_false k2) (by rw [HZ0.out]; exact ne_of_beq_false k3) (by have := HLen.out; omega)) (own_nil _ _ _) ((((((((((((B1.out).setCell (by show _ ≤ gr; have := HG.out; omega) _).setCell (by show _ ≤ gr; have := HG.out; omega) _).setCell (by show _ ≤ gr; have := HG.out; omega) _).setCell (by show _ ≤ gr; have := HG.out; omega) _).setCell (by show _ ≤ gr; have := HG.out; omega) _).setCell (by show _ ≤ gr; have := HG.out; omega) _).setCell (by show _ ≤ gr; have := HG.out; omega) _).setCell (by show _ ≤ gr; have := HG.out; omega) _).setCell (by show _ ≤ gr; have := HG.out; omega) _).setCell (by show _ ≤ gr; have := HG.out; omega) _).setCell (by show _ ≤ gr; have := HG.out; omega) _)

set_option maxRecDepth 100000 in
set_option maxHeartbeats 8000000 in
theorem get1_yes (bb off N c : Nat) (l : List Int) (w : World) (hn : N = l.length) (hr : Rd w (some ⟨bb, off, none⟩) l) (hb : Bytes l) (hc : N ≤ c) (hm : N ≤ 4194304) (k1 : (l.getD 0 0 == 1) = true) (hl : N = 34) (h0 : ¬ N = 0) :
    Calls Try.prog 19 #[.slice (some ⟨bb, off, none⟩) N c] w (Gave w l) := by
  have HRd : Hid (Rd w (some ⟨bb, off, none⟩) l) := hr
  have HBy : Hid (Bytes l) := hb
  have HLen : Hid (N = l.length) := hn
  obtain ⟨x0, hx0⟩ : ∃ x0, (w.alloc (.cells #[.int .i64 0, .int .i64 0, .slice none 0 0, .slice none 0 0, .int .i64 0, .slice none 0 0, .slice none 0 0, .int .i64 0, .int .i64 0, .slice none 0 0, .slice none 0 0] 25)).alloc (.cells #[.int .i64 0, .int .i64 0, .slice none 0 0, .slice none 0 0, .int .i64 0, .slice none 0 0, .slice none 0 0, .int .i64 0, .int .i64 0, .slice none 0 0, .slice none 0 0] 25) = x0 := ⟨_, rfl⟩
  have HW0 : Hid ((w.alloc (.cells #[.int .i64 0, .int .i64 0, .slice none 0 0, .slice none 0 0, .int .i64 0, .slice none 0 0, .slice none 0 0, .int .i64 0, .int .i64 0, .slice none 0 0, .slice none 0 0] 25)).alloc (.cells #[.int .i64 0, .int .i64 0, .slice none 0 0, .slice none 0 0, .int .i64 0, .slice none 0 0, .slice none 0 0, .int .i64 0, .int .i64 0, .slice none 0 0, .slice none 0 0] 25) = x0) := hx0
  have B0 : Hid (Below w.heap.size w x0) := by rw [← hx0]; exact ((Below.refl _ _).alloc (Nat.le_refl _) _).alloc (by simp) _
  have KR0 : Hid (Blk x0 w.heap.size 25 [.int .i64 0, .int .i64 0, .slice none 0 0, .slice none 0 0, .int .i64 0, .slice none 0 0, .slice none 0 0, .int .i64 0, .int .i64 0, .slice none 0 0, .slice none 0 0]) := by rw [← hx0]; exact (Blk.new w _ [.int .i64 0, .int .i64 0, .slice none 0 0, .slice none 0 0, .int .i64 0, .slice none 0 0, .slice none 0 0, .int .i64 0, .int .i64 0, .slice none 0 0, .slice none 0 0]).alloc _
  have KF0 : Blk x0 (w.heap.size + 1) 25 [.int .i64 0, .int .i64 0, .slice none 0 0, .slice none 0 0, .int .i64 0, .slice none 0 0, .slice none 0 0, .int .i64 0, .int .i64 0, .slice none 0 0, .slice none 0 0] := by
    have := Blk.new (w.alloc (.cells #[.int .i64 0, .int .i64 0, .slice none 0 0, .slice none 0 0, .int .i64 0, .slice none 0 0, .slice none 0 0, .int .i64 0, .int .i64 0, .slice none 0 0, .slice none 0 0] 25)) 25 [.int .i64 0, .int .i64 0, .slice none 0 0, .slice none 0 0, .int .i64 0, .slice none 0 0, .slice none 0 0, .int .i64 0, .int .i64 0, .slice none 0 0, .slice none 0 0]
    rw [World.size_alloc] at this
    rw [← hx0]; exact this
  have M0 : Hid (FrMk x0 (w.heap.size + 1) (w.heap.size + 1 + 1) ⟨0, 0, [], [], 0, [], [], 0, 0, [], []⟩ ⟨⟨none, 0, 0⟩, ⟨none, 0, 0⟩, ⟨none, 0, 0⟩, ⟨none, 0, 0⟩, ⟨none, 0, 0⟩, ⟨none, 0, 0⟩⟩) := ⟨KF0, own_nil _ _ _, Nat.lt_succ_self _⟩
  clear hx0 hr hb KF0 hn
  subst hl
  have cb14 : (14 : Int) ≤ (c : Int) := by omega
  have cn2 : ¬ c = 2 := by omega
  obtain ⟨z0, hz0⟩ : ∃ z0, l.getD 0 0 = z0 := ⟨_, rfl⟩
  have HZ0 : Hid (l.getD 0 0 = z0) := hz0
  rw [hz0] at k1
  have hb0 := HBy.out.at 0
  rw [hz0] at hb0
  have hwz : IntKind.i64.wrap z0 = z0 := by rw [IntKind.wrap_i64]; omega
  have hcb : x0.cell? ⟨bb, off, none⟩ = some (.int .u8 z0) := by
    obtain ⟨b', off', e, h3, h4⟩ := HRd.out 0 (by have := HLen.out; omega)
    simp only [Option.some.injEq, Addr.mk.injEq, and_true] at e
    obtain ⟨rfl, rfl⟩ := e
    rw [Nat.add_zero, hz0] at h4
    rw [B0.out.cell h3]; exact h4
  clear hz0 hb0
  go_enter Try.func19, Try.ntmps19
  go_upto_region 4 with fail
  rw [HW0.out]
  obtain ⟨gr, hgr⟩ : ∃ gr, w.heap.size = gr := ⟨_, rfl⟩
  obtain ⟨gf, hgf⟩ : ∃ gf, w.heap.size + 1 = gf := ⟨_, rfl⟩
  have HG : Hid (w.heap.size = gr ∧ gf = gr + 1) := ⟨hgr, by omega⟩
  rw [hgf] at M0 ⊢
  rw [hgr] at KR0
  rw [hgr]
  clear hgr hgf HW0
  have co : x0.cell? ⟨gf, 0, none⟩ = some (.int .i64 0) := M0.out.blk.cell 0 rfl
  have fo := M0.out.blk.frozen 0
  obtain ⟨x1, hx1⟩ : ∃ x1, x0.setCell ⟨gf, 0, none⟩ (.int .i64 (z0)) = x1 := ⟨_, rfl⟩
  have HW1 : Hid (x0.setCell ⟨gf, 0, none⟩ (.int .i64 (z0)) = x1) := hx1
  have M1 : Hid (FrMk x1 gf (gf + 1) ⟨(z0), 0, [], [], 0, [], [], 0, 0, [], []⟩ ⟨⟨none, 0, 0⟩, ⟨none, 0, 0⟩, ⟨none, 0, 0⟩, ⟨none, 0, 0⟩, ⟨none, 0, 0⟩, ⟨none, 0, 0⟩⟩) := by rw [← hx1]; exact M0.out.kind _
  have KR1 : Hid (Blk x1 gr 25 [.int .i64 0, .int .i64 0, .slice none 0 0, .slice none 0 0, .int .i64 0, .slice none 0 0, .slice none 0 0, .int .i64 0, .int .i64 0, .slice none 0 0, .slice none 0 0]) := by rw [← hx1]; exact KR0.out.other (by show gr ≠ gf; have := HG.out; omega) _
  have B1 : Hid (Below w.heap.size w x1) := by rw [← hx1]; exact B0.out.setCell (by show _ ≤ gf; have := HG.out; omega) _
  clear hx1
  go_upto_region 5 with fail
  rw [HW1.out]
  clear co fo HW1 M0 KR0 B0
  have kc : x1.cell? ⟨gf, 0, none⟩ = some (.int .i64 z0) := M1.out.blk.cell 0 rfl
  go_upto_region 16 with fail
  obtain ⟨z1, hz1⟩ : ∃ z1, l.getD 1 0 = z1 := ⟨_, rfl⟩
  have HZ1 : Hid (l.getD 1 0 = z1) := hz1
  have hb1 := HBy.out.at 1
  rw [hz1] at hb1
  have hwz1 : IntKind.i64.wrap z1 = z1 := by rw [IntKind.wrap_i64]; omega
  have hcb1 : x1.cell? ⟨bb, off + 1, none⟩ = some (.int .u8 z1) := by
    obtain ⟨b', off', e, h3, h4⟩ := HRd.out 1 (by have := HLen.out; omega)
    simp only [Option.some.injEq, Addr.mk.injEq, and_true] at e
    obtain ⟨rfl, rfl⟩ := e
    rw [hz1] at h4
    rw [B1.out.cell h3]; exact h4
  clear hz1 hb1
  have co : x1.cell? ⟨gf, 1, none⟩ = some (.int .i64 0) := M1.out.blk.cell 1 rfl
  have fo := M1.out.blk.frozen 1
  obtain ⟨x2, hx2⟩ : ∃ x2, x1.setCell ⟨gf, 1, none⟩ (.int .i64 (z1)) = x2 := ⟨_, rfl⟩
  have HW2 : Hid (x1.setCell ⟨gf, 1, none⟩ (.int .i64 (z1)) = x2) := hx2
  have M2 : Hid (FrMk x2 gf (gf + 1) ⟨(z0), (z1), [], [], 0, [], [], 0, 0, [], []⟩ ⟨⟨none, 0, 0⟩, ⟨none, 0, 0⟩, ⟨none, 0, 0⟩, ⟨none, 0, 0⟩, ⟨none, 0, 0⟩, ⟨none, 0, 0⟩⟩) := by rw [← hx2]; exact M1.out.id _
  have KR2 : Hid (Blk x2 gr 25 [.int .i64 0, .int .i64 0, .slice none 0 0, .slice none 0 0, .int .i64 0, .slice none 0 0, .slice none 0 0, .int .i64 0, .int .i64 0, .slice none 0 0, .slice none 0 0]) := by rw [← hx2]; exact KR1.out.other (by show gr ≠ gf; have := HG.out; omega) _
  have B2 : Hid (Below w.heap.size w x2) := by rw [← hx2]; exact B1.out.setCell (by show _ ≤ gf; have := HG.out; omega) _
  clear hx2
  go_upto_region 17 with fail
  rw [HW2.out]
  clear co fo HW2 M1 KR1 B1
  clear hcb1
  have R0 : Hid (Row (x2.alloc (.cells #[] 5)) x2.heap.size 0 []) := row_new x2 [] (by simp)
  have A0 : Hid (Below x2.heap.size x2 (x2.alloc (.cells #[] 5))) := (Below.refl _ _).alloc (Nat.le_refl _) _
  have RP : Hid (Rd (x2.alloc (.cells #[] 5)) (some ⟨bb, off + 2, none⟩) (piece l 2 12)) := (rdPiece HRd.out 2 (piece l 2 12) (piece_sub l 2 12)).later (B2.out.alloc B2.out.size _) (Nat.le_refl _)
  have HB3 : Hid (Bytes (piece l 2 12)) := bytes_piece HBy.out _ _
  go_upto_region 34 with (at_builtin; refine wpList_app _ rfl (.tmp 61) (.tmp 63) rfl x2.heap.size x2.heap.size 0 0 [] (piece l 2 12) rfl rfl R0.out (Nat.le_refl _) _ _ _ rfl (by rw [piece_length l 2 12 (by have := HLen.out; omega)]) RP.out (by intro e; cases e) (by rw [piece_length l 2 12 (by have := HLen.out; omega)]; simp) ?_; intro g3 c3 y3 r3 k3 l3 gr3; have RR3 : Hid (Row y3 g3 c3 (piece l 2 12)) := r3; have GE3 : Hid (x2.heap.size ≤ g3) := k3; have BY3 : Hid (Below x2.heap.size x2 y3) := A0.out.grown gr3 A0.out.size (fun k h => by cases h; exact Nat.le_refl _); have co : y3.cell? ⟨gf, 2, none⟩ = some (.slice none 0 0) := (M2.out.later BY3.out).blk.cell 2 rfl; have fo := (M2.out.later BY3.out).blk.frozen 2; clear r3 k3 l3 gr3)
  obtain ⟨x3, hx3⟩ : ∃ x3, y3.setCell ⟨gf, 2, none⟩ (.slice (some ⟨g3, 0, none⟩) 12 c3) = x3 := ⟨_, rfl⟩
  have HW3 : Hid (y3.setCell ⟨gf, 2, none⟩ (.slice (some ⟨g3, 0, none⟩) 12 c3) = x3) := hx3
  have M3 : Hid (FrMk x3 gf (gf + 1) ⟨(z0), (z1), (piece l 2 12), [], 0, [], [], 0, 0, [], []⟩ ⟨⟨some ⟨g3, 0, none⟩, 12, c3⟩, ⟨none, 0, 0⟩, ⟨none, 0, 0⟩, ⟨none, 0, 0⟩, ⟨none, 0, 0⟩, ⟨none, 0, 0⟩⟩) := by rw [← hx3]; exact M2.out.cn M2.out.blk.lt BY3.out RR3.out (by rw [piece_length l 2 12 (by have := HLen.out; omega)]) HB3.out GE3.out
  have KR3 : Hid (Blk x3 gr 25 [.int .i64 0, .int .i64 0, .slice none 0 0, .slice none 0 0, .int .i64 0, .slice none 0 0, .slice none 0 0, .int .i64 0, .int .i64 0, .slice none 0 0, .slice none 0 0]) := by rw [← hx3]; exact (KR2.out.later BY3.out).other (by show gr ≠ gf; have := HG.out; omega) _
  have B3 : Hid (Below w.heap.size w x3) := by rw [← hx3]; exact (B2.out.trans (BY3.out.mono B2.out.size)).setCell (by show _ ≤ gf; have := HG.out; omega) _
  clear hx3 R0 A0 RP
  rw [HW3.out]
  clear co fo HW3 M2 KR2 B2 RR3 GE3 BY3 HB3
  have CA : Hid (Cand l ⟨(z0), (z1), (piece l 2 12), [], 0, [], [], 0, 0, [], []⟩) := by have q := cand1 (b := l) (by rw [HZ0.out]; exact eq_of_beq k1); unfold get1 at q; rw [HZ0.out, HZ1.out] at q; exact q
  have RF : Hid (FrRd x3 ⟨⟨some ⟨g3, 0, none⟩, 12, c3⟩, ⟨none, 0, 0⟩, ⟨none, 0, 0⟩, ⟨none, 0, 0⟩, ⟨none, 0, 0⟩, ⟨none, 0, 0⟩⟩ ⟨(z0), (z1), (piece l 2 12), [], 0, [], [], 0, 0, [], []⟩) := M3.out.own.rd
  obtain ⟨PP, hPP⟩ : ∃ PP, putF ⟨(z0), (z1), (piece l 2 12), [], 0, [], [], 0, 0, [], []⟩ = PP := ⟨_, rfl⟩
  have HPP : Hid (putF ⟨(z0), (z1), (piece l 2 12), [], 0, [], [], 0, 0, [], []⟩ = PP) := hPP
  have HPB : Hid (Bytes PP) := by rw [← hPP]; exact putF_bytes RF.out
  clear hPP
  go_cut [137] from 132 to 136 (fun s137 wx => s137 = .bool (decide (PP ≠ l)) ∧ Below x3.heap.size x3 wx)
  case first =>
    rename_i J K' hRJ hMet
    generalize hA : Act.mk _ _ = A
    have a0' : A.eval (.tmp 0) = .slice (some ⟨bb, off, none⟩) 34 c := by rw [← hA]; rfl
    have a4' : A.eval (.tmp 4) = .pointer (some ⟨gf, 0, none⟩) := by rw [← hA]; rfl
    have asz : A.tmps.size = 140 := by rw [← hA]; rfl
    have hM : ∀ wx, Below x3.heap.size x3 wx → FrMk wx gf (gf + 1) ⟨(z0), (z1), (piece l 2 12), [], 0, [], [], 0, 0, [], []⟩ ⟨⟨some ⟨g3, 0, none⟩, 12, c3⟩, ⟨none, 0, 0⟩, ⟨none, 0, 0⟩, ⟨none, 0, 0⟩, ⟨none, 0, 0⟩, ⟨none, 0, 0⟩⟩ := fun wx hb => M3.out.later hb
    have hR : ∀ wx, Below x3.heap.size x3 wx → Rd wx (some ⟨bb, off, none⟩) l := fun wx hb => HRd.out.later (B3.out.trans (hb.mono B3.out.size)) (Nat.le_refl _)
    have hPut : ∀ wx, Below x3.heap.size x3 wx → Calls Try.prog 26 #[.agg #[.int .i64 (z0), .int .i64 (z1), .slice (some ⟨g3, 0, none⟩) 12 c3, .slice none 0 0, .int .i64 0, .slice none 0 0, .slice none 0 0, .int .i64 0, .int .i64 0, .slice none 0 0, .slice none 0 0]] wx (fun e w' => ∃ g m c, e = .returned (.slice (some ⟨g, 0, none⟩) m c) ∧ m = PP.length ∧ wx.heap.size ≤ g ∧ Row w' g c PP ∧ Below wx.heap.size wx w') := fun wx hb => by
      have q := specPutFrame ⟨⟨some ⟨g3, 0, none⟩, 12, c3⟩, ⟨none, 0, 0⟩, ⟨none, 0, 0⟩, ⟨none, 0, 0⟩, ⟨none, 0, 0⟩, ⟨none, 0, 0⟩⟩ ⟨(z0), (z1), (piece l 2 12), [], 0, [], [], 0, 0, [], []⟩ wx (RF.out.later hb)
      rw [HPP.out] at q
      exact q
    refine region_each (by kernel_rfl) [132, 133, 134, 135, 136] 5 (fun i => [132, 133, 134, 135, 136].getD i 0) (fun _ => 0)
      (fun i gB v wx => match i with
        | 0 => v = .agg #[.int .i64 (z0), .int .i64 (z1), .slice (some ⟨g3, 0, none⟩) 12 c3, .slice none 0 0, .int .i64 0, .slice none 0 0, .slice none 0 0, .int .i64 0, .int .i64 0, .slice none 0 0, .slice none 0 0]
        | 1 => ∃ m c, v = .slice (some ⟨gB, 0, none⟩) m c ∧ m = PP.length ∧ Row wx gB c PP
        | 2 => v = .string (strOfNums PP)
        | 3 => v = .slice (some ⟨bb, off, none⟩) 34 c
        | 4 => v = .string (strOfNums l)
        | _ => False) (fun wx => Below x3.heap.size x3 wx) (by kernel_rfl) (Below.refl _ _).drew ?_ ?_ ?_
    · intro i gB v wx wy hi hF hb _
      match i, hi with
      | 0, _ => exact hF
      | 1, _ => obtain ⟨m, c, h0, h1, h2⟩ := hF; exact ⟨m, c, h0, h1, h2.later hb⟩
      | 2, _ => exact hF
      | 3, _ => exact hF
      | 4, _ => exact hF
    · intro i hi t ρ wx hB hp hd
      match i, hi with
      | 0, _ =>
        have e4 : (fr [132, 133, 134, 135, 136] A t).eval (.tmp 4) = .pointer (some ⟨gf, 0, none⟩) := (fr_eval_old _ _ _ 4 rfl).trans a4'
        have hc0 : wx.cell? ⟨gf, 0, none⟩ = some (.int .i64 (z0)) := (hM wx hB).blk.cell 0 rfl
        have hc1 : wx.cell? ⟨gf, 1, none⟩ = some (.int .i64 (z1)) := (hM wx hB).blk.cell 1 rfl
        have hc2 : wx.cell? ⟨gf, 2, none⟩ = some (.slice (some ⟨g3, 0, none⟩) 12 c3) := (hM wx hB).blk.cell 2 rfl
        have hc3 : wx.cell? ⟨gf, 3, none⟩ = some (.slice none 0 0) := (hM wx hB).blk.cell 3 rfl
        have hc4 : wx.cell? ⟨gf, 4, none⟩ = some (.int .i64 0) := (hM wx hB).blk.cell 4 rfl
        have hc5 : wx.cell? ⟨gf, 5, none⟩ = some (.slice none 0 0) := (hM wx hB).blk.cell 5 rfl
        have hc6 : wx.cell? ⟨gf, 6, none⟩ = some (.slice none 0 0) := (hM wx hB).blk.cell 6 rfl
        have hc7 : wx.cell? ⟨gf, 7, none⟩ = some (.int .i64 0) := (hM wx hB).blk.cell 7 rfl
        have hc8 : wx.cell? ⟨gf, 8, none⟩ = some (.int .i64 0) := (hM wx hB).blk.cell 8 rfl
        have hc9 : wx.cell? ⟨gf, 9, none⟩ = some (.slice none 0 0) := (hM wx hB).blk.cell 9 rfl
        have hc10 : wx.cell? ⟨gf, 10, none⟩ = some (.slice none 0 0) := (hM wx hB).blk.cell 10 rfl
        refine op_run (v := .agg #[.int .i64 (z0), .int .i64 (z1), .slice (some ⟨g3, 0, none⟩) 12 c3, .slice none 0 0, .int .i64 0, .slice none 0 0, .slice none 0 0, .int .i64 0, .int .i64 0, .slice none 0 0, .slice none 0 0]) (w' := wx) rfl rfl ?_ ?_
        · clear hp hd; have ec : ∀ v, (fr [132, 133, 134, 135, 136] A t).eval (.const v) = v := fun _ => rfl; generalize (fr [132, 133, 134, 135, 136] A t).eval = ev at ec e4 ⊢; go_simp
        · exact ⟨_, 0, rfl, hB, Below.refl _ _, rfl, .inl rfl⟩
      | 1, _ =>
        have e132 : (fr [132, 133, 134, 135, 136] A t).eval (.tmp 132) = .agg #[.int .i64 (z0), .int .i64 (z1), .slice (some ⟨g3, 0, none⟩) 12 c3, .slice none 0 0, .int .i64 0, .slice none 0 0, .slice none 0 0, .int .i64 0, .int .i64 0, .slice none 0 0, .slice none 0 0] := (fr_eval _ _ _ 132 rfl (by rw [asz]; decide)).trans (hp 0 (pre_mem (by kernel_rfl)))
        refine op_call (f := 26) (args := #[.agg #[.int .i64 (z0), .int .i64 (z1), .slice (some ⟨g3, 0, none⟩) 12 c3, .slice none 0 0, .int .i64 0, .slice none 0 0, .slice none 0 0, .int .i64 0, .int .i64 0, .slice none 0 0, .slice none 0 0]]) rfl rfl ?_ (hPut wx hB) ?_
        · have ef : (fr [132, 133, 134, 135, 136] A t).eval (.func 26) = .func (.func 26) #[] #[] := rfl; clear hp hd; have ec : ∀ v, (fr [132, 133, 134, 135, 136] A t).eval (.const v) = v := fun _ => rfl; generalize (fr [132, 133, 134, 135, 136] A t).eval = ev at ec e132 ef ⊢; go_simp
        · rintro e wy ⟨g2, m2, c2, rfl, e2, k2, r2, b2⟩
          exact ⟨_, rfl, _, g2, rfl, hB.trans (b2.mono hB.size), b2, ⟨m2, c2, rfl, e2, r2⟩, .inl rfl⟩
      | 2, _ =>
        obtain ⟨m1, c1, hv1, q1_0, q1_1⟩ := hp 1 (pre_mem (by kernel_rfl))
        have e133 : (fr [132, 133, 134, 135, 136] A t).eval (.tmp 133) = .slice (some ⟨(ρ 1), 0, none⟩) m1 c1 := (fr_eval _ _ _ 133 rfl (by rw [asz]; decide)).trans hv1
        have hcv := convRow (c := c1) q1_0 q1_1.rd
        refine op_run (v := .string (strOfNums PP)) (w' := wx) rfl rfl ?_ ?_
        · clear hp hd q1_0 q1_1; have ec : ∀ v, (fr [132, 133, 134, 135, 136] A t).eval (.const v) = v := fun _ => rfl; generalize (fr [132, 133, 134, 135, 136] A t).eval = ev at ec e133 ⊢; go_simp
        · exact ⟨_, 0, rfl, hB, Below.refl _ _, rfl, .inl rfl⟩
      | 3, _ =>
        have e0 : (fr [132, 133, 134, 135, 136] A t).eval (.tmp 0) = .slice (some ⟨bb, off, none⟩) 34 c := (fr_eval_old _ _ _ 0 rfl).trans a0'
        refine op_run (v := .slice (some ⟨bb, off, none⟩) 34 c) (w' := wx) rfl rfl ?_ ?_
        · clear hp hd; have ec : ∀ v, (fr [132, 133, 134, 135, 136] A t).eval (.const v) = v := fun _ => rfl; generalize (fr [132, 133, 134, 135, 136] A t).eval = ev at ec e0 ⊢; go_simp
        · exact ⟨_, 0, rfl, hB, Below.refl _ _, rfl, .inl rfl⟩
      | 4, _ =>
        have e135 : (fr [132, 133, 134, 135, 136] A t).eval (.tmp 135) = .slice (some ⟨bb, off, none⟩) 34 c := (fr_eval _ _ _ 135 rfl (by rw [asz]; decide)).trans (hp 3 (pre_mem (by kernel_rfl)))
        have hcv := convAt (c := c) HLen.out (hR wx hB)
        refine op_run (v := .string (strOfNums l)) (w' := wx) rfl rfl ?_ ?_
        · clear hp hd; have ec : ∀ v, (fr [132, 133, 134, 135, 136] A t).eval (.const v) = v := fun _ => rfl; generalize (fr [132, 133, 134, 135, 136] A t).eval = ev at ec e135 ⊢; go_simp
        · exact ⟨_, 0, rfl, hB, Below.refl _ _, rfl, .inl rfl⟩
    · intro t ρ wx hB hF hne
      have e134 : (fr [132, 133, 134, 135, 136] A t).eval (.tmp 134) = .string (strOfNums PP) := (fr_eval _ _ _ 134 rfl (by rw [asz]; decide)).trans (hF 2 (by decide))
      have e136 : (fr [132, 133, 134, 135, 136] A t).eval (.tmp 136) = .string (strOfNums l) := (fr_eval _ _ _ 136 rfl (by rw [asz]; decide)).trans (hF 4 (by decide))
      clear hne
      have ES : Hid ((!((strOfNums PP).toList == (strOfNums l).toList)) = decide (PP ≠ l)) := strs_ne HPB.out HBy.out
      generalize strOfNums PP = sp at *
      generalize strOfNums l = sl at *
      refine op_wp rfl rfl ?_
      generalize hE : (fr [132, 133, 134, 135, 136] A t).eval = ev at e134 e136
      unfold Oper.wp
      rw [hE]
      go_simp
      refine hMet _ _ (Met.intro (hRJ _ _ ⟨t 132, t 133, t 134, t 135, t 136, _, ⟨by rw [← ES.out], hB⟩, ?_⟩))
      rw [← hA]; rfl
  case rest =>
    obtain ⟨z, hqz⟩ : ∃ z, z = wc := ⟨_, rfl⟩
    subst hqz
    obtain ⟨rfl, bz⟩ := hcut
    have KZ : Hid (Blk z gr 25 [.int .i64 0, .int .i64 0, .slice none 0 0, .slice none 0 0, .int .i64 0, .slice none 0 0, .slice none 0 0, .int .i64 0, .int .i64 0, .slice none 0 0, .slice none 0 0]) := KR3.out.later bz
    have BZ : Hid (Below w.heap.size w z) := B3.out.trans (bz.mono B3.out.size)
    have MX : Hid (FrMk z gf (gf + 1) ⟨(z0), (z1), (piece l 2 12), [], 0, [], [], 0, 0, [], []⟩ ⟨⟨some ⟨g3, 0, none⟩, 12, c3⟩, ⟨none, 0, 0⟩, ⟨none, 0, 0⟩, ⟨none, 0, 0⟩, ⟨none, 0, 0⟩, ⟨none, 0, 0⟩⟩) := M3.out.later bz
    clear bz M3 KR3 B3
    have zc0 := KZ.out.cell 0 rfl
    have zf0 := KZ.out.frozen 0
    have zc1 := KZ.out.cell 1 rfl
    have zf1 := KZ.out.frozen 1
    have zc2 := KZ.out.cell 2 rfl
    have zf2 := KZ.out.frozen 2
    have zc3 := KZ.out.cell 3 rfl
    have zf3 := KZ.out.frozen 3
    have zc4 := KZ.out.cell 4 rfl
    have zf4 := KZ.out.frozen 4
    have zc5 := KZ.out.cell 5 rfl
    have zf5 := KZ.out.frozen 5
    have zc6 := KZ.out.cell 6 rfl
    have zf6 := KZ.out.frozen 6
    have zc7 := KZ.out.cell 7 rfl
    have zf7 := KZ.out.frozen 7
    have zc8 := KZ.out.cell 8 rfl
    have zf8 := KZ.out.frozen 8
    have zc9 := KZ.out.cell 9 rfl
    have zf9 := KZ.out.frozen 9
    have zc10 := KZ.out.cell 10 rfl
    have zf10 := KZ.out.frozen 10
    by_cases hp : PP = l
    · have hd : decide (PP ≠ l) = false := by simpa using hp
      have HP : Hid (PP = l) := hp
      rw [hd]
      clear hp hd
      have zo0 : z.cell? ⟨gf, 0, none⟩ = some (.int .i64 (z0)) := MX.out.blk.cell 0 rfl
      have zo1 : z.cell? ⟨gf, 1, none⟩ = some (.int .i64 (z1)) := MX.out.blk.cell 1 rfl
      have zo2 : z.cell? ⟨gf, 2, none⟩ = some (.slice (some ⟨g3, 0, none⟩) 12 c3) := MX.out.blk.cell 2 rfl
      have zo3 : z.cell? ⟨gf, 3, none⟩ = some (.slice none 0 0) := MX.out.blk.cell 3 rfl
      have zo4 : z.cell? ⟨gf, 4, none⟩ = some (.int .i64 0) := MX.out.blk.cell 4 rfl
      have zo5 : z.cell? ⟨gf, 5, none⟩ = some (.slice none 0 0) := MX.out.blk.cell 5 rfl
      have zo6 : z.cell? ⟨gf, 6, none⟩ = some (.slice none 0 0) := MX.out.blk.cell 6 rfl
      have zo7 : z.cell? ⟨gf, 7, none⟩ = some (.int .i64 0) := MX.out.blk.cell 7 rfl
      have zo8 : z.cell? ⟨gf, 8, none⟩ = some (.int .i64 0) := MX.out.blk.cell 8 rfl
      have zo9 : z.cell? ⟨gf, 9, none⟩ = some (.slice none 0 0) := MX.out.blk.cell 9 rfl
      have zo10 : z.cell? ⟨gf, 10, none⟩ = some (.slice none 0 0) := MX.out.blk.cell 10 rfl
      have ne1 : gr ≠ gf := by have := HG.out; omega
      have ne2 : gf ≠ gr := by have := HG.out; omega
      go_wp2
      have KF : Blk ((((((((((((z).setCell ⟨gr, 0, none⟩ (.int .i64 (z0))).setCell ⟨gr, 1, none⟩ (.int .i64 (z1))).setCell ⟨gr, 2, none⟩ (.slice (some ⟨g3, 0, none⟩) 12 c3)).setCell ⟨gr, 3, none⟩ (.slice none 0 0)).setCell ⟨gr, 4, none⟩ (.int .i64 0)).setCell ⟨gr, 5, none⟩ (.slice none 0 0)).setCell ⟨gr, 6, none⟩ (.slice none 0 0)).setCell ⟨gr, 7, none⟩ (.int .i64 0)).setCell ⟨gr, 8, none⟩ (.int .i64 0)).setCell ⟨gr, 9, none⟩ (.slice none 0 0)).setCell ⟨gr, 10, none⟩ (.slice none 0 0)) gr 25 [.int .i64 (z0), .int .i64 (z1), .slice (some ⟨g3, 0, none⟩) 12 c3, .slice none 0 0, .int .i64 0, .slice none 0 0, .slice none 0 0, .int .i64 0, .int .i64 0, .slice none 0 0, .slice none 0 0] := (((((((((((KZ.out).set 0 _ (by simp [maxLen])).set 1 _ (by simp [maxLen])).set 2 _ (by simp [maxLen])).set 3 _ (by simp [maxLen])).set 4 _ (by simp [maxLen])).set 5 _ (by simp [maxLen])).set 6 _ (by simp [maxLen])).set 7 _ (by simp [maxLen])).set 8 _ (by simp [maxLen])).set 9 _ (by simp [maxLen])).set 10 _ (by simp [maxLen])
      have KK : Kept gr (gr + 1) z ((((((((((((z).setCell ⟨gr, 0, none⟩ (.int .i64 (z0))).setCell ⟨gr, 1, none⟩ (.int .i64 (z1))).setCell ⟨gr, 2, none⟩ (.slice (some ⟨g3, 0, none⟩) 12 c3)).setCell ⟨gr, 3, none⟩ (.slice none 0 0)).setCell ⟨gr, 4, none⟩ (.int .i64 0)).setCell ⟨gr, 5, none⟩ (.slice none 0 0)).setCell ⟨gr, 6, none⟩ (.slice none 0 0)).setCell ⟨gr, 7, none⟩ (.int .i64 0)).setCell ⟨gr, 8, none⟩ (.int .i64 0)).setCell ⟨gr, 9, none⟩ (.slice none 0 0)).setCell ⟨gr, 10, none⟩ (.slice none 0 0)) := ((((((((((((Kept.refl gr (gr + 1) z)).trans (Kept.setCell _ gr 0 _)).trans (Kept.setCell _ gr 1 _)).trans (Kept.setCell _ gr 2 _)).trans (Kept.setCell _ gr 3 _)).trans (Kept.setCell _ gr 4 _)).trans (Kept.setCell _ gr 5 _)).trans (Kept.setCell _ gr 6 _)).trans (Kept.setCell _ gr 7 _)).trans (Kept.setCell _ gr 8 _)).trans (Kept.setCell _ gr 9 _)).trans (Kept.setCell _ gr 10 _)
      exact ret_got rfl rfl rfl KF rfl (D := ⟨(z0), (z1), (piece l 2 12), [], 0, [], [], 0, 0, [], []⟩) (S := ⟨⟨some ⟨g3, 0, none⟩, 12, c3⟩, ⟨none, 0, 0⟩, ⟨none, 0, 0⟩, ⟨none, 0, 0⟩, ⟨none, 0, 0⟩, ⟨none, 0, 0⟩⟩) (CA.out.yes (HPP.out.trans HP.out)) ((MX.out.own.carry KK (.inr (by have := HG.out; omega))).mono (by have := HG.out; omega) KK.size) ((((((((((((BZ.out).setCell (by show _ ≤ gr; have := HG.out; omega) _).setCell (by show _ ≤ gr; have := HG.out; omega) _).setCell (by show _ ≤ gr; have := HG.out; omega) _).setCell (by show _ ≤ gr; have := HG.out; omega) _).setCell (by show _ ≤ gr; have := HG.out; omega) _).setCell (by show _ ≤ gr; have := HG.out; omega) _).setCell (by show _ ≤ gr; have := HG.out; omega) _).setCell (by show _ ≤ gr; have := HG.out; omega) _).setCell (by show _ ≤ gr; have := HG.out; omega) _).setCell (by show _ ≤ gr; have := HG.out; omega) _).setCell (by show _ ≤ gr; have := HG.out; omega) _)
    · have hd : decide (PP ≠ l) = true := by simpa using hp
      have HP : Hid (PP ≠ l) := hp
      rw [hd]
      clear hp hd
      go_wp2
      have KF : Blk ((((((((((((z).setCell ⟨gr, 0, none⟩ (.int .i64 0)).setCell ⟨gr, 1, none⟩ (.int .i64 0)).setCell ⟨gr, 2, none⟩ (.slice none 0 0)).setCell ⟨gr, 3, none⟩ (.slice none 0 0)).setCell ⟨gr, 4, none⟩ (.int .i64 0)).setCell ⟨gr, 5, none⟩ (.slice none 0 0)).setCell ⟨gr, 6, none⟩ (.slice none 0 0)).setCell ⟨gr, 7, none⟩ (.int .i64 0)).setCell ⟨gr, 8, none⟩ (.int .i64 0)).setCell ⟨gr, 9, none⟩ (.slice none 0 0)).setCell ⟨gr, 10, none⟩ (.slice none 0 0)) gr 25 [.int .i64 0, .int .i64 0, .slice none 0 0, .slice none 0 0, .int .i64 0, .slice none 0 0, .slice none 0 0, .int .i64 0, .int .i64 0, .slice none 0 0, .slice none 0 0] := (((((((((((KZ.out).set 0 _ (by simp [maxLen])).set 1 _ (by simp [maxLen])).set 2 _ (by simp [maxLen])).set 3 _ (by simp [maxLen])).set 4 _ (by simp [maxLen])).set 5 _ (by simp [maxLen])).set 6 _ (by simp [maxLen])).set 7 _ (by simp [maxLen])).set 8 _ (by simp [maxLen])).set 9 _ (by simp [maxLen])).set 10 _ (by simp [maxLen])
      exact ret_got rfl rfl rfl KF rfl (D := zeroF) (S := SN) (CA.out.no (by rw [HPP.out]; exact HP.out)) (own_nil _ _ _) ((((((((((((BZ.out).setCell (by show _ ≤ gr; have := HG.out; omega) _).setCell (by show _ ≤ gr; have := HG.out; omega) _).setCell (by show _ ≤ gr; have := HG.out; omega) _).setCell (by show _ ≤ gr; have := HG.out; omega) _).setCell (by show _ ≤ gr; have := HG.out; omega) _).setCell (by show _ ≤ gr; have := HG.out; omega) _).setCell (by show _ ≤ gr; have := HG.out; omega) _).setCell (by show _ ≤ gr; have := HG.out; omega) _).setCell (by show _ ≤ gr; have := HG.out; omega) _).setCell (by show _ ≤ gr; have := HG.out; omega) _).setCell (by show _ ≤ gr; have := HG.out; omega) _)

set_option maxRecDepth 100000 in
set_option maxHeartbeats 8000000 in
theorem get2_yes (bb off N c : Nat) (l : List Int) (w : World) (hn : N = l.length) (hr : Rd w (some ⟨bb, off, none⟩) l) (hb : Bytes l) (hc : N ≤ c) (hm : N ≤ 4194304) (k1 : (l.getD 0 0 == 1) = false) (k2 : (l.getD 0 0 == 2) = true) (hl : N = 45) (h0 : ¬ N = 0) :
    Calls Try.prog 19 #[.slice (some ⟨bb, off, none⟩) N c] w (Gave w l) := by
  have HRd : Hid (Rd w (some ⟨bb, off, none⟩) l) := hr
  have HBy : Hid (Bytes l) := hb
  have HLen : Hid (N = l.length) := hn
  obtain ⟨x0, hx0⟩ : ∃ x0, (w.alloc (.cells #[.int .i64 0, .int .i64 0, .slice none 0 0, .slice none 0 0, .int .i64 0, .slice none 0 0, .slice none 0 0, .int .i64 0, .int .i64 0, .slice none 0 0, .slice none 0 0] 25)).alloc (.cells #[.int .i64 0, .int .i64 0, .slice none 0 0, .slice none 0 0, .int .i64 0, .slice none 0 0, .slice none 0 0, .int .i64 0, .int .i64 0, .slice none 0 0, .slice none 0 0] 25) = x0 := ⟨_, rfl⟩
  have HW0 : Hid ((w.alloc (.cells #[.int .i64 0, .int .i64 0, .slice none 0 0, .slice none 0 0, .int .i64 0, .slice none 0 0, .slice none 0 0, .int .i64 0, .int .i64 0, .slice none 0 0, .slice none 0 0] 25)).alloc (.cells #[.int .i64 0, .int .i64 0, .slice none 0 0, .slice none 0 0, .int .i64 0, .slice none 0 0, .slice none 0 0, .int .i64 0, .int .i64 0, .slice none 0 0, .slice none 0 0] 25) = x0) := hx0
  have B0 : Hid (Below w.heap.size w x0) := by rw [← hx0]; exact ((Below.refl _ _).alloc (Nat.le_refl _) _).alloc (by simp) _
  have KR0 : Hid (Blk x0 w.heap.size 25 [.int .i64 0, .int .i64 0, .slice none 0 0, .slice none 0 0, .int .i64 0, .slice none 0 0, .slice none 0 0, .int .i64 0, .int .i64 0, .slice none 0 0, .slice none 0 0]) := by rw [← hx0]; exact (Blk.new w _ [.int .i64 0, .int .i64 0, .slice none 0 0, .slice none 0 0, .int .i64 0, .slice none 0 0, .slice none 0 0, .int .i64 0, .int .i64 0, .slice none 0 0, .slice none 0 0]).alloc _
  have KF0 : Blk x0 (w.heap.size + 1) 25 [.int .i64 0, .int .i64 0, .slice none 0 0, .slice none 0 0, .int .i64 0, .slice none 0 0, .slice none 0 0, .int .i64 0, .int .i64 0, .slice none 0 0, .slice none 0 0] := by
    have := Blk.new (w.alloc (.cells #[.int .i64 0, .int .i64 0, .slice none 0 0, .slice none 0 0, .int .i64 0, .slice none 0 0, .slice none 0 0, .int .i64 0, .int .i64 0, .slice none 0 0, .slice none 0 0] 25)) 25 [.int .i64 0, .int .i64 0, .slice none 0 0, .slice none 0 0, .int .i64 0, .slice none 0 0, .slice none 0 0, .int .i64 0, .int .i64 0, .slice none 0 0, .slice none 0 0]
    rw [World.size_alloc] at this
    rw [← hx0]; exact this
  have M0 : Hid (FrMk x0 (w.heap.size + 1) (w.heap.size + 1 + 1) ⟨0, 0, [], [], 0, [], [], 0, 0, [], []⟩ ⟨⟨none, 0, 0⟩, ⟨none, 0, 0⟩, ⟨none, 0, 0⟩, ⟨none, 0, 0⟩, ⟨none, 0, 0⟩, ⟨none, 0, 0⟩⟩) := ⟨KF0, own_nil _ _ _, Nat.lt_succ_self _⟩
  clear hx0 hr hb KF0 hn
  subst hl
  have cb13 : (13 : Int) ≤ (c : Int) := by omega
  have cb25 : (25 : Int) ≤ (c : Int) := by omega
  have cb45 : (45 : Int) ≤ (c : Int) := by omega
  have cn1 : ¬ c = 1 := by omega
  have cn13 : ¬ c = 13 := by omega
  have cn29 : ¬ c = 29 := by omega
  obtain ⟨z0, hz0⟩ : ∃ z0, l.getD 0 0 = z0 := ⟨_, rfl⟩
  have HZ0 : Hid (l.getD 0 0 = z0) := hz0
  rw [hz0] at k1 k2
  have hb0 := HBy.out.at 0
  rw [hz0] at hb0
  have hwz : IntKind.i64.wrap z0 = z0 := by rw [IntKind.wrap_i64]; omega
  have hcb : x0.cell? ⟨bb, off, none⟩ = some (.int .u8 z0) := by
    obtain ⟨b', off', e, h3, h4⟩ := HRd.out 0 (by have := HLen.out; omega)
    simp only [Option.some.injEq, Addr.mk.injEq, and_true] at e
    obtain ⟨rfl, rfl⟩ := e
    rw [Nat.add_zero, hz0] at h4
    rw [B0.out.cell h3]; exact h4
  clear hz0 hb0
  go_enter Try.func19, Try.ntmps19
  go_upto_region 4 with fail
  rw [HW0.out]
  obtain ⟨gr, hgr⟩ : ∃ gr, w.heap.size = gr := ⟨_, rfl⟩
  obtain ⟨gf, hgf⟩ : ∃ gf, w.heap.size + 1 = gf := ⟨_, rfl⟩
  have HG : Hid (w.heap.size = gr ∧ gf = gr + 1) := ⟨hgr, by omega⟩
  rw [hgf] at M0 ⊢
  rw [hgr] at KR0
  rw [hgr]
  clear hgr hgf HW0
  have co : x0.cell? ⟨gf, 0, none⟩ = some (.int .i64 0) := M0.out.blk.cell 0 rfl
  have fo := M0.out.blk.frozen 0
  obtain ⟨x1, hx1⟩ : ∃ x1, x0.setCell ⟨gf, 0, none⟩ (.int .i64 (z0)) = x1 := ⟨_, rfl⟩
  have HW1 : Hid (x0.setCell ⟨gf, 0, none⟩ (.int .i64 (z0)) = x1) := hx1
  have M1 : Hid (FrMk x1 gf (gf + 1) ⟨(z0), 0, [], [], 0, [], [], 0, 0, [], []⟩ ⟨⟨none, 0, 0⟩, ⟨none, 0, 0⟩, ⟨none, 0, 0⟩, ⟨none, 0, 0⟩, ⟨none, 0, 0⟩, ⟨none, 0, 0⟩⟩) := by rw [← hx1]; exact M0.out.kind _
  have KR1 : Hid (Blk x1 gr 25 [.int .i64 0, .int .i64 0, .slice none 0 0, .slice none 0 0, .int .i64 0, .slice none 0 0, .slice none 0 0, .int .i64 0, .int .i64 0, .slice none 0 0, .slice none 0 0]) := by rw [← hx1]; exact KR0.out.other (by show gr ≠ gf; have := HG.out; omega) _
  have B1 : Hid (Below w.heap.size w x1) := by rw [← hx1]; exact B0.out.setCell (by show _ ≤ gf; have := HG.out; omega) _
  clear hx1
  go_upto_region 5 with fail
  rw [HW1.out]
  clear co fo HW1 M0 KR0 B0
  have kc : x1.cell? ⟨gf, 0, none⟩ = some (.int .i64 z0) := M1.out.blk.cell 0 rfl
  go_upto_region 21 with fail
  have R0 : Hid (Row (x1.alloc (.cells #[] 5)) x1.heap.size 0 []) := row_new x1 [] (by simp)
  have A0 : Hid (Below x1.heap.size x1 (x1.alloc (.cells #[] 5))) := (Below.refl _ _).alloc (Nat.le_refl _) _
  have RP : Hid (Rd (x1.alloc (.cells #[] 5)) (some ⟨bb, off + 1, none⟩) (piece l 1 12)) := (rdPiece HRd.out 1 (piece l 1 12) (piece_sub l 1 12)).later (B1.out.alloc B1.out.size _) (Nat.le_refl _)
  have HB2 : Hid (Bytes (piece l 1 12)) := bytes_piece HBy.out _ _
  go_upto_region 22 with (at_builtin; refine wpList_app _ rfl (.tmp 72) (.tmp 74) rfl x1.heap.size x1.heap.size 0 0 [] (piece l 1 12) rfl rfl R0.out (Nat.le_refl _) _ _ _ rfl (by rw [piece_length l 1 12 (by have := HLen.out; omega)]) RP.out (by intro e; cases e) (by rw [piece_length l 1 12 (by have := HLen.out; omega)]; simp) ?_; intro g2 c2 y2 r2 k2 l2 gr2; have RR2 : Hid (Row y2 g2 c2 (piece l 1 12)) := r2; have GE2 : Hid (x1.heap.size ≤ g2) := k2; have BY2 : Hid (Below x1.heap.size x1 y2) := A0.out.grown gr2 A0.out.size (fun k h => by cases h; exact Nat.le_refl _); have co : y2.cell? ⟨gf, 2, none⟩ = some (.slice none 0 0) := (M1.out.later BY2.out).blk.cell 2 rfl; have fo := (M1.out.later BY2.out).blk.frozen 2; clear r2 k2 l2 gr2)
  obtain ⟨x2, hx2⟩ : ∃ x2, y2.setCell ⟨gf, 2, none⟩ (.slice (some ⟨g2, 0, none⟩) 12 c2) = x2 := ⟨_, rfl⟩
  have HW2 : Hid (y2.setCell ⟨gf, 2, none⟩ (.slice (some ⟨g2, 0, none⟩) 12 c2) = x2) := hx2
  have M2 : Hid (FrMk x2 gf (gf + 1) ⟨(z0), 0, (piece l 1 12), [], 0, [], [], 0, 0, [], []⟩ ⟨⟨some ⟨g2, 0, none⟩, 12, c2⟩, ⟨none, 0, 0⟩, ⟨none, 0, 0⟩, ⟨none, 0, 0⟩, ⟨none, 0, 0⟩, ⟨none, 0, 0⟩⟩) := by rw [← hx2]; exact M1.out.cn M1.out.blk.lt BY2.out RR2.out (by rw [piece_length l 1 12 (by have := HLen.out; omega)]) HB2.out GE2.out
  have KR2 : Hid (Blk x2 gr 25 [.int .i64 0, .int .i64 0, .slice none 0 0, .slice none 0 0, .int .i64 0, .slice none 0 0, .slice none 0 0, .int .i64 0, .int .i64 0, .slice none 0 0, .slice none 0 0]) := by rw [← hx2]; exact (KR1.out.later BY2.out).other (by show gr ≠ gf; have := HG.out; omega) _
  have B2 : Hid (Below w.heap.size w x2) := by rw [← hx2]; exact (B1.out.trans (BY2.out.mono B1.out.size)).setCell (by show _ ≤ gf; have := HG.out; omega) _
  clear hx2 R0 A0 RP
  rw [HW2.out]
  clear co fo HW2 M1 KR1 B1 RR2 GE2 BY2 HB2
  have R0 : Hid (Row (x2.alloc (.cells #[] 5)) x2.heap.size 0 []) := row_new x2 [] (by simp)
  have A0 : Hid (Below x2.heap.size x2 (x2.alloc (.cells #[] 5))) := (Below.refl _ _).alloc (Nat.le_refl _) _
  have RP : Hid (Rd (x2.alloc (.cells #[] 5)) (some ⟨bb, off + 13, none⟩) (piece l 13 12)) := (rdPiece HRd.out 13 (piece l 13 12) (piece_sub l 13 12)).later (B2.out.alloc B2.out.size _) (Nat.le_refl _)
  have HB3 : Hid (Bytes (piece l 13 12)) := bytes_piece HBy.out _ _
  go_upto_region 23 with (at_builtin; refine wpList_app _ rfl (.tmp 77) (.tmp 79) rfl x2.heap.size x2.heap.size 0 0 [] (piece l 13 12) rfl rfl R0.out (Nat.le_refl _) _ _ _ rfl (by rw [piece_length l 13 12 (by have := HLen.out; omega)]) RP.out (by intro e; cases e) (by rw [piece_length l 13 12 (by have := HLen.out; omega)]; simp) ?_; intro g3 c3 y3 r3 k3 l3 gr3; have RR3 : Hid (Row y3 g3 c3 (piece l 13 12)) := r3; have GE3 : Hid (x2.heap.size ≤ g3) := k3; have BY3 : Hid (Below x2.heap.size x2 y3) := A0.out.grown gr3 A0.out.size (fun k h => by cases h; exact Nat.le_refl _); have co : y3.cell? ⟨gf, 3, none⟩ = some (.slice none 0 0) := (M2.out.later BY3.out).blk.cell 3 rfl; have fo := (M2.out.later BY3.out).blk.frozen 3; clear r3 k3 l3 gr3)
  obtain ⟨x3, hx3⟩ : ∃ x3, y3.setCell ⟨gf, 3, none⟩ (.slice (some ⟨g3, 0, none⟩) 12 c3) = x3 := ⟨_, rfl⟩
  have HW3 : Hid (y3.setCell ⟨gf, 3, none⟩ (.slice (some ⟨g3, 0, none⟩) 12 c3) = x3) := hx3
  have M3 : Hid (FrMk x3 gf (gf + 1) ⟨(z0), 0, (piece l 1 12), (piece l 13 12), 0, [], [], 0, 0, [], []⟩ ⟨⟨some ⟨g2, 0, none⟩, 12, c2⟩, ⟨some ⟨g3, 0, none⟩, 12, c3⟩, ⟨none, 0, 0⟩, ⟨none, 0, 0⟩, ⟨none, 0, 0⟩, ⟨none, 0, 0⟩⟩) := by rw [← hx3]; exact M2.out.sn M2.out.blk.lt BY3.out RR3.out (by rw [piece_length l 13 12 (by have := HLen.out; omega)]) HB3.out GE3.out
  have KR3 : Hid (Blk x3 gr 25 [.int .i64 0, .int .i64 0, .slice none 0 0, .slice none 0 0, .int .i64 0, .slice none 0 0, .slice none 0 0, .int .i64 0, .int .i64 0, .slice none 0 0, .slice none 0 0]) := by rw [← hx3]; exact (KR2.out.later BY3.out).other (by show gr ≠ gf; have := HG.out; omega) _
  have B3 : Hid (Below w.heap.size w x3) := by rw [← hx3]; exact (B2.out.trans (BY3.out.mono B2.out.size)).setCell (by show _ ≤ gf; have := HG.out; omega) _
  clear hx3 R0 A0 RP
  rw [HW3.out]
  clear co fo HW3 M2 KR2 B2 RR3 GE3 BY3 HB3
  have co : x3.cell? ⟨gf, 4, none⟩ = some (.int .i64 0) := M3.out.blk.cell 4 rfl
  have fo := M3.out.blk.frozen 4
  have GN : Hid (gotN l 25 4 = .tuple #[.int .i64 (val (piece l 25 4)), .int .i64 29, .bool true]) := gotN_yes l 25 4 29 rfl rfl (by have := HLen.out; omega)
  go_wp2_with fail
  refine (specGetN (some ⟨bb, off, none⟩) 45 c l 25 4 x3 HLen.out (HRd.out.later B3.out (Nat.le_refl _)) HBy.out (by omega)).mono ?_
  rw [GN.out]
  rintro e y ⟨rfl, rfl⟩
  clear GN
  obtain ⟨x4, hx4⟩ : ∃ x4, x3.setCell ⟨gf, 4, none⟩ (.int .i64 (val (piece l 25 4))) = x4 := ⟨_, rfl⟩
  have HW4 : Hid (x3.setCell ⟨gf, 4, none⟩ (.int .i64 (val (piece l 25 4))) = x4) := hx4
  have M4 : Hid (FrMk x4 gf (gf + 1) ⟨(z0), 0, (piece l 1 12), (piece l 13 12), (val (piece l 25 4)), [], [], 0, 0, [], []⟩ ⟨⟨some ⟨g2, 0, none⟩, 12, c2⟩, ⟨some ⟨g3, 0, none⟩, 12, c3⟩, ⟨none, 0, 0⟩, ⟨none, 0, 0⟩, ⟨none, 0, 0⟩, ⟨none, 0, 0⟩⟩) := by rw [← hx4]; exact M3.out.tick _
  have KR4 : Hid (Blk x4 gr 25 [.int .i64 0, .int .i64 0, .slice none 0 0, .slice none 0 0, .int .i64 0, .slice none 0 0, .slice none 0 0, .int .i64 0, .int .i64 0, .slice none 0 0, .slice none 0 0]) := by rw [← hx4]; exact KR3.out.other (by show gr ≠ gf; have := HG.out; omega) _
  have B4 : Hid (Below w.heap.size w x4) := by rw [← hx4]; exact B3.out.setCell (by show _ ≤ gf; have := HG.out; omega) _
  clear hx4
  go_upto_region 24 with fail
  rw [HW4.out]
  clear co fo HW4 M3 KR3 B3
  have R0 : Hid (Row (x4.alloc (.cells #[] 5)) x4.heap.size 0 []) := row_new x4 [] (by simp)
  have A0 : Hid (Below x4.heap.size x4 (x4.alloc (.cells #[] 5))) := (Below.refl _ _).alloc (Nat.le_refl _) _
  have RP : Hid (Rd (x4.alloc (.cells #[] 5)) (some ⟨bb, off + 29, none⟩) (l.drop 29)) := (rdPiece HRd.out 29 (l.drop 29) (drop_sub l 29)).later (B4.out.alloc B4.out.size _) (Nat.le_refl _)
  have HB5 : Hid (Bytes (l.drop 29)) := bytes_drop HBy.out _
  go_upto_region 34 with (at_builtin; refine wpList_app _ rfl (.tmp 89) (.tmp 91) rfl x4.heap.size x4.heap.size 0 0 [] (l.drop 29) rfl rfl R0.out (Nat.le_refl _) _ _ _ rfl (by rw [List.length_drop]; have := HLen.out; omega) RP.out (by intro e; cases e) (by rw [List.length_nil, List.length_drop]; have := HLen.out; omega) ?_; intro g5 c5 y5 r5 k5 l5 gr5; have RR5 : Hid (Row y5 g5 c5 (l.drop 29)) := r5; have GE5 : Hid (x4.heap.size ≤ g5) := k5; have BY5 : Hid (Below x4.heap.size x4 y5) := A0.out.grown gr5 A0.out.size (fun k h => by cases h; exact Nat.le_refl _); have co : y5.cell? ⟨gf, 5, none⟩ = some (.slice none 0 0) := (M4.out.later BY5.out).blk.cell 5 rfl; have fo := (M4.out.later BY5.out).blk.frozen 5; clear r5 k5 l5 gr5)
  obtain ⟨x5, hx5⟩ : ∃ x5, y5.setCell ⟨gf, 5, none⟩ (.slice (some ⟨g5, 0, none⟩) 16 c5) = x5 := ⟨_, rfl⟩
  have HW5 : Hid (y5.setCell ⟨gf, 5, none⟩ (.slice (some ⟨g5, 0, none⟩) 16 c5) = x5) := hx5
  have M5 : Hid (FrMk x5 gf (gf + 1) ⟨(z0), 0, (piece l 1 12), (piece l 13 12), (val (piece l 25 4)), (l.drop 29), [], 0, 0, [], []⟩ ⟨⟨some ⟨g2, 0, none⟩, 12, c2⟩, ⟨some ⟨g3, 0, none⟩, 12, c3⟩, ⟨some ⟨g5, 0, none⟩, 16, c5⟩, ⟨none, 0, 0⟩, ⟨none, 0, 0⟩, ⟨none, 0, 0⟩⟩) := by rw [← hx5]; exact M4.out.cookie M4.out.blk.lt BY5.out RR5.out (by rw [List.length_drop]; have := HLen.out; omega) HB5.out GE5.out
  have KR5 : Hid (Blk x5 gr 25 [.int .i64 0, .int .i64 0, .slice none 0 0, .slice none 0 0, .int .i64 0, .slice none 0 0, .slice none 0 0, .int .i64 0, .int .i64 0, .slice none 0 0, .slice none 0 0]) := by rw [← hx5]; exact (KR4.out.later BY5.out).other (by show gr ≠ gf; have := HG.out; omega) _
  have B5 : Hid (Below w.heap.size w x5) := by rw [← hx5]; exact (B4.out.trans (BY5.out.mono B4.out.size)).setCell (by show _ ≤ gf; have := HG.out; omega) _
  clear hx5 R0 A0 RP
  rw [HW5.out]
  clear co fo HW5 M4 KR4 B4 RR5 GE5 BY5 HB5
  have CA : Hid (Cand l ⟨(z0), 0, (piece l 1 12), (piece l 13 12), (val (piece l 25 4)), (l.drop 29), [], 0, 0, [], []⟩) := by have q := cand2 (b := l) (by rw [HZ0.out]; exact eq_of_beq k2); unfold get2 at q; rw [HZ0.out] at q; exact q
  have RF : Hid (FrRd x5 ⟨⟨some ⟨g2, 0, none⟩, 12, c2⟩, ⟨some ⟨g3, 0, none⟩, 12, c3⟩, ⟨some ⟨g5, 0, none⟩, 16, c5⟩, ⟨none, 0, 0⟩, ⟨none, 0, 0⟩, ⟨none, 0, 0⟩⟩ ⟨(z0), 0, (piece l 1 12), (piece l 13 12), (val (piece l 25 4)), (l.drop 29), [], 0, 0, [], []⟩) := M5.out.own.rd
  obtain ⟨PP, hPP⟩ : ∃ PP, putF ⟨(z0), 0, (piece l 1 12), (piece l 13 12), (val (piece l 25 4)), (l.drop 29), [], 0, 0, [], []⟩ = PP := ⟨_, rfl⟩
  have HPP : Hid (putF ⟨(z0), 0, (piece l 1 12), (piece l 13 12), (val (piece l 25 4)), (l.drop 29), [], 0, 0, [], []⟩ = PP) := hPP
  have HPB : Hid (Bytes PP) := by rw [← hPP]; exact putF_bytes RF.out
  clear hPP
  go_cut [137] from 132 to 136 (fun s137 wx => s137 = .bool (decide (PP ≠ l)) ∧ Below x5.heap.size x5 wx)
  case first =>
    rename_i J K' hRJ hMet
    generalize hA : Act.mk _ _ = A
    have a0' : A.eval (.tmp 0) = .slice (some ⟨bb, off, none⟩) 45 c := by rw [← hA]; rfl
    have a4' : A.eval (.tmp 4) = .pointer (some ⟨gf, 0, none⟩) := by rw [← hA]; rfl
    have asz : A.tmps.size = 140 := by rw [← hA]; rfl
    have hM : ∀ wx, Below x5.heap.size x5 wx → FrMk wx gf (gf + 1) ⟨(z0), 0, (piece l 1 12), (piece l 13 12), (val (piece l 25 4)), (l.drop 29), [], 0, 0, [], []⟩ ⟨⟨some ⟨g2, 0, none⟩, 12, c2⟩, ⟨some ⟨g3, 0, none⟩, 12, c3⟩, ⟨some ⟨g5, 0, none⟩, 16, c5⟩, ⟨none, 0, 0⟩, ⟨none, 0, 0⟩, ⟨none, 0, 0⟩⟩ := fun wx hb => M5.out.later hb
    have hR : ∀ wx, Below x5.heap.size x5 wx → Rd wx (some ⟨bb, off, none⟩) l := fun wx hb => HRd.out.later (B5.out.trans (hb.mono B5.out.size)) (Nat.le_refl _)
    have hPut : ∀ wx, Below x5.heap.size x5 wx → Calls Try.prog 26 #[.agg #[.int .i64 (z0), .int .i64 0, .slice (some ⟨g2, 0, none⟩) 12 c2, .slice (some ⟨g3, 0, none⟩) 12 c3, .int .i64 (val (piece l 25 4)), .slice (some ⟨g5, 0, none⟩) 16 c5, .slice none 0 0, .int .i64 0, .int .i64 0, .slice none 0 0, .slice none 0 0]] wx (fun e w' => ∃ g m c, e = .returned (.slice (some ⟨g, 0, none⟩) m c) ∧ m = PP.length ∧ wx.heap.size ≤ g ∧ Row w' g c PP ∧ Below wx.heap.size wx w') := fun wx hb => by
      have q := specPutFrame ⟨⟨some ⟨g2, 0, none⟩, 12, c2⟩, ⟨some ⟨g3, 0, none⟩, 12, c3⟩, ⟨some ⟨g5, 0, none⟩, 16, c5⟩, ⟨none, 0, 0⟩, ⟨none, 0, 0⟩, ⟨none, 0, 0⟩⟩ ⟨(z0), 0, (piece l 1 12), (piece l 13 12), (val (piece l 25 4)), (l.drop 29), [], 0, 0, [], []⟩ wx (RF.out.later hb)
      rw [HPP.out] at q
      exact q
    refine region_each (by kernel_rfl) [132, 133, 134, 135, 136] 5 (fun i => [132, 133, 134, 135, 136].getD i 0) (fun _ => 0)
      (fun i gB v wx => match i with
        | 0 => v = .agg #[.int .i64 (z0), .int .i64 0, .slice (some ⟨g2, 0, none⟩) 12 c2, .slice (some ⟨g3, 0, none⟩) 12 c3, .int .i64 (val (piece l 25 4)), .slice (some ⟨g5, 0, none⟩) 16 c5, .slice none 0 0, .int .i64 0, .int .i64 0, .slice none 0 0, .slice none 0 0]
        | 1 => ∃ m c, v = .slice (some ⟨gB, 0, none⟩) m c ∧ m = PP.length ∧ Row wx gB c PP
        | 2 => v = .string (strOfNums PP)
        | 3 => v = .slice (some ⟨bb, off, none⟩) 45 c
        | 4 => v = .string (strOfNums l)
        | _ => False) (fun wx => Below x5.heap.size x5 wx) (by kernel_rfl) (Below.refl _ _).drew ?_ ?_ ?_
    · intro i gB v wx wy hi hF hb _
      match i, hi with
      | 0, _ => exact hF
      | 1, _ => obtain ⟨m, c, h0, h1, h2⟩ := hF; exact ⟨m, c, h0, h1, h2.later hb⟩
      | 2, _ => exact hF
      | 3, _ => exact hF
      | 4, _ => exact hF
    · intro i hi t ρ wx hB hp hd
      match i, hi with
      | 0, _ =>
        have e4 : (fr [132, 133, 134, 135, 136] A t).eval (.tmp 4) = .pointer (some ⟨gf, 0, none⟩) := (fr_eval_old _ _ _ 4 rfl).trans a4'
        have hc0 : wx.cell? ⟨gf, 0, none⟩ = some (.int .i64 (z0)) := (hM wx hB).blk.cell 0 rfl
        have hc1 : wx.cell? ⟨gf, 1, none⟩ = some (.int .i64 0) := (hM wx hB).blk.cell 1 rfl
        have hc2 : wx.cell? ⟨gf, 2, none⟩ = some (.slice (some ⟨g2, 0, none⟩) 12 c2) := (hM wx hB).blk.cell 2 rfl
        have hc3 : wx.cell? ⟨gf, 3, none⟩ = some (.slice (some ⟨g3, 0, none⟩) 12 c3) := (hM wx hB).blk.cell 3 rfl
        have hc4 : wx.cell? ⟨gf, 4, none⟩ = some (.int .i64 (val (piece l 25 4))) := (hM wx hB).blk.cell 4 rfl
        have hc5 : wx.cell? ⟨gf, 5, none⟩ = some (.slice (some ⟨g5, 0, none⟩) 16 c5) := (hM wx hB).blk.cell 5 rfl
        have hc6 : wx.cell? ⟨gf, 6, none⟩ = some (.slice none 0 0) := (hM wx hB).blk.cell 6 rfl
        have hc7 : wx.cell? ⟨gf, 7, none⟩ = some (.int .i64 0) := (hM wx hB).blk.cell 7 rfl
        have hc8 : wx.cell? ⟨gf, 8, none⟩ = some (.int .i64 0) := (hM wx hB).blk.cell 8 rfl
        have hc9 : wx.cell? ⟨gf, 9, none⟩ = some (.slice none 0 0) := (hM wx hB).blk.cell 9 rfl
        have hc10 : wx.cell? ⟨gf, 10, none⟩ = some (.slice none 0 0) := (hM wx hB).blk.cell 10 rfl
        refine op_run (v := .agg #[.int .i64 (z0), .int .i64 0, .slice (some ⟨g2, 0, none⟩) 12 c2, .slice (some ⟨g3, 0, none⟩) 12 c3, .int .i64 (val (piece l 25 4)), .slice (some ⟨g5, 0, none⟩) 16 c5, .slice none 0 0, .int .i64 0, .int .i64 0, .slice none 0 0, .slice none 0 0]) (w' := wx) rfl rfl ?_ ?_
        · clear hp hd; have ec : ∀ v, (fr [132, 133, 134, 135, 136] A t).eval (.const v) = v := fun _ => rfl; generalize (fr [132, 133, 134, 135, 136] A t).eval = ev at ec e4 ⊢; go_simp
        · exact ⟨_, 0, rfl, hB, Below.refl _ _, rfl, .inl rfl⟩
      | 1, _ =>
        have e132 : (fr [132, 133, 134, 135, 136] A t).eval (.tmp 132) = .agg #[.int .i64 (z0), .int .i64 0, .slice (some ⟨g2, 0, none⟩) 12 c2, .slice (some ⟨g3, 0, none⟩) 12 c3, .int .i64 (val (piece l 25 4)), .slice (some ⟨g5, 0, none⟩) 16 c5, .slice none 0 0, .int .i64 0, .int .i64 0, .slice none 0 0, .slice none 0 0] := (fr_eval _ _ _ 132 rfl (by rw [asz]; decide)).trans (hp 0 (pre_mem (by kernel_rfl)))
        refine op_call (f := 26) (args := #[.agg #[.int .i64 (z0), .int .i64 0, .slice (some ⟨g2, 0, none⟩) 12 c2, .slice (some ⟨g3, 0, none⟩) 12 c3, .int .i64 (val (piece l 25 4)), .slice (some ⟨g5, 0, none⟩) 16 c5, .slice none 0 0, .int .i64 0, .int .i64 0, .slice none 0 0, .slice none 0 0]]) rfl rfl ?_ (hPut wx hB) ?_
        · have ef : (fr [132, 133, 134, 135, 136] A t).eval (.func 26) = .func (.func 26) #[] #[] := rfl; clear hp hd; have ec : ∀ v, (fr [132, 133, 134, 135, 136] A t).eval (.const v) = v := fun _ => rfl; generalize (fr [132, 133, 134, 135, 136] A t).eval = ev at ec e132 ef ⊢; go_simp
        · rintro e wy ⟨g2, m2, c2, rfl, e2, k2, r2, b2⟩
          exact ⟨_, rfl, _, g2, rfl, hB.trans (b2.mono hB.size), b2, ⟨m2, c2, rfl, e2, r2⟩, .inl rfl⟩
      | 2, _ =>
        obtain ⟨m1, c1, hv1, q1_0, q1_1⟩ := hp 1 (pre_mem (by kernel_rfl))
        have e133 : (fr [132, 133, 134, 135, 136] A t).eval (.tmp 133) = .slice (some ⟨(ρ 1), 0, none⟩) m1 c1 := (fr_eval _ _ _ 133 rfl (by rw [asz]; decide)).trans hv1
        have hcv := convRow (c := c1) q1_0 q1_1.rd
        refine op_run (v := .string (strOfNums PP)) (w' := wx) rfl rfl ?_ ?_
        · clear hp hd q1_0 q1_1; have ec : ∀ v, (fr [132, 133, 134, 135, 136] A t).eval (.const v) = v := fun _ => rfl; generalize (fr [132, 133, 134, 135, 136] A t).eval = ev at ec e133 ⊢; go_simp
        · exact ⟨_, 0, rfl, hB, Below.refl _ _, rfl, .inl rfl⟩
      | 3, _ =>
        have e0 : (fr [132, 133, 134, 135, 136] A t).eval (.tmp 0) = .slice (some ⟨bb, off, none⟩) 45 c := (fr_eval_old _ _ _ 0 rfl).trans a0'
        refine op_run (v := .slice (some ⟨bb, off, none⟩) 45 c) (w' := wx) rfl rfl ?_ ?_
        · clear hp hd; have ec : ∀ v, (fr [132, 133, 134, 135, 136] A t).eval (.const v) = v := fun _ => rfl; generalize (fr [132, 133, 134, 135, 136] A t).eval = ev at ec e0 ⊢; go_simp
        · exact ⟨_, 0, rfl, hB, Below.refl _ _, rfl, .inl rfl⟩
      | 4, _ =>
        have e135 : (fr [132, 133, 134, 135, 136] A t).eval (.tmp 135) = .slice (some ⟨bb, off, none⟩) 45 c := (fr_eval _ _ _ 135 rfl (by rw [asz]; decide)).trans (hp 3 (pre_mem (by kernel_rfl)))
        have hcv := convAt (c := c) HLen.out (hR wx hB)
        refine op_run (v := .string (strOfNums l)) (w' := wx) rfl rfl ?_ ?_
        · clear hp hd; have ec : ∀ v, (fr [132, 133, 134, 135, 136] A t).eval (.const v) = v := fun _ => rfl; generalize (fr [132, 133, 134, 135, 136] A t).eval = ev at ec e135 ⊢; go_simp
        · exact ⟨_, 0, rfl, hB, Below.refl _ _, rfl, .inl rfl⟩
    · intro t ρ wx hB hF hne
      have e134 : (fr [132, 133, 134, 135, 136] A t).eval (.tmp 134) = .string (strOfNums PP) := (fr_eval _ _ _ 134 rfl (by rw [asz]; decide)).trans (hF 2 (by decide))
      have e136 : (fr [132, 133, 134, 135, 136] A t).eval (.tmp 136) = .string (strOfNums l) := (fr_eval _ _ _ 136 rfl (by rw [asz]; decide)).trans (hF 4 (by decide))
      clear hne
      have ES : Hid ((!((strOfNums PP).toList == (strOfNums l).toList)) = decide (PP ≠ l)) := strs_ne HPB.out HBy.out
      generalize strOfNums PP = sp at *
      generalize strOfNums l = sl at *
      refine op_wp rfl rfl ?_
      generalize hE : (fr [132, 133, 134, 135, 136] A t).eval = ev at e134 e136
      unfold Oper.wp
      rw [hE]
      go_simp
      refine hMet _ _ (Met.intro (hRJ _ _ ⟨t 132, t 133, t 134, t 135, t 136, _, ⟨by rw [← ES.out], hB⟩, ?_⟩))
      rw [← hA]; rfl
  case rest =>
    obtain ⟨z, hqz⟩ : ∃ z, z = wc := ⟨_, rfl⟩
    subst hqz
    obtain ⟨rfl, bz⟩ := hcut
    have KZ : Hid (Blk z gr 25 [.int .i64 0, .int .i64 0, .slice none 0 0, .slice none 0 0, .int .i64 0, .slice none 0 0, .slice none 0 0, .int .i64 0, .int .i64 0, .slice none 0 0, .slice none 0 0]) := KR5.out.later bz
    have BZ : Hid (Below w.heap.size w z) := B5.out.trans (bz.mono B5.out.size)
    have MX : Hid (FrMk z gf (gf + 1) ⟨(z0), 0, (piece l 1 12), (piece l 13 12), (val (piece l 25 4)), (l.drop 29), [], 0, 0, [], []⟩ ⟨⟨some ⟨g2, 0, none⟩, 12, c2⟩, ⟨some ⟨g3, 0, none⟩, 12, c3⟩, ⟨some ⟨g5, 0, none⟩, 16, c5⟩, ⟨none, 0, 0⟩, ⟨none, 0, 0⟩, ⟨none, 0, 0⟩⟩) := M5.out.later bz
    clear bz M5 KR5 B5
    have zc0 := KZ.out.cell 0 rfl
    have zf0 := KZ.out.frozen 0
    have zc1 := KZ.out.cell 1 rfl
    have zf1 := KZ.out.frozen 1
    have zc2 := KZ.out.cell 2 rfl
    have zf2 := KZ.out.frozen 2
    have zc3 := KZ.out.cell 3 rfl
    have zf3 := KZ.out.frozen 3
    have zc4 := KZ.out.cell 4 rfl
    have zf4 := KZ.out.frozen 4
    have zc5 := KZ.out.cell 5 rfl
    have zf5 := KZ.out.frozen 5
    have zc6 := KZ.out.cell 6 rfl
    have zf6 := KZ.out.frozen 6
    have zc7 := KZ.out.cell 7 rfl
    have zf7 := KZ.out.frozen 7
    have zc8 := KZ.out.cell 8 rfl
    have zf8 := KZ.out.frozen 8
    have zc9 := KZ.out.cell 9 rfl
    have zf9 := KZ.out.frozen 9
    have zc10 := KZ.out.cell 10 rfl
    have zf10 := KZ.out.frozen 10
    by_cases hp : PP = l
    · have hd : decide (PP ≠ l) = false := by simpa using hp
      have HP : Hid (PP = l) := hp
      rw [hd]
      clear hp hd
      have zo0 : z.cell? ⟨gf, 0, none⟩ = some (.int .i64 (z0)) := MX.out.blk.cell 0 rfl
      have zo1 : z.cell? ⟨gf, 1, none⟩ = some (.int .i64 0) := MX.out.blk.cell 1 rfl
      have zo2 : z.cell? ⟨gf, 2, none⟩ = some (.slice (some ⟨g2, 0, none⟩) 12 c2) := MX.out.blk.cell 2 rfl
      have zo3 : z.cell? ⟨gf, 3, none⟩ = some (.slice (some ⟨g3, 0, none⟩) 12 c3) := MX.out.blk.cell 3 rfl
      have zo4 : z.cell? ⟨gf, 4, none⟩ = some (.int .i64 (val (piece l 25 4))) := MX.out.blk.cell 4 rfl
      have zo5 : z.cell? ⟨gf, 5, none⟩ = some (.slice (some ⟨g5, 0, none⟩) 16 c5) := MX.out.blk.cell 5 rfl
      have zo6 : z.cell? ⟨gf, 6, none⟩ = some (.slice none 0 0) := MX.out.blk.cell 6 rfl
      have zo7 : z.cell? ⟨gf, 7, none⟩ = some (.int .i64 0) := MX.out.blk.cell 7 rfl
      have zo8 : z.cell? ⟨gf, 8, none⟩ = some (.int .i64 0) := MX.out.blk.cell 8 rfl
      have zo9 : z.cell? ⟨gf, 9, none⟩ = some (.slice none 0 0) := MX.out.blk.cell 9 rfl
      have zo10 : z.cell? ⟨gf, 10, none⟩ = some (.slice none 0 0) := MX.out.blk.cell 10 rfl
      have ne1 : gr ≠ gf := by have := HG.out; omega
      have ne2 : gf ≠ gr := by have := HG.out; omega
      go_wp2
      have KF : Blk ((((((((((((z).setCell ⟨gr, 0, none⟩ (.int .i64 (z0))).setCell ⟨gr, 1, none⟩ (.int .i64 0)).setCell ⟨gr, 2, none⟩ (.slice (some ⟨g2, 0, none⟩) 12 c2)).setCell ⟨gr, 3, none⟩ (.slice (some ⟨g3, 0, none⟩) 12 c3)).setCell ⟨gr, 4, none⟩ (.int .i64 (val (piece l 25 4)))).setCell ⟨gr, 5, none⟩ (.slice (some ⟨g5, 0, none⟩) 16 c5)).setCell ⟨gr, 6, none⟩ (.slice none 0 0)).setCell ⟨gr, 7, none⟩ (.int .i64 0)).setCell ⟨gr, 8, none⟩ (.int .i64 0)).setCell ⟨gr, 9, none⟩ (.slice none 0 0)).setCell ⟨gr, 10, none⟩ (.slice none 0 0)) gr 25 [.int .i64 (z0), .int .i64 0, .slice (some ⟨g2, 0, none⟩) 12 c2, .slice (some ⟨g3, 0, none⟩) 12 c3, .int .i64 (val (piece l 25 4)), .slice (some ⟨g5, 0, none⟩) 16 c5, .slice none 0 0, .int .i64 0, .int .i64 0, .slice none 0 0, .slice none 0 0] := (((((((((((KZ.out).set 0 _ (by simp [maxLen])).set 1 _ (by simp [maxLen])).set 2 _ (by simp [maxLen])).set 3 _ (by simp [maxLen])).set 4 _ (by simp [maxLen])).set 5 _ (by simp [maxLen])).set 6 _ (by simp [maxLen])).set 7 _ (by simp [maxLen])).set 8 _ (by simp [maxLen])).set 9 _ (by simp [maxLen])).set 10 _ (by simp [maxLen])
      have KK : Kept gr (gr + 1) z ((((((((((((z).setCell ⟨gr, 0, none⟩ (.int .i64 (z0))).setCell ⟨gr, 1, none⟩ (.int .i64 0)).setCell ⟨gr, 2, none⟩ (.slice (some ⟨g2, 0, none⟩) 12 c2)).setCell ⟨gr, 3, none⟩ (.slice (some ⟨g3, 0, none⟩) 12 c3)).setCell ⟨gr, 4, none⟩ (.int .i64 (val (piece l 25 4)))).setCell ⟨gr, 5, none⟩ (.slice (some ⟨g5, 0, none⟩) 16 c5)).setCell ⟨gr, 6, none⟩ (.slice none 0 0)).setCell ⟨gr, 7, none⟩ (.int .i64 0)).setCell ⟨gr, 8, none⟩ (.int .i64 0)).setCell ⟨gr, 9, none⟩ (.slice none 0 0)).setCell ⟨gr, 10, none⟩ (.slice none 0 0)) := ((((((((((((Kept.refl gr (gr + 1) z)).trans (Kept.setCell _ gr 0 _)).trans (Kept.setCell _ gr 1 _)).trans (Kept.setCell _ gr 2 _)).trans (Kept.setCell _ gr 3 _)).trans (Kept.setCell _ gr 4 _)).trans (Kept.setCell _ gr 5 _)).trans (Kept.setCell _ gr 6 _)).trans (Kept.setCell _ gr 7 _)).trans (Kept.setCell _ gr 8 _)).trans (Kept.setCell _ gr 9 _)).trans (Kept.setCell _ gr 10 _)
      exact ret_got rfl rfl rfl KF rfl (D := ⟨(z0), 0, (piece l 1 12), (piece l 13 12), (val (piece l 25 4)), (l.drop 29), [], 0, 0, [], []⟩) (S := ⟨⟨some ⟨g2, 0, none⟩, 12, c2⟩, ⟨some ⟨g3, 0, none⟩, 12, c3⟩, ⟨some ⟨g5, 0, none⟩, 16, c5⟩, ⟨none, 0, 0⟩, ⟨none, 0, 0⟩, ⟨none, 0, 0⟩⟩) (CA.out.yes (HPP.out.trans HP.out)) ((MX.out.own.carry KK (.inr (by have := HG.out; omega))).mono (by have := HG.out; omega) KK.size) ((((((((((((BZ.out).setCell (by show _ ≤ gr; have := HG.out; omega) _).setCell (by show _ ≤ gr; have := HG.out; omega) _).setCell (by show _ ≤ gr; have := HG.out; omega) _).setCell (by show _ ≤ gr; have := HG.out; omega) _).setCell (by show _ ≤ gr; have := HG.out; omega) _).setCell (by show _ ≤ gr; have := HG.out; omega) _).setCell (by show _ ≤ gr; have := HG.out; omega) _).setCell (by show _ ≤ gr; have := HG.out; omega) _).setCell (by show _ ≤ gr; have := HG.out; omega) _).setCell (by show _ ≤ gr; have := HG.out; omega) _).setCell (by show _ ≤ gr; have := HG.out; omega) _)
    · have hd : decide (PP ≠ l) = true := by simpa using hp
      have HP : Hid (PP ≠ l) := hp
      rw [hd]
      clear hp hd
      go_wp2
      have KF : Blk ((((((((((((z).setCell ⟨gr, 0, none⟩ (.int .i64 0)).setCell ⟨gr, 1, none⟩ (.int .i64 0)).setCell ⟨gr, 2, none⟩ (.slice none 0 0)).setCell ⟨gr, 3, none⟩ (.slice none 0 0)).setCell ⟨gr, 4, none⟩ (.int .i64 0)).setCell ⟨gr, 5, none⟩ (.slice none 0 0)).setCell ⟨gr, 6, none⟩ (.slice none 0 0)).setCell ⟨gr, 7, none⟩ (.int .i64 0)).setCell ⟨gr, 8, none⟩ (.int .i64 0)).setCell ⟨gr, 9, none⟩ (.slice none 0 0)).setCell ⟨gr, 10, none⟩ (.slice none 0 0)) gr 25 [.int .i64 0, .int .i64 0, .slice none 0 0, .slice none 0 0, .int .i64 0, .slice none 0 0, .slice none 0 0, .int .i64 0, .int .i64 0, .slice none 0 0, .slice none 0 0] := (((((((((((KZ.out).set 0 _ (by simp [maxLen])).set 1 _ (by simp [maxLen])).set 2 _ (by simp [maxLen])).set 3 _ (by simp [maxLen])).set 4 _ (by simp [maxLen])).set 5 _ (by simp [maxLen])).set 6 _ (by simp [maxLen])).set 7 _ (by simp [maxLen])).set 8 _ (by simp [maxLen])).set 9 _ (by simp [maxLen])).set 10 _ (by simp [maxLen])
      exact ret_got rfl rfl rfl KF rfl (D := zeroF) (S := SN) (CA.out.no (by rw [HPP.out]; exact HP.out)) (own_nil _ _ _) ((((((((((((BZ.out).setCell (by show _ ≤ gr; have := HG.out; omega) _).setCell (by show _ ≤ gr; have := HG.out; omega) _).setCell (by show _ ≤ gr; have := HG.out; omega) _).setCell (by show _ ≤ gr; have := HG.out; omega) _).setCell (by show _ ≤ gr; have := HG.out; omega) _).setCell (by show _ ≤ gr; have := HG.out; omega) _).setCell (by show _ ≤ gr; have := HG.out; omega) _).setCell (by show _ ≤ gr; have := HG.out; omega) _).setCell (by show _ ≤ gr; have := HG.out; omega) _).setCell (by show _ ≤ gr; have := HG.out; omega) _).setCell (by show _ ≤ gr; have := HG.out; omega) _)

set_option maxRecDepth 100000 in
set_option maxHeartbeats 8000000 in
theorem get3_yes (bb off N c : Nat) (l : List Int) (w : World) (hn : N = l.length) (hr : Rd w (some ⟨bb, off, none⟩) l) (hb : Bytes l) (hc : N ≤ c) (hm : N ≤ 4194304) (k1 : (l.getD 0 0 == 1) = false) (k2 : (l.getD 0 0 == 2) = false) (k3 : (l.getD 0 0 == 3) = true) (hl : N = 62) (h0 : ¬ N = 0) :
    Calls Try.prog 19 #[.slice (some ⟨bb, off, none⟩) N c] w (Gave w l) := by
  have HRd : Hid (Rd w (some ⟨bb, off, none⟩) l) := hr
  have HBy : Hid (Bytes l) := hb
  have HLen : Hid (N = l.length) := hn
  obtain ⟨x0, hx0⟩ : ∃ x0, (w.alloc (.cells #[.int .i64 0, .int .i64 0, .slice none 0 0, .slice none 0 0, .int .i64 0, .slice none 0 0, .slice none 0 0, .int .i64 0, .int .i64 0, .slice none 0 0, .slice none 0 0] 25)).alloc (.cells #[.int .i64 0, .int .i64 0, .slice none 0 0, .slice none 0 0, .int .i64 0, .slice none 0 0, .slice none 0 0, .int .i64 0, .int .i64 0, .slice none 0 0, .slice none 0 0] 25) = x0 := ⟨_, rfl⟩
  have HW0 : Hid ((w.alloc (.cells #[.int .i64 0, .int .i64 0, .slice none 0 0, .slice none 0 0, .int .i64 0, .slice none 0 0, .slice none 0 0, .int .i64 0, .int .i64 0, .slice none 0 0, .slice none 0 0] 25)).alloc (.cells #[.int .i64 0, .int .i64 0, .slice none 0 0, .slice none 0 0, .int .i64 0, .slice none 0 0, .slice none 0 0, .int .i64 0, .int .i64 0, .slice none 0 0, .slice none 0 0] 25) = x0) := hx0
  have B0 : Hid (Below w.heap.size w x0) := by rw [← hx0]; exact ((Below.refl _ _).alloc (Nat.le_refl _) _).alloc (by simp) _
  have KR0 : Hid (Blk x0 w.heap.size 25 [.int .i64 0, .int .i64 0, .slice none 0 0, .slice none 0 0, .int .i64 0, .slice none 0 0, .slice none 0 0, .int .i64 0, .int .i64 0, .slice none 0 0, .slice none 0 0]) := by rw [← hx0]; exact (Blk.new w _ [.int .i64 0, .int .i64 0, .slice none 0 0, .slice none 0 0, .int .i64 0, .slice none 0 0, .slice none 0 0, .int .i64 0, .int .i64 0, .slice none 0 0, .slice none 0 0]).alloc _
  have KF0 : Blk x0 (w.heap.size + 1) 25 [.int .i64 0, .int .i64 0, .slice none 0 0, .slice none 0 0, .int .i64 0, .slice none 0 0, .slice none 0 0, .int .i64 0, .int .i64 0, .slice none 0 0, .slice none 0 0] := by
    have := Blk.new (w.alloc (.cells #[.int .i64 0, .int .i64 0, .slice none 0 0, .slice none 0 0, .int .i64 0, .slice none 0 0, .slice none 0 0, .int .i64 0, .int .i64 0, .slice none 0 0, .slice none 0 0] 25)) 25 [.int .i64 0, .int .i64 0, .slice none 0 0, .slice none 0 0, .int .i64 0, .slice none 0 0, .slice none 0 0, .int .i64 0, .int .i64 0, .slice none 0 0, .slice none 0 0]
    rw [World.size_alloc] at this
    rw [← hx0]; exact this
  have M0 : Hid (FrMk x0 (w.heap.size + 1) (w.heap.size + 1 + 1) ⟨0, 0, [], [], 0, [], [], 0, 0, [], []⟩ ⟨⟨none, 0, 0⟩, ⟨none, 0, 0⟩, ⟨none, 0, 0⟩, ⟨none, 0, 0⟩, ⟨none, 0, 0⟩, ⟨none, 0, 0⟩⟩) := ⟨KF0, own_nil _ _ _, Nat.lt_succ_self _⟩
  clear hx0 hr hb KF0 hn
  subst hl
  have cb14 : (14 : Int) ≤ (c : Int) := by omega
  have cb26 : (26 : Int) ≤ (c : Int) := by omega
  have cb46 : (46 : Int) ≤ (c : Int) := by omega
  have cb62 : (62 : Int) ≤ (c : Int) := by omega
  have cn2 : ¬ c = 2 := by omega
  have cn14 : ¬ c = 14 := by omega
  have cn30 : ¬ c = 30 := by omega
  have cn46 : ¬ c = 46 := by omega
  obtain ⟨z0, hz0⟩ : ∃ z0, l.getD 0 0 = z0 := ⟨_, rfl⟩
  have HZ0 : Hid (l.getD 0 0 = z0) := hz0
  rw [hz0] at k1 k2 k3
  have hb0 := HBy.out.at 0
  rw [hz0] at hb0
  have hwz : IntKind.i64.wrap z0 = z0 := by rw [IntKind.wrap_i64]; omega
  have hcb : x0.cell? ⟨bb, off, none⟩ = some (.int .u8 z0) := by
    obtain ⟨b', off', e, h3, h4⟩ := HRd.out 0 (by have := HLen.out; omega)
    simp only [Option.some.injEq, Addr.mk.injEq, and_true] at e
    obtain ⟨rfl, rfl⟩ := e
    rw [Nat.add_zero, hz0] at h4
    rw [B0.out.cell h3]; exact h4
  clear hz0 hb0
  go_enter Try.func19, Try.ntmps19
  go_upto_region 4 with fail
  rw [HW0.out]
  obtain ⟨gr, hgr⟩ : ∃ gr, w.heap.size = gr := ⟨_, rfl⟩
  obtain ⟨gf, hgf⟩ : ∃ gf, w.heap.size + 1 = gf := ⟨_, rfl⟩
  have HG : Hid (w.heap.size = gr ∧ gf = gr + 1) := ⟨hgr, by omega⟩
  rw [hgf] at M0 ⊢
  rw [hgr] at KR0
  rw [hgr]
  clear hgr hgf HW0
  have co : x0.cell? ⟨gf, 0, none⟩ = some (.int .i64 0) := M0.out.blk.cell 0 rfl
  have fo := M0.out.blk.frozen 0
  obtain ⟨x1, hx1⟩ : ∃ x1, x0.setCell ⟨gf, 0, none⟩ (.int .i64 (z0)) = x1 := ⟨_, rfl⟩
  have HW1 : Hid (x0.setCell ⟨gf, 0, none⟩ (.int .i64 (z0)) = x1) := hx1
  have M1 : Hid (FrMk x1 gf (gf + 1) ⟨(z0), 0, [], [], 0, [], [], 0, 0, [], []⟩ ⟨⟨none, 0, 0⟩, ⟨none, 0, 0⟩, ⟨none, 0, 0⟩, ⟨none, 0, 0⟩, ⟨none, 0, 0⟩, ⟨none, 0, 0⟩⟩) := by rw [← hx1]; exact M0.out.kind _
  have KR1 : Hid (Blk x1 gr 25 [.int .i64 0, .int .i64 0, .slice none 0 0, .slice none 0 0, .int .i64 0, .slice none 0 0, .slice none 0 0, .int .i64 0, .int .i64 0, .slice none 0 0, .slice none 0 0]) := by rw [← hx1]; exact KR0.out.other (by show gr ≠ gf; have := HG.out; omega) _
  have B1 : Hid (Below w.heap.size w x1) := by rw [← hx1]; exact B0.out.setCell (by show _ ≤ gf; have := HG.out; omega) _
  clear hx1
  go_upto_region 5 with fail
  rw [HW1.out]
  clear co fo HW1 M0 KR0 B0
  have kc : x1.cell? ⟨gf, 0, none⟩ = some (.int .i64 z0) := M1.out.blk.cell 0 rfl
  go_upto_region 28 with fail
  obtain ⟨z1, hz1⟩ : ∃ z1, l.getD 1 0 = z1 := ⟨_, rfl⟩
  have HZ1 : Hid (l.getD 1 0 = z1) := hz1
  have hb1 := HBy.out.at 1
  rw [hz1] at hb1
  have hwz1 : IntKind.i64.wrap z1 = z1 := by rw [IntKind.wrap_i64]; omega
  have hcb1 : x1.cell? ⟨bb, off + 1, none⟩ = some (.int .u8 z1) := by
    obtain ⟨b', off', e, h3, h4⟩ := HRd.out 1 (by have := HLen.out; omega)
    simp only [Option.some.injEq, Addr.mk.injEq, and_true] at e
    obtain ⟨rfl, rfl⟩ := e
    rw [hz1] at h4
    rw [B1.out.cell h3]; exact h4
  clear hz1 hb1
  have co : x1.cell? ⟨gf, 1, none⟩ = some (.int .i64 0) := M1.out.blk.cell 1 rfl
  have fo := M1.out.blk.frozen 1
  obtain ⟨x2, hx2⟩ : ∃ x2, x1.setCell ⟨gf, 1, none⟩ (.int .i64 (z1)) = x2 := ⟨_, rfl⟩
  have HW2 : Hid (x1.setCell ⟨gf, 1, none⟩ (.int .i64 (z1)) = x2) := hx2
  have M2 : Hid (FrMk x2 gf (gf + 1) ⟨(z0), (z1), [], [], 0, [], [], 0, 0, [], []⟩ ⟨⟨none, 0, 0⟩, ⟨none, 0, 0⟩, ⟨none, 0, 0⟩, ⟨none, 0, 0⟩, ⟨none, 0, 0⟩, ⟨none, 0, 0⟩⟩) := by rw [← hx2]; exact M1.out.id _
  have KR2 : Hid (Blk x2 gr 25 [.int .i64 0, .int .i64 0, .slice none 0 0, .slice none 0 0, .int .i64 0, .slice none 0 0, .slice none 0 0, .int .i64 0, .int .i64 0, .slice none 0 0, .slice none 0 0]) := by rw [← hx2]; exact KR1.out.other (by show gr ≠ gf; have := HG.out; omega) _
  have B2 : Hid (Below w.heap.size w x2) := by rw [← hx2]; exact B1.out.setCell (by show _ ≤ gf; have := HG.out; omega) _
  clear hx2
  go_upto_region 29 with fail
  rw [HW2.out]
  clear co fo HW2 M1 KR1 B1
  clear hcb1
  have R0 : Hid (Row (x2.alloc (.cells #[] 5)) x2.heap.size 0 []) := row_new x2 [] (by simp)
  have A0 : Hid (Below x2.heap.size x2 (x2.alloc (.cells #[] 5))) := (Below.refl _ _).alloc (Nat.le_refl _) _
  have RP : Hid (Rd (x2.alloc (.cells #[] 5)) (some ⟨bb, off + 2, none⟩) (piece l 2 12)) := (rdPiece HRd.out 2 (piece l 2 12) (piece_sub l 2 12)).later (B2.out.alloc B2.out.size _) (Nat.le_refl _)
  have HB3 : Hid (Bytes (piece l 2 12)) := bytes_piece HBy.out _ _
  go_upto_region 30 with (at_builtin; refine wpList_app _ rfl (.tmp 105) (.tmp 107) rfl x2.heap.size x2.heap.size 0 0 [] (piece l 2 12) rfl rfl R0.out (Nat.le_refl _) _ _ _ rfl (by rw [piece_length l 2 12 (by have := HLen.out; omega)]) RP.out (by intro e; cases e) (by rw [piece_length l 2 12 (by have := HLen.out; omega)]; simp) ?_; intro g3 c3 y3 r3 k3 l3 gr3; have RR3 : Hid (Row y3 g3 c3 (piece l 2 12)) := r3; have GE3 : Hid (x2.heap.size ≤ g3) := k3; have BY3 : Hid (Below x2.heap.size x2 y3) := A0.out.grown gr3 A0.out.size (fun k h => by cases h; exact Nat.le_refl _); have co : y3.cell? ⟨gf, 2, none⟩ = some (.slice none 0 0) := (M2.out.later BY3.out).blk.cell 2 rfl; have fo := (M2.out.later BY3.out).blk.frozen 2; clear r3 k3 l3 gr3)
  obtain ⟨x3, hx3⟩ : ∃ x3, y3.setCell ⟨gf, 2, none⟩ (.slice (some ⟨g3, 0, none⟩) 12 c3) = x3 := ⟨_, rfl⟩
  have HW3 : Hid (y3.setCell ⟨gf, 2, none⟩ (.slice (some ⟨g3, 0, none⟩) 12 c3) = x3) := hx3
  have M3 : Hid (FrMk x3 gf (gf + 1) ⟨(z0), (z1), (piece l 2 12), [], 0, [], [], 0, 0, [], []⟩ ⟨⟨some ⟨g3, 0, none⟩, 12, c3⟩, ⟨none, 0, 0⟩, ⟨none, 0, 0⟩, ⟨none, 0, 0⟩, ⟨none, 0, 0⟩, ⟨none, 0, 0⟩⟩) := by rw [← hx3]; exact M2.out.cn M2.out.blk.lt BY3.out RR3.out (by rw [piece_length l 2 12 (by have := HLen.out; omega)]) HB3.out GE3.out
  have KR3 : Hid (Blk x3 gr 25 [.int .i64 0, .int .i64 0, .slice none 0 0, .slice none 0 0, .int .i64 0, .slice none 0 0, .slice none 0 0, .int .i64 0, .int .i64 0, .slice none 0 0, .slice none 0 0]) := by rw [← hx3]; exact (KR2.out.later BY3.out).other (by show gr ≠ gf; have := HG.out; omega) _
  have B3 : Hid (Below w.heap.size w x3) := by rw [← hx3]; exact (B2.out.trans (BY3.out.mono B2.out.size)).setCell (by show _ ≤ gf; have := HG.out; omega) _
  clear hx3 R0 A0 RP
  rw [HW3.out]
  clear co fo HW3 M2 KR2 B2 RR3 GE3 BY3 HB3
  have R0 : Hid (Row (x3.alloc (.cells #[] 5)) x3.heap.size 0 []) := row_new x3 [] (by simp)
  have A0 : Hid (Below x3.heap.size x3 (x3.alloc (.cells #[] 5))) := (Below.refl _ _).alloc (Nat.le_refl _) _
  have RP : Hid (Rd (x3.alloc (.cells #[] 5)) (some ⟨bb, off + 14, none⟩) (piece l 14 12)) := (rdPiece HRd.out 14 (piece l 14 12) (piece_sub l 14 12)).later (B3.out.alloc B3.out.size _) (Nat.le_refl _)
  have HB4 : Hid (Bytes (piece l 14 12)) := bytes_piece HBy.out _ _
  go_upto_region 31 with (at_builtin; refine wpList_app _ rfl (.tmp 110) (.tmp 112) rfl x3.heap.size x3.heap.size 0 0 [] (piece l 14 12) rfl rfl R0.out (Nat.le_refl _) _ _ _ rfl (by rw [piece_length l 14 12 (by have := HLen.out; omega)]) RP.out (by intro e; cases e) (by rw [piece_length l 14 12 (by have := HLen.out; omega)]; simp) ?_; intro g4 c4 y4 r4 k4 l4 gr4; have RR4 : Hid (Row y4 g4 c4 (piece l 14 12)) := r4; have GE4 : Hid (x3.heap.size ≤ g4) := k4; have BY4 : Hid (Below x3.heap.size x3 y4) := A0.out.grown gr4 A0.out.size (fun k h => by cases h; exact Nat.le_refl _); have co : y4.cell? ⟨gf, 3, none⟩ = some (.slice none 0 0) := (M3.out.later BY4.out).blk.cell 3 rfl; have fo := (M3.out.later BY4.out).blk.frozen 3; clear r4 k4 l4 gr4)
  obtain ⟨x4, hx4⟩ : ∃ x4, y4.setCell ⟨gf, 3, none⟩ (.slice (some ⟨g4, 0, none⟩) 12 c4) = x4 := ⟨_, rfl⟩
  have HW4 : Hid (y4.setCell ⟨gf, 3, none⟩ (.slice (some ⟨g4, 0, none⟩) 12 c4) = x4) := hx4
  have M4 : Hid (FrMk x4 gf (gf + 1) ⟨(z0), (z1), (piece l 2 12), (piece l 14 12), 0, [], [], 0, 0, [], []⟩ ⟨⟨some ⟨g3, 0, none⟩, 12, c3⟩, ⟨some ⟨g4, 0, none⟩, 12, c4⟩, ⟨none, 0, 0⟩, ⟨none, 0, 0⟩, ⟨none, 0, 0⟩, ⟨none, 0, 0⟩⟩) := by rw [← hx4]; exact M3.out.sn M3.out.blk.lt BY4.out RR4.out (by rw [piece_length l 14 12 (by have := HLen.out; omega)]) HB4.out GE4.out
  have KR4 : Hid (Blk x4 gr 25 [.int .i64 0, .int .i64 0, .slice none 0 0, .slice none 0 0, .int .i64 0, .slice none 0 0, .slice none 0 0, .int .i64 0, .int .i64 0, .slice none 0 0, .slice none 0 0]) := by rw [← hx4]; exact (KR3.out.later BY4.out).other (by show gr ≠ gf; have := HG.out; omega) _
  have B4 : Hid (Below w.heap.size w x4) := by rw [← hx4]; exact (B3.out.trans (BY4.out.mono B3.out.size)).setCell (by show _ ≤ gf; have := HG.out; omega) _
  clear hx4 R0 A0 RP
  rw [HW4.out]
  clear co fo HW4 M3 KR3 B3 RR4 GE4 BY4 HB4
  have co : x4.cell? ⟨gf, 4, none⟩ = some (.int .i64 0) := M4.out.blk.cell 4 rfl
  have fo := M4.out.blk.frozen 4
  have GN : Hid (gotN l 26 4 = .tuple #[.int .i64 (val (piece l 26 4)), .int .i64 30, .bool true]) := gotN_yes l 26 4 30 rfl rfl (by have := HLen.out; omega)
  go_wp2_with fail
  refine (specGetN (some ⟨bb, off, none⟩) 62 c l 26 4 x4 HLen.out (HRd.out.later B4.out (Nat.le_refl _)) HBy.out (by omega)).mono ?_
  rw [GN.out]
  rintro e y ⟨rfl, rfl⟩
  clear GN
  obtain ⟨x5, hx5⟩ : ∃ x5, x4.setCell ⟨gf, 4, none⟩ (.int .i64 (val (piece l 26 4))) = x5 := ⟨_, rfl⟩
  have HW5 : Hid (x4.setCell ⟨gf, 4, none⟩ (.int .i64 (val (piece l 26 4))) = x5) := hx5
  have M5 : Hid (FrMk x5 gf (gf + 1) ⟨(z0), (z1), (piece l 2 12), (piece l 14 12), (val (piece l 26 4)), [], [], 0, 0, [], []⟩ ⟨⟨some ⟨g3, 0, none⟩, 12, c3⟩, ⟨some ⟨g4, 0, none⟩, 12, c4⟩, ⟨none, 0, 0⟩, ⟨none, 0, 0⟩, ⟨none, 0, 0⟩, ⟨none, 0, 0⟩⟩) := by rw [← hx5]; exact M4.out.tick _
  have KR5 : Hid (Blk x5 gr 25 [.int .i64 0, .int .i64 0, .slice none 0 0, .slice none 0 0, .int .i64 0, .slice none 0 0, .slice none 0 0, .int .i64 0, .int .i64 0, .slice none 0 0, .slice none 0 0]) := by rw [← hx5]; exact KR4.out.other (by show gr ≠ gf; have := HG.out; omega) _
  have B5 : Hid (Below w.heap.size w x5) := by rw [← hx5]; exact B4.out.setCell (by show _ ≤ gf; have := HG.out; omega) _
  clear hx5
  go_upto_region 32 with fail
  rw [HW5.out]
  clear co fo HW5 M4 KR4 B4
  have R0 : Hid (Row (x5.alloc (.cells #[] 5)) x5.heap.size 0 []) := row_new x5 [] (by simp)
  have A0 : Hid (Below x5.heap.size x5 (x5.alloc (.cells #[] 5))) := (Below.refl _ _).alloc (Nat.le_refl _) _
  have RP : Hid (Rd (x5.alloc (.cells #[] 5)) (some ⟨bb, off + 30, none⟩) (piece l 30 16)) := (rdPiece HRd.out 30 (piece l 30 16) (piece_sub l 30 16)).later (B5.out.alloc B5.out.size _) (Nat.le_refl _)
  have HB6 : Hid (Bytes (piece l 30 16)) := bytes_piece HBy.out _ _
  go_upto_region 33 with (at_builtin; refine wpList_app _ rfl (.tmp 122) (.tmp 124) rfl x5.heap.size x5.heap.size 0 0 [] (piece l 30 16) rfl rfl R0.out (Nat.le_refl _) _ _ _ rfl (by rw [piece_length l 30 16 (by have := HLen.out; omega)]) RP.out (by intro e; cases e) (by rw [piece_length l 30 16 (by have := HLen.out; omega)]; simp) ?_; intro g6 c6 y6 r6 k6 l6 gr6; have RR6 : Hid (Row y6 g6 c6 (piece l 30 16)) := r6; have GE6 : Hid (x5.heap.size ≤ g6) := k6; have BY6 : Hid (Below x5.heap.size x5 y6) := A0.out.grown gr6 A0.out.size (fun k h => by cases h; exact Nat.le_refl _); have co : y6.cell? ⟨gf, 5, none⟩ = some (.slice none 0 0) := (M5.out.later BY6.out).blk.cell 5 rfl; have fo := (M5.out.later BY6.out).blk.frozen 5; clear r6 k6 l6 gr6)
  obtain ⟨x6, hx6⟩ : ∃ x6, y6.setCell ⟨gf, 5, none⟩ (.slice (some ⟨g6, 0, none⟩) 16 c6) = x6 := ⟨_, rfl⟩
  have HW6 : Hid (y6.setCell ⟨gf, 5, none⟩ (.slice (some ⟨g6, 0, none⟩) 16 c6) = x6) := hx6
  have M6 : Hid (FrMk x6 gf (gf + 1) ⟨(z0), (z1), (piece l 2 12), (piece l 14 12), (val (piece l 26 4)), (piece l 30 16), [], 0, 0, [], []⟩ ⟨⟨some ⟨g3, 0, none⟩, 12, c3⟩, ⟨some ⟨g4, 0, none⟩, 12, c4⟩, ⟨some ⟨g6, 0, none⟩, 16, c6⟩, ⟨none, 0, 0⟩, ⟨none, 0, 0⟩, ⟨none, 0, 0⟩⟩) := by rw [← hx6]; exact M5.out.cookie M5.out.blk.lt BY6.out RR6.out (by rw [piece_length l 30 16 (by have := HLen.out; omega)]) HB6.out GE6.out
  have KR6 : Hid (Blk x6 gr 25 [.int .i64 0, .int .i64 0, .slice none 0 0, .slice none 0 0, .int .i64 0, .slice none 0 0, .slice none 0 0, .int .i64 0, .int .i64 0, .slice none 0 0, .slice none 0 0]) := by rw [← hx6]; exact (KR5.out.later BY6.out).other (by show gr ≠ gf; have := HG.out; omega) _
  have B6 : Hid (Below w.heap.size w x6) := by rw [← hx6]; exact (B5.out.trans (BY6.out.mono B5.out.size)).setCell (by show _ ≤ gf; have := HG.out; omega) _
  clear hx6 R0 A0 RP
  rw [HW6.out]
  clear co fo HW6 M5 KR5 B5 RR6 GE6 BY6 HB6
  have R0 : Hid (Row (x6.alloc (.cells #[] 5)) x6.heap.size 0 []) := row_new x6 [] (by simp)
  have A0 : Hid (Below x6.heap.size x6 (x6.alloc (.cells #[] 5))) := (Below.refl _ _).alloc (Nat.le_refl _) _
  have RP : Hid (Rd (x6.alloc (.cells #[] 5)) (some ⟨bb, off + 46, none⟩) (l.drop 46)) := (rdPiece HRd.out 46 (l.drop 46) (drop_sub l 46)).later (B6.out.alloc B6.out.size _) (Nat.le_refl _)
  have HB7 : Hid (Bytes (l.drop 46)) := bytes_drop HBy.out _
  go_upto_region 34 with (at_builtin; refine wpList_app _ rfl (.tmp 127) (.tmp 129) rfl x6.heap.size x6.heap.size 0 0 [] (l.drop 46) rfl rfl R0.out (Nat.le_refl _) _ _ _ rfl (by rw [List.length_drop]; have := HLen.out; omega) RP.out (by intro e; cases e) (by rw [List.length_nil, List.length_drop]; have := HLen.out; omega) ?_; intro g7 c7 y7 r7 k7 l7 gr7; have RR7 : Hid (Row y7 g7 c7 (l.drop 46)) := r7; have GE7 : Hid (x6.heap.size ≤ g7) := k7; have BY7 : Hid (Below x6.heap.size x6 y7) := A0.out.grown gr7 A0.out.size (fun k h => by cases h; exact Nat.le_refl _); have co : y7.cell? ⟨gf, 6, none⟩ = some (.slice none 0 0) := (M6.out.later BY7.out).blk.cell 6 rfl; have fo := (M6.out.later BY7.out).blk.frozen 6; clear r7 k7 l7 gr7)
  obtain ⟨x7, hx7⟩ : ∃ x7, y7.setCell ⟨gf, 6, none⟩ (.slice (some ⟨g7, 0, none⟩) 16 c7) = x7 := ⟨_, rfl⟩
  have HW7 : Hid (y7.setCell ⟨gf, 6, none⟩ (.slice (some ⟨g7, 0, none⟩) 16 c7) = x7) := hx7
  have M7 : Hid (FrMk x7 gf (gf + 1) ⟨(z0), (z1), (piece l 2 12), (piece l 14 12), (val (piece l 26 4)), (piece l 30 16), (l.drop 46), 0, 0, [], []⟩ ⟨⟨some ⟨g3, 0, none⟩, 12, c3⟩, ⟨some ⟨g4, 0, none⟩, 12, c4⟩, ⟨some ⟨g6, 0, none⟩, 16, c6⟩, ⟨some ⟨g7, 0, none⟩, 16, c7⟩, ⟨none, 0, 0⟩, ⟨none, 0, 0⟩⟩) := by rw [← hx7]; exact M6.out.proof M6.out.blk.lt BY7.out RR7.out (by rw [List.length_drop]; have := HLen.out; omega) HB7.out GE7.out
  have KR7 : Hid (Blk x7 gr 25 [.int .i64 0, .int .i64 0, .slice none 0 0, .slice none 0 0, .int .i64 0, .slice none 0 0, .slice none 0 0, .int .i64 0, .int .i64 0, .slice none 0 0, .slice none 0 0]) := by rw [← hx7]; exact (KR6.out.later BY7.out).other (by show gr ≠ gf; have := HG.out; omega) _
  have B7 : Hid (Below w.heap.size w x7) := by rw [← hx7]; exact (B6.out.trans (BY7.out.mono B6.out.size)).setCell (by show _ ≤ gf; have := HG.out; omega) _
  clear hx7 R0 A0 RP
  rw [HW7.out]
  clear co fo HW7 M6 KR6 B6 RR7 GE7 BY7 HB7
  have CA : Hid (Cand l ⟨(z0), (z1), (piece l 2 12), (piece l 14 12), (val (piece l 26 4)), (piece l 30 16), (l.drop 46), 0, 0, [], []⟩) := by have q := cand3 (b := l) (by rw [HZ0.out]; exact eq_of_beq k3); unfold get3 at q; rw [HZ0.out, HZ1.out] at q; exact q
  have RF : Hid (FrRd x7 ⟨⟨some ⟨g3, 0, none⟩, 12, c3⟩, ⟨some ⟨g4, 0, none⟩, 12, c4⟩, ⟨some ⟨g6, 0, none⟩, 16, c6⟩, ⟨some ⟨g7, 0, none⟩, 16, c7⟩, ⟨none, 0, 0⟩, ⟨none, 0, 0⟩⟩ ⟨(z0), (z1), (piece l 2 12), (piece l 14 12), (val (piece l 26 4)), (piece l 30 16), (l.drop 46), 0, 0, [], []⟩) := M7.out.own.rd
  obtain ⟨PP, hPP⟩ : ∃ PP, putF ⟨(z0), (z1), (piece l 2 12), (piece l 14 12), (val (piece l 26 4)), (piece l 30 16), (l.drop 46), 0, 0, [], []⟩ = PP := ⟨_, rfl⟩
  have HPP : Hid (putF ⟨(z0), (z1), (piece l 2 12), (piece l 14 12), (val (piece l 26 4)), (piece l 30 16), (l.drop 46), 0, 0, [], []⟩ = PP) := hPP
  have HPB : Hid (Bytes PP) := by rw [← hPP]; exact putF_bytes RF.out
  clear hPP
  go_cut [137] from 132 to 136 (fun s137 wx => s137 = .bool (decide (PP ≠ l)) ∧ Below x7.heap.size x7 wx)
  case first =>
    rename_i J K' hRJ hMet
    generalize hA : Act.mk _ _ = A
    have a0' : A.eval (.tmp 0) = .slice (some ⟨bb, off, none⟩) 62 c := by rw [← hA]; rfl
    have a4' : A.eval (.tmp 4) = .pointer (some ⟨gf, 0, none⟩) := by rw [← hA]; rfl
    have asz : A.tmps.size = 140 := by rw [← hA]; rfl
    have hM : ∀ wx, Below x7.heap.size x7 wx → FrMk wx gf (gf + 1) ⟨(z0), (z1), (piece l 2 12), (piece l 14 12), (val (piece l 26 4)), (piece l 30 16), (l.drop 46), 0, 0, [], []⟩ ⟨⟨some ⟨g3, 0, none⟩, 12, c3⟩, ⟨some ⟨g4, 0, none⟩, 12, c4⟩, ⟨some ⟨g6, 0, none⟩, 16, c6⟩, ⟨some ⟨g7, 0, none⟩, 16, c7⟩, ⟨none, 0, 0⟩, ⟨none, 0, 0⟩⟩ := fun wx hb => M7.out.later hb
    have hR : ∀ wx, Below x7.heap.size x7 wx → Rd wx (some ⟨bb, off, none⟩) l := fun wx hb => HRd.out.later (B7.out.trans (hb.mono B7.out.size)) (Nat.le_refl _)
    have hPut : ∀ wx, Below x7.heap.size x7 wx → Calls Try.prog 26 #[.agg #[.int .i64 (z0), .int .i64 (z1), .slice (some ⟨g3, 0, none⟩) 12 c3, .slice (some ⟨g4, 0, none⟩) 12 c4, .int .i64 (val (piece l 26 4)), .slice (some ⟨g6, 0, none⟩) 16 c6, .slice (some ⟨g7, 0, none⟩) 16 c7, .int .i64 0, .int .i64 0, .slice none 0 0, .slice none 0 0]] wx (fun e w' => ∃ g m c, e = .returned (.slice (some ⟨g, 0, none⟩) m c) ∧ m = PP.length ∧ wx.heap.size ≤ g ∧ Row w' g c PP ∧ Below wx.heap.size wx w') := fun wx hb => by
      have q := specPutFrame ⟨⟨some ⟨g3, 0, none⟩, 12, c3⟩, ⟨some ⟨g4, 0, none⟩, 12, c4⟩, ⟨some ⟨g6, 0, none⟩, 16, c6⟩, ⟨some ⟨g7, 0, none⟩, 16, c7⟩, ⟨none, 0, 0⟩, ⟨none, 0, 0⟩⟩ ⟨(z0), (z1), (piece l 2 12), (piece l 14 12), (val (piece l 26 4)), (piece l 30 16), (l.drop 46), 0, 0, [], []⟩ wx (RF.out.later hb)
      rw [HPP.out] at q
      exact q
    refine region_each (by kernel_rfl) [132, 133, 134, 135, 136] 5 (fun i => [132, 133, 134, 135, 136].getD i 0) (fun _ => 0)
      (fun i gB v wx => match i with
        | 0 => v = .agg #[.int .i64 (z0), .int .i64 (z1), .slice (some ⟨g3, 0, none⟩) 12 c3, .slice (some ⟨g4, 0, none⟩) 12 c4, .int .i64 (val (piece l 26 4)), .slice (some ⟨g6, 0, none⟩) 16 c6, .slice (some ⟨g7, 0, none⟩) 16 c7, .int .i64 0, .int .i64 0, .slice none 0 0, .slice none 0 0]
        | 1 => ∃ m c, v = .slice (some ⟨gB, 0, none⟩) m c ∧ m = PP.length ∧ Row wx gB c PP
        | 2 => v = .string (strOfNums PP)
        | 3 => v = .slice (some ⟨bb, off, none⟩) 62 c
        | 4 => v = .string (strOfNums l)
        | _ => False) (fun wx => Below x7.heap.size x7 wx) (by kernel_rfl) (Below.refl _ _).drew ?_ ?_ ?_
    · intro i gB v wx wy hi hF hb _
      match i, hi with
      | 0, _ => exact hF
      | 1, _ => obtain ⟨m, c, h0, h1, h2⟩ := hF; exact ⟨m, c, h0, h1, h2.later hb⟩
      | 2, _ => exact hF
      | 3, _ => exact hF
      | 4, _ => exact hF
    · intro i hi t ρ wx hB hp hd
      match i, hi with
      | 0, _ =>
        have e4 : (fr [132, 133, 134, 135, 136] A t).eval (.tmp 4) = .pointer (some ⟨gf, 0, none⟩) := (fr_eval_old _ _ _ 4 rfl).trans a4'
        have hc0 : wx.cell? ⟨gf, 0, none⟩ = some (.int .i64 (z0)) := (hM wx hB).blk.cell 0 rfl
        have hc1 : wx.cell? ⟨gf, 1, none⟩ = some (.int .i64 (z1)) := (hM wx hB).blk.cell 1 rfl
        have hc2 : wx.cell? ⟨gf, 2, none⟩ = some (.slice (some ⟨g3, 0, none⟩) 12 c3) := (hM wx hB).blk.cell 2 rfl
        have hc3 : wx.cell? ⟨gf, 3, none⟩ = some (.slice (some ⟨g4, 0, none⟩) 12 c4) := (hM wx hB).blk.cell 3 rfl
        have hc4 : wx.cell? ⟨gf, 4, none⟩ = some (.int .i64 (val (piece l 26 4))) := (hM wx hB).blk.cell 4 rfl
        have hc5 : wx.cell? ⟨gf, 5, none⟩ = some (.slice (some ⟨g6, 0, none⟩) 16 c6) := (hM wx hB).blk.cell 5 rfl
        have hc6 : wx.cell? ⟨gf, 6, none⟩ = some (.slice (some ⟨g7, 0, none⟩) 16 c7) := (hM wx hB).blk.cell 6 rfl
        have hc7 : wx.cell? ⟨gf, 7, none⟩ = some (.int .i64 0) := (hM wx hB).blk.cell 7 rfl
        have hc8 : wx.cell? ⟨gf, 8, none⟩ = some (.int .i64 0) := (hM wx hB).blk.cell 8 rfl
        have hc9 : wx.cell? ⟨gf, 9, none⟩ = some (.slice none 0 0) := (hM wx hB).blk.cell 9 rfl
        have hc10 : wx.cell? ⟨gf, 10, none⟩ = some (.slice none 0 0) := (hM wx hB).blk.cell 10 rfl
        refine op_run (v := .agg #[.int .i64 (z0), .int .i64 (z1), .slice (some ⟨g3, 0, none⟩) 12 c3, .slice (some ⟨g4, 0, none⟩) 12 c4, .int .i64 (val (piece l 26 4)), .slice (some ⟨g6, 0, none⟩) 16 c6, .slice (some ⟨g7, 0, none⟩) 16 c7, .int .i64 0, .int .i64 0, .slice none 0 0, .slice none 0 0]) (w' := wx) rfl rfl ?_ ?_
        · clear hp hd; have ec : ∀ v, (fr [132, 133, 134, 135, 136] A t).eval (.const v) = v := fun _ => rfl; generalize (fr [132, 133, 134, 135, 136] A t).eval = ev at ec e4 ⊢; go_simp
        · exact ⟨_, 0, rfl, hB, Below.refl _ _, rfl, .inl rfl⟩
      | 1, _ =>
        have e132 : (fr [132, 133, 134, 135, 136] A t).eval (.tmp 132) = .agg #[.int .i64 (z0), .int .i64 (z1), .slice (some ⟨g3, 0, none⟩) 12 c3, .slice (some ⟨g4, 0, none⟩) 12 c4, .int .i64 (val (piece l 26 4)), .slice (some ⟨g6, 0, none⟩) 16 c6, .slice (some ⟨g7, 0, none⟩) 16 c7, .int .i64 0, .int .i64 0, .slice none 0 0, .slice none 0 0] := (fr_eval _ _ _ 132 rfl (by rw [asz]; decide)).trans (hp 0 (pre_mem (by kernel_rfl)))
        refine op_call (f := 26) (args := #[.agg #[.int .i64 (z0), .int .i64 (z1), .slice (some ⟨g3, 0, none⟩) 12 c3, .slice (some ⟨g4, 0, none⟩) 12 c4, .int .i64 (val (piece l 26 4)), .slice (some ⟨g6, 0, none⟩) 16 c6, .slice (some ⟨g7, 0, none⟩) 16 c7, .int .i64 0, .int .i64 0, .slice none 0 0, .slice none 0 0]]) rfl rfl ?_ (hPut wx hB) ?_
        · have ef : (fr [132, 133, 134, 135, 136] A t).eval (.func 26) = .func (.func 26) #[] #[] := rfl; clear hp hd; have ec : ∀ v, (fr [132, 133, 134, 135, 136] A t).eval (.const v) = v := fun _ => rfl; generalize (fr [132, 133, 134, 135, 136] A t).eval = ev at ec e132 ef ⊢; go_simp
        · rintro e wy ⟨g2, m2, c2, rfl, e2, k2, r2, b2⟩
          exact ⟨_, rfl, _, g2, rfl, hB.trans (b2.mono hB.size), b2, ⟨m2, c2, rfl, e2, r2⟩, .inl rfl⟩
      | 2, _ =>
        obtain ⟨m1, c1, hv1, q1_0, q1_1⟩ := hp 1 (pre_mem (by kernel_rfl))
        have e133 : (fr [132, 133, 134, 135, 136] A t).eval (.tmp 133) = .slice (some ⟨(ρ 1), 0, none⟩) m1 c1 := (fr_eval _ _ _ 133 rfl (by rw [asz]; decide)).trans hv1
        have hcv := convRow (c := c1) q1_0 q1_1.rd
        refine op_run (v := .string (strOfNums PP)) (w' := wx) rfl rfl ?_ ?_
        · clear hp hd q1_0 q1_1; have ec : ∀ v, (fr [132, 133, 134, 135, 136] A t).eval (.const v) = v := fun _ => rfl; generalize (fr [132, 133, 134, 135, 136] A t).eval = ev at ec e133 ⊢; go_simp
        · exact ⟨_, 0, rfl, hB, Below.refl _ _, rfl, .inl rfl⟩
      | 3, _ =>
        have e0 : (fr [132, 133, 134, 135, 136] A t).eval (.tmp 0) = .slice (some ⟨bb, off, none⟩) 62 c := (fr_eval_old _ _ _ 0 rfl).trans a0'
        refine op_run (v := .slice (some ⟨bb, off, none⟩) 62 c) (w' := wx) rfl rfl ?_ ?_
        · clear hp hd; have ec : ∀ v, (fr [132, 133, 134, 135, 136] A t).eval (.const v) = v := fun _ => rfl; generalize (fr [132, 133, 134, 135, 136] A t).eval = ev at ec e0 ⊢; go_simp
        · exact ⟨_, 0, rfl, hB, Below.refl _ _, rfl, .inl rfl⟩
      | 4, _ =>
        have e135 : (fr [132, 133, 134, 135, 136] A t).eval (.tmp 135) = .slice (some ⟨bb, off, none⟩) 62 c := (fr_eval _ _ _ 135 rfl (by rw [asz]; decide)).trans (hp 3 (pre_mem (by kernel_rfl)))
        have hcv := convAt (c := c) HLen.out (hR wx hB)
        refine op_run (v := .string (strOfNums l)) (w' := wx) rfl rfl ?_ ?_
        · clear hp hd; have ec : ∀ v, (fr [132, 133, 134, 135, 136] A t).eval (.const v) = v := fun _ => rfl; generalize (fr [132, 133, 134, 135, 136] A t).eval = ev at ec e135 ⊢; go_simp
        · exact ⟨_, 0, rfl, hB, Below.refl _ _, rfl, .inl rfl⟩
    · intro t ρ wx hB hF hne
      have e134 : (fr [132, 133, 134, 135, 136] A t).eval (.tmp 134) = .string (strOfNums PP) := (fr_eval _ _ _ 134 rfl (by rw [asz]; decide)).trans (hF 2 (by decide))
      have e136 : (fr [132, 133, 134, 135, 136] A t).eval (.tmp 136) = .string (strOfNums l) := (fr_eval _ _ _ 136 rfl (by rw [asz]; decide)).trans (hF 4 (by decide))
      clear hne
      have ES : Hid ((!((strOfNums PP).toList == (strOfNums l).toList)) = decide (PP ≠ l)) := strs_ne HPB.out HBy.out
      generalize strOfNums PP = sp at *
      generalize strOfNums l = sl at *
      refine op_wp rfl rfl ?_
      generalize hE : (fr [132, 133, 134, 135, 136] A t).eval = ev at e134 e136
      unfold Oper.wp
      rw [hE]
      go_simp
      refine hMet _ _ (Met.intro (hRJ _ _ ⟨t 132, t 133, t 134, t 135, t 136, _, ⟨by rw [← ES.out], hB⟩, ?_⟩))
      rw [← hA]; rfl
  case rest =>
    obtain ⟨z, hqz⟩ : ∃ z, z = wc := ⟨_, rfl⟩
    subst hqz
    obtain ⟨rfl, bz⟩ := hcut
    have KZ : Hid (Blk z gr 25 [.int .i64 0, .int .i64 0, .slice none 0 0, .slice none 0 0, .int .i64 0, .slice none 0 0, .slice none 0 0, .int .i64 0, .int .i64 0, .slice none 0 0, .slice none 0 0]) := KR7.out.later bz
    have BZ : Hid (Below w.heap.size w z) := B7.out.trans (bz.mono B7.out.size)
    have MX : Hid (FrMk z gf (gf + 1) ⟨(z0), (z1), (piece l 2 12), (piece l 14 12), (val (piece l 26 4)), (piece l 30 16), (l.drop 46), 0, 0, [], []⟩ ⟨⟨some ⟨g3, 0, none⟩, 12, c3⟩, ⟨some ⟨g4, 0, none⟩, 12, c4⟩, ⟨some ⟨g6, 0, none⟩, 16, c6⟩, ⟨some ⟨g7, 0, none⟩, 16, c7⟩, ⟨none, 0, 0⟩, ⟨none, 0, 0⟩⟩) := M7.out.later bz
    clear bz M7 KR7 B7
    have zc0 := KZ.out.cell 0 rfl
    have zf0 := KZ.out.frozen 0
    have zc1 := KZ.out.cell 1 rfl
    have zf1 := KZ.out.frozen 1
    have zc2 := KZ.out.cell 2 rfl
    have zf2 := KZ.out.frozen 2
    have zc3 := KZ.out.cell 3 rfl
    have zf3 := KZ.out.frozen 3
    have zc4 := KZ.out.cell 4 rfl
    have zf4 := KZ.out.frozen 4
    have zc5 := KZ.out.cell 5 rfl
    have zf5 := KZ.out.frozen 5
    have zc6 := KZ.out.cell 6 rfl
    have zf6 := KZ.out.frozen 6
    have zc7 := KZ.out.cell 7 rfl
    have zf7 := KZ.out.frozen 7
    have zc8 := KZ.out.cell 8 rfl
    have zf8 := KZ.out.frozen 8
    have zc9 := KZ.out.cell 9 rfl
    have zf9 := KZ.out.frozen 9
    have zc10 := KZ.out.cell 10 rfl
    have zf10 := KZ.out.frozen 10
    by_cases hp : PP = l
    · have hd : decide (PP ≠ l) = false := by simpa using hp
      have HP : Hid (PP = l) := hp
      rw [hd]
      clear hp hd
      have zo0 : z.cell? ⟨gf, 0, none⟩ = some (.int .i64 (z0)) := MX.out.blk.cell 0 rfl
      have zo1 : z.cell? ⟨gf, 1, none⟩ = some (.int .i64 (z1)) := MX.out.blk.cell 1 rfl
      have zo2 : z.cell? ⟨gf, 2, none⟩ = some (.slice (some ⟨g3, 0, none⟩) 12 c3) := MX.out.blk.cell 2 rfl
      have zo3 : z.cell? ⟨gf, 3, none⟩ = some (.slice (some ⟨g4, 0, none⟩) 12 c4) := MX.out.blk.cell 3 rfl
      have zo4 : z.cell? ⟨gf, 4, none⟩ = some (.int .i64 (val (piece l 26 4))) := MX.out.blk.cell 4 rfl
      have zo5 : z.cell? ⟨gf, 5, none⟩ = some (.slice (some ⟨g6, 0, none⟩) 16 c6) := MX.out.blk.cell 5 rfl
      have zo6 : z.cell? ⟨gf, 6, none⟩ = some (.slice (some ⟨g7, 0, none⟩) 16 c7) := MX.out.blk.cell 6 rfl
      have zo7 : z.cell? ⟨gf, 7, none⟩ = some (.int .i64 0) := MX.out.blk.cell 7 rfl
      have zo8 : z.cell? ⟨gf, 8, none⟩ = some (.int .i64 0) := MX.out.blk.cell 8 rfl
      have zo9 : z.cell? ⟨gf, 9, none⟩ = some (.slice none 0 0) := MX.out.blk.cell 9 rfl
      have zo10 : z.cell? ⟨gf, 10, none⟩ = some (.slice none 0 0) := MX.out.blk.cell 10 rfl
      have ne1 : gr ≠ gf := by have := HG.out; omega
      have ne2 : gf ≠ gr := by have := HG.out; omega
      go_wp2
      have KF : Blk ((((((((((((z).setCell ⟨gr, 0, none⟩ (.int .i64 (z0))).setCell ⟨gr, 1, none⟩ (.int .i64 (z1))).setCell ⟨gr, 2, none⟩ (.slice (some ⟨g3, 0, none⟩) 12 c3)).setCell ⟨gr, 3, none⟩ (.slice (some ⟨g4, 0, none⟩) 12 c4)).setCell ⟨gr, 4, none⟩ (.int .i64 (val (piece l 26 4)))).setCell ⟨gr, 5, none⟩ (.slice (some ⟨g6, 0, none⟩) 16 c6)).setCell ⟨gr, 6, none⟩ (.slice (some ⟨g7, 0, none⟩) 16 c7)).setCell ⟨gr, 7, none⟩ (.int .i64 0)).setCell ⟨gr, 8, none⟩ (.int .i64 0)).setCell ⟨gr, 9, none⟩ (.slice none 0 0)).setCell ⟨gr, 10, none⟩ (.slice none 0 0)) gr 25 [.int .i64 (z0), .int .i64 (z1), .slice (some ⟨g3, 0, none⟩) 12 c3, .slice (some ⟨g4, 0, none⟩) 12 c4, .int .i64 (val (piece l 26 4)), .slice (some ⟨g6, 0, none⟩) 16 c6, .slice (some ⟨g7, 0, none⟩) 16 c7, .int .i64 0, .int .i64 0, .slice none 0 0, .slice none 0 0] := (((((((((((KZ.out).set 0 _ (by simp [maxLen])).set 1 _ (by simp [maxLen])).set 2 _ (by simp [maxLen])).set 3 _ (by simp [maxLen])).set 4 _ (by simp [maxLen])).set 5 _ (by simp [maxLen])).set 6 _ (by simp [maxLen])).set 7 _ (by simp [maxLen])).set 8 _ (by simp [maxLen])).set 9 _ (by simp [maxLen])).set 10 _ (by simp [maxLen])
      have KK : Kept gr (gr + 1) z ((((((((((((z).setCell ⟨gr, 0, none⟩ (.int .i64 (z0))).setCell ⟨gr, 1, none⟩ (.int .i64 (z1))).setCell ⟨gr, 2, none⟩ (.slice (some ⟨g3, 0, none⟩) 12 c3)).setCell ⟨gr, 3, none⟩ (.slice (some ⟨g4, 0, none⟩) 12 c4)).setCell ⟨gr, 4, none⟩ (.int .i64 (val (piece l 26 4)))).setCell ⟨gr, 5, none⟩ (.slice (some ⟨g6, 0, none⟩) 16 c6)).setCell ⟨gr, 6, none⟩ (.slice (some ⟨g7, 0, none⟩) 16 c7)).setCell ⟨gr, 7, none⟩ (.int .i64 0)).setCell ⟨gr, 8, none⟩ (.int .i64 0)).setCell ⟨gr, 9, none⟩ (.slice none 0 0)).setCell ⟨gr, 10, none⟩ (.slice none 0 0)) := ((((((((((((Kept.refl gr (gr + 1) z)).trans (Kept.setCell _ gr 0 _)).trans (Kept.setCell _ gr 1 _)).trans (Kept.setCell _ gr 2 _)).trans (Kept.setCell _ gr 3 _)).trans (Kept.setCell _ gr 4 _)).trans (Kept.setCell _ gr 5 _)).trans (Kept.setCell _ gr 6 _)).trans (Kept.setCell _ gr 7 _)).trans (Kept.setCell _ gr 8 _)).trans (Kept.setCell _ gr 9 _)).trans (Kept.setCell _ gr 10 _)
      exact ret_got rfl rfl rfl KF rfl (D := ⟨(z0), (z1), (piece l 2 12), (piece l 14 12), (val (piece l 26 4)), (piece l 30 16), (l.drop 46), 0, 0, [], []⟩) (S := ⟨⟨some ⟨g3, 0, none⟩, 12, c3⟩, ⟨some ⟨g4, 0, none⟩, 12, c4⟩, ⟨some ⟨g6, 0, none⟩, 16, c6⟩, ⟨some ⟨g7, 0, none⟩, 16, c7⟩, ⟨none, 0, 0⟩, ⟨none, 0, 0⟩⟩) (CA.out.yes (HPP.out.trans HP.out)) ((MX.out.own.carry KK (.inr (by have := HG.out; omega))).mono (by have := HG.out; omega) KK.size) ((((((((((((BZ.out).setCell (by show _ ≤ gr; have := HG.out; omega) _).setCell (by show _ ≤ gr; have := HG.out; omega) _).setCell (by show _ ≤ gr; have := HG.out; omega) _).setCell (by show _ ≤ gr; have := HG.out; omega) _).setCell (by show _ ≤ gr; have := HG.out; omega) _).setCell (by show _ ≤ gr; have := HG.out; omega) _).setCell (by show _ ≤ gr; have := HG.out; omega) _).setCell (by show _ ≤ gr; have := HG.out; omega) _).setCell (by show _ ≤ gr; have := HG.out; omega) _).setCell (by show _ ≤ gr; have := HG.out; omega) _).setCell (by show _ ≤ gr; have := HG.out; omega) _)
    · have hd : decide (PP ≠ l) = true := by simpa using hp
      have HP : Hid (PP ≠ l) := hp
      rw [hd]
      clear hp hd
      go_wp2
      have KF : Blk ((((((((((((z).setCell ⟨gr, 0, none⟩ (.int .i64 0)).setCell ⟨gr, 1, none⟩ (.int .i64 0)).setCell ⟨gr, 2, none⟩ (.slice none 0 0)).setCell ⟨gr, 3, none⟩ (.slice none 0 0)).setCell ⟨gr, 4, none⟩ (.int .i64 0)).setCell ⟨gr, 5, none⟩ (.slice none 0 0)).setCell ⟨gr, 6, none⟩ (.slice none 0 0)).setCell ⟨gr, 7, none⟩ (.int .i64 0)).setCell ⟨gr, 8, none⟩ (.int .i64 0)).setCell ⟨gr, 9, none⟩ (.slice none 0 0)).setCell ⟨gr, 10, none⟩ (.slice none 0 0)) gr 25 [.int .i64 0, .int .i64 0, .slice none 0 0, .slice none 0 0, .int .i64 0, .slice none 0 0, .slice none 0 0, .int .i64 0, .int .i64 0, .slice none 0 0, .slice none 0 0] := (((((((((((KZ.out).set 0 _ (by simp [maxLen])).set 1 _ (by simp [maxLen])).set 2 _ (by simp [maxLen])).set 3 _ (by simp [maxLen])).set 4 _ (by simp [maxLen])).set 5 _ (by simp [maxLen])).set 6 _ (by simp [maxLen])).set 7 _ (by simp [maxLen])).set 8 _ (by simp [maxLen])).set 9 _ (by simp [maxLen])).set 10 _ (by simp [maxLen])
      exact ret_got rfl rfl rfl KF rfl (D := zeroF) (S := SN) (CA.out.no (by rw [HPP.out]; exact HP.out)) (own_nil _ _ _) ((((((((((((BZ.out).setCell (by show _ ≤ gr; have := HG.out; omega) _).setCell (by show _ ≤ gr; have := HG.out; omega) _).setCell (by show _ ≤ gr; have := HG.out; omega) _).setCell (by show _ ≤ gr; have := HG.out; omega) _).setCell (by show _ ≤ gr; have := HG.out; omega) _).setCell (by show _ ≤ gr; have := HG.out; omega) _).setCell (by show _ ≤ gr; have := HG.out; omega) _).setCell (by show _ ≤ gr; have := HG.out; omega) _).setCell (by show _ ≤ gr; have := HG.out; omega) _).setCell (by show _ ≤ gr; have := HG.out; omega) _).setCell (by show _ ≤ gr; have := HG.out; omega) _)

set_option maxRecDepth 100000 in
set_option maxHeartbeats 8000000 in
theorem getS_yes (bb off N c : Nat) (l : List Int) (w : World) (hn : N = l.length) (hr : Rd w (some ⟨bb, off, none⟩) l) (hb : Bytes l) (hc : N ≤ c) (hm : N ≤ 4194304) (k1 : (l.getD 0 0 == 1) = false) (k2 : (l.getD 0 0 == 2) = false) (k3 : (l.getD 0 0 == 3) = false) (hl : 39 ≤ N) (cn39 : ¬ c = 39) (h0 : ¬ N = 0) :
    Calls Try.prog 19 #[.slice (some ⟨bb, off, none⟩) N c] w (Gave w l) := by
  have HRd : Hid (Rd w (some ⟨bb, off, none⟩) l) := hr
  have HBy : Hid (Bytes l) := hb
  have HLen : Hid (N = l.length) := hn
  obtain ⟨x0, hx0⟩ : ∃ x0, (w.alloc (.cells #[.int .i64 0, .int .i64 0, .slice none 0 0, .slice none 0 0, .int .i64 0, .slice none 0 0, .slice none 0 0, .int .i64 0, .int .i64 0, .slice none 0 0, .slice none 0 0] 25)).alloc (.cells #[.int .i64 0, .int .i64 0, .slice none 0 0, .slice none 0 0, .int .i64 0, .slice none 0 0, .slice none 0 0, .int .i64 0, .int .i64 0, .slice none 0 0, .slice none 0 0] 25) = x0 := ⟨_, rfl⟩
  have HW0 : Hid ((w.alloc (.cells #[.int .i64 0, .int .i64 0, .slice none 0 0, .slice none 0 0, .int .i64 0, .slice none 0 0, .slice none 0 0, .int .i64 0, .int .i64 0, .slice none 0 0, .slice none 0 0] 25)).alloc (.cells #[.int .i64 0, .int .i64 0, .slice none 0 0, .slice none 0 0, .int .i64 0, .slice none 0 0, .slice none 0 0, .int .i64 0, .int .i64 0, .slice none 0 0, .slice none 0 0] 25) = x0) := hx0
  have B0 : Hid (Below w.heap.size w x0) := by rw [← hx0]; exact ((Below.refl _ _).alloc (Nat.le_refl _) _).alloc (by simp) _
  have KR0 : Hid (Blk x0 w.heap.size 25 [.int .i64 0, .int .i64 0, .slice none 0 0, .slice none 0 0, .int .i64 0, .slice none 0 0, .slice none 0 0, .int .i64 0, .int .i64 0, .slice none 0 0, .slice none 0 0]) := by rw [← hx0]; exact (Blk.new w _ [.int .i64 0, .int .i64 0, .slice none 0 0, .slice none 0 0, .int .i64 0, .slice none 0 0, .slice none 0 0, .int .i64 0, .int .i64 0, .slice none 0 0, .slice none 0 0]).alloc _
  have KF0 : Blk x0 (w.heap.size + 1) 25 [.int .i64 0, .int .i64 0, .slice none 0 0, .slice none 0 0, .int .i64 0, .slice none 0 0, .slice none 0 0, .int .i64 0, .int .i64 0, .slice none 0 0, .slice none 0 0] := by
    have := Blk.new (w.alloc (.cells #[.int .i64 0, .int .i64 0, .slice none 0 0, .slice none 0 0, .int .i64 0, .slice none 0 0, .slice none 0 0, .int .i64 0, .int .i64 0, .slice none 0 0, .slice none 0 0] 25)) 25 [.int .i64 0, .int .i64 0, .slice none 0 0, .slice none 0 0, .int .i64 0, .slice none 0 0, .slice none 0 0, .int .i64 0, .int .i64 0, .slice none 0 0, .slice none 0 0]
    rw [World.size_alloc] at this
    rw [← hx0]; exact this
  have M0 : Hid (FrMk x0 (w.heap.size + 1) (w.heap.size + 1 + 1) ⟨0, 0, [], [], 0, [], [], 0, 0, [], []⟩ ⟨⟨none, 0, 0⟩, ⟨none, 0, 0⟩, ⟨none, 0, 0⟩, ⟨none, 0, 0⟩, ⟨none, 0, 0⟩, ⟨none, 0, 0⟩⟩) := ⟨KF0, own_nil _ _ _, Nat.lt_succ_self _⟩
  clear hx0 hr hb KF0 hn
  have hlI : ¬ ((N : Int) < 39) := by omega
  have hlJ : (39 : Int) ≤ (N : Int) := by omega
  have hlK : (N : Int) ≤ (c : Int) := by omega
  have cb13 : (13 : Int) ≤ (c : Int) := by omega
  have cb39 : (39 : Int) ≤ (c : Int) := by omega
  have cn1 : ¬ c = 1 := by omega
  have cn23 : ¬ c = 23 := by omega
  obtain ⟨z0, hz0⟩ : ∃ z0, l.getD 0 0 = z0 := ⟨_, rfl⟩
  have HZ0 : Hid (l.getD 0 0 = z0) := hz0
  rw [hz0] at k1 k2 k3
  have hb0 := HBy.out.at 0
  rw [hz0] at hb0
  have hwz : IntKind.i64.wrap z0 = z0 := by rw [IntKind.wrap_i64]; omega
  have hcb : x0.cell? ⟨bb, off, none⟩ = some (.int .u8 z0) := by
    obtain ⟨b', off', e, h3, h4⟩ := HRd.out 0 (by have := HLen.out; omega)
    simp only [Option.some.injEq, Addr.mk.injEq, and_true] at e
    obtain ⟨rfl, rfl⟩ := e
    rw [Nat.add_zero, hz0] at h4
    rw [B0.out.cell h3]; exact h4
  clear hz0 hb0
  have hNI : ¬ ((N : Int) = 0) := by omega
  have hN1 : (0 : Int) < (N : Int) := by omega
  go_enter Try.func19, Try.ntmps19
  go_upto_region 4 with fail
  rw [HW0.out]
  obtain ⟨gr, hgr⟩ : ∃ gr, w.heap.size = gr := ⟨_, rfl⟩
  obtain ⟨gf, hgf⟩ : ∃ gf, w.heap.size + 1 = gf := ⟨_, rfl⟩
  have HG : Hid (w.heap.size = gr ∧ gf = gr + 1) := ⟨hgr, by omega⟩
  rw [hgf] at M0 ⊢
  rw [hgr] at KR0
  rw [hgr]
  clear hgr hgf HW0
  have co : x0.cell? ⟨gf, 0, none⟩ = some (.int .i64 0) := M0.out.blk.cell 0 rfl
  have fo := M0.out.blk.frozen 0
  obtain ⟨x1, hx1⟩ : ∃ x1, x0.setCell ⟨gf, 0, none⟩ (.int .i64 (z0)) = x1 := ⟨_, rfl⟩
  have HW1 : Hid (x0.setCell ⟨gf, 0, none⟩ (.int .i64 (z0)) = x1) := hx1
  have M1 : Hid (FrMk x1 gf (gf + 1) ⟨(z0), 0, [], [], 0, [], [], 0, 0, [], []⟩ ⟨⟨none, 0, 0⟩, ⟨none, 0, 0⟩, ⟨none, 0, 0⟩, ⟨none, 0, 0⟩, ⟨none, 0, 0⟩, ⟨none, 0, 0⟩⟩) := by rw [← hx1]; exact M0.out.kind _
  have KR1 : Hid (Blk x1 gr 25 [.int .i64 0, .int .i64 0, .slice none 0 0, .slice none 0 0, .int .i64 0, .slice none 0 0, .slice none 0 0, .int .i64 0, .int .i64 0, .slice none 0 0, .slice none 0 0]) := by rw [← hx1]; exact KR0.out.other (by show gr ≠ gf; have := HG.out; omega) _
  have B1 : Hid (Below w.heap.size w x1) := by rw [← hx1]; exact B0.out.setCell (by show _ ≤ gf; have := HG.out; omega) _
  clear hx1
  go_upto_region 5 with fail
  rw [HW1.out]
  clear co fo HW1 M0 KR0 B0
  have kc : x1.cell? ⟨gf, 0, none⟩ = some (.int .i64 z0) := M1.out.blk.cell 0 rfl
  go_upto_region 8 with fail
  have R0 : Hid (Row (x1.alloc (.cells #[] 5)) x1.heap.size 0 []) := row_new x1 [] (by simp)
  have A0 : Hid (Below x1.heap.size x1 (x1.alloc (.cells #[] 5))) := (Below.refl _ _).alloc (Nat.le_refl _) _
  have RP : Hid (Rd (x1.alloc (.cells #[] 5)) (some ⟨bb, off + 1, none⟩) (piece l 1 12)) := (rdPiece HRd.out 1 (piece l 1 12) (piece_sub l 1 12)).later (B1.out.alloc B1.out.size _) (Nat.le_refl _)
  have HB2 : Hid (Bytes (piece l 1 12)) := bytes_piece HBy.out _ _
  go_upto_region 9 with (at_builtin; refine wpList_app _ rfl (.tmp 21) (.tmp 23) rfl x1.heap.size x1.heap.size 0 0 [] (piece l 1 12) rfl rfl R0.out (Nat.le_refl _) _ _ _ rfl (by rw [piece_length l 1 12 (by have := HLen.out; omega)]) RP.out (by intro e; cases e) (by rw [piece_length l 1 12 (by have := HLen.out; omega)]; simp) ?_; intro g2 c2 y2 r2 k2 l2 gr2; have RR2 : Hid (Row y2 g2 c2 (piece l 1 12)) := r2; have GE2 : Hid (x1.heap.size ≤ g2) := k2; have BY2 : Hid (Below x1.heap.size x1 y2) := A0.out.grown gr2 A0.out.size (fun k h => by cases h; exact Nat.le_refl _); have co : y2.cell? ⟨gf, 3, none⟩ = some (.slice none 0 0) := (M1.out.later BY2.out).blk.cell 3 rfl; have fo := (M1.out.later BY2.out).blk.frozen 3; clear r2 k2 l2 gr2)
  obtain ⟨x2, hx2⟩ : ∃ x2, y2.setCell ⟨gf, 3, none⟩ (.slice (some ⟨g2, 0, none⟩) 12 c2) = x2 := ⟨_, rfl⟩
  have HW2 : Hid (y2.setCell ⟨gf, 3, none⟩ (.slice (some ⟨g2, 0, none⟩) 12 c2) = x2) := hx2
  have M2 : Hid (FrMk x2 gf (gf + 1) ⟨(z0), 0, [], (piece l 1 12), 0, [], [], 0, 0, [], []⟩ ⟨⟨none, 0, 0⟩, ⟨some ⟨g2, 0, none⟩, 12, c2⟩, ⟨none, 0, 0⟩, ⟨none, 0, 0⟩, ⟨none, 0, 0⟩, ⟨none, 0, 0⟩⟩) := by rw [← hx2]; exact M1.out.sn M1.out.blk.lt BY2.out RR2.out (by rw [piece_length l 1 12 (by have := HLen.out; omega)]) HB2.out GE2.out
  have KR2 : Hid (Blk x2 gr 25 [.int .i64 0, .int .i64 0, .slice none 0 0, .slice none 0 0, .int .i64 0, .slice none 0 0, .slice none 0 0, .int .i64 0, .int .i64 0, .slice none 0 0, .slice none 0 0]) := by rw [← hx2]; exact (KR1.out.later BY2.out).other (by show gr ≠ gf; have := HG.out; omega) _
  have B2 : Hid (Below w.heap.size w x2) := by rw [← hx2]; exact (B1.out.trans (BY2.out.mono B1.out.size)).setCell (by show _ ≤ gf; have := HG.out; omega) _
  clear hx2 R0 A0 RP
  rw [HW2.out]
  clear co fo HW2 M1 KR1 B1 RR2 GE2 BY2 HB2
  have co : x2.cell? ⟨gf, 7, none⟩ = some (.int .i64 0) := M2.out.blk.cell 7 rfl
  have fo := M2.out.blk.frozen 7
  have GN : Hid (gotN l 13 4 = .tuple #[.int .i64 (val (piece l 13 4)), .int .i64 17, .bool true]) := gotN_yes l 13 4 17 rfl rfl (by have := HLen.out; omega)
  go_wp2_with fail
  refine (specGetN (some ⟨bb, off, none⟩) N c l 13 4 x2 HLen.out (HRd.out.later B2.out (Nat.le_refl _)) HBy.out (by omega)).mono ?_
  rw [GN.out]
  rintro e y ⟨rfl, rfl⟩
  clear GN
  obtain ⟨x3, hx3⟩ : ∃ x3, x2.setCell ⟨gf, 7, none⟩ (.int .i64 (val (piece l 13 4))) = x3 := ⟨_, rfl⟩
  have HW3 : Hid (x2.setCell ⟨gf, 7, none⟩ (.int .i64 (val (piece l 13 4))) = x3) := hx3
  have M3 : Hid (FrMk x3 gf (gf + 1) ⟨(z0), 0, [], (piece l 1 12), 0, [], [], (val (piece l 13 4)), 0, [], []⟩ ⟨⟨none, 0, 0⟩, ⟨some ⟨g2, 0, none⟩, 12, c2⟩, ⟨none, 0, 0⟩, ⟨none, 0, 0⟩, ⟨none, 0, 0⟩, ⟨none, 0, 0⟩⟩) := by rw [← hx3]; exact M2.out.epoch _
  have KR3 : Hid (Blk x3 gr 25 [.int .i64 0, .int .i64 0, .slice none 0 0, .slice none 0 0, .int .i64 0, .slice none 0 0, .slice none 0 0, .int .i64 0, .int .i64 0, .slice none 0 0, .slice none 0 0]) := by rw [← hx3]; exact KR2.out.other (by show gr ≠ gf; have := HG.out; omega) _
  have B3 : Hid (Below w.heap.size w x3) := by rw [← hx3]; exact B2.out.setCell (by show _ ≤ gf; have := HG.out; omega) _
  clear hx3
  go_upto_region 10 with fail
  rw [HW3.out]
  clear co fo HW3 M2 KR2 B2
  have co : x3.cell? ⟨gf, 8, none⟩ = some (.int .i64 0) := M3.out.blk.cell 8 rfl
  have fo := M3.out.blk.frozen 8
  have GN : Hid (gotN l 17 6 = .tuple #[.int .i64 (val (piece l 17 6)), .int .i64 23, .bool true]) := gotN_yes l 17 6 23 rfl rfl (by have := HLen.out; omega)
  go_wp2_with fail
  refine (specGetN (some ⟨bb, off, none⟩) N c l 17 6 x3 HLen.out (HRd.out.later B3.out (Nat.le_refl _)) HBy.out (by omega)).mono ?_
  rw [GN.out]
  rintro e y ⟨rfl, rfl⟩
  clear GN
  obtain ⟨x4, hx4⟩ : ∃ x4, x3.setCell ⟨gf, 8, none⟩ (.int .i64 (val (piece l 17 6))) = x4 := ⟨_, rfl⟩
  have HW4 : Hid (x3.setCell ⟨gf, 8, none⟩ (.int .i64 (val (piece l 17 6))) = x4) := hx4
  have M4 : Hid (FrMk x4 gf (gf + 1) ⟨(z0), 0, [], (piece l 1 12), 0, [], [], (val (piece l 13 4)), (val (piece l 17 6)), [], []⟩ ⟨⟨none, 0, 0⟩, ⟨some ⟨g2, 0, none⟩, 12, c2⟩, ⟨none, 0, 0⟩, ⟨none, 0, 0⟩, ⟨none, 0, 0⟩, ⟨none, 0, 0⟩⟩) := by rw [← hx4]; exact M3.out.seq _
  have KR4 : Hid (Blk x4 gr 25 [.int .i64 0, .int .i64 0, .slice none 0 0, .slice none 0 0, .int .i64 0, .slice none 0 0, .slice none 0 0, .int .i64 0, .int .i64 0, .slice none 0 0, .slice none 0 0]) := by rw [← hx4]; exact KR3.out.other (by show gr ≠ gf; have := HG.out; omega) _
  have B4 : Hid (Below w.heap.size w x4) := by rw [← hx4]; exact B3.out.setCell (by show _ ≤ gf; have := HG.out; omega) _
  clear hx4
  go_upto_region 11 with fail
  rw [HW4.out]
  clear co fo HW4 M3 KR3 B3
  have R0 : Hid (Row (x4.alloc (.cells #[] 5)) x4.heap.size 0 []) := row_new x4 [] (by simp)
  have A0 : Hid (Below x4.heap.size x4 (x4.alloc (.cells #[] 5))) := (Below.refl _ _).alloc (Nat.le_refl _) _
  have RP : Hid (Rd (x4.alloc (.cells #[] 5)) (some ⟨bb, off + 23, none⟩) (piece l 23 16)) := (rdPiece HRd.out 23 (piece l 23 16) (piece_sub l 23 16)).later (B4.out.alloc B4.out.size _) (Nat.le_refl _)
  have HB5 : Hid (Bytes (piece l 23 16)) := bytes_piece HBy.out _ _
  go_upto_region 12 with (at_builtin; refine wpList_app _ rfl (.tmp 40) (.tmp 42) rfl x4.heap.size x4.heap.size 0 0 [] (piece l 23 16) rfl rfl R0.out (Nat.le_refl _) _ _ _ rfl (by rw [piece_length l 23 16 (by have := HLen.out; omega)]) RP.out (by intro e; cases e) (by rw [piece_length l 23 16 (by have := HLen.out; omega)]; simp) ?_; intro g5 c5 y5 r5 k5 l5 gr5; have RR5 : Hid (Row y5 g5 c5 (piece l 23 16)) := r5; have GE5 : Hid (x4.heap.size ≤ g5) := k5; have BY5 : Hid (Below x4.heap.size x4 y5) := A0.out.grown gr5 A0.out.size (fun k h => by cases h; exact Nat.le_refl _); have co : y5.cell? ⟨gf, 10, none⟩ = some (.slice none 0 0) := (M4.out.later BY5.out).blk.cell 10 rfl; have fo := (M4.out.later BY5.out).blk.frozen 10; clear r5 k5 l5 gr5)
  obtain ⟨x5, hx5⟩ : ∃ x5, y5.setCell ⟨gf, 10, none⟩ (.slice (some ⟨g5, 0, none⟩) 16 c5) = x5 := ⟨_, rfl⟩
  have HW5 : Hid (y5.setCell ⟨gf, 10, none⟩ (.slice (some ⟨g5, 0, none⟩) 16 c5) = x5) := hx5
  have M5 : Hid (FrMk x5 gf (gf + 1) ⟨(z0), 0, [], (piece l 1 12), 0, [], [], (val (piece l 13 4)), (val (piece l 17 6)), [], (piece l 23 16)⟩ ⟨⟨none, 0, 0⟩, ⟨some ⟨g2, 0, none⟩, 12, c2⟩, ⟨none, 0, 0⟩, ⟨none, 0, 0⟩, ⟨none, 0, 0⟩, ⟨some ⟨g5, 0, none⟩, 16, c5⟩⟩) := by rw [← hx5]; exact M4.out.tag M4.out.blk.lt BY5.out RR5.out (by rw [piece_length l 23 16 (by have := HLen.out; omega)]) HB5.out GE5.out
  have KR5 : Hid (Blk x5 gr 25 [.int .i64 0, .int .i64 0, .slice none 0 0, .slice none 0 0, .int .i64 0, .slice none 0 0, .slice none 0 0, .int .i64 0, .int .i64 0, .slice none 0 0, .slice none 0 0]) := by rw [← hx5]; exact (KR4.out.later BY5.out).other (by show gr ≠ gf; have := HG.out; omega) _
  have B5 : Hid (Below w.heap.size w x5) := by rw [← hx5]; exact (B4.out.trans (BY5.out.mono B4.out.size)).setCell (by show _ ≤ gf; have := HG.out; omega) _
  clear hx5 R0 A0 RP
  rw [HW5.out]
  clear co fo HW5 M4 KR4 B4 RR5 GE5 BY5 HB5
  have R0 : Hid (Row (x5.alloc (.cells #[] 5)) x5.heap.size 0 []) := row_new x5 [] (by simp)
  have A0 : Hid (Below x5.heap.size x5 (x5.alloc (.cells #[] 5))) := (Below.refl _ _).alloc (Nat.le_refl _) _
  have RP : Hid (Rd (x5.alloc (.cells #[] 5)) (some ⟨bb, off + 39, none⟩) (l.drop 39)) := (rdPiece HRd.out 39 (l.drop 39) (drop_sub l 39)).later (B5.out.alloc B5.out.size _) (Nat.le_refl _)
  have HB6 : Hid (Bytes (l.drop 39)) := bytes_drop HBy.out _
  go_upto_region 34 with (at_builtin; refine wpList_app _ rfl (.tmp 45) (.tmp 47) rfl x5.heap.size x5.heap.size 0 0 [] (l.drop 39) rfl rfl R0.out (Nat.le_refl _) _ _ _ rfl (by rw [List.length_drop]; have := HLen.out; omega) RP.out (by intro e; cases e) (by rw [List.length_nil, List.length_drop]; have := HLen.out; omega) ?_; intro g6 c6 y6 r6 k6 l6 gr6; have RR6 : Hid (Row y6 g6 c6 (l.drop 39)) := r6; have GE6 : Hid (x5.heap.size ≤ g6) := k6; have BY6 : Hid (Below x5.heap.size x5 y6) := A0.out.grown gr6 A0.out.size (fun k h => by cases h; exact Nat.le_refl _); have co : y6.cell? ⟨gf, 9, none⟩ = some (.slice none 0 0) := (M5.out.later BY6.out).blk.cell 9 rfl; have fo := (M5.out.later BY6.out).blk.frozen 9; clear r6 k6 l6 gr6)
  obtain ⟨x6, hx6⟩ : ∃ x6, y6.setCell ⟨gf, 9, none⟩ (.slice (some ⟨g6, 0, none⟩) (N - 39) c6) = x6 := ⟨_, rfl⟩
  have HW6 : Hid (y6.setCell ⟨gf, 9, none⟩ (.slice (some ⟨g6, 0, none⟩) (N - 39) c6) = x6) := hx6
  have M6 : Hid (FrMk x6 gf (gf + 1) ⟨(z0), 0, [], (piece l 1 12), 0, [], [], (val (piece l 13 4)), (val (piece l 17 6)), (l.drop 39), (piece l 23 16)⟩ ⟨⟨none, 0, 0⟩, ⟨some ⟨g2, 0, none⟩, 12, c2⟩, ⟨none, 0, 0⟩, ⟨none, 0, 0⟩, ⟨some ⟨g6, 0, none⟩, (N - 39), c6⟩, ⟨some ⟨g5, 0, none⟩, 16, c5⟩⟩) := by rw [← hx6]; exact M5.out.body M5.out.blk.lt BY6.out RR6.out (by rw [List.length_drop]; have := HLen.out; omega) HB6.out GE6.out
  have KR6 : Hid (Blk x6 gr 25 [.int .i64 0, .int .i64 0, .slice none 0 0, .slice none 0 0, .int .i64 0, .slice none 0 0, .slice none 0 0, .int .i64 0, .int .i64 0, .slice none 0 0, .slice none 0 0]) := by rw [← hx6]; exact (KR5.out.later BY6.out).other (by show gr ≠ gf; have := HG.out; omega) _
  have B6 : Hid (Below w.heap.size w x6) := by rw [← hx6]; exact (B5.out.trans (BY6.out.mono B5.out.size)).setCell (by show _ ≤ gf; have := HG.out; omega) _
  clear hx6 R0 A0 RP
  rw [HW6.out]
  clear co fo HW6 M5 KR5 B5 RR6 GE6 BY6 HB6
  have CA : Hid (Cand l ⟨(z0), 0, [], (piece l 1 12), 0, [], [], (val (piece l 13 4)), (val (piece l 17 6)), (l.drop 39), (piece l 23 16)⟩) := by have q := candS (b := l) (by intro e; rw [e] at HLen; have := HLen.out; simp at this; omega) (by rw [HZ0.out]; exact ne_of_beq_false k1) (by rw [HZ0.out]; exact ne_of_beq_false k2) (by rw [HZ0.out]; exact ne_of_beq_false k3); unfold getS at q; rw [HZ0.out] at q; exact q
  have RF : Hid (FrRd x6 ⟨⟨none, 0, 0⟩, ⟨some ⟨g2, 0, none⟩, 12, c2⟩, ⟨none, 0, 0⟩, ⟨none, 0, 0⟩, ⟨some ⟨g6, 0, none⟩, (N - 39), c6⟩, ⟨some ⟨g5, 0, none⟩, 16, c5⟩⟩ ⟨(z0), 0, [], (piece l 1 12), 0, [], [], (val (piece l 13 4)), (val (piece l 17 6)), (l.drop 39), (piece l 23 16)⟩) := M6.out.own.rd
  obtain ⟨PP, hPP⟩ : ∃ PP, putF ⟨(z0), 0, [], (piece l 1 12), 0, [], [], (val (piece l 13 4)), (val (piece l 17 6)), (l.drop 39), (piece l 23 16)⟩ = PP := ⟨_, rfl⟩
  have HPP : Hid (putF ⟨(z0), 0, [], (piece l 1 12), 0, [], [], (val (piece l 13 4)), (val (piece l 17 6)), (l.drop 39), (piece l 23 16)⟩ = PP) := hPP
  have HPB : Hid (Bytes PP) := by rw [← hPP]; exact putF_bytes RF.out
  clear hPP
  go_cut [137] from 132 to 136 (fun s137 wx => s137 = .bool (decide (PP ≠ l)) ∧ Below x6.heap.size x6 wx)
  case first =>
    rename_i J K' hRJ hMet
    generalize hA : Act.mk _ _ = A
    have a0' : A.eval (.tmp 0) = .slice (some ⟨bb, off, none⟩) N c := by rw [← hA]; rfl
    have a4' : A.eval (.tmp 4) = .pointer (some ⟨gf, 0, none⟩) := by rw [← hA]; rfl
    have asz : A.tmps.size = 140 := by rw [← hA]; rfl
    have hM : ∀ wx, Below x6.heap.size x6 wx → FrMk wx gf (gf + 1) ⟨(z0), 0, [], (piece l 1 12), 0, [], [], (val (piece l 13 4)), (val (piece l 17 6)), (l.drop 39), (piece l 23 16)⟩ ⟨⟨none, 0, 0⟩, ⟨some ⟨g2, 0, none⟩, 12, c2⟩, ⟨none, 0, 0⟩, ⟨none, 0, 0⟩, ⟨some ⟨g6, 0, none⟩, (N - 39), c6⟩, ⟨some ⟨g5, 0, none⟩, 16, c5⟩⟩ := fun wx hb => M6.out.later hb
    have hR : ∀ wx, Below x6.heap.size x6 wx → Rd wx (some ⟨bb, off, none⟩) l := fun wx hb => HRd.out.later (B6.out.trans (hb.mono B6.out.size)) (Nat.le_refl _)
    have hPut : ∀ wx, Below x6.heap.size x6 wx → Calls Try.prog 26 #[.agg #[.int .i64 (z0), .int .i64 0, .slice none 0 0, .slice (some ⟨g2, 0, none⟩) 12 c2, .int .i64 0, .slice none 0 0, .slice none 0 0, .int .i64 (val (piece l 13 4)), .int .i64 (val (piece l 17 6)), .slice (some ⟨g6, 0, none⟩) (N - 39) c6, .slice (some ⟨g5, 0, none⟩) 16 c5]] wx (fun e w' => ∃ g m c, e = .returned (.slice (some ⟨g, 0, none⟩) m c) ∧ m = PP.length ∧ wx.heap.size ≤ g ∧ Row w' g c PP ∧ Below wx.heap.size wx w') := fun wx hb => by
      have q := specPutFrame ⟨⟨none, 0, 0⟩, ⟨some ⟨g2, 0, none⟩, 12, c2⟩, ⟨none, 0, 0⟩, ⟨none, 0, 0⟩, ⟨some ⟨g6, 0, none⟩, (N - 39), c6⟩, ⟨some ⟨g5, 0, none⟩, 16, c5⟩⟩ ⟨(z0), 0, [], (piece l 1 12), 0, [], [], (val (piece l 13 4)), (val (piece l 17 6)), (l.drop 39), (piece l 23 16)⟩ wx (RF.out.later hb)
      rw [HPP.out] at q
      exact q
    refine region_each (by kernel_rfl) [132, 133, 134, 135, 136] 5 (fun i => [132, 133, 134, 135, 136].getD i 0) (fun _ => 0)
      (fun i gB v wx => match i with
        | 0 => v = .agg #[.int .i64 (z0), .int .i64 0, .slice none 0 0, .slice (some ⟨g2, 0, none⟩) 12 c2, .int .i64 0, .slice none 0 0, .slice none 0 0, .int .i64 (val (piece l 13 4)), .int .i64 (val (piece l 17 6)), .slice (some ⟨g6, 0, none⟩) (N - 39) c6, .slice (some ⟨g5, 0, none⟩) 16 c5]
        | 1 => ∃ m c, v = .slice (some ⟨gB, 0, none⟩) m c ∧ m = PP.length ∧ Row wx gB c PP
        | 2 => v = .string (strOfNums PP)
        | 3 => v = .slice (some ⟨bb, off, none⟩) N c
        | 4 => v = .string (strOfNums l)
        | _ => False) (fun wx => Below x6.heap.size x6 wx) (by kernel_rfl) (Below.refl _ _).drew ?_ ?_ ?_
    · intro i gB v wx wy hi hF hb _
      match i, hi with
      | 0, _ => exact hF
      | 1, _ => obtain ⟨m, c, h0, h1, h2⟩ := hF; exact ⟨m, c, h0, h1, h2.later hb⟩
      | 2, _ => exact hF
      | 3, _ => exact hF
      | 4, _ => exact hF
    · intro i hi t ρ wx hB hp hd
      match i, hi with
      | 0, _ =>
        have e4 : (fr [132, 133, 134, 135, 136] A t).eval (.tmp 4) = .pointer (some ⟨gf, 0, none⟩) := (fr_eval_old _ _ _ 4 rfl).trans a4'
        have hc0 : wx.cell? ⟨gf, 0, none⟩ = some (.int .i64 (z0)) := (hM wx hB).blk.cell 0 rfl
        have hc1 : wx.cell? ⟨gf, 1, none⟩ = some (.int .i64 0) := (hM wx hB).blk.cell 1 rfl
        have hc2 : wx.cell? ⟨gf, 2, none⟩ = some (.slice none 0 0) := (hM wx hB).blk.cell 2 rfl
        have hc3 : wx.cell? ⟨gf, 3, none⟩ = some (.slice (some ⟨g2, 0, none⟩) 12 c2) := (hM wx hB).blk.cell 3 rfl
        have hc4 : wx.cell? ⟨gf, 4, none⟩ = some (.int .i64 0) := (hM wx hB).blk.cell 4 rfl
        have hc5 : wx.cell? ⟨gf, 5, none⟩ = some (.slice none 0 0) := (hM wx hB).blk.cell 5 rfl
        have hc6 : wx.cell? ⟨gf, 6, none⟩ = some (.slice none 0 0) := (hM wx hB).blk.cell 6 rfl
        have hc7 : wx.cell? ⟨gf, 7, none⟩ = some (.int .i64 (val (piece l 13 4))) := (hM wx hB).blk.cell 7 rfl
        have hc8 : wx.cell? ⟨gf, 8, none⟩ = some (.int .i64 (val (piece l 17 6))) := (hM wx hB).blk.cell 8 rfl
        have hc9 : wx.cell? ⟨gf, 9, none⟩ = some (.slice (some ⟨g6, 0, none⟩) (N - 39) c6) := (hM wx hB).blk.cell 9 rfl
        have hc10 : wx.cell? ⟨gf, 10, none⟩ = some (.slice (some ⟨g5, 0, none⟩) 16 c5) := (hM wx hB).blk.cell 10 rfl
        refine op_run (v := .agg #[.int .i64 (z0), .int .i64 0, .slice none 0 0, .slice (some ⟨g2, 0, none⟩) 12 c2, .int .i64 0, .slice none 0 0, .slice none 0 0, .int .i64 (val (piece l 13 4)), .int .i64 (val (piece l 17 6)), .slice (some ⟨g6, 0, none⟩) (N - 39) c6, .slice (some ⟨g5, 0, none⟩) 16 c5]) (w' := wx) rfl rfl ?_ ?_
        · clear hp hd; have ec : ∀ v, (fr [132, 133, 134, 135, 136] A t).eval (.const v) = v := fun _ => rfl; generalize (fr [132, 133, 134, 135, 136] A t).eval = ev at ec e4 ⊢; go_simp
        · exact ⟨_, 0, rfl, hB, Below.refl _ _, rfl, .inl rfl⟩
      | 1, _ =>
        have e132 : (fr [132, 133, 134, 135, 136] A t).eval (.tmp 132) = .agg #[.int .i64 (z0), .int .i64 0, .slice none 0 0, .slice (some ⟨g2, 0, none⟩) 12 c2, .int .i64 0, .slice none 0 0, .slice none 0 0, .int .i64 (val (piece l 13 4)), .int .i64 (val (piece l 17 6)), .slice (some ⟨g6, 0, none⟩) (N - 39) c6, .slice (some ⟨g5, 0, none⟩) 16 c5] := (fr_eval _ _ _ 132 rfl (by rw [asz]; decide)).trans (hp 0 (pre_mem (by kernel_rfl)))
        refine op_call (f := 26) (args := #[.agg #[.int .i64 (z0), .int .i64 0, .slice none 0 0, .slice (some ⟨g2, 0, none⟩) 12 c2, .int .i64 0, .slice none 0 0, .slice none 0 0, .int .i64 (val (piece l 13 4)), .int .i64 (val (piece l 17 6)), .slice (some ⟨g6, 0, none⟩) (N - 39) c6, .slice (some ⟨g5, 0, none⟩) 16 c5]]) rfl rfl ?_ (hPut wx hB) ?_
        · have ef : (fr [132, 133, 134, 135, 136] A t).eval (.func 26) = .func (.func 26) #[] #[] := rfl; clear hp hd; have ec : ∀ v, (fr [132, 133, 134, 135, 136] A t).eval (.const v) = v := fun _ => rfl; generalize (fr [132, 133, 134, 135, 136] A t).eval = ev at ec e132 ef ⊢; go_simp
        · rintro e wy ⟨g2, m2, c2, rfl, e2, k2, r2, b2⟩
          exact ⟨_, rfl, _, g2, rfl, hB.trans (b2.mono hB.size), b2, ⟨m2, c2, rfl, e2, r2⟩, .inl rfl⟩
      | 2, _ =>
        obtain ⟨m1, c1, hv1, q1_0, q1_1⟩ := hp 1 (pre_mem (by kernel_rfl))
        have e133 : (fr [132, 133, 134, 135, 136] A t).eval (.tmp 133) = .slice (some ⟨(ρ 1), 0, none⟩) m1 c1 := (fr_eval _ _ _ 133 rfl (by rw [asz]; decide)).trans hv1
        have hcv := convRow (c := c1) q1_0 q1_1.rd
        refine op_run (v := .string (strOfNums PP)) (w' := wx) rfl rfl ?_ ?_
        · clear hp hd q1_0 q1_1; have ec : ∀ v, (fr [132, 133, 134, 135, 136] A t).eval (.const v) = v := fun _ => rfl; generalize (fr [132, 133, 134, 135, 136] A t).eval = ev at ec e133 ⊢; go_simp
        · exact ⟨_, 0, rfl, hB, Below.refl _ _, rfl, .inl rfl⟩
      | 3, _ =>
        have e0 : (fr [132, 133, 134, 135, 136] A t).eval (.tmp 0) = .slice (some ⟨bb, off, none⟩) N c := (fr_eval_old _ _ _ 0 rfl).trans a0'
        refine op_run (v := .slice (some ⟨bb, off, none⟩) N c) (w' := wx) rfl rfl ?_ ?_
        · clear hp hd; have ec : ∀ v, (fr [132, 133, 134, 135, 136] A t).eval (.const v) = v := fun _ => rfl; generalize (fr [132, 133, 134, 135, 136] A t).eval = ev at ec e0 ⊢; go_simp
        · exact ⟨_, 0, rfl, hB, Below.refl _ _, rfl, .inl rfl⟩
      | 4, _ =>
        have e135 : (fr [132, 133, 134, 135, 136] A t).eval (.tmp 135) = .slice (some ⟨bb, off, none⟩) N c := (fr_eval _ _ _ 135 rfl (by rw [asz]; decide)).trans (hp 3 (pre_mem (by kernel_rfl)))
        have hcv := convAt (c := c) HLen.out (hR wx hB)
        refine op_run (v := .string (strOfNums l)) (w' := wx) rfl rfl ?_ ?_
        · clear hp hd; have ec : ∀ v, (fr [132, 133, 134, 135, 136] A t).eval (.const v) = v := fun _ => rfl; generalize (fr [132, 133, 134, 135, 136] A t).eval = ev at ec e135 ⊢; go_simp
        · exact ⟨_, 0, rfl, hB, Below.refl _ _, rfl, .inl rfl⟩
    · intro t ρ wx hB hF hne
      have e134 : (fr [132, 133, 134, 135, 136] A t).eval (.tmp 134) = .string (strOfNums PP) := (fr_eval _ _ _ 134 rfl (by rw [asz]; decide)).trans (hF 2 (by decide))
      have e136 : (fr [132, 133, 134, 135, 136] A t).eval (.tmp 136) = .string (strOfNums l) := (fr_eval _ _ _ 136 rfl (by rw [asz]; decide)).trans (hF 4 (by decide))
      clear hne
      have ES : Hid ((!((strOfNums PP).toList == (strOfNums l).toList)) = decide (PP ≠ l)) := strs_ne HPB.out HBy.out
      generalize strOfNums PP = sp at *
      generalize strOfNums l = sl at *
      refine op_wp rfl rfl ?_
      generalize hE : (fr [132, 133, 134, 135, 136] A t).eval = ev at e134 e136
      unfold Oper.wp
      rw [hE]
      go_simp
      refine hMet _ _ (Met.intro (hRJ _ _ ⟨t 132, t 133, t 134, t 135, t 136, _, ⟨by rw [← ES.out], hB⟩, ?_⟩))
      rw [← hA]; rfl
  case rest =>
    obtain ⟨z, hqz⟩ : ∃ z, z = wc := ⟨_, rfl⟩
    subst hqz
    obtain ⟨rfl, bz⟩ := hcut
    have KZ : Hid (Blk z gr 25 [.int .i64 0, .int .i64 0, .slice none 0 0, .slice none 0 0, .int .i64 0, .slice none 0 0, .slice none 0 0, .int .i64 0, .int .i64 0, .slice none 0 0, .slice none 0 0]) := KR6.out.later bz
    have BZ : Hid (Below w.heap.size w z) := B6.out.trans (bz.mono B6.out.size)
    have MX : Hid (FrMk z gf (gf + 1) ⟨(z0), 0, [], (piece l 1 12), 0, [], [], (val (piece l 13 4)), (val (piece l 17 6)), (l.drop 39), (piece l 23 16)⟩ ⟨⟨none, 0, 0⟩, ⟨some ⟨g2, 0, none⟩, 12, c2⟩, ⟨none, 0, 0⟩, ⟨none, 0, 0⟩, ⟨some ⟨g6, 0, none⟩, (N - 39), c6⟩, ⟨some ⟨g5, 0, none⟩, 16, c5⟩⟩) := M6.out.later bz
    clear bz M6 KR6 B6
    have zc0 := KZ.out.cell 0 rfl
    have zf0 := KZ.out.frozen 0
    have zc1 := KZ.out.cell 1 rfl
    have zf1 := KZ.out.frozen 1
    have zc2 := KZ.out.cell 2 rfl
    have zf2 := KZ.out.frozen 2
    have zc3 := KZ.out.cell 3 rfl
    have zf3 := KZ.out.frozen 3
    have zc4 := KZ.out.cell 4 rfl
    have zf4 := KZ.out.frozen 4
    have zc5 := KZ.out.cell 5 rfl
    have zf5 := KZ.out.frozen 5
    have zc6 := KZ.out.cell 6 rfl
    have zf6 := KZ.out.frozen 6
    have zc7 := KZ.out.cell 7 rfl
    have zf7 := KZ.out.frozen 7
    have zc8 := KZ.out.cell 8 rfl
    have zf8 := KZ.out.frozen 8
    have zc9 := KZ.out.cell 9 rfl
    have zf9 := KZ.out.frozen 9
    have zc10 := KZ.out.cell 10 rfl
    have zf10 := KZ.out.frozen 10
    by_cases hp : PP = l
    · have hd : decide (PP ≠ l) = false := by simpa using hp
      have HP : Hid (PP = l) := hp
      rw [hd]
      clear hp hd
      have zo0 : z.cell? ⟨gf, 0, none⟩ = some (.int .i64 (z0)) := MX.out.blk.cell 0 rfl
      have zo1 : z.cell? ⟨gf, 1, none⟩ = some (.int .i64 0) := MX.out.blk.cell 1 rfl
      have zo2 : z.cell? ⟨gf, 2, none⟩ = some (.slice none 0 0) := MX.out.blk.cell 2 rfl
      have zo3 : z.cell? ⟨gf, 3, none⟩ = some (.slice (some ⟨g2, 0, none⟩) 12 c2) := MX.out.blk.cell 3 rfl
      have zo4 : z.cell? ⟨gf, 4, none⟩ = some (.int .i64 0) := MX.out.blk.cell 4 rfl
      have zo5 : z.cell? ⟨gf, 5, none⟩ = some (.slice none 0 0) := MX.out.blk.cell 5 rfl
      have zo6 : z.cell? ⟨gf, 6, none⟩ = some (.slice none 0 0) := MX.out.blk.cell 6 rfl
      have zo7 : z.cell? ⟨gf, 7, none⟩ = some (.int .i64 (val (piece l 13 4))) := MX.out.blk.cell 7 rfl
      have zo8 : z.cell? ⟨gf, 8, none⟩ = some (.int .i64 (val (piece l 17 6))) := MX.out.blk.cell 8 rfl
      have zo9 : z.cell? ⟨gf, 9, none⟩ = some (.slice (some ⟨g6, 0, none⟩) (N - 39) c6) := MX.out.blk.cell 9 rfl
      have zo10 : z.cell? ⟨gf, 10, none⟩ = some (.slice (some ⟨g5, 0, none⟩) 16 c5) := MX.out.blk.cell 10 rfl
      have ne1 : gr ≠ gf := by have := HG.out; omega
      have ne2 : gf ≠ gr := by have := HG.out; omega
      go_wp2
      have KF : Blk ((((((((((((z).setCell ⟨gr, 0, none⟩ (.int .i64 (z0))).setCell ⟨gr, 1, none⟩ (.int .i64 0)).setCell ⟨gr, 2, none⟩ (.slice none 0 0)).setCell ⟨gr, 3, none⟩ (.slice (some ⟨g2, 0, none⟩) 12 c2)).setCell ⟨gr, 4, none⟩ (.int .i64 0)).setCell ⟨gr, 5, none⟩ (.slice none 0 0)).setCell ⟨gr, 6, none⟩ (.slice none 0 0)).setCell ⟨gr, 7, none⟩ (.int .i64 (val (piece l 13 4)))).setCell ⟨gr, 8, none⟩ (.int .i64 (val (piece l 17 6)))).setCell ⟨gr, 9, none⟩ (.slice (some ⟨g6, 0, none⟩) (N - 39) c6)).setCell ⟨gr, 10, none⟩ (.slice (some ⟨g5, 0, none⟩) 16 c5)) gr 25 [.int .i64 (z0), .int .i64 0, .slice none 0 0, .slice (some ⟨g2, 0, none⟩) 12 c2, .int .i64 0, .slice none 0 0, .slice none 0 0, .int .i64 (val (piece l 13 4)), .int .i64 (val (piece l 17 6)), .slice (some ⟨g6, 0, none⟩) (N - 39) c6, .slice (some ⟨g5, 0, none⟩) 16 c5] := (((((((((((KZ.out).set 0 _ (by simp [maxLen])).set 1 _ (by simp [maxLen])).set 2 _ (by simp [maxLen])).set 3 _ (by simp [maxLen])).set 4 _ (by simp [maxLen])).set 5 _ (by simp [maxLen])).set 6 _ (by simp [maxLen])).set 7 _ (by simp [maxLen])).set 8 _ (by simp [maxLen])).set 9 _ (by simp [maxLen])).set 10 _ (by simp [maxLen])
      have KK : Kept gr (gr + 1) z ((((((((((((z).setCell ⟨gr, 0, none⟩ (.int .i64 (z0))).setCell ⟨gr, 1, none⟩ (.int .i64 0)).setCell ⟨gr, 2, none⟩ (.slice none 0 0)).setCell ⟨gr, 3, none⟩ (.slice (some ⟨g2, 0, none⟩) 12 c2)).setCell ⟨gr, 4, none⟩ (.int .i64 0)).setCell ⟨gr, 5, none⟩ (.slice none 0 0)).setCell ⟨gr, 6, none⟩ (.slice none 0 0)).setCell ⟨gr, 7, none⟩ (.int .i64 (val (piece l 13 4)))).setCell ⟨gr, 8, none⟩ (.int .i64 (val (piece l 17 6)))).setCell ⟨gr, 9, none⟩ (.slice (some ⟨g6, 0, none⟩) (N - 39) c6)).setCell ⟨gr, 10, none⟩ (.slice (some ⟨g5, 0, none⟩) 16 c5)) := ((((((((((((Kept.refl gr (gr + 1) z)).trans (Kept.setCell _ gr 0 _)).trans (Kept.setCell _ gr 1 _)).trans (Kept.setCell _ gr 2 _)).trans (Kept.setCell _ gr 3 _)).trans (Kept.setCell _ gr 4 _)).trans (Kept.setCell _ gr 5 _)).trans (Kept.setCell _ gr 6 _)).trans (Kept.setCell _ gr 7 _)).trans (Kept.setCell _ gr 8 _)).trans (Kept.setCell _ gr 9 _)).trans (Kept.setCell _ gr 10 _)
      exact ret_got rfl rfl rfl KF rfl (D := ⟨(z0), 0, [], (piece l 1 12), 0, [], [], (val (piece l 13 4)), (val (piece l 17 6)), (l.drop 39), (piece l 23 16)⟩) (S := ⟨⟨none, 0, 0⟩, ⟨some ⟨g2, 0, none⟩, 12, c2⟩, ⟨none, 0, 0⟩, ⟨none, 0, 0⟩, ⟨some ⟨g6, 0, none⟩, (N - 39), c6⟩, ⟨some ⟨g5, 0, none⟩, 16, c5⟩⟩) (CA.out.yes (HPP.out.trans HP.out)) ((MX.out.own.carry KK (.inr (by have := HG.out; omega))).mono (by have := HG.out; omega) KK.size) ((((((((((((BZ.out).setCell (by show _ ≤ gr; have := HG.out; omega) _).setCell (by show _ ≤ gr; have := HG.out; omega) _).setCell (by show _ ≤ gr; have := HG.out; omega) _).setCell (by show _ ≤ gr; have := HG.out; omega) _).setCell (by show _ ≤ gr; have := HG.out; omega) _).setCell (by show _ ≤ gr; have := HG.out; omega) _).setCell (by show _ ≤ gr; have := HG.out; omega) _).setCell (by show _ ≤ gr; have := HG.out; omega) _).setCell (by show _ ≤ gr; have := HG.out; omega) _).setCell (by show _ ≤ gr; have := HG.out; omega) _).setCell (by show _ ≤ gr; have := HG.out; omega) _)
    · have hd : decide (PP ≠ l) = true := by simpa using hp
      have HP : Hid (PP ≠ l) := hp
      rw [hd]
      clear hp hd
      go_wp2
      have KF : Blk ((((((((((((z).setCell ⟨gr, 0, none⟩ (.int .i64 0)).setCell ⟨gr, 1, none⟩ (.int .i64 0)).setCell ⟨gr, 2, none⟩ (.slice none 0 0)).setCell ⟨gr, 3, none⟩ (.slice none 0 0)).setCell ⟨gr, 4, none⟩ (.int .i64 0)).setCell ⟨gr, 5, none⟩ (.slice none 0 0)).setCell ⟨gr, 6, none⟩ (.slice none 0 0)).setCell ⟨gr, 7, none⟩ (.int .i64 0)).setCell ⟨gr, 8, none⟩ (.int .i64 0)).setCell ⟨gr, 9, none⟩ (.slice none 0 0)).setCell ⟨gr, 10, none⟩ (.slice none 0 0)) gr 25 [.int .i64 0, .int .i64 0, .slice none 0 0, .slice none 0 0, .int .i64 0, .slice none 0 0, .slice none 0 0, .int .i64 0, .int .i64 0, .slice none 0 0, .slice none 0 0] := (((((((((((KZ.out).set 0 _ (by simp [maxLen])).set 1 _ (by simp [maxLen])).set 2 _ (by simp [maxLen])).set 3 _ (by simp [maxLen])).set 4 _ (by simp [maxLen])).set 5 _ (by simp [maxLen])).set 6 _ (by simp [maxLen])).set 7 _ (by simp [maxLen])).set 8 _ (by simp [maxLen])).set 9 _ (by simp [maxLen])).set 10 _ (by simp [maxLen])
      exact ret_got rfl rfl rfl KF rfl (D := zeroF) (S := SN) (CA.out.no (by rw [HPP.out]; exact HP.out)) (own_nil _ _ _) ((((((((((((BZ.out).setCell (by show _ ≤ gr; have := HG.out; omega) _).setCell (by show _ ≤ gr; have := HG.out; omega) _).setCell (by show _ ≤ gr; have := HG.out; omega) _).setCell (by show _ ≤ gr; have := HG.out; omega) _).setCell (by show _ ≤ gr; have := HG.out; omega) _).setCell (by show _ ≤ gr; have := HG.out; omega) _).setCell (by show _ ≤ gr; have := HG.out; omega) _).setCell (by show _ ≤ gr; have := HG.out; omega) _).setCell (by show _ ≤ gr; have := HG.out; omega) _).setCell (by show _ ≤ gr; have := HG.out; omega) _).setCell (by show _ ≤ gr; have := HG.out; omega) _)

set_option maxRecDepth 100000 in
set_option maxHeartbeats 8000000 in
theorem getS_end (bb off N c : Nat) (l : List Int) (w : World) (hn : N = l.length) (hr : Rd w (some ⟨bb, off, none⟩) l) (hb : Bytes l) (hc : N ≤ c) (hm : N ≤ 4194304) (k1 : (l.getD 0 0 == 1) = false) (k2 : (l.getD 0 0 == 2) = false) (k3 : (l.getD 0 0 == 3) = false) (hl : N = 39) (hce : c = 39) (h0 : ¬ N = 0) :
    Calls Try.prog 19 #[.slice (some ⟨bb, off, none⟩) N c] w (Gave w l) := by
  have HRd : Hid (Rd w (some ⟨bb, off, none⟩) l) := hr
  have HBy : Hid (Bytes l) := hb
  have HLen : Hid (N = l.length) := hn
  obtain ⟨x0, hx0⟩ : ∃ x0, (w.alloc (.cells #[.int .i64 0, .int .i64 0, .slice none 0 0, .slice none 0 0, .int .i64 0, .slice none 0 0, .slice none 0 0, .int .i64 0, .int .i64 0, .slice none 0 0, .slice none 0 0] 25)).alloc (.cells #[.int .i64 0, .int .i64 0, .slice none 0 0, .slice none 0 0, .int .i64 0, .slice none 0 0, .slice none 0 0, .int .i64 0, .int .i64 0, .slice none 0 0, .slice none 0 0] 25) = x0 := ⟨_, rfl⟩
  have HW0 : Hid ((w.alloc (.cells #[.int .i64 0, .int .i64 0, .slice none 0 0, .slice none 0 0, .int .i64 0, .slice none 0 0, .slice none 0 0, .int .i64 0, .int .i64 0, .slice none 0 0, .slice none 0 0] 25)).alloc (.cells #[.int .i64 0, .int .i64 0, .slice none 0 0, .slice none 0 0, .int .i64 0, .slice none 0 0, .slice none 0 0, .int .i64 0, .int .i64 0, .slice none 0 0, .slice none 0 0] 25) = x0) := hx0
  have B0 : Hid (Below w.heap.size w x0) := by rw [← hx0]; exact ((Below.refl _ _).alloc (Nat.le_refl _) _).alloc (by simp) _
  have KR0 : Hid (Blk x0 w.heap.size 25 [.int .i64 0, .int .i64 0, .slice none 0 0, .slice none 0 0, .int .i64 0, .slice none 0 0, .slice none 0 0, .int .i64 0, .int .i64 0, .slice none 0 0, .slice none 0 0]) := by rw [← hx0]; exact (Blk.new w _ [.int .i64 0, .int .i64 0, .slice none 0 0, .slice none 0 0, .int .i64 0, .slice none 0 0, .slice none 0 0, .int .i64 0, .int .i64 0, .slice none 0 0, .slice none 0 0]).alloc _
  have KF0 : Blk x0 (w.heap.size + 1) 25 [.int .i64 0, .int .i64 0, .slice none 0 0, .slice none 0 0, .int .i64 0, .slice none 0 0, .slice none 0 0, .int .i64 0, .int .i64 0, .slice none 0 0, .slice none 0 0] := by
    have := Blk.new (w.alloc (.cells #[.int .i64 0, .int .i64 0, .slice none 0 0, .slice none 0 0, .int .i64 0, .slice none 0 0, .slice none 0 0, .int .i64 0, .int .i64 0, .slice none 0 0, .slice none 0 0] 25)) 25 [.int .i64 0, .int .i64 0, .slice none 0 0, .slice none 0 0, .int .i64 0, .slice none 0 0, .slice none 0 0, .int .i64 0, .int .i64 0, .slice none 0 0, .slice none 0 0]
    rw [World.size_alloc] at this
    rw [← hx0]; exact this
  have M0 : Hid (FrMk x0 (w.heap.size + 1) (w.heap.size + 1 + 1) ⟨0, 0, [], [], 0, [], [], 0, 0, [], []⟩ ⟨⟨none, 0, 0⟩, ⟨none, 0, 0⟩, ⟨none, 0, 0⟩, ⟨none, 0, 0⟩, ⟨none, 0, 0⟩, ⟨none, 0, 0⟩⟩) := ⟨KF0, own_nil _ _ _, Nat.lt_succ_self _⟩
  clear hx0 hr hb KF0 hn
  subst hl
  have HCE : Hid (c = 39) := hce
  have cb13 : (13 : Int) ≤ (c : Int) := by omega
  have cb39 : (39 : Int) ≤ (c : Int) := by omega
  have cn1 : ¬ c = 1 := by omega
  have cn23 : ¬ c = 23 := by omega
  clear hce
  obtain ⟨z0, hz0⟩ : ∃ z0, l.getD 0 0 = z0 := ⟨_, rfl⟩
  have HZ0 : Hid (l.getD 0 0 = z0) := hz0
  rw [hz0] at k1 k2 k3
  have hb0 := HBy.out.at 0
  rw [hz0] at hb0
  have hwz : IntKind.i64.wrap z0 = z0 := by rw [IntKind.wrap_i64]; omega
  have hcb : x0.cell? ⟨bb, off, none⟩ = some (.int .u8 z0) := by
    obtain ⟨b', off', e, h3, h4⟩ := HRd.out 0 (by have := HLen.out; omega)
    simp only [Option.some.injEq, Addr.mk.injEq, and_true] at e
    obtain ⟨rfl, rfl⟩ := e
    rw [Nat.add_zero, hz0] at h4
    rw [B0.out.cell h3]; exact h4
  clear hz0 hb0
  go_enter Try.func19, Try.ntmps19
  go_upto_region 4 with fail
  rw [HW0.out]
  obtain ⟨gr, hgr⟩ : ∃ gr, w.heap.size = gr := ⟨_, rfl⟩
  obtain ⟨gf, hgf⟩ : ∃ gf, w.heap.size + 1 = gf := ⟨_, rfl⟩
  have HG : Hid (w.heap.size = gr ∧ gf = gr + 1) := ⟨hgr, by omega⟩
  rw [hgf] at M0 ⊢
  rw [hgr] at KR0
  rw [hgr]
  clear hgr hgf HW0
  have co : x0.cell? ⟨gf, 0, none⟩ = some (.int .i64 0) := M0.out.blk.cell 0 rfl
  have fo := M0.out.blk.frozen 0
  obtain ⟨x1, hx1⟩ : ∃ x1, x0.setCell ⟨gf, 0, none⟩ (.int .i64 (z0)) = x1 := ⟨_, rfl⟩
  have HW1 : Hid (x0.setCell ⟨gf, 0, none⟩ (.int .i64 (z0)) = x1) := hx1
  have M1 : Hid (FrMk x1 gf (gf + 1) ⟨(z0), 0, [], [], 0, [], [], 0, 0, [], []⟩ ⟨⟨none, 0, 0⟩, ⟨none, 0, 0⟩, ⟨none, 0, 0⟩, ⟨none, 0, 0⟩, ⟨none, 0, 0⟩, ⟨none, 0, 0⟩⟩) := by rw [← hx1]; exact M0.out.kind _
  have KR1 : Hid (Blk x1 gr 25 [.int .i64 0, .int .i64 0, .slice none 0 0, .slice none 0 0, .int .i64 0, .slice none 0 0, .slice none 0 0, .int .i64 0, .int .i64 0, .slice none 0 0, .slice none 0 0]) := by rw [← hx1]; exact KR0.out.other (by show gr ≠ gf; have := HG.out; omega) _
  have B1 : Hid (Below w.heap.size w x1) := by rw [← hx1]; exact B0.out.setCell (by show _ ≤ gf; have := HG.out; omega) _
  clear hx1
  go_upto_region 5 with fail
  rw [HW1.out]
  clear co fo HW1 M0 KR0 B0
  have kc : x1.cell? ⟨gf, 0, none⟩ = some (.int .i64 z0) := M1.out.blk.cell 0 rfl
  go_upto_region 8 with fail
  have R0 : Hid (Row (x1.alloc (.cells #[] 5)) x1.heap.size 0 []) := row_new x1 [] (by simp)
  have A0 : Hid (Below x1.heap.size x1 (x1.alloc (.cells #[] 5))) := (Below.refl _ _).alloc (Nat.le_refl _) _
  have RP : Hid (Rd (x1.alloc (.cells #[] 5)) (some ⟨bb, off + 1, none⟩) (piece l 1 12)) := (rdPiece HRd.out 1 (piece l 1 12) (piece_sub l 1 12)).later (B1.out.alloc B1.out.size _) (Nat.le_refl _)
  have HB2 : Hid (Bytes (piece l 1 12)) := bytes_piece HBy.out _ _
  go_upto_region 9 with (at_builtin; refine wpList_app _ rfl (.tmp 21) (.tmp 23) rfl x1.heap.size x1.heap.size 0 0 [] (piece l 1 12) rfl rfl R0.out (Nat.le_refl _) _ _ _ rfl (by rw [piece_length l 1 12 (by have := HLen.out; omega)]) RP.out (by intro e; cases e) (by rw [piece_length l 1 12 (by have := HLen.out; omega)]; simp) ?_; intro g2 c2 y2 r2 k2 l2 gr2; have RR2 : Hid (Row y2 g2 c2 (piece l 1 12)) := r2; have GE2 : Hid (x1.heap.size ≤ g2) := k2; have BY2 : Hid (Below x1.heap.size x1 y2) := A0.out.grown gr2 A0.out.size (fun k h => by cases h; exact Nat.le_refl _); have co : y2.cell? ⟨gf, 3, none⟩ = some (.slice none 0 0) := (M1.out.later BY2.out).blk.cell 3 rfl; have fo := (M1.out.later BY2.out).blk.frozen 3; clear r2 k2 l2 gr2)
  obtain ⟨x2, hx2⟩ : ∃ x2, y2.setCell ⟨gf, 3, none⟩ (.slice (some ⟨g2, 0, none⟩) 12 c2) = x2 := ⟨_, rfl⟩
  have HW2 : Hid (y2.setCell ⟨gf, 3, none⟩ (.slice (some ⟨g2, 0, none⟩) 12 c2) = x2) := hx2
  have M2 : Hid (FrMk x2 gf (gf + 1) ⟨(z0), 0, [], (piece l 1 12), 0, [], [], 0, 0, [], []⟩ ⟨⟨none, 0, 0⟩, ⟨some ⟨g2, 0, none⟩, 12, c2⟩, ⟨none, 0, 0⟩, ⟨none, 0, 0⟩, ⟨none, 0, 0⟩, ⟨none, 0, 0⟩⟩) := by rw [← hx2]; exact M1.out.sn M1.out.blk.lt BY2.out RR2.out (by rw [piece_length l 1 12 (by have := HLen.out; omega)]) HB2.out GE2.out
  have KR2 : Hid (Blk x2 gr 25 [.int .i64 0, .int .i64 0, .slice none 0 0, .slice none 0 0, .int .i64 0, .slice none 0 0, .slice none 0 0, .int .i64 0, .int .i64 0, .slice none 0 0, .slice none 0 0]) := by rw [← hx2]; exact (KR1.out.later BY2.out).other (by show gr ≠ gf; have := HG.out; omega) _
  have B2 : Hid (Below w.heap.size w x2) := by rw [← hx2]; exact (B1.out.trans (BY2.out.mono B1.out.size)).setCell (by show _ ≤ gf; have := HG.out; omega) _
  clear hx2 R0 A0 RP
  rw [HW2.out]
  clear co fo HW2 M1 KR1 B1 RR2 GE2 BY2 HB2
  have co : x2.cell? ⟨gf, 7, none⟩ = some (.int .i64 0) := M2.out.blk.cell 7 rfl
  have fo := M2.out.blk.frozen 7
  have GN : Hid (gotN l 13 4 = .tuple #[.int .i64 (val (piece l 13 4)), .int .i64 17, .bool true]) := gotN_yes l 13 4 17 rfl rfl (by have := HLen.out; omega)
  go_wp2_with fail
  refine (specGetN (some ⟨bb, off, none⟩) 39 c l 13 4 x2 HLen.out (HRd.out.later B2.out (Nat.le_refl _)) HBy.out (by omega)).mono ?_
  rw [GN.out]
  rintro e y ⟨rfl, rfl⟩
  clear GN
  obtain ⟨x3, hx3⟩ : ∃ x3, x2.setCell ⟨gf, 7, none⟩ (.int .i64 (val (piece l 13 4))) = x3 := ⟨_, rfl⟩
  have HW3 : Hid (x2.setCell ⟨gf, 7, none⟩ (.int .i64 (val (piece l 13 4))) = x3) := hx3
  have M3 : Hid (FrMk x3 gf (gf + 1) ⟨(z0), 0, [], (piece l 1 12), 0, [], [], (val (piece l 13 4)), 0, [], []⟩ ⟨⟨none, 0, 0⟩, ⟨some ⟨g2, 0, none⟩, 12, c2⟩, ⟨none, 0, 0⟩, ⟨none, 0, 0⟩, ⟨none, 0, 0⟩, ⟨none, 0, 0⟩⟩) := by rw [← hx3]; exact M2.out.epoch _
  have KR3 : Hid (Blk x3 gr 25 [.int .i64 0, .int .i64 0, .slice none 0 0, .slice none 0 0, .int .i64 0, .slice none 0 0, .slice none 0 0, .int .i64 0, .int .i64 0, .slice none 0 0, .slice none 0 0]) := by rw [← hx3]; exact KR2.out.other (by show gr ≠ gf; have := HG.out; omega) _
  have B3 : Hid (Below w.heap.size w x3) := by rw [← hx3]; exact B2.out.setCell (by show _ ≤ gf; have := HG.out; omega) _
  clear hx3
  go_upto_region 10 with fail
  rw [HW3.out]
  clear co fo HW3 M2 KR2 B2
  have co : x3.cell? ⟨gf, 8, none⟩ = some (.int .i64 0) := M3.out.blk.cell 8 rfl
  have fo := M3.out.blk.frozen 8
  have GN : Hid (gotN l 17 6 = .tuple #[.int .i64 (val (piece l 17 6)), .int .i64 23, .bool true]) := gotN_yes l 17 6 23 rfl rfl (by have := HLen.out; omega)
  go_wp2_with fail
  refine (specGetN (some ⟨bb, off, none⟩) 39 c l 17 6 x3 HLen.out (HRd.out.later B3.out (Nat.le_refl _)) HBy.out (by omega)).mono ?_
  rw [GN.out]
  rintro e y ⟨rfl, rfl⟩
  clear GN
  obtain ⟨x4, hx4⟩ : ∃ x4, x3.setCell ⟨gf, 8, none⟩ (.int .i64 (val (piece l 17 6))) = x4 := ⟨_, rfl⟩
  have HW4 : Hid (x3.setCell ⟨gf, 8, none⟩ (.int .i64 (val (piece l 17 6))) = x4) := hx4
  have M4 : Hid (FrMk x4 gf (gf + 1) ⟨(z0), 0, [], (piece l 1 12), 0, [], [], (val (piece l 13 4)), (val (piece l 17 6)), [], []⟩ ⟨⟨none, 0, 0⟩, ⟨some ⟨g2, 0, none⟩, 12, c2⟩, ⟨none, 0, 0⟩, ⟨none, 0, 0⟩, ⟨none, 0, 0⟩, ⟨none, 0, 0⟩⟩) := by rw [← hx4]; exact M3.out.seq _
  have KR4 : Hid (Blk x4 gr 25 [.int .i64 0, .int .i64 0, .slice none 0 0, .slice none 0 0, .int .i64 0, .slice none 0 0, .slice none 0 0, .int .i64 0, .int .i64 0, .slice none 0 0, .slice none 0 0]) := by rw [← hx4]; exact KR3.out.other (by show gr ≠ gf; have := HG.out; omega) _
  have B4 : Hid (Below w.heap.size w x4) := by rw [← hx4]; exact B3.out.setCell (by show _ ≤ gf; have := HG.out; omega) _
  clear hx4
  go_upto_region 11 with fail
  rw [HW4.out]
  clear co fo HW4 M3 KR3 B3
  have R0 : Hid (Row (x4.alloc (.cells #[] 5)) x4.heap.size 0 []) := row_new x4 [] (by simp)
  have A0 : Hid (Below x4.heap.size x4 (x4.alloc (.cells #[] 5))) := (Below.refl _ _).alloc (Nat.le_refl _) _
  have RP : Hid (Rd (x4.alloc (.cells #[] 5)) (some ⟨bb, off + 23, none⟩) (piece l 23 16)) := (rdPiece HRd.out 23 (piece l 23 16) (piece_sub l 23 16)).later (B4.out.alloc B4.out.size _) (Nat.le_refl _)
  have HB5 : Hid (Bytes (piece l 23 16)) := bytes_piece HBy.out _ _
  go_upto_region 12 with (at_builtin; refine wpList_app _ rfl (.tmp 40) (.tmp 42) rfl x4.heap.size x4.heap.size 0 0 [] (piece l 23 16) rfl rfl R0.out (Nat.le_refl _) _ _ _ rfl (by rw [piece_length l 23 16 (by have := HLen.out; omega)]) RP.out (by intro e; cases e) (by rw [piece_length l 23 16 (by have := HLen.out; omega)]; simp) ?_; intro g5 c5 y5 r5 k5 l5 gr5; have RR5 : Hid (Row y5 g5 c5 (piece l 23 16)) := r5; have GE5 : Hid (x4.heap.size ≤ g5) := k5; have BY5 : Hid (Below x4.heap.size x4 y5) := A0.out.grown gr5 A0.out.size (fun k h => by cases h; exact Nat.le_refl _); have co : y5.cell? ⟨gf, 10, none⟩ = some (.slice none 0 0) := (M4.out.later BY5.out).blk.cell 10 rfl; have fo := (M4.out.later BY5.out).blk.frozen 10; clear r5 k5 l5 gr5)
  obtain ⟨x5, hx5⟩ : ∃ x5, y5.setCell ⟨gf, 10, none⟩ (.slice (some ⟨g5, 0, none⟩) 16 c5) = x5 := ⟨_, rfl⟩
  have HW5 : Hid (y5.setCell ⟨gf, 10, none⟩ (.slice (some ⟨g5, 0, none⟩) 16 c5) = x5) := hx5
  have M5 : Hid (FrMk x5 gf (gf + 1) ⟨(z0), 0, [], (piece l 1 12), 0, [], [], (val (piece l 13 4)), (val (piece l 17 6)), [], (piece l 23 16)⟩ ⟨⟨none, 0, 0⟩, ⟨some ⟨g2, 0, none⟩, 12, c2⟩, ⟨none, 0, 0⟩, ⟨none, 0, 0⟩, ⟨none, 0, 0⟩, ⟨some ⟨g5, 0, none⟩, 16, c5⟩⟩) := by rw [← hx5]; exact M4.out.tag M4.out.blk.lt BY5.out RR5.out (by rw [piece_length l 23 16 (by have := HLen.out; omega)]) HB5.out GE5.out
  have KR5 : Hid (Blk x5 gr 25 [.int .i64 0, .int .i64 0, .slice none 0 0, .slice none 0 0, .int .i64 0, .slice none 0 0, .slice none 0 0, .int .i64 0, .int .i64 0, .slice none 0 0, .slice none 0 0]) := by rw [← hx5]; exact (KR4.out.later BY5.out).other (by show gr ≠ gf; have := HG.out; omega) _
  have B5 : Hid (Below w.heap.size w x5) := by rw [← hx5]; exact (B4.out.trans (BY5.out.mono B4.out.size)).setCell (by show _ ≤ gf; have := HG.out; omega) _
  clear hx5 R0 A0 RP
  rw [HW5.out]
  clear co fo HW5 M4 KR4 B4 RR5 GE5 BY5 HB5
  have hcd : (c = 39) = True := eq_true HCE.out
  have R0 : Hid (Row (x5.alloc (.cells #[] 5)) x5.heap.size 0 []) := row_new x5 [] (by simp)
  have A0 : Hid (Below x5.heap.size x5 (x5.alloc (.cells #[] 5))) := (Below.refl _ _).alloc (Nat.le_refl _) _
  go_upto_region 34 with (at_builtin; refine wpList_app _ rfl (.tmp 45) (.tmp 47) rfl x5.heap.size x5.heap.size 0 0 [] [] rfl rfl R0.out (Nat.le_refl _) _ _ _ rfl rfl (by intro i hi; cases hi) (by intro e; cases e) (by simp) ?_; intro g6 c6 y6 r6 k6 l6 gr6; have RR6 : Hid (Row y6 g6 c6 []) := r6; have GE6 : Hid (x5.heap.size ≤ g6) := k6; have BY6 : Hid (Below x5.heap.size x5 y6) := A0.out.grown gr6 A0.out.size (fun k h => by cases h; exact Nat.le_refl _); have co : y6.cell? ⟨gf, 9, none⟩ = some (.slice none 0 0) := (M5.out.later BY6.out).blk.cell 9 rfl; have fo := (M5.out.later BY6.out).blk.frozen 9; clear r6 k6 l6 gr6)
  obtain ⟨x6, hx6⟩ : ∃ x6, y6.setCell ⟨gf, 9, none⟩ (.slice (some ⟨g6, 0, none⟩) 0 c6) = x6 := ⟨_, rfl⟩
  have HW6 : Hid (y6.setCell ⟨gf, 9, none⟩ (.slice (some ⟨g6, 0, none⟩) 0 c6) = x6) := hx6
  have M6 : Hid (FrMk x6 gf (gf + 1) ⟨(z0), 0, [], (piece l 1 12), 0, [], [], (val (piece l 13 4)), (val (piece l 17 6)), [], (piece l 23 16)⟩ ⟨⟨none, 0, 0⟩, ⟨some ⟨g2, 0, none⟩, 12, c2⟩, ⟨none, 0, 0⟩, ⟨none, 0, 0⟩, ⟨some ⟨g6, 0, none⟩, 0, c6⟩, ⟨some ⟨g5, 0, none⟩, 16, c5⟩⟩) := by rw [← hx6]; exact M5.out.body M5.out.blk.lt BY6.out RR6.out rfl (fun z hz => by cases hz) GE6.out
  have KR6 : Hid (Blk x6 gr 25 [.int .i64 0, .int .i64 0, .slice none 0 0, .slice none 0 0, .int .i64 0, .slice none 0 0, .slice none 0 0, .int .i64 0, .int .i64 0, .slice none 0 0, .slice none 0 0]) := by rw [← hx6]; exact (KR5.out.later BY6.out).other (by show gr ≠ gf; have := HG.out; omega) _
  have B6 : Hid (Below w.heap.size w x6) := by rw [← hx6]; exact (B5.out.trans (BY6.out.mono B5.out.size)).setCell (by show _ ≤ gf; have := HG.out; omega) _
  clear hx6 R0 A0
  rw [HW6.out]
  clear co fo HW6 M5 KR5 B5 RR6 GE6 BY6
  clear hcd
  have CA : Hid (Cand l ⟨(z0), 0, [], (piece l 1 12), 0, [], [], (val (piece l 13 4)), (val (piece l 17 6)), [], (piece l 23 16)⟩) := by have q := candS (b := l) (by intro e; rw [e] at HLen; have := HLen.out; simp at this) (by rw [HZ0.out]; exact ne_of_beq_false k1) (by rw [HZ0.out]; exact ne_of_beq_false k2) (by rw [HZ0.out]; exact ne_of_beq_false k3); unfold getS at q; rw [HZ0.out, show l.drop 39 = [] from List.drop_eq_nil_of_le (Nat.le_of_eq HLen.out.symm)] at q; exact q
  have RF : Hid (FrRd x6 ⟨⟨none, 0, 0⟩, ⟨some ⟨g2, 0, none⟩, 12, c2⟩, ⟨none, 0, 0⟩, ⟨none, 0, 0⟩, ⟨some ⟨g6, 0, none⟩, 0, c6⟩, ⟨some ⟨g5, 0, none⟩, 16, c5⟩⟩ ⟨(z0), 0, [], (piece l 1 12), 0, [], [], (val (piece l 13 4)), (val (piece l 17 6)), [], (piece l 23 16)⟩) := M6.out.own.rd
  obtain ⟨PP, hPP⟩ : ∃ PP, putF ⟨(z0), 0, [], (piece l 1 12), 0, [], [], (val (piece l 13 4)), (val (piece l 17 6)), [], (piece l 23 16)⟩ = PP := ⟨_, rfl⟩
  have HPP : Hid (putF ⟨(z0), 0, [], (piece l 1 12), 0, [], [], (val (piece l 13 4)), (val (piece l 17 6)), [], (piece l 23 16)⟩ = PP) := hPP
  have HPB : Hid (Bytes PP) := by rw [← hPP]; exact putF_bytes RF.out
  clear hPP
  go_cut [137] from 132 to 136 (fun s137 wx => s137 = .bool (decide (PP ≠ l)) ∧ Below x6.heap.size x6 wx)
  case first =>
    rename_i J K' hRJ hMet
    generalize hA : Act.mk _ _ = A
    have a0' : A.eval (.tmp 0) = .slice (some ⟨bb, off, none⟩) 39 c := by rw [← hA]; rfl
    have a4' : A.eval (.tmp 4) = .pointer (some ⟨gf, 0, none⟩) := by rw [← hA]; rfl
    have asz : A.tmps.size = 140 := by rw [← hA]; rfl
    have hM : ∀ wx, Below x6.heap.size x6 wx → FrMk wx gf (gf + 1) ⟨(z0), 0, [], (piece l 1 12), 0, [], [], (val (piece l 13 4)), (val (piece l 17 6)), [], (piece l 23 16)⟩ ⟨⟨none, 0, 0⟩, ⟨some ⟨g2, 0, none⟩, 12, c2⟩, ⟨none, 0, 0⟩, ⟨none, 0, 0⟩, ⟨some ⟨g6, 0, none⟩, 0, c6⟩, ⟨some ⟨g5, 0, none⟩, 16, c5⟩⟩ := fun wx hb => M6.out.later hb
    have hR : ∀ wx, Below x6.heap.size x6 wx → Rd wx (some ⟨bb, off, none⟩) l := fun wx hb => HRd.out.later (B6.out.trans (hb.mono B6.out.size)) (Nat.le_refl _)
    have hPut : ∀ wx, Below x6.heap.size x6 wx → Calls Try.prog 26 #[.agg #[.int .i64 (z0), .int .i64 0, .slice none 0 0, .slice (some ⟨g2, 0, none⟩) 12 c2, .int .i64 0, .slice none 0 0, .slice none 0 0, .int .i64 (val (piece l 13 4)), .int .i64 (val (piece l 17 6)), .slice (some ⟨g6, 0, none⟩) 0 c6, .slice (some ⟨g5, 0, none⟩) 16 c5]] wx (fun e w' => ∃ g m c, e = .returned (.slice (some ⟨g, 0, none⟩) m c) ∧ m = PP.length ∧ wx.heap.size ≤ g ∧ Row w' g c PP ∧ Below wx.heap.size wx w') := fun wx hb => by
      have q := specPutFrame ⟨⟨none, 0, 0⟩, ⟨some ⟨g2, 0, none⟩, 12, c2⟩, ⟨none, 0, 0⟩, ⟨none, 0, 0⟩, ⟨some ⟨g6, 0, none⟩, 0, c6⟩, ⟨some ⟨g5, 0, none⟩, 16, c5⟩⟩ ⟨(z0), 0, [], (piece l 1 12), 0, [], [], (val (piece l 13 4)), (val (piece l 17 6)), [], (piece l 23 16)⟩ wx (RF.out.later hb)
      rw [HPP.out] at q
      exact q
    refine region_each (by kernel_rfl) [132, 133, 134, 135, 136] 5 (fun i => [132, 133, 134, 135, 136].getD i 0) (fun _ => 0)
      (fun i gB v wx => match i with
        | 0 => v = .agg #[.int .i64 (z0), .int .i64 0, .slice none 0 0, .slice (some ⟨g2, 0, none⟩) 12 c2, .int .i64 0, .slice none 0 0, .slice none 0 0, .int .i64 (val (piece l 13 4)), .int .i64 (val (piece l 17 6)), .slice (some ⟨g6, 0, none⟩) 0 c6, .slice (some ⟨g5, 0, none⟩) 16 c5]
        | 1 => ∃ m c, v = .slice (some ⟨gB, 0, none⟩) m c ∧ m = PP.length ∧ Row wx gB c PP
        | 2 => v = .string (strOfNums PP)
        | 3 => v = .slice (some ⟨bb, off, none⟩) 39 c
        | 4 => v = .string (strOfNums l)
        | _ => False) (fun wx => Below x6.heap.size x6 wx) (by kernel_rfl) (Below.refl _ _).drew ?_ ?_ ?_
    · intro i gB v wx wy hi hF hb _
      match i, hi with
      | 0, _ => exact hF
      | 1, _ => obtain ⟨m, c, h0, h1, h2⟩ := hF; exact ⟨m, c, h0, h1, h2.later hb⟩
      | 2, _ => exact hF
      | 3, _ => exact hF
      | 4, _ => exact hF
    · intro i hi t ρ wx hB hp hd
      match i, hi with
      | 0, _ =>
        have e4 : (fr [132, 133, 134, 135, 136] A t).eval (.tmp 4) = .pointer (some ⟨gf, 0, none⟩) := (fr_eval_old _ _ _ 4 rfl).trans a4'
        have hc0 : wx.cell? ⟨gf, 0, none⟩ = some (.int .i64 (z0)) := (hM wx hB).blk.cell 0 rfl
        have hc1 : wx.cell? ⟨gf, 1, none⟩ = some (.int .i64 0) := (hM wx hB).blk.cell 1 rfl
        have hc2 : wx.cell? ⟨gf, 2, none⟩ = some (.slice none 0 0) := (hM wx hB).blk.cell 2 rfl
        have hc3 : wx.cell? ⟨gf, 3, none⟩ = some (.slice (some ⟨g2, 0, none⟩) 12 c2) := (hM wx hB).blk.cell 3 rfl
        have hc4 : wx.cell? ⟨gf, 4, none⟩ = some (.int .i64 0) := (hM wx hB).blk.cell 4 rfl
        have hc5 : wx.cell? ⟨gf, 5, none⟩ = some (.slice none 0 0) := (hM wx hB).blk.cell 5 rfl
        have hc6 : wx.cell? ⟨gf, 6, none⟩ = some (.slice none 0 0) := (hM wx hB).blk.cell 6 rfl
        have hc7 : wx.cell? ⟨gf, 7, none⟩ = some (.int .i64 (val (piece l 13 4))) := (hM wx hB).blk.cell 7 rfl
        have hc8 : wx.cell? ⟨gf, 8, none⟩ = some (.int .i64 (val (piece l 17 6))) := (hM wx hB).blk.cell 8 rfl
        have hc9 : wx.cell? ⟨gf, 9, none⟩ = some (.slice (some ⟨g6, 0, none⟩) 0 c6) := (hM wx hB).blk.cell 9 rfl
        have hc10 : wx.cell? ⟨gf, 10, none⟩ = some (.slice (some ⟨g5, 0, none⟩) 16 c5) := (hM wx hB).blk.cell 10 rfl
        refine op_run (v := .agg #[.int .i64 (z0), .int .i64 0, .slice none 0 0, .slice (some ⟨g2, 0, none⟩) 12 c2, .int .i64 0, .slice none 0 0, .slice none 0 0, .int .i64 (val (piece l 13 4)), .int .i64 (val (piece l 17 6)), .slice (some ⟨g6, 0, none⟩) 0 c6, .slice (some ⟨g5, 0, none⟩) 16 c5]) (w' := wx) rfl rfl ?_ ?_
        · clear hp hd; have ec : ∀ v, (fr [132, 133, 134, 135, 136] A t).eval (.const v) = v := fun _ => rfl; generalize (fr [132, 133, 134, 135, 136] A t).eval = ev at ec e4 ⊢; go_simp
        · exact ⟨_, 0, rfl, hB, Below.refl _ _, rfl, .inl rfl⟩
      | 1, _ =>
        have e132 : (fr [132, 133, 134, 135, 136] A t).eval (.tmp 132) = .agg #[.int .i64 (z0), .int .i64 0, .slice none 0 0, .slice (some ⟨g2, 0, none⟩) 12 c2, .int .i64 0, .slice none 0 0, .slice none 0 0, .int .i64 (val (piece l 13 4)), .int .i64 (val (piece l 17 6)), .slice (some ⟨g6, 0, none⟩) 0 c6, .slice (some ⟨g5, 0, none⟩) 16 c5] := (fr_eval _ _ _ 132 rfl (by rw [asz]; decide)).trans (hp 0 (pre_mem (by kernel_rfl)))
        refine op_call (f := 26) (args := #[.agg #[.int .i64 (z0), .int .i64 0, .slice none 0 0, .slice (some ⟨g2, 0, none⟩) 12 c2, .int .i64 0, .slice none 0 0, .slice none 0 0, .int .i64 (val (piece l 13 4)), .int .i64 (val (piece l 17 6)), .slice (some ⟨g6, 0, none⟩) 0 c6, .slice (some ⟨g5, 0, none⟩) 16 c5]]) rfl rfl ?_ (hPut wx hB) ?_
        · have ef : (fr [132, 133, 134, 135, 136] A t).eval (.func 26) = .func (.func 26) #[] #[] := rfl; clear hp hd; have ec : ∀ v, (fr [132, 133, 134, 135, 136] A t).eval (.const v) = v := fun _ => rfl; generalize (fr [132, 133, 134, 135, 136] A t).eval = ev at ec e132 ef ⊢; go_simp
        · rintro e wy ⟨g2, m2, c2, rfl, e2, k2, r2, b2⟩
          exact ⟨_, rfl, _, g2, rfl, hB.trans (b2.mono hB.size), b2, ⟨m2, c2, rfl, e2, r2⟩, .inl rfl⟩
      | 2, _ =>
        obtain ⟨m1, c1, hv1, q1_0, q1_1⟩ := hp 1 (pre_mem (by kernel_rfl))
        have e133 : (fr [132, 133, 134, 135, 136] A t).eval (.tmp 133) = .slice (some ⟨(ρ 1), 0, none⟩) m1 c1 := (fr_eval _ _ _ 133 rfl (by rw [asz]; decide)).trans hv1
        have hcv := convRow (c := c1) q1_0 q1_1.rd
        refine op_run (v := .string (strOfNums PP)) (w' := wx) rfl rfl ?_ ?_
        · clear hp hd q1_0 q1_1; have ec : ∀ v, (fr [132, 133, 134, 135, 136] A t).eval (.const v) = v := fun _ => rfl; generalize (fr [132, 133, 134, 135, 136] A t).eval = ev at ec e133 ⊢; go_simp
        · exact ⟨_, 0, rfl, hB, Below.refl _ _, rfl, .inl rfl⟩
      | 3, _ =>
        have e0 : (fr [132, 133, 134, 135, 136] A t).eval (.tmp 0) = .slice (some ⟨bb, off, none⟩) 39 c := (fr_eval_old _ _ _ 0 rfl).trans a0'
        refine op_run (v := .slice (some ⟨bb, off, none⟩) 39 c) (w' := wx) rfl rfl ?_ ?_
        · clear hp hd; have ec : ∀ v, (fr [132, 133, 134, 135, 136] A t).eval (.const v) = v := fun _ => rfl; generalize (fr [132, 133, 134, 135, 136] A t).eval = ev at ec e0 ⊢; go_simp
        · exact ⟨_, 0, rfl, hB, Below.refl _ _, rfl, .inl rfl⟩
      | 4, _ =>
        have e135 : (fr [132, 133, 134, 135, 136] A t).eval (.tmp 135) = .slice (some ⟨bb, off, none⟩) 39 c := (fr_eval _ _ _ 135 rfl (by rw [asz]; decide)).trans (hp 3 (pre_mem (by kernel_rfl)))
        have hcv := convAt (c := c) HLen.out (hR wx hB)
        refine op_run (v := .string (strOfNums l)) (w' := wx) rfl rfl ?_ ?_
        · clear hp hd; have ec : ∀ v, (fr [132, 133, 134, 135, 136] A t).eval (.const v) = v := fun _ => rfl; generalize (fr [132, 133, 134, 135, 136] A t).eval = ev at ec e135 ⊢; go_simp
        · exact ⟨_, 0, rfl, hB, Below.refl _ _, rfl, .inl rfl⟩
    · intro t ρ wx hB hF hne
      have e134 : (fr [132, 133, 134, 135, 136] A t).eval (.tmp 134) = .string (strOfNums PP) := (fr_eval _ _ _ 134 rfl (by rw [asz]; decide)).trans (hF 2 (by decide))
      have e136 : (fr [132, 133, 134, 135, 136] A t).eval (.tmp 136) = .string (strOfNums l) := (fr_eval _ _ _ 136 rfl (by rw [asz]; decide)).trans (hF 4 (by decide))
      clear hne
      have ES : Hid ((!((strOfNums PP).toList == (strOfNums l).toList)) = decide (PP ≠ l)) := strs_ne HPB.out HBy.out
      generalize strOfNums PP = sp at *
      generalize strOfNums l = sl at *
      refine op_wp rfl rfl ?_
      generalize hE : (fr [132, 133, 134, 135, 136] A t).eval = ev at e134 e136
      unfold Oper.wp
      rw [hE]
      go_simp
      refine hMet _ _ (Met.intro (hRJ _ _ ⟨t 132, t 133, t 134, t 135, t 136, _, ⟨by rw [← ES.out], hB⟩, ?_⟩))
      rw [← hA]; rfl
  case rest =>
    obtain ⟨z, hqz⟩ : ∃ z, z = wc := ⟨_, rfl⟩
    subst hqz
    obtain ⟨rfl, bz⟩ := hcut
    have KZ : Hid (Blk z gr 25 [.int .i64 0, .int .i64 0, .slice none 0 0, .slice none 0 0, .int .i64 0, .slice none 0 0, .slice none 0 0, .int .i64 0, .int .i64 0, .slice none 0 0, .slice none 0 0]) := KR6.out.later bz
    have BZ : Hid (Below w.heap.size w z) := B6.out.trans (bz.mono B6.out.size)
    have MX : Hid (FrMk z gf (gf + 1) ⟨(z0), 0, [], (piece l 1 12), 0, [], [], (val (piece l 13 4)), (val (piece l 17 6)), [], (piece l 23 16)⟩ ⟨⟨none, 0, 0⟩, ⟨some ⟨g2, 0, none⟩, 12, c2⟩, ⟨none, 0, 0⟩, ⟨none, 0, 0⟩, ⟨some ⟨g6, 0, none⟩, 0, c6⟩, ⟨some ⟨g5, 0, none⟩, 16, c5⟩⟩) := M6.out.later bz
    clear bz M6 KR6 B6
    have zc0 := KZ.out.cell 0 rfl
    have zf0 := KZ.out.frozen 0
    have zc1 := KZ.out.cell 1 rfl
    have zf1 := KZ.out.frozen 1
    have zc2 := KZ.out.cell 2 rfl
    have zf2 := KZ.out.frozen 2
    have zc3 := KZ.out.cell 3 rfl
    have zf3 := KZ.out.frozen 3
    have zc4 := KZ.out.cell 4 rfl
    have zf4 := KZ.out.frozen 4
    have zc5 := KZ.out.cell 5 rfl
    have zf5 := KZ.out.frozen 5
    have zc6 := KZ.out.cell 6 rfl
    have zf6 := KZ.out.frozen 6
    have zc7 := KZ.out.cell 7 rfl
    have zf7 := KZ.out.frozen 7
    have zc8 := KZ.out.cell 8 rfl
    have zf8 := KZ.out.frozen 8
    have zc9 := KZ.out.cell 9 rfl
    have zf9 := KZ.out.frozen 9
    have zc10 := KZ.out.cell 10 rfl
    have zf10 := KZ.out.frozen 10
    by_cases hp : PP = l
    · have hd : decide (PP ≠ l) = false := by simpa using hp
      have HP : Hid (PP = l) := hp
      rw [hd]
      clear hp hd
      have zo0 : z.cell? ⟨gf, 0, none⟩ = some (.int .i64 (z0)) := MX.out.blk.cell 0 rfl
      have zo1 : z.cell? ⟨gf, 1, none⟩ = some (.int .i64 0) := MX.out.blk.cell 1 rfl
      have zo2 : z.cell? ⟨gf, 2, none⟩ = some (.slice none 0 0) := MX.out.blk.cell 2 rfl
      have zo3 : z.cell? ⟨gf, 3, none⟩ = some (.slice (some ⟨g2, 0, none⟩) 12 c2) := MX.out.blk.cell 3 rfl
      have zo4 : z.cell? ⟨gf, 4, none⟩ = some (.int .i64 0) := MX.out.blk.cell 4 rfl
      have zo5 : z.cell? ⟨gf, 5, none⟩ = some (.slice none 0 0) := MX.out.blk.cell 5 rfl
      have zo6 : z.cell? ⟨gf, 6, none⟩ = some (.slice none 0 0) := MX.out.blk.cell 6 rfl
      have zo7 : z.cell? ⟨gf, 7, none⟩ = some (.int .i64 (val (piece l 13 4))) := MX.out.blk.cell 7 rfl
      have zo8 : z.cell? ⟨gf, 8, none⟩ = some (.int .i64 (val (piece l 17 6))) := MX.out.blk.cell 8 rfl
      have zo9 : z.cell? ⟨gf, 9, none⟩ = some (.slice (some ⟨g6, 0, none⟩) 0 c6) := MX.out.blk.cell 9 rfl
      have zo10 : z.cell? ⟨gf, 10, none⟩ = some (.slice (some ⟨g5, 0, none⟩) 16 c5) := MX.out.blk.cell 10 rfl
      have ne1 : gr ≠ gf := by have := HG.out; omega
      have ne2 : gf ≠ gr := by have := HG.out; omega
      go_wp2
      have KF : Blk ((((((((((((z).setCell ⟨gr, 0, none⟩ (.int .i64 (z0))).setCell ⟨gr, 1, none⟩ (.int .i64 0)).setCell ⟨gr, 2, none⟩ (.slice none 0 0)).setCell ⟨gr, 3, none⟩ (.slice (some ⟨g2, 0, none⟩) 12 c2)).setCell ⟨gr, 4, none⟩ (.int .i64 0)).setCell ⟨gr, 5, none⟩ (.slice none 0 0)).setCell ⟨gr, 6, none⟩ (.slice none 0 0)).setCell ⟨gr, 7, none⟩ (.int .i64 (val (piece l 13 4)))).setCell ⟨gr, 8, none⟩ (.int .i64 (val (piece l 17 6)))).setCell ⟨gr, 9, none⟩ (.slice (some ⟨g6, 0, none⟩) 0 c6)).setCell ⟨gr, 10, none⟩ (.slice (some ⟨g5, 0, none⟩) 16 c5)) gr 25 [.int .i64 (z0), .int .i64 0, .slice none 0 0, .slice (some ⟨g2, 0, none⟩) 12 c2, .int .i64 0, .slice none 0 0, .slice none 0 0, .int .i64 (val (piece l 13 4)), .int .i64 (val (piece l 17 6)), .slice (some ⟨g6, 0, none⟩) 0 c6, .slice (some ⟨g5, 0, none⟩) 16 c5] := (((((((((((KZ.out).set 0 _ (by simp [maxLen])).set 1 _ (by simp [maxLen])).set 2 _ (by simp [maxLen])).set 3 _ (by simp [maxLen])).set 4 _ (by simp [maxLen])).set 5 _ (by simp [maxLen])).set 6 _ (by simp [maxLen])).set 7 _ (by simp [maxLen])).set 8 _ (by simp [maxLen])).set 9 _ (by simp [maxLen])).set 10 _ (by simp [maxLen])
      have KK : Kept gr (gr + 1) z ((((((((((((z).setCell ⟨gr, 0, none⟩ (.int .i64 (z0))).setCell ⟨gr, 1, none⟩ (.int .i64 0)).setCell ⟨gr, 2, none⟩ (.slice none 0 0)).setCell ⟨gr, 3, none⟩ (.slice (some ⟨g2, 0, none⟩) 12 c2)).setCell ⟨gr, 4, none⟩ (.int .i64 0)).setCell ⟨gr, 5, none⟩ (.slice none 0 0)).setCell ⟨gr, 6, none⟩ (.slice none 0 0)).setCell ⟨gr, 7, none⟩ (.int .i64 (val (piece l 13 4)))).setCell ⟨gr, 8, none⟩ (.int .i64 (val (piece l 17 6)))).setCell ⟨gr, 9, none⟩ (.slice (some ⟨g6, 0, none⟩) 0 c6)).setCell ⟨gr, 10, none⟩ (.slice (some ⟨g5, 0, none⟩) 16 c5)) := ((((((((((((Kept.refl gr (gr + 1) z)).trans (Kept.setCell _ gr 0 _)).trans (Kept.setCell _ gr 1 _)).trans (Kept.setCell _ gr 2 _)).trans (Kept.setCell _ gr 3 _)).trans (Kept.setCell _ gr 4 _)).trans (Kept.setCell _ gr 5 _)).trans (Kept.setCell _ gr 6 _)).trans (Kept.setCell _ gr 7 _)).trans (Kept.setCell _ gr 8 _)).trans (Kept.setCell _ gr 9 _)).trans (Kept.setCell _ gr 10 _)
      exact ret_got rfl rfl rfl KF rfl (D := ⟨(z0), 0, [], (piece l 1 12), 0, [], [], (val (piece l 13 4)), (val (piece l 17 6)), [], (piece l 23 16)⟩) (S := ⟨⟨none, 0, 0⟩, ⟨some ⟨g2, 0, none⟩, 12, c2⟩, ⟨none, 0, 0⟩, ⟨none, 0, 0⟩, ⟨some ⟨g6, 0, none⟩, 0, c6⟩, ⟨some ⟨g5, 0, none⟩, 16, c5⟩⟩) (CA.out.yes (HPP.out.trans HP.out)) ((MX.out.own.carry KK (.inr (by have := HG.out; omega))).mono (by have := HG.out; omega) KK.size) ((((((((((((BZ.out).setCell (by show _ ≤ gr; have := HG.out; omega) _).setCell (by show _ ≤ gr; have := HG.out; omega) _).setCell (by show _ ≤ gr; have := HG.out; omega) _).setCell (by show _ ≤ gr; have := HG.out; omega) _).setCell (by show _ ≤ gr; have := HG.out; omega) _).setCell (by show _ ≤ gr; have := HG.out; omega) _).setCell (by show _ ≤ gr; have := HG.out; omega) _).setCell (by show _ ≤ gr; have := HG.out; omega) _).setCell (by show _ ≤ gr; have := HG.out; omega) _).setCell (by show _ ≤ gr; have := HG.out; omega) _).setCell (by show _ ≤ gr; have := HG.out; omega) _)
    · have hd : decide (PP ≠ l) = true := by simpa using hp
      have HP : Hid (PP ≠ l) := hp
      rw [hd]
      clear hp hd
      go_wp2
      have KF : Blk ((((((((((((z).setCell ⟨gr, 0, none⟩ (.int .i64 0)).setCell ⟨gr, 1, none⟩ (.int .i64 0)).setCell ⟨gr, 2, none⟩ (.slice none 0 0)).setCell ⟨gr, 3, none⟩ (.slice none 0 0)).setCell ⟨gr, 4, none⟩ (.int .i64 0)).setCell ⟨gr, 5, none⟩ (.slice none 0 0)).setCell ⟨gr, 6, none⟩ (.slice none 0 0)).setCell ⟨gr, 7, none⟩ (.int .i64 0)).setCell ⟨gr, 8, none⟩ (.int .i64 0)).setCell ⟨gr, 9, none⟩ (.slice none 0 0)).setCell ⟨gr, 10, none⟩ (.slice none 0 0)) gr 25 [.int .i64 0, .int .i64 0, .slice none 0 0, .slice none 0 0, .int .i64 0, .slice none 0 0, .slice none 0 0, .int .i64 0, .int .i64 0, .slice none 0 0, .slice none 0 0] := (((((((((((KZ.out).set 0 _ (by simp [maxLen])).set 1 _ (by simp [maxLen])).set 2 _ (by simp [maxLen])).set 3 _ (by simp [maxLen])).set 4 _ (by simp [maxLen])).set 5 _ (by simp [maxLen])).set 6 _ (by simp [maxLen])).set 7 _ (by simp [maxLen])).set 8 _ (by simp [maxLen])).set 9 _ (by simp [maxLen])).set 10 _ (by simp [maxLen])
      exact ret_got rfl rfl rfl KF rfl (D := zeroF) (S := SN) (CA.out.no (by rw [HPP.out]; exact HP.out)) (own_nil _ _ _) ((((((((((((BZ.out).setCell (by show _ ≤ gr; have := HG.out; omega) _).setCell (by show _ ≤ gr; have := HG.out; omega) _).setCell (by show _ ≤ gr; have := HG.out; omega) _).setCell (by show _ ≤ gr; have := HG.out; omega) _).setCell (by show _ ≤ gr; have := HG.out; omega) _).setCell (by show _ ≤ gr; have := HG.out; omega) _).setCell (by show _ ≤ gr; have := HG.out; omega) _).setCell (by show _ ≤ gr; have := HG.out; omega) _).setCell (by show _ ≤ gr; have := HG.out; omega) _).setCell (by show _ ≤ gr; have := HG.out; omega) _).setCell (by show _ ≤ gr; have := HG.out; omega) _)

set_option maxRecDepth 100000 in
set_option maxHeartbeats 800000 in
theorem specGetFrame (s : Sl) (l : List Int) (w : World) (h : SRd w s l) (bb off : Nat) (ha : s.a = some ⟨bb, off, none⟩) (hm : l.length ≤ 4194304) :
    Calls Try.prog 19 #[.slice s.a s.n s.c] w (Gave w l) := by
  obtain ⟨a, N, c⟩ := s
  have ha' : a = some ⟨bb, off, none⟩ := ha
  subst ha'
  have hn : N = l.length := h.len
  have hr : Rd w (some ⟨bb, off, none⟩) l := h.rd
  have hc : N ≤ c := h.cap
  have hm' : N ≤ 4194304 := by omega
  show Calls Try.prog 19 #[.slice (some ⟨bb, off, none⟩) N c] w (Gave w l)
  by_cases h0 : N = 0
  · exact get_nil bb off N c l w hn hr h.bytes hc hm' h0
  cases k1 : (l.getD 0 0 == 1) with
  | true =>
    by_cases hl : N = 34
    · exact get1_yes bb off N c l w hn hr h.bytes hc hm' k1 hl h0
    · exact get1_no bb off N c l w hn hr h.bytes hc hm' k1 hl h0
  | false =>
    cases k2 : (l.getD 0 0 == 2) with
    | true =>
      by_cases hl : N = 45
      · exact get2_yes bb off N c l w hn hr h.bytes hc hm' k1 k2 hl h0
      · exact get2_no bb off N c l w hn hr h.bytes hc hm' k1 k2 hl h0
    | false =>
      cases k3 : (l.getD 0 0 == 3) with
      | true =>
        by_cases hl : N = 62
        · exact get3_yes bb off N c l w hn hr h.bytes hc hm' k1 k2 k3 hl h0
        · exact get3_no bb off N c l w hn hr h.bytes hc hm' k1 k2 k3 hl h0
      | false =>
        by_cases hl : N < 39
        · exact getS_no bb off N c l w hn hr h.bytes hc hm' k1 k2 k3 hl h0
        · by_cases hce : c = 39
          · exact getS_end bb off N c l w hn hr h.bytes hc hm' k1 k2 k3 (by omega) hce h0
          · exact getS_yes bb off N c l w hn hr h.bytes hc hm' k1 k2 k3 (by omega) hce h0

end Go.Proofs.Ytfapehmbecgjaaa.FrGet
