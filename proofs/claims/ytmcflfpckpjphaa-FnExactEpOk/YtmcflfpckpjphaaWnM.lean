/-
  impl.windowOf: the window that a Win tells, if it is right.
-/
import Derived.Test.YtmcflfpckpjphaaWnL
import Derived.Test.YtmcflfpckpjphaaWnS
namespace Go.Proofs.Ytmcflfpckpjphaa.WnM
open Go.RowKit Go.Proofs.Ytmcflfpckpjphaa.Mem Go.Proofs.Ytmcflfpckpjphaa.MemI Go.Proofs.Ytmcflfpckpjphaa.Blk Go.Proofs.Ytmcflfpckpjphaa.Zone Go.Proofs.Ytmcflfpckpjphaa.ZoneI Go.Proofs.Ytmcflfpckpjphaa.WnZ Go.Proofs.Ytmcflfpckpjphaa.Res Go.Proofs.Ytmcflfpckpjphaa.Each Go.Proofs.Ytmcflfpckpjphaa.Copy Go.Proofs.Ytmcflfpckpjphaa.Ops Go.Proofs.Ytmcflfpckpjphaa.WinP Go.Proofs.Ytmcflfpckpjphaa.WinB Go.Proofs.Ytmcflfpckpjphaa.Bits Go.Proofs.Ytmcflfpckpjphaa.WnI Go.Proofs.Ytmcflfpckpjphaa.WnJ Go.Proofs.Ytmcflfpckpjphaa.WnL Go.Proofs.Ytmcflfpckpjphaa.WnS

/-- What windowOf answers. -/
def Read1 (D : WnD) (w : World) (e : Ending) (w' : World) : Prop :=
  ((winOk D.top D.bits = true ∧ ∃ g, e = .returned (.tuple #[.pointer (some ⟨g, 0, none⟩), .bool true]) ∧ w.heap.size ≤ g ∧ Wnd w' g D.top D.bits) ∨ (winOk D.top D.bits = false ∧ e = .returned (.tuple #[.pointer none, .bool false]))) ∧ Below w.heap.size w w'
theorem read_no {D : WnD} {w w' : World} (h : winOk D.top D.bits = false) (b : Below w.heap.size w w') : Read1 D w (.returned (.tuple #[.pointer none, .bool false])) w' := ⟨.inr ⟨h, rfl⟩, b⟩
theorem read_yes {D : WnD} {w w' : World} {g : Nat} (h : winOk D.top D.bits = true) (hg : w.heap.size ≤ g) (k : Wnd w' g D.top D.bits) (b : Below w.heap.size w w') : Read1 D w (.returned (.tuple #[.pointer (some ⟨g, 0, none⟩), .bool true])) w' := ⟨.inl ⟨h, g, rfl, hg, k⟩, b⟩
theorem mid_words {l : List Int} {k : Nat} (h : ∀ i : Nat, i < k → 0 ≤ l.getD i 0 ∧ l.getD i 0 ≤ 4294967295) (hk : k ≤ l.length) : Words (l.take k ++ List.replicate (32 - k) 0) := by
  intro z hz
  rcases List.mem_append.1 hz with hz | hz
  · obtain ⟨i, hi, rfl⟩ := List.getElem_of_mem hz
    simp only [List.length_take] at hi
    have := h i (by omega)
    rw [List.getElem_take]
    simpa [List.getD, show i < l.length by omega] using this
  · have := List.eq_of_mem_replicate hz
    omega

set_option maxRecDepth 100000 in
set_option maxHeartbeats 8000000 in
theorem windowOf (S : WnS) (D : WnD) (w : World) (h : WnRd w S D) : Calls Try.prog 48 #[wnV D S] w (Read1 D w) := by
  have HR : Hid (WnRd w S D) := h
  obtain ⟨x0, hx0, k0, b0, hs0⟩ := boxed w D S
  have HW0 : Hid (_ = x0) := hx0
  have HSZ : Hid (x0.heap.size = w.heap.size + 1) := hs0
  have B0 : Hid (Below w.heap.size w x0) := b0
  have KA : Hid (Blk x0 w.heap.size 26 [.int .i64 D.top, .slice S.bits.a S.bits.n S.bits.c]) := k0
  clear h hx0 k0 b0 hs0
  have hlen := HR.out.bits.len
  have c0 := KA.out.cell 0 rfl
  have c1 := KA.out.cell 1 rfl
  unfold wnV
  by_cases hl : D.bits.length = 32
  · obtain ⟨b, off, c, rfl, hb, hce⟩ : ∃ b off c, S = ⟨⟨some ⟨b, off, none⟩, 32, c⟩⟩ ∧ b < w.heap.size ∧ ∀ i : Nat, i < 32 → w.cell? ⟨b, off + i, none⟩ = some (.int .i64 (D.bits.getD i 0)) := by
      obtain ⟨b, off, c, h1, h2, h3⟩ := based HR.out.bits hl
      exact ⟨b, off, c, by cases S; simp only at h1; rw [h1], h2, h3⟩
    have HCE : Hid (∀ i : Nat, i < 32 → w.cell? ⟨b, off + i, none⟩ = some (.int .i64 (D.bits.getD i 0))) := hce
    have HL : Hid (D.bits.length = 32) := hl
    clear hl hlen hce
    simp only at KA HW0 c0 c1 ⊢
    by_cases h1 : D.top = -1
    · have HLo : Hid (-1 ≤ D.top ∧ D.top ≤ 281474976710655) := by show _ ∧ _; omega
      have hb1 : (D.top != -1) = false := by rw [h1]; rfl
      clear h1
      go_enter Try.func48, Try.ntmps48
      go_upto_region 1 with fail
      rw [HW0.out]
      go_upto_region 3 with fail
      have HB0 : Hid (b < w.heap.size) := hb
      clear c0 c1 hb
      try clear hb1
      have c0 := KA.out.cell 0 rfl
      obtain ⟨x1, hx1⟩ : ∃ x1, x0.alloc (.cells (.int .i64 D.top :: zeros.map (Value.int .u32)).toArray 101) = x1 := ⟨_, rfl⟩
      have HX1 : Hid (x0.alloc (.cells (.int .i64 D.top :: zeros.map (Value.int .u32)).toArray 101) = x1) := hx1
      have W1 : Hid (Wnd x1 (w.heap.size + 1) D.top zeros) := ⟨rfl, new_ok.words, by rw [← HSZ.out, ← hx1]; exact Blk.new x0 _ _⟩
      have B1 : Hid (Below w.heap.size w x1) := by rw [← hx1]; exact B0.out.alloc B0.out.size _
      have KA1 : Hid (Blk x1 w.heap.size 26 [.int .i64 D.top, .slice (some ⟨b, off, none⟩) 32 c]) := by rw [← hx1]; exact KA.out.alloc _
      clear hx1
      go_upto_region 4 with fail
      rw [show ∀ (t : Int), (#[.int .i64 t, .int .u32 0, .int .u32 0, .int .u32 0, .int .u32 0, .int .u32 0, .int .u32 0, .int .u32 0, .int .u32 0, .int .u32 0, .int .u32 0, .int .u32 0, .int .u32 0, .int .u32 0, .int .u32 0, .int .u32 0, .int .u32 0, .int .u32 0, .int .u32 0, .int .u32 0, .int .u32 0, .int .u32 0, .int .u32 0, .int .u32 0, .int .u32 0, .int .u32 0, .int .u32 0, .int .u32 0, .int .u32 0, .int .u32 0, .int .u32 0, .int .u32 0, .int .u32 0] : Array Value) = (.int .i64 t :: zeros.map (Value.int .u32)).toArray from fun _ => rfl, HX1.out, HSZ.out]
      clear c0 B0 KA HX1 HW0
      go_wp2
      go_loopw [25] (fun i wr => ∃ k : Nat, k ≤ 32 ∧ i = .int .i64 k ∧ Hid (∀ i : Nat, i < k → 0 ≤ D.bits.getD i 0 ∧ D.bits.getD i 0 ≤ 4294967295) ∧ Wnd wr (w.heap.size + 1) D.top (D.bits.take k ++ List.replicate (32 - k) 0) ∧ Blk wr w.heap.size 26 [.int .i64 D.top, .slice (some ⟨b, off, none⟩) 32 c] ∧ Below w.heap.size w wr) (fun i _ => 32 - (intOf i).toNat)
      case atStart => exact ⟨0, Nat.zero_le _, rfl, (fun i hi => absurd hi (Nat.not_lt_zero _)), W1.out, KA1.out, B1.out⟩
      case round =>
        obtain ⟨k, hk, rfl, HK, hw, hka, hbe⟩ := hrel
        have HW : Hid (Wnd wr (w.heap.size + 1) D.top (D.bits.take k ++ List.replicate (32 - k) 0)) := hw
        have HKA : Hid (Blk wr w.heap.size 26 [.int .i64 D.top, .slice (some ⟨b, off, none⟩) 32 c]) := hka
        have HBe : Hid (Below w.heap.size w wr) := hbe
        clear hw hka hbe W1 B1 KA1
        by_cases hlt : k < 32
        · have hltI : (k : Int) < 32 := by omega
          obtain ⟨x, hx⟩ : ∃ x, D.bits.getD k 0 = x := ⟨_, rfl⟩
          have HXD : Hid (D.bits.getD k 0 = x) := hx
          have HX : Hid (w.cell? ⟨b, off + k, none⟩ = some (.int .i64 x)) := by show _ = _; rw [HCE.out k hlt, hx]
          obtain ⟨y, hy⟩ : ∃ y, IntKind.u32.wrap x = y := ⟨_, rfl⟩
          have HYE : Hid (y = x % 4294967296) := by show _ = _; rw [← hy, wrap_u32]
          have HYb : Hid (0 ≤ y ∧ y ≤ 4294967295) := by have := HYE.out; show _ ∧ _; omega
          have hb0 : b < w.heap.size := HB0.out
          clear hx
          go_upto_region 7 with fail
          go_cut [38] from 28 to 37 (fun s38 wx => Wnd wx (w.heap.size + 1) D.top ((D.bits.take k ++ List.replicate (32 - k) 0).set k y) ∧ Blk wx w.heap.size 26 [.int .i64 D.top, .slice (some ⟨b, off, none⟩) 32 c] ∧ Below w.heap.size w wx)
          case first =>
            rename_i J K' hRJ hMet
            generalize hA : Act.mk _ _ = A
            have a1' : A.eval (.tmp 1) = .pointer (some ⟨w.heap.size, 0, none⟩) := by rw [← hA]; rfl
            have a4' : A.eval (.tmp 4) = .pointer (some ⟨w.heap.size + 1, 0, none⟩) := by rw [← hA]; rfl
            have a5' : A.eval (.tmp 5) = .int .i64 (k : Int) := by rw [← hA]; rfl
            have asz : A.tmps.size = 57 := by rw [← hA]; rfl
            have hW : ∀ wx, Below wr.heap.size wr wx → Wnd wx (w.heap.size + 1) D.top (D.bits.take k ++ List.replicate (32 - k) 0) := fun wx hb => HW.out.later hb
            have hBk : ∀ wx, Below wr.heap.size wr wx → Blk wx w.heap.size 26 [.int .i64 D.top, .slice (some ⟨b, off, none⟩) 32 c] := fun wx hb => HKA.out.later hb
            have hX : ∀ wx, Below wr.heap.size wr wx → wx.cell? ⟨b, off + k, none⟩ = some (.int .i64 x) := fun wx hb => by rw [(HBe.out.trans (hb.mono HBe.out.size)).cell hb0]; exact HX.out
            refine region_each (by kernel_rfl) [28, 29, 30, 31, 32, 33, 34, 35, 36, 37, 38] 11 (fun i => [28, 29, 30, 31, 32, 33, 34, 35, 36, 37, 38].getD i 0) (fun _ => 0)
              (fun i gB v wx => match i with
                | 0 => v = .pointer (some ⟨w.heap.size + 1, 0, none⟩)
                | 1 => v = .int .i64 (k : Int)
                | 2 => v = .pointer (some ⟨w.heap.size, 1, none⟩)
                | 3 => v = .slice (some ⟨b, off, none⟩) 32 c
                | 4 => v = .int .i64 (k : Int)
                | 5 => v = .pointer (some ⟨b, off + k, none⟩)
                | 6 => v = .int .i64 x
                | 7 => v = .int .u32 y
                | 8 => v = .pointer (some ⟨w.heap.size + 1, 0, none⟩)
                | 9 => v = .pointer (some ⟨w.heap.size + 1, 1, none⟩)
                | 10 => v = .pointer (some ⟨w.heap.size + 1, 1 + k, none⟩)
                | _ => False) (fun wx => Below wr.heap.size wr wx) (by kernel_rfl) (Below.refl _ _).drew ?_ ?_ ?_
            · intro i gB v wx wy hi hF hb _
              match i, hi with
              | 0, _ => exact hF
              | 1, _ => exact hF
              | 2, _ => exact hF
              | 3, _ => exact hF
              | 4, _ => exact hF
              | 5, _ => exact hF
              | 6, _ => exact hF
              | 7, _ => exact hF
              | 8, _ => exact hF
              | 9, _ => exact hF
              | 10, _ => exact hF
            · intro i hi t ρ wx hB hp hd
              match i, hi with
              | 0, _ =>
                have e4 : (fr [28, 29, 30, 31, 32, 33, 34, 35, 36, 37, 38] A t).eval (.tmp 4) = .pointer (some ⟨w.heap.size + 1, 0, none⟩) := (fr_eval_old _ _ _ 4 rfl).trans a4'
                refine op_run (v := .pointer (some ⟨w.heap.size + 1, 0, none⟩)) (w' := wx) rfl rfl ?_ ?_
                · clear hp hd; have ec : ∀ v, (fr [28, 29, 30, 31, 32, 33, 34, 35, 36, 37, 38] A t).eval (.const v) = v := fun _ => rfl; generalize (fr [28, 29, 30, 31, 32, 33, 34, 35, 36, 37, 38] A t).eval = ev at ec e4 ⊢; go_simp
                · exact ⟨_, 0, rfl, hB, Below.refl _ _, rfl, .inl rfl⟩
              | 1, _ =>
                have e5 : (fr [28, 29, 30, 31, 32, 33, 34, 35, 36, 37, 38] A t).eval (.tmp 5) = .int .i64 (k : Int) := (fr_eval_old _ _ _ 5 rfl).trans a5'
                refine op_run (v := .int .i64 (k : Int)) (w' := wx) rfl rfl ?_ ?_
                · clear hp hd; have ec : ∀ v, (fr [28, 29, 30, 31, 32, 33, 34, 35, 36, 37, 38] A t).eval (.const v) = v := fun _ => rfl; generalize (fr [28, 29, 30, 31, 32, 33, 34, 35, 36, 37, 38] A t).eval = ev at ec e5 ⊢; go_simp
                · exact ⟨_, 0, rfl, hB, Below.refl _ _, rfl, .inl rfl⟩
              | 2, _ =>
                have e1 : (fr [28, 29, 30, 31, 32, 33, 34, 35, 36, 37, 38] A t).eval (.tmp 1) = .pointer (some ⟨w.heap.size, 0, none⟩) := (fr_eval_old _ _ _ 1 rfl).trans a1'
                refine op_run (v := .pointer (some ⟨w.heap.size, 1, none⟩)) (w' := wx) rfl rfl ?_ ?_
                · clear hp hd; have ec : ∀ v, (fr [28, 29, 30, 31, 32, 33, 34, 35, 36, 37, 38] A t).eval (.const v) = v := fun _ => rfl; generalize (fr [28, 29, 30, 31, 32, 33, 34, 35, 36, 37, 38] A t).eval = ev at ec e1 ⊢; go_simp
                · exact ⟨_, 0, rfl, hB, Below.refl _ _, rfl, .inl rfl⟩
              | 3, _ =>
                have e30 : (fr [28, 29, 30, 31, 32, 33, 34, 35, 36, 37, 38] A t).eval (.tmp 30) = .pointer (some ⟨w.heap.size, 1, none⟩) := (fr_eval _ _ _ 30 rfl (by rw [asz]; decide)).trans (hp 2 (pre_mem (by kernel_rfl)))
                have hc := (hBk wx hB).cell 1 rfl
                refine op_run (v := .slice (some ⟨b, off, none⟩) 32 c) (w' := wx) rfl rfl ?_ ?_
                · clear hp hd; have ec : ∀ v, (fr [28, 29, 30, 31, 32, 33, 34, 35, 36, 37, 38] A t).eval (.const v) = v := fun _ => rfl; generalize (fr [28, 29, 30, 31, 32, 33, 34, 35, 36, 37, 38] A t).eval = ev at ec e30 ⊢; go_simp
                · exact ⟨_, 0, rfl, hB, Below.refl _ _, rfl, .inl rfl⟩
              | 4, _ =>
                have e5 : (fr [28, 29, 30, 31, 32, 33, 34, 35, 36, 37, 38] A t).eval (.tmp 5) = .int .i64 (k : Int) := (fr_eval_old _ _ _ 5 rfl).trans a5'
                refine op_run (v := .int .i64 (k : Int)) (w' := wx) rfl rfl ?_ ?_
                · clear hp hd; have ec : ∀ v, (fr [28, 29, 30, 31, 32, 33, 34, 35, 36, 37, 38] A t).eval (.const v) = v := fun _ => rfl; generalize (fr [28, 29, 30, 31, 32, 33, 34, 35, 36, 37, 38] A t).eval = ev at ec e5 ⊢; go_simp
                · exact ⟨_, 0, rfl, hB, Below.refl _ _, rfl, .inl rfl⟩
              | 5, _ =>
                have e31 : (fr [28, 29, 30, 31, 32, 33, 34, 35, 36, 37, 38] A t).eval (.tmp 31) = .slice (some ⟨b, off, none⟩) 32 c := (fr_eval _ _ _ 31 rfl (by rw [asz]; decide)).trans (hp 3 (pre_mem (by kernel_rfl)))
                have e32 : (fr [28, 29, 30, 31, 32, 33, 34, 35, 36, 37, 38] A t).eval (.tmp 32) = .int .i64 (k : Int) := (fr_eval _ _ _ 32 rfl (by rw [asz]; decide)).trans (hp 4 (pre_mem (by kernel_rfl)))
                refine op_run (v := .pointer (some ⟨b, off + k, none⟩)) (w' := wx) rfl rfl ?_ ?_
                · clear hp hd; have ec : ∀ v, (fr [28, 29, 30, 31, 32, 33, 34, 35, 36, 37, 38] A t).eval (.const v) = v := fun _ => rfl; generalize (fr [28, 29, 30, 31, 32, 33, 34, 35, 36, 37, 38] A t).eval = ev at ec e31 e32 ⊢; go_simp
                · exact ⟨_, 0, rfl, hB, Below.refl _ _, rfl, .inl rfl⟩
              | 6, _ =>
                have e33 : (fr [28, 29, 30, 31, 32, 33, 34, 35, 36, 37, 38] A t).eval (.tmp 33) = .pointer (some ⟨b, off + k, none⟩) := (fr_eval _ _ _ 33 rfl (by rw [asz]; decide)).trans (hp 5 (pre_mem (by kernel_rfl)))
                have hc := hX wx hB
                refine op_run (v := .int .i64 x) (w' := wx) rfl rfl ?_ ?_
                · clear hp hd; have ec : ∀ v, (fr [28, 29, 30, 31, 32, 33, 34, 35, 36, 37, 38] A t).eval (.const v) = v := fun _ => rfl; generalize (fr [28, 29, 30, 31, 32, 33, 34, 35, 36, 37, 38] A t).eval = ev at ec e33 ⊢; go_simp
                · exact ⟨_, 0, rfl, hB, Below.refl _ _, rfl, .inl rfl⟩
              | 7, _ =>
                have e34 : (fr [28, 29, 30, 31, 32, 33, 34, 35, 36, 37, 38] A t).eval (.tmp 34) = .int .i64 x := (fr_eval _ _ _ 34 rfl (by rw [asz]; decide)).trans (hp 6 (pre_mem (by kernel_rfl)))
                refine op_run (v := .int .u32 y) (w' := wx) rfl rfl ?_ ?_
                · clear hp hd; have ec : ∀ v, (fr [28, 29, 30, 31, 32, 33, 34, 35, 36, 37, 38] A t).eval (.const v) = v := fun _ => rfl; generalize (fr [28, 29, 30, 31, 32, 33, 34, 35, 36, 37, 38] A t).eval = ev at ec e34 ⊢; go_simp
                · exact ⟨_, 0, rfl, hB, Below.refl _ _, rfl, .inl rfl⟩
              | 8, _ =>
                have e28 : (fr [28, 29, 30, 31, 32, 33, 34, 35, 36, 37, 38] A t).eval (.tmp 28) = .pointer (some ⟨w.heap.size + 1, 0, none⟩) := (fr_eval _ _ _ 28 rfl (by rw [asz]; decide)).trans (hp 0 (pre_mem (by kernel_rfl)))
                refine op_run (v := .pointer (some ⟨w.heap.size + 1, 0, none⟩)) (w' := wx) rfl rfl ?_ ?_
                · clear hp hd; have ec : ∀ v, (fr [28, 29, 30, 31, 32, 33, 34, 35, 36, 37, 38] A t).eval (.const v) = v := fun _ => rfl; generalize (fr [28, 29, 30, 31, 32, 33, 34, 35, 36, 37, 38] A t).eval = ev at ec e28 ⊢; go_simp
                · exact ⟨_, 0, rfl, hB, Below.refl _ _, rfl, .inl rfl⟩
              | 9, _ =>
                have e36 : (fr [28, 29, 30, 31, 32, 33, 34, 35, 36, 37, 38] A t).eval (.tmp 36) = .pointer (some ⟨w.heap.size + 1, 0, none⟩) := (fr_eval _ _ _ 36 rfl (by rw [asz]; decide)).trans (hp 8 (pre_mem (by kernel_rfl)))
                refine op_run (v := .pointer (some ⟨w.heap.size + 1, 1, none⟩)) (w' := wx) rfl rfl ?_ ?_
                · clear hp hd; have ec : ∀ v, (fr [28, 29, 30, 31, 32, 33, 34, 35, 36, 37, 38] A t).eval (.const v) = v := fun _ => rfl; generalize (fr [28, 29, 30, 31, 32, 33, 34, 35, 36, 37, 38] A t).eval = ev at ec e36 ⊢; go_simp
                · exact ⟨_, 0, rfl, hB, Below.refl _ _, rfl, .inl rfl⟩
              | 10, _ =>
                have e37 : (fr [28, 29, 30, 31, 32, 33, 34, 35, 36, 37, 38] A t).eval (.tmp 37) = .pointer (some ⟨w.heap.size + 1, 1, none⟩) := (fr_eval _ _ _ 37 rfl (by rw [asz]; decide)).trans (hp 9 (pre_mem (by kernel_rfl)))
                have e29 : (fr [28, 29, 30, 31, 32, 33, 34, 35, 36, 37, 38] A t).eval (.tmp 29) = .int .i64 (k : Int) := (fr_eval _ _ _ 29 rfl (by rw [asz]; decide)).trans (hp 1 (pre_mem (by kernel_rfl)))
                refine op_run (v := .pointer (some ⟨w.heap.size + 1, 1 + k, none⟩)) (w' := wx) rfl rfl ?_ ?_
                · clear hp hd; have ec : ∀ v, (fr [28, 29, 30, 31, 32, 33, 34, 35, 36, 37, 38] A t).eval (.const v) = v := fun _ => rfl; generalize (fr [28, 29, 30, 31, 32, 33, 34, 35, 36, 37, 38] A t).eval = ev at ec e37 e29 ⊢; go_simp
                · exact ⟨_, 0, rfl, hB, Below.refl _ _, rfl, .inl rfl⟩
            · intro t ρ wx hB hF hne
              have e38 : (fr [28, 29, 30, 31, 32, 33, 34, 35, 36, 37, 38] A t).eval (.tmp 38) = .pointer (some ⟨w.heap.size + 1, 1 + k, none⟩) := (fr_eval _ _ _ 38 rfl (by rw [asz]; decide)).trans (hF 10 (by decide))
              have e35 : (fr [28, 29, 30, 31, 32, 33, 34, 35, 36, 37, 38] A t).eval (.tmp 35) = .int .u32 y := (fr_eval _ _ _ 35 rfl (by rw [asz]; decide)).trans (hF 7 (by decide))
              clear hne
              have q0 : ∃ v, wx.cell? ⟨w.heap.size + 1, 1 + k, none⟩ = some v := ⟨_, (hW wx hB).word k hlt⟩
              obtain ⟨v0, q0⟩ := q0
              have f0 := (hW wx hB).froz (1 + k)
              have kW : Hid (Wnd wx (w.heap.size + 1) D.top (D.bits.take k ++ List.replicate (32 - k) 0)) := hW wx hB
              have kA : Hid (Blk wx w.heap.size 26 [.int .i64 D.top, .slice (some ⟨b, off, none⟩) 32 c]) := hBk wx hB
              refine op_wp rfl rfl ?_
              clear hF hW hBk hX
              generalize hE : (fr [28, 29, 30, 31, 32, 33, 34, 35, 36, 37, 38] A t).eval = ev at e38 e35
              unfold Oper.wp
              rw [hE]
              go_simp
              refine hMet _ _ (Met.intro (hRJ _ _ ⟨t 28, t 29, t 30, t 31, t 32, t 33, t 34, t 35, t 36, t 37, t 38, ⟨kW.out.setWord k _ HYb.out, kA.out.other (by show w.heap.size ≠ w.heap.size + 1; omega) _, (HBe.out.trans (hB.mono HBe.out.size)).setCell (by show w.heap.size ≤ w.heap.size + 1; omega) _⟩, ?_⟩))
              rw [← hA]; rfl
          case rest =>
            clear hy
            obtain ⟨hw, hka, hbe⟩ := hcut
            have HW2 : Hid (Wnd wc (w.heap.size + 1) D.top ((D.bits.take k ++ List.replicate (32 - k) 0).set k y)) := hw
            have HK2 : Hid (Blk wc w.heap.size 26 [.int .i64 D.top, .slice (some ⟨b, off, none⟩) 32 c]) := hka
            have HB2 : Hid (Below w.heap.size w wc) := hbe
            have c2 : wc.cell? ⟨w.heap.size + 1, 1 + k, none⟩ = some (.int .u32 y) := by
              rw [hw.word k hlt]
              simp [List.getD, mid_length D.bits k HL.out hk, hlt]
            have c3 := hka.cell 1 rfl
            have c4 : wc.cell? ⟨b, off + k, none⟩ = some (.int .i64 x) := by rw [hbe.cell hb0]; exact HX.out
            clear hw hka hbe HW HKA HBe
            have hwy : wrap64 y = y := by have := HYb.out; unfold wrap64; omega
            by_cases hin : 0 ≤ x ∧ x ≤ 4294967295
            · have hne : (y != x) = false := by rw [bne_eq_false_iff_eq]; have := HYE.out; omega
              have HKK : Hid (∀ i : Nat, i < k + 1 → 0 ≤ D.bits.getD i 0 ∧ D.bits.getD i 0 ≤ 4294967295) := by
                intro i hi
                by_cases hik : i = k
                · rw [hik, HXD.out]; exact hin
                · exact HK.out i (by omega)
              have HW3 : Hid (Wnd wc (w.heap.size + 1) D.top (D.bits.take (k + 1) ++ List.replicate (32 - (k + 1)) 0)) := by
                have := HW2.out
                rw [show y = D.bits.getD k 0 by rw [HXD.out]; have := HYE.out; omega, mid_set D.bits k HL.out hlt] at this
                exact this
              clear hin HW2
              go_wp2
              go_quiet (fail)
              go_wp2
              go_roundw
              case rel => exact ⟨k + 1, by omega, by go_num, HKK, HW3.out, HK2.out, below_drewN HB2.out _⟩
              case measure => simp [intOf]; omega
            · have hne : (y != x) = true := by rw [bne_iff_ne]; have := HYE.out; omega
              have HN : Hid (winOk D.top D.bits = false) := winOk_false fun hok => hin (by have := hok.words.at k; rwa [HXD.out] at this)
              clear hin HW2
              go_wp2
              go_quiet (fail)
              go_wp2
              go_ret2
              exact read_no HN.out (below_drewN HB2.out _)
        · obtain rfl : k = 32 := by omega
          have HWd : Hid (Words D.bits) := words_take HK.out HL.out.symm
          have HW2 : Hid (Wnd wr (w.heap.size + 1) D.top D.bits) := by
            have := HW.out
            rw [mid_end D.bits HL.out] at this
            exact this
          have HOR : Hid (winRight D.top D.bits = winOk D.top D.bits) := ok_right HL.out HLo.out.1 HLo.out.2 HWd.out
          clear HW HK
          go_wp2_with fail
          refine (right (w.heap.size + 1) D.top D.bits wr HW2.out HLo.out.1 HLo.out.2).mono ?_
          rw [HOR.out]
          rintro e w3 ⟨rfl, b3⟩
          have B3 : Hid (Below w.heap.size w w3) := HBe.out.trans (b3.mono HBe.out.size)
          have W3 : Hid (Wnd w3 (w.heap.size + 1) D.top D.bits) := HW2.out.later b3
          clear b3
          cases hok : winOk D.top D.bits with
          | false =>
            have HN : Hid (winOk D.top D.bits = false) := hok
            clear hok
            go_wp2
            go_ret2
            exact read_no HN.out B3.out
          | true =>
            have HN : Hid (winOk D.top D.bits = true) := hok
            clear hok
            go_wp2
            go_ret2
            exact read_yes HN.out (Nat.le_succ _) W3.out B3.out
    · have hb1 : (D.top != -1) = true := by simpa using h1
      go_enter Try.func48, Try.ntmps48
      go_upto_region 1 with fail
      rw [HW0.out]
      go_wp2_with fail
      refine (isSeq D.top x0).mono ?_
      by_cases h2 : 0 ≤ D.top ∧ D.top ≤ 281474976710655
      · rw [decide_eq_true h2]
        have HLo : Hid (-1 ≤ D.top ∧ D.top ≤ 281474976710655) := by show _ ∧ _; omega
        rintro e x1 ⟨rfl, rfl⟩
        clear h1 h2
        go_upto_region 3 with fail
        have HB0 : Hid (b < w.heap.size) := hb
        clear c0 c1 hb
        try clear hb1
        have c0 := KA.out.cell 0 rfl
        obtain ⟨x1, hx1⟩ : ∃ x1, x0.alloc (.cells (.int .i64 D.top :: zeros.map (Value.int .u32)).toArray 101) = x1 := ⟨_, rfl⟩
        have HX1 : Hid (x0.alloc (.cells (.int .i64 D.top :: zeros.map (Value.int .u32)).toArray 101) = x1) := hx1
        have W1 : Hid (Wnd x1 (w.heap.size + 1) D.top zeros) := ⟨rfl, new_ok.words, by rw [← HSZ.out, ← hx1]; exact Blk.new x0 _ _⟩
        have B1 : Hid (Below w.heap.size w x1) := by rw [← hx1]; exact B0.out.alloc B0.out.size _
        have KA1 : Hid (Blk x1 w.heap.size 26 [.int .i64 D.top, .slice (some ⟨b, off, none⟩) 32 c]) := by rw [← hx1]; exact KA.out.alloc _
        clear hx1
        go_upto_region 4 with fail
        rw [show ∀ (t : Int), (#[.int .i64 t, .int .u32 0, .int .u32 0, .int .u32 0, .int .u32 0, .int .u32 0, .int .u32 0, .int .u32 0, .int .u32 0, .int .u32 0, .int .u32 0, .int .u32 0, .int .u32 0, .int .u32 0, .int .u32 0, .int .u32 0, .int .u32 0, .int .u32 0, .int .u32 0, .int .u32 0, .int .u32 0, .int .u32 0, .int .u32 0, .int .u32 0, .int .u32 0, .int .u32 0, .int .u32 0, .int .u32 0, .int .u32 0, .int .u32 0, .int .u32 0, .int .u32 0, .int .u32 0] : Array Value) = (.int .i64 t :: zeros.map (Value.int .u32)).toArray from fun _ => rfl, HX1.out, HSZ.out]
        clear c0 B0 KA HX1 HW0
        go_wp2
        go_loopw [25] (fun i wr => ∃ k : Nat, k ≤ 32 ∧ i = .int .i64 k ∧ Hid (∀ i : Nat, i < k → 0 ≤ D.bits.getD i 0 ∧ D.bits.getD i 0 ≤ 4294967295) ∧ Wnd wr (w.heap.size + 1) D.top (D.bits.take k ++ List.replicate (32 - k) 0) ∧ Blk wr w.heap.size 26 [.int .i64 D.top, .slice (some ⟨b, off, none⟩) 32 c] ∧ Below w.heap.size w wr) (fun i _ => 32 - (intOf i).toNat)
        case atStart => exact ⟨0, Nat.zero_le _, rfl, (fun i hi => absurd hi (Nat.not_lt_zero _)), W1.out, KA1.out, B1.out⟩
        case round =>
          obtain ⟨k, hk, rfl, HK, hw, hka, hbe⟩ := hrel
          have HW : Hid (Wnd wr (w.heap.size + 1) D.top (D.bits.take k ++ List.replicate (32 - k) 0)) := hw
          have HKA : Hid (Blk wr w.heap.size 26 [.int .i64 D.top, .slice (some ⟨b, off, none⟩) 32 c]) := hka
          have HBe : Hid (Below w.heap.size w wr) := hbe
          clear hw hka hbe W1 B1 KA1
          by_cases hlt : k < 32
          · have hltI : (k : Int) < 32 := by omega
            obtain ⟨x, hx⟩ : ∃ x, D.bits.getD k 0 = x := ⟨_, rfl⟩
            have HXD : Hid (D.bits.getD k 0 = x) := hx
            have HX : Hid (w.cell? ⟨b, off + k, none⟩ = some (.int .i64 x)) := by show _ = _; rw [HCE.out k hlt, hx]
            obtain ⟨y, hy⟩ : ∃ y, IntKind.u32.wrap x = y := ⟨_, rfl⟩
            have HYE : Hid (y = x % 4294967296) := by show _ = _; rw [← hy, wrap_u32]
            have HYb : Hid (0 ≤ y ∧ y ≤ 4294967295) := by have := HYE.out; show _ ∧ _; omega
            have hb0 : b < w.heap.size := HB0.out
            clear hx
            go_upto_region 7 with fail
            go_cut [38] from 28 to 37 (fun s38 wx => Wnd wx (w.heap.size + 1) D.top ((D.bits.take k ++ List.replicate (32 - k) 0).set k y) ∧ Blk wx w.heap.size 26 [.int .i64 D.top, .slice (some ⟨b, off, none⟩) 32 c] ∧ Below w.heap.size w wx)
            case first =>
              rename_i J K' hRJ hMet
              generalize hA : Act.mk _ _ = A
              have a1' : A.eval (.tmp 1) = .pointer (some ⟨w.heap.size, 0, none⟩) := by rw [← hA]; rfl
              have a4' : A.eval (.tmp 4) = .pointer (some ⟨w.heap.size + 1, 0, none⟩) := by rw [← hA]; rfl
              have a5' : A.eval (.tmp 5) = .int .i64 (k : Int) := by rw [← hA]; rfl
              have asz : A.tmps.size = 57 := by rw [← hA]; rfl
              have hW : ∀ wx, Below wr.heap.size wr wx → Wnd wx (w.heap.size + 1) D.top (D.bits.take k ++ List.replicate (32 - k) 0) := fun wx hb => HW.out.later hb
              have hBk : ∀ wx, Below wr.heap.size wr wx → Blk wx w.heap.size 26 [.int .i64 D.top, .slice (some ⟨b, off, none⟩) 32 c] := fun wx hb => HKA.out.later hb
              have hX : ∀ wx, Below wr.heap.size wr wx → wx.cell? ⟨b, off + k, none⟩ = some (.int .i64 x) := fun wx hb => by rw [(HBe.out.trans (hb.mono HBe.out.size)).cell hb0]; exact HX.out
              refine region_each (by kernel_rfl) [28, 29, 30, 31, 32, 33, 34, 35, 36, 37, 38] 11 (fun i => [28, 29, 30, 31, 32, 33, 34, 35, 36, 37, 38].getD i 0) (fun _ => 0)
                (fun i gB v wx => match i with
                  | 0 => v = .pointer (some ⟨w.heap.size + 1, 0, none⟩)
                  | 1 => v = .int .i64 (k : Int)
                  | 2 => v = .pointer (some ⟨w.heap.size, 1, none⟩)
                  | 3 => v = .slice (some ⟨b, off, none⟩) 32 c
                  | 4 => v = .int .i64 (k : Int)
                  | 5 => v = .pointer (some ⟨b, off + k, none⟩)
                  | 6 => v = .int .i64 x
                  | 7 => v = .int .u32 y
                  | 8 => v = .pointer (some ⟨w.heap.size + 1, 0, none⟩)
                  | 9 => v = .pointer (some ⟨w.heap.size + 1, 1, none⟩)
                  | 10 => v = .pointer (some ⟨w.heap.size + 1, 1 + k, none⟩)
                  | _ => False) (fun wx => Below wr.heap.size wr wx) (by kernel_rfl) (Below.refl _ _).drew ?_ ?_ ?_
              · intro i gB v wx wy hi hF hb _
                match i, hi with
                | 0, _ => exact hF
                | 1, _ => exact hF
                | 2, _ => exact hF
                | 3, _ => exact hF
                | 4, _ => exact hF
                | 5, _ => exact hF
                | 6, _ => exact hF
                | 7, _ => exact hF
                | 8, _ => exact hF
                | 9, _ => exact hF
                | 10, _ => exact hF
              · intro i hi t ρ wx hB hp hd
                match i, hi with
                | 0, _ =>
                  have e4 : (fr [28, 29, 30, 31, 32, 33, 34, 35, 36, 37, 38] A t).eval (.tmp 4) = .pointer (some ⟨w.heap.size + 1, 0, none⟩) := (fr_eval_old _ _ _ 4 rfl).trans a4'
                  refine op_run (v := .pointer (some ⟨w.heap.size + 1, 0, none⟩)) (w' := wx) rfl rfl ?_ ?_
                  · clear hp hd; have ec : ∀ v, (fr [28, 29, 30, 31, 32, 33, 34, 35, 36, 37, 38] A t).eval (.const v) = v := fun _ => rfl; generalize (fr [28, 29, 30, 31, 32, 33, 34, 35, 36, 37, 38] A t).eval = ev at ec e4 ⊢; go_simp
                  · exact ⟨_, 0, rfl, hB, Below.refl _ _, rfl, .inl rfl⟩
                | 1, _ =>
                  have e5 : (fr [28, 29, 30, 31, 32, 33, 34, 35, 36, 37, 38] A t).eval (.tmp 5) = .int .i64 (k : Int) := (fr_eval_old _ _ _ 5 rfl).trans a5'
                  refine op_run (v := .int .i64 (k : Int)) (w' := wx) rfl rfl ?_ ?_
                  · clear hp hd; have ec : ∀ v, (fr [28, 29, 30, 31, 32, 33, 34, 35, 36, 37, 38] A t).eval (.const v) = v := fun _ => rfl; generalize (fr [28, 29, 30, 31, 32, 33, 34, 35, 36, 37, 38] A t).eval = ev at ec e5 ⊢; go_simp
                  · exact ⟨_, 0, rfl, hB, Below.refl _ _, rfl, .inl rfl⟩
                | 2, _ =>
                  have e1 : (fr [28, 29, 30, 31, 32, 33, 34, 35, 36, 37, 38] A t).eval (.tmp 1) = .pointer (some ⟨w.heap.size, 0, none⟩) := (fr_eval_old _ _ _ 1 rfl).trans a1'
                  refine op_run (v := .pointer (some ⟨w.heap.size, 1, none⟩)) (w' := wx) rfl rfl ?_ ?_
                  · clear hp hd; have ec : ∀ v, (fr [28, 29, 30, 31, 32, 33, 34, 35, 36, 37, 38] A t).eval (.const v) = v := fun _ => rfl; generalize (fr [28, 29, 30, 31, 32, 33, 34, 35, 36, 37, 38] A t).eval = ev at ec e1 ⊢; go_simp
                  · exact ⟨_, 0, rfl, hB, Below.refl _ _, rfl, .inl rfl⟩
                | 3, _ =>
                  have e30 : (fr [28, 29, 30, 31, 32, 33, 34, 35, 36, 37, 38] A t).eval (.tmp 30) = .pointer (some ⟨w.heap.size, 1, none⟩) := (fr_eval _ _ _ 30 rfl (by rw [asz]; decide)).trans (hp 2 (pre_mem (by kernel_rfl)))
                  have hc := (hBk wx hB).cell 1 rfl
                  refine op_run (v := .slice (some ⟨b, off, none⟩) 32 c) (w' := wx) rfl rfl ?_ ?_
                  · clear hp hd; have ec : ∀ v, (fr [28, 29, 30, 31, 32, 33, 34, 35, 36, 37, 38] A t).eval (.const v) = v := fun _ => rfl; generalize (fr [28, 29, 30, 31, 32, 33, 34, 35, 36, 37, 38] A t).eval = ev at ec e30 ⊢; go_simp
                  · exact ⟨_, 0, rfl, hB, Below.refl _ _, rfl, .inl rfl⟩
                | 4, _ =>
                  have e5 : (fr [28, 29, 30, 31, 32, 33, 34, 35, 36, 37, 38] A t).eval (.tmp 5) = .int .i64 (k : Int) := (fr_eval_old _ _ _ 5 rfl).trans a5'
                  refine op_run (v := .int .i64 (k : Int)) (w' := wx) rfl rfl ?_ ?_
                  · clear hp hd; have ec : ∀ v, (fr [28, 29, 30, 31, 32, 33, 34, 35, 36, 37, 38] A t).eval (.const v) = v := fun _ => rfl; generalize (fr [28, 29, 30, 31, 32, 33, 34, 35, 36, 37, 38] A t).eval = ev at ec e5 ⊢; go_simp
                  · exact ⟨_, 0, rfl, hB, Below.refl _ _, rfl, .inl rfl⟩
                | 5, _ =>
                  have e31 : (fr [28, 29, 30, 31, 32, 33, 34, 35, 36, 37, 38] A t).eval (.tmp 31) = .slice (some ⟨b, off, none⟩) 32 c := (fr_eval _ _ _ 31 rfl (by rw [asz]; decide)).trans (hp 3 (pre_mem (by kernel_rfl)))
                  have e32 : (fr [28, 29, 30, 31, 32, 33, 34, 35, 36, 37, 38] A t).eval (.tmp 32) = .int .i64 (k : Int) := (fr_eval _ _ _ 32 rfl (by rw [asz]; decide)).trans (hp 4 (pre_mem (by kernel_rfl)))
                  refine op_run (v := .pointer (some ⟨b, off + k, none⟩)) (w' := wx) rfl rfl ?_ ?_
                  · clear hp hd; have ec : ∀ v, (fr [28, 29, 30, 31, 32, 33, 34, 35, 36, 37, 38] A t).eval (.const v) = v := fun _ => rfl; generalize (fr [28, 29, 30, 31, 32, 33, 34, 35, 36, 37, 38] A t).eval = ev at ec e31 e32 ⊢; go_simp
                  · exact ⟨_, 0, rfl, hB, Below.refl _ _, rfl, .inl rfl⟩
                | 6, _ =>
                  have e33 : (fr [28, 29, 30, 31, 32, 33, 34, 35, 36, 37, 38] A t).eval (.tmp 33) = .pointer (some ⟨b, off + k, none⟩) := (fr_eval _ _ _ 33 rfl (by rw [asz]; decide)).trans (hp 5 (pre_mem (by kernel_rfl)))
                  have hc := hX wx hB
                  refine op_run (v := .int .i64 x) (w' := wx) rfl rfl ?_ ?_
                  · clear hp hd; have ec : ∀ v, (fr [28, 29, 30, 31, 32, 33, 34, 35, 36, 37, 38] A t).eval (.const v) = v := fun _ => rfl; generalize (fr [28, 29, 30, 31, 32, 33, 34, 35, 36, 37, 38] A t).eval = ev at ec e33 ⊢; go_simp
                  · exact ⟨_, 0, rfl, hB, Below.refl _ _, rfl, .inl rfl⟩
                | 7, _ =>
                  have e34 : (fr [28, 29, 30, 31, 32, 33, 34, 35, 36, 37, 38] A t).eval (.tmp 34) = .int .i64 x := (fr_eval _ _ _ 34 rfl (by rw [asz]; decide)).trans (hp 6 (pre_mem (by kernel_rfl)))
                  refine op_run (v := .int .u32 y) (w' := wx) rfl rfl ?_ ?_
                  · clear hp hd; have ec : ∀ v, (fr [28, 29, 30, 31, 32, 33, 34, 35, 36, 37, 38] A t).eval (.const v) = v := fun _ => rfl; generalize (fr [28, 29, 30, 31, 32, 33, 34, 35, 36, 37, 38] A t).eval = ev at ec e34 ⊢; go_simp
                  · exact ⟨_, 0, rfl, hB, Below.refl _ _, rfl, .inl rfl⟩
                | 8, _ =>
                  have e28 : (fr [28, 29, 30, 31, 32, 33, 34, 35, 36, 37, 38] A t).eval (.tmp 28) = .pointer (some ⟨w.heap.size + 1, 0, none⟩) := (fr_eval _ _ _ 28 rfl (by rw [asz]; decide)).trans (hp 0 (pre_mem (by kernel_rfl)))
                  refine op_run (v := .pointer (some ⟨w.heap.size + 1, 0, none⟩)) (w' := wx) rfl rfl ?_ ?_
                  · clear hp hd; have ec : ∀ v, (fr [28, 29, 30, 31, 32, 33, 34, 35, 36, 37, 38] A t).eval (.const v) = v := fun _ => rfl; generalize (fr [28, 29, 30, 31, 32, 33, 34, 35, 36, 37, 38] A t).eval = ev at ec e28 ⊢; go_simp
                  · exact ⟨_, 0, rfl, hB, Below.refl _ _, rfl, .inl rfl⟩
                | 9, _ =>
                  have e36 : (fr [28, 29, 30, 31, 32, 33, 34, 35, 36, 37, 38] A t).eval (.tmp 36) = .pointer (some ⟨w.heap.size + 1, 0, none⟩) := (fr_eval _ _ _ 36 rfl (by rw [asz]; decide)).trans (hp 8 (pre_mem (by kernel_rfl)))
                  refine op_run (v := .pointer (some ⟨w.heap.size + 1, 1, none⟩)) (w' := wx) rfl rfl ?_ ?_
                  · clear hp hd; have ec : ∀ v, (fr [28, 29, 30, 31, 32, 33, 34, 35, 36, 37, 38] A t).eval (.const v) = v := fun _ => rfl; generalize (fr [28, 29, 30, 31, 32, 33, 34, 35, 36, 37, 38] A t).eval = ev at ec e36 ⊢; go_simp
                  · exact ⟨_, 0, rfl, hB, Below.refl _ _, rfl, .inl rfl⟩
                | 10, _ =>
                  have e37 : (fr [28, 29, 30, 31, 32, 33, 34, 35, 36, 37, 38] A t).eval (.tmp 37) = .pointer (some ⟨w.heap.size + 1, 1, none⟩) := (fr_eval _ _ _ 37 rfl (by rw [asz]; decide)).trans (hp 9 (pre_mem (by kernel_rfl)))
                  have e29 : (fr [28, 29, 30, 31, 32, 33, 34, 35, 36, 37, 38] A t).eval (.tmp 29) = .int .i64 (k : Int) := (fr_eval _ _ _ 29 rfl (by rw [asz]; decide)).trans (hp 1 (pre_mem (by kernel_rfl)))
                  refine op_run (v := .pointer (some ⟨w.heap.size + 1, 1 + k, none⟩)) (w' := wx) rfl rfl ?_ ?_
                  · clear hp hd; have ec : ∀ v, (fr [28, 29, 30, 31, 32, 33, 34, 35, 36, 37, 38] A t).eval (.const v) = v := fun _ => rfl; generalize (fr [28, 29, 30, 31, 32, 33, 34, 35, 36, 37, 38] A t).eval = ev at ec e37 e29 ⊢; go_simp
                  · exact ⟨_, 0, rfl, hB, Below.refl _ _, rfl, .inl rfl⟩
              · intro t ρ wx hB hF hne
                have e38 : (fr [28, 29, 30, 31, 32, 33, 34, 35, 36, 37, 38] A t).eval (.tmp 38) = .pointer (some ⟨w.heap.size + 1, 1 + k, none⟩) := (fr_eval _ _ _ 38 rfl (by rw [asz]; decide)).trans (hF 10 (by decide))
                have e35 : (fr [28, 29, 30, 31, 32, 33, 34, 35, 36, 37, 38] A t).eval (.tmp 35) = .int .u32 y := (fr_eval _ _ _ 35 rfl (by rw [asz]; decide)).trans (hF 7 (by decide))
                clear hne
                have q0 : ∃ v, wx.cell? ⟨w.heap.size + 1, 1 + k, none⟩ = some v := ⟨_, (hW wx hB).word k hlt⟩
                obtain ⟨v0, q0⟩ := q0
                have f0 := (hW wx hB).froz (1 + k)
                have kW : Hid (Wnd wx (w.heap.size + 1) D.top (D.bits.take k ++ List.replicate (32 - k) 0)) := hW wx hB
                have kA : Hid (Blk wx w.heap.size 26 [.int .i64 D.top, .slice (some ⟨b, off, none⟩) 32 c]) := hBk wx hB
                refine op_wp rfl rfl ?_
                clear hF hW hBk hX
                generalize hE : (fr [28, 29, 30, 31, 32, 33, 34, 35, 36, 37, 38] A t).eval = ev at e38 e35
                unfold Oper.wp
                rw [hE]
                go_simp
                refine hMet _ _ (Met.intro (hRJ _ _ ⟨t 28, t 29, t 30, t 31, t 32, t 33, t 34, t 35, t 36, t 37, t 38, ⟨kW.out.setWord k _ HYb.out, kA.out.other (by show w.heap.size ≠ w.heap.size + 1; omega) _, (HBe.out.trans (hB.mono HBe.out.size)).setCell (by show w.heap.size ≤ w.heap.size + 1; omega) _⟩, ?_⟩))
                rw [← hA]; rfl
            case rest =>
              clear hy
              obtain ⟨hw, hka, hbe⟩ := hcut
              have HW2 : Hid (Wnd wc (w.heap.size + 1) D.top ((D.bits.take k ++ List.replicate (32 - k) 0).set k y)) := hw
              have HK2 : Hid (Blk wc w.heap.size 26 [.int .i64 D.top, .slice (some ⟨b, off, none⟩) 32 c]) := hka
              have HB2 : Hid (Below w.heap.size w wc) := hbe
              have c2 : wc.cell? ⟨w.heap.size + 1, 1 + k, none⟩ = some (.int .u32 y) := by
                rw [hw.word k hlt]
                simp [List.getD, mid_length D.bits k HL.out hk, hlt]
              have c3 := hka.cell 1 rfl
              have c4 : wc.cell? ⟨b, off + k, none⟩ = some (.int .i64 x) := by rw [hbe.cell hb0]; exact HX.out
              clear hw hka hbe HW HKA HBe
              have hwy : wrap64 y = y := by have := HYb.out; unfold wrap64; omega
              by_cases hin : 0 ≤ x ∧ x ≤ 4294967295
              · have hne : (y != x) = false := by rw [bne_eq_false_iff_eq]; have := HYE.out; omega
                have HKK : Hid (∀ i : Nat, i < k + 1 → 0 ≤ D.bits.getD i 0 ∧ D.bits.getD i 0 ≤ 4294967295) := by
                  intro i hi
                  by_cases hik : i = k
                  · rw [hik, HXD.out]; exact hin
                  · exact HK.out i (by omega)
                have HW3 : Hid (Wnd wc (w.heap.size + 1) D.top (D.bits.take (k + 1) ++ List.replicate (32 - (k + 1)) 0)) := by
                  have := HW2.out
                  rw [show y = D.bits.getD k 0 by rw [HXD.out]; have := HYE.out; omega, mid_set D.bits k HL.out hlt] at this
                  exact this
                clear hin HW2
                go_wp2
                go_quiet (fail)
                go_wp2
                go_roundw
                case rel => exact ⟨k + 1, by omega, by go_num, HKK, HW3.out, HK2.out, below_drewN HB2.out _⟩
                case measure => simp [intOf]; omega
              · have hne : (y != x) = true := by rw [bne_iff_ne]; have := HYE.out; omega
                have HN : Hid (winOk D.top D.bits = false) := winOk_false fun hok => hin (by have := hok.words.at k; rwa [HXD.out] at this)
                clear hin HW2
                go_wp2
                go_quiet (fail)
                go_wp2
                go_ret2
                exact read_no HN.out (below_drewN HB2.out _)
          · obtain rfl : k = 32 := by omega
            have HWd : Hid (Words D.bits) := words_take HK.out HL.out.symm
            have HW2 : Hid (Wnd wr (w.heap.size + 1) D.top D.bits) := by
              have := HW.out
              rw [mid_end D.bits HL.out] at this
              exact this
            have HOR : Hid (winRight D.top D.bits = winOk D.top D.bits) := ok_right HL.out HLo.out.1 HLo.out.2 HWd.out
            clear HW HK
            go_wp2_with fail
            refine (right (w.heap.size + 1) D.top D.bits wr HW2.out HLo.out.1 HLo.out.2).mono ?_
            rw [HOR.out]
            rintro e w3 ⟨rfl, b3⟩
            have B3 : Hid (Below w.heap.size w w3) := HBe.out.trans (b3.mono HBe.out.size)
            have W3 : Hid (Wnd w3 (w.heap.size + 1) D.top D.bits) := HW2.out.later b3
            clear b3
            cases hok : winOk D.top D.bits with
            | false =>
              have HN : Hid (winOk D.top D.bits = false) := hok
              clear hok
              go_wp2
              go_ret2
              exact read_no HN.out B3.out
            | true =>
              have HN : Hid (winOk D.top D.bits = true) := hok
              clear hok
              go_wp2
              go_ret2
              exact read_yes HN.out (Nat.le_succ _) W3.out B3.out
      · rw [decide_eq_false h2]
        have HN : Hid (winOk D.top D.bits = false) := winOk_false fun hok => h2 (by have := hok.lo; have := hok.hi; omega)
        rintro e x1 ⟨rfl, rfl⟩
        clear h1 h2
        go_wp2
        go_ret2
        exact read_no HN.out B0.out
  · have HN : Hid (winOk D.top D.bits = false) := winOk_false fun hok => hl hok.len
    have hnI : ((S.bits.n : Int) != 32) = true := by
      have : ¬ (S.bits.n : Int) = 32 := by omega
      simpa using this
    clear hl hlen
    by_cases h1 : D.top = -1
    · have hb1 : (D.top != -1) = false := by rw [h1]; rfl
      clear h1
      go_enter Try.func48, Try.ntmps48
      go_upto_region 1 with fail
      rw [HW0.out]
      go_wp2
      go_ret2
      exact read_no HN.out B0.out
    · have hb1 : (D.top != -1) = true := by simpa using h1
      go_enter Try.func48, Try.ntmps48
      go_upto_region 1 with fail
      rw [HW0.out]
      go_wp2_with fail
      refine (isSeq D.top x0).mono ?_
      generalize decide (0 ≤ D.top ∧ D.top ≤ 281474976710655) = u
      rintro e x1 ⟨rfl, rfl⟩
      clear h1
      cases u with
      | false =>
        go_wp2
        go_ret2
        exact read_no HN.out B0.out
      | true =>
        go_wp2
        go_ret2
        exact read_no HN.out B0.out
end Go.Proofs.Ytmcflfpckpjphaa.WnM
