/-
  impl.windowOf: the window that a Win tells, if it is right.
  What impl's WinNew, WinOk, WinHas, WinMay, WinAdd, WinList and WinOf answer at every window, number and list.
-/
import Derived.Test.YtmcflfpckpjphaaWb3
set_option linter.unusedVariables false
namespace Go.Proofs.Ytmcflfpckpjphaa.WnM
open Go.RowKit Go.Proofs.Ytmcflfpckpjphaa.Mem Go.Proofs.Ytmcflfpckpjphaa.MemI Go.Proofs.Ytmcflfpckpjphaa.Blk Go.Proofs.Ytmcflfpckpjphaa.Zone Go.Proofs.Ytmcflfpckpjphaa.ZoneI Go.Proofs.Ytmcflfpckpjphaa.WnZ Go.Proofs.Ytmcflfpckpjphaa.Res Go.Proofs.Ytmcflfpckpjphaa.Each Go.Proofs.Ytmcflfpckpjphaa.Copy Go.Proofs.Ytmcflfpckpjphaa.Ops Go.Proofs.Ytmcflfpckpjphaa.WinP Go.Proofs.Ytmcflfpckpjphaa.WinB Go.Proofs.Ytmcflfpckpjphaa.Bits Go.Proofs.Ytmcflfpckpjphaa.WnI Go.Proofs.Ytmcflfpckpjphaa.WnJ Go.Proofs.Ytmcflfpckpjphaa.WnL Go.Proofs.Ytmcflfpckpjphaa.WnS

/-- What windowOf answers. -/
def Read1 (D : WnD) (w : World) (e : Ending) (w' : World) : Prop :=
  ((winOk D.top D.bits = true ∧ ∃ g, e = .returned (.tuple #[.pointer (some ⟨g, 0, none⟩), .bool true]) ∧ w.heap.size ≤ g ∧ Wnd w' g D.top D.bits) ∨ (winOk D.top D.bits = false ∧ e = .returned (.tuple #[.pointer none, .bool false]))) ∧ Below w.heap.size w w'
set_option maxRecDepth 100000 in
theorem read_no {D : WnD} {w w' : World} (h : winOk D.top D.bits = false) (b : Below w.heap.size w w') : Read1 D w (.returned (.tuple #[.pointer none, .bool false])) w' := ⟨.inr ⟨h, rfl⟩, b⟩
set_option maxRecDepth 100000 in
theorem read_yes {D : WnD} {w w' : World} {g : Nat} (h : winOk D.top D.bits = true) (hg : w.heap.size ≤ g) (k : Wnd w' g D.top D.bits) (b : Below w.heap.size w w') : Read1 D w (.returned (.tuple #[.pointer (some ⟨g, 0, none⟩), .bool true])) w' := ⟨.inl ⟨h, g, rfl, hg, k⟩, b⟩
set_option maxRecDepth 100000 in
theorem mid_words {l : List Int} {k : Nat} (h : ∀ i : Nat, i < k → 0 ≤ l.getD i 0 ∧ l.getD i 0 ≤ 4294967295) (hk : k ≤ l.length) : Words (l.take k ++ List.replicate (32 - k) 0) := by
  intro z hz
  rcases List.mem_append.1 hz with hz | hz
  · obtain ⟨i, hi, rfl⟩ := List.getElem_of_mem hz
    simp only [List.length_take] at hi
    have := h i (by omega)
    rw [List.getElem_take]
    simpa [List.getD, show i < l.length by omega] using this
  · have := List.eq_of_mem_replicate hz
    omega

set_option maxRecDepth 100000 in
set_option maxHeartbeats 8000000 in
theorem windowOf (S : WnS) (D : WnD) (w : World) (h : WnRd w S D) : Calls Try.prog 48 #[wnV D S] w (Read1 D w) := by
  have HR : Hid (WnRd w S D) := h
  obtain ⟨x0, hx0, k0, b0, hs0⟩ := boxed w D S
  have HW0 : Hid (_ = x0) := hx0
  have HSZ : Hid (x0.heap.size = w.heap.size + 1) := hs0
  have B0 : Hid (Below w.heap.size w x0) := b0
  have KA : Hid (Blk x0 w.heap.size 26 [.int .i64 D.top, .slice S.bits.a S.bits.n S.bits.c]) := k0
  clear h hx0 k0 b0 hs0
  have hlen := HR.out.bits.len
  have c0 := KA.out.cell 0 rfl
  have c1 := KA.out.cell 1 rfl
  unfold wnV
  by_cases hl : D.bits.length = 32
  · obtain ⟨b, off, c, rfl, hb, hce⟩ : ∃ b off c, S = ⟨⟨some ⟨b, off, none⟩, 32, c⟩⟩ ∧ b < w.heap.size ∧ ∀ i : Nat, i < 32 → w.cell? ⟨b, off + i, none⟩ = some (.int .i64 (D.bits.getD i 0)) := by
      obtain ⟨b, off, c, h1, h2, h3⟩ := based HR.out.bits hl
      exact ⟨b, off, c, by cases S; simp only at h1; rw [h1], h2, h3⟩
    have HCE : Hid (∀ i : Nat, i < 32 → w.cell? ⟨b, off + i, none⟩ = some (.int .i64 (D.bits.getD i 0))) := hce
    have HL : Hid (D.bits.length = 32) := hl
    clear hl hlen hce
    simp only at KA HW0 c0 c1 ⊢
    by_cases h1 : D.top = -1
    · have HLo : Hid (-1 ≤ D.top ∧ D.top ≤ 281474976710655) := by show _ ∧ _; omega
      have hb1 : (D.top != -1) = false := by rw [h1]; rfl
      clear h1
      go_enter Try.func48, Try.ntmps48
      go_upto_region 1 with fail
      rw [HW0.out]
      go_upto_region 3 with fail
      have HB0 : Hid (b < w.heap.size) := hb
      clear c0 c1 hb
      try clear hb1
      have c0 := KA.out.cell 0 rfl
      obtain ⟨x1, hx1⟩ : ∃ x1, x0.alloc (.cells (.int .i64 D.top :: zeros.map (Value.int .u32)).toArray 101) = x1 := ⟨_, rfl⟩
      have HX1 : Hid (x0.alloc (.cells (.int .i64 D.top :: zeros.map (Value.int .u32)).toArray 101) = x1) := hx1
      have W1 : Hid (Wnd x1 (w.heap.size + 1) D.top zeros) := ⟨rfl, new_ok.words, by rw [← HSZ.out, ← hx1]; exact Blk.new x0 _ _⟩
      have B1 : Hid (Below w.heap.size w x1) := by rw [← hx1]; exact B0.out.alloc B0.out.size _
      have KA1 : Hid (Blk x1 w.heap.size 26 [.int .i64 D.top, .slice (some ⟨b, off, none⟩) 32 c]) := by rw [← hx1]; exact KA.out.alloc _
      clear hx1
      go_upto_region 4 with fail
      rw [show ∀ (t : Int), (#[.int .i64 t, .int .u32 0, .int .u32 0, .int .u32 0, .int .u32 0, .int .u32 0, .int .u32 0, .int .u32 0, .int .u32 0, .int .u32 0, .int .u32 0, .int .u32 0, .int .u32 0, .int .u32 0, .int .u32 0, .int .u32 0, .int .u32 0, .int .u32 0, .int .u32 0, .int .u32 0, .int .u32 0, .int .u32 0, .int .u32 0, .int .u32 0, .int .u32 0, .int .u32 0, .int .u32 0, .int .u32 0, .int .u32 0, .int .u32 0, .int .u32 0, .int .u32 0, .int .u32 0] : Array Value) = (.int .i64 t :: zeros.map (Value.int .u32)).toArray from fun _ => rfl, HX1.out, HSZ.out]
      clear c0 B0 KA HX1 HW0
      go_wp2
      go_loopw [25] (fun i wr => ∃ k : Nat, k ≤ 32 ∧ i = .int .i64 k ∧ Hid (∀ i : Nat, i < k → 0 ≤ D.bits.getD i 0 ∧ D.bits.getD i 0 ≤ 4294967295) ∧ Wnd wr (w.heap.size + 1) D.top (D.bits.take k ++ List.replicate (32 - k) 0) ∧ Blk wr w.heap.size 26 [.int .i64 D.top, .slice (some ⟨b, off, none⟩) 32 c] ∧ Below w.heap.size w wr) (fun i _ => 32 - (intOf i).toNat)
      case atStart => exact ⟨0, Nat.zero_le _, rfl, (fun i hi => absurd hi (Nat.not_lt_zero _)), W1.out, KA1.out, B1.out⟩
      case round =>
        obtain ⟨k, hk, rfl, HK, hw, hka, hbe⟩ := hrel
        have HW : Hid (Wnd wr (w.heap.size + 1) D.top (D.bits.take k ++ List.replicate (32 - k) 0)) := hw
        have HKA : Hid (Blk wr w.heap.size 26 [.int .i64 D.top, .slice (some ⟨b, off, none⟩) 32 c]) := hka
        have HBe : Hid (Below w.heap.size w wr) := hbe
        clear hw hka hbe W1 B1 KA1
        by_cases hlt : k < 32
        · have hltI : (k : Int) < 32 := by omega
          obtain ⟨x, hx⟩ : ∃ x, D.bits.getD k 0 = x := ⟨_, rfl⟩
          have HXD : Hid (D.bits.getD k 0 = x) := hx
          have HX : Hid (w.cell? ⟨b, off + k, none⟩ = some (.int .i64 x)) := by show _ = _; rw [HCE.out k hlt, hx]
          obtain ⟨y, hy⟩ : ∃ y, IntKind.u32.wrap x = y := ⟨_, rfl⟩
          have HYE : Hid (y = x % 4294967296) := by show _ = _; rw [← hy, wrap_u32]
          have HYb : Hid (0 ≤ y ∧ y ≤ 4294967295) := by have := HYE.out; show _ ∧ _; omega
          have hb0 : b < w.heap.size := HB0.out
          clear hx
          go_upto_region 7 with fail
          go_cut [38] from 28 to 37 (fun s38 wx => Wnd wx (w.heap.size + 1) D.top ((D.bits.take k ++ List.replicate (32 - k) 0).set k y) ∧ Blk wx w.heap.size 26 [.int .i64 D.top, .slice (some ⟨b, off, none⟩) 32 c] ∧ Below w.heap.size w wx)
          case first =>
            rename_i J K' hRJ hMet
            generalize hA : Act.mk _ _ = A
            have a1' : A.eval (.tmp 1) = .pointer (some ⟨w.heap.size, 0, none⟩) := by rw [← hA]; rfl
            have a4' : A.eval (.tmp 4) = .pointer (some ⟨w.heap.size + 1, 0, none⟩) := by rw [← hA]; rfl
            have a5' : A.eval (.tmp 5) = .int .i64 (k : Int) := by rw [← hA]; rfl
            have asz : A.tmps.size = 57 := by rw [← hA]; rfl
            have hW : ∀ wx, Below wr.heap.size wr wx → Wnd wx (w.heap.size + 1) D.top (D.bits.take k ++ List.replicate (32 - k) 0) := fun wx hb => HW.out.later hb
            have hBk : ∀ wx, Below wr.heap.size wr wx → Blk wx w.heap.size 26 [.int .i64 D.top, .slice (some ⟨b, off, none⟩) 32 c] := fun wx hb => HKA.out.later hb
            have hX : ∀ wx, Below wr.heap.size wr wx → wx.cell? ⟨b, off + k, none⟩ = some (.int .i64 x) := fun wx hb => by rw [(HBe.out.trans (hb.mono HBe.out.size)).cell hb0]; exact HX.out
            refine region_each (by kernel_rfl) [28, 29, 30, 31, 32, 33, 34, 35, 36, 37, 38] 11 (fun i => [28, 29, 30, 31, 32, 33, 34, 35, 36, 37, 38].getD i 0) (fun _ => 0)
              (fun i gB v wx => match i with
                | 0 => v = .pointer (some ⟨w.heap.size + 1, 0, none⟩)
                | 1 => v = .int .i64 (k : Int)
                | 2 => v = .pointer (some ⟨w.heap.size, 1, none⟩)
                | 3 => v = .slice (some ⟨b, off, none⟩) 32 c
                | 4 => v = .int .i64 (k : Int)
                | 5 => v = .pointer (some ⟨b, off + k, none⟩)
                | 6 => v = .int .i64 x
                | 7 => v = .int .u32 y
                | 8 => v = .pointer (some ⟨w.heap.size + 1, 0, none⟩)
                | 9 => v = .pointer (some ⟨w.heap.size + 1, 1, none⟩)
                | 10 => v = .pointer (some ⟨w.heap.size + 1, 1 + k, none⟩)
                | _ => False) (fun wx => Below wr.heap.size wr wx) (by kernel_rfl) (Below.refl _ _).drew ?_ ?_ ?_
            · intro i gB v wx wy hi hF hb _
              match i, hi with
              | 0, _ => exact hF
              | 1, _ => exact hF
              | 2, _ => exact hF
              | 3, _ => exact hF
              | 4, _ => exact hF
              | 5, _ => exact hF
              | 6, _ => exact hF
              | 7, _ => exact hF
              | 8, _ => exact hF
              | 9, _ => exact hF
              | 10, _ => exact hF
            · intro i hi t ρ wx hB hp hd
              match i, hi with
              | 0, _ =>
                have e4 : (fr [28, 29, 30, 31, 32, 33, 34, 35, 36, 37, 38] A t).eval (.tmp 4) = .pointer (some ⟨w.heap.size + 1, 0, none⟩) := (fr_eval_old _ _ _ 4 rfl).trans a4'
                refine op_run (v := .pointer (some ⟨w.heap.size + 1, 0, none⟩)) (w' := wx) rfl rfl ?_ ?_
                · clear hp hd; have ec : ∀ v, (fr [28, 29, 30, 31, 32, 33, 34, 35, 36, 37, 38] A t).eval (.const v) = v := fun _ => rfl; generalize (fr [28, 29, 30, 31, 32, 33, 34, 35, 36, 37, 38] A t).eval = ev at ec e4 ⊢; go_simp
                · exact ⟨_, 0, rfl, hB, Below.refl _ _, rfl, .inl rfl⟩
              | 1, _ =>
                have e5 : (fr [28, 29, 30, 31, 32, 33, 34, 35, 36, 37, 38] A t).eval (.tmp 5) = .int .i64 (k : Int) := (fr_eval_old _ _ _ 5 rfl).trans a5'
                refine op_run (v := .int .i64 (k : Int)) (w' := wx) rfl rfl ?_ ?_
                · clear hp hd; have ec : ∀ v, (fr [28, 29, 30, 31, 32, 33, 34, 35, 36, 37, 38] A t).eval (.const v) = v := fun _ => rfl; generalize (fr [28, 29, 30, 31, 32, 33, 34, 35, 36, 37, 38] A t).eval = ev at ec e5 ⊢; go_simp
                · exact ⟨_, 0, rfl, hB, Below.refl _ _, rfl, .inl rfl⟩
              | 2, _ =>
                have e1 : (fr [28, 29, 30, 31, 32, 33, 34, 35, 36, 37, 38] A t).eval (.tmp 1) = .pointer (some ⟨w.heap.size, 0, none⟩) := (fr_eval_old _ _ _ 1 rfl).trans a1'
                refine op_run (v := .pointer (some ⟨w.heap.size, 1, none⟩)) (w' := wx) rfl rfl ?_ ?_
                · clear hp hd; have ec : ∀ v, (fr [28, 29, 30, 31, 32, 33, 34, 35, 36, 37, 38] A t).eval (.const v) = v := fun _ => rfl; generalize (fr [28, 29, 30, 31, 32, 33, 34, 35, 36, 37, 38] A t).eval = ev at ec e1 ⊢; go_simp
                · exact ⟨_, 0, rfl, hB, Below.refl _ _, rfl, .inl rfl⟩
              | 3, _ =>
                have e30 : (fr [28, 29, 30, 31, 32, 33, 34, 35, 36, 37, 38] A t).eval (.tmp 30) = .pointer (some ⟨w.heap.size, 1, none⟩) := (fr_eval _ _ _ 30 rfl (by rw [asz]; decide)).trans (hp 2 (pre_mem (by kernel_rfl)))
                have hc := (hBk wx hB).cell 1 rfl
                refine op_run (v := .slice (some ⟨b, off, none⟩) 32 c) (w' := wx) rfl rfl ?_ ?_
                · clear hp hd; have ec : ∀ v, (fr [28, 29, 30, 31, 32, 33, 34, 35, 36, 37, 38] A t).eval (.const v) = v := fun _ => rfl; generalize (fr [28, 29, 30, 31, 32, 33, 34, 35, 36, 37, 38] A t).eval = ev at ec e30 ⊢; go_simp
                · exact ⟨_, 0, rfl, hB, Below.refl _ _, rfl, .inl rfl⟩
              | 4, _ =>
                have e5 : (fr [28, 29, 30, 31, 32, 33, 34, 35, 36, 37, 38] A t).eval (.tmp 5) = .int .i64 (k : Int) := (fr_eval_old _ _ _ 5 rfl).trans a5'
                refine op_run (v := .int .i64 (k : Int)) (w' := wx) rfl rfl ?_ ?_
                · clear hp hd; have ec : ∀ v, (fr [28, 29, 30, 31, 32, 33, 34, 35, 36, 37, 38] A t).eval (.const v) = v := fun _ => rfl; generalize (fr [28, 29, 30, 31, 32, 33, 34, 35, 36, 37, 38] A t).eval = ev at ec e5 ⊢; go_simp
                · exact ⟨_, 0, rfl, hB, Below.refl _ _, rfl, .inl rfl⟩
              | 5, _ =>
                have e31 : (fr [28, 29, 30, 31, 32, 33, 34, 35, 36, 37, 38] A t).eval (.tmp 31) = .slice (some ⟨b, off, none⟩) 32 c := (fr_eval _ _ _ 31 rfl (by rw [asz]; decide)).trans (hp 3 (pre_mem (by kernel_rfl)))
                have e32 : (fr [28, 29, 30, 31, 32, 33, 34, 35, 36, 37, 38] A t).eval (.tmp 32) = .int .i64 (k : Int) := (fr_eval _ _ _ 32 rfl (by rw [asz]; decide)).trans (hp 4 (pre_mem (by kernel_rfl)))
                refine op_run (v := .pointer (some ⟨b, off + k, none⟩)) (w' := wx) rfl rfl ?_ ?_
                · clear hp hd; have ec : ∀ v, (fr [28, 29, 30, 31, 32, 33, 34, 35, 36, 37, 38] A t).eval (.const v) = v := fun _ => rfl; generalize (fr [28, 29, 30, 31, 32, 33, 34, 35, 36, 37, 38] A t).eval = ev at ec e31 e32 ⊢; go_simp
                · exact ⟨_, 0, rfl, hB, Below.refl _ _, rfl, .inl rfl⟩
              | 6, _ =>
                have e33 : (fr [28, 29, 30, 31, 32, 33, 34, 35, 36, 37, 38] A t).eval (.tmp 33) = .pointer (some ⟨b, off + k, none⟩) := (fr_eval _ _ _ 33 rfl (by rw [asz]; decide)).trans (hp 5 (pre_mem (by kernel_rfl)))
                have hc := hX wx hB
                refine op_run (v := .int .i64 x) (w' := wx) rfl rfl ?_ ?_
                · clear hp hd; have ec : ∀ v, (fr [28, 29, 30, 31, 32, 33, 34, 35, 36, 37, 38] A t).eval (.const v) = v := fun _ => rfl; generalize (fr [28, 29, 30, 31, 32, 33, 34, 35, 36, 37, 38] A t).eval = ev at ec e33 ⊢; go_simp
                · exact ⟨_, 0, rfl, hB, Below.refl _ _, rfl, .inl rfl⟩
              | 7, _ =>
                have e34 : (fr [28, 29, 30, 31, 32, 33, 34, 35, 36, 37, 38] A t).eval (.tmp 34) = .int .i64 x := (fr_eval _ _ _ 34 rfl (by rw [asz]; decide)).trans (hp 6 (pre_mem (by kernel_rfl)))
                refine op_run (v := .int .u32 y) (w' := wx) rfl rfl ?_ ?_
                · clear hp hd; have ec : ∀ v, (fr [28, 29, 30, 31, 32, 33, 34, 35, 36, 37, 38] A t).eval (.const v) = v := fun _ => rfl; generalize (fr [28, 29, 30, 31, 32, 33, 34, 35, 36, 37, 38] A t).eval = ev at ec e34 ⊢; go_simp
                · exact ⟨_, 0, rfl, hB, Below.refl _ _, rfl, .inl rfl⟩
              | 8, _ =>
                have e28 : (fr [28, 29, 30, 31, 32, 33, 34, 35, 36, 37, 38] A t).eval (.tmp 28) = .pointer (some ⟨w.heap.size + 1, 0, none⟩) := (fr_eval _ _ _ 28 rfl (by rw [asz]; decide)).trans (hp 0 (pre_mem (by kernel_rfl)))
                refine op_run (v := .pointer (some ⟨w.heap.size + 1, 0, none⟩)) (w' := wx) rfl rfl ?_ ?_
                · clear hp hd; have ec : ∀ v, (fr [28, 29, 30, 31, 32, 33, 34, 35, 36, 37, 38] A t).eval (.const v) = v := fun _ => rfl; generalize (fr [28, 29, 30, 31, 32, 33, 34, 35, 36, 37, 38] A t).eval = ev at ec e28 ⊢; go_simp
                · exact ⟨_, 0, rfl, hB, Below.refl _ _, rfl, .inl rfl⟩
              | 9, _ =>
                have e36 : (fr [28, 29, 30, 31, 32, 33, 34, 35, 36, 37, 38] A t).eval (.tmp 36) = .pointer (some ⟨w.heap.size + 1, 0, none⟩) := (fr_eval _ _ _ 36 rfl (by rw [asz]; decide)).trans (hp 8 (pre_mem (by kernel_rfl)))
                refine op_run (v := .pointer (some ⟨w.heap.size + 1, 1, none⟩)) (w' := wx) rfl rfl ?_ ?_
                · clear hp hd; have ec : ∀ v, (fr [28, 29, 30, 31, 32, 33, 34, 35, 36, 37, 38] A t).eval (.const v) = v := fun _ => rfl; generalize (fr [28, 29, 30, 31, 32, 33, 34, 35, 36, 37, 38] A t).eval = ev at ec e36 ⊢; go_simp
                · exact ⟨_, 0, rfl, hB, Below.refl _ _, rfl, .inl rfl⟩
              | 10, _ =>
                have e37 : (fr [28, 29, 30, 31, 32, 33, 34, 35, 36, 37, 38] A t).eval (.tmp 37) = .pointer (some ⟨w.heap.size + 1, 1, none⟩) := (fr_eval _ _ _ 37 rfl (by rw [asz]; decide)).trans (hp 9 (pre_mem (by kernel_rfl)))
                have e29 : (fr [28, 29, 30, 31, 32, 33, 34, 35, 36, 37, 38] A t).eval (.tmp 29) = .int .i64 (k : Int) := (fr_eval _ _ _ 29 rfl (by rw [asz]; decide)).trans (hp 1 (pre_mem (by kernel_rfl)))
                refine op_run (v := .pointer (some ⟨w.heap.size + 1, 1 + k, none⟩)) (w' := wx) rfl rfl ?_ ?_
                · clear hp hd; have ec : ∀ v, (fr [28, 29, 30, 31, 32, 33, 34, 35, 36, 37, 38] A t).eval (.const v) = v := fun _ => rfl; generalize (fr [28, 29, 30, 31, 32, 33, 34, 35, 36, 37, 38] A t).eval = ev at ec e37 e29 ⊢; go_simp
                · exact ⟨_, 0, rfl, hB, Below.refl _ _, rfl, .inl rfl⟩
            · intro t ρ wx hB hF hne
              have e38 : (fr [28, 29, 30, 31, 32, 33, 34, 35, 36, 37, 38] A t).eval (.tmp 38) = .pointer (some ⟨w.heap.size + 1, 1 + k, none⟩) := (fr_eval _ _ _ 38 rfl (by rw [asz]; decide)).trans (hF 10 (by decide))
              have e35 : (fr [28, 29, 30, 31, 32, 33, 34, 35, 36, 37, 38] A t).eval (.tmp 35) = .int .u32 y := (fr_eval _ _ _ 35 rfl (by rw [asz]; decide)).trans (hF 7 (by decide))
              clear hne
              have q0 : ∃ v, wx.cell? ⟨w.heap.size + 1, 1 + k, none⟩ = some v := ⟨_, (hW wx hB).word k hlt⟩
              obtain ⟨v0, q0⟩ := q0
              have f0 := (hW wx hB).froz (1 + k)
              have kW : Hid (Wnd wx (w.heap.size + 1) D.top (D.bits.take k ++ List.replicate (32 - k) 0)) := hW wx hB
              have kA : Hid (Blk wx w.heap.size 26 [.int .i64 D.top, .slice (some ⟨b, off, none⟩) 32 c]) := hBk wx hB
              refine op_wp rfl rfl ?_
              clear hF hW hBk hX
              generalize hE : (fr [28, 29, 30, 31, 32, 33, 34, 35, 36, 37, 38] A t).eval = ev at e38 e35
              unfold Oper.wp
              rw [hE]
              go_simp
              refine hMet _ _ (Met.intro (hRJ _ _ ⟨t 28, t 29, t 30, t 31, t 32, t 33, t 34, t 35, t 36, t 37, t 38, ⟨kW.out.setWord k _ HYb.out, kA.out.other (by show w.heap.size ≠ w.heap.size + 1; omega) _, (HBe.out.trans (hB.mono HBe.out.size)).setCell (by show w.heap.size ≤ w.heap.size + 1; omega) _⟩, ?_⟩))
              rw [← hA]; rfl
          case rest =>
            clear hy
            obtain ⟨hw, hka, hbe⟩ := hcut
            have HW2 : Hid (Wnd wc (w.heap.size + 1) D.top ((D.bits.take k ++ List.replicate (32 - k) 0).set k y)) := hw
            have HK2 : Hid (Blk wc w.heap.size 26 [.int .i64 D.top, .slice (some ⟨b, off, none⟩) 32 c]) := hka
            have HB2 : Hid (Below w.heap.size w wc) := hbe
            have c2 : wc.cell? ⟨w.heap.size + 1, 1 + k, none⟩ = some (.int .u32 y) := by
              rw [hw.word k hlt]
              simp [List.getD, mid_length D.bits k HL.out hk, hlt]
            have c3 := hka.cell 1 rfl
            have c4 : wc.cell? ⟨b, off + k, none⟩ = some (.int .i64 x) := by rw [hbe.cell hb0]; exact HX.out
            clear hw hka hbe HW HKA HBe
            have hwy : wrap64 y = y := by have := HYb.out; unfold wrap64; omega
            by_cases hin : 0 ≤ x ∧ x ≤ 4294967295
            · have hne : (y != x) = false := by rw [bne_eq_false_iff_eq]; have := HYE.out; omega
              have HKK : Hid (∀ i : Nat, i < k + 1 → 0 ≤ D.bits.getD i 0 ∧ D.bits.getD i 0 ≤ 4294967295) := by
                intro i hi
                by_cases hik : i = k
                · rw [hik, HXD.out]; exact hin
                · exact HK.out i (by omega)
              have HW3 : Hid (Wnd wc (w.heap.size + 1) D.top (D.bits.take (k + 1) ++ List.replicate (32 - (k + 1)) 0)) := by
                have := HW2.out
                rw [show y = D.bits.getD k 0 by rw [HXD.out]; have := HYE.out; omega, mid_set D.bits k HL.out hlt] at this
                exact this
              clear hin HW2
              go_wp2
              go_quiet (fail)
              go_wp2
              go_roundw
              case rel => exact ⟨k + 1, by omega, by go_num, HKK, HW3.out, HK2.out, below_drewN HB2.out _⟩
              case measure => simp [intOf]; omega
            · have hne : (y != x) = true := by rw [bne_iff_ne]; have := HYE.out; omega
              have HN : Hid (winOk D.top D.bits = false) := winOk_false fun hok => hin (by have := hok.words.at k; rwa [HXD.out] at this)
              clear hin HW2
              go_wp2
              go_quiet (fail)
              go_wp2
              go_ret2
              exact read_no HN.out (below_drewN HB2.out _)
        · obtain rfl : k = 32 := by omega
          have HWd : Hid (Words D.bits) := words_take HK.out HL.out.symm
          have HW2 : Hid (Wnd wr (w.heap.size + 1) D.top D.bits) := by
            have := HW.out
            rw [mid_end D.bits HL.out] at this
            exact this
          have HOR : Hid (winRight D.top D.bits = winOk D.top D.bits) := ok_right HL.out HLo.out.1 HLo.out.2 HWd.out
          clear HW HK
          go_wp2_with fail
          refine (right (w.heap.size + 1) D.top D.bits wr HW2.out HLo.out.1 HLo.out.2).mono ?_
          rw [HOR.out]
          rintro e w3 ⟨rfl, b3⟩
          have B3 : Hid (Below w.heap.size w w3) := HBe.out.trans (b3.mono HBe.out.size)
          have W3 : Hid (Wnd w3 (w.heap.size + 1) D.top D.bits) := HW2.out.later b3
          clear b3
          cases hok : winOk D.top D.bits with
          | false =>
            have HN : Hid (winOk D.top D.bits = false) := hok
            clear hok
            go_wp2
            go_ret2
            exact read_no HN.out B3.out
          | true =>
            have HN : Hid (winOk D.top D.bits = true) := hok
            clear hok
            go_wp2
            go_ret2
            exact read_yes HN.out (Nat.le_succ _) W3.out B3.out
    · have hb1 : (D.top != -1) = true := by simpa using h1
      go_enter Try.func48, Try.ntmps48
      go_upto_region 1 with fail
      rw [HW0.out]
      go_wp2_with fail
      refine (isSeq D.top x0).mono ?_
      by_cases h2 : 0 ≤ D.top ∧ D.top ≤ 281474976710655
      · rw [decide_eq_true h2]
        have HLo : Hid (-1 ≤ D.top ∧ D.top ≤ 281474976710655) := by show _ ∧ _; omega
        rintro e x1 ⟨rfl, rfl⟩
        clear h1 h2
        go_upto_region 3 with fail
        have HB0 : Hid (b < w.heap.size) := hb
        clear c0 c1 hb
        try clear hb1
        have c0 := KA.out.cell 0 rfl
        obtain ⟨x1, hx1⟩ : ∃ x1, x0.alloc (.cells (.int .i64 D.top :: zeros.map (Value.int .u32)).toArray 101) = x1 := ⟨_, rfl⟩
        have HX1 : Hid (x0.alloc (.cells (.int .i64 D.top :: zeros.map (Value.int .u32)).toArray 101) = x1) := hx1
        have W1 : Hid (Wnd x1 (w.heap.size + 1) D.top zeros) := ⟨rfl, new_ok.words, by rw [← HSZ.out, ← hx1]; exact Blk.new x0 _ _⟩
        have B1 : Hid (Below w.heap.size w x1) := by rw [← hx1]; exact B0.out.alloc B0.out.size _
        have KA1 : Hid (Blk x1 w.heap.size 26 [.int .i64 D.top, .slice (some ⟨b, off, none⟩) 32 c]) := by rw [← hx1]; exact KA.out.alloc _
        clear hx1
        go_upto_region 4 with fail
        rw [show ∀ (t : Int), (#[.int .i64 t, .int .u32 0, .int .u32 0, .int .u32 0, .int .u32 0, .int .u32 0, .int .u32 0, .int .u32 0, .int .u32 0, .int .u32 0, .int .u32 0, .int .u32 0, .int .u32 0, .int .u32 0, .int .u32 0, .int .u32 0, .int .u32 0, .int .u32 0, .int .u32 0, .int .u32 0, .int .u32 0, .int .u32 0, .int .u32 0, .int .u32 0, .int .u32 0, .int .u32 0, .int .u32 0, .int .u32 0, .int .u32 0, .int .u32 0, .int .u32 0, .int .u32 0, .int .u32 0] : Array Value) = (.int .i64 t :: zeros.map (Value.int .u32)).toArray from fun _ => rfl, HX1.out, HSZ.out]
        clear c0 B0 KA HX1 HW0
        go_wp2
        go_loopw [25] (fun i wr => ∃ k : Nat, k ≤ 32 ∧ i = .int .i64 k ∧ Hid (∀ i : Nat, i < k → 0 ≤ D.bits.getD i 0 ∧ D.bits.getD i 0 ≤ 4294967295) ∧ Wnd wr (w.heap.size + 1) D.top (D.bits.take k ++ List.replicate (32 - k) 0) ∧ Blk wr w.heap.size 26 [.int .i64 D.top, .slice (some ⟨b, off, none⟩) 32 c] ∧ Below w.heap.size w wr) (fun i _ => 32 - (intOf i).toNat)
        case atStart => exact ⟨0, Nat.zero_le _, rfl, (fun i hi => absurd hi (Nat.not_lt_zero _)), W1.out, KA1.out, B1.out⟩
        case round =>
          obtain ⟨k, hk, rfl, HK, hw, hka, hbe⟩ := hrel
          have HW : Hid (Wnd wr (w.heap.size + 1) D.top (D.bits.take k ++ List.replicate (32 - k) 0)) := hw
          have HKA : Hid (Blk wr w.heap.size 26 [.int .i64 D.top, .slice (some ⟨b, off, none⟩) 32 c]) := hka
          have HBe : Hid (Below w.heap.size w wr) := hbe
          clear hw hka hbe W1 B1 KA1
          by_cases hlt : k < 32
          · have hltI : (k : Int) < 32 := by omega
            obtain ⟨x, hx⟩ : ∃ x, D.bits.getD k 0 = x := ⟨_, rfl⟩
            have HXD : Hid (D.bits.getD k 0 = x) := hx
            have HX : Hid (w.cell? ⟨b, off + k, none⟩ = some (.int .i64 x)) := by show _ = _; rw [HCE.out k hlt, hx]
            obtain ⟨y, hy⟩ : ∃ y, IntKind.u32.wrap x = y := ⟨_, rfl⟩
            have HYE : Hid (y = x % 4294967296) := by show _ = _; rw [← hy, wrap_u32]
            have HYb : Hid (0 ≤ y ∧ y ≤ 4294967295) := by have := HYE.out; show _ ∧ _; omega
            have hb0 : b < w.heap.size := HB0.out
            clear hx
            go_upto_region 7 with fail
            go_cut [38] from 28 to 37 (fun s38 wx => Wnd wx (w.heap.size + 1) D.top ((D.bits.take k ++ List.replicate (32 - k) 0).set k y) ∧ Blk wx w.heap.size 26 [.int .i64 D.top, .slice (some ⟨b, off, none⟩) 32 c] ∧ Below w.heap.size w wx)
            case first =>
              rename_i J K' hRJ hMet
              generalize hA : Act.mk _ _ = A
              have a1' : A.eval (.tmp 1) = .pointer (some ⟨w.heap.size, 0, none⟩) := by rw [← hA]; rfl
              have a4' : A.eval (.tmp 4) = .pointer (some ⟨w.heap.size + 1, 0, none⟩) := by rw [← hA]; rfl
              have a5' : A.eval (.tmp 5) = .int .i64 (k : Int) := by rw [← hA]; rfl
              have asz : A.tmps.size = 57 := by rw [← hA]; rfl
              have hW : ∀ wx, Below wr.heap.size wr wx → Wnd wx (w.heap.size + 1) D.top (D.bits.take k ++ List.replicate (32 - k) 0) := fun wx hb => HW.out.later hb
              have hBk : ∀ wx, Below wr.heap.size wr wx → Blk wx w.heap.size 26 [.int .i64 D.top, .slice (some ⟨b, off, none⟩) 32 c] := fun wx hb => HKA.out.later hb
              have hX : ∀ wx, Below wr.heap.size wr wx → wx.cell? ⟨b, off + k, none⟩ = some (.int .i64 x) := fun wx hb => by rw [(HBe.out.trans (hb.mono HBe.out.size)).cell hb0]; exact HX.out
              refine region_each (by kernel_rfl) [28, 29, 30, 31, 32, 33, 34, 35, 36, 37, 38] 11 (fun i => [28, 29, 30, 31, 32, 33, 34, 35, 36, 37, 38].getD i 0) (fun _ => 0)
                (fun i gB v wx => match i with
                  | 0 => v = .pointer (some ⟨w.heap.size + 1, 0, none⟩)
                  | 1 => v = .int .i64 (k : Int)
                  | 2 => v = .pointer (some ⟨w.heap.size, 1, none⟩)
                  | 3 => v = .slice (some ⟨b, off, none⟩) 32 c
                  | 4 => v = .int .i64 (k : Int)
                  | 5 => v = .pointer (some ⟨b, off + k, none⟩)
                  | 6 => v = .int .i64 x
                  | 7 => v = .int .u32 y
                  | 8 => v = .pointer (some ⟨w.heap.size + 1, 0, none⟩)
                  | 9 => v = .pointer (some ⟨w.heap.size + 1, 1, none⟩)
                  | 10 => v = .pointer (some ⟨w.heap.size + 1, 1 + k, none⟩)
                  | _ => False) (fun wx => Below wr.heap.size wr wx) (by kernel_rfl) (Below.refl _ _).drew ?_ ?_ ?_
              · intro i gB v wx wy hi hF hb _
                match i, hi with
                | 0, _ => exact hF
                | 1, _ => exact hF
                | 2, _ => exact hF
                | 3, _ => exact hF
                | 4, _ => exact hF
                | 5, _ => exact hF
                | 6, _ => exact hF
                | 7, _ => exact hF
                | 8, _ => exact hF
                | 9, _ => exact hF
                | 10, _ => exact hF
              · intro i hi t ρ wx hB hp hd
                match i, hi with
                | 0, _ =>
                  have e4 : (fr [28, 29, 30, 31, 32, 33, 34, 35, 36, 37, 38] A t).eval (.tmp 4) = .pointer (some ⟨w.heap.size + 1, 0, none⟩) := (fr_eval_old _ _ _ 4 rfl).trans a4'
                  refine op_run (v := .pointer (some ⟨w.heap.size + 1, 0, none⟩)) (w' := wx) rfl rfl ?_ ?_
                  · clear hp hd; have ec : ∀ v, (fr [28, 29, 30, 31, 32, 33, 34, 35, 36, 37, 38] A t).eval (.const v) = v := fun _ => rfl; generalize (fr [28, 29, 30, 31, 32, 33, 34, 35, 36, 37, 38] A t).eval = ev at ec e4 ⊢; go_simp
                  · exact ⟨_, 0, rfl, hB, Below.refl _ _, rfl, .inl rfl⟩
                | 1, _ =>
                  have e5 : (fr [28, 29, 30, 31, 32, 33, 34, 35, 36, 37, 38] A t).eval (.tmp 5) = .int .i64 (k : Int) := (fr_eval_old _ _ _ 5 rfl).trans a5'
                  refine op_run (v := .int .i64 (k : Int)) (w' := wx) rfl rfl ?_ ?_
                  · clear hp hd; have ec : ∀ v, (fr [28, 29, 30, 31, 32, 33, 34, 35, 36, 37, 38] A t).eval (.const v) = v := fun _ => rfl; generalize (fr [28, 29, 30, 31, 32, 33, 34, 35, 36, 37, 38] A t).eval = ev at ec e5 ⊢; go_simp
                  · exact ⟨_, 0, rfl, hB, Below.refl _ _, rfl, .inl rfl⟩
                | 2, _ =>
                  have e1 : (fr [28, 29, 30, 31, 32, 33, 34, 35, 36, 37, 38] A t).eval (.tmp 1) = .pointer (some ⟨w.heap.size, 0, none⟩) := (fr_eval_old _ _ _ 1 rfl).trans a1'
                  refine op_run (v := .pointer (some ⟨w.heap.size, 1, none⟩)) (w' := wx) rfl rfl ?_ ?_
                  · clear hp hd; have ec : ∀ v, (fr [28, 29, 30, 31, 32, 33, 34, 35, 36, 37, 38] A t).eval (.const v) = v := fun _ => rfl; generalize (fr [28, 29, 30, 31, 32, 33, 34, 35, 36, 37, 38] A t).eval = ev at ec e1 ⊢; go_simp
                  · exact ⟨_, 0, rfl, hB, Below.refl _ _, rfl, .inl rfl⟩
                | 3, _ =>
                  have e30 : (fr [28, 29, 30, 31, 32, 33, 34, 35, 36, 37, 38] A t).eval (.tmp 30) = .pointer (some ⟨w.heap.size, 1, none⟩) := (fr_eval _ _ _ 30 rfl (by rw [asz]; decide)).trans (hp 2 (pre_mem (by kernel_rfl)))
                  have hc := (hBk wx hB).cell 1 rfl
                  refine op_run (v := .slice (some ⟨b, off, none⟩) 32 c) (w' := wx) rfl rfl ?_ ?_
                  · clear hp hd; have ec : ∀ v, (fr [28, 29, 30, 31, 32, 33, 34, 35, 36, 37, 38] A t).eval (.const v) = v := fun _ => rfl; generalize (fr [28, 29, 30, 31, 32, 33, 34, 35, 36, 37, 38] A t).eval = ev at ec e30 ⊢; go_simp
                  · exact ⟨_, 0, rfl, hB, Below.refl _ _, rfl, .inl rfl⟩
                | 4, _ =>
                  have e5 : (fr [28, 29, 30, 31, 32, 33, 34, 35, 36, 37, 38] A t).eval (.tmp 5) = .int .i64 (k : Int) := (fr_eval_old _ _ _ 5 rfl).trans a5'
                  refine op_run (v := .int .i64 (k : Int)) (w' := wx) rfl rfl ?_ ?_
                  · clear hp hd; have ec : ∀ v, (fr [28, 29, 30, 31, 32, 33, 34, 35, 36, 37, 38] A t).eval (.const v) = v := fun _ => rfl; generalize (fr [28, 29, 30, 31, 32, 33, 34, 35, 36, 37, 38] A t).eval = ev at ec e5 ⊢; go_simp
                  · exact ⟨_, 0, rfl, hB, Below.refl _ _, rfl, .inl rfl⟩
                | 5, _ =>
                  have e31 : (fr [28, 29, 30, 31, 32, 33, 34, 35, 36, 37, 38] A t).eval (.tmp 31) = .slice (some ⟨b, off, none⟩) 32 c := (fr_eval _ _ _ 31 rfl (by rw [asz]; decide)).trans (hp 3 (pre_mem (by kernel_rfl)))
                  have e32 : (fr [28, 29, 30, 31, 32, 33, 34, 35, 36, 37, 38] A t).eval (.tmp 32) = .int .i64 (k : Int) := (fr_eval _ _ _ 32 rfl (by rw [asz]; decide)).trans (hp 4 (pre_mem (by kernel_rfl)))
                  refine op_run (v := .pointer (some ⟨b, off + k, none⟩)) (w' := wx) rfl rfl ?_ ?_
                  · clear hp hd; have ec : ∀ v, (fr [28, 29, 30, 31, 32, 33, 34, 35, 36, 37, 38] A t).eval (.const v) = v := fun _ => rfl; generalize (fr [28, 29, 30, 31, 32, 33, 34, 35, 36, 37, 38] A t).eval = ev at ec e31 e32 ⊢; go_simp
                  · exact ⟨_, 0, rfl, hB, Below.refl _ _, rfl, .inl rfl⟩
                | 6, _ =>
                  have e33 : (fr [28, 29, 30, 31, 32, 33, 34, 35, 36, 37, 38] A t).eval (.tmp 33) = .pointer (some ⟨b, off + k, none⟩) := (fr_eval _ _ _ 33 rfl (by rw [asz]; decide)).trans (hp 5 (pre_mem (by kernel_rfl)))
                  have hc := hX wx hB
                  refine op_run (v := .int .i64 x) (w' := wx) rfl rfl ?_ ?_
                  · clear hp hd; have ec : ∀ v, (fr [28, 29, 30, 31, 32, 33, 34, 35, 36, 37, 38] A t).eval (.const v) = v := fun _ => rfl; generalize (fr [28, 29, 30, 31, 32, 33, 34, 35, 36, 37, 38] A t).eval = ev at ec e33 ⊢; go_simp
                  · exact ⟨_, 0, rfl, hB, Below.refl _ _, rfl, .inl rfl⟩
                | 7, _ =>
                  have e34 : (fr [28, 29, 30, 31, 32, 33, 34, 35, 36, 37, 38] A t).eval (.tmp 34) = .int .i64 x := (fr_eval _ _ _ 34 rfl (by rw [asz]; decide)).trans (hp 6 (pre_mem (by kernel_rfl)))
                  refine op_run (v := .int .u32 y) (w' := wx) rfl rfl ?_ ?_
                  · clear hp hd; have ec : ∀ v, (fr [28, 29, 30, 31, 32, 33, 34, 35, 36, 37, 38] A t).eval (.const v) = v := fun _ => rfl; generalize (fr [28, 29, 30, 31, 32, 33, 34, 35, 36, 37, 38] A t).eval = ev at ec e34 ⊢; go_simp
                  · exact ⟨_, 0, rfl, hB, Below.refl _ _, rfl, .inl rfl⟩
                | 8, _ =>
                  have e28 : (fr [28, 29, 30, 31, 32, 33, 34, 35, 36, 37, 38] A t).eval (.tmp 28) = .pointer (some ⟨w.heap.size + 1, 0, none⟩) := (fr_eval _ _ _ 28 rfl (by rw [asz]; decide)).trans (hp 0 (pre_mem (by kernel_rfl)))
                  refine op_run (v := .pointer (some ⟨w.heap.size + 1, 0, none⟩)) (w' := wx) rfl rfl ?_ ?_
                  · clear hp hd; have ec : ∀ v, (fr [28, 29, 30, 31, 32, 33, 34, 35, 36, 37, 38] A t).eval (.const v) = v := fun _ => rfl; generalize (fr [28, 29, 30, 31, 32, 33, 34, 35, 36, 37, 38] A t).eval = ev at ec e28 ⊢; go_simp
                  · exact ⟨_, 0, rfl, hB, Below.refl _ _, rfl, .inl rfl⟩
                | 9, _ =>
                  have e36 : (fr [28, 29, 30, 31, 32, 33, 34, 35, 36, 37, 38] A t).eval (.tmp 36) = .pointer (some ⟨w.heap.size + 1, 0, none⟩) := (fr_eval _ _ _ 36 rfl (by rw [asz]; decide)).trans (hp 8 (pre_mem (by kernel_rfl)))
                  refine op_run (v := .pointer (some ⟨w.heap.size + 1, 1, none⟩)) (w' := wx) rfl rfl ?_ ?_
                  · clear hp hd; have ec : ∀ v, (fr [28, 29, 30, 31, 32, 33, 34, 35, 36, 37, 38] A t).eval (.const v) = v := fun _ => rfl; generalize (fr [28, 29, 30, 31, 32, 33, 34, 35, 36, 37, 38] A t).eval = ev at ec e36 ⊢; go_simp
                  · exact ⟨_, 0, rfl, hB, Below.refl _ _, rfl, .inl rfl⟩
                | 10, _ =>
                  have e37 : (fr [28, 29, 30, 31, 32, 33, 34, 35, 36, 37, 38] A t).eval (.tmp 37) = .pointer (some ⟨w.heap.size + 1, 1, none⟩) := (fr_eval _ _ _ 37 rfl (by rw [asz]; decide)).trans (hp 9 (pre_mem (by kernel_rfl)))
                  have e29 : (fr [28, 29, 30, 31, 32, 33, 34, 35, 36, 37, 38] A t).eval (.tmp 29) = .int .i64 (k : Int) := (fr_eval _ _ _ 29 rfl (by rw [asz]; decide)).trans (hp 1 (pre_mem (by kernel_rfl)))
                  refine op_run (v := .pointer (some ⟨w.heap.size + 1, 1 + k, none⟩)) (w' := wx) rfl rfl ?_ ?_
                  · clear hp hd; have ec : ∀ v, (fr [28, 29, 30, 31, 32, 33, 34, 35, 36, 37, 38] A t).eval (.const v) = v := fun _ => rfl; generalize (fr [28, 29, 30, 31, 32, 33, 34, 35, 36, 37, 38] A t).eval = ev at ec e37 e29 ⊢; go_simp
                  · exact ⟨_, 0, rfl, hB, Below.refl _ _, rfl, .inl rfl⟩
              · intro t ρ wx hB hF hne
                have e38 : (fr [28, 29, 30, 31, 32, 33, 34, 35, 36, 37, 38] A t).eval (.tmp 38) = .pointer (some ⟨w.heap.size + 1, 1 + k, none⟩) := (fr_eval _ _ _ 38 rfl (by rw [asz]; decide)).trans (hF 10 (by decide))
                have e35 : (fr [28, 29, 30, 31, 32, 33, 34, 35, 36, 37, 38] A t).eval (.tmp 35) = .int .u32 y := (fr_eval _ _ _ 35 rfl (by rw [asz]; decide)).trans (hF 7 (by decide))
                clear hne
                have q0 : ∃ v, wx.cell? ⟨w.heap.size + 1, 1 + k, none⟩ = some v := ⟨_, (hW wx hB).word k hlt⟩
                obtain ⟨v0, q0⟩ := q0
                have f0 := (hW wx hB).froz (1 + k)
                have kW : Hid (Wnd wx (w.heap.size + 1) D.top (D.bits.take k ++ List.replicate (32 - k) 0)) := hW wx hB
                have kA : Hid (Blk wx w.heap.size 26 [.int .i64 D.top, .slice (some ⟨b, off, none⟩) 32 c]) := hBk wx hB
                refine op_wp rfl rfl ?_
                clear hF hW hBk hX
                generalize hE : (fr [28, 29, 30, 31, 32, 33, 34, 35, 36, 37, 38] A t).eval = ev at e38 e35
                unfold Oper.wp
                rw [hE]
                go_simp
                refine hMet _ _ (Met.intro (hRJ _ _ ⟨t 28, t 29, t 30, t 31, t 32, t 33, t 34, t 35, t 36, t 37, t 38, ⟨kW.out.setWord k _ HYb.out, kA.out.other (by show w.heap.size ≠ w.heap.size + 1; omega) _, (HBe.out.trans (hB.mono HBe.out.size)).setCell (by show w.heap.size ≤ w.heap.size + 1; omega) _⟩, ?_⟩))
                rw [← hA]; rfl
            case rest =>
              clear hy
              obtain ⟨hw, hka, hbe⟩ := hcut
              have HW2 : Hid (Wnd wc (w.heap.size + 1) D.top ((D.bits.take k ++ List.replicate (32 - k) 0).set k y)) := hw
              have HK2 : Hid (Blk wc w.heap.size 26 [.int .i64 D.top, .slice (some ⟨b, off, none⟩) 32 c]) := hka
              have HB2 : Hid (Below w.heap.size w wc) := hbe
              have c2 : wc.cell? ⟨w.heap.size + 1, 1 + k, none⟩ = some (.int .u32 y) := by
                rw [hw.word k hlt]
                simp [List.getD, mid_length D.bits k HL.out hk, hlt]
              have c3 := hka.cell 1 rfl
              have c4 : wc.cell? ⟨b, off + k, none⟩ = some (.int .i64 x) := by rw [hbe.cell hb0]; exact HX.out
              clear hw hka hbe HW HKA HBe
              have hwy : wrap64 y = y := by have := HYb.out; unfold wrap64; omega
              by_cases hin : 0 ≤ x ∧ x ≤ 4294967295
              · have hne : (y != x) = false := by rw [bne_eq_false_iff_eq]; have := HYE.out; omega
                have HKK : Hid (∀ i : Nat, i < k + 1 → 0 ≤ D.bits.getD i 0 ∧ D.bits.getD i 0 ≤ 4294967295) := by
                  intro i hi
                  by_cases hik : i = k
                  · rw [hik, HXD.out]; exact hin
                  · exact HK.out i (by omega)
                have HW3 : Hid (Wnd wc (w.heap.size + 1) D.top (D.bits.take (k + 1) ++ List.replicate (32 - (k + 1)) 0)) := by
                  have := HW2.out
                  rw [show y = D.bits.getD k 0 by rw [HXD.out]; have := HYE.out; omega, mid_set D.bits k HL.out hlt] at this
                  exact this
                clear hin HW2
                go_wp2
                go_quiet (fail)
                go_wp2
                go_roundw
                case rel => exact ⟨k + 1, by omega, by go_num, HKK, HW3.out, HK2.out, below_drewN HB2.out _⟩
                case measure => simp [intOf]; omega
              · have hne : (y != x) = true := by rw [bne_iff_ne]; have := HYE.out; omega
                have HN : Hid (winOk D.top D.bits = false) := winOk_false fun hok => hin (by have := hok.words.at k; rwa [HXD.out] at this)
                clear hin HW2
                go_wp2
                go_quiet (fail)
                go_wp2
                go_ret2
                exact read_no HN.out (below_drewN HB2.out _)
          · obtain rfl : k = 32 := by omega
            have HWd : Hid (Words D.bits) := words_take HK.out HL.out.symm
            have HW2 : Hid (Wnd wr (w.heap.size + 1) D.top D.bits) := by
              have := HW.out
              rw [mid_end D.bits HL.out] at this
              exact this
            have HOR : Hid (winRight D.top D.bits = winOk D.top D.bits) := ok_right HL.out HLo.out.1 HLo.out.2 HWd.out
            clear HW HK
            go_wp2_with fail
            refine (right (w.heap.size + 1) D.top D.bits wr HW2.out HLo.out.1 HLo.out.2).mono ?_
            rw [HOR.out]
            rintro e w3 ⟨rfl, b3⟩
            have B3 : Hid (Below w.heap.size w w3) := HBe.out.trans (b3.mono HBe.out.size)
            have W3 : Hid (Wnd w3 (w.heap.size + 1) D.top D.bits) := HW2.out.later b3
            clear b3
            cases hok : winOk D.top D.bits with
            | false =>
              have HN : Hid (winOk D.top D.bits = false) := hok
              clear hok
              go_wp2
              go_ret2
              exact read_no HN.out B3.out
            | true =>
              have HN : Hid (winOk D.top D.bits = true) := hok
              clear hok
              go_wp2
              go_ret2
              exact read_yes HN.out (Nat.le_succ _) W3.out B3.out
      · rw [decide_eq_false h2]
        have HN : Hid (winOk D.top D.bits = false) := winOk_false fun hok => h2 (by have := hok.lo; have := hok.hi; omega)
        rintro e x1 ⟨rfl, rfl⟩
        clear h1 h2
        go_wp2
        go_ret2
        exact read_no HN.out B0.out
  · have HN : Hid (winOk D.top D.bits = false) := winOk_false fun hok => hl hok.len
    have hnI : ((S.bits.n : Int) != 32) = true := by
      have : ¬ (S.bits.n : Int) = 32 := by omega
      simpa using this
    clear hl hlen
    by_cases h1 : D.top = -1
    · have hb1 : (D.top != -1) = false := by rw [h1]; rfl
      clear h1
      go_enter Try.func48, Try.ntmps48
      go_upto_region 1 with fail
      rw [HW0.out]
      go_wp2
      go_ret2
      exact read_no HN.out B0.out
    · have hb1 : (D.top != -1) = true := by simpa using h1
      go_enter Try.func48, Try.ntmps48
      go_upto_region 1 with fail
      rw [HW0.out]
      go_wp2_with fail
      refine (isSeq D.top x0).mono ?_
      generalize decide (0 ≤ D.top ∧ D.top ≤ 281474976710655) = u
      rintro e x1 ⟨rfl, rfl⟩
      clear h1
      cases u with
      | false =>
        go_wp2
        go_ret2
        exact read_no HN.out B0.out
      | true =>
        go_wp2
        go_ret2
        exact read_no HN.out B0.out
end Go.Proofs.Ytmcflfpckpjphaa.WnM

namespace Go.Proofs.Ytmcflfpckpjphaa.WnK
open Go.RowKit Go.Proofs.Ytmcflfpckpjphaa.Mem Go.Proofs.Ytmcflfpckpjphaa.MemI Go.Proofs.Ytmcflfpckpjphaa.Blk Go.Proofs.Ytmcflfpckpjphaa.Zone Go.Proofs.Ytmcflfpckpjphaa.ZoneI Go.Proofs.Ytmcflfpckpjphaa.WnZ Go.Proofs.Ytmcflfpckpjphaa.Res Go.Proofs.Ytmcflfpckpjphaa.WinP Go.Proofs.Ytmcflfpckpjphaa.WinB Go.Proofs.Ytmcflfpckpjphaa.Bits Go.Proofs.Ytmcflfpckpjphaa.WnC Go.Proofs.Ytmcflfpckpjphaa.WnI Go.Proofs.Ytmcflfpckpjphaa.WnJ Go.Proofs.Ytmcflfpckpjphaa.WnL Go.Proofs.Ytmcflfpckpjphaa.WnS Go.Proofs.Ytmcflfpckpjphaa.WnM

set_option maxRecDepth 100000 in
/-- A window stored whole into a block that lies apart from its memory. -/
theorem stored {w : World} {g lo hi : Nat} {u v : Value} {D : WnD} {S : WnS} (k : Blk w g 26 [u, v]) (o : WnOwn w lo hi S D) (d : g + 1 ≤ lo) :
    Blk ((w.setCell ⟨g, 0, none⟩ (.int .i64 D.top)).setCell ⟨g, 1, none⟩ (.slice S.bits.a S.bits.n S.bits.c)) g 26 [.int .i64 D.top, .slice S.bits.a S.bits.n S.bits.c] ∧
      WnOwn ((w.setCell ⟨g, 0, none⟩ (.int .i64 D.top)).setCell ⟨g, 1, none⟩ (.slice S.bits.a S.bits.n S.bits.c)) lo hi S D ∧
      ∀ B a, B ≤ g → Below B a w → Below B a ((w.setCell ⟨g, 0, none⟩ (.int .i64 D.top)).setCell ⟨g, 1, none⟩ (.slice S.bits.a S.bits.n S.bits.c)) :=
  ⟨(k.set 0 _ (by simp [maxLen])).set 1 _ (by simp [maxLen]), (o.carry (Kept.setCell _ _ _ _) (.inr d)).carry (Kept.setCell _ _ _ _) (.inr d), fun B a h b => (b.setCell h _).setCell h _⟩
set_option maxRecDepth 100000 in
theorem size2 (w : World) (a b : Addr) (u v : Value) : ((w.setCell a u).setCell b v).heap.size = w.heap.size := by simp
/-- What a call that makes a window answers. -/
def Made (D : WnD) (w : World) (e : Ending) (w' : World) : Prop := ∃ S', e = .returned (wnV D S') ∧ WnOwn w' w.heap.size w'.heap.size S' D ∧ Below w.heap.size w w'
noncomputable def addD (D : WnD) (n : Int) : WnD := ⟨addTop D.top D.bits n, addBits D.top D.bits n⟩
/-- What a call that adds a number answers. -/
def Added (D : WnD) (n : Int) (w : World) (e : Ending) (w' : World) : Prop := ∃ S', e = .returned (.tuple #[wnV (addD D n) S', .bool (winMay D.top D.bits n)]) ∧ WnOwn w' w.heap.size w'.heap.size S' (addD D n) ∧ Below w.heap.size w w'
noncomputable def ofD (l : List Int) (k : Nat) : WnD := ⟨(ofTop l k).1, (ofTop l k).2⟩
set_option maxRecDepth 100000 in
theorem may_split {D : WnD} {n : Int} (h : winOk D.top D.bits = true) : winMay D.top D.bits n = WinP.may D.top D.bits n := by unfold winMay; rw [h]; rfl
set_option maxRecDepth 100000 in
theorem may_notok {D : WnD} {n : Int} (h : winOk D.top D.bits = false) : winMay D.top D.bits n = false := by unfold winMay; rw [h]; rfl
set_option maxRecDepth 100000 in
theorem add_yes {D : WnD} {n : Int} (h : winMay D.top D.bits n = true) : addD D n = ⟨max D.top n, addL D.top D.bits n.toNat⟩ := by unfold addD addTop addBits; rw [if_pos h, if_pos h]
set_option maxRecDepth 100000 in
theorem add_no {D : WnD} {n : Int} (h : winMay D.top D.bits n = false) : addD D n = D := by unfold addD addTop addBits; rw [h]; rfl
set_option maxRecDepth 100000 in
theorem may_bounds {top : Int} {l : List Int} {n : Int} (h : WinP.may top l n = true) : 0 ≤ n ∧ n ≤ 281474976710655 := by
  unfold WinP.may at h
  rw [Bool.and_eq_true, decide_eq_true_iff] at h
  exact ⟨h.1.1, h.1.2.1⟩

set_option maxRecDepth 100000 in
set_option maxHeartbeats 2000000 in
theorem implWinNew (w : World) : Calls Try.prog 78 #[] w (Made ⟨-1, zeros⟩ w) := by
  obtain ⟨x0, hx0⟩ : ∃ x0, w.alloc (.cells #[.int .i64 0, .slice none 0 0] 26) = x0 := ⟨_, rfl⟩
  have HW0 : Hid (_ = x0) := hx0
  have B0 : Hid (Below w.heap.size w x0) := by rw [← hx0]; exact (Below.refl _ _).alloc (Nat.le_refl _) _
  have KO0 : Hid (Blk x0 w.heap.size 26 [.int .i64 0, .slice none 0 0]) := by rw [← hx0]; exact Blk.new w _ _
  clear hx0
  go_enter Try.func78, Try.ntmps78
  go_upto_region 1 with fail
  rw [HW0.out]
  go_wp2_with fail
  refine (newWindow x0).mono ?_
  rintro e x1 ⟨rfl, w1, b1⟩
  have W1 : Hid (Wnd x1 x0.heap.size (-1) zeros) := w1
  have B1 : Hid (Below w.heap.size w x1) := B0.out.trans (b1.mono B0.out.size)
  have KO1 : Hid (Blk x1 w.heap.size 26 [.int .i64 0, .slice none 0 0]) := KO0.out.later b1
  clear w1 b1 B0 KO0 HW0
  go_wp2_with fail
  refine (win x0.heap.size (-1) zeros x1 W1.out).mono ?_
  rintro e x2 ⟨S, rfl, o2, b2⟩
  have O2 : Hid (WnOwn x2 x1.heap.size x2.heap.size S ⟨-1, zeros⟩) := o2
  have B2 : Hid (Below w.heap.size w x2) := B1.out.trans (b2.mono B1.out.size)
  have KO2 : Hid (Blk x2 w.heap.size 26 [.int .i64 0, .slice none 0 0]) := KO1.out.later b2
  have HLT : Hid (w.heap.size + 1 ≤ x1.heap.size) := KO1.out.lt
  clear o2 b2 B1 KO1 W1
  have q0 := KO2.out.cell 0 rfl
  have q1 := KO2.out.cell 1 rfl
  have f0 := KO2.out.frozen 0
  have f1 := KO2.out.frozen 1
  unfold wnV
  go_wp2
  obtain ⟨k3, o3, b3⟩ := stored KO2.out O2.out HLT.out
  exact bodyPost_ret (v := wnV ⟨-1, zeros⟩ S) (res1 rfl (is_cell rfl k3 aggWn)) rfl ⟨S, rfl, o3.mono (by have := HLT.out; omega) (by rw [size2]; exact Nat.le_refl _), b3 _ _ (Nat.le_refl _) B2.out⟩

set_option maxRecDepth 100000 in
set_option maxHeartbeats 2000000 in
theorem implWinOk (S : WnS) (D : WnD) (w : World) (h : WnRd w S D) :
    Calls Try.prog 12 #[wnV D S] w fun e w' => e = .returned (.bool (winOk D.top D.bits)) ∧ Below w.heap.size w w' := by
  have HR : Hid (WnRd w S D) := h
  obtain ⟨x0, hx0, k0, b0, _⟩ := boxed w D S
  have HW0 : Hid (_ = x0) := hx0
  have B0 : Hid (Below w.heap.size w x0) := b0
  have KA : Hid (Blk x0 w.heap.size 26 [.int .i64 D.top, .slice S.bits.a S.bits.n S.bits.c]) := k0
  obtain ⟨v, hv⟩ : ∃ v, winOk D.top D.bits = v := ⟨_, rfl⟩
  rw [hv]
  clear h hx0 k0 b0
  have c0 := KA.out.cell 0 rfl
  have c1 := KA.out.cell 1 rfl
  unfold wnV
  go_enter Try.func12, Try.ntmps12
  go_upto_region 1 with fail
  rw [HW0.out]
  go_wp2_with fail
  refine (windowOf S D x0 (HR.out.later B0.out)).mono ?_
  rintro e x1 ⟨hc, b1⟩
  have B1 : Hid (Below w.heap.size w x1) := B0.out.trans (b1.mono B0.out.size)
  clear b1 c0 c1
  rcases hc with ⟨hk, g, rfl, _, _⟩ | ⟨hk, rfl⟩
  · obtain rfl : v = true := hv.symm.trans hk
    clear hv hk
    go_wp2
    go_ret
    exact ⟨rfl, B1.out⟩
  · obtain rfl : v = false := hv.symm.trans hk
    clear hv hk
    go_wp2
    go_ret
    exact ⟨rfl, B1.out⟩

set_option maxRecDepth 100000 in
set_option maxHeartbeats 2000000 in
theorem implWinHas (S : WnS) (D : WnD) (n : Int) (w : World) (h : WnRd w S D) :
    Calls Try.prog 17 #[wnV D S, .int .i64 n] w fun e w' => e = .returned (.bool (winHas D.top D.bits n)) ∧ Below w.heap.size w w' := by
  have HR : Hid (WnRd w S D) := h
  obtain ⟨x0, hx0, k0, b0, _⟩ := boxed w D S
  have HW0 : Hid (_ = x0) := hx0
  have B0 : Hid (Below w.heap.size w x0) := b0
  have KA : Hid (Blk x0 w.heap.size 26 [.int .i64 D.top, .slice S.bits.a S.bits.n S.bits.c]) := k0
  obtain ⟨v, hv⟩ : ∃ v, winHas D.top D.bits n = v := ⟨_, rfl⟩
  have HV : Hid (winHas D.top D.bits n = v) := hv
  rw [hv]
  clear h hx0 k0 b0 hv
  have c0 := KA.out.cell 0 rfl
  have c1 := KA.out.cell 1 rfl
  unfold wnV
  go_enter Try.func17, Try.ntmps17
  go_upto_region 1 with fail
  rw [HW0.out]
  go_wp2_with fail
  refine (windowOf S D x0 (HR.out.later B0.out)).mono ?_
  rintro e x1 ⟨hc, b1⟩
  have B1 : Hid (Below w.heap.size w x1) := B0.out.trans (b1.mono B0.out.size)
  clear b1 c0 c1
  rcases hc with ⟨hk, g, rfl, _, hw⟩ | ⟨hk, rfl⟩
  · have HO : Hid (WOk D.top D.bits) := winOk_iff.1 hk
    have HW : Hid (Wnd x1 g D.top D.bits) := hw
    have HH : Hid (WinP.has D.top D.bits n = v) := by show _ = v; rw [← HV.out]; unfold winHas; rw [hk]; rfl
    clear hk hw
    go_wp2_with fail
    refine (has g D.top D.bits n x1 HW.out HO.out.lo HO.out.hi).mono ?_
    rw [HH.out]
    rintro e x2 ⟨rfl, b2⟩
    have B2 : Hid (Below w.heap.size w x2) := B1.out.trans (b2.mono B1.out.size)
    clear b2
    go_wp2
    go_ret
    exact ⟨by first | rfl | simp, B2.out⟩
  · have HF : Hid (v = false) := by show v = false; rw [← HV.out]; unfold winHas; rw [hk]; rfl
    clear hk
    go_wp2
    go_ret
    exact ⟨by rw [HF.out]; rfl, B1.out⟩

set_option maxRecDepth 100000 in
set_option maxHeartbeats 2000000 in
theorem implWinMay (S : WnS) (D : WnD) (n : Int) (w : World) (h : WnRd w S D) :
    Calls Try.prog 15 #[wnV D S, .int .i64 n] w fun e w' => e = .returned (.bool (winMay D.top D.bits n)) ∧ Below w.heap.size w w' := by
  have HR : Hid (WnRd w S D) := h
  obtain ⟨x0, hx0, k0, b0, _⟩ := boxed w D S
  have HW0 : Hid (_ = x0) := hx0
  have B0 : Hid (Below w.heap.size w x0) := b0
  have KA : Hid (Blk x0 w.heap.size 26 [.int .i64 D.top, .slice S.bits.a S.bits.n S.bits.c]) := k0
  obtain ⟨v, hv⟩ : ∃ v, winMay D.top D.bits n = v := ⟨_, rfl⟩
  have HV : Hid (winMay D.top D.bits n = v) := hv
  rw [hv]
  clear h hx0 k0 b0 hv
  have c0 := KA.out.cell 0 rfl
  have c1 := KA.out.cell 1 rfl
  unfold wnV
  go_enter Try.func15, Try.ntmps15
  go_upto_region 1 with fail
  rw [HW0.out]
  go_wp2_with fail
  refine (windowOf S D x0 (HR.out.later B0.out)).mono ?_
  rintro e x1 ⟨hc, b1⟩
  have B1 : Hid (Below w.heap.size w x1) := B0.out.trans (b1.mono B0.out.size)
  clear b1 c0 c1
  rcases hc with ⟨hk, g, rfl, _, hw⟩ | ⟨hk, rfl⟩
  · have HO : Hid (WOk D.top D.bits) := winOk_iff.1 hk
    have HW : Hid (Wnd x1 g D.top D.bits) := hw
    have HH : Hid (WinP.may D.top D.bits n = v) := by show _ = v; rw [← HV.out]; unfold winMay; rw [hk]; rfl
    clear hk hw
    go_wp2_with fail
    refine (may g D.top D.bits n x1 HW.out HO.out.lo HO.out.hi).mono ?_
    rw [HH.out]
    rintro e x2 ⟨rfl, b2⟩
    have B2 : Hid (Below w.heap.size w x2) := B1.out.trans (b2.mono B1.out.size)
    clear b2
    go_wp2
    go_ret
    exact ⟨by first | rfl | simp, B2.out⟩
  · have HF : Hid (v = false) := by show v = false; rw [← HV.out]; unfold winMay; rw [hk]; rfl
    clear hk
    go_wp2
    go_ret
    exact ⟨by rw [HF.out]; rfl, B1.out⟩

set_option maxRecDepth 100000 in
set_option maxHeartbeats 4000000 in
theorem implWinAdd (S : WnS) (D : WnD) (n : Int) (w : World) (h : WnRd w S D) (hl : D.bits.length ≤ 4194304) : Calls Try.prog 11 #[wnV D S, .int .i64 n] w (Added D n w) := by
  have HR : Hid (WnRd w S D) := h
  obtain ⟨x0, hx0⟩ : ∃ x0, (w.alloc (.cells #[.int .i64 D.top, .slice S.bits.a S.bits.n S.bits.c] 26)).alloc (.cells #[.int .i64 0, .slice none 0 0] 26) = x0 := ⟨_, rfl⟩
  have HW0 : Hid (_ = x0) := hx0
  have B0 : Hid (Below w.heap.size w x0) := by rw [← hx0]; exact ((Below.refl _ _).alloc (Nat.le_refl _) _).alloc (by simp) _
  have KA : Hid (Blk x0 w.heap.size 26 [.int .i64 D.top, .slice S.bits.a S.bits.n S.bits.c]) := by rw [← hx0]; exact (Blk.new w _ _).alloc _
  have KO : Hid (Blk x0 (w.heap.size + 1) 26 [.int .i64 0, .slice none 0 0]) := by
    have := Blk.new (w.alloc (.cells #[.int .i64 D.top, .slice S.bits.a S.bits.n S.bits.c] 26)) 26 [.int .i64 0, .slice none 0 0]
    rw [World.size_alloc] at this
    rw [← hx0]; exact this
  clear h hx0
  have c0 := KA.out.cell 0 rfl
  have c1 := KA.out.cell 1 rfl
  unfold wnV
  go_enter Try.func11, Try.ntmps11
  go_upto_region 1 with fail
  rw [HW0.out]
  go_wp2_with fail
  refine (windowOf S D x0 (HR.out.later B0.out)).mono ?_
  rintro e x1 ⟨hc, b1⟩
  have B1 : Hid (Below w.heap.size w x1) := B0.out.trans (b1.mono B0.out.size)
  have KA1 : Hid (Blk x1 w.heap.size 26 [.int .i64 D.top, .slice S.bits.a S.bits.n S.bits.c]) := KA.out.later b1
  have KO1 : Hid (Blk x1 (w.heap.size + 1) 26 [.int .i64 0, .slice none 0 0]) := KO.out.later b1
  have HLT : Hid (w.heap.size + 1 < x0.heap.size) := KO.out.lt
  clear b1 c0 c1 KA KO B0 HW0
  rcases hc with ⟨hk, g, rfl, hg, hw⟩ | ⟨hk, rfl⟩
  · have HO : Hid (WOk D.top D.bits) := winOk_iff.1 hk
    have HW : Hid (Wnd x1 g D.top D.bits) := hw
    have HG : Hid (w.heap.size + 1 < g) := Nat.lt_of_lt_of_le HLT.out hg
    have HM : Hid (winMay D.top D.bits n = WinP.may D.top D.bits n) := may_split hk
    clear hk hw hg
    go_wp2_with fail
    refine (may g D.top D.bits n x1 HW.out HO.out.lo HO.out.hi).mono ?_
    cases hm : WinP.may D.top D.bits n with
    | false =>
      have HMF : Hid (winMay D.top D.bits n = false) := by show _ = false; rw [HM.out, hm]
      clear hm
      rintro e x2 ⟨rfl, b2⟩
      have B2 : Hid (Below w.heap.size w x2) := B1.out.trans (b2.mono B1.out.size)
      have KA2 : Hid (Blk x2 w.heap.size 26 [.int .i64 D.top, .slice S.bits.a S.bits.n S.bits.c]) := KA1.out.later b2
      have KO2 : Hid (Blk x2 (w.heap.size + 1) 26 [.int .i64 0, .slice none 0 0]) := KO1.out.later b2
      clear b2 B1 KA1 KO1 HW
      have c0 := KA2.out.cell 0 rfl
      have c1 := KA2.out.cell 1 rfl
      go_wp2_with fail
      refine (implCopy S D x2 (HR.out.later B2.out) hl).mono ?_
      rintro e x3 ⟨S', rfl, o3, b3⟩
      have O3 : Hid (WnOwn x3 x2.heap.size x3.heap.size S' D) := o3
      have B3 : Hid (Below w.heap.size w x3) := B2.out.trans (b3.mono B2.out.size)
      have KO3 : Hid (Blk x3 (w.heap.size + 1) 26 [.int .i64 0, .slice none 0 0]) := KO2.out.later b3
      have HL3 : Hid (w.heap.size + 1 + 1 ≤ x2.heap.size) := KO2.out.lt
      clear o3 b3 B2 KO2 KA2 c0 c1
      have q0 := KO3.out.cell 0 rfl
      have q1 := KO3.out.cell 1 rfl
      have f0 := KO3.out.frozen 0
      have f1 := KO3.out.frozen 1
      unfold wnV
      go_wp2
      obtain ⟨k4, o4, b4⟩ := stored KO3.out O3.out HL3.out
      exact bodyPost_ret (v := .tuple #[wnV D S', .bool false]) (res2 rfl (is_cell rfl k4 aggWn) (is_tmp rfl)) rfl ⟨S', by rw [add_no HMF.out, HMF.out], by rw [add_no HMF.out]; exact o4.mono (by have := HL3.out; omega) (by rw [size2]; exact Nat.le_refl _), b4 _ _ (Nat.le_succ _) B3.out⟩
    | true =>
      have HMT : Hid (winMay D.top D.bits n = true) := by show _ = true; rw [HM.out, hm]
      obtain ⟨h0, h1⟩ := may_bounds hm
      clear hm
      rintro e x2 ⟨rfl, b2⟩
      have B2 : Hid (Below w.heap.size w x2) := B1.out.trans (b2.mono B1.out.size)
      have KO2 : Hid (Blk x2 (w.heap.size + 1) 26 [.int .i64 0, .slice none 0 0]) := KO1.out.later b2
      have W2 : Hid (Wnd x2 g D.top D.bits) := HW.out.later b2
      clear b2 B1 KA1 KO1 HW
      obtain ⟨N, rfl⟩ := Int.eq_ofNat_of_zero_le h0
      go_wp2_with fail
      refine (add g D.top D.bits N x2 W2.out HO.out.lo (by omega)).mono ?_
      rintro e x3 ⟨rfl, w3, k3⟩
      have HAD : Hid (addD D (N : Int) = ⟨max D.top N, addL D.top D.bits N⟩) := by show _ = _; rw [add_yes HMT.out, Int.toNat_natCast]
      have W3 : Hid (Wnd x3 g (max D.top N) (addL D.top D.bits N)) := w3
      have B3 : Hid (Below w.heap.size w x3) := B2.out.trans (k3.below (by have := HG.out; omega) B2.out.size)
      have KO3 : Hid (Blk x3 (w.heap.size + 1) 26 [.int .i64 0, .slice none 0 0]) := KO2.out.keep (k3.block _ KO2.out.lt (.inl HG.out))
      clear w3 k3 B2 KO2 W2
      go_wp2_with fail
      refine (win g (max D.top N) (addL D.top D.bits N) x3 W3.out).mono ?_
      rw [← HAD.out]
      obtain ⟨D', hD'⟩ : ∃ D', addD D (N : Int) = D' := ⟨_, rfl⟩
      have HD' : Hid (addD D (N : Int) = D') := hD'
      rw [hD']
      clear hD'
      rintro e x4 ⟨S', rfl, o4, b4⟩
      have O4 : Hid (WnOwn x4 x3.heap.size x4.heap.size S' D') := o4
      have B4 : Hid (Below w.heap.size w x4) := B3.out.trans (b4.mono B3.out.size)
      have KO4 : Hid (Blk x4 (w.heap.size + 1) 26 [.int .i64 0, .slice none 0 0]) := KO3.out.later b4
      have HL3 : Hid (w.heap.size + 1 + 1 ≤ x3.heap.size) := KO3.out.lt
      clear o4 b4 B3 KO3 W3
      have q0 := KO4.out.cell 0 rfl
      have q1 := KO4.out.cell 1 rfl
      have f0 := KO4.out.frozen 0
      have f1 := KO4.out.frozen 1
      unfold wnV
      go_wp2
      obtain ⟨k5, o5, b5⟩ := stored KO4.out O4.out HL3.out
      exact bodyPost_ret (v := .tuple #[wnV D' S', .bool true]) (res2 rfl (is_cell rfl k5 aggWn) (is_tmp rfl)) rfl ⟨S', by rw [HD'.out, HMT.out], by rw [HD'.out]; exact o5.mono (by have := HL3.out; omega) (by rw [size2]; exact Nat.le_refl _), b5 _ _ (Nat.le_succ _) B4.out⟩
  · have HMF : Hid (winMay D.top D.bits n = false) := may_notok hk
    have B2 : Hid (Below w.heap.size w x1) := B1.out
    have KA2 : Hid (Blk x1 w.heap.size 26 [.int .i64 D.top, .slice S.bits.a S.bits.n S.bits.c]) := KA1.out
    have KO2 : Hid (Blk x1 (w.heap.size + 1) 26 [.int .i64 0, .slice none 0 0]) := KO1.out
    clear hk B1 KA1 KO1
    have c0 := KA2.out.cell 0 rfl
    have c1 := KA2.out.cell 1 rfl
    go_wp2_with fail
    refine (implCopy S D x1 (HR.out.later B2.out) hl).mono ?_
    rintro e x3 ⟨S', rfl, o3, b3⟩
    have O3 : Hid (WnOwn x3 x1.heap.size x3.heap.size S' D) := o3
    have B3 : Hid (Below w.heap.size w x3) := B2.out.trans (b3.mono B2.out.size)
    have KO3 : Hid (Blk x3 (w.heap.size + 1) 26 [.int .i64 0, .slice none 0 0]) := KO2.out.later b3
    have HL3 : Hid (w.heap.size + 1 + 1 ≤ x1.heap.size) := KO2.out.lt
    clear o3 b3 B2 KO2 KA2 c0 c1
    have q0 := KO3.out.cell 0 rfl
    have q1 := KO3.out.cell 1 rfl
    have f0 := KO3.out.frozen 0
    have f1 := KO3.out.frozen 1
    unfold wnV
    go_wp2
    obtain ⟨k4, o4, b4⟩ := stored KO3.out O3.out HL3.out
    exact bodyPost_ret (v := .tuple #[wnV D S', .bool false]) (res2 rfl (is_cell rfl k4 aggWn) (is_tmp rfl)) rfl ⟨S', by rw [add_no HMF.out, HMF.out], by rw [add_no HMF.out]; exact o4.mono (by have := HL3.out; omega) (by rw [size2]; exact Nat.le_refl _), b4 _ _ (Nat.le_succ _) B3.out⟩

set_option maxRecDepth 100000 in
set_option maxHeartbeats 2000000 in
theorem implWinList (S : WnS) (D : WnD) (w : World) (h : WnRd w S D) :
    Calls Try.prog 18 #[wnV D S] w fun e w' => ∃ q m c, e = .returned (.slice (some ⟨q, 0, none⟩) m c) ∧ m = (winList D.top D.bits).length ∧ w.heap.size ≤ q ∧ IRow w' q c (winList D.top D.bits) ∧ Below w.heap.size w w' := by
  have HR : Hid (WnRd w S D) := h
  obtain ⟨x0, hx0, k0, b0, _⟩ := boxed w D S
  have HW0 : Hid (_ = x0) := hx0
  have B0 : Hid (Below w.heap.size w x0) := b0
  have KA : Hid (Blk x0 w.heap.size 26 [.int .i64 D.top, .slice S.bits.a S.bits.n S.bits.c]) := k0
  clear h hx0 k0 b0
  have c0 := KA.out.cell 0 rfl
  have c1 := KA.out.cell 1 rfl
  unfold wnV
  go_enter Try.func18, Try.ntmps18
  go_upto_region 1 with fail
  rw [HW0.out]
  go_wp2_with fail
  refine (windowOf S D x0 (HR.out.later B0.out)).mono ?_
  rintro e x1 ⟨hc, b1⟩
  have B1 : Hid (Below w.heap.size w x1) := B0.out.trans (b1.mono B0.out.size)
  clear b1 c0 c1
  rcases hc with ⟨hk, g, rfl, _, hw⟩ | ⟨hk, rfl⟩
  · have HK : Hid (winOk D.top D.bits = true) := hk
    have HO : Hid (WOk D.top D.bits) := winOk_iff.1 hk
    have HW : Hid (Wnd x1 g D.top D.bits) := hw
    clear hk hw
    go_wp2_with fail
    refine (list g D.top D.bits x1 HW.out HO.out.lo HO.out.hi HK.out).mono ?_
    rintro e x2 ⟨q, m, c, rfl, em, hq, r2, b2⟩
    have EM : Hid (m = (winList D.top D.bits).length) := em
    have R2 : Hid (IRow x2 q c (winList D.top D.bits)) := r2
    have HQ : Hid (w.heap.size ≤ q) := Nat.le_trans B1.out.size hq
    have B2 : Hid (Below w.heap.size w x2) := B1.out.trans (b2.mono B1.out.size)
    clear em hq r2 b2
    go_wp2
    go_ret
    exact ⟨q, m, c, rfl, EM.out, HQ.out, R2.out, B2.out⟩
  · have HE : Hid (winList D.top D.bits = []) := by show _ = _; unfold winList; rw [if_neg (by rw [hk]; simp)]
    clear hk
    go_wp2
    go_ret
    exact ⟨x1.heap.size, 0, 0, rfl, by rw [HE.out]; rfl, B1.out.size, by rw [HE.out]; exact irow_new x1 [] (by simp), B1.out.alloc B1.out.size _⟩

end Go.Proofs.Ytmcflfpckpjphaa.WnK
