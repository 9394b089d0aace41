/-
  What impl's Compress answers at every slice of ints and every slice of bytes of at most 4,194,304 each, where the table of round words holds what the program's text lays into it: what spec's answers, in new memory.
-/
import Derived.Test.YtippfkoondknkaaDoorWordsOf
import Derived.Test.YtippfkoondknkaaDoorCompS
namespace Go.Proofs.YtippfkoondknkaaDoor.CompI
open Go.RowKit Go.Proofs.YtippfkoondknkaaDoor.Mem Go.Proofs.YtippfkoondknkaaDoor.MemI Go.Proofs.YtippfkoondknkaaDoor.Blk Go.Proofs.YtippfkoondknkaaDoor.App Go.Proofs.YtippfkoondknkaaDoor.Get Go.Proofs.YtippfkoondknkaaDoor.ShaP Go.Proofs.YtippfkoondknkaaDoor.Word Go.Proofs.YtippfkoondknkaaDoor.Bits Go.Proofs.YtippfkoondknkaaDoor.Sched Go.Proofs.YtippfkoondknkaaDoor.Words Go.Proofs.YtippfkoondknkaaDoor.WordsOf Go.Proofs.YtippfkoondknkaaDoor.Comp Go.Proofs.YtippfkoondknkaaDoor.CompS

set_option maxHeartbeats 2000000 in
theorem implCompress (a0 : Option Addr) (n0 c0 : Nat) (h : List Int) (a : Option Addr) (n cap : Nat) (b : List Int) (w : World) (hT : Tab w)
    (hn0 : n0 = h.length) (hh : IRd w a0 h) (na : a0 = none → c0 = 0) (hl0 : n0 ≤ 4194304) (hn : n = b.length) (hr : Rd w a b) (hb : Bytes b) (hl : n ≤ 4194304) (hc : n ≤ cap) :
    Calls Tryd.prog 23 #[.slice a0 n0 c0, .slice a n cap] w fun e w' =>
      ∃ g m c, e = .returned (.slice (some ⟨g, 0, none⟩) m c) ∧ m = (compI h b).length ∧ w.heap.size ≤ g ∧ IRow w' g c (compI h b) ∧ Below w.heap.size w w' := by
  have HT : Hid (Tab w) := hT
  have HH : Hid (IRd w a0 h) := hh
  have HN0 : Hid (n0 = h.length) := hn0
  have HN : Hid (n = b.length) := hn
  have HR : Hid (Rd w a b) := hr
  have HB : Hid (Bytes b) := hb
  have HCL : Hid ((compI h b).length = h.length) := compI_length h b
  clear hh hn0 hn hr hb hT
  by_cases hk : okw h = true
  · by_cases h64 : n = 64
    · subst h64
      have H8 : Hid (h.length = 8) := ((okw_iff h).1 hk).1
      have HW : Hid (Wds h) := ((okw_iff h).1 hk).2
      have HC : Hid (compI h b = comp h b) := by show _ = _; unfold compI; rw [if_pos ⟨hk, HN.out.symm⟩]
      go_enter Tryd.func23, Tryd.ntmps23
      go_wp2_with fail
      refine (wordsOf a0 n0 c0 h w HN0.out HH.out (by omega)).mono ?_
      rintro e w1 ⟨G, rfl, hG, _, b1⟩
      obtain rfl := hG hk
      have B1 : Hid (Below w.heap.size w w1) := b1
      clear hG b1
      obtain ⟨y0, y1, y2, y3, y4, y5, y6, y7, e8⟩ : ∃ y0 y1 y2 y3 y4 y5 y6 y7, G = [y0, y1, y2, y3, y4, y5, y6, y7] := by
        match G, H8.out with
        | [y0, y1, y2, y3, y4, y5, y6, y7], _ => exact ⟨_, _, _, _, _, _, _, _, rfl⟩
      have E8 : Hid (G = [y0, y1, y2, y3, y4, y5, y6, y7]) := e8
      rw [e8] at hk ⊢
      rw [← ints8, hk]
      clear e8 hk
      obtain ⟨w2, hw2⟩ : ∃ w2, w1.alloc (.cells #[.int .i64 y0, .int .i64 y1, .int .i64 y2, .int .i64 y3, .int .i64 y4, .int .i64 y5, .int .i64 y6, .int .i64 y7] 67) = w2 := ⟨_, rfl⟩
      have HW2 : Hid (w1.alloc (.cells #[.int .i64 y0, .int .i64 y1, .int .i64 y2, .int .i64 y3, .int .i64 y4, .int .i64 y5, .int .i64 y6, .int .i64 y7] 67) = w2) := hw2
      have B2 : Hid (Below w.heap.size w w2) := by rw [← hw2]; exact B1.out.alloc B1.out.size _
      have K2 : Hid (Blk w2 w1.heap.size 67 (G.map (Value.int .i64) ++ [])) := by
        rw [← hw2, E8.out, List.append_nil]; exact Blk.new _ _ _
      have HG1 : Hid (w.heap.size ≤ w1.heap.size) := B1.out.size
      clear hw2
      go_wp2_with fail
      rw [HW2.out]
      refine (compress w1.heap.size 67 G [] a cap b w2 K2.out (by simp) H8.out HW.out (HT.out.later B2.out) HN.out.symm (HR.out.later B2.out (Nat.le_refl _)) HB.out hc).mono ?_
      rintro e w3 ⟨rfl, k3, g3⟩
      have B3 : Hid (Below w.heap.size w w3) := B2.out.grown g3 B2.out.size (fun k h => by cases h; exact HG1.out)
      have K3 : Hid (Blk w3 w1.heap.size 67 ((comp G b).map (Value.int .i64) ++ [])) := k3
      have HCP : Hid ((comp G b).length = 8) := comp_length G b
      clear k3 g3
      go_wp2_with fail
      refine (listOf w1.heap.size 67 (comp G b) [] w3 K3.out HCP.out).mono ?_
      rintro e w4 ⟨g, c, rfl, h3, h4, h5⟩
      have H3 : Hid (w.heap.size ≤ g) := Nat.le_trans B3.out.size h3
      have H4 : Hid (IRow w4 g c (comp G b)) := h4
      have H5 : Hid (Below w.heap.size w w4) := B3.out.trans (h5.mono B3.out.size)
      clear h3 h4 h5
      go_wp2
      go_ret
      exact ⟨g, 8, c, rfl, by rw [HCL.out, H8.out], H3.out, by rw [HC.out]; exact H4.out, H5.out⟩
    · have HC : Hid (compI h b = h) := by show _ = _; unfold compI; rw [if_neg (fun e => h64 (HN.out.trans e.2))]
      have hne : ((n : Int) != 64) = true := by simp; omega
      clear h64
      go_enter Tryd.func23, Tryd.ntmps23
      go_wp2_with fail
      refine (wordsOf a0 n0 c0 h w HN0.out HH.out (by omega)).mono ?_
      rintro e w1 ⟨G, rfl, _, hG8, b1⟩
      have B1 : Hid (Below w.heap.size w w1) := b1
      clear b1
      obtain ⟨y0, y1, y2, y3, y4, y5, y6, y7, rfl⟩ : ∃ y0 y1 y2 y3 y4 y5 y6 y7, G = [y0, y1, y2, y3, y4, y5, y6, y7] := by
        match G, hG8 with
        | [y0, y1, y2, y3, y4, y5, y6, y7], _ => exact ⟨_, _, _, _, _, _, _, _, rfl⟩
      rw [← ints8, hk]
      clear hG8
      obtain ⟨w2, hw2⟩ : ∃ w2, w1.alloc (.cells #[.int .i64 y0, .int .i64 y1, .int .i64 y2, .int .i64 y3, .int .i64 y4, .int .i64 y5, .int .i64 y6, .int .i64 y7] 67) = w2 := ⟨_, rfl⟩
      have HW2 : Hid (w1.alloc (.cells #[.int .i64 y0, .int .i64 y1, .int .i64 y2, .int .i64 y3, .int .i64 y4, .int .i64 y5, .int .i64 y6, .int .i64 y7] 67) = w2) := hw2
      have B2 : Hid (Below w.heap.size w w2) := by rw [← hw2]; exact B1.out.alloc B1.out.size _
      have S2 : Hid (w1.heap.size + 1 = w2.heap.size) := by rw [← hw2]; show _ = _; simp
      have B3 : Hid (Below w.heap.size w (w2.alloc (.cells #[] 3))) := B2.out.alloc B2.out.size _
      have R0 : Hid (IRow (w2.alloc (.cells #[] 3)) w2.heap.size 0 []) := irow_new w2 [] (by simp)
      clear hw2
      go_wp2_with (at_builtin; rw [HW2.out]; rw [S2.out]; refine iwpList_app _ rfl (.tmp 19) (.tmp 20) rfl w.heap.size w2.heap.size 0 0 [] h rfl rfl R0.out B2.out.size a0 n0 c0 rfl HN0.out (HH.out.later B3.out (Nat.le_refl _)) na (by rw [← HN0.out]; simp; omega) ?_; intro g1 c1 w3 r1 b1 l1 gr1; have R1 : Hid (IRow w3 g1 c1 h) := (List.nil_append h) ▸ r1; have B4 : Hid (Below w.heap.size w w3) := B3.out.grown gr1 B3.out.size (fun k h => by cases h; exact B2.out.size); clear r1 gr1 l1)
      go_ret
      exact ⟨g1, _, c1, rfl, by rw [HCL.out, ← HN0.out], b1, by rw [HC.out]; exact R1.out, B4.out⟩
  · have hkf : okw h = false := by simpa using hk
    have HC : Hid (compI h b = h) := by show _ = _; unfold compI; rw [if_neg (fun e => hk e.1)]
    clear hk
    go_enter Tryd.func23, Tryd.ntmps23
    go_wp2_with fail
    refine (wordsOf a0 n0 c0 h w HN0.out HH.out (by omega)).mono ?_
    rintro e w1 ⟨G, rfl, _, hG8, b1⟩
    have B1 : Hid (Below w.heap.size w w1) := b1
    clear b1
    obtain ⟨y0, y1, y2, y3, y4, y5, y6, y7, rfl⟩ : ∃ y0 y1 y2 y3 y4 y5 y6 y7, G = [y0, y1, y2, y3, y4, y5, y6, y7] := by
      match G, hG8 with
      | [y0, y1, y2, y3, y4, y5, y6, y7], _ => exact ⟨_, _, _, _, _, _, _, _, rfl⟩
    rw [← ints8, hkf]
    clear hG8
    obtain ⟨w2, hw2⟩ : ∃ w2, w1.alloc (.cells #[.int .i64 y0, .int .i64 y1, .int .i64 y2, .int .i64 y3, .int .i64 y4, .int .i64 y5, .int .i64 y6, .int .i64 y7] 67) = w2 := ⟨_, rfl⟩
    have HW2 : Hid (w1.alloc (.cells #[.int .i64 y0, .int .i64 y1, .int .i64 y2, .int .i64 y3, .int .i64 y4, .int .i64 y5, .int .i64 y6, .int .i64 y7] 67) = w2) := hw2
    have B2 : Hid (Below w.heap.size w w2) := by rw [← hw2]; exact B1.out.alloc B1.out.size _
    have S2 : Hid (w1.heap.size + 1 = w2.heap.size) := by rw [← hw2]; show _ = _; simp
    have B3 : Hid (Below w.heap.size w (w2.alloc (.cells #[] 3))) := B2.out.alloc B2.out.size _
    have R0 : Hid (IRow (w2.alloc (.cells #[] 3)) w2.heap.size 0 []) := irow_new w2 [] (by simp)
    clear hw2
    go_wp2_with (at_builtin; rw [HW2.out]; rw [S2.out]; refine iwpList_app _ rfl (.tmp 19) (.tmp 20) rfl w.heap.size w2.heap.size 0 0 [] h rfl rfl R0.out B2.out.size a0 n0 c0 rfl HN0.out (HH.out.later B3.out (Nat.le_refl _)) na (by rw [← HN0.out]; simp; omega) ?_; intro g1 c1 w3 r1 b1 l1 gr1; have R1 : Hid (IRow w3 g1 c1 h) := (List.nil_append h) ▸ r1; have B4 : Hid (Below w.heap.size w w3) := B3.out.grown gr1 B3.out.size (fun k h => by cases h; exact B2.out.size); clear r1 gr1 l1)
    go_ret
    exact ⟨g1, _, c1, rfl, by rw [HCL.out, ← HN0.out], b1, by rw [HC.out]; exact R1.out, B4.out⟩
end Go.Proofs.YtippfkoondknkaaDoor.CompI
