/-
  What spec's PskOk and ProofBody answer.
-/
import Derived.Test.YtpenhliaelhnoaaDoorKeP
import Derived.Test.YtpenhliaelhnoaaDoorShp
import Derived.Test.YtpenhliaelhnoaaDoorRes
namespace Go.Proofs.YtpenhliaelhnoaaDoor.KeS
open Go.RowKit Go.Proofs.YtpenhliaelhnoaaDoor.Mem Go.Proofs.YtpenhliaelhnoaaDoor.App Go.Proofs.YtpenhliaelhnoaaDoor.Blk Go.Proofs.YtpenhliaelhnoaaDoor.Words Go.Proofs.YtpenhliaelhnoaaDoor.Zone Go.Proofs.YtpenhliaelhnoaaDoor.Res Go.Proofs.YtpenhliaelhnoaaDoor.KeP Go.Proofs.YtpenhliaelhnoaaDoor.Shp

set_option maxRecDepth 100000 in
theorem nil_ans {w x : World} (b : Below w.heap.size w x) : AnsB [] w (.returned (.slice (some ⟨x.heap.size, 0, none⟩) 0 0)) (x.alloc (.cells #[] 5)) :=
  ⟨⟨some ⟨x.heap.size, 0, none⟩, 0, 0⟩, rfl, SOwn.row (row_new x [] (by simp)) rfl (fun z hz => by cases hz) b.size (by rw [World.size_alloc]; exact Nat.lt_succ_self _), b.alloc b.size _⟩

set_option maxRecDepth 100000 in
theorem specPskOk (s : Sl) (l : List Int) (w : World) (h : SRd w s l) :
    Calls Tryd.prog 39 #[.slice s.a s.n s.c] w fun e w' => e = .returned (.bool (pskOk l.length)) ∧ w = w' := by
  have HN : Hid (s.n = l.length) := h.len
  clear h
  go_enter Tryd.func39, Tryd.ntmps39
  go_wp2_with fail
  refine (Words.l1In (s.n : Int) 1 32 w).mono ?_
  rintro e y ⟨rfl, rfl⟩
  go_wp2
  go_ret
  exact ⟨by rw [← HN.out]; rfl, rfl⟩
set_option maxRecDepth 100000 in
theorem specPskOkB (s : Sl) (l : List Int) (w : World) (h : SRd w s l) :
    Calls Tryd.prog 39 #[.slice s.a s.n s.c] w fun e w' => e = .returned (.bool (pskOk l.length)) ∧ Below w.heap.size w w' :=
  (specPskOk s l w h).mono fun _ _ h => ⟨h.1, h.2 ▸ Below.refl _ _⟩

set_option maxRecDepth 100000 in
set_option maxHeartbeats 8000000 in
theorem specProofBody (id : Int) (c s : Sl) (cn sn : List Int) (tick : Int) (k : Sl) (ck : List Int) (w : World) (hc : SRd w c cn) (hs : SRd w s sn) (hk : SRd w k ck) :
    Calls Tryd.prog 42 #[.int .i64 id, .slice c.a c.n c.c, .slice s.a s.n s.c, .int .i64 tick, .slice k.a k.n k.c] w (AnsB (proofL id cn sn tick ck) w) := by
  have HC : Hid (SRd w c cn) := hc
  have HNC : Hid (c.n = cn.length) := hc.len
  have HZC : Hid (c.a = none → c.c = 0) := hc.nil
  have HS : Hid (SRd w s sn) := hs
  have HNS : Hid (s.n = sn.length) := hs.len
  have HZS : Hid (s.a = none → s.c = 0) := hs.nil
  have HK : Hid (SRd w k ck) := hk
  have HNK : Hid (k.n = ck.length) := hk.len
  have HZK : Hid (k.a = none → k.c = 0) := hk.nil
  obtain ⟨R, hR⟩ : ∃ R, proofL id cn sn tick ck = R := ⟨_, rfl⟩
  have HRD : Hid (proofL id cn sn tick ck = R) := hR
  rw [hR]
  clear hc hs hk hR
  obtain ⟨ca, cN, cc⟩ := c
  obtain ⟨sa, sN, sc⟩ := s
  obtain ⟨ka, kN, kc⟩ := k
  go_enter Tryd.func42, Tryd.ntmps42
  have B0 : Hid (Below w.heap.size w w) := Below.refl _ _
  go_wp2_with fail
  refine (Words.l1In id 1 9 w).mono ?_
  rintro e y ⟨rfl, rfl⟩
  cases h0 : (isIn id 1 9) with
  | false =>
    obtain rfl : R = [] := by rw [← HRD.out]; exact proofL_no (by have e1 := HNC.out; have e2 := HNS.out; have e3 := HNK.out; unfold proofF; rw [← e1, ← e2, ← e3]; simp [h0])
    go_wp2
    go_ret
    exact nil_ans B0.out
  | true =>
    cases h1 : ((cN : Int) == 12) with
    | false =>
      have hne : ((cN : Int) != 12) = true := by simpa using h1
      obtain rfl : R = [] := by rw [← HRD.out]; exact proofL_no (by have e1 := HNC.out; have e2 := HNS.out; have e3 := HNK.out; unfold proofF; rw [← e1, ← e2, ← e3]; simp [h0, h1])
      go_wp2
      go_ret
      exact nil_ans B0.out
    | true =>
      have hne1 : ((cN : Int) != 12) = false := by simpa using h1
      cases h2 : ((sN : Int) == 12) with
      | false =>
        have hne : ((sN : Int) != 12) = true := by simpa using h2
        obtain rfl : R = [] := by rw [← HRD.out]; exact proofL_no (by have e1 := HNC.out; have e2 := HNS.out; have e3 := HNK.out; unfold proofF; rw [← e1, ← e2, ← e3]; simp [h0, h1, h2])
        go_wp2
        go_ret
        exact nil_ans B0.out
      | true =>
        have hne2 : ((sN : Int) != 12) = false := by simpa using h2
        go_wp2_with fail
        refine (Words.l1In tick 0 1000000 w).mono ?_
        rintro e y ⟨rfl, rfl⟩
        cases h3 : (isIn tick 0 1000000) with
        | false =>
          obtain rfl : R = [] := by rw [← HRD.out]; exact proofL_no (by have e1 := HNC.out; have e2 := HNS.out; have e3 := HNK.out; unfold proofF; rw [← e1, ← e2, ← e3]; simp [h0, h1, h2, h3])
          go_wp2
          go_ret
          exact nil_ans B0.out
        | true =>
          cases h4 : ((kN : Int) == 16) with
          | false =>
            have hne : ((kN : Int) != 16) = true := by simpa using h4
            obtain rfl : R = [] := by rw [← HRD.out]; exact proofL_no (by have e1 := HNC.out; have e2 := HNS.out; have e3 := HNK.out; unfold proofF; rw [← e1, ← e2, ← e3]; simp [h0, h1, h2, h3, h4])
            go_wp2
            go_ret
            exact nil_ans B0.out
          | true =>
            have hne4 : ((kN : Int) != 16) = false := by simpa using h4
            have HF : Hid (proofF id cn.length sn.length tick ck.length = true) := by have e1 := HNC.out; have e2 := HNS.out; have e3 := HNK.out; show proofF _ _ _ _ _ = true; unfold proofF; rw [← e1, ← e2, ← e3]; simp [h0, h1, h2, h3, h4]
            have HP := proofF_parts HF.out
            have HL : Hid (cn.length = 12 ∧ sn.length = 12 ∧ ck.length = 16) := ⟨HP.2.1, HP.2.2.1, HP.2.2.2.2⟩
            have HI : Hid (1 ≤ id ∧ id ≤ 9) := HP.1
            have HQ : Hid ([102, id] ++ cn ++ sn ++ putN tick 4 ++ ck = R) := by show _ = _; rw [← HRD.out, proofL_yes HF.out]
            have hw8 : IntKind.u8.wrap id = id := by rw [IntKind.wrap_u8']; have := HI.out; omega
            clear HP h0 h1 h2 h3 h4
            have A1 : Hid (Below w.heap.size w (w.alloc (.cells #[.int .u8 102, .int .u8 id] 5))) := (Below.refl _ _).alloc (Nat.le_refl _) _
            have Q1 : Hid (Row (w.alloc (.cells #[.int .u8 102, .int .u8 id] 5)) w.heap.size 2 [102, id]) := row_new w [102, id] (by simp [maxLen])
            go_wp2_with (first | (at_builtin; refine wpList_app _ rfl (.tmp 38) (.tmp 39) rfl w.heap.size w.heap.size 2 2 ([102, id]) (cn) rfl rfl Q1.out (Nat.le_refl _) ca cN cc rfl HNC.out ((HC.out.rd).later A1.out (Nat.le_refl _)) HZC.out (by rw [HL.out.1]; simp) ?_; intro g2 c2 y2 rr bb ll gr; have R2 : Hid (Row y2 g2 c2 ([102, id] ++ cn)) := rr; have G2 : Hid (w.heap.size ≤ g2) := bb; have B2_ : Hid (Below w.heap.size w y2) := A1.out.grown gr A1.out.size (fun k h => by cases h; exact (Nat.le_refl _)); clear rr bb ll gr) | (at_builtin; refine wpList_app _ rfl (.tmp 40) (.tmp 41) rfl w.heap.size g2 (2 + cN) c2 ([102, id] ++ cn) (sn) rfl (by rw [List.length_append, HNC.out]; rfl) R2.out G2.out sa sN sc rfl HNS.out ((HS.out.rd).later B2_.out (Nat.le_refl _)) HZS.out (by rw [List.length_append, HL.out.1, HL.out.2.1]; simp) ?_; intro g3 c3 y3 rr bb ll gr; have R3 : Hid (Row y3 g3 c3 ([102, id] ++ cn ++ sn)) := rr; have G3 : Hid (w.heap.size ≤ g3) := bb; have B3_ : Hid (Below w.heap.size w y3) := B2_.out.grown gr B2_.out.size (fun k h => by cases h; exact G2.out); clear rr bb ll gr))
            refine (specPutN (some ⟨g3, 0, none⟩) (2 + cN + sN) c3 ([102, id] ++ cn ++ sn) tick 4 y3 (by have e1 := HNC.out; have e2 := HNS.out; rw [List.length_append, List.length_append, ← e1, ← e2]; rfl) R3.out.rd (by intro e; cases e) (by rw [List.length_append, List.length_append, HL.out.1, HL.out.2.1]; simp)).mono ?_
            rintro e y4 ⟨g4, m4, c4, rfl, em, kg, rr, b⟩
            have E4 : Hid (m4 = ([102, id] ++ cn ++ sn ++ putN tick 4).length) := em
            have R4 : Hid (Row y4 g4 c4 ([102, id] ++ cn ++ sn ++ putN tick 4)) := rr
            have G4 : Hid (w.heap.size ≤ g4) := Nat.le_trans B3_.out.size kg
            have B4_ : Hid (Below w.heap.size w y4) := B3_.out.trans (b.mono B3_.out.size)
            have L4 : Hid (([102, id] ++ cn ++ sn ++ putN tick 4).length = 30) := by show _ = _; rw [List.length_append, List.length_append, List.length_append, putN4_len, HL.out.1, HL.out.2.1]; rfl
            obtain rfl : 30 = m4 := by rw [em, L4.out]
            clear em kg rr b
            go_wp2_with (at_builtin; refine wpList_app _ rfl (.tmp 45) (.tmp 46) rfl w.heap.size g4 30 c4 ([102, id] ++ cn ++ sn ++ putN tick 4) (ck) rfl E4.out R4.out G4.out ka kN kc rfl HNK.out ((HK.out.rd).later B4_.out (Nat.le_refl _)) HZK.out (by rw [L4.out, HL.out.2.2]; simp) ?_; intro g5 c5 y5 rr bb ll gr; have R5 : Hid (Row y5 g5 c5 ([102, id] ++ cn ++ sn ++ putN tick 4 ++ ck)) := rr; have G5 : Hid (w.heap.size ≤ g5) := bb; have B5_ : Hid (Below w.heap.size w y5) := B4_.out.grown gr B4_.out.size (fun k h => by cases h; exact G4.out); clear rr bb ll gr)
            have R6 : Hid (Row y5 g5 c5 R) := by rw [← HQ.out]; exact R5.out
            have E6 : Hid (30 + kN = R.length) := by rw [← HQ.out]; show _ = _; rw [List.length_append, L4.out, HNK.out]
            have HRB : Hid (Bytes R) := by rw [← HRD.out]; exact proofL_bytes HC.out.bytes HS.out.bytes HK.out.bytes
            go_ret
            exact ⟨⟨some ⟨g5, 0, none⟩, 30 + kN, c5⟩, by simp, SOwn.row R6.out E6.out HRB.out G5.out R6.out.lt, B5_.out⟩
end Go.Proofs.YtpenhliaelhnoaaDoor.KeS
