/-
  What spec's JarOk, MintBody and Fresh answer.
-/
import Derived.Test.YtpgapjdejelajaaDoorCkP
import Derived.Test.YtpgapjdejelajaaDoorShp
import Derived.Test.YtpgapjdejelajaaDoorAppAt
namespace Go.Proofs.YtpgapjdejelajaaDoor.CkS
open Go.RowKit Go.Proofs.YtpgapjdejelajaaDoor.Mem Go.Proofs.YtpgapjdejelajaaDoor.App Go.Proofs.YtpgapjdejelajaaDoor.Blk Go.Proofs.YtpgapjdejelajaaDoor.Words Go.Proofs.YtpgapjdejelajaaDoor.Zone Go.Proofs.YtpgapjdejelajaaDoor.Res Go.Proofs.YtpgapjdejelajaaDoor.AddrP Go.Proofs.YtpgapjdejelajaaDoor.AddrS Go.Proofs.YtpgapjdejelajaaDoor.JaZ Go.Proofs.YtpgapjdejelajaaDoor.JaL Go.Proofs.YtpgapjdejelajaaDoor.CkP Go.Proofs.YtpgapjdejelajaaDoor.Shp

set_option maxRecDepth 100000 in
theorem nil_ans {w x : World} (b : Below w.heap.size w x) : AnsB [] w (.returned (.slice (some ⟨x.heap.size, 0, none⟩) 0 0)) (x.alloc (.cells #[] 5)) :=
  ⟨⟨some ⟨x.heap.size, 0, none⟩, 0, 0⟩, rfl, SOwn.row (row_new x [] (by simp)) rfl (fun z hz => by cases hz) b.size (by rw [World.size_alloc]; exact Nat.lt_succ_self _), b.alloc b.size _⟩

set_option maxRecDepth 100000 in
set_option maxHeartbeats 4000000 in
theorem specJarOk (S : JaS) (D : JaD) (w : World) (h : JaRd w S D) :
    Calls Tryd.prog 24 #[jaV D S] w fun e w' => e = .returned (.bool (jarOk D)) ∧ Below w.heap.size w w' := by
  have HN : Hid (((S.secret.n : Int) == 32) = jarOk D) := by show _ = _; rw [h.secret.len]; rfl
  have B0 : Hid (Below w.heap.size w (w.alloc (.cells #[.slice S.secret.a S.secret.n S.secret.c] 24))) := (Below.refl _ _).alloc (Nat.le_refl _) _
  have K0 : Hid (Blk (w.alloc (.cells #[.slice S.secret.a S.secret.n S.secret.c] 24)) w.heap.size 24 [.slice S.secret.a S.secret.n S.secret.c]) := Blk.new w _ _
  have d0 := K0.out.cell 0 rfl
  clear h
  unfold jaV
  go_enter Tryd.func24, Tryd.ntmps24
  go_wp2
  go_ret
  exact ⟨by rw [← HN.out]; rfl, B0.out⟩

set_option maxRecDepth 100000 in
set_option maxHeartbeats 8000000 in
theorem specMintBody (h p id : Int) (c s : Sl) (cn sn : List Int) (tick : Int) (w : World) (hc : SRd w c cn) (hs : SRd w s sn) :
    Calls Tryd.prog 23 #[addrV h p, .int .i64 id, .slice c.a c.n c.c, .slice s.a s.n s.c, .int .i64 tick] w (AnsB (mintL h p id cn sn tick) w) := by
  have HC : Hid (SRd w c cn) := hc
  have HS : Hid (SRd w s sn) := hs
  have HNC : Hid (c.n = cn.length) := hc.len
  have HNS : Hid (s.n = sn.length) := hs.len
  have HZC : Hid (c.a = none → c.c = 0) := hc.nil
  have HZS : Hid (s.a = none → s.c = 0) := hs.nil
  obtain ⟨R, hR⟩ : ∃ R, mintL h p id cn sn tick = R := ⟨_, rfl⟩
  have HRD : Hid (mintL h p id cn sn tick = R) := hR
  rw [hR]
  clear hc hs hR
  obtain ⟨ca, cN, cc⟩ := c
  obtain ⟨sa, sN, sc⟩ := s
  unfold addrV
  go_enter Tryd.func23, Tryd.ntmps23
  obtain ⟨x1, hx1⟩ : ∃ x1, w.alloc (.cells #[.int .i64 h, .int .i64 p] 38) = x1 := ⟨_, rfl⟩
  have HW1 : Hid (w.alloc (.cells #[.int .i64 h, .int .i64 p] 38) = x1) := hx1
  have b1 : Below w.heap.size w x1 := by rw [← hx1]; exact (Below.refl _ _).alloc (Nat.le_refl _) _
  have KN : Blk x1 w.heap.size 38 [.int .i64 h, .int .i64 p] := by rw [← hx1]; exact Blk.new w _ _
  have HSZ1 : Hid (x1.heap.size = w.heap.size + 1) := by rw [← hx1]; show _ = _; simp
  clear hx1
  have L1 : Hid (w.heap.size ≤ x1.heap.size) := b1.size
  have B1 : Hid (Below w.heap.size w x1) := b1
  clear b1
  go_upto_region 1 with fail
  rw [HW1.out]
  obtain ⟨ga, hga⟩ : ∃ g, w.heap.size = g := ⟨_, rfl⟩
  have Gga : Hid (w.heap.size = ga ∧ x1.heap.size = ga + 1) := ⟨hga, by rw [← hga]; exact HSZ1.out⟩
  rw [hga] at KN ⊢
  clear HW1 HSZ1 hga
  have KA1 : Hid (Blk x1 ga 38 [.int .i64 h, .int .i64 p]) := KN
  clear KN
  have d0 := KA1.out.cell 0 rfl
  have d1 := KA1.out.cell 1 rfl
  go_wp2_with fail
  refine (specAddrOk h p x1).mono ?_
  rintro e x2 ⟨rfl, b⟩
  have L2 : Hid (x1.heap.size ≤ x2.heap.size) := b.size
  have B2 : Hid (Below w.heap.size w x2) := B1.out.trans (b.mono B1.out.size)
  have KA2 : Hid (Blk x2 ga 38 [.int .i64 h, .int .i64 p]) := KA1.out.later b
  clear b B1 KA1
  clear d0 d1
  cases h0 : (addrOk h p) with
  | false =>
    obtain rfl : R = [] := by rw [← HRD.out]; exact mintL_no (by have e1 := HNC.out; have e2 := HNS.out; unfold mintF; rw [← e1, ← e2]; simp [h0])
    go_wp2
    go_ret
    exact nil_ans B2.out
  | true =>
    go_wp2_with fail
    refine (Words.l1In id 1 9 x2).mono ?_
    rintro e y ⟨rfl, rfl⟩
    cases h1 : (isIn id 1 9) with
    | false =>
      obtain rfl : R = [] := by rw [← HRD.out]; exact mintL_no (by have e1 := HNC.out; have e2 := HNS.out; unfold mintF; rw [← e1, ← e2]; simp [h0, h1])
      go_wp2
      go_ret
      exact nil_ans B2.out
    | true =>
      cases h2 : ((cN : Int) == 12) with
      | false =>
        have hne : ((cN : Int) != 12) = true := by simpa using h2
        obtain rfl : R = [] := by rw [← HRD.out]; exact mintL_no (by have e1 := HNC.out; have e2 := HNS.out; unfold mintF; rw [← e1, ← e2]; simp [h0, h1, h2])
        go_wp2
        go_ret
        exact nil_ans B2.out
      | true =>
        have hne2 : ((cN : Int) != 12) = false := by simpa using h2
        cases h3 : ((sN : Int) == 12) with
        | false =>
          have hne : ((sN : Int) != 12) = true := by simpa using h3
          obtain rfl : R = [] := by rw [← HRD.out]; exact mintL_no (by have e1 := HNC.out; have e2 := HNS.out; unfold mintF; rw [← e1, ← e2]; simp [h0, h1, h2, h3])
          go_wp2
          go_ret
          exact nil_ans B2.out
        | true =>
          have hne3 : ((sN : Int) != 12) = false := by simpa using h3
          go_wp2_with fail
          refine (Words.l1In tick 0 1000000 x2).mono ?_
          rintro e y ⟨rfl, rfl⟩
          cases h4 : (isIn tick 0 1000000) with
          | false =>
            obtain rfl : R = [] := by rw [← HRD.out]; exact mintL_no (by have e1 := HNC.out; have e2 := HNS.out; unfold mintF; rw [← e1, ← e2]; simp [h0, h1, h2, h3, h4])
            go_wp2
            go_ret
            exact nil_ans B2.out
          | true =>
            have HF : Hid (mintF h p id cn.length sn.length tick = true) := by have e1 := HNC.out; have e2 := HNS.out; show mintF _ _ _ _ _ _ = true; unfold mintF; rw [← e1, ← e2]; simp [h0, h1, h2, h3, h4]
            have HP := mintF_parts HF.out
            have HL : Hid (cn.length = 12 ∧ sn.length = 12) := ⟨HP.2.2.1, HP.2.2.2.1⟩
            have HI : Hid (1 ≤ id ∧ id ≤ 9) := HP.2.1
            have HQ : Hid (putA [99] h p ++ [id] ++ cn ++ sn ++ putN tick 4 = R) := by show _ = _; rw [← HRD.out, mintL_yes HF.out]
            have hw8 : IntKind.u8.wrap id = id := by rw [IntKind.wrap_u8']; have := HI.out; omega
            have HLP : Hid ((putA [99] h p).length = 7) := putA_len h0 [99]
            clear HP h0 h1 h2 h3 h4
            have d0 := KA2.out.cell 0 rfl
            have d1 := KA2.out.cell 1 rfl
            have KAq := KA2.out.alloc (.cells #[.int .u8 99] 5)
            have e0 := KAq.cell 0 rfl
            have e1 := KAq.cell 1 rfl
            go_wp2_with fail
            obtain ⟨x3, hx3⟩ : ∃ zz, x2.alloc (.cells #[.int .u8 99] 5) = zz := ⟨_, rfl⟩
            have HW3 : Hid (x2.alloc (.cells #[.int .u8 99] 5) = x3) := hx3
            have b : Below x2.heap.size x2 x3 := by rw [← hx3]; exact (Below.refl _ _).alloc (Nat.le_refl _) _
            have R9 : Row x3 x2.heap.size 1 [99] := by rw [← hx3]; exact row_new x2 [99] (by simp [maxLen])
            clear hx3 KAq e0 e1
            clear d0 d1
            clear KA2
            have L3 : Hid (x2.heap.size ≤ x3.heap.size) := b.size
            have B3 : Hid (Below w.heap.size w x3) := B2.out.trans (b.mono B2.out.size)
            clear b B2
            rw [HW3.out]
            refine (specPutAddr (some ⟨x2.heap.size, 0, none⟩) 1 1 [99] h p x3 rfl R9.rd (by intro e; cases e) (by omega)).mono ?_
            rintro e x4 ⟨g1, m1, c1, rfl, em, kg, rr, b⟩
            have R1 : Hid (Row x4 g1 c1 (putA [99] h p)) := rr
            have E1 : Hid (m1 = (putA [99] h p).length) := em
            obtain rfl : 7 = m1 := by rw [em, HLP.out]
            have G1 : Hid (w.heap.size ≤ g1) := Nat.le_trans B3.out.size kg
            clear em kg rr R9 HW3
            have L4 : Hid (x3.heap.size ≤ x4.heap.size) := b.size
            have B4 : Hid (Below w.heap.size w x4) := B3.out.trans (b.mono B3.out.size)
            clear b B3
            have A1 : Hid (Below w.heap.size w (x4.alloc (.cells #[.int .u8 id] 5))) := B4.out.alloc B4.out.size _
            have Q1 : Hid (Row (x4.alloc (.cells #[.int .u8 id] 5)) g1 c1 (putA [99] h p)) := row_alloc R1.out _
            have Q2 : Hid (Rd (x4.alloc (.cells #[.int .u8 id] 5)) (some ⟨x4.heap.size, 0, none⟩) [id]) := (row_new x4 [id] (by simp [maxLen])).rd
            go_wp2_with (first | (at_builtin; refine wpList_app _ rfl (.tmp 38) (.tmp 41) rfl w.heap.size g1 7 c1 (putA [99] h p) ([id]) rfl E1.out Q1.out G1.out (some ⟨x4.heap.size, 0, none⟩) 1 1 rfl rfl Q2.out (by intro e; cases e) (by rw [HLP.out]; simp) ?_; intro g2 c2 y2 rr bb ll gr; have R2 : Hid (Row y2 g2 c2 (putA [99] h p ++ [id])) := rr; have G2 : Hid (w.heap.size ≤ g2) := bb; have B2_ : Hid (Below w.heap.size w y2) := A1.out.grown gr A1.out.size (fun k h => by cases h; exact G1.out); clear rr bb ll gr) | (at_builtin; refine wpList_app _ rfl (.tmp 43) (.tmp 44) rfl w.heap.size g2 8 c2 (putA [99] h p ++ [id]) (cn) rfl (by rw [List.length_append, HLP.out]; rfl) R2.out G2.out ca cN cc rfl HNC.out ((HC.out.rd).later B2_.out (Nat.le_refl _)) HZC.out (by rw [List.length_append, HLP.out, HL.out.1]; simp) ?_; intro g3 c3 y3 rr bb ll gr; have R3 : Hid (Row y3 g3 c3 (putA [99] h p ++ [id] ++ cn)) := rr; have G3 : Hid (w.heap.size ≤ g3) := bb; have B3_ : Hid (Below w.heap.size w y3) := B2_.out.grown gr B2_.out.size (fun k h => by cases h; exact G2.out); clear rr bb ll gr) | (at_builtin; refine wpList_app _ rfl (.tmp 45) (.tmp 46) rfl w.heap.size g3 (8 + cN) c3 (putA [99] h p ++ [id] ++ cn) (sn) rfl (by rw [List.length_append, List.length_append, HLP.out, HNC.out]; rfl) R3.out G3.out sa sN sc rfl HNS.out ((HS.out.rd).later B3_.out (Nat.le_refl _)) HZS.out (by rw [List.length_append, List.length_append, HLP.out, HL.out.1, HL.out.2]; simp) ?_; intro g4 c4 y4 rr bb ll gr; have R4 : Hid (Row y4 g4 c4 (putA [99] h p ++ [id] ++ cn ++ sn)) := rr; have G4 : Hid (w.heap.size ≤ g4) := bb; have B4_ : Hid (Below w.heap.size w y4) := B3_.out.grown gr B3_.out.size (fun k h => by cases h; exact G3.out); clear rr bb ll gr))
            refine (specPutN (some ⟨g4, 0, none⟩) (8 + cN + sN) c4 (putA [99] h p ++ [id] ++ cn ++ sn) tick 4 y4 (by have e1 := HNC.out; have e2 := HNS.out; rw [List.length_append, List.length_append, List.length_append, HLP.out, ← e1, ← e2]; rfl) R4.out.rd (by intro e; cases e) (by rw [List.length_append, List.length_append, List.length_append, HLP.out, HL.out.1, HL.out.2]; simp)).mono ?_
            rintro e y5 ⟨g5, m5, c5, rfl, em, kg, rr, b⟩
            have E5 : Hid (m5 = R.length) := by rw [← HQ.out]; exact em
            have R5 : Hid (Row y5 g5 c5 R) := by rw [← HQ.out]; exact rr
            have G5 : Hid (w.heap.size ≤ g5) := Nat.le_trans B4_.out.size kg
            have B5 : Hid (Below w.heap.size w y5) := B4_.out.trans (b.mono B4_.out.size)
            have HRB : Hid (Bytes R) := by rw [← HRD.out]; exact mintL_bytes HC.out.bytes HS.out.bytes
            clear em kg rr b
            go_wp2
            go_ret
            exact ⟨⟨some ⟨g5, 0, none⟩, m5, c5⟩, rfl, SOwn.row R5.out E5.out HRB.out G5.out R5.out.lt, B5.out⟩
end Go.Proofs.YtpgapjdejelajaaDoor.CkS
