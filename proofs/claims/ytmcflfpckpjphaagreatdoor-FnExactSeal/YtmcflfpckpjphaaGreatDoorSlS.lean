/-
  What spec lays as a head, and as what a tag is of.
-/
import Derived.Test.YtmcflfpckpjphaaGreatDoorSlP
import Derived.Test.YtmcflfpckpjphaaGreatDoorFrS
import Derived.Test.YtmcflfpckpjphaaGreatDoorFrQ2
import Derived.Test.YtmcflfpckpjphaaGreatDoorAppStep
import Derived.Test.YtmcflfpckpjphaaGreatDoorAppAt
namespace Go.Proofs.YtmcflfpckpjphaaGreatDoor.SlS
open Go.RowKit Go.Proofs.YtmcflfpckpjphaaGreatDoor.Mem Go.Proofs.YtmcflfpckpjphaaGreatDoor.App Go.Proofs.YtmcflfpckpjphaaGreatDoor.AppAt Go.Proofs.YtmcflfpckpjphaaGreatDoor.AppStep Go.Proofs.YtmcflfpckpjphaaGreatDoor.Blk Go.Proofs.YtmcflfpckpjphaaGreatDoor.Words Go.Proofs.YtmcflfpckpjphaaGreatDoor.Zone Go.Proofs.YtmcflfpckpjphaaGreatDoor.Res Go.Proofs.YtmcflfpckpjphaaGreatDoor.FrZ Go.Proofs.YtmcflfpckpjphaaGreatDoor.FrP Go.Proofs.YtmcflfpckpjphaaGreatDoor.FrG Go.Proofs.YtmcflfpckpjphaaGreatDoor.FrQ Go.Proofs.YtmcflfpckpjphaaGreatDoor.FrS Go.Proofs.YtmcflfpckpjphaaGreatDoor.FrQ2 Go.Proofs.YtmcflfpckpjphaaGreatDoor.SlP

set_option maxRecDepth 100000 in
theorem new_nil {w x : World} (b : Below w.heap.size w x) : New w [] (.returned (.slice (some ⟨x.heap.size, 0, none⟩) 0 0)) (x.alloc (.cells #[] 5)) :=
  ⟨x.heap.size, 0, 0, rfl, rfl, b.size, ⟨Nat.le_refl _, by unfold maxLen; omega, #[], heap_alloc_new x _, rfl, rfl⟩, b.alloc b.size _⟩
set_option maxRecDepth 100000 in
theorem putNum (n : Int) (k : Nat) (h : 1 ≤ k) (h6 : k ≤ 6) : putN n (k : Int) = num n k := by unfold putN; rw [if_pos (by omega)]; rfl
set_option maxRecDepth 100000 in
theorem lay_head {role : Int} {l : List Int} {epoch seq : Int} (h : headOk role l.length epoch seq = true) : [role] ++ l ++ putN epoch 4 ++ putN seq 6 = headL role l epoch seq := by
  rw [headL_yes _ _ _ _ h]; rfl
set_option maxRecDepth 100000 in
theorem sputK (s : Sl) (x : List Int) (n k : Int) (w : World) (hx : SRd w s x) (lx : x.length ≤ 100000) :
    Calls Tryz.prog 102 #[.slice s.a s.n s.c, .int .i64 n, .int .i64 k] w (New w (x ++ putN n k)) := specPutN s.a s.n s.c x n k w hx.len hx.rd hx.nil (by omega)

set_option maxRecDepth 100000 in
set_option maxHeartbeats 8000000 in
theorem specHeadOf (role : Int) (s : Sl) (l : List Int) (epoch seq : Int) (w : World) (h : SRd w s l) :
    Calls Tryz.prog 60 #[.int .i64 role, .slice s.a s.n s.c, .int .i64 epoch, .int .i64 seq] w (New w (headL role l epoch seq)) := by
  have HR : Hid (SRd w s l) := h
  obtain ⟨H, hH⟩ : ∃ H, headL role l epoch seq = H := ⟨_, rfl⟩
  have HH : Hid (headL role l epoch seq = H) := hH
  have HN : Hid (s.n = l.length) := h.len
  have HC : Hid (s.a = none → s.c = 0) := h.nil
  rw [hH]
  clear h hH
  obtain ⟨sa, sn, sc⟩ := s
  go_enter Tryz.func60, Tryz.ntmps60
  go_wp2_with fail
  refine (l1In role 0 1 w).mono ?_
  rintro e y ⟨rfl, rfl⟩
  cases h0 : (isIn role 0 1) with
  | false =>
    have HF : Hid (headL role l epoch seq = []) := headL_no _ _ _ _ (by have hn := HN.out; unfold headOk; rw [← hn]; simp [h0])
    obtain rfl : H = [] := by rw [← HH.out, HF.out]
    go_wp2
    go_ret
    exact new_nil (Below.refl _ _)
  | true =>
    cases h1 : ((sn : Int) == 12) with
    | false =>
      have hne : ((sn : Int) != 12) = true := by simpa using h1
      have HF : Hid (headL role l epoch seq = []) := headL_no _ _ _ _ (by have hn := HN.out; unfold headOk; rw [← hn]; simp [h0, h1])
      obtain rfl : H = [] := by rw [← HH.out, HF.out]
      go_wp2
      go_ret
      exact new_nil (Below.refl _ _)
    | true =>
      have hne : ((sn : Int) != 12) = false := by simpa using h1
      go_wp2_with fail
      refine (l1In epoch 0 4294967295 w).mono ?_
      rintro e y ⟨rfl, rfl⟩
      cases h2 : (isIn epoch 0 4294967295) with
      | false =>
        have HF : Hid (headL role l epoch seq = []) := headL_no _ _ _ _ (by have hn := HN.out; unfold headOk; rw [← hn]; simp [h0, h1, h2])
        obtain rfl : H = [] := by rw [← HH.out, HF.out]
        go_wp2
        go_ret
        exact new_nil (Below.refl _ _)
      | true =>
        go_wp2_with fail
        refine (l1In seq 0 281474976710655 w).mono ?_
        rintro e y ⟨rfl, rfl⟩
        cases h3 : (isIn seq 0 281474976710655) with
        | false =>
          have HF : Hid (headL role l epoch seq = []) := headL_no _ _ _ _ (by have hn := HN.out; unfold headOk; rw [← hn]; simp [h0, h1, h2, h3])
          obtain rfl : H = [] := by rw [← HH.out, HF.out]
          go_wp2
          go_ret
          exact new_nil (Below.refl _ _)
        | true =>
          have HY : Hid (headOk role l.length epoch seq = true) := by have hn := HN.out; show headOk _ _ _ _ = true; unfold headOk; rw [← hn]; simp [h0, h1, h2, h3]
          have HL : Hid (l.length = 12) := by have := ((headOk_iff _ _ _ _).1 HY.out).2.1; show _ = _; omega
          have hrw : IntKind.u8.wrap role = role := by have := ((headOk_iff _ _ _ _).1 HY.out).1; rw [IntKind.wrap_u8']; omega
          clear h0 h1 h2 h3
          have A0 : Hid (Below w.heap.size w (w.alloc (.cells #[.int .u8 role] 5))) := (Below.refl _ _).alloc (Nat.le_refl _) _
          have R0 : Hid (Row (w.alloc (.cells #[.int .u8 role] 5)) w.heap.size 1 [role]) := row_new w [role] (by simp [maxLen])
          go_wp2_with (at_builtin; refine wpList_app _ rfl (.tmp 30) (.tmp 31) rfl w.heap.size w.heap.size 1 1 [role] l rfl rfl R0.out (Nat.le_refl _) sa sn sc rfl HN.out (HR.out.rd.later A0.out (Nat.le_refl _)) HC.out (by have := HL.out; rw [List.length_singleton]; omega) ?_; intro g2 c2 x2 rr2 b2 ll2 gr2; have R2 : Hid (Row x2 g2 c2 ([role] ++ l)) := rr2; have B2 : Hid (Below w.heap.size w x2) := A0.out.grown gr2 A0.out.size (fun k h => by cases h; exact Nat.le_refl _); clear rr2 b2 ll2 gr2)
          have EM2 : Hid (1 + sn = ([role] ++ l).length) := by have hn := HN.out; show _ = _; rw [List.length_append, ← hn]; rfl
          have LN2 : Hid (([role] ++ l).length ≤ 30) := by show _ ≤ _; have := HL.out; rw [List.length_append]; simp; omega
          have Y2 : Hid (Bytes ([role] ++ l)) := bytes_app (bytes_one (by have := ((headOk_iff _ _ _ _).1 HY.out).1; omega) (by have := ((headOk_iff _ _ _ _).1 HY.out).1; omega)) HR.out.bytes
          refine (sputK ⟨some ⟨g2, 0, none⟩, 1 + sn, c2⟩ ([role] ++ l) epoch 4 x2 (rowRd R2.out EM2.out Y2.out) (by have := LN2.out; omega)).mono ?_
          rintro e x3 ⟨g3, m3, c3, rfl, em3, k3, r3, b3⟩
          have R3 : Hid (Row x3 g3 c3 ([role] ++ l ++ putN epoch 4)) := r3
          have EM3 : Hid (m3 = ([role] ++ l ++ putN epoch 4).length) := em3
          have B3 : Hid (Below w.heap.size w x3) := B2.out.trans (b3.mono B2.out.size)
          have LN3 : Hid (([role] ++ l ++ putN epoch 4).length ≤ 40) := by show _ ≤ _; have := LN2.out; have := putN_length epoch 4; rw [List.length_append]; omega
          have Y3 : Hid (Bytes ([role] ++ l ++ putN epoch 4)) := bytes_app Y2.out (putN_bytes _ _)
          clear em3 k3 r3 b3
          go_wp2_with fail
          refine (sputK ⟨some ⟨g3, 0, none⟩, m3, c3⟩ ([role] ++ l ++ putN epoch 4) seq 6 x3 (rowRd R3.out EM3.out Y3.out) (by have := LN3.out; omega)).mono ?_
          rintro e x4 ⟨g4, m4, c4, rfl, em4, k4, r4, b4⟩
          have R4 : Hid (Row x4 g4 c4 H) := by rw [← HH.out, ← lay_head HY.out]; exact r4
          have EM4 : Hid (m4 = H.length) := by rw [← HH.out, ← lay_head HY.out]; exact em4
          have B4 : Hid (Below w.heap.size w x4) := B3.out.trans (b4.mono B3.out.size)
          have GE4 : Hid (w.heap.size ≤ g4) := Nat.le_trans B3.out.size k4
          clear em4 k4 r4 b4
          go_wp2
          go_ret
          exact ⟨g4, m4, c4, by simp, EM4.out, GE4.out, R4.out, B4.out⟩

set_option maxRecDepth 100000 in
theorem lay_tag {role : Int} {D : FrD} (h : canTag role D = true) : [116] ++ headL role D.sn D.epoch D.seq ++ [D.kind] ++ D.body = tagIn role D := (tagIn_yes _ _ h).symm
set_option maxRecDepth 100000 in
set_option maxHeartbeats 8000000 in
theorem specTagInput (role : Int) (S : FrS) (D : FrD) (w : World) (h : FrRd w S D) :
    Calls Tryz.prog 65 #[.int .i64 role, frV D S] w (New w (tagIn role D)) := by
  obtain ⟨H, hH⟩ : ∃ H, tagIn role D = H := ⟨_, rfl⟩
  have HH : Hid (tagIn role D = H) := hH
  rw [hH]
  clear hH
  have HR : Hid (FrRd w S D) := h
  obtain ⟨x0, hx0⟩ : ∃ x0, w.alloc (.cells #[.int .i64 D.kind, .int .i64 D.id, .slice S.cn.a S.cn.n S.cn.c, .slice S.sn.a S.sn.n S.sn.c, .int .i64 D.tick, .slice S.cookie.a S.cookie.n S.cookie.c, .slice S.proof.a S.proof.n S.proof.c, .int .i64 D.epoch, .int .i64 D.seq, .slice S.body.a S.body.n S.body.c, .slice S.tag.a S.tag.n S.tag.c] 27) = x0 := ⟨_, rfl⟩
  have HW0 : Hid (w.alloc (.cells #[.int .i64 D.kind, .int .i64 D.id, .slice S.cn.a S.cn.n S.cn.c, .slice S.sn.a S.sn.n S.sn.c, .int .i64 D.tick, .slice S.cookie.a S.cookie.n S.cookie.c, .slice S.proof.a S.proof.n S.proof.c, .int .i64 D.epoch, .int .i64 D.seq, .slice S.body.a S.body.n S.body.c, .slice S.tag.a S.tag.n S.tag.c] 27) = x0) := hx0
  have B0 : Hid (Below w.heap.size w x0) := by rw [← hx0]; exact (Below.refl _ _).alloc (Nat.le_refl _) _
  have K0 : Hid (Blk x0 w.heap.size 27 [.int .i64 D.kind, .int .i64 D.id, .slice S.cn.a S.cn.n S.cn.c, .slice S.sn.a S.sn.n S.sn.c, .int .i64 D.tick, .slice S.cookie.a S.cookie.n S.cookie.c, .slice S.proof.a S.proof.n S.proof.c, .int .i64 D.epoch, .int .i64 D.seq, .slice S.body.a S.body.n S.body.c, .slice S.tag.a S.tag.n S.tag.c]) := by rw [← hx0]; exact Blk.new w _ _
  clear hx0 h
  unfold frV
  go_enter Tryz.func65, Tryz.ntmps65
  go_upto_region 1 with fail
  rw [HW0.out]
  obtain ⟨ga, hga⟩ : ∃ ga, w.heap.size = ga := ⟨_, rfl⟩
  have HGA : Hid (w.heap.size = ga) := hga
  rw [hga] at K0
  rw [hga]
  clear hga
  have d0 := K0.out.cell 0 rfl
  have d1 := K0.out.cell 1 rfl
  have d2 := K0.out.cell 2 rfl
  have d3 := K0.out.cell 3 rfl
  have d4 := K0.out.cell 4 rfl
  have d5 := K0.out.cell 5 rfl
  have d6 := K0.out.cell 6 rfl
  have d7 := K0.out.cell 7 rfl
  have d8 := K0.out.cell 8 rfl
  have d9 := K0.out.cell 9 rfl
  have d10 := K0.out.cell 10 rfl
  go_wp2_with fail
  refine (l1In role 0 1 x0).mono ?_
  rintro e y ⟨rfl, rfl⟩
  cases h0 : isIn role 0 1 with
  | false =>
    obtain rfl : H = [] := by rw [← HH.out]; exact tagIn_no _ _ (by unfold canTag; simp [h0])
    go_wp2
    go_ret
    exact new_nil B0.out
  | true =>
    go_wp2_with fail
    refine (specFrameOk S D x0 (HR.out.later B0.out)).mono ?_
    rintro e x1 ⟨rfl, b1⟩
    have B1 : Hid (Below w.heap.size w x1) := B0.out.trans (b1.mono B0.out.size)
    have K1 : Hid (Blk x1 ga 27 [.int .i64 D.kind, .int .i64 D.id, .slice S.cn.a S.cn.n S.cn.c, .slice S.sn.a S.sn.n S.sn.c, .int .i64 D.tick, .slice S.cookie.a S.cookie.n S.cookie.c, .slice S.proof.a S.proof.n S.proof.c, .int .i64 D.epoch, .int .i64 D.seq, .slice S.body.a S.body.n S.body.c, .slice S.tag.a S.tag.n S.tag.c]) := K0.out.later b1
    clear b1 d0 d1 d2 d3 d4 d5 d6 d7 d8 d9 d10
    cases h1 : frameOk D with
    | false =>
      obtain rfl : H = [] := by rw [← HH.out]; exact tagIn_no _ _ (by unfold canTag; simp [h1])
      go_wp2
      go_ret
      exact new_nil B1.out
    | true =>
      have d0 := K1.out.cell 0 rfl
      go_wp2_with fail
      refine (specSealed D.kind x1).mono ?_
      rintro e y ⟨rfl, rfl⟩
      cases h2 : isIn D.kind 4 8 with
      | false =>
        obtain rfl : H = [] := by rw [← HH.out]; exact tagIn_no _ _ (by unfold canTag; simp [h2])
        go_wp2
        go_ret
        exact new_nil B1.out
      | true =>
        have HC : Hid (canTag role D = true) := by show canTag _ _ = true; unfold canTag; simp [h0, h1, h2]
        have HHL : Hid ((headL role D.sn D.epoch D.seq).length ≤ 23) := headL_le _ _ _ _
        have HBL : Hid (D.body.length ≤ 40) := canTag_body HC.out
        have hkw : IntKind.u8.wrap D.kind = D.kind := by have := (canTag_parts HC.out).2.1; rw [IntKind.wrap_u8']; omega
        clear h0 h1 h2
        obtain ⟨x2, hx2⟩ : ∃ x2, x1.alloc (.cells #[.int .u8 116] 5) = x2 := ⟨_, rfl⟩
        have HW2 : Hid (x1.alloc (.cells #[.int .u8 116] 5) = x2) := hx2
        have b2 : Below x1.heap.size x1 x2 := by rw [← hx2]; exact (Below.refl _ _).alloc (Nat.le_refl _) _
        have B2 : Hid (Below w.heap.size w x2) := B1.out.trans (b2.mono B1.out.size)
        have RN : Hid (Row x2 x1.heap.size 1 [116]) := by rw [← hx2]; exact row_new x1 [116] (by simp [maxLen])
        have LT : Hid (ga < x1.heap.size) := K1.out.lt
        have GEB : Hid (w.heap.size ≤ x1.heap.size) := B1.out.size
        have K2 : Hid (Blk x2 ga 27 [.int .i64 D.kind, .int .i64 D.id, .slice S.cn.a S.cn.n S.cn.c, .slice S.sn.a S.sn.n S.sn.c, .int .i64 D.tick, .slice S.cookie.a S.cookie.n S.cookie.c, .slice S.proof.a S.proof.n S.proof.c, .int .i64 D.epoch, .int .i64 D.seq, .slice S.body.a S.body.n S.body.c, .slice S.tag.a S.tag.n S.tag.c]) := K1.out.later b2
        clear b2 hx2
        have f3 := (K1.out.alloc (.cells #[.int .u8 116] 5)).cell 3 rfl
        have f7 := (K1.out.alloc (.cells #[.int .u8 116] 5)).cell 7 rfl
        have f8 := (K1.out.alloc (.cells #[.int .u8 116] 5)).cell 8 rfl
        go_wp2_with fail
        rw [HW2.out]
        obtain ⟨gb, hgb⟩ : ∃ gb, x1.heap.size = gb := ⟨_, rfl⟩
        rw [hgb] at RN LT GEB
        rw [hgb]
        clear hgb f3 f7 f8 d0
        refine (specHeadOf role S.sn D.sn D.epoch D.seq x2 (HR.out.later B2.out).sn).mono ?_
        rintro e x3 ⟨g3, m3, c3, rfl, em3, k3, r3, b3⟩
        have R3 : Hid (Row x3 g3 c3 (headL role D.sn D.epoch D.seq)) := r3
        have EM3 : Hid (m3 = (headL role D.sn D.epoch D.seq).length) := em3
        have B3 : Hid (Below w.heap.size w x3) := B2.out.trans (b3.mono B2.out.size)
        have K3 : Hid (Blk x3 ga 27 [.int .i64 D.kind, .int .i64 D.id, .slice S.cn.a S.cn.n S.cn.c, .slice S.sn.a S.sn.n S.sn.c, .int .i64 D.tick, .slice S.cookie.a S.cookie.n S.cookie.c, .slice S.proof.a S.proof.n S.proof.c, .int .i64 D.epoch, .int .i64 D.seq, .slice S.body.a S.body.n S.body.c, .slice S.tag.a S.tag.n S.tag.c]) := K2.out.later b3
        have RN3 : Hid (Row x3 gb 1 [116]) := RN.out.later b3
        have YH : Hid (Bytes (headL role D.sn D.epoch D.seq)) := headL_bytes _ _ _ _ HR.out.sn.bytes
        clear em3 k3 r3 b3
        go_upto_region 4 with (at_builtin; refine wpList_app_at _ rfl (.tmp 21) (.tmp 29) rfl w.heap.size gb 1 1 [116] (headL role D.sn D.epoch D.seq) rfl rfl RN3.out GEB.out (some ⟨g3, 0, none⟩) m3 c3 rfl EM3.out R3.out.rd (by intro e; cases e) (by have := HHL.out; rw [List.length_singleton]; omega) ?_; intro g4 c4 x4 rr4 b4 ll4 gr4; have R4 : Hid (Row x4 g4 c4 ([116] ++ headL role D.sn D.epoch D.seq)) := rr4; have B4 : Hid (Below w.heap.size w x4) := B3.out.grown gr4 B3.out.size (fun k h => by cases h; exact GEB.out); have K4 : Hid (Blk x4 ga 27 [.int .i64 D.kind, .int .i64 D.id, .slice S.cn.a S.cn.n S.cn.c, .slice S.sn.a S.sn.n S.sn.c, .int .i64 D.tick, .slice S.cookie.a S.cookie.n S.cookie.c, .slice S.proof.a S.proof.n S.proof.c, .int .i64 D.epoch, .int .i64 D.seq, .slice S.body.a S.body.n S.body.c, .slice S.tag.a S.tag.n S.tag.c]) := K3.out.keep (gr4.block ga K3.out.lt (by simp only [ne_eq, Option.some.injEq]; have := LT.out; omega)); have G4 : Hid (w.heap.size ≤ g4) := b4; have NG4 : Hid (ga ≠ g4) := (by rcases ll4 with rfl | h; exact Nat.ne_of_lt LT.out; exact Nat.ne_of_lt (Nat.lt_of_lt_of_le K3.out.lt h)); clear rr4 b4 ll4 gr4)
        have EM4 : Hid (1 + m3 = ([116] ++ headL role D.sn D.epoch D.seq).length) := by show _ = _; rw [List.length_append, ← EM3.out]; rfl
        have LN4 : Hid (([116] ++ headL role D.sn D.epoch D.seq).length ≤ 30) := by show _ ≤ _; have := HHL.out; rw [List.length_append]; simp; omega
        obtain ⟨m4, hm4⟩ : ∃ m4, 1 + m3 = m4 := ⟨_, rfl⟩
        rw [hm4] at EM4
        rw [hm4]
        clear hm4
        have Kd4 : Hid (Blk x4.drew ga 27 [.int .i64 D.kind, .int .i64 D.id, .slice S.cn.a S.cn.n S.cn.c, .slice S.sn.a S.sn.n S.sn.c, .int .i64 D.tick, .slice S.cookie.a S.cookie.n S.cookie.c, .slice S.proof.a S.proof.n S.proof.c, .int .i64 D.epoch, .int .i64 D.seq, .slice S.body.a S.body.n S.body.c, .slice S.tag.a S.tag.n S.tag.c]) := K4.out
        have KdA : Blk (x4.alloc (.cells #[.int .u8 D.kind] 5)).drew ga 27 [.int .i64 D.kind, .int .i64 D.id, .slice S.cn.a S.cn.n S.cn.c, .slice S.sn.a S.sn.n S.sn.c, .int .i64 D.tick, .slice S.cookie.a S.cookie.n S.cookie.c, .slice S.proof.a S.proof.n S.proof.c, .int .i64 D.epoch, .int .i64 D.seq, .slice S.body.a S.body.n S.body.c, .slice S.tag.a S.tag.n S.tag.c] := K4.out.alloc _
        have ca0 := KdA.cell 0 rfl
        have ca1 := KdA.cell 9 rfl
        have KA4 : Hid (Blk (x4.alloc (.cells #[.int .u8 D.kind] 5)).drew ga 27 [.int .i64 D.kind, .int .i64 D.id, .slice S.cn.a S.cn.n S.cn.c, .slice S.sn.a S.sn.n S.sn.c, .int .i64 D.tick, .slice S.cookie.a S.cookie.n S.cookie.c, .slice S.proof.a S.proof.n S.proof.c, .int .i64 D.epoch, .int .i64 D.seq, .slice S.body.a S.body.n S.body.c, .slice S.tag.a S.tag.n S.tag.c]) := KdA
        have RA4 : Hid (Row (x4.alloc (.cells #[.int .u8 D.kind] 5)).drew g4 c4 ([116] ++ headL role D.sn D.epoch D.seq)) := row_alloc R4.out _
        have RO4 : Hid (Rd (x4.alloc (.cells #[.int .u8 D.kind] 5)).drew (some ⟨x4.heap.size, 0, none⟩) [D.kind]) := rd_one x4 _
        have BA4 : Hid (Below w.heap.size w (x4.alloc (.cells #[.int .u8 D.kind] 5)).drew) := (B4.out.alloc B4.out.size _).drew
        clear KdA
        have cc0 := Kd4.out.cell 0 rfl
        have cc1 := Kd4.out.cell 9 rfl
        go_region_held3 (fun w' => w'.cell? ⟨ga, 0, none⟩ = some (.int .i64 D.kind) ∧ w'.cell? ⟨ga, 9, none⟩ = some (.slice S.body.a S.body.n S.body.c)) (first | exact ⟨pp6_0, pp6_1⟩ | exact ⟨pp5_0, pp5_1⟩ | exact ⟨ca0, ca1⟩ | exact ⟨cc0, cc1⟩ | go_keep)
          (first
            | (refine bstep_any rfl (.tmp 31) (.tmp 35) rfl w.heap.size g4 m4 c4 ([116] ++ headL role D.sn D.epoch D.seq) [D.kind] (by rfl) EM4.out RA4.out G4.out (some ⟨x4.heap.size, 0, none⟩) 1 1 (by rfl) rfl RO4.out (by intro e; cases e) (by have := LN4.out; simp only [List.length_singleton]; omega) ?_; intro g5 c5 x5 r5 k5 l5 gr5; have K5 : Hid (Blk x5 ga 27 [.int .i64 D.kind, .int .i64 D.id, .slice S.cn.a S.cn.n S.cn.c, .slice S.sn.a S.sn.n S.sn.c, .int .i64 D.tick, .slice S.cookie.a S.cookie.n S.cookie.c, .slice S.proof.a S.proof.n S.proof.c, .int .i64 D.epoch, .int .i64 D.seq, .slice S.body.a S.body.n S.body.c, .slice S.tag.a S.tag.n S.tag.c]) := (KA4.out.keep (gr5.block ga KA4.out.lt (by simp only [ne_eq, Option.some.injEq]; exact NG4.out))); have R5 : Hid (Row x5 g5 c5 ([116] ++ headL role D.sn D.epoch D.seq ++ [D.kind])) := r5; have G5 : Hid (w.heap.size ≤ g5) := k5; have NG5 : Hid (ga ≠ g5) := (by rcases l5 with rfl | h; exact NG4.out; exact Nat.ne_of_lt (Nat.lt_of_lt_of_le KA4.out.lt h)); have B5 : Hid (Below w.heap.size w x5) := BA4.out.grown gr5 BA4.out.size (fun k h => by cases h; exact G4.out); have EM5 : Hid (m4 + 1 = ([116] ++ headL role D.sn D.epoch D.seq ++ [D.kind]).length) := (by show _ = _; rw [List.length_append, ← EM4.out]; rfl); have LN5 : Hid (([116] ++ headL role D.sn D.epoch D.seq ++ [D.kind]).length ≤ 40) := (by show _ ≤ _; have := LN4.out; rw [List.length_append]; have hk1 : [D.kind].length = 1 := rfl; omega); have pp5_0 := K5.out.cell 0 rfl; have pp5_1 := K5.out.cell 9 rfl; clear r5 k5 l5 gr5)
            | (refine bstep_any rfl (.tmp 36) (.tmp 38) rfl w.heap.size g5 (m4 + 1) c5 ([116] ++ headL role D.sn D.epoch D.seq ++ [D.kind]) D.body (by rfl) EM5.out R5.out G5.out S.body.a S.body.n S.body.c (by rfl) HR.out.body.len (HR.out.body.rd.later B5.out (Nat.le_refl _)) HR.out.body.nil (by have := LN5.out; have := HBL.out; omega) ?_; intro g6 c6 x6 r6 k6 l6 gr6; have K6 : Hid (Blk x6 ga 27 [.int .i64 D.kind, .int .i64 D.id, .slice S.cn.a S.cn.n S.cn.c, .slice S.sn.a S.sn.n S.sn.c, .int .i64 D.tick, .slice S.cookie.a S.cookie.n S.cookie.c, .slice S.proof.a S.proof.n S.proof.c, .int .i64 D.epoch, .int .i64 D.seq, .slice S.body.a S.body.n S.body.c, .slice S.tag.a S.tag.n S.tag.c]) := (K5.out.keep (gr6.block ga K5.out.lt (by simp only [ne_eq, Option.some.injEq]; exact NG5.out))); have R6 : Hid (Row x6 g6 c6 ([116] ++ headL role D.sn D.epoch D.seq ++ [D.kind] ++ D.body)) := r6; have G6 : Hid (w.heap.size ≤ g6) := k6; have B6 : Hid (Below w.heap.size w x6) := B5.out.grown gr6 B5.out.size (fun k h => by cases h; exact G5.out); have EM6 : Hid (m4 + 1 + S.body.n = ([116] ++ headL role D.sn D.epoch D.seq ++ [D.kind] ++ D.body).length) := (by show _ = _; rw [List.length_append, ← EM5.out, ← HR.out.body.len]); have pp6_0 := K6.out.cell 0 rfl; have pp6_1 := K6.out.cell 9 rfl; clear r6 k6 l6 gr6 R5))
        clear ca0 ca1 cc0 cc1 pp5_0 pp5_1 pp6_0 pp6_1
        have R7 : Hid (Row x6 g6 c6 H) := by rw [← HH.out, ← lay_tag HC.out]; exact R6.out
        have EM7 : Hid (m4 + 1 + S.body.n = H.length) := by rw [← HH.out, ← lay_tag HC.out]; exact EM6.out
        go_wp2
        go_ret
        exact ⟨g6, m4 + 1 + S.body.n, c6, by simp, EM7.out, G6.out, R7.out, B6.out⟩
end Go.Proofs.YtmcflfpckpjphaaGreatDoor.SlS
