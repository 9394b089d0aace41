/-
  What spec lays as a head, and as what a tag is of.
  What spec's l2Out and Sha answer: the sum's 32 bytes, in new memory.
  What spec's BlockKey, Hmac and Tag answer.
  What spec's BlockOf, Stream and Mix answer.
-/
import Derived.Test.YtmcflfpckpjphaaGreatDoorVdBas5
import Derived.Test.YtmcflfpckpjphaaGreatDoorVdFrS
import Derived.Test.YtmcflfpckpjphaaGreatDoorVdFrQ2
import Derived.Test.YtmcflfpckpjphaaGreatDoorVdBas8
import Derived.Test.YtmcflfpckpjphaaGreatDoorVdBas6
import Derived.Test.YtmcflfpckpjphaaGreatDoorVdBas3
set_option linter.unusedVariables false
set_option maxRecDepth 100000
namespace Go.Proofs.YtmcflfpckpjphaaGreatDoor.SlS
open Go.RowKit Mem App AppAt AppStep Blk Words Zone Res FrZ FrP FrG FrQ FrS FrQ2 SlP

theorem new_nil {w x : World} (b : Below w.heap.size w x) : New w [] (.returned (.slice (some ⟨x.heap.size, 0, none⟩) 0 0)) (x.alloc (.cells #[] 5)) :=
 ⟨x.heap.size, 0, 0, rfl, rfl, b.size, ⟨Nat.le_refl _, by unfold maxLen; omega, #[], heap_alloc_new x _, rfl, rfl⟩, b.alloc b.size _⟩
theorem lay_head {role : Int} {l : List Int} {epoch seq : Int} (h : headOk role l.length epoch seq = true) : [role] ++ l ++ putN epoch 4 ++ putN seq 6 = headL role l epoch seq := by
 rw [headL_yes _ _ _ _ h]; rfl
theorem sputK (s : Sl) (x : List Int) (n k : Int) (w : World) (hx : SRd w s x) (lx : x.length ≤ 100000) :
  Calls Tryz.prog 102 #[.slice s.a s.n s.c, .int .i64 n, .int .i64 k] w (New w (x ++ putN n k)) := specPutN s.a s.n s.c x n k w hx.len hx.rd hx.nil (by omega)

set_option maxHeartbeats 8000000 in
theorem specHeadOf (role : Int) (s : Sl) (l : List Int) (epoch seq : Int) (w : World) (h : SRd w s l) :
  Calls Tryz.prog 60 #[.int .i64 role, .slice s.a s.n s.c, .int .i64 epoch, .int .i64 seq] w (New w (headL role l epoch seq)) := by
 have HR := hid (h)
 obtain ⟨H, hH⟩ : ∃ H, headL role l epoch seq = H := ⟨_, rfl⟩
 have HH : Hid (headL role l epoch seq = H) := hH
 have HN : Hid (s.n = l.length) := h.len
 have HC : Hid (s.a = none → s.c = 0) := h.nil
 rw [hH]
 clear h hH
 obtain ⟨sa, sn, sc⟩ := s
 go_enter Tryz.func60, Tryz.ntmps60
 go_wp2_with fail
 refine (l1In role 0 1 w).mono ?_
 rintro e y ⟨rfl, rfl⟩
 cases h0 : (isIn role 0 1) with
 | false =>
  have HF : Hid (headL role l epoch seq = []) := headL_no _ _ _ _ (by have hn := HN.out; unfold headOk; rw [← hn]; simp [h0])
  obtain rfl : H = [] := by rw [← HH.out, HF.out]
  go_wp2
  go_ret
  exact new_nil (Below.refl _ _)
 | true =>
  cases h1 : ((sn : Int) == 12) with
  | false =>
   have hne : ((sn : Int) != 12) = true := by simpa using h1
   have HF : Hid (headL role l epoch seq = []) := headL_no _ _ _ _ (by have hn := HN.out; unfold headOk; rw [← hn]; simp [h0, h1])
   obtain rfl : H = [] := by rw [← HH.out, HF.out]
   go_wp2
   go_ret
   exact new_nil (Below.refl _ _)
  | true =>
   have hne : ((sn : Int) != 12) = false := by simpa using h1
   go_wp2_with fail
   refine (l1In epoch 0 4294967295 w).mono ?_
   rintro e y ⟨rfl, rfl⟩
   cases h2 : (isIn epoch 0 4294967295) with
   | false =>
    have HF : Hid (headL role l epoch seq = []) := headL_no _ _ _ _ (by have hn := HN.out; unfold headOk; rw [← hn]; simp [h0, h1, h2])
    obtain rfl : H = [] := by rw [← HH.out, HF.out]
    go_wp2
    go_ret
    exact new_nil (Below.refl _ _)
   | true =>
    go_wp2_with fail
    refine (l1In seq 0 281474976710655 w).mono ?_
    rintro e y ⟨rfl, rfl⟩
    cases h3 : (isIn seq 0 281474976710655) with
    | false =>
     have HF : Hid (headL role l epoch seq = []) := headL_no _ _ _ _ (by have hn := HN.out; unfold headOk; rw [← hn]; simp [h0, h1, h2, h3])
     obtain rfl : H = [] := by rw [← HH.out, HF.out]
     go_wp2
     go_ret
     exact new_nil (Below.refl _ _)
    | true =>
     have HY : Hid (headOk role l.length epoch seq = true) := by have hn := HN.out; show headOk _ _ _ _ = true; unfold headOk; rw [← hn]; simp [h0, h1, h2, h3]
     have HL : Hid (l.length = 12) := by have := ((headOk_iff _ _ _ _).1 HY.out).2.1; show _ = _; omega
     have hrw : IntKind.u8.wrap role = role := by have := ((headOk_iff _ _ _ _).1 HY.out).1; rw [IntKind.wrap_u8']; omega
     clear h0 h1 h2 h3
     have A0 : Hid (Below w.heap.size w (w.alloc (.cells #[.int .u8 role] 5))) := (Below.refl _ _).alloc (Nat.le_refl _) _
     have R0 : Hid (Row (w.alloc (.cells #[.int .u8 role] 5)) w.heap.size 1 [role]) := row_new w [role] (by simp [maxLen])
     go_wp2_with (at_builtin; refine wpList_app _ rfl (.tmp 30) (.tmp 31) rfl w.heap.size w.heap.size 1 1 [role] l rfl rfl R0.out (Nat.le_refl _) sa sn sc rfl HN.out (HR.out.rd.later A0.out (Nat.le_refl _)) HC.out (by have := HL.out; rw [List.length_singleton]; omega) ?_; intro g2 c2 x2 rr2 b2 ll2 gr2; have R2 := hid (rr2); have B2 : Hid (Below w.heap.size w x2) := A0.out.grown gr2 A0.out.size (fun k h => by cases h; exact Nat.le_refl _); clear rr2 b2 ll2 gr2)
     have EM2 : Hid (1 + sn = ([role] ++ l).length) := by have hn := HN.out; show _ = _; rw [List.length_append, ← hn]; rfl
     have LN2 : Hid (([role] ++ l).length ≤ 30) := by show _ ≤ _; have := HL.out; rw [List.length_append]; simp; omega
     have Y2 : Hid (Bytes ([role] ++ l)) := bytes_app (bytes_one (by have := ((headOk_iff _ _ _ _).1 HY.out).1; omega) (by have := ((headOk_iff _ _ _ _).1 HY.out).1; omega)) HR.out.bytes
     refine (sputK ⟨some ⟨g2, 0, none⟩, 1 + sn, c2⟩ ([role] ++ l) epoch 4 x2 (rowRd R2.out EM2.out Y2.out) (by have := LN2.out; omega)).mono ?_
     rintro e x3 ⟨g3, m3, c3, rfl, em3, k3, r3, b3⟩
     have R3 := hid (r3)
     have EM3 : Hid (m3 = ([role] ++ l ++ putN epoch 4).length) := em3
     have B3 := hid (B2.out.trans (b3.mono B2.out.size))
     have LN3 : Hid (([role] ++ l ++ putN epoch 4).length ≤ 40) := by show _ ≤ _; have := LN2.out; have := putN_length epoch 4; rw [List.length_append]; omega
     have Y3 : Hid (Bytes ([role] ++ l ++ putN epoch 4)) := bytes_app Y2.out (putN_bytes _ _)
     clear em3 k3 r3 b3
     go_wp2_with fail
     refine (sputK ⟨some ⟨g3, 0, none⟩, m3, c3⟩ ([role] ++ l ++ putN epoch 4) seq 6 x3 (rowRd R3.out EM3.out Y3.out) (by have := LN3.out; omega)).mono ?_
     rintro e x4 ⟨g4, m4, c4, rfl, em4, k4, r4, b4⟩
     have R4 : Hid (Row x4 g4 c4 H) := by rw [← HH.out, ← lay_head HY.out]; exact r4
     have EM4 : Hid (m4 = H.length) := by rw [← HH.out, ← lay_head HY.out]; exact em4
     have B4 := hid (B3.out.trans (b4.mono B3.out.size))
     have GE4 : Hid (w.heap.size ≤ g4) := Nat.le_trans B3.out.size k4
     clear em4 k4 r4 b4
     go_wp2
     go_ret
     exact ⟨g4, m4, c4, by simp, EM4.out, GE4.out, R4.out, B4.out⟩

theorem lay_tag {role : Int} {D : FrD} (h : canTag role D = true) : [116] ++ headL role D.sn D.epoch D.seq ++ [D.kind] ++ D.body = tagIn role D := (tagIn_yes _ _ h).symm
set_option maxHeartbeats 8000000 in
theorem specTagInput (role : Int) (S : FrS) (D : FrD) (w : World) (h : FrRd w S D) :
  Calls Tryz.prog 65 #[.int .i64 role, frV D S] w (New w (tagIn role D)) := by
 obtain ⟨H, hH⟩ : ∃ H, tagIn role D = H := ⟨_, rfl⟩
 have HH : Hid (tagIn role D = H) := hH
 rw [hH]
 clear hH
 have HR := hid (h)
 obtain ⟨x0, hx0⟩ : ∃ x0, w.alloc (.cells #[.int .i64 D.kind, .int .i64 D.id, .slice S.cn.a S.cn.n S.cn.c, .slice S.sn.a S.sn.n S.sn.c, .int .i64 D.tick, .slice S.cookie.a S.cookie.n S.cookie.c, .slice S.proof.a S.proof.n S.proof.c, .int .i64 D.epoch, .int .i64 D.seq, .slice S.body.a S.body.n S.body.c, .slice S.tag.a S.tag.n S.tag.c] 27) = x0 := ⟨_, rfl⟩
 have HW0 := hid (hx0)
 have B0 : Hid (Below w.heap.size w x0) := by rw [← hx0]; exact (Below.refl _ _).alloc (Nat.le_refl _) _
 have K0 : Hid (Blk x0 w.heap.size 27 [.int .i64 D.kind, .int .i64 D.id, .slice S.cn.a S.cn.n S.cn.c, .slice S.sn.a S.sn.n S.sn.c, .int .i64 D.tick, .slice S.cookie.a S.cookie.n S.cookie.c, .slice S.proof.a S.proof.n S.proof.c, .int .i64 D.epoch, .int .i64 D.seq, .slice S.body.a S.body.n S.body.c, .slice S.tag.a S.tag.n S.tag.c]) := by rw [← hx0]; exact Blk.new w _ _
 clear hx0 h
 unfold frV
 go_enter Tryz.func65, Tryz.ntmps65
 go_upto_region 1 with fail
 rw [HW0.out]
 obtain ⟨ga, hga⟩ : ∃ ga, w.heap.size = ga := ⟨_, rfl⟩
 have HGA : Hid (w.heap.size = ga) := hga
 rw [hga] at K0
 rw [hga]
 clear hga
 obtain ⟨d0, d1, d2, d3, d4, d5, d6, d7, d8, d9, d10⟩ := cells11 K0.out
 go_wp2_with fail
 refine (l1In role 0 1 x0).mono ?_
 rintro e y ⟨rfl, rfl⟩
 cases h0 : isIn role 0 1 with
 | false =>
  obtain rfl : H = [] := by rw [← HH.out]; exact tagIn_no _ _ (by unfold canTag; simp [h0])
  go_wp2
  go_ret
  exact new_nil B0.out
 | true =>
  go_wp2_with fail
  refine (specFrameOk S D x0 (HR.out.later B0.out)).mono ?_
  rintro e x1 ⟨rfl, b1⟩
  have B1 := hid (B0.out.trans (b1.mono B0.out.size))
  have K1 := hid (K0.out.later b1)
  clear b1 d0 d1 d2 d3 d4 d5 d6 d7 d8 d9 d10
  cases h1 : frameOk D with
  | false =>
   obtain rfl : H = [] := by rw [← HH.out]; exact tagIn_no _ _ (by unfold canTag; simp [h1])
   go_wp2
   go_ret
   exact new_nil B1.out
  | true =>
   have d0 := K1.out.cell 0 rfl
   go_wp2_with fail
   refine (specSealed D.kind x1).mono ?_
   rintro e y ⟨rfl, rfl⟩
   cases h2 : isIn D.kind 4 8 with
   | false =>
    obtain rfl : H = [] := by rw [← HH.out]; exact tagIn_no _ _ (by unfold canTag; simp [h2])
    go_wp2
    go_ret
    exact new_nil B1.out
   | true =>
    have HC : Hid (canTag role D = true) := by show canTag _ _ = true; unfold canTag; simp [h0, h1, h2]
    have HHL : Hid ((headL role D.sn D.epoch D.seq).length ≤ 23) := headL_le _ _ _ _
    have HBL : Hid (D.body.length ≤ 40) := canTag_body HC.out
    have hkw : IntKind.u8.wrap D.kind = D.kind := by have := (canTag_parts HC.out).2.1; rw [IntKind.wrap_u8']; omega
    clear h0 h1 h2
    obtain ⟨x2, hx2⟩ : ∃ x2, x1.alloc (.cells #[.int .u8 116] 5) = x2 := ⟨_, rfl⟩
    have HW2 := hid (hx2)
    have b2 : Below x1.heap.size x1 x2 := by rw [← hx2]; exact (Below.refl _ _).alloc (Nat.le_refl _) _
    have B2 := hid (B1.out.trans (b2.mono B1.out.size))
    have RN : Hid (Row x2 x1.heap.size 1 [116]) := by rw [← hx2]; exact row_new x1 [116] (by simp [maxLen])
    have LT : Hid (ga < x1.heap.size) := K1.out.lt
    have GEB := hid (B1.out.size)
    have K2 := hid (K1.out.later b2)
    clear b2 hx2
    have f3 := (K1.out.alloc (.cells #[.int .u8 116] 5)).cell 3 rfl
    have f7 := (K1.out.alloc (.cells #[.int .u8 116] 5)).cell 7 rfl
    have f8 := (K1.out.alloc (.cells #[.int .u8 116] 5)).cell 8 rfl
    go_wp2_with fail
    rw [HW2.out]
    obtain ⟨gb, hgb⟩ : ∃ gb, x1.heap.size = gb := ⟨_, rfl⟩
    rw [hgb] at RN LT GEB
    rw [hgb]
    clear hgb f3 f7 f8 d0
    refine (specHeadOf role S.sn D.sn D.epoch D.seq x2 (HR.out.later B2.out).sn).mono ?_
    rintro e x3 ⟨g3, m3, c3, rfl, em3, k3, r3, b3⟩
    have R3 := hid (r3)
    have EM3 : Hid (m3 = (headL role D.sn D.epoch D.seq).length) := em3
    have B3 := hid (B2.out.trans (b3.mono B2.out.size))
    have K3 := hid (K2.out.later b3)
    have RN3 := hid (RN.out.later b3)
    have YH : Hid (Bytes (headL role D.sn D.epoch D.seq)) := headL_bytes _ _ _ _ HR.out.sn.bytes
    clear em3 k3 r3 b3
    go_upto_region 4 with (at_builtin; refine wpList_app_at _ rfl (.tmp 21) (.tmp 29) rfl w.heap.size gb 1 1 [116] (headL role D.sn D.epoch D.seq) rfl rfl RN3.out GEB.out (some ⟨g3, 0, none⟩) m3 c3 rfl EM3.out R3.out.rd (by intro e; cases e) (by have := HHL.out; rw [List.length_singleton]; omega) ?_; intro g4 c4 x4 rr4 b4 ll4 gr4; have R4 := hid (rr4); have B4 : Hid (Below w.heap.size w x4) := B3.out.grown gr4 B3.out.size (fun k h => by cases h; exact GEB.out); have K4 := hid (K3.out.keep (gr4.block ga K3.out.lt (by simp only [ne_eq, Option.some.injEq]; have := LT.out; omega))); have G4 : Hid (w.heap.size ≤ g4) := b4; have NG4 : Hid (ga ≠ g4) := (by rcases ll4 with rfl | h; exact Nat.ne_of_lt LT.out; exact Nat.ne_of_lt (Nat.lt_of_lt_of_le K3.out.lt h)); clear rr4 b4 ll4 gr4)
    have EM4 : Hid (1 + m3 = ([116] ++ headL role D.sn D.epoch D.seq).length) := by show _ = _; rw [List.length_append, ← EM3.out]; rfl
    have LN4 : Hid (([116] ++ headL role D.sn D.epoch D.seq).length ≤ 30) := by show _ ≤ _; have := HHL.out; rw [List.length_append]; simp; omega
    obtain ⟨m4, hm4⟩ : ∃ m4, 1 + m3 = m4 := ⟨_, rfl⟩
    rw [hm4] at EM4
    rw [hm4]
    clear hm4
    have Kd4 := hid (K4.out)
    have KdA : Blk (x4.alloc (.cells #[.int .u8 D.kind] 5)).drew ga 27 [.int .i64 D.kind, .int .i64 D.id, .slice S.cn.a S.cn.n S.cn.c, .slice S.sn.a S.sn.n S.sn.c, .int .i64 D.tick, .slice S.cookie.a S.cookie.n S.cookie.c, .slice S.proof.a S.proof.n S.proof.c, .int .i64 D.epoch, .int .i64 D.seq, .slice S.body.a S.body.n S.body.c, .slice S.tag.a S.tag.n S.tag.c] := K4.out.alloc _
    have ca0 := KdA.cell 0 rfl
    have ca1 := KdA.cell 9 rfl
    have KA4 := hid (KdA)
    have RA4 : Hid (Row (x4.alloc (.cells #[.int .u8 D.kind] 5)).drew g4 c4 ([116] ++ headL role D.sn D.epoch D.seq)) := row_alloc R4.out _
    have RO4 : Hid (Rd (x4.alloc (.cells #[.int .u8 D.kind] 5)).drew (some ⟨x4.heap.size, 0, none⟩) [D.kind]) := rd_one x4 _
    have BA4 : Hid (Below w.heap.size w (x4.alloc (.cells #[.int .u8 D.kind] 5)).drew) := (B4.out.alloc B4.out.size _).drew
    clear KdA
    have cc0 := Kd4.out.cell 0 rfl
    have cc1 := Kd4.out.cell 9 rfl
    go_region_held3 (fun w' => w'.cell? ⟨ga, 0, none⟩ = some (.int .i64 D.kind) ∧ w'.cell? ⟨ga, 9, none⟩ = some (.slice S.body.a S.body.n S.body.c)) (first | exact ⟨pp6_0, pp6_1⟩ | exact ⟨pp5_0, pp5_1⟩ | exact ⟨ca0, ca1⟩ | exact ⟨cc0, cc1⟩ | go_keep)
     (first
      | (refine bstep_any rfl (.tmp 31) (.tmp 35) rfl w.heap.size g4 m4 c4 ([116] ++ headL role D.sn D.epoch D.seq) [D.kind] (by rfl) EM4.out RA4.out G4.out (some ⟨x4.heap.size, 0, none⟩) 1 1 (by rfl) rfl RO4.out (by intro e; cases e) (by have := LN4.out; simp only [List.length_singleton]; omega) ?_; intro g5 c5 x5 r5 k5 l5 gr5; have K5 := hid ((KA4.out.keep (gr5.block ga KA4.out.lt (by simp only [ne_eq, Option.some.injEq]; exact NG4.out)))); have R5 := hid (r5); have G5 : Hid (w.heap.size ≤ g5) := k5; have NG5 : Hid (ga ≠ g5) := (by rcases l5 with rfl | h; exact NG4.out; exact Nat.ne_of_lt (Nat.lt_of_lt_of_le KA4.out.lt h)); have B5 : Hid (Below w.heap.size w x5) := BA4.out.grown gr5 BA4.out.size (fun k h => by cases h; exact G4.out); have EM5 : Hid (m4 + 1 = ([116] ++ headL role D.sn D.epoch D.seq ++ [D.kind]).length) := (by show _ = _; rw [List.length_append, ← EM4.out]; rfl); have LN5 : Hid (([116] ++ headL role D.sn D.epoch D.seq ++ [D.kind]).length ≤ 40) := (by show _ ≤ _; have := LN4.out; rw [List.length_append]; have hk1 : [D.kind].length = 1 := rfl; omega); have pp5_0 := K5.out.cell 0 rfl; have pp5_1 := K5.out.cell 9 rfl; clear r5 k5 l5 gr5)
      | (refine bstep_any rfl (.tmp 36) (.tmp 38) rfl w.heap.size g5 (m4 + 1) c5 ([116] ++ headL role D.sn D.epoch D.seq ++ [D.kind]) D.body (by rfl) EM5.out R5.out G5.out S.body.a S.body.n S.body.c (by rfl) HR.out.body.len (HR.out.body.rd.later B5.out (Nat.le_refl _)) HR.out.body.nil (by have := hid2 LN5 HBL; omega) ?_; intro g6 c6 x6 r6 k6 l6 gr6; have K6 := hid ((K5.out.keep (gr6.block ga K5.out.lt (by simp only [ne_eq, Option.some.injEq]; exact NG5.out)))); have R6 := hid (r6); have G6 : Hid (w.heap.size ≤ g6) := k6; have B6 : Hid (Below w.heap.size w x6) := B5.out.grown gr6 B5.out.size (fun k h => by cases h; exact G5.out); have EM6 : Hid (m4 + 1 + S.body.n = ([116] ++ headL role D.sn D.epoch D.seq ++ [D.kind] ++ D.body).length) := (by show _ = _; rw [List.length_append, ← EM5.out, ← HR.out.body.len]); have pp6_0 := K6.out.cell 0 rfl; have pp6_1 := K6.out.cell 9 rfl; clear r6 k6 l6 gr6 R5))
    clear ca0 ca1 cc0 cc1 pp5_0 pp5_1 pp6_0 pp6_1
    have R7 : Hid (Row x6 g6 c6 H) := by rw [← HH.out, ← lay_tag HC.out]; exact R6.out
    have EM7 : Hid (m4 + 1 + S.body.n = H.length) := by rw [← HH.out, ← lay_tag HC.out]; exact EM6.out
    go_wp2
    go_ret
    exact ⟨g6, m4 + 1 + S.body.n, c6, by simp, EM7.out, G6.out, R7.out, B6.out⟩
end Go.Proofs.YtmcflfpckpjphaaGreatDoor.SlS

namespace Go.Proofs.YtmcflfpckpjphaaGreatDoor.ShaS
open Go.RowKit Mem MemI Blk App Get ShaP Word Bits Sched Words WordsOf Comp CompS Go.Proofs.YtmcflfpckpjphaaGreatDoor.Start Cuts Pads Adds Ends

theorem putN4 (z : Int) : putN z 4 = num z 4 := rfl
set_option maxHeartbeats 800000 in
theorem l2Out (gh ch : Nat) (h : List Int) (w : World) (hh : h.length = 8) (hr : IRow w gh ch h) :
  Calls Tryz.prog 166 #[.slice (some ⟨gh, 0, none⟩) 8 ch] w fun e w' =>
   ∃ g c, e = .returned (.slice (some ⟨g, 0, none⟩) 32 c) ∧ w.heap.size ≤ g ∧ Row w' g c (outB h) ∧ Below w.heap.size w w' := by
 have HH : Hid (h.length = 8) := hh
 have HR := hid (hr)
 have A0 : Hid (Below w.heap.size w (w.alloc (.cells #[] 5))) := (Below.refl _ _).alloc (Nat.le_refl _) _
 have R0 : Hid (Row (w.alloc (.cells #[] 5)) w.heap.size 0 (outB (h.take 0))) := row_new w [] (by simp)
 clear hh hr
 go_enter Tryz.func166, Tryz.ntmps166
 go_wp2
 go_loopw [3, 4] (fun v i wr => ∃ k gg cc : Nat, k ≤ 8 ∧ i = .int .i64 k ∧ v = .slice (some ⟨gg, 0, none⟩) (4 * k) cc ∧ w.heap.size ≤ gg ∧ Row wr gg cc (outB (h.take k)) ∧ Below w.heap.size w wr)
  (fun _ i _ => 8 - (intOf i).toNat)
 case atStart => exact ⟨0, w.heap.size, 0, Nat.zero_le _, rfl, rfl, Nat.le_refl _, R0.out, A0.out⟩
 case round =>
  obtain ⟨k, gg, cc, hk, rfl, rfl, hgg, hRow, hbe⟩ := hrel
  have HRow := hid (hRow)
  have HBe := hid (hbe)
  clear R0 A0 hRow hbe
  by_cases hlt : k < 8
  ·
   have hc := (HR.out.later HBe.out).cell k (by rw [HH.out]; exact hlt)
   have HT1 : Hid (outB (h.take (k + 1)) = outB (h.take k) ++ putN (h.getD k 0) 4) := by
    show _ = _
    rw [List.take_succ_eq_append_getElem (by rw [HH.out]; exact hlt), outB_snoc, putN4]
    simp [List.getD, HH.out, hlt]
   have HOL : Hid (4 * k = (outB (h.take k)).length) := by show _ = _; rw [outB_length, List.length_take, HH.out]; omega
   generalize h.getD k 0 = z at *
   go_wp2_with fail
   refine (specPutN _ (4 * k) cc _ z 4 wr HOL.out HRow.out.rd (by intro e; cases e) (by rw [← HOL.out]; omega)).mono ?_
   rintro e w2 ⟨g2, m2, c2, rfl, e2, k2, r2, b2⟩
   have HM : Hid (m2 = 4 * (k + 1)) := by show _ = _; rw [e2, List.length_append, ← HOL.out, putN4, num_length]; omega
   have K2 : Hid (w.heap.size ≤ g2) := Nat.le_trans HBe.out.size k2
   have R2 := hid (r2)
   have B2 := hid (HBe.out.trans (b2.mono HBe.out.size))
   clear e2 k2 r2 b2
   go_wp2
   go_roundw
   case rel => exact ⟨k + 1, g2, c2, by omega, by go_num, by rw [HM.out], K2.out, by rw [HT1.out]; exact R2.out, B2.out⟩
   case measure => simp [intOf]; omega
  ·
   obtain rfl : k = 8 := by omega
   have HT8 : Hid (outB h = outB (h.take 8)) := by show _ = _; rw [List.take_of_length_le (by rw [HH.out]; exact Nat.le_refl _)]
   go_wp2
   go_ret
   exact ⟨gg, cc, rfl, hgg, by rw [HT8.out]; exact HRow.out, HBe.out⟩

theorem compI_ok (h b : List Int) (hh : h.length = 8) (hw : Wds h) (hb : b.length = 64) : compI h b = comp h b := by
 unfold compI; rw [if_pos ⟨(okw_iff h).2 ⟨hh, hw⟩, hb⟩]

set_option maxHeartbeats 2000000 in
theorem specSha (a : Option Addr) (n cap : Nat) (b : List Int) (w : World) (hn : n = b.length) (hr : Rd w a b) (na : a = none → cap = 0) (hb : Bytes b) (hl : n ≤ 2097152) :
  Calls Tryz.prog 145 #[.slice a n cap] w fun e w' =>
   ∃ g m c, e = .returned (.slice (some ⟨g, 0, none⟩) m c) ∧ m = (shaI b).length ∧ w.heap.size ≤ g ∧ Row w' g c (shaI b) ∧ Below w.heap.size w w' := by
 have HN : Hid (n = b.length) := hn
 have HR := hid (hr)
 have HB := hid (hb)
 have A0 : Hid (Below w.heap.size w (w.alloc (.cells #[] 5))) := (Below.refl _ _).alloc (Nat.le_refl _) _
 have R0 : Hid (Row (w.alloc (.cells #[] 5)) w.heap.size 0 []) := row_new w [] (by simp)
 clear hn hr hb
 by_cases h1 : n ≤ 1048576
 ·
  have HS : Hid (shaI b = outB (run start8 (b ++ padI (n : Int)) ((b ++ padI (n : Int)).length / 64))) := by
   show _ = _
   unfold shaI; rw [if_pos (by rw [← HN.out]; exact h1), padI_nat n h1, HN.out]; rfl
  have HPL : Hid ((padI (n : Int)).length = 9 + (64 - (n + 9) % 64) % 64) := by show _ = _; rw [padI_nat n h1, padOf_length]
  go_enter Tryz.func145, Tryz.ntmps145
  go_wp2_with (at_builtin; refine wpList_app _ rfl (.tmp 10) (.tmp 11) rfl w.heap.size w.heap.size 0 0 [] b rfl rfl R0.out (Nat.le_refl _) a n cap rfl HN.out (HR.out.later A0.out (Nat.le_refl _)) na (by rw [← HN.out]; simp; omega) ?_; intro g1 c1 w1 r1 b1 l1 gr1; have R1 : Hid (Row w1 g1 c1 b) := (List.nil_append b) ▸ r1; have B1 : Hid (Below w.heap.size w w1) := A0.out.grown gr1 A0.out.size (fun k h => by cases h; exact Nat.le_refl _); clear r1 gr1 l1)
  refine (specPad (n : Int) w1).mono ?_
  rintro e w2 ⟨gp, mp, cp, rfl, e2, k2, r2, b2⟩
  have R2 := hid (r2)
  have E2 : Hid (mp = (padI (n : Int)).length) := e2
  have B2 := hid (B1.out.trans (b2.mono B1.out.size))
  have R12 := hid (R1.out.later b2)
  clear r2 e2 k2 b2
  go_wp2_with (at_builtin; refine wpList_app _ rfl (.tmp 12) (.tmp 15) rfl w.heap.size g1 n c1 b (padI (n : Int)) (by simp [Act.eval]) HN.out R12.out b1 (some ⟨gp, 0, none⟩) mp cp rfl E2.out R2.out.rd (by intro e; cases e) (by rw [← HN.out, HPL.out]; omega) ?_; intro g3 c3 w3 r3 b3 l3 gr3; have R3 := hid (r3); have B3 : Hid (Below w.heap.size w w3) := B2.out.grown gr3 B2.out.size (fun k h => by cases h; exact b1); clear r3 gr3 l3)
  obtain ⟨x, hx⟩ : ∃ x, b ++ padI (n : Int) = x := ⟨_, rfl⟩
  rw [hx] at HS R3
  obtain ⟨L, hL⟩ : ∃ L, n + mp = L := ⟨_, rfl⟩
  have HL : Hid (x.length = L) := by rw [← hx, ← hL, List.length_append, ← HN.out, ← E2.out]; simp [Hid]
  obtain ⟨Q, hQ⟩ : ∃ Q, L = 64 * Q := ⟨L / 64, by have := hid2 HPL E2; omega⟩
  subst hQ
  have HXB : Hid (Bytes x) := by
   rw [← hx]
   exact fun z hz => (List.mem_append.1 hz).elim (HB.out z) (padI_bytes _ z)
  have hQm : 64 * Q ≤ 4194304 := by have := hid2 HPL E2; omega
  rw [hL]
  clear hL hx R1 B1 R2 R12 B2 E2 HPL
  go_wp2_with fail
  refine (specStart w3).mono ?_
  rintro e w4 ⟨rfl, r4, b4⟩
  have HS8 : Hid (start8.length = 8) := (rfl : start8.length = 8)
  have HSW : Hid (Wds start8) := start8_wds
  have KH := hid (B3.out.size)
  have RH := hid (r4)
  have RX := hid (R3.out.later b4)
  have BX := hid (B3.out.trans (b4.mono B3.out.size))
  clear r4 b4 R3 B3
  go_wp2
  go_loopw [4, 5] (fun v i wr => ∃ q gh ch : Nat, q ≤ Q ∧ i = .int .i64 (64 * (q : Int)) ∧ v = .slice (some ⟨gh, 0, none⟩) 8 ch ∧ w.heap.size ≤ gh ∧ IRow wr gh ch (run start8 x q) ∧ Row wr g3 c3 x ∧ Below w.heap.size w wr)
   (fun _ i _ => 64 * Q - (intOf i).toNat)
  case atStart => exact ⟨0, w3.heap.size, 8, Nat.zero_le _, rfl, rfl, KH.out, RH.out, RX.out, BX.out⟩
  case round =>
   obtain ⟨q, gh, ch, hq, rfl, rfl, hgh, hH, hX, hbe⟩ := hrel
   have HH := hid (hH)
   have HX := hid (hX)
   have HBe := hid (hbe)
   have HRL : Hid ((run start8 x q).length = 8) := run_length start8 x q HS8.out
   have HRW : Hid (Wds (run start8 x q)) := run_wds start8 x q HSW.out
   have hc3 : 64 * Q ≤ c3 := by have := hX.1; rw [HL.out] at this; exact this
   clear hH hX hbe KH RH RX BX
   by_cases hlt : q < Q
   ·
    have HPL2 : Hid ((piece x (64 * q) 64).length = 64) := piece_length x (64 * q) 64 (by rw [HL.out]; omega)
    have HP : Hid (Rd wr (some ⟨g3, 64 * q, none⟩) (piece x (64 * q) 64)) := by
     have := rd_piece HX.out.rd (64 * q) 64 (by rw [HL.out]; omega)
     rwa [Nat.zero_add] at this
    have HPB : Hid (Bytes (piece x (64 * q) 64)) := piece_bytes HXB.out _ _
    have HCI : Hid (compI (run start8 x q) (piece x (64 * q) 64) = run start8 x (q + 1)) := compI_ok _ _ HRL.out HRW.out HPL2.out
    have i1 : (64 * (q : Int)) < 64 * (Q : Int) := by omega
    have i2 : (64 * (q : Int)) + 64 ≤ 64 * (Q : Int) := by omega
    go_wp2_with fail
    refine (specCompress (some ⟨gh, 0, none⟩) 8 ch (run start8 x q) (some ⟨g3, 64 * q, none⟩) _ _ (piece x (64 * q) 64) wr HRL.out.symm HH.out.rd (by intro e; cases e) (by omega) (by rw [HPL2.out]) HP.out HPB.out (by omega)).mono ?_
    rintro e w5 ⟨g5, m5, c5, rfl, e5, k5, r5, b5⟩
    rw [HCI.out] at e5 r5
    obtain rfl : m5 = 8 := by rw [e5, run_length start8 x (q + 1) HS8.out]
    have R5 := hid (r5)
    have K5 : Hid (w.heap.size ≤ g5) := Nat.le_trans HBe.out.size k5
    have B5 := hid (HBe.out.trans (b5.mono HBe.out.size))
    have X5 := hid (HX.out.later b5)
    clear r5 e5 k5 b5 HCI HPB HP HPL2
    go_wp2
    go_roundw
    case rel => exact ⟨q + 1, g5, c5, by omega, by go_num, rfl, K5.out, R5.out, X5.out, B5.out⟩
    case measure => simp [intOf]; omega
   ·
    obtain rfl : q = Q := by omega
    have i3 : ¬ (64 * (q : Int) < 64 * (q : Int)) := by omega
    go_wp2_with fail
    refine (l2Out gh ch (run start8 x q) wr HRL.out HH.out).mono ?_
    rintro e w6 ⟨g6, c6, rfl, k6, r6, b6⟩
    have HE : Hid (shaI b = outB (run start8 x q)) := by
     show _ = _
     rw [HS.out, HL.out, Nat.mul_div_cancel_left q (by omega)]
    have HE2 : Hid ((shaI b).length = 32) := by show _ = _; rw [HE.out, outB_length, HRL.out]
    have K6 : Hid (w.heap.size ≤ g6) := Nat.le_trans HBe.out.size k6
    have R6 : Hid (Row w6 g6 c6 (shaI b)) := by show Row _ _ _ _; rw [HE.out]; exact r6
    have B6 := hid (HBe.out.trans (b6.mono HBe.out.size))
    clear r6 k6 b6
    go_wp2
    go_ret
    exact ⟨g6, 32, c6, rfl, HE2.out.symm, K6.out, R6.out, B6.out⟩
 ·
  have HS : Hid (shaI b = []) := by show _ = _; unfold shaI; rw [if_neg (by rw [← HN.out]; exact h1)]
  clear HR HB
  go_enter Tryz.func145, Tryz.ntmps145
  go_wp2
  go_ret
  exact ⟨w.heap.size, 0, 0, by simp, by rw [HS.out]; rfl, Nat.le_refl _, by rw [HS.out]; exact R0.out, A0.out⟩
end Go.Proofs.YtmcflfpckpjphaaGreatDoor.ShaS

namespace Go.Proofs.YtmcflfpckpjphaaGreatDoor.MacS
open Go.RowKit Mem MemI Blk App Get ShaP Cuts Ends ShaS MacP Pads AppAt

theorem keyI_of (k : List Int) (h : k.length ≤ 1048576) : keyI k = short k ++ List.replicate (64 - (short k).length) 0 := by unfold keyI; rw [if_pos h]
theorem zeros_snoc (l : List Int) (j : Nat) : l ++ List.replicate j (0 : Int) ++ [0] = l ++ List.replicate (j + 1) 0 := by
 rw [List.append_assoc, List.replicate_succ']
theorem mix_take (p : Int) (l : List Int) (k : Nat) (h : k < l.length) : mix p (l.take (k + 1)) = mix p (l.take k) ++ [bits .xor .u8 (l.getD k 0) p] := by
 have e : l.getD k 0 = l[k] := by simp [List.getD, h]
 rw [List.take_succ_eq_append_getElem h, e]
 simp only [mix, List.map_append, List.map_cons, List.map_nil]

set_option maxHeartbeats 1600000 in
theorem specBlockKey (a : Option Addr) (n cap : Nat) (k : List Int) (w : World) (hn : n = k.length) (hr : Rd w a k) (na : a = none → cap = 0) (hb : Bytes k) (hl : n ≤ 2097152) :
  Calls Tryz.prog 144 #[.slice a n cap] w fun e w' =>
   ∃ g m c, e = .returned (.slice (some ⟨g, 0, none⟩) m c) ∧ m = (keyI k).length ∧ w.heap.size ≤ g ∧ Row w' g c (keyI k) ∧ Below w.heap.size w w' := by
 have HN : Hid (n = k.length) := hn
 have HR := hid (hr)
 have HB := hid (hb)
 have A0 : Hid (Below w.heap.size w (w.alloc (.cells #[] 5))) := (Below.refl _ _).alloc (Nat.le_refl _) _
 have R0 : Hid (Row (w.alloc (.cells #[] 5)) w.heap.size 0 []) := row_new w [] (by simp)
 clear hn hr hb
 by_cases h1 : n ≤ 1048576
 ·
  have HK : Hid (keyI k = short k ++ List.replicate (64 - (short k).length) 0) := keyI_of k (by rw [← HN.out]; exact h1)
  have HSL : Hid ((short k).length ≤ 64) := short_len k (by rw [← HN.out]; exact h1)
  have h1I : ¬ ((n : Int) > 1048576) := by omega
  by_cases h2 : n ≤ 64
  ·
   have h2I : ¬ ((n : Int) > 64) := by omega
   have HSH : Hid (short k = k) := by show _ = _; unfold short; rw [if_pos (by rw [← HN.out]; exact h2)]
   go_enter Tryz.func144, Tryz.ntmps144
   go_wp2_with (at_builtin; refine wpList_app _ rfl (.tmp 8) (.tmp 9) rfl w.heap.size w.heap.size 0 0 [] k rfl rfl R0.out (Nat.le_refl _) a n cap rfl HN.out (HR.out.later A0.out (Nat.le_refl _)) na (by rw [← HN.out]; simp; omega) ?_; intro g1 c1 w1 r1 b1 l1 gr1; have R1 : Hid (Row w1 g1 c1 k) := (List.nil_append k) ▸ r1; have G1 : Hid (w.heap.size ≤ g1) := b1; have B1 : Hid (Below w.heap.size w w1) := A0.out.grown gr1 A0.out.size (fun k h => by cases h; exact Nat.le_refl _); clear r1 b1 l1 gr1)
   have EM : Hid (n = (short k).length) := by show _ = _; rw [HSH.out]; exact HN.out
   have R2 : Hid (Row w1 g1 c1 (short k)) := by show Row _ _ _ _; rw [HSH.out]; exact R1.out
   clear R1
   go_loopw [3] (fun v wr => ∃ j gg cc : Nat, n + j ≤ 64 ∧ v = .slice (some ⟨gg, 0, none⟩) (n + j) cc ∧ w.heap.size ≤ gg ∧ Row wr gg cc (short k ++ List.replicate j 0) ∧ Below w.heap.size w wr)
    (fun v _ => 64 - lenOf v)
   case atStart => exact ⟨0, g1, c1, by have := hid2 HSL EM; omega, by simp, G1.out, by simpa using R2.out, B1.out⟩
   case round =>
    obtain ⟨j, gg, cc, hj, rfl, hgg, hRow, hbe⟩ := hrel
    have HRow := hid (hRow)
    have HBe := hid (hbe)
    clear R2 B1 hRow hbe
    by_cases hlt : n + j < 64
    ·
     have hI : ((n + j : Nat) : Int) < 64 := by omega
     have HLN : Hid (n + j = (short k ++ List.replicate j (0 : Int)).length) := by show _ = _; rw [List.length_append, List.length_replicate, EM.out]
     have A1 : Hid (Below w.heap.size w (wr.alloc (.cells #[.int .u8 0] 5))) := HBe.out.alloc HBe.out.size _
     generalize hL : n + j = L at *
     go_wp2_with (at_builtin; refine wpList_app _ rfl (.tmp 19) (.tmp 20) rfl w.heap.size gg L cc (short k ++ List.replicate j 0) [0] rfl HLN.out (row_alloc HRow.out _) hgg (some ⟨wr.heap.size, 0, none⟩) 1 1 rfl rfl (rd_one wr 0) (by intro e; cases e) (by rw [← HLN.out]; simp; omega) ?_; intro g3 c3 w3 r3 k3 l3 gr3; have R3 : Hid (Row w3 g3 c3 (short k ++ List.replicate (j + 1) 0)) := (zeros_snoc (short k) j) ▸ r3; have G3 : Hid (w.heap.size ≤ g3) := k3; have B3 : Hid (Below w.heap.size w w3) := A1.out.grown gr3 A1.out.size (fun k h => by cases h; exact hgg); clear r3 k3 l3 gr3)
     go_roundw
     case rel => exact ⟨j + 1, g3, c3, by omega, by rw [← Nat.add_assoc, hL], G3.out, R3.out, B3.out⟩
     case measure => simp [lenOf]; omega
    ·
     have hI : ¬ (((n + j : Nat) : Int) < 64) := by omega
     have HJ : Hid (j = 64 - (short k).length) := by show _ = _; have := EM.out; omega
     have HM : Hid (n + j = 64) := by show _ = _; omega
     go_wp2
     go_ret
     exact ⟨gg, n + j, cc, rfl, by rw [HK.out, HM.out, List.length_append, List.length_replicate]; have := HSL.out; omega, hgg, by rw [HK.out, ← HJ.out]; exact HRow.out, HBe.out⟩
  ·
   have h2I : (n : Int) > 64 := by omega
   have HSH : Hid (short k = shaI k) := by show _ = _; unfold short; rw [if_neg (by rw [← HN.out]; exact h2)]
   go_enter Tryz.func144, Tryz.ntmps144
   go_wp2_with (at_builtin; refine wpList_app _ rfl (.tmp 8) (.tmp 9) rfl w.heap.size w.heap.size 0 0 [] k rfl rfl R0.out (Nat.le_refl _) a n cap rfl HN.out (HR.out.later A0.out (Nat.le_refl _)) na (by rw [← HN.out]; simp; omega) ?_; intro g1 c1 w1 r1 b1 l1 gr1; have R1 : Hid (Row w1 g1 c1 k) := (List.nil_append k) ▸ r1; have G1 : Hid (w.heap.size ≤ g1) := b1; have B1 : Hid (Below w.heap.size w w1) := A0.out.grown gr1 A0.out.size (fun k h => by cases h; exact Nat.le_refl _); clear r1 b1 l1 gr1)
   refine (specSha a n cap k w1 HN.out (HR.out.later B1.out (Nat.le_refl _)) na HB.out (by omega)).mono ?_
   rintro e w2 ⟨g2, m2, c2, rfl, e2, k2, r2, b2⟩
   have EM : Hid (m2 = (short k).length) := by show _ = _; rw [HSH.out]; exact e2
   have R2 : Hid (Row w2 g2 c2 (short k)) := by show Row _ _ _ _; rw [HSH.out]; exact r2
   have G2 : Hid (w.heap.size ≤ g2) := Nat.le_trans B1.out.size k2
   have B2 := hid (B1.out.trans (b2.mono B1.out.size))
   clear R1 e2 r2 k2 b2
   go_wp2
   go_loopw [3] (fun v wr => ∃ j gg cc : Nat, m2 + j ≤ 64 ∧ v = .slice (some ⟨gg, 0, none⟩) (m2 + j) cc ∧ w.heap.size ≤ gg ∧ Row wr gg cc (short k ++ List.replicate j 0) ∧ Below w.heap.size w wr)
    (fun v _ => 64 - lenOf v)
   case atStart => exact ⟨0, g2, c2, by have := hid2 HSL EM; omega, by simp, G2.out, by simpa using R2.out, B2.out⟩
   case round =>
    obtain ⟨j, gg, cc, hj, rfl, hgg, hRow, hbe⟩ := hrel
    have HRow := hid (hRow)
    have HBe := hid (hbe)
    clear R2 B2 hRow hbe
    by_cases hlt : m2 + j < 64
    ·
     have hI : ((m2 + j : Nat) : Int) < 64 := by omega
     have HLN : Hid (m2 + j = (short k ++ List.replicate j (0 : Int)).length) := by show _ = _; rw [List.length_append, List.length_replicate, EM.out]
     have A1 : Hid (Below w.heap.size w (wr.alloc (.cells #[.int .u8 0] 5))) := HBe.out.alloc HBe.out.size _
     generalize hL : m2 + j = L at *
     go_wp2_with (at_builtin; refine wpList_app _ rfl (.tmp 19) (.tmp 20) rfl w.heap.size gg L cc (short k ++ List.replicate j 0) [0] rfl HLN.out (row_alloc HRow.out _) hgg (some ⟨wr.heap.size, 0, none⟩) 1 1 rfl rfl (rd_one wr 0) (by intro e; cases e) (by rw [← HLN.out]; simp; omega) ?_; intro g3 c3 w3 r3 k3 l3 gr3; have R3 : Hid (Row w3 g3 c3 (short k ++ List.replicate (j + 1) 0)) := (zeros_snoc (short k) j) ▸ r3; have G3 : Hid (w.heap.size ≤ g3) := k3; have B3 : Hid (Below w.heap.size w w3) := A1.out.grown gr3 A1.out.size (fun k h => by cases h; exact hgg); clear r3 k3 l3 gr3)
     go_roundw
     case rel => exact ⟨j + 1, g3, c3, by omega, by rw [← Nat.add_assoc, hL], G3.out, R3.out, B3.out⟩
     case measure => simp [lenOf]; omega
    ·
     have hI : ¬ (((m2 + j : Nat) : Int) < 64) := by omega
     have HJ : Hid (j = 64 - (short k).length) := by show _ = _; have := EM.out; omega
     have HM : Hid (m2 + j = 64) := by show _ = _; omega
     go_wp2
     go_ret
     exact ⟨gg, m2 + j, cc, rfl, by rw [HK.out, HM.out, List.length_append, List.length_replicate]; have := HSL.out; omega, hgg, by rw [HK.out, ← HJ.out]; exact HRow.out, HBe.out⟩
 ·
  have HK : Hid (keyI k = []) := keyI_none k (by rw [← HN.out]; exact h1)
  have h1I : (n : Int) > 1048576 := by omega
  go_enter Tryz.func144, Tryz.ntmps144
  go_wp2
  go_ret
  exact ⟨w.heap.size, 0, 0, by simp, by rw [HK.out]; rfl, Nat.le_refl _, by rw [HK.out]; exact R0.out, A0.out⟩

set_option maxHeartbeats 3200000 in
theorem specHmac (a0 : Option Addr) (n0 c0 : Nat) (a1 : Option Addr) (n1 c1 : Nat) (k b : List Int) (w : World) (e0 : n0 = k.length) (e1 : n1 = b.length) (r0 : Rd w a0 k) (r1 : Rd w a1 b) (na0 : a0 = none → c0 = 0) (na1 : a1 = none → c1 = 0) (hb0 : Bytes k) (hb1 : Bytes b) (l0 : n0 ≤ 2097152) (l1 : n1 ≤ 2097152) :
  Calls Tryz.prog 104 #[.slice a0 n0 c0, .slice a1 n1 c1] w fun e w' =>
   ∃ g m c, e = .returned (.slice (some ⟨g, 0, none⟩) m c) ∧ m = (hmacI k b).length ∧ w.heap.size ≤ g ∧ Row w' g c (hmacI k b) ∧ Below w.heap.size w w' := by
 have HN0 : Hid (n0 = k.length) := e0
 have HN1 : Hid (n1 = b.length) := e1
 have HR0 := hid (r0)
 have HR1 := hid (r1)
 have HB0 := hid (hb0)
 have HB1 := hid (hb1)
 clear e0 e1 r0 r1 hb0 hb1
 by_cases h1 : n0 ≤ 1048576 ∧ n1 ≤ 1048512
 ·
  have HL : Hid ((keyI k).length = 64) := keyI_len k (by rw [← HN0.out]; exact h1.1)
  have HH : Hid (hmacI k b = shaI (mix 92 (keyI k) ++ shaI (mix 54 (keyI k) ++ b))) := by
   show _ = _
   unfold hmacI; rw [if_pos ⟨by rw [← HN0.out]; exact h1.1, by rw [← HN1.out]; exact h1.2⟩]
  have HKB : Hid (Bytes (keyI k)) := keyI_bytes k HB0.out
  obtain ⟨h1a, h1b⟩ := h1
  have h1I : ¬ ((n0 : Int) > 1048576) := by omega
  have h2I : ¬ ((n1 : Int) > 1048512) := by omega
  go_enter Tryz.func104, Tryz.ntmps104
  go_wp2_with fail
  refine (specBlockKey a0 n0 c0 k w HN0.out HR0.out na0 HB0.out l0).mono ?_
  rintro e w1 ⟨gk, mk, ck, rfl, em, k1, r1, b1⟩
  have hm : mk = 64 := by rw [em, HL.out]
  subst hm
  have R1 := hid (r1)
  have B1 := hid (b1)
  obtain ⟨y, hy⟩ : ∃ y, keyI k = y := ⟨_, rfl⟩
  rw [hy] at HH HKB HL R1
  clear em k1 r1 b1 hy
  obtain ⟨w3, hw3⟩ : ∃ w3, (w1.alloc (.cells #[] 5)).alloc (.cells #[] 5) = w3 := ⟨_, rfl⟩
  have HW3 := hid (hw3)
  have RI3 : Hid (Row w3 w1.heap.size 0 (mix 54 (y.take 0))) := by rw [← hw3]; exact row_alloc (row_new w1 [] (by simp)) _
  have RO3 : Hid (Row w3 (w1.heap.size + 1) 0 (mix 92 (y.take 0))) := by
   have := row_new (w1.alloc (.cells #[] 5)) [] (by simp)
   rw [show (w1.alloc (.cells #[] 5)).heap.size = w1.heap.size + 1 by simp] at this
   rw [← hw3]; exact this
  have B3 : Hid (Below w.heap.size w w3) := by rw [← hw3]; exact (B1.out.alloc B1.out.size _).alloc (by simp; exact Nat.le_trans B1.out.size (Nat.le_succ _)) _
  have BK3 : Hid (Below w1.heap.size w1 w3) := by rw [← hw3]; exact ((Below.refl _ _).alloc (Nat.le_refl _) _).alloc (by simp) _
  have RK3 := hid (R1.out.later BK3.out)
  have HGK : Hid (gk < w1.heap.size) := R1.out.lt
  clear hw3 R1
  go_wp2
  rw [HW3.out]
  go_loopw [6, 7, 8] (fun v u i wr => ∃ j gi ci go co : Nat, j ≤ 64 ∧ i = .int .i64 j ∧ v = .slice (some ⟨gi, 0, none⟩) j ci ∧ u = .slice (some ⟨go, 0, none⟩) j co ∧ w1.heap.size ≤ gi ∧ w1.heap.size ≤ go ∧ gi ≠ go ∧ Row wr gi ci (mix 54 (y.take j)) ∧ Row wr go co (mix 92 (y.take j)) ∧ Below w1.heap.size w1 wr ∧ Row wr gk ck y)
   (fun _ _ i _ => 64 - (intOf i).toNat)
  case atStart => exact ⟨0, w1.heap.size, 0, w1.heap.size + 1, 0, by omega, rfl, rfl, rfl, Nat.le_refl _, by omega, by omega, RI3.out, RO3.out, BK3.out, RK3.out⟩
  case round =>
   obtain ⟨j, gi, ci, go, co, hj, rfl, rfl, rfl, hgi, hgo, hne, hRi, hRo, hbe, hK⟩ := hrel
   have HRi := hid (hRi)
   have HRo := hid (hRo)
   have HBe := hid (hbe)
   have HK := hid (hK)
   have HNE : Hid (gi ≠ go) := hne
   clear RI3 RO3 B3 BK3 RK3 hRi hRo hbe hK hne
   have ML : ∀ p, j = (mix p (y.take j)).length := fun p => by rw [mix_length, List.length_take, HL.out]; omega
   have HML : Hid (∀ p, j = (mix p (y.take j)).length) := ML
   clear ML
   by_cases hlt : j < 64
   ·
    have hc := HK.out.cell j (by rw [HL.out]; exact hlt)
    have T1 : Hid (∀ p, mix p (y.take (j + 1)) = mix p (y.take j) ++ [bits .xor .u8 (y.getD j 0) p]) := fun p => mix_take p y j (by rw [HL.out]; exact hlt)
    obtain ⟨z, hz⟩ : ∃ z, y.getD j 0 = z := ⟨_, rfl⟩
    have HZ : Hid (z = y.getD j 0) := hz.symm
    rw [hz] at hc T1
    clear hz
    go_wp2_with (first | (at_builtin; refine wpList_app_at _ rfl (.tmp 26) (.tmp 32) rfl w1.heap.size gi j ci (mix 54 (y.take j)) [bits .xor .u8 z 54] rfl (HML.out 54) (row_alloc HRi.out _) hgi (some ⟨wr.heap.size, 0, none⟩) 1 1 rfl rfl (rd_one wr _) (by intro e; cases e) (by rw [← HML.out 54, List.length_singleton]; omega) ?_; intro g4 c4 w4 r4 k4 l4 gr4; have RI4 : Hid (Row w4 g4 c4 (mix 54 (y.take (j + 1)))) := (by show Row _ _ _ _; rw [T1.out 54]; exact r4); have GI4 : Hid (w1.heap.size ≤ g4) := k4; have RO4 : Hid (Row w4 go co (mix 92 (y.take j))) := (row_alloc HRo.out _).keep (gr4.block go (row_alloc HRo.out _).lt (by simp only [ne_eq, Option.some.injEq]; exact Ne.symm HNE.out)); have NE4 : Hid (g4 ≠ go) := (by rcases l4 with rfl | h; exact HNE.out; exact Nat.ne_of_gt (Nat.lt_of_lt_of_le (row_alloc HRo.out _).lt h)); have HK4 : Hid (Row w4 gk ck y) := (row_alloc HK.out _).keep (gr4.block gk (row_alloc HK.out _).lt (by simp only [ne_eq, Option.some.injEq]; exact Nat.ne_of_lt (Nat.lt_of_lt_of_le HGK.out hgi))); have B4 : Hid (Below w1.heap.size w1 w4) := (HBe.out.alloc HBe.out.size _).grown gr4 (Below.size (HBe.out.alloc HBe.out.size _)) (fun k h => by cases h; exact hgi); have hc4 : w4.cell? ⟨gk, j, none⟩ = some (.int .u8 z) := (by rw [HZ.out]; exact HK4.out.cell j (by rw [HL.out]; exact hlt)); clear r4 k4 l4 gr4) | (at_builtin; refine wpList_app_at _ rfl (.tmp 34) (.tmp 40) rfl w1.heap.size go j co (mix 92 (y.take j)) [bits .xor .u8 z 92] rfl (HML.out 92) (row_alloc RO4.out _) hgo (some ⟨w4.heap.size, 0, none⟩) 1 1 rfl rfl (rd_one w4 _) (by intro e; cases e) (by rw [← HML.out 92, List.length_singleton]; omega) ?_; intro g5 c5 w5 r5 k5 l5 gr5; have RO5 : Hid (Row w5 g5 c5 (mix 92 (y.take (j + 1)))) := (by show Row _ _ _ _; rw [T1.out 92]; exact r5); have GO5 : Hid (w1.heap.size ≤ g5) := k5; have RI5 : Hid (Row w5 g4 c4 (mix 54 (y.take (j + 1)))) := (row_alloc RI4.out _).keep (gr5.block g4 (row_alloc RI4.out _).lt (by simp only [ne_eq, Option.some.injEq]; exact NE4.out)); have NE5 : Hid (g4 ≠ g5) := (by rcases l5 with rfl | h; exact NE4.out; exact Nat.ne_of_lt (Nat.lt_of_lt_of_le (row_alloc RI4.out _).lt h)); have HK5 : Hid (Row w5 gk ck y) := (row_alloc HK4.out _).keep (gr5.block gk (row_alloc HK4.out _).lt (by simp only [ne_eq, Option.some.injEq]; exact Nat.ne_of_lt (Nat.lt_of_lt_of_le HGK.out hgo))); have B5 : Hid (Below w1.heap.size w1 w5) := (B4.out.alloc B4.out.size _).grown gr5 (Below.size (B4.out.alloc B4.out.size _)) (fun k h => by cases h; exact hgo); clear r5 k5 l5 gr5))
    go_roundw
    case rel => exact ⟨j + 1, g4, c4, g5, c5, by omega, by go_num, rfl, rfl, GI4.out, GO5.out, NE5.out, RI5.out, RO5.out, B5.out, HK5.out⟩
    case measure => simp [intOf]; omega
   ·
    obtain rfl : j = 64 := by omega
    have TY : Hid (y.take 64 = y) := by show _ = _; rw [List.take_of_length_le (by rw [HL.out]; exact Nat.le_refl _)]
    rw [TY.out] at HRi HRo HML
    have BW := hid (B1.out.trans (HBe.out.mono B1.out.size))
    go_wp2_with (first | (at_builtin; refine wpList_app_at _ rfl (.tmp 43) (.tmp 44) rfl w1.heap.size gi 64 ci (mix 54 y) b rfl (HML.out 54) HRi.out hgi a1 n1 c1 rfl HN1.out (HR1.out.later BW.out (Nat.le_refl _)) na1 (by rw [← HML.out 54, ← HN1.out]; omega) ?_; intro g6 c6 w6 r6 k6 l6 gr6; have R6 := hid (r6); have RO6 := hid (HRo.out.keep (gr6.block go HRo.out.lt (by simp only [ne_eq, Option.some.injEq]; exact Ne.symm HNE.out))); have B6 : Hid (Below w1.heap.size w1 w6) := HBe.out.grown gr6 HBe.out.size (fun k h => by cases h; exact hgi); clear r6 k6 l6 gr6) | fail)
    have BW6 := hid (B1.out.trans (B6.out.mono B1.out.size))
    have HL6 : Hid (64 + n1 = (mix 54 y ++ b).length) := by show _ = _; rw [List.length_append, ← HML.out 54, HN1.out]
    have HB6 : Hid (Bytes (mix 54 y ++ b)) := bytes_append (mix_bytes 54 _ HKB.out (by omega) (by omega)) HB1.out
    refine (specSha _ (64 + n1) c6 _ w6 HL6.out R6.out.rd (by intro e; cases e) HB6.out (by omega)).mono ?_
    rintro e w7 ⟨g7, m7, c7, rfl, em, k7, r7, b7⟩
    have HS7 : Hid ((shaI (mix 54 y ++ b)).length = 32) := shaI_len _ (by rw [← HL6.out]; omega)
    have hm7 : m7 = 32 := by rw [em, HS7.out]
    subst hm7
    have R7 := hid (r7)
    have RO7 := hid (RO6.out.later b7)
    have B7 := hid (B6.out.trans (b7.mono B6.out.size))
    clear em k7 r7 b7 R6 RO6 B6 BW6
    go_wp2_with (first | (at_builtin; refine wpList_app_at _ rfl (.tmp 42) (.tmp 46) rfl w1.heap.size go 64 co (mix 92 y) (shaI (mix 54 y ++ b)) rfl (HML.out 92) RO7.out hgo (some ⟨g7, 0, none⟩) 32 c7 rfl HS7.out.symm R7.out.rd (by intro e; cases e) (by rw [← HML.out 92, HS7.out]; omega) ?_; intro g8 c8 w8 r8 k8 l8 gr8; have R8 := hid (r8); have B8 : Hid (Below w1.heap.size w1 w8) := B7.out.grown gr8 B7.out.size (fun k h => by cases h; exact hgo); clear r8 k8 l8 gr8) | fail)
    have BW8 := hid (B1.out.trans (B8.out.mono B1.out.size))
    have HL8 : Hid (64 + 32 = (mix 92 y ++ shaI (mix 54 y ++ b)).length) := by show _ = _; rw [List.length_append, ← HML.out 92, HS7.out]
    have HB8 : Hid (Bytes (mix 92 y ++ shaI (mix 54 y ++ b))) := bytes_append (mix_bytes 92 _ HKB.out (by omega) (by omega)) (shaI_bytes _)
    refine (specSha _ (64 + 32) c8 _ w8 HL8.out R8.out.rd (by intro e; cases e) HB8.out (by omega)).mono ?_
    rintro e w9 ⟨g9, m9, c9, rfl, em, k9, r9, b9⟩
    have EM : Hid (m9 = (hmacI k b).length) := by show _ = _; rw [HH.out]; exact em
    have K9 : Hid (w.heap.size ≤ g9) := Nat.le_trans BW8.out.size k9
    have R9 : Hid (Row w9 g9 c9 (hmacI k b)) := by show Row _ _ _ _; rw [HH.out]; exact r9
    have B9 := hid (BW8.out.trans (b9.mono BW8.out.size))
    clear em k9 r9 b9
    go_wp2
    go_ret
    exact ⟨g9, m9, c9, rfl, EM.out, K9.out, R9.out, B9.out⟩
 ·
  have HH : Hid (hmacI k b = []) := hmacI_none k b (by rw [← HN0.out, ← HN1.out]; exact h1)
  have A0 : Hid (Below w.heap.size w (w.alloc (.cells #[] 5))) := (Below.refl _ _).alloc (Nat.le_refl _) _
  have R0 : Hid (Row (w.alloc (.cells #[] 5)) w.heap.size 0 []) := row_new w [] (by simp)
  by_cases h2 : n0 ≤ 1048576
  ·
   have h1I : ¬ ((n0 : Int) > 1048576) := by omega
   have h2I : (n1 : Int) > 1048512 := by omega
   clear h1
   go_enter Tryz.func104, Tryz.ntmps104
   go_wp2
   go_ret
   exact ⟨w.heap.size, 0, 0, by simp, by rw [HH.out]; rfl, Nat.le_refl _, by rw [HH.out]; exact R0.out, A0.out⟩
  ·
   have h1I : (n0 : Int) > 1048576 := by omega
   clear h1
   go_enter Tryz.func104, Tryz.ntmps104
   go_wp2
   go_ret
   exact ⟨w.heap.size, 0, 0, by simp, by rw [HH.out]; rfl, Nat.le_refl _, by rw [HH.out]; exact R0.out, A0.out⟩

set_option maxHeartbeats 800000 in
theorem specTag (a0 : Option Addr) (n0 c0 : Nat) (a1 : Option Addr) (n1 c1 : Nat) (k b : List Int) (w : World) (e0 : n0 = k.length) (e1 : n1 = b.length) (r0 : Rd w a0 k) (r1 : Rd w a1 b) (na0 : a0 = none → c0 = 0) (na1 : a1 = none → c1 = 0) (hb0 : Bytes k) (hb1 : Bytes b) (l0 : n0 ≤ 2097152) (l1 : n1 ≤ 2097152) :
  Calls Tryz.prog 64 #[.slice a0 n0 c0, .slice a1 n1 c1] w fun e w' =>
   ∃ g m c, e = .returned (.slice (some ⟨g, 0, none⟩) m c) ∧ m = (tagI k b).length ∧ w.heap.size ≤ g ∧ Row w' g c (tagI k b) ∧ Below w.heap.size w w' := by
 have HN0 : Hid (n0 = k.length) := e0
 have HN1 : Hid (n1 = b.length) := e1
 have HR0 := hid (r0)
 have HR1 := hid (r1)
 have HB0 := hid (hb0)
 have HB1 := hid (hb1)
 clear e0 e1 r0 r1 hb0 hb1
 go_enter Tryz.func64, Tryz.ntmps64
 go_wp2_with fail
 refine (specHmac a0 n0 c0 a1 n1 c1 k b w HN0.out HN1.out HR0.out HR1.out na0 na1 HB0.out HB1.out l0 l1).mono ?_
 rintro e w1 ⟨g, m, c, rfl, em, k1, r1, b1⟩
 have EM : Hid (m = (hmacI k b).length) := em
 have R1 := hid (r1)
 have B1 := hid (b1)
 have hm : m = 32 ∨ m = 0 := by
  rw [em]
  by_cases h : k.length ≤ 1048576 ∧ b.length ≤ 1048512
  ·
   exact .inl (hmacI_len k b h.1 h.2)
  ·
   exact .inr (by rw [hmacI_none k b h]; rfl)
 have hmc : m ≤ c := by rw [em]; exact r1.1
 have A1 : Hid (Below w.heap.size w (w1.alloc (.cells #[] 5))) := B1.out.alloc B1.out.size _
 have N1 : Hid (Row (w1.alloc (.cells #[] 5)) w1.heap.size 0 []) := row_new w1 [] (by simp)
 clear em k1 r1 b1
 rcases hm with rfl | rfl
 ·
  have hcI : (32 : Int) ≤ (c : Int) := by omega
  have TL : Hid (16 = (tagI k b).length) := by show _ = _; unfold tagI; rw [List.length_take, ← EM.out]; rfl
  have RT : Hid (Rd (w1.alloc (.cells #[] 5)) (some ⟨g, 0, none⟩) (tagI k b)) := by
   have h1 := (row_alloc R1.out (.cells #[] 5)).rd
   show Rd _ _ _
   intro i hi
   rw [← TL.out] at hi
   obtain ⟨x, off, e, hx, hh⟩ := h1 i (by rw [← EM.out]; omega)
   refine ⟨x, off, e, hx, ?_⟩
   rw [hh]
   unfold tagI
   simp [List.getD, hi]
  go_wp2_with (at_builtin; refine wpList_app _ rfl (.tmp 13) (.tmp 15) rfl w.heap.size w1.heap.size 0 0 [] (tagI k b) rfl rfl N1.out B1.out.size (some ⟨g, 0, none⟩) 16 c rfl TL.out RT.out (by intro e; cases e) (by rw [← TL.out]; simp) ?_; intro g2 c2 w2 r2 k2 l2 gr2; have R2 : Hid (Row w2 g2 c2 (tagI k b)) := (List.nil_append (tagI k b)) ▸ r2; have G2 : Hid (w.heap.size ≤ g2) := k2; have B2 : Hid (Below w.heap.size w w2) := A1.out.grown gr2 A1.out.size (fun k h => by cases h; exact B1.out.size); clear r2 k2 l2 gr2)
  go_ret
  exact ⟨g2, 16, c2, rfl, TL.out, G2.out, R2.out, B2.out⟩
 ·
  have HT : Hid (tagI k b = []) := by
   show _ = _
   have : hmacI k b = [] := List.eq_nil_of_length_eq_zero EM.out.symm
   unfold tagI; rw [this]; rfl
  go_wp2
  go_ret
  exact ⟨w1.heap.size, 0, 0, by simp, by rw [HT.out]; rfl, B1.out.size, by rw [HT.out]; exact N1.out, A1.out⟩
end Go.Proofs.YtmcflfpckpjphaaGreatDoor.MacS

namespace Go.Proofs.YtmcflfpckpjphaaGreatDoor.StrS
open Go.RowKit Mem App AppAt AppStep ShaP Words DiffP MacP MacS KdfP

set_option maxHeartbeats 1600000 in
theorem specBlockOf (a0 : Option Addr) (n0 c0 : Nat) (a1 : Option Addr) (n1 c1 : Nat) (k h : List Int) (i : Int) (w : World) (e0 : n0 = k.length) (e1 : n1 = h.length) (r0 : Rd w a0 k) (r1 : Rd w a1 h) (na0 : a0 = none → c0 = 0) (na1 : a1 = none → c1 = 0) (hb0 : Bytes k) (hb1 : Bytes h) (l0 : n0 ≤ 2097152) (l1 : n1 ≤ 2097152) :
  Calls Tryz.prog 143 #[.slice a0 n0 c0, .slice a1 n1 c1, .int .i64 i] w fun e w' =>
   ∃ g m c, e = .returned (.slice (some ⟨g, 0, none⟩) m c) ∧ m = (blockI k h i).length ∧ w.heap.size ≤ g ∧ Row w' g c (blockI k h i) ∧ Below w.heap.size w w' := by
 have HN0 : Hid (n0 = k.length) := e0
 have HN1 : Hid (n1 = h.length) := e1
 have HR0 := hid (r0)
 have HR1 := hid (r1)
 have HB0 := hid (hb0)
 have HB1 := hid (hb1)
 clear e0 e1 r0 r1 hb0 hb1
 by_cases hm : 0 ≤ i ∧ i ≤ 6 ∧ n1 ≤ 100
 ·
  have HBI : Hid (blockI k h i = hmacI k (([115] ++ h) ++ putN i 4)) := by
   show _ = _
   unfold blockI; rw [if_pos ⟨hm.1, hm.2.1, by rw [← HN1.out]; exact hm.2.2⟩]
   unfold sblk
   rw [Int.toNat_of_nonneg hm.1]; rfl
  have hi : isIn i 0 6 = true := by simp [isIn]; omega
  have q1 : ¬ ((n1 : Int) > 100) := by omega
  have hn1 : n1 ≤ 100 := hm.2.2
  have A0 : Hid (Below w.heap.size w (w.alloc (.cells #[.int .u8 115] 5))) := (Below.refl _ _).alloc (Nat.le_refl _) _
  have R0 : Hid (Row (w.alloc (.cells #[.int .u8 115] 5)) w.heap.size 1 [115]) := row_new w [115] (by simp [maxLen])
  clear hm
  go_enter Tryz.func143, Tryz.ntmps143
  go_wp2_with fail
  refine (l1In i 0 6 w).mono ?_
  rintro e w1 ⟨rfl, rfl⟩
  rw [hi]
  go_wp2_with (at_builtin; refine wpList_app _ rfl (.tmp 17) (.tmp 18) rfl w.heap.size w.heap.size 1 1 [115] h rfl rfl R0.out (Nat.le_refl _) a1 n1 c1 rfl HN1.out (HR1.out.later A0.out (Nat.le_refl _)) na1 (by rw [← HN1.out, List.length_singleton]; omega) ?_; intro g1 cc1 w1 rr1 b1 ll1 gr1; have R1 := hid (rr1); have B1 : Hid (Below w.heap.size w w1) := A0.out.grown gr1 A0.out.size (fun k h => by cases h; exact Nat.le_refl _); clear rr1 b1 ll1 gr1)
  have L1 : Hid (1 + n1 = ([115] ++ h).length) := by show _ = _; rw [List.length_append, ← HN1.out]; rfl
  refine (specPutN (some ⟨g1, 0, none⟩) (1 + n1) cc1 ([115] ++ h) i 4 w1 L1.out R1.out.rd (by intro e; cases e) (by rw [← L1.out]; omega)).mono ?_
  rintro e w2 ⟨g2, m2, c2, rfl, e2, k2, r2, b2⟩
  have E2 : Hid (m2 = (([115] ++ h) ++ putN i 4).length) := e2
  have R2 := hid (r2)
  have B2 := hid (B1.out.trans (b2.mono B1.out.size))
  have hm2 : m2 ≤ 200 := by have := putN_length i 4; rw [e2, List.length_append, ← L1.out]; omega
  have Y2 : Hid (Bytes (([115] ++ h) ++ putN i 4)) := bytes_append (bytes_append (by intro z hz; simp at hz; omega) HB1.out) (num_bytes i 4)
  clear e2 k2 r2 b2
  go_wp2_with fail
  refine (specHmac a0 n0 c0 (some ⟨g2, 0, none⟩) m2 c2 k _ w2 HN0.out E2.out (HR0.out.later B2.out (Nat.le_refl _)) R2.out.rd na0 (by intro e; cases e) HB0.out Y2.out l0 (by omega)).mono ?_
  rw [← HBI.out]
  rintro e w3 ⟨g3, m3, c3, rfl, e3, k3, r3, b3⟩
  have E3 : Hid (m3 = (blockI k h i).length) := e3
  have K3 : Hid (w.heap.size ≤ g3) := Nat.le_trans B2.out.size k3
  have R3 := hid (r3)
  have B3 := hid (B2.out.trans (b3.mono B2.out.size))
  clear e3 k3 r3 b3
  go_wp2
  go_ret
  exact ⟨g3, m3, c3, rfl, E3.out, K3.out, R3.out, B3.out⟩
 ·
  have HBI : Hid (blockI k h i = []) := by
   show _ = _
   unfold blockI; rw [if_neg (by rw [← HN1.out]; exact hm)]
  have A0 : Hid (Below w.heap.size w (w.alloc (.cells #[] 5))) := (Below.refl _ _).alloc (Nat.le_refl _) _
  have R0 : Hid (Row (w.alloc (.cells #[] 5)) w.heap.size 0 []) := row_new w [] (by simp)
  by_cases h1 : 0 ≤ i ∧ i ≤ 6
  ·
   have hi : isIn i 0 6 = true := by simp [isIn]; omega
   have q1 : (n1 : Int) > 100 := by omega
   clear hm
   go_enter Tryz.func143, Tryz.ntmps143
   go_wp2_with fail
   refine (l1In i 0 6 w).mono ?_
   rintro e w1 ⟨rfl, rfl⟩
   rw [hi]
   go_wp2
   go_ret
   exact ⟨w.heap.size, 0, 0, by simp, by rw [HBI.out]; rfl, Nat.le_refl _, by rw [HBI.out]; exact R0.out, A0.out⟩
  ·
   have hi : isIn i 0 6 = false := by simp [isIn]; omega
   clear hm
   go_enter Tryz.func143, Tryz.ntmps143
   go_wp2_with fail
   refine (l1In i 0 6 w).mono ?_
   rintro e w1 ⟨rfl, rfl⟩
   rw [hi]
   go_wp2
   go_ret
   exact ⟨w.heap.size, 0, 0, by simp, by rw [HBI.out]; rfl, Nat.le_refl _, by rw [HBI.out]; exact R0.out, A0.out⟩

theorem blockI_nat (k h : List Int) (i : Nat) (hi : i ≤ 6) (hh : h.length ≤ 100) : blockI k h (i : Int) = sblk k h i := by
 unfold blockI; rw [if_pos ⟨by omega, by omega, hh⟩, Int.toNat_natCast]

set_option maxHeartbeats 4000000 in
theorem specStream (a0 : Option Addr) (n0 c0 : Nat) (a1 : Option Addr) (n1 c1 : Nat) (k h : List Int) (n : Int) (w : World) (e0 : n0 = k.length) (e1 : n1 = h.length) (r0 : Rd w a0 k) (r1 : Rd w a1 h) (na0 : a0 = none → c0 = 0) (na1 : a1 = none → c1 = 0) (hb0 : Bytes k) (hb1 : Bytes h) (l0 : n0 ≤ 2097152) (l1 : n1 ≤ 2097152) :
  Calls Tryz.prog 103 #[.slice a0 n0 c0, .slice a1 n1 c1, .int .i64 n] w fun e w' =>
   ∃ g m c, e = .returned (.slice (some ⟨g, 0, none⟩) m c) ∧ m = (strI k h n).length ∧ w.heap.size ≤ g ∧ Row w' g c (strI k h n) ∧ Below w.heap.size w w' := by
 have HN0 : Hid (n0 = k.length) := e0
 have HN1 : Hid (n1 = h.length) := e1
 have HR0 := hid (r0)
 have HR1 := hid (r1)
 have HB0 := hid (hb0)
 have HB1 := hid (hb1)
 have A0 : Hid (Below w.heap.size w (w.alloc (.cells #[] 5))) := (Below.refl _ _).alloc (Nat.le_refl _) _
 have R0 : Hid (Row (w.alloc (.cells #[] 5)) w.heap.size 0 (sblks k h 0)) := row_new w [] (by simp)
 clear e0 e1 r0 r1 hb0 hb1
 cases hm : mayStr k h n with
 | false =>
  have HE : Hid (strI k h n = []) := strI_no k h n hm
  have hno : ¬ (0 ≤ n ∧ n ≤ 200 ∧ n1 ≤ 100 ∧ n0 ≤ 1048576) := by
   intro x; rw [HN0.out, HN1.out] at x; rw [(mayStr_iff k h n).2 x] at hm; cases hm
  clear hm
  by_cases h1 : 0 ≤ n ∧ n ≤ 200
  ·
   have hi : isIn n 0 200 = true := by simp [isIn]; omega
   by_cases h2 : n1 ≤ 100
   ·
    have q1 : ¬ ((n1 : Int) > 100) := by omega
    have q2 : (n0 : Int) > 1048576 := by omega
    clear hno
    go_enter Tryz.func103, Tryz.ntmps103
    go_wp2_with fail
    refine (l1In n 0 200 w).mono ?_
    rintro e w1 ⟨rfl, rfl⟩
    rw [hi]
    go_wp2
    go_ret
    exact ⟨w.heap.size, 0, 0, by simp, by rw [HE.out]; rfl, Nat.le_refl _, by rw [HE.out]; exact R0.out, A0.out⟩
   ·
    have q1 : (n1 : Int) > 100 := by omega
    clear hno
    go_enter Tryz.func103, Tryz.ntmps103
    go_wp2_with fail
    refine (l1In n 0 200 w).mono ?_
    rintro e w1 ⟨rfl, rfl⟩
    rw [hi]
    go_wp2
    go_ret
    exact ⟨w.heap.size, 0, 0, by simp, by rw [HE.out]; rfl, Nat.le_refl _, by rw [HE.out]; exact R0.out, A0.out⟩
  ·
   have hi : isIn n 0 200 = false := by simp [isIn]; omega
   clear hno
   go_enter Tryz.func103, Tryz.ntmps103
   go_wp2_with fail
   refine (l1In n 0 200 w).mono ?_
   rintro e w1 ⟨rfl, rfl⟩
   rw [hi]
   go_wp2
   go_ret
   exact ⟨w.heap.size, 0, 0, by simp, by rw [HE.out]; rfl, Nat.le_refl _, by rw [HE.out]; exact R0.out, A0.out⟩
 | true =>
  obtain ⟨h0, h1, h2, h3⟩ := (mayStr_iff k h n).1 hm
  obtain ⟨N, rfl⟩ := Int.eq_ofNat_of_zero_le h0
  have HE : Hid (strI k h (N : Int) = (sblks k h ((N + 31) / 32)).take N) := by show _ = _; rw [strI_yes k h _ hm, Int.toNat_natCast]
  have HEL : Hid (N = (strI k h (N : Int)).length) := (strI_len k h N hm).symm
  have HK3 : Hid (k.length ≤ 1048576) := h3
  have HF2 : Hid (h.length ≤ 100) := h2
  have hN : N ≤ 200 := by omega
  rw [← HN1.out] at h2
  rw [← HN0.out] at h3
  have hi : isIn (N : Int) 0 200 = true := by simp [isIn]; omega
  have q1 : ¬ ((n1 : Int) > 100) := by omega
  have q2 : ¬ ((n0 : Int) > 1048576) := by omega
  clear hm h0 h1
  go_enter Tryz.func103, Tryz.ntmps103
  go_wp2_with fail
  refine (l1In (N : Int) 0 200 w).mono ?_
  rintro e w1 ⟨rfl, rfl⟩
  rw [hi]
  go_wp2
  go_loopw [7, 8] (fun v i wr => ∃ q go co : Nat, q ≤ 7 ∧ 32 * q < N + 32 ∧ i = .int .i64 (q : Int) ∧ v = .slice (some ⟨go, 0, none⟩) (32 * q) co ∧ w.heap.size ≤ go ∧ Row wr go co (sblks k h q) ∧ Below w.heap.size w wr)
   (fun _ i _ => 10000 - (intOf i).toNat)
  case atStart => exact ⟨0, w.heap.size, 0, by omega, by omega, rfl, rfl, Nat.le_refl _, R0.out, A0.out⟩
  case round =>
   obtain ⟨q, go, co, hq, hqN, rfl, rfl, hgo, hRo, hbe⟩ := hrel
   have HRo := hid (hRo)
   have HBe := hid (hbe)
   have HOL : Hid (32 * q = (sblks k h q).length) := (sblks_len k h HK3.out HF2.out q).symm
   clear R0 A0 hRo hbe
   by_cases hlt : 32 * q < N
   ·
    have hltI : ((32 * q : Nat) : Int) < (N : Int) := by omega
    have HT1 : Hid (blockI k h (q : Int) = sblk k h q) := blockI_nat k h q (by omega) HF2.out
    have H32 : Hid ((sblk k h q).length = 32) := sblk_len k h HK3.out HF2.out q
    go_wp2_with fail
    refine (specBlockOf a0 n0 c0 a1 n1 c1 k h (q : Int) wr HN0.out HN1.out (HR0.out.later HBe.out (Nat.le_refl _)) (HR1.out.later HBe.out (Nat.le_refl _)) na0 na1 HB0.out HB1.out l0 l1).mono ?_
    rw [HT1.out]
    rintro e w6 ⟨g6, m6, c6, rfl, e6, k6, r6, b6⟩
    obtain rfl : m6 = 32 := by rw [e6, H32.out]
    have R6 := hid (r6)
    have B6 := hid (HBe.out.trans (b6.mono HBe.out.size))
    have RO6 := hid (HRo.out.later b6)
    clear e6 k6 r6 b6
    go_wp2_with (at_builtin; refine wpList_app_at _ rfl (.tmp 30) (.tmp 34) rfl w.heap.size go (32 * q) co (sblks k h q) (sblk k h q) rfl HOL.out RO6.out hgo (some ⟨g6, 0, none⟩) 32 c6 rfl H32.out.symm R6.out.rd (by intro e; cases e) (by rw [← HOL.out, H32.out]; omega) ?_; intro g7 c7 w7 r7 k7 l7 gr7; have R7 := hid (r7); have G7 : Hid (w.heap.size ≤ g7) := k7; have B7 : Hid (Below w.heap.size w w7) := B6.out.grown gr7 B6.out.size (fun k h => by cases h; exact hgo); clear r7 k7 l7 gr7)
    go_roundw
    case rel => exact ⟨q + 1, g7, c7, by omega, by omega, by go_num, by (congr 1), G7.out, R7.out, B7.out⟩
    case measure => simp [intOf]; omega
   ·
    have hltI : ¬ (((32 * q : Nat) : Int) < (N : Int)) := by omega
    have hco : 32 * q ≤ co := by have := HRo.out.1; rw [← HOL.out] at this; exact this
    have i1 : (N : Int) ≤ (co : Int) := by omega
    have i0 : (0 : Int) ≤ (N : Int) := by omega
    have HQ : Hid ((N + 31) / 32 = q) := by show _ = _; omega
    have A1 : Hid (Below w.heap.size w (wr.alloc (.cells #[] 5))) := HBe.out.alloc HBe.out.size _
    have E1 : Hid (Row (wr.alloc (.cells #[] 5)) wr.heap.size 0 []) := row_new wr [] (by simp)
    have RX : Hid (Rd (wr.alloc (.cells #[] 5)) (some ⟨go, 0, none⟩) (strI k h (N : Int))) := by
     show Rd _ _ _
     rw [HE.out, HQ.out]
     have h1 := (row_alloc HRo.out (.cells #[] 5)).rd
     intro i hi
     rw [List.length_take] at hi
     obtain ⟨b', off, e, hb', hh⟩ := h1 i (by omega)
     refine ⟨b', off, e, hb', ?_⟩
     rw [hh]
     have : i < N := by omega
     simp [List.getD, this]
    go_wp2_with (at_builtin; refine wpList_app _ rfl (.tmp 36) (.tmp 39) rfl w.heap.size wr.heap.size 0 0 [] (strI k h (N : Int)) rfl rfl E1.out HBe.out.size (some ⟨go, 0, none⟩) N co rfl HEL.out RX.out (by intro e; cases e) (by rw [← HEL.out, List.length_nil]; omega) ?_; intro g8 c8 w8 r8 k8 l8 gr8; have R8 : Hid (Row w8 g8 c8 (strI k h (N : Int))) := (List.nil_append (strI k h (N : Int))) ▸ r8; have G8 : Hid (w.heap.size ≤ g8) := k8; have B8 : Hid (Below w.heap.size w w8) := A1.out.grown gr8 A1.out.size (fun k h => by cases h; exact HBe.out.size); clear r8 k8 l8 gr8)
    go_ret
    exact ⟨g8, N, c8, rfl, HEL.out, G8.out, R8.out, B8.out⟩

theorem xors_take (a b : List Int) (q : Nat) (h1 : q < a.length) (h2 : q < b.length) : (xors a b).take (q + 1) = (xors a b).take q ++ [bits .xor .u8 (a.getD q 0) (b.getD q 0)] := by
 have hx : q < (xors a b).length := by rw [xors_length]; omega
 have e := xors_at a b q h1 h2
 rw [List.getElem?_eq_getElem hx, Option.some.injEq] at e
 rw [List.take_succ_eq_append_getElem hx, e]
 simp [List.getD, h1, h2]

set_option maxHeartbeats 4000000 in
theorem specMix (a0 : Option Addr) (n0 c0 : Nat) (a1 : Option Addr) (n1 c1 : Nat) (ab : Option Addr) (nb cb : Nat) (k h b : List Int) (w : World) (e0 : n0 = k.length) (e1 : n1 = h.length) (eb : nb = b.length) (r0 : Rd w a0 k) (r1 : Rd w a1 h) (rb : Rd w ab b) (na0 : a0 = none → c0 = 0) (na1 : a1 = none → c1 = 0) (hb0 : Bytes k) (hb1 : Bytes h) (hbb : Bytes b) (l0 : n0 ≤ 2097152) (l1 : n1 ≤ 2097152) (lb : nb ≤ 2097152) :
  Calls Tryz.prog 63 #[.slice a0 n0 c0, .slice a1 n1 c1, .slice ab nb cb] w fun e w' =>
   ∃ g m c, e = .returned (.slice (some ⟨g, 0, none⟩) m c) ∧ m = (mixI k h b).length ∧ w.heap.size ≤ g ∧ Row w' g c (mixI k h b) ∧ Below w.heap.size w w' := by
 have HN0 : Hid (n0 = k.length) := e0
 have HN1 : Hid (n1 = h.length) := e1
 have HNB : Hid (nb = b.length) := eb
 have HR0 := hid (r0)
 have HR1 := hid (r1)
 have HRB := hid (rb)
 have HB0 := hid (hb0)
 have HB1 := hid (hb1)
 have HBB := hid (hbb)
 have A0 : Hid (Below w.heap.size w (w.alloc (.cells #[] 5))) := (Below.refl _ _).alloc (Nat.le_refl _) _
 have R0 : Hid (Row (w.alloc (.cells #[] 5)) w.heap.size 0 []) := row_new w [] (by simp)
 clear e0 e1 eb r0 r1 rb hb0 hb1 hbb
 cases hm : mayStr k h (b.length : Int) with
 | false =>
  have HE : Hid (mixI k h b = []) := mixI_no k h b hm
  have hno : ¬ (nb ≤ 200 ∧ n1 ≤ 100 ∧ n0 ≤ 1048576) := by
   intro x; rw [HN0.out, HN1.out, HNB.out] at x; rw [(mayStr_iff k h (b.length : Int)).2 ⟨by omega, by omega, x.2⟩] at hm; cases hm
  clear hm
  by_cases h1 : nb ≤ 200
  ·
   by_cases h2 : n1 ≤ 100
   ·
    have q0 : ¬ ((nb : Int) > 200) := by omega
    have q1 : ¬ ((n1 : Int) > 100) := by omega
    have q2 : (n0 : Int) > 1048576 := by omega
    clear hno
    go_enter Tryz.func63, Tryz.ntmps63
    go_wp2
    go_ret
    exact ⟨w.heap.size, 0, 0, by simp, by rw [HE.out]; rfl, Nat.le_refl _, by rw [HE.out]; exact R0.out, A0.out⟩
   ·
    have q0 : ¬ ((nb : Int) > 200) := by omega
    have q1 : (n1 : Int) > 100 := by omega
    clear hno
    go_enter Tryz.func63, Tryz.ntmps63
    go_wp2
    go_ret
    exact ⟨w.heap.size, 0, 0, by simp, by rw [HE.out]; rfl, Nat.le_refl _, by rw [HE.out]; exact R0.out, A0.out⟩
  ·
   have q0 : (nb : Int) > 200 := by omega
   clear hno
   go_enter Tryz.func63, Tryz.ntmps63
   go_wp2
   go_ret
   exact ⟨w.heap.size, 0, 0, by simp, by rw [HE.out]; rfl, Nat.le_refl _, by rw [HE.out]; exact R0.out, A0.out⟩
 | true =>
  obtain ⟨h0, h1, h2, h3⟩ := (mayStr_iff k h (b.length : Int)).1 hm
  have HE : Hid (mixI k h b = xors b (strI k h (b.length : Int))) := mixI_of k h b hm
  have HSL : Hid ((strI k h (nb : Int)).length = nb) := by show _ = _; rw [HNB.out]; exact strI_len k h _ hm
  have HEL : Hid (nb = (mixI k h b).length) := by show _ = _; rw [mixI_len k h b hm]; exact HNB.out
  have hnb : nb ≤ 200 := by have := HNB.out; omega
  rw [← HN1.out] at h2
  rw [← HN0.out] at h3
  have q0 : ¬ ((nb : Int) > 200) := by omega
  have q1 : ¬ ((n1 : Int) > 100) := by omega
  have q2 : ¬ ((n0 : Int) > 1048576) := by omega
  clear hm h0 h1
  go_enter Tryz.func63, Tryz.ntmps63
  go_wp2_with fail
  refine (specStream a0 n0 c0 a1 n1 c1 k h (nb : Int) _ HN0.out HN1.out (HR0.out.later A0.out (Nat.le_refl _)) (HR1.out.later A0.out (Nat.le_refl _)) na0 na1 HB0.out HB1.out l0 l1).mono ?_
  rintro e w2 ⟨gs, ms, cs, rfl, es, ks, rs, bs⟩
  obtain rfl : ms = nb := by rw [es, HSL.out]
  rw [← HNB.out] at HE
  obtain ⟨s, hs⟩ : ∃ s, strI k h (ms : Int) = s := ⟨_, rfl⟩
  rw [hs] at HE HSL rs
  have SB : Hid (Bytes s) := by rw [← hs]; exact strI_bytes k h _
  have RS := hid (rs)
  have B2 := hid (A0.out.trans (bs.mono A0.out.size))
  have RO := hid (R0.out.later bs)
  have NS : Hid (w.heap.size ≠ gs) := Nat.ne_of_lt (Nat.lt_of_lt_of_le R0.out.lt ks)
  have GS : Hid (w.heap.size ≤ gs) := Nat.le_trans A0.out.size ks
  clear es ks rs bs hs
  go_wp2
  go_loopw [7, 9] (fun v i wr => ∃ q go co : Nat, q ≤ ms ∧ i = .int .i64 (q : Int) ∧ v = .slice (some ⟨go, 0, none⟩) q co ∧ w.heap.size ≤ go ∧ go ≠ gs ∧ Row wr go co ((xors b s).take q) ∧ Row wr gs cs s ∧ Below w.heap.size w wr)
   (fun _ i _ => ms - (intOf i).toNat)
  case atStart => exact ⟨0, w.heap.size, 0, by omega, rfl, rfl, Nat.le_refl _, NS.out, RO.out, RS.out, B2.out⟩
  case round =>
   obtain ⟨q, go, co, hq, rfl, rfl, hgo, hne, hRo, hRs, hbe⟩ := hrel
   have HRo := hid (hRo)
   have HRs := hid (hRs)
   have HBe := hid (hbe)
   have HNE : Hid (go ≠ gs) := hne
   have HQL : Hid (q = ((xors b s).take q).length) := by show _ = _; rw [List.length_take, xors_length, HSL.out, ← HNB.out]; omega
   clear RO RS B2 hRo hRs hbe hne
   by_cases hlt : q < ms
   ·
    have hltI : (q : Int) < (ms : Int) := by omega
    have i0 : (0 : Int) ≤ (q : Int) := by omega
    have HT : Hid ((xors b s).take (q + 1) = (xors b s).take q ++ [bits .xor .u8 (b.getD q 0) (s.getD q 0)]) := xors_take b s q (by rw [← HNB.out]; exact hlt) (by rw [HSL.out]; exact hlt)
    obtain ⟨bb, bo, rfl, hbl, p1⟩ := (HRB.out.later HBe.out (Nat.le_refl _)) q (by rw [← HNB.out]; exact hlt)
    have p2 := HRs.out.cell q (by rw [HSL.out]; exact hlt)
    have HBL : Hid (∀ wx, Below w.heap.size w wx → wx.cell? ⟨bb, bo + q, none⟩ = some (.int .u8 (b.getD q 0))) := fun wx hb => by
     obtain ⟨b', o', e, _, hc⟩ := (HRB.out.later hb (Nat.le_refl _)) q (by rw [← HNB.out]; exact hlt)
     simp only [Option.some.injEq, Addr.mk.injEq, and_true] at e
     obtain ⟨rfl, rfl⟩ := e
     exact hc
    have HSS : Hid (∀ wx, Row wx gs cs s → wx.cell? ⟨gs, q, none⟩ = some (.int .u8 (s.getD q 0))) := fun wx hx => hx.cell q (by rw [HSL.out]; exact hlt)
    generalize b.getD q 0 = z1 at *
    generalize s.getD q 0 = z2 at *
    clear hbl
    go_wp2
    go_region_held3 (fun w' => w'.cell? ⟨bb, bo + q, none⟩ = some (.int .u8 z1) ∧ w'.cell? ⟨gs, q, none⟩ = some (.int .u8 z2)) (first | exact ⟨p3, p4⟩ | exact ⟨p1, p2⟩ | exact ⟨HBL.out _ (HBe.out.drew.alloc HBe.out.size _), HSS.out _ (row_alloc (w := wr.drew) HRs.out _)⟩ | go_keep)
     ((refine bstep_at rfl (.tmp 36) (.tmp 46) rfl w.heap.size go q co ((xors b s).take q) [bits .xor .u8 z1 z2] (by rfl) HQL.out (row_alloc (w := wr.drew) HRo.out _) hgo ⟨wr.heap.size, 0, none⟩ 1 1 (by rfl) rfl (rd_one wr.drew _) (by rw [← HQL.out, List.length_singleton]; omega) ?_; intro g3 c3 w3 r3 k3 l3 gr3; have R3 : Hid (Row w3 g3 c3 ((xors b s).take (q + 1))) := (by show Row _ _ _ _; rw [HT.out]; exact r3); have G3 : Hid (w.heap.size ≤ g3) := k3; have S3 : Hid (Row w3 gs cs s) := (row_alloc (w := wr.drew) HRs.out _).keep (gr3.block gs (row_alloc (w := wr.drew) HRs.out _).lt (by simp only [ne_eq, Option.some.injEq]; exact Ne.symm HNE.out)); have N3 : Hid (g3 ≠ gs) := (by rcases l3 with rfl | h; exact HNE.out; exact Nat.ne_of_gt (Nat.lt_of_lt_of_le (row_alloc (w := wr.drew) HRs.out _).lt h)); have B3 : Hid (Below w.heap.size w w3) := (HBe.out.drew.alloc HBe.out.size _).grown gr3 (Below.size (HBe.out.drew.alloc HBe.out.size _)) (fun k h => by cases h; exact hgo); have p3 := HBL.out w3 B3.out; have p4 := HSS.out w3 S3.out; clear r3 k3 l3 gr3))
    go_wp2
    go_roundw
    case rel => exact ⟨q + 1, g3, c3, by omega, by go_num, rfl, G3.out, N3.out, R3.out, S3.out, B3.out⟩
    case measure => simp [intOf]; omega
   ·
    obtain rfl : q = ms := by omega
    have HF : Hid ((xors b s).take q = mixI k h b) := by
     show _ = _
     rw [HE.out, List.take_of_length_le (by rw [xors_length, HSL.out, ← HNB.out]; omega)]
    rw [HF.out] at HRo
    have hltI : ¬ ((q : Int) < (q : Int)) := by omega
    go_wp2
    go_ret
    exact ⟨go, q, co, rfl, HEL.out, hgo, HRo.out, HBe.out⟩
end Go.Proofs.YtmcflfpckpjphaaGreatDoor.StrS
