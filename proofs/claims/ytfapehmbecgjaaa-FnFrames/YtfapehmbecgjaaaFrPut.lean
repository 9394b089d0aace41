/-
  What spec's PutFrame answers.
-/
import Derived.Test.YtfapehmbecgjaaaFrS
import Derived.Test.YtfapehmbecgjaaaAppStep
import Derived.Test.YtfapehmbecgjaaaFrB
namespace Go.Proofs.Ytfapehmbecgjaaa.FrPut
open Go.RowKit Go.Proofs.Ytfapehmbecgjaaa.Mem Go.Proofs.Ytfapehmbecgjaaa.App Go.Proofs.Ytfapehmbecgjaaa.AppAt Go.Proofs.Ytfapehmbecgjaaa.AppStep Go.Proofs.Ytfapehmbecgjaaa.Blk Go.Proofs.Ytfapehmbecgjaaa.Words Go.Proofs.Ytfapehmbecgjaaa.Zone Go.Proofs.Ytfapehmbecgjaaa.FrZ Go.Proofs.Ytfapehmbecgjaaa.FrP Go.Proofs.Ytfapehmbecgjaaa.FrS Go.Proofs.Ytfapehmbecgjaaa.FrB


set_option maxRecDepth 100000 in
set_option maxHeartbeats 8000000 in
theorem specPutFrame (S : FrS) (D : FrD) (w : World) (h : FrRd w S D) :
    Calls Try.prog 26 #[frV D S] w fun e w' => ∃ g m c, e = .returned (.slice (some ⟨g, 0, none⟩) m c) ∧ m = (putF D).length ∧ w.heap.size ≤ g ∧ Row w' g c (putF D) ∧ Below w.heap.size w w' := by
  have HR : Hid (FrRd w S D) := h
  obtain ⟨x0, hx0⟩ : ∃ x0, w.alloc (.cells #[.int .i64 D.kind, .int .i64 D.id, .slice S.cn.a S.cn.n S.cn.c, .slice S.sn.a S.sn.n S.sn.c, .int .i64 D.tick, .slice S.cookie.a S.cookie.n S.cookie.c, .slice S.proof.a S.proof.n S.proof.c, .int .i64 D.epoch, .int .i64 D.seq, .slice S.body.a S.body.n S.body.c, .slice S.tag.a S.tag.n S.tag.c] 25) = x0 := ⟨_, rfl⟩
  have HW0 : Hid (w.alloc (.cells #[.int .i64 D.kind, .int .i64 D.id, .slice S.cn.a S.cn.n S.cn.c, .slice S.sn.a S.sn.n S.sn.c, .int .i64 D.tick, .slice S.cookie.a S.cookie.n S.cookie.c, .slice S.proof.a S.proof.n S.proof.c, .int .i64 D.epoch, .int .i64 D.seq, .slice S.body.a S.body.n S.body.c, .slice S.tag.a S.tag.n S.tag.c] 25) = x0) := hx0
  have B0 : Hid (Below w.heap.size w x0) := by rw [← hx0]; exact (Below.refl _ _).alloc (Nat.le_refl _) _
  have KA0 : Hid (Blk x0 w.heap.size 25 [.int .i64 D.kind, .int .i64 D.id, .slice S.cn.a S.cn.n S.cn.c, .slice S.sn.a S.sn.n S.sn.c, .int .i64 D.tick, .slice S.cookie.a S.cookie.n S.cookie.c, .slice S.proof.a S.proof.n S.proof.c, .int .i64 D.epoch, .int .i64 D.seq, .slice S.body.a S.body.n S.body.c, .slice S.tag.a S.tag.n S.tag.c]) := by rw [← hx0]; exact Blk.new w _ _
  clear hx0 h
  unfold frV
  go_enter Try.func26, Try.ntmps26
  go_upto_region 1 with fail
  rw [HW0.out]
  obtain ⟨ga, hga⟩ : ∃ ga, w.heap.size = ga := ⟨_, rfl⟩
  have HGA : Hid (w.heap.size = ga) := hga
  rw [hga] at KA0
  rw [hga]
  clear HW0 hga
  have c0 := KA0.out.cell 0 rfl
  have c1 := KA0.out.cell 1 rfl
  have c2 := KA0.out.cell 2 rfl
  have c3 := KA0.out.cell 3 rfl
  have c4 := KA0.out.cell 4 rfl
  have c5 := KA0.out.cell 5 rfl
  have c6 := KA0.out.cell 6 rfl
  have c7 := KA0.out.cell 7 rfl
  have c8 := KA0.out.cell 8 rfl
  have c9 := KA0.out.cell 9 rfl
  have c10 := KA0.out.cell 10 rfl
  go_wp2_with fail
  refine (specFrameOk S D x0 (HR.out.later B0.out)).mono ?_
  rintro e x1 ⟨rfl, b1⟩
  have B1 : Hid (Below w.heap.size w x1) := B0.out.trans (b1.mono B0.out.size)
  have KA1 : Hid (Blk x1 ga 25 [.int .i64 D.kind, .int .i64 D.id, .slice S.cn.a S.cn.n S.cn.c, .slice S.sn.a S.sn.n S.sn.c, .int .i64 D.tick, .slice S.cookie.a S.cookie.n S.cookie.c, .slice S.proof.a S.proof.n S.proof.c, .int .i64 D.epoch, .int .i64 D.seq, .slice S.body.a S.body.n S.body.c, .slice S.tag.a S.tag.n S.tag.c]) := KA0.out.later b1
  clear b1 B0 KA0 c0 c1 c2 c3 c4 c5 c6 c7 c8 c9 c10
  cases hok : frameOk D with
  | false =>
    have HP : Hid (putF D = []) := putF_no D hok
    have A0 : Hid (Below w.heap.size w (x1.alloc (.cells #[] 5))) := B1.out.alloc B1.out.size _
    have R0 : Hid (Row (x1.alloc (.cells #[] 5)) x1.heap.size 0 []) := row_new x1 [] (by simp)
    clear hok
    go_wp2
    go_ret
    exact ⟨x1.heap.size, 0, 0, by simp, by rw [HP.out]; rfl, B1.out.size, by rw [HP.out]; exact R0.out, A0.out⟩
  | true =>
    obtain ⟨hk0, hk1⟩ := ok_kind D hok
    have hkw : IntKind.u8.wrap D.kind = D.kind := by rw [IntKind.wrap_u8']; omega
    obtain ⟨x2, hx2⟩ : ∃ x2, x1.alloc (.cells #[.int .u8 D.kind] 5) = x2 := ⟨_, rfl⟩
    have HW2 : Hid (x1.alloc (.cells #[.int .u8 D.kind] 5) = x2) := hx2
    have B2 : Hid (Below w.heap.size w x2) := by rw [← hx2]; exact B1.out.alloc B1.out.size _
    have KA2 : Hid (Blk x2 ga 25 [.int .i64 D.kind, .int .i64 D.id, .slice S.cn.a S.cn.n S.cn.c, .slice S.sn.a S.sn.n S.sn.c, .int .i64 D.tick, .slice S.cookie.a S.cookie.n S.cookie.c, .slice S.proof.a S.proof.n S.proof.c, .int .i64 D.epoch, .int .i64 D.seq, .slice S.body.a S.body.n S.body.c, .slice S.tag.a S.tag.n S.tag.c]) := by rw [← hx2]; exact KA1.out.alloc _
    have R2 : Hid (Row x2 x1.heap.size 1 [D.kind]) := by rw [← hx2]; exact row_new x1 [D.kind] (by simp [maxLen])
    have LT2 : Hid (ga < x1.heap.size) := KA1.out.lt
    have c0 := KA1.out.cell 0 rfl
    clear hx2
    go_upto_region 4 with fail
    rw [HW2.out]
    generalize x1.heap.size = g0 at *
    clear HW2 B1 KA1 c0
    have c0 := KA2.out.cell 0 rfl
    have c1 := KA2.out.cell 1 rfl
    have c2 := KA2.out.cell 2 rfl
    have c3 := KA2.out.cell 3 rfl
    have c4 := KA2.out.cell 4 rfl
    have c5 := KA2.out.cell 5 rfl
    have c6 := KA2.out.cell 6 rfl
    have c7 := KA2.out.cell 7 rfl
    have c8 := KA2.out.cell 8 rfl
    have c9 := KA2.out.cell 9 rfl
    have c10 := KA2.out.cell 10 rfl
    cases k1 : (D.kind == 1) with
    | true =>
      have HP : Hid (putF D = [D.kind] ++ [D.id] ++ D.cn ++ List.replicate 20 0) := putF_1 D hok k1
      have hid := ok_id1 D hok k1
      have hidw : IntKind.u8.wrap D.id = D.id := by rw [IntKind.wrap_u8']; omega
      have HG0 : Hid (w.heap.size ≤ g0) := Nat.le_of_lt (HGA.out ▸ LT2.out)
      have HNG : Hid (ga ≠ g0) := Nat.ne_of_lt LT2.out
      have HLS : Hid (D.cn.length ≤ 12 ∧ D.sn.length ≤ 12 ∧ D.cookie.length ≤ 16 ∧ D.proof.length ≤ 16 ∧ D.body.length ≤ 40 ∧ D.tag.length ≤ 16) := ok_lens D hok
      have HLN : Hid (S.cn.n = D.cn.length ∧ S.sn.n = D.sn.length ∧ S.cookie.n = D.cookie.length ∧ S.proof.n = D.proof.length ∧ S.body.n = D.body.length ∧ S.tag.n = D.tag.length) := ⟨HR.out.cn.len, HR.out.sn.len, HR.out.cookie.len, HR.out.proof.len, HR.out.body.len, HR.out.tag.len⟩
      clear hok
      go_wp2
      have KAd1 : Hid (Blk x2.drew ga 25 [.int .i64 D.kind, .int .i64 D.id, .slice S.cn.a S.cn.n S.cn.c, .slice S.sn.a S.sn.n S.sn.c, .int .i64 D.tick, .slice S.cookie.a S.cookie.n S.cookie.c, .slice S.proof.a S.proof.n S.proof.c, .int .i64 D.epoch, .int .i64 D.seq, .slice S.body.a S.body.n S.body.c, .slice S.tag.a S.tag.n S.tag.c]) := KA2.out
      have Rd1 : Hid (Row x2.drew g0 1 ([D.kind])) := R2.out
      have Bd1 : Hid (Below w.heap.size w x2.drew) := B2.out.drew
      have cc0 := KAd1.out.cell 1 rfl
      have cc1 := KAd1.out.cell 2 rfl
      go_region_held3 (fun w' => w'.cell? ⟨ga, 1, none⟩ = some (.int .i64 D.id) ∧ w'.cell? ⟨ga, 2, none⟩ = some (.slice S.cn.a S.cn.n S.cn.c)) (first | exact ⟨pp3_0, pp3_1⟩ | exact ⟨pp2_0, pp2_1⟩ | exact ⟨cc0, cc1⟩ | go_keep)
        (first
          | (refine bstep_any rfl (.tmp 34) (.tmp 38) rfl w.heap.size g0 1 1 ([D.kind]) [D.id] (by rfl) rfl (row_alloc Rd1.out _) HG0.out (some ⟨x2.drew.heap.size, 0, none⟩) 1 1 (by rfl) rfl (rd_one x2.drew _) (by intro e; cases e) (by have := HLS.out; simp only [List.length_singleton]; omega) ?_; intro g2 c2 w2a r2 k2 l2 gr2; have KA2 : Hid (Blk w2a ga 25 [.int .i64 D.kind, .int .i64 D.id, .slice S.cn.a S.cn.n S.cn.c, .slice S.sn.a S.sn.n S.sn.c, .int .i64 D.tick, .slice S.cookie.a S.cookie.n S.cookie.c, .slice S.proof.a S.proof.n S.proof.c, .int .i64 D.epoch, .int .i64 D.seq, .slice S.body.a S.body.n S.body.c, .slice S.tag.a S.tag.n S.tag.c]) := ((KAd1.out.alloc _).keep (gr2.block ga (KAd1.out.alloc _).lt (by simp only [ne_eq, Option.some.injEq]; exact HNG.out))); have R2 : Hid (Row w2a g2 c2 ([D.kind] ++ [D.id])) := r2; have G2 : Hid (w.heap.size ≤ g2) := k2; have NG2 : Hid (ga ≠ g2) := (by rcases l2 with rfl | h; exact HNG.out; exact Nat.ne_of_lt (Nat.lt_of_lt_of_le (KAd1.out.alloc _).lt h)); have B2 : Hid (Below w.heap.size w w2a) := (Bd1.out.alloc Bd1.out.size _).grown gr2 (by simp; exact Nat.le_succ_of_le Bd1.out.size) (fun k h => by cases h; exact HG0.out); have pp2_0 := KA2.out.cell 1 rfl; have pp2_1 := KA2.out.cell 2 rfl; clear r2 k2 l2 gr2 Rd1)
          | (refine bstep_any rfl (.tmp 39) (.tmp 41) rfl w.heap.size g2 2 c2 ([D.kind] ++ [D.id]) D.cn (by rfl) rfl R2.out G2.out S.cn.a S.cn.n S.cn.c (by rfl) HR.out.cn.len (HR.out.cn.rd.later B2.out (Nat.le_refl _)) HR.out.cn.nil (by have := HLS.out; simp only [List.length_append, List.length_singleton]; omega) ?_; intro g3 c3 w3a r3 k3 l3 gr3; have KA3 : Hid (Blk w3a ga 25 [.int .i64 D.kind, .int .i64 D.id, .slice S.cn.a S.cn.n S.cn.c, .slice S.sn.a S.sn.n S.sn.c, .int .i64 D.tick, .slice S.cookie.a S.cookie.n S.cookie.c, .slice S.proof.a S.proof.n S.proof.c, .int .i64 D.epoch, .int .i64 D.seq, .slice S.body.a S.body.n S.body.c, .slice S.tag.a S.tag.n S.tag.c]) := (KA2.out.keep (gr3.block ga KA2.out.lt (by simp only [ne_eq, Option.some.injEq]; exact NG2.out))); have R3 : Hid (Row w3a g3 c3 ([D.kind] ++ [D.id] ++ D.cn)) := r3; have G3 : Hid (w.heap.size ≤ g3) := k3; have NG3 : Hid (ga ≠ g3) := (by rcases l3 with rfl | h; exact NG2.out; exact Nat.ne_of_lt (Nat.lt_of_lt_of_le KA2.out.lt h)); have B3 : Hid (Below w.heap.size w w3a) := B2.out.grown gr3 B2.out.size (fun k h => by cases h; exact G2.out); have pp3_0 := KA3.out.cell 1 rfl; have pp3_1 := KA3.out.cell 2 rfl; clear r3 k3 l3 gr3 R2))
      clear cc0 cc1 pp2_0 pp2_1 pp3_0 pp3_1
      go_wp2
      go_loopw [3, 4] (fun v i wr => ∃ (q g c : Nat), q ≤ 20 ∧ i = .int .i64 (q : Int) ∧ v = .slice (some ⟨g, 0, none⟩) ((2 + S.cn.n) + q) c ∧ w.heap.size ≤ g ∧ Row wr g c ([D.kind] ++ [D.id] ++ D.cn ++ List.replicate q 0) ∧ Below w.heap.size w wr)
        (fun _ i _ => 20 - (intOf i).toNat)
      case atStart => exact ⟨0, g3, c3, by omega, rfl, rfl, G3.out, by simpa using R3.out, B3.out⟩
      case round =>
        obtain ⟨q, g, c, hq, rfl, rfl, hg, hR, hB⟩ := hrel
        have RQ : Hid (Row wr g c ([D.kind] ++ [D.id] ++ D.cn ++ List.replicate q 0)) := hR
        have BQ : Hid (Below w.heap.size w wr) := hB
        clear hR hB R3 B3 KA3
        by_cases hlt : q < 20
        · have hltI : (q : Int) < 20 := by omega
          have HLQ : Hid ((2 + S.cn.n) + q = ([D.kind] ++ [D.id] ++ D.cn ++ List.replicate q (0 : Int)).length) := by have := HLN.out; show _ = _; simp only [List.length_append, List.length_singleton, List.length_replicate]; omega
          go_wp2_with (at_builtin; refine wpList_app _ rfl (.tmp 47) (.tmp 48) rfl w.heap.size g ((2 + S.cn.n) + q) c ([D.kind] ++ [D.id] ++ D.cn ++ List.replicate q 0) [0] rfl HLQ.out (row_alloc RQ.out _) hg (some ⟨wr.heap.size, 0, none⟩) 1 1 rfl rfl (rd_one wr _) (by intro e; cases e) (by rw [← HLQ.out]; have := HLN.out; have := HLS.out; simp only [List.length_singleton]; omega) ?_; intro g8 c8 w8 r8 k8 l8 gr8; have R8 : Hid (Row w8 g8 c8 ([D.kind] ++ [D.id] ++ D.cn ++ List.replicate (q + 1) 0)) := (by show Row _ _ _ _; rw [List.replicate_succ', ← List.append_assoc]; exact r8); have G8 : Hid (w.heap.size ≤ g8) := k8; have B8 : Hid (Below w.heap.size w w8) := (BQ.out.alloc BQ.out.size _).grown gr8 (by simp; exact Nat.le_succ_of_le BQ.out.size) (fun k h => by cases h; exact hg); clear r8 k8 l8 gr8)
          go_roundw
          case rel => exact ⟨_, _, _, _, _, _, _, _, _, ⟨q + 1, g8, c8, by omega, by go_num, rfl, G8.out, R8.out, B8.out⟩, rfl⟩
          case measure => simp [intOf]; omega
        · obtain rfl : q = 20 := by omega
          have hltI : ¬ (((20 : Nat) : Int) < 20) := by omega
          go_wp2
          go_ret
          exact ⟨g, (2 + S.cn.n) + 20, c, rfl, by rw [HP.out]; have := HLN.out; simp only [List.length_append, List.length_singleton, List.length_replicate]; omega, hg, by rw [HP.out]; exact RQ.out, BQ.out⟩
    | false =>
      cases k2 : (D.kind == 2) with
      | true =>
        have HP : Hid (putF D = [D.kind] ++ D.cn ++ D.sn ++ num D.tick 4 ++ D.cookie) := putF_2 D hok k1 k2
        have HG0 : Hid (w.heap.size ≤ g0) := Nat.le_of_lt (HGA.out ▸ LT2.out)
        have HNG : Hid (ga ≠ g0) := Nat.ne_of_lt LT2.out
        have HLS : Hid (D.cn.length ≤ 12 ∧ D.sn.length ≤ 12 ∧ D.cookie.length ≤ 16 ∧ D.proof.length ≤ 16 ∧ D.body.length ≤ 40 ∧ D.tag.length ≤ 16) := ok_lens D hok
        have HLN : Hid (S.cn.n = D.cn.length ∧ S.sn.n = D.sn.length ∧ S.cookie.n = D.cookie.length ∧ S.proof.n = D.proof.length ∧ S.body.n = D.body.length ∧ S.tag.n = D.tag.length) := ⟨HR.out.cn.len, HR.out.sn.len, HR.out.cookie.len, HR.out.proof.len, HR.out.body.len, HR.out.tag.len⟩
        clear hok
        go_wp2
        have KAd1 : Hid (Blk x2.drew ga 25 [.int .i64 D.kind, .int .i64 D.id, .slice S.cn.a S.cn.n S.cn.c, .slice S.sn.a S.sn.n S.sn.c, .int .i64 D.tick, .slice S.cookie.a S.cookie.n S.cookie.c, .slice S.proof.a S.proof.n S.proof.c, .int .i64 D.epoch, .int .i64 D.seq, .slice S.body.a S.body.n S.body.c, .slice S.tag.a S.tag.n S.tag.c]) := KA2.out
        have Rd1 : Hid (Row x2.drew g0 1 ([D.kind])) := R2.out
        have Bd1 : Hid (Below w.heap.size w x2.drew) := B2.out.drew
        have cc0 := KAd1.out.cell 2 rfl
        have cc1 := KAd1.out.cell 3 rfl
        go_region_held3 (fun w' => w'.cell? ⟨ga, 2, none⟩ = some (.slice S.cn.a S.cn.n S.cn.c) ∧ w'.cell? ⟨ga, 3, none⟩ = some (.slice S.sn.a S.sn.n S.sn.c)) (first | exact ⟨pp3_0, pp3_1⟩ | exact ⟨pp2_0, pp2_1⟩ | exact ⟨cc0, cc1⟩ | go_keep)
          (first
            | (refine bstep_any rfl (.tmp 52) (.tmp 54) rfl w.heap.size g0 1 1 ([D.kind]) D.cn (by rfl) rfl Rd1.out HG0.out S.cn.a S.cn.n S.cn.c (by rfl) HR.out.cn.len (HR.out.cn.rd.later Bd1.out (Nat.le_refl _)) HR.out.cn.nil (by have := HLS.out; simp only [List.length_singleton]; omega) ?_; intro g2 c2 w2a r2 k2 l2 gr2; have KA2 : Hid (Blk w2a ga 25 [.int .i64 D.kind, .int .i64 D.id, .slice S.cn.a S.cn.n S.cn.c, .slice S.sn.a S.sn.n S.sn.c, .int .i64 D.tick, .slice S.cookie.a S.cookie.n S.cookie.c, .slice S.proof.a S.proof.n S.proof.c, .int .i64 D.epoch, .int .i64 D.seq, .slice S.body.a S.body.n S.body.c, .slice S.tag.a S.tag.n S.tag.c]) := (KAd1.out.keep (gr2.block ga KAd1.out.lt (by simp only [ne_eq, Option.some.injEq]; exact HNG.out))); have R2 : Hid (Row w2a g2 c2 ([D.kind] ++ D.cn)) := r2; have G2 : Hid (w.heap.size ≤ g2) := k2; have NG2 : Hid (ga ≠ g2) := (by rcases l2 with rfl | h; exact HNG.out; exact Nat.ne_of_lt (Nat.lt_of_lt_of_le KAd1.out.lt h)); have B2 : Hid (Below w.heap.size w w2a) := Bd1.out.grown gr2 Bd1.out.size (fun k h => by cases h; exact HG0.out); have pp2_0 := KA2.out.cell 2 rfl; have pp2_1 := KA2.out.cell 3 rfl; clear r2 k2 l2 gr2 Rd1)
            | (refine bstep_any rfl (.tmp 55) (.tmp 57) rfl w.heap.size g2 (1 + S.cn.n) c2 ([D.kind] ++ D.cn) D.sn (by rfl) (by have := HLN.out; simp only [List.length_append, List.length_singleton]; omega) R2.out G2.out S.sn.a S.sn.n S.sn.c (by rfl) HR.out.sn.len (HR.out.sn.rd.later B2.out (Nat.le_refl _)) HR.out.sn.nil (by have := HLS.out; simp only [List.length_append, List.length_singleton]; omega) ?_; intro g3 c3 w3a r3 k3 l3 gr3; have KA3 : Hid (Blk w3a ga 25 [.int .i64 D.kind, .int .i64 D.id, .slice S.cn.a S.cn.n S.cn.c, .slice S.sn.a S.sn.n S.sn.c, .int .i64 D.tick, .slice S.cookie.a S.cookie.n S.cookie.c, .slice S.proof.a S.proof.n S.proof.c, .int .i64 D.epoch, .int .i64 D.seq, .slice S.body.a S.body.n S.body.c, .slice S.tag.a S.tag.n S.tag.c]) := (KA2.out.keep (gr3.block ga KA2.out.lt (by simp only [ne_eq, Option.some.injEq]; exact NG2.out))); have R3 : Hid (Row w3a g3 c3 ([D.kind] ++ D.cn ++ D.sn)) := r3; have G3 : Hid (w.heap.size ≤ g3) := k3; have NG3 : Hid (ga ≠ g3) := (by rcases l3 with rfl | h; exact NG2.out; exact Nat.ne_of_lt (Nat.lt_of_lt_of_le KA2.out.lt h)); have B3 : Hid (Below w.heap.size w w3a) := B2.out.grown gr3 B2.out.size (fun k h => by cases h; exact G2.out); have pp3_0 := KA3.out.cell 2 rfl; have pp3_1 := KA3.out.cell 3 rfl; clear r3 k3 l3 gr3 R2))
        clear cc0 cc1 pp2_0 pp2_1 pp3_0 pp3_1
        go_wp2
        have KAd4 : Hid (Blk w3a.drew ga 25 [.int .i64 D.kind, .int .i64 D.id, .slice S.cn.a S.cn.n S.cn.c, .slice S.sn.a S.sn.n S.sn.c, .int .i64 D.tick, .slice S.cookie.a S.cookie.n S.cookie.c, .slice S.proof.a S.proof.n S.proof.c, .int .i64 D.epoch, .int .i64 D.seq, .slice S.body.a S.body.n S.body.c, .slice S.tag.a S.tag.n S.tag.c]) := KA3.out
        have Rd4 : Hid (Row w3a.drew g3 c3 ([D.kind] ++ D.cn ++ D.sn)) := R3.out
        have Bd4 : Hid (Below w.heap.size w w3a.drew) := B3.out.drew
        have cc0 := KAd4.out.cell 4 rfl
        have cc1 := KAd4.out.cell 5 rfl
        go_region_held3 (fun w' => w'.cell? ⟨ga, 4, none⟩ = some (.int .i64 D.tick) ∧ w'.cell? ⟨ga, 5, none⟩ = some (.slice S.cookie.a S.cookie.n S.cookie.c)) (first | exact ⟨pp6_0, pp6_1⟩ | exact ⟨pp5_0, pp5_1⟩ | exact ⟨cc0, cc1⟩ | go_keep)
          (first
            | (go_at_call 51; refine (specPutN (some ⟨g3, 0, none⟩) ((1 + S.cn.n) + S.sn.n) c3 ([D.kind] ++ D.cn ++ D.sn) (D.tick) 4 w3a.drew (by have := HLN.out; simp only [List.length_append, List.length_singleton]; omega) Rd4.out.rd (by intro e; cases e) (by have := HLS.out; simp only [List.length_append, List.length_singleton]; omega)).mono ?_; rintro e w5a ⟨g5, m5, c5, rfl, e5, k5, r5, b5⟩; have EE5 : Hid (m5 = ([D.kind] ++ D.cn ++ D.sn ++ num D.tick 4).length) := e5; have KA5 : Hid (Blk w5a ga 25 [.int .i64 D.kind, .int .i64 D.id, .slice S.cn.a S.cn.n S.cn.c, .slice S.sn.a S.sn.n S.sn.c, .int .i64 D.tick, .slice S.cookie.a S.cookie.n S.cookie.c, .slice S.proof.a S.proof.n S.proof.c, .int .i64 D.epoch, .int .i64 D.seq, .slice S.body.a S.body.n S.body.c, .slice S.tag.a S.tag.n S.tag.c]) := (KAd4.out.later b5); have R5 : Hid (Row w5a g5 c5 ([D.kind] ++ D.cn ++ D.sn ++ num D.tick 4)) := r5; have G5 : Hid (w.heap.size ≤ g5) := Nat.le_trans Bd4.out.size k5; have NG5 : Hid (ga ≠ g5) := (Nat.ne_of_lt (Nat.lt_of_lt_of_le KAd4.out.lt k5)); have B5 : Hid (Below w.heap.size w w5a) := Bd4.out.trans (b5.mono Bd4.out.size); have pp5_0 := KA5.out.cell 4 rfl; have pp5_1 := KA5.out.cell 5 rfl; clear e5 r5 k5 b5 Rd4)
            | (refine bstep_any rfl (.tmp 62) (.tmp 64) rfl w.heap.size g5 m5 c5 ([D.kind] ++ D.cn ++ D.sn ++ num D.tick 4) D.cookie (by rfl) EE5.out R5.out G5.out S.cookie.a S.cookie.n S.cookie.c (by rfl) HR.out.cookie.len (HR.out.cookie.rd.later B5.out (Nat.le_refl _)) HR.out.cookie.nil (by have := HLS.out; simp only [List.length_append, List.length_singleton, num_length]; omega) ?_; intro g6 c6 w6a r6 k6 l6 gr6; have KA6 : Hid (Blk w6a ga 25 [.int .i64 D.kind, .int .i64 D.id, .slice S.cn.a S.cn.n S.cn.c, .slice S.sn.a S.sn.n S.sn.c, .int .i64 D.tick, .slice S.cookie.a S.cookie.n S.cookie.c, .slice S.proof.a S.proof.n S.proof.c, .int .i64 D.epoch, .int .i64 D.seq, .slice S.body.a S.body.n S.body.c, .slice S.tag.a S.tag.n S.tag.c]) := (KA5.out.keep (gr6.block ga KA5.out.lt (by simp only [ne_eq, Option.some.injEq]; exact NG5.out))); have R6 : Hid (Row w6a g6 c6 ([D.kind] ++ D.cn ++ D.sn ++ num D.tick 4 ++ D.cookie)) := r6; have G6 : Hid (w.heap.size ≤ g6) := k6; have NG6 : Hid (ga ≠ g6) := (by rcases l6 with rfl | h; exact NG5.out; exact Nat.ne_of_lt (Nat.lt_of_lt_of_le KA5.out.lt h)); have B6 : Hid (Below w.heap.size w w6a) := B5.out.grown gr6 B5.out.size (fun k h => by cases h; exact G5.out); have pp6_0 := KA6.out.cell 4 rfl; have pp6_1 := KA6.out.cell 5 rfl; clear r6 k6 l6 gr6 R5))
        clear cc0 cc1 pp5_0 pp5_1 pp6_0 pp6_1
        go_wp2
        go_ret
        exact ⟨g6, (m5 + S.cookie.n), c6, rfl, by rw [HP.out]; exact (by have := HLN.out; have hx0 := EE5.out; simp only [List.length_append, List.length_singleton, num_length] at hx0 ⊢; omega), G6.out, by rw [HP.out]; exact R6.out, B6.out⟩
      | false =>
        cases k3 : (D.kind == 3) with
        | true =>
          have HP : Hid (putF D = [D.kind] ++ [D.id] ++ D.cn ++ D.sn ++ num D.tick 4 ++ D.cookie ++ D.proof) := putF_3 D hok k1 k2 k3
          have hid := ok_id3 D hok k3
          have hidw : IntKind.u8.wrap D.id = D.id := by rw [IntKind.wrap_u8']; omega
          have HG0 : Hid (w.heap.size ≤ g0) := Nat.le_of_lt (HGA.out ▸ LT2.out)
          have HNG : Hid (ga ≠ g0) := Nat.ne_of_lt LT2.out
          have HLS : Hid (D.cn.length ≤ 12 ∧ D.sn.length ≤ 12 ∧ D.cookie.length ≤ 16 ∧ D.proof.length ≤ 16 ∧ D.body.length ≤ 40 ∧ D.tag.length ≤ 16) := ok_lens D hok
          have HLN : Hid (S.cn.n = D.cn.length ∧ S.sn.n = D.sn.length ∧ S.cookie.n = D.cookie.length ∧ S.proof.n = D.proof.length ∧ S.body.n = D.body.length ∧ S.tag.n = D.tag.length) := ⟨HR.out.cn.len, HR.out.sn.len, HR.out.cookie.len, HR.out.proof.len, HR.out.body.len, HR.out.tag.len⟩
          clear hok
          go_wp2
          have KAd1 : Hid (Blk x2.drew ga 25 [.int .i64 D.kind, .int .i64 D.id, .slice S.cn.a S.cn.n S.cn.c, .slice S.sn.a S.sn.n S.sn.c, .int .i64 D.tick, .slice S.cookie.a S.cookie.n S.cookie.c, .slice S.proof.a S.proof.n S.proof.c, .int .i64 D.epoch, .int .i64 D.seq, .slice S.body.a S.body.n S.body.c, .slice S.tag.a S.tag.n S.tag.c]) := KA2.out
          have Rd1 : Hid (Row x2.drew g0 1 ([D.kind])) := R2.out
          have Bd1 : Hid (Below w.heap.size w x2.drew) := B2.out.drew
          have cc0 := KAd1.out.cell 1 rfl
          have cc1 := KAd1.out.cell 2 rfl
          have cc2 := KAd1.out.cell 3 rfl
          go_region_held3 (fun w' => w'.cell? ⟨ga, 1, none⟩ = some (.int .i64 D.id) ∧ w'.cell? ⟨ga, 2, none⟩ = some (.slice S.cn.a S.cn.n S.cn.c) ∧ w'.cell? ⟨ga, 3, none⟩ = some (.slice S.sn.a S.sn.n S.sn.c)) (first | exact ⟨pp4_0, pp4_1, pp4_2⟩ | exact ⟨pp3_0, pp3_1, pp3_2⟩ | exact ⟨pp2_0, pp2_1, pp2_2⟩ | exact ⟨cc0, cc1, cc2⟩ | go_keep)
            (first
              | (refine bstep_any rfl (.tmp 68) (.tmp 72) rfl w.heap.size g0 1 1 ([D.kind]) [D.id] (by rfl) rfl (row_alloc Rd1.out _) HG0.out (some ⟨x2.drew.heap.size, 0, none⟩) 1 1 (by rfl) rfl (rd_one x2.drew _) (by intro e; cases e) (by have := HLS.out; simp only [List.length_singleton]; omega) ?_; intro g2 c2 w2a r2 k2 l2 gr2; have KA2 : Hid (Blk w2a ga 25 [.int .i64 D.kind, .int .i64 D.id, .slice S.cn.a S.cn.n S.cn.c, .slice S.sn.a S.sn.n S.sn.c, .int .i64 D.tick, .slice S.cookie.a S.cookie.n S.cookie.c, .slice S.proof.a S.proof.n S.proof.c, .int .i64 D.epoch, .int .i64 D.seq, .slice S.body.a S.body.n S.body.c, .slice S.tag.a S.tag.n S.tag.c]) := ((KAd1.out.alloc _).keep (gr2.block ga (KAd1.out.alloc _).lt (by simp only [ne_eq, Option.some.injEq]; exact HNG.out))); have R2 : Hid (Row w2a g2 c2 ([D.kind] ++ [D.id])) := r2; have G2 : Hid (w.heap.size ≤ g2) := k2; have NG2 : Hid (ga ≠ g2) := (by rcases l2 with rfl | h; exact HNG.out; exact Nat.ne_of_lt (Nat.lt_of_lt_of_le (KAd1.out.alloc _).lt h)); have B2 : Hid (Below w.heap.size w w2a) := (Bd1.out.alloc Bd1.out.size _).grown gr2 (by simp; exact Nat.le_succ_of_le Bd1.out.size) (fun k h => by cases h; exact HG0.out); have pp2_0 := KA2.out.cell 1 rfl; have pp2_1 := KA2.out.cell 2 rfl; have pp2_2 := KA2.out.cell 3 rfl; clear r2 k2 l2 gr2 Rd1)
              | (refine bstep_any rfl (.tmp 73) (.tmp 75) rfl w.heap.size g2 2 c2 ([D.kind] ++ [D.id]) D.cn (by rfl) rfl R2.out G2.out S.cn.a S.cn.n S.cn.c (by rfl) HR.out.cn.len (HR.out.cn.rd.later B2.out (Nat.le_refl _)) HR.out.cn.nil (by have := HLS.out; simp only [List.length_append, List.length_singleton]; omega) ?_; intro g3 c3 w3a r3 k3 l3 gr3; have KA3 : Hid (Blk w3a ga 25 [.int .i64 D.kind, .int .i64 D.id, .slice S.cn.a S.cn.n S.cn.c, .slice S.sn.a S.sn.n S.sn.c, .int .i64 D.tick, .slice S.cookie.a S.cookie.n S.cookie.c, .slice S.proof.a S.proof.n S.proof.c, .int .i64 D.epoch, .int .i64 D.seq, .slice S.body.a S.body.n S.body.c, .slice S.tag.a S.tag.n S.tag.c]) := (KA2.out.keep (gr3.block ga KA2.out.lt (by simp only [ne_eq, Option.some.injEq]; exact NG2.out))); have R3 : Hid (Row w3a g3 c3 ([D.kind] ++ [D.id] ++ D.cn)) := r3; have G3 : Hid (w.heap.size ≤ g3) := k3; have NG3 : Hid (ga ≠ g3) := (by rcases l3 with rfl | h; exact NG2.out; exact Nat.ne_of_lt (Nat.lt_of_lt_of_le KA2.out.lt h)); have B3 : Hid (Below w.heap.size w w3a) := B2.out.grown gr3 B2.out.size (fun k h => by cases h; exact G2.out); have pp3_0 := KA3.out.cell 1 rfl; have pp3_1 := KA3.out.cell 2 rfl; have pp3_2 := KA3.out.cell 3 rfl; clear r3 k3 l3 gr3 R2)
              | (refine bstep_any rfl (.tmp 76) (.tmp 78) rfl w.heap.size g3 (2 + S.cn.n) c3 ([D.kind] ++ [D.id] ++ D.cn) D.sn (by rfl) (by have := HLN.out; simp only [List.length_append, List.length_singleton]; omega) R3.out G3.out S.sn.a S.sn.n S.sn.c (by rfl) HR.out.sn.len (HR.out.sn.rd.later B3.out (Nat.le_refl _)) HR.out.sn.nil (by have := HLS.out; simp only [List.length_append, List.length_singleton]; omega) ?_; intro g4 c4 w4a r4 k4 l4 gr4; have KA4 : Hid (Blk w4a ga 25 [.int .i64 D.kind, .int .i64 D.id, .slice S.cn.a S.cn.n S.cn.c, .slice S.sn.a S.sn.n S.sn.c, .int .i64 D.tick, .slice S.cookie.a S.cookie.n S.cookie.c, .slice S.proof.a S.proof.n S.proof.c, .int .i64 D.epoch, .int .i64 D.seq, .slice S.body.a S.body.n S.body.c, .slice S.tag.a S.tag.n S.tag.c]) := (KA3.out.keep (gr4.block ga KA3.out.lt (by simp only [ne_eq, Option.some.injEq]; exact NG3.out))); have R4 : Hid (Row w4a g4 c4 ([D.kind] ++ [D.id] ++ D.cn ++ D.sn)) := r4; have G4 : Hid (w.heap.size ≤ g4) := k4; have NG4 : Hid (ga ≠ g4) := (by rcases l4 with rfl | h; exact NG3.out; exact Nat.ne_of_lt (Nat.lt_of_lt_of_le KA3.out.lt h)); have B4 : Hid (Below w.heap.size w w4a) := B3.out.grown gr4 B3.out.size (fun k h => by cases h; exact G3.out); have pp4_0 := KA4.out.cell 1 rfl; have pp4_1 := KA4.out.cell 2 rfl; have pp4_2 := KA4.out.cell 3 rfl; clear r4 k4 l4 gr4 R3))
          clear cc0 cc1 cc2 pp2_0 pp2_1 pp2_2 pp3_0 pp3_1 pp3_2 pp4_0 pp4_1 pp4_2
          go_wp2
          have KAd5 : Hid (Blk w4a.drew ga 25 [.int .i64 D.kind, .int .i64 D.id, .slice S.cn.a S.cn.n S.cn.c, .slice S.sn.a S.sn.n S.sn.c, .int .i64 D.tick, .slice S.cookie.a S.cookie.n S.cookie.c, .slice S.proof.a S.proof.n S.proof.c, .int .i64 D.epoch, .int .i64 D.seq, .slice S.body.a S.body.n S.body.c, .slice S.tag.a S.tag.n S.tag.c]) := KA4.out
          have Rd5 : Hid (Row w4a.drew g4 c4 ([D.kind] ++ [D.id] ++ D.cn ++ D.sn)) := R4.out
          have Bd5 : Hid (Below w.heap.size w w4a.drew) := B4.out.drew
          have cc0 := KAd5.out.cell 4 rfl
          have cc1 := KAd5.out.cell 5 rfl
          have cc2 := KAd5.out.cell 6 rfl
          go_region_held3 (fun w' => w'.cell? ⟨ga, 4, none⟩ = some (.int .i64 D.tick) ∧ w'.cell? ⟨ga, 5, none⟩ = some (.slice S.cookie.a S.cookie.n S.cookie.c) ∧ w'.cell? ⟨ga, 6, none⟩ = some (.slice S.proof.a S.proof.n S.proof.c)) (first | exact ⟨pp8_0, pp8_1, pp8_2⟩ | exact ⟨pp7_0, pp7_1, pp7_2⟩ | exact ⟨pp6_0, pp6_1, pp6_2⟩ | exact ⟨cc0, cc1, cc2⟩ | go_keep)
            (first
              | (go_at_call 51; refine (specPutN (some ⟨g4, 0, none⟩) ((2 + S.cn.n) + S.sn.n) c4 ([D.kind] ++ [D.id] ++ D.cn ++ D.sn) (D.tick) 4 w4a.drew (by have := HLN.out; simp only [List.length_append, List.length_singleton]; omega) Rd5.out.rd (by intro e; cases e) (by have := HLS.out; simp only [List.length_append, List.length_singleton]; omega)).mono ?_; rintro e w6a ⟨g6, m6, c6, rfl, e6, k6, r6, b6⟩; have EE6 : Hid (m6 = ([D.kind] ++ [D.id] ++ D.cn ++ D.sn ++ num D.tick 4).length) := e6; have KA6 : Hid (Blk w6a ga 25 [.int .i64 D.kind, .int .i64 D.id, .slice S.cn.a S.cn.n S.cn.c, .slice S.sn.a S.sn.n S.sn.c, .int .i64 D.tick, .slice S.cookie.a S.cookie.n S.cookie.c, .slice S.proof.a S.proof.n S.proof.c, .int .i64 D.epoch, .int .i64 D.seq, .slice S.body.a S.body.n S.body.c, .slice S.tag.a S.tag.n S.tag.c]) := (KAd5.out.later b6); have R6 : Hid (Row w6a g6 c6 ([D.kind] ++ [D.id] ++ D.cn ++ D.sn ++ num D.tick 4)) := r6; have G6 : Hid (w.heap.size ≤ g6) := Nat.le_trans Bd5.out.size k6; have NG6 : Hid (ga ≠ g6) := (Nat.ne_of_lt (Nat.lt_of_lt_of_le KAd5.out.lt k6)); have B6 : Hid (Below w.heap.size w w6a) := Bd5.out.trans (b6.mono Bd5.out.size); have pp6_0 := KA6.out.cell 4 rfl; have pp6_1 := KA6.out.cell 5 rfl; have pp6_2 := KA6.out.cell 6 rfl; clear e6 r6 k6 b6 Rd5)
              | (refine bstep_any rfl (.tmp 83) (.tmp 85) rfl w.heap.size g6 m6 c6 ([D.kind] ++ [D.id] ++ D.cn ++ D.sn ++ num D.tick 4) D.cookie (by rfl) EE6.out R6.out G6.out S.cookie.a S.cookie.n S.cookie.c (by rfl) HR.out.cookie.len (HR.out.cookie.rd.later B6.out (Nat.le_refl _)) HR.out.cookie.nil (by have := HLS.out; simp only [List.length_append, List.length_singleton, num_length]; omega) ?_; intro g7 c7 w7a r7 k7 l7 gr7; have KA7 : Hid (Blk w7a ga 25 [.int .i64 D.kind, .int .i64 D.id, .slice S.cn.a S.cn.n S.cn.c, .slice S.sn.a S.sn.n S.sn.c, .int .i64 D.tick, .slice S.cookie.a S.cookie.n S.cookie.c, .slice S.proof.a S.proof.n S.proof.c, .int .i64 D.epoch, .int .i64 D.seq, .slice S.body.a S.body.n S.body.c, .slice S.tag.a S.tag.n S.tag.c]) := (KA6.out.keep (gr7.block ga KA6.out.lt (by simp only [ne_eq, Option.some.injEq]; exact NG6.out))); have R7 : Hid (Row w7a g7 c7 ([D.kind] ++ [D.id] ++ D.cn ++ D.sn ++ num D.tick 4 ++ D.cookie)) := r7; have G7 : Hid (w.heap.size ≤ g7) := k7; have NG7 : Hid (ga ≠ g7) := (by rcases l7 with rfl | h; exact NG6.out; exact Nat.ne_of_lt (Nat.lt_of_lt_of_le KA6.out.lt h)); have B7 : Hid (Below w.heap.size w w7a) := B6.out.grown gr7 B6.out.size (fun k h => by cases h; exact G6.out); have pp7_0 := KA7.out.cell 4 rfl; have pp7_1 := KA7.out.cell 5 rfl; have pp7_2 := KA7.out.cell 6 rfl; clear r7 k7 l7 gr7 R6)
              | (refine bstep_any rfl (.tmp 86) (.tmp 88) rfl w.heap.size g7 (m6 + S.cookie.n) c7 ([D.kind] ++ [D.id] ++ D.cn ++ D.sn ++ num D.tick 4 ++ D.cookie) D.proof (by rfl) (by have := HLN.out; have hx0 := EE6.out; simp only [List.length_append, List.length_singleton, num_length] at hx0 ⊢; omega) R7.out G7.out S.proof.a S.proof.n S.proof.c (by rfl) HR.out.proof.len (HR.out.proof.rd.later B7.out (Nat.le_refl _)) HR.out.proof.nil (by have := HLS.out; simp only [List.length_append, List.length_singleton, num_length]; omega) ?_; intro g8 c8 w8a r8 k8 l8 gr8; have KA8 : Hid (Blk w8a ga 25 [.int .i64 D.kind, .int .i64 D.id, .slice S.cn.a S.cn.n S.cn.c, .slice S.sn.a S.sn.n S.sn.c, .int .i64 D.tick, .slice S.cookie.a S.cookie.n S.cookie.c, .slice S.proof.a S.proof.n S.proof.c, .int .i64 D.epoch, .int .i64 D.seq, .slice S.body.a S.body.n S.body.c, .slice S.tag.a S.tag.n S.tag.c]) := (KA7.out.keep (gr8.block ga KA7.out.lt (by simp only [ne_eq, Option.some.injEq]; exact NG7.out))); have R8 : Hid (Row w8a g8 c8 ([D.kind] ++ [D.id] ++ D.cn ++ D.sn ++ num D.tick 4 ++ D.cookie ++ D.proof)) := r8; have G8 : Hid (w.heap.size ≤ g8) := k8; have NG8 : Hid (ga ≠ g8) := (by rcases l8 with rfl | h; exact NG7.out; exact Nat.ne_of_lt (Nat.lt_of_lt_of_le KA7.out.lt h)); have B8 : Hid (Below w.heap.size w w8a) := B7.out.grown gr8 B7.out.size (fun k h => by cases h; exact G7.out); have pp8_0 := KA8.out.cell 4 rfl; have pp8_1 := KA8.out.cell 5 rfl; have pp8_2 := KA8.out.cell 6 rfl; clear r8 k8 l8 gr8 R7))
          clear cc0 cc1 cc2 pp6_0 pp6_1 pp6_2 pp7_0 pp7_1 pp7_2 pp8_0 pp8_1 pp8_2
          go_wp2
          go_ret
          exact ⟨g8, ((m6 + S.cookie.n) + S.proof.n), c8, rfl, by rw [HP.out]; exact (by have := HLN.out; have hx0 := EE6.out; simp only [List.length_append, List.length_singleton, num_length] at hx0 ⊢; omega), G8.out, by rw [HP.out]; exact R8.out, B8.out⟩
        | false =>
          have HP : Hid (putF D = [D.kind] ++ D.sn ++ num D.epoch 4 ++ num D.seq 6 ++ D.tag ++ D.body) := putF_s D hok k1 k2 k3
          have HG0 : Hid (w.heap.size ≤ g0) := Nat.le_of_lt (HGA.out ▸ LT2.out)
          have HNG : Hid (ga ≠ g0) := Nat.ne_of_lt LT2.out
          have HLS : Hid (D.cn.length ≤ 12 ∧ D.sn.length ≤ 12 ∧ D.cookie.length ≤ 16 ∧ D.proof.length ≤ 16 ∧ D.body.length ≤ 40 ∧ D.tag.length ≤ 16) := ok_lens D hok
          have HLN : Hid (S.cn.n = D.cn.length ∧ S.sn.n = D.sn.length ∧ S.cookie.n = D.cookie.length ∧ S.proof.n = D.proof.length ∧ S.body.n = D.body.length ∧ S.tag.n = D.tag.length) := ⟨HR.out.cn.len, HR.out.sn.len, HR.out.cookie.len, HR.out.proof.len, HR.out.body.len, HR.out.tag.len⟩
          clear hok
          go_wp2
          have KAd1 : Hid (Blk x2.drew ga 25 [.int .i64 D.kind, .int .i64 D.id, .slice S.cn.a S.cn.n S.cn.c, .slice S.sn.a S.sn.n S.sn.c, .int .i64 D.tick, .slice S.cookie.a S.cookie.n S.cookie.c, .slice S.proof.a S.proof.n S.proof.c, .int .i64 D.epoch, .int .i64 D.seq, .slice S.body.a S.body.n S.body.c, .slice S.tag.a S.tag.n S.tag.c]) := KA2.out
          have Rd1 : Hid (Row x2.drew g0 1 ([D.kind])) := R2.out
          have Bd1 : Hid (Below w.heap.size w x2.drew) := B2.out.drew
          have cc0 := KAd1.out.cell 3 rfl
          have cc1 := KAd1.out.cell 7 rfl
          have cc2 := KAd1.out.cell 8 rfl
          go_region_held3 (fun w' => w'.cell? ⟨ga, 3, none⟩ = some (.slice S.sn.a S.sn.n S.sn.c) ∧ w'.cell? ⟨ga, 7, none⟩ = some (.int .i64 D.epoch) ∧ w'.cell? ⟨ga, 8, none⟩ = some (.int .i64 D.seq)) (first | exact ⟨pp4_0, pp4_1, pp4_2⟩ | exact ⟨pp3_0, pp3_1, pp3_2⟩ | exact ⟨pp2_0, pp2_1, pp2_2⟩ | exact ⟨cc0, cc1, cc2⟩ | go_keep)
            (first
              | (refine bstep_any rfl (.tmp 15) (.tmp 17) rfl w.heap.size g0 1 1 ([D.kind]) D.sn (by rfl) rfl Rd1.out HG0.out S.sn.a S.sn.n S.sn.c (by rfl) HR.out.sn.len (HR.out.sn.rd.later Bd1.out (Nat.le_refl _)) HR.out.sn.nil (by have := HLS.out; simp only [List.length_singleton]; omega) ?_; intro g2 c2 w2a r2 k2 l2 gr2; have KA2 : Hid (Blk w2a ga 25 [.int .i64 D.kind, .int .i64 D.id, .slice S.cn.a S.cn.n S.cn.c, .slice S.sn.a S.sn.n S.sn.c, .int .i64 D.tick, .slice S.cookie.a S.cookie.n S.cookie.c, .slice S.proof.a S.proof.n S.proof.c, .int .i64 D.epoch, .int .i64 D.seq, .slice S.body.a S.body.n S.body.c, .slice S.tag.a S.tag.n S.tag.c]) := (KAd1.out.keep (gr2.block ga KAd1.out.lt (by simp only [ne_eq, Option.some.injEq]; exact HNG.out))); have R2 : Hid (Row w2a g2 c2 ([D.kind] ++ D.sn)) := r2; have G2 : Hid (w.heap.size ≤ g2) := k2; have NG2 : Hid (ga ≠ g2) := (by rcases l2 with rfl | h; exact HNG.out; exact Nat.ne_of_lt (Nat.lt_of_lt_of_le KAd1.out.lt h)); have B2 : Hid (Below w.heap.size w w2a) := Bd1.out.grown gr2 Bd1.out.size (fun k h => by cases h; exact HG0.out); have pp2_0 := KA2.out.cell 3 rfl; have pp2_1 := KA2.out.cell 7 rfl; have pp2_2 := KA2.out.cell 8 rfl; clear r2 k2 l2 gr2 Rd1)
              | (go_at_call 51; refine (specPutN (some ⟨g2, 0, none⟩) (1 + S.sn.n) c2 ([D.kind] ++ D.sn) (D.epoch) 4 w2a (by have := HLN.out; simp only [List.length_append, List.length_singleton]; omega) R2.out.rd (by intro e; cases e) (by have := HLS.out; simp only [List.length_append, List.length_singleton]; omega)).mono ?_; rintro e w3a ⟨g3, m3, c3, rfl, e3, k3, r3, b3⟩; have EE3 : Hid (m3 = ([D.kind] ++ D.sn ++ num D.epoch 4).length) := e3; have KA3 : Hid (Blk w3a ga 25 [.int .i64 D.kind, .int .i64 D.id, .slice S.cn.a S.cn.n S.cn.c, .slice S.sn.a S.sn.n S.sn.c, .int .i64 D.tick, .slice S.cookie.a S.cookie.n S.cookie.c, .slice S.proof.a S.proof.n S.proof.c, .int .i64 D.epoch, .int .i64 D.seq, .slice S.body.a S.body.n S.body.c, .slice S.tag.a S.tag.n S.tag.c]) := (KA2.out.later b3); have R3 : Hid (Row w3a g3 c3 ([D.kind] ++ D.sn ++ num D.epoch 4)) := r3; have G3 : Hid (w.heap.size ≤ g3) := Nat.le_trans B2.out.size k3; have NG3 : Hid (ga ≠ g3) := (Nat.ne_of_lt (Nat.lt_of_lt_of_le KA2.out.lt k3)); have B3 : Hid (Below w.heap.size w w3a) := B2.out.trans (b3.mono B2.out.size); have pp3_0 := KA3.out.cell 3 rfl; have pp3_1 := KA3.out.cell 7 rfl; have pp3_2 := KA3.out.cell 8 rfl; clear e3 r3 k3 b3 R2)
              | (go_at_call 51; refine (specPutN (some ⟨g3, 0, none⟩) m3 c3 ([D.kind] ++ D.sn ++ num D.epoch 4) (D.seq) 6 w3a EE3.out R3.out.rd (by intro e; cases e) (by have := HLS.out; simp only [List.length_append, List.length_singleton, num_length]; omega)).mono ?_; rintro e w4a ⟨g4, m4, c4, rfl, e4, k4, r4, b4⟩; have EE4 : Hid (m4 = ([D.kind] ++ D.sn ++ num D.epoch 4 ++ num D.seq 6).length) := e4; have KA4 : Hid (Blk w4a ga 25 [.int .i64 D.kind, .int .i64 D.id, .slice S.cn.a S.cn.n S.cn.c, .slice S.sn.a S.sn.n S.sn.c, .int .i64 D.tick, .slice S.cookie.a S.cookie.n S.cookie.c, .slice S.proof.a S.proof.n S.proof.c, .int .i64 D.epoch, .int .i64 D.seq, .slice S.body.a S.body.n S.body.c, .slice S.tag.a S.tag.n S.tag.c]) := (KA3.out.later b4); have R4 : Hid (Row w4a g4 c4 ([D.kind] ++ D.sn ++ num D.epoch 4 ++ num D.seq 6)) := r4; have G4 : Hid (w.heap.size ≤ g4) := Nat.le_trans B3.out.size k4; have NG4 : Hid (ga ≠ g4) := (Nat.ne_of_lt (Nat.lt_of_lt_of_le KA3.out.lt k4)); have B4 : Hid (Below w.heap.size w w4a) := B3.out.trans (b4.mono B3.out.size); have pp4_0 := KA4.out.cell 3 rfl; have pp4_1 := KA4.out.cell 7 rfl; have pp4_2 := KA4.out.cell 8 rfl; clear e4 r4 k4 b4 R3))
          clear cc0 cc1 cc2 pp2_0 pp2_1 pp2_2 pp3_0 pp3_1 pp3_2 pp4_0 pp4_1 pp4_2
          go_wp2
          have KAd5 : Hid (Blk w4a.drew ga 25 [.int .i64 D.kind, .int .i64 D.id, .slice S.cn.a S.cn.n S.cn.c, .slice S.sn.a S.sn.n S.sn.c, .int .i64 D.tick, .slice S.cookie.a S.cookie.n S.cookie.c, .slice S.proof.a S.proof.n S.proof.c, .int .i64 D.epoch, .int .i64 D.seq, .slice S.body.a S.body.n S.body.c, .slice S.tag.a S.tag.n S.tag.c]) := KA4.out
          have Rd5 : Hid (Row w4a.drew g4 c4 ([D.kind] ++ D.sn ++ num D.epoch 4 ++ num D.seq 6)) := R4.out
          have Bd5 : Hid (Below w.heap.size w w4a.drew) := B4.out.drew
          have cc0 := KAd5.out.cell 10 rfl
          have cc1 := KAd5.out.cell 9 rfl
          go_region_held3 (fun w' => w'.cell? ⟨ga, 10, none⟩ = some (.slice S.tag.a S.tag.n S.tag.c) ∧ w'.cell? ⟨ga, 9, none⟩ = some (.slice S.body.a S.body.n S.body.c)) (first | exact ⟨pp7_0, pp7_1⟩ | exact ⟨pp6_0, pp6_1⟩ | exact ⟨cc0, cc1⟩ | go_keep)
            (first
              | (refine bstep_any rfl (.tmp 25) (.tmp 27) rfl w.heap.size g4 m4 c4 ([D.kind] ++ D.sn ++ num D.epoch 4 ++ num D.seq 6) D.tag (by rfl) EE4.out Rd5.out G4.out S.tag.a S.tag.n S.tag.c (by rfl) HR.out.tag.len (HR.out.tag.rd.later Bd5.out (Nat.le_refl _)) HR.out.tag.nil (by have := HLS.out; simp only [List.length_append, List.length_singleton, num_length]; omega) ?_; intro g6 c6 w6a r6 k6 l6 gr6; have KA6 : Hid (Blk w6a ga 25 [.int .i64 D.kind, .int .i64 D.id, .slice S.cn.a S.cn.n S.cn.c, .slice S.sn.a S.sn.n S.sn.c, .int .i64 D.tick, .slice S.cookie.a S.cookie.n S.cookie.c, .slice S.proof.a S.proof.n S.proof.c, .int .i64 D.epoch, .int .i64 D.seq, .slice S.body.a S.body.n S.body.c, .slice S.tag.a S.tag.n S.tag.c]) := (KAd5.out.keep (gr6.block ga KAd5.out.lt (by simp only [ne_eq, Option.some.injEq]; exact NG4.out))); have R6 : Hid (Row w6a g6 c6 ([D.kind] ++ D.sn ++ num D.epoch 4 ++ num D.seq 6 ++ D.tag)) := r6; have G6 : Hid (w.heap.size ≤ g6) := k6; have NG6 : Hid (ga ≠ g6) := (by rcases l6 with rfl | h; exact NG4.out; exact Nat.ne_of_lt (Nat.lt_of_lt_of_le KAd5.out.lt h)); have B6 : Hid (Below w.heap.size w w6a) := Bd5.out.grown gr6 Bd5.out.size (fun k h => by cases h; exact G4.out); have pp6_0 := KA6.out.cell 10 rfl; have pp6_1 := KA6.out.cell 9 rfl; clear r6 k6 l6 gr6 Rd5)
              | (refine bstep_any rfl (.tmp 28) (.tmp 30) rfl w.heap.size g6 (m4 + S.tag.n) c6 ([D.kind] ++ D.sn ++ num D.epoch 4 ++ num D.seq 6 ++ D.tag) D.body (by rfl) (by have := HLN.out; have hx0 := EE3.out; have hx1 := EE4.out; simp only [List.length_append, List.length_singleton, num_length] at hx0 hx1 ⊢; omega) R6.out G6.out S.body.a S.body.n S.body.c (by rfl) HR.out.body.len (HR.out.body.rd.later B6.out (Nat.le_refl _)) HR.out.body.nil (by have := HLS.out; simp only [List.length_append, List.length_singleton, num_length]; omega) ?_; intro g7 c7 w7a r7 k7 l7 gr7; have KA7 : Hid (Blk w7a ga 25 [.int .i64 D.kind, .int .i64 D.id, .slice S.cn.a S.cn.n S.cn.c, .slice S.sn.a S.sn.n S.sn.c, .int .i64 D.tick, .slice S.cookie.a S.cookie.n S.cookie.c, .slice S.proof.a S.proof.n S.proof.c, .int .i64 D.epoch, .int .i64 D.seq, .slice S.body.a S.body.n S.body.c, .slice S.tag.a S.tag.n S.tag.c]) := (KA6.out.keep (gr7.block ga KA6.out.lt (by simp only [ne_eq, Option.some.injEq]; exact NG6.out))); have R7 : Hid (Row w7a g7 c7 ([D.kind] ++ D.sn ++ num D.epoch 4 ++ num D.seq 6 ++ D.tag ++ D.body)) := r7; have G7 : Hid (w.heap.size ≤ g7) := k7; have NG7 : Hid (ga ≠ g7) := (by rcases l7 with rfl | h; exact NG6.out; exact Nat.ne_of_lt (Nat.lt_of_lt_of_le KA6.out.lt h)); have B7 : Hid (Below w.heap.size w w7a) := B6.out.grown gr7 B6.out.size (fun k h => by cases h; exact G6.out); have pp7_0 := KA7.out.cell 10 rfl; have pp7_1 := KA7.out.cell 9 rfl; clear r7 k7 l7 gr7 R6))
          clear cc0 cc1 pp6_0 pp6_1 pp7_0 pp7_1
          go_wp2
          go_ret
          exact ⟨g7, ((m4 + S.tag.n) + S.body.n), c7, rfl, by rw [HP.out]; exact (by have := HLN.out; have hx0 := EE3.out; have hx1 := EE4.out; simp only [List.length_append, List.length_singleton, num_length] at hx0 hx1 ⊢; omega), G7.out, by rw [HP.out]; exact R7.out, B7.out⟩
end Go.Proofs.Ytfapehmbecgjaaa.FrPut
