/-
  What bytes.Equal and impl's sameFrame answer.
-/
import Derived.Test.YtpenhliaelhnoaaGreatDoorVaGz11
import Derived.Test.YtpenhliaelhnoaaGreatDoorVaGz12
set_option maxRecDepth 100000
namespace Go.Proofs.YtpenhliaelhnoaaGreatDoor.FrE
open Go.RowKit Mem Blk Words Zone Res FrZ FrP Same

theorem convS {w : World} {s : Sl} {l : List Int} (h : SRd w s l) : (convert 22 9 (.slice s.a s.n s.c)).run Tryz.prog w = .ok (.string (strOfNums l)) w := by
 obtain ⟨sa, sn, sc⟩ := s
 have hn : sn = l.length := h.len
 by_cases hl : l.length = 0
 ·
  have e : l = [] := List.eq_nil_of_length_eq_zero hl
  subst e
  subst hn
  show (convert 22 9 (.slice sa 0 sc)).run Tryz.prog w = _
  rw [run_convert_bytes_string w 22 9 5 sa 0 sc Tryz.underlying22 Tryz.underlying5 Tryz.underlying9]
  cases sa <;> rfl
 ·
  obtain ⟨b, off, e, _, _⟩ := h.rd 0 (by omega)
  have e' : sa = some ⟨b, off, none⟩ := e
  subst e'
  exact convAt hn h.rd
theorem bytesEq (s t : Sl) (x y : List Int) (w : World) (h : SRd w s x) (k : SRd w t y) :
  Calls Tryz.prog 64 #[.slice s.a s.n s.c, .slice t.a t.n t.c] w fun e w' => e = .returned (.bool (decide (x = y))) ∧ w = w' := by
 have cv1 := convS h
 have cv2 := convS k
 have HD : Hid (decide (x = y) = ((strOfNums x).toList == (strOfNums y).toList)) := by
  show _ = _
  rw [Lib.strOfNums_toList, Lib.strOfNums_toList]
  by_cases e : x = y
  ·
   subst e; simp
  ·
   have : ¬ Lib.bytesOf x = Lib.bytesOf y := fun q => e (nums_inj h.bytes k.bytes (by unfold strOfNums; rw [show (x.map fun n => UInt8.ofNat n.toNat) = (y.map fun n => UInt8.ofNat n.toNat) from q]))
   simp [e, this]
 clear h k
 generalize strOfNums x = sx at *
 generalize strOfNums y = sy at *
 go_enter Tryz.func64, Tryz.ntmps64
 go_wp2
 go_ret
 exact ⟨by rw [HD.out]; rfl, rfl⟩
def sameD (D E : FrD) : Bool := ((D.kind == E.kind) && ((D.id == E.id) && ((D.tick == E.tick) && ((D.epoch == E.epoch) && ((D.seq == E.seq) && ((decide (D.cn = E.cn)) && ((decide (D.sn = E.sn)) && ((decide (D.cookie = E.cookie)) && ((decide (D.proof = E.proof)) && ((decide (D.body = E.body)) && (decide (D.tag = E.tag))))))))))))

set_option maxHeartbeats 4000000 in
theorem implSame (S T : FrS) (D E : FrD) (w : World) (h : FrRd w S D) (k : FrRd w T E) :
  Calls Tryz.prog 43 #[frV D S, frV E T] w fun e w' => e = .returned (.bool (sameD D E)) ∧ Below w.heap.size w w' := by
 have HR := hid (h)
 have KR := hid (k)
 obtain ⟨x0, hx0⟩ : ∃ x0, (w.alloc (.cells #[.int .i64 D.kind, .int .i64 D.id, .slice S.cn.a S.cn.n S.cn.c, .slice S.sn.a S.sn.n S.sn.c, .int .i64 D.tick, .slice S.cookie.a S.cookie.n S.cookie.c, .slice S.proof.a S.proof.n S.proof.c, .int .i64 D.epoch, .int .i64 D.seq, .slice S.body.a S.body.n S.body.c, .slice S.tag.a S.tag.n S.tag.c] 25)).alloc (.cells #[.int .i64 E.kind, .int .i64 E.id, .slice T.cn.a T.cn.n T.cn.c, .slice T.sn.a T.sn.n T.sn.c, .int .i64 E.tick, .slice T.cookie.a T.cookie.n T.cookie.c, .slice T.proof.a T.proof.n T.proof.c, .int .i64 E.epoch, .int .i64 E.seq, .slice T.body.a T.body.n T.body.c, .slice T.tag.a T.tag.n T.tag.c] 25) = x0 := ⟨_, rfl⟩
 have HW0 := hid (hx0)
 have B0 : Hid (Below w.heap.size w x0) := by rw [← hx0]; exact ((Below.refl _ _).alloc (Nat.le_refl _) _).alloc (by simp) _
 have KA : Hid (Blk x0 w.heap.size 25 [.int .i64 D.kind, .int .i64 D.id, .slice S.cn.a S.cn.n S.cn.c, .slice S.sn.a S.sn.n S.sn.c, .int .i64 D.tick, .slice S.cookie.a S.cookie.n S.cookie.c, .slice S.proof.a S.proof.n S.proof.c, .int .i64 D.epoch, .int .i64 D.seq, .slice S.body.a S.body.n S.body.c, .slice S.tag.a S.tag.n S.tag.c]) := by rw [← hx0]; exact (Blk.new w _ _).alloc _
 have KB : Hid (Blk x0 (w.heap.size + 1) 25 [.int .i64 E.kind, .int .i64 E.id, .slice T.cn.a T.cn.n T.cn.c, .slice T.sn.a T.sn.n T.sn.c, .int .i64 E.tick, .slice T.cookie.a T.cookie.n T.cookie.c, .slice T.proof.a T.proof.n T.proof.c, .int .i64 E.epoch, .int .i64 E.seq, .slice T.body.a T.body.n T.body.c, .slice T.tag.a T.tag.n T.tag.c]) := by
  have := Blk.new (w.alloc (.cells #[.int .i64 D.kind, .int .i64 D.id, .slice S.cn.a S.cn.n S.cn.c, .slice S.sn.a S.sn.n S.sn.c, .int .i64 D.tick, .slice S.cookie.a S.cookie.n S.cookie.c, .slice S.proof.a S.proof.n S.proof.c, .int .i64 D.epoch, .int .i64 D.seq, .slice S.body.a S.body.n S.body.c, .slice S.tag.a S.tag.n S.tag.c] 25)) 25 [.int .i64 E.kind, .int .i64 E.id, .slice T.cn.a T.cn.n T.cn.c, .slice T.sn.a T.sn.n T.sn.c, .int .i64 E.tick, .slice T.cookie.a T.cookie.n T.cookie.c, .slice T.proof.a T.proof.n T.proof.c, .int .i64 E.epoch, .int .i64 E.seq, .slice T.body.a T.body.n T.body.c, .slice T.tag.a T.tag.n T.tag.c]
  rw [World.size_alloc] at this
  rw [← hx0]; exact this
 clear hx0 h k
 unfold frV sameD
 cases h_kind : (D.kind == E.kind) with
 | false =>
  go_enter Tryz.func43, Tryz.ntmps43
  go_wp2
  rw [HW0.out]
  go_ret
  exact ⟨by simp, B0.out⟩
 | true =>
  cases h_id : (D.id == E.id) with
  | false =>
   go_enter Tryz.func43, Tryz.ntmps43
   go_wp2
   rw [HW0.out]
   go_ret
   exact ⟨by simp, B0.out⟩
  | true =>
   cases h_tick : (D.tick == E.tick) with
   | false =>
    go_enter Tryz.func43, Tryz.ntmps43
    go_wp2
    rw [HW0.out]
    go_ret
    exact ⟨by simp, B0.out⟩
   | true =>
    cases h_epoch : (D.epoch == E.epoch) with
    | false =>
     go_enter Tryz.func43, Tryz.ntmps43
     go_wp2
     rw [HW0.out]
     go_ret
     exact ⟨by simp, B0.out⟩
    | true =>
     cases h_seq : (D.seq == E.seq) with
     | false =>
      go_enter Tryz.func43, Tryz.ntmps43
      go_wp2
      rw [HW0.out]
      go_ret
      exact ⟨by simp, B0.out⟩
     | true =>
      go_enter Tryz.func43, Tryz.ntmps43
      go_wp2_with fail
      rw [HW0.out]
      obtain ⟨ga, hga⟩ : ∃ ga, w.heap.size = ga := ⟨_, rfl⟩
      obtain ⟨gb, hgb⟩ : ∃ gb, w.heap.size + 1 = gb := ⟨_, rfl⟩
      rw [hgb] at KB ⊢
      rw [hga] at KA
      rw [hga]
      have a0 := KA.out.cell 0 rfl
      have b0 := KB.out.cell 0 rfl
      have a1 := KA.out.cell 1 rfl
      have b1 := KB.out.cell 1 rfl
      have a2 := KA.out.cell 2 rfl
      have b2 := KB.out.cell 2 rfl
      have a3 := KA.out.cell 3 rfl
      have b3 := KB.out.cell 3 rfl
      have a4 := KA.out.cell 4 rfl
      have b4 := KB.out.cell 4 rfl
      have a5 := KA.out.cell 5 rfl
      have b5 := KB.out.cell 5 rfl
      have a6 := KA.out.cell 6 rfl
      have b6 := KB.out.cell 6 rfl
      have a7 := KA.out.cell 7 rfl
      have b7 := KB.out.cell 7 rfl
      have a8 := KA.out.cell 8 rfl
      have b8 := KB.out.cell 8 rfl
      have a9 := KA.out.cell 9 rfl
      have b9 := KB.out.cell 9 rfl
      have a10 := KA.out.cell 10 rfl
      have b10 := KB.out.cell 10 rfl
      clear hgb
      refine (bytesEq S.cn T.cn D.cn E.cn x0 (HR.out.later B0.out).cn (KR.out.later B0.out).cn).mono ?_
      rintro e y ⟨rfl, rfl⟩
      cases h_cn : (decide (D.cn = E.cn)) with
      | false =>
       go_wp2
       go_ret
       exact ⟨by rw [h_cn]; rfl, hga ▸ B0.out⟩
      | true =>
       go_wp2_with fail
       refine (bytesEq S.sn T.sn D.sn E.sn x0 (HR.out.later B0.out).sn (KR.out.later B0.out).sn).mono ?_
       rintro e y ⟨rfl, rfl⟩
       cases h_sn : (decide (D.sn = E.sn)) with
       | false =>
        go_wp2
        go_ret
        exact ⟨by rw [h_cn, h_sn]; rfl, hga ▸ B0.out⟩
       | true =>
        go_wp2_with fail
        refine (bytesEq S.cookie T.cookie D.cookie E.cookie x0 (HR.out.later B0.out).cookie (KR.out.later B0.out).cookie).mono ?_
        rintro e y ⟨rfl, rfl⟩
        cases h_cookie : (decide (D.cookie = E.cookie)) with
        | false =>
         go_wp2
         go_ret
         exact ⟨by rw [h_cn, h_sn, h_cookie]; rfl, hga ▸ B0.out⟩
        | true =>
         go_wp2_with fail
         refine (bytesEq S.proof T.proof D.proof E.proof x0 (HR.out.later B0.out).proof (KR.out.later B0.out).proof).mono ?_
         rintro e y ⟨rfl, rfl⟩
         cases h_proof : (decide (D.proof = E.proof)) with
         | false =>
          go_wp2
          go_ret
          exact ⟨by rw [h_cn, h_sn, h_cookie, h_proof]; rfl, hga ▸ B0.out⟩
         | true =>
          go_wp2_with fail
          refine (bytesEq S.body T.body D.body E.body x0 (HR.out.later B0.out).body (KR.out.later B0.out).body).mono ?_
          rintro e y ⟨rfl, rfl⟩
          cases h_body : (decide (D.body = E.body)) with
          | false =>
           go_wp2
           go_ret
           exact ⟨by rw [h_cn, h_sn, h_cookie, h_proof, h_body]; rfl, hga ▸ B0.out⟩
          | true =>
           go_wp2_with fail
           refine (bytesEq S.tag T.tag D.tag E.tag x0 (HR.out.later B0.out).tag (KR.out.later B0.out).tag).mono ?_
           rintro e y ⟨rfl, rfl⟩
           go_wp2
           go_ret
           exact ⟨by rw [h_cn, h_sn, h_cookie, h_proof, h_body]; rfl, hga ▸ B0.out⟩

end Go.Proofs.YtpenhliaelhnoaaGreatDoor.FrE
