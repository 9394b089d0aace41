/-
  What spec's Sealed, l7Body and FrameOk answer.
-/
import Derived.Test.YtpenhliaelhnoaaGreatDoorVaGz7
import Derived.Deep.CutBlock
set_option maxRecDepth 100000
namespace Go.Proofs.YtpenhliaelhnoaaGreatDoor.FrS
open Go.RowKit Mem App Blk Words Zone FrZ FrP

theorem specSealed (k : Int) (w : World) :
  Calls Tryz.prog 53 #[.int .i64 k] w fun e w' => e = .returned (.bool (isIn k 4 8)) ∧ w = w' := by
 go_enter Tryz.func53, Tryz.ntmps53
 go_wp2_with fail
 refine (l1In k 4 8 w).mono ?_
 rintro e w1 ⟨rfl, rfl⟩
 go_wp2
 go_ret
 exact ⟨by simp, rfl⟩

theorem l7Body (k n : Int) (w : World) :
  Calls Tryz.prog 55 #[.int .i64 k, .int .i64 n] w fun e w' => e = .returned (.bool (bodyOk k n)) ∧ w = w' := by
 obtain ⟨v, hv⟩ : ∃ v, bodyOk k n = v := ⟨_, rfl⟩
 have HV : Hid (bodyOk k n = v) := hv
 rw [hv]
 clear hv
 cases h4 : (k == 4) with
 | true =>
  by_cases hn : n ≤ 40
  ·
   obtain rfl : v = true := by rw [← HV.out]; unfold bodyOk; rw [h4]; simpa using hn
   go_enter Tryz.func55, Tryz.ntmps55
   go_wp2
   go_ret
   exact ⟨rfl, rfl⟩
  ·
   obtain rfl : v = false := by rw [← HV.out]; unfold bodyOk; rw [h4]; simp; omega
   go_enter Tryz.func55, Tryz.ntmps55
   go_wp2
   go_ret
   exact ⟨rfl, rfl⟩
 | false =>
  cases h5 : (k == 5) with
  | true =>
   obtain rfl : v = (n == 12) := by rw [← HV.out]; unfold bodyOk; rw [h4, h5]; simp
   go_enter Tryz.func55, Tryz.ntmps55
   go_wp2
   go_ret
   exact ⟨by simp, rfl⟩
  | false =>
   cases h6 : (k == 6) with
   | true =>
    obtain rfl : v = (n == 12) := by rw [← HV.out]; unfold bodyOk; rw [h4, h5, h6]; simp
    go_enter Tryz.func55, Tryz.ntmps55
    go_wp2
    go_ret
    exact ⟨by simp, rfl⟩
   | false =>
    obtain rfl : v = (n == 4) := by rw [← HV.out]; unfold bodyOk; rw [h4, h5, h6]; simp
    go_enter Tryz.func55, Tryz.ntmps55
    go_wp2
    go_ret
    exact ⟨by simp, rfl⟩

set_option maxHeartbeats 8000000 in
theorem specFrameOk (S : FrS) (D : FrD) (w : World) (h : FrRd w S D) :
  Calls Tryz.prog 34 #[frV D S] w fun e w' => e = .returned (.bool (frameOk D)) ∧ Below w.heap.size w w' := by
 obtain ⟨v, hv⟩ : ∃ v, frameOk D = v := ⟨_, rfl⟩
 have HV : Hid (okS D.kind D.id S.cn.n S.sn.n D.tick S.cookie.n S.proof.n D.epoch D.seq S.body.n S.tag.n = v) := by
  show _ = _
  rw [← hv, h.cn.len, h.sn.len, h.cookie.len, h.proof.len, h.body.len, h.tag.len]; rfl
 rw [hv]
 obtain ⟨x0, hx0⟩ : ∃ x0, w.alloc (.cells #[.int .i64 D.kind, .int .i64 D.id, .slice S.cn.a S.cn.n S.cn.c, .slice S.sn.a S.sn.n S.sn.c, .int .i64 D.tick, .slice S.cookie.a S.cookie.n S.cookie.c, .slice S.proof.a S.proof.n S.proof.c, .int .i64 D.epoch, .int .i64 D.seq, .slice S.body.a S.body.n S.body.c, .slice S.tag.a S.tag.n S.tag.c] 25) = x0 := ⟨_, rfl⟩
 have HW0 := hid (hx0)
 have B0 : Hid (Below w.heap.size w x0) := by rw [← hx0]; exact (Below.refl _ _).alloc (Nat.le_refl _) _
 have KA0 : Hid (Blk x0 w.heap.size 25 [.int .i64 D.kind, .int .i64 D.id, .slice S.cn.a S.cn.n S.cn.c, .slice S.sn.a S.sn.n S.sn.c, .int .i64 D.tick, .slice S.cookie.a S.cookie.n S.cookie.c, .slice S.proof.a S.proof.n S.proof.c, .int .i64 D.epoch, .int .i64 D.seq, .slice S.body.a S.body.n S.body.c, .slice S.tag.a S.tag.n S.tag.c]) := by rw [← hx0]; exact Blk.new w _ _
 clear hv hx0 h
 unfold frV
 go_enter Tryz.func34, Tryz.ntmps34
 go_upto_region 1 with fail
 rw [HW0.out]
 generalize w.heap.size = ga at KA0 ⊢
 obtain ⟨c0, c1, c2, c3, c4, c5, c6, c7, c8, c9, c10⟩ := cells11 KA0.out
 clear HW0 KA0
 go_wp2_with fail
 refine (specSealed D.kind x0).mono ?_
 rintro e x1 ⟨rfl, rfl⟩
 cases hs : isIn D.kind 4 8 with
 | true =>
  cases hid : (D.id == 0) with
  | false =>
   obtain rfl : v = false := by rw [← HV.out]; unfold okS; simp [hs, hid]
   go_wp2
   go_ret
   exact ⟨rfl, B0.out⟩
  | true =>
   cases hcn : ((S.cn.n : Int) == 0) with
   | false =>
    obtain rfl : v = false := by rw [← HV.out]; unfold okS; simp [hs, hid, hcn]
    go_wp2
    go_ret
    exact ⟨rfl, B0.out⟩
   | true =>
    cases hsn : ((S.sn.n : Int) == 12) with
    | false =>
     obtain rfl : v = false := by rw [← HV.out]; unfold okS; simp [hs, hid, hcn, hsn]
     go_wp2
     go_ret
     exact ⟨rfl, B0.out⟩
    | true =>
     cases htick : (D.tick == 0) with
     | false =>
      obtain rfl : v = false := by rw [← HV.out]; unfold okS; simp [hs, hid, hcn, hsn, htick]
      go_wp2
      go_ret
      exact ⟨rfl, B0.out⟩
     | true =>
      cases hcookie : ((S.cookie.n : Int) == 0) with
      | false =>
       obtain rfl : v = false := by rw [← HV.out]; unfold okS; simp [hs, hid, hcn, hsn, htick, hcookie]
       go_wp2
       go_ret
       exact ⟨rfl, B0.out⟩
      | true =>
       cases hproof : ((S.proof.n : Int) == 0) with
       | false =>
        obtain rfl : v = false := by rw [← HV.out]; unfold okS; simp [hs, hid, hcn, hsn, htick, hcookie, hproof]
        go_wp2
        go_ret
        exact ⟨rfl, B0.out⟩
       | true =>
        go_wp2_with fail
        refine (l1In D.epoch 0 4294967295 x0).mono ?_
        rintro e x1 ⟨rfl, rfl⟩
        cases hepoch : (isIn D.epoch 0 4294967295) with
        | false =>
         obtain rfl : v = false := by rw [← HV.out]; unfold okS; simp [hs, hid, hcn, hsn, htick, hcookie, hproof, hepoch]
         go_wp2
         go_ret
         exact ⟨rfl, B0.out⟩
        | true =>
         go_wp2_with fail
         refine (l1In D.seq 0 281474976710655 x0).mono ?_
         rintro e x1 ⟨rfl, rfl⟩
         cases hseq : (isIn D.seq 0 281474976710655) with
         | false =>
          obtain rfl : v = false := by rw [← HV.out]; unfold okS; simp [hs, hid, hcn, hsn, htick, hcookie, hproof, hepoch, hseq]
          go_wp2
          go_ret
          exact ⟨rfl, B0.out⟩
         | true =>
          go_wp2_with fail
          refine (l7Body D.kind (S.body.n : Int) x0).mono ?_
          rintro e x1 ⟨rfl, rfl⟩
          cases hbody : (bodyOk D.kind (S.body.n : Int)) with
          | false =>
           obtain rfl : v = false := by rw [← HV.out]; unfold okS; simp [hs, hid, hcn, hsn, htick, hcookie, hproof, hepoch, hseq, hbody]
           go_wp2
           go_ret
           exact ⟨rfl, B0.out⟩
          | true =>
           cases htag : ((S.tag.n : Int) == 16) with
           | false =>
            obtain rfl : v = false := by rw [← HV.out]; unfold okS; simp [hs, hid, hcn, hsn, htick, hcookie, hproof, hepoch, hseq, hbody, htag]
            go_wp2
            go_ret
            exact ⟨rfl, B0.out⟩
           | true =>
            obtain rfl : v = true := by rw [← HV.out]; unfold okS; simp [hs, hid, hcn, hsn, htick, hcookie, hproof, hepoch, hseq, hbody, htag]
            go_wp2
            go_ret
            exact ⟨rfl, B0.out⟩
 | false =>
  cases hepoch : (D.epoch == 0) with
  | false =>
   have nhepoch : (D.epoch != 0) = true := by simp only [bne, hepoch]; rfl
   obtain rfl : v = false := by rw [← HV.out]; unfold okS; simp [hs, hepoch]
   go_wp2
   go_ret
   exact ⟨rfl, B0.out⟩
  | true =>
   have nhepoch : (D.epoch != 0) = false := by simp only [bne, hepoch]; rfl
   cases hseq : (D.seq == 0) with
   | false =>
    have nhseq : (D.seq != 0) = true := by simp only [bne, hseq]; rfl
    obtain rfl : v = false := by rw [← HV.out]; unfold okS; simp [hs, hepoch, hseq]
    go_wp2
    go_ret
    exact ⟨rfl, B0.out⟩
   | true =>
    have nhseq : (D.seq != 0) = false := by simp only [bne, hseq]; rfl
    cases hbody : ((S.body.n : Int) == 0) with
    | false =>
     have nhbody : ((S.body.n : Int) != 0) = true := by simp only [bne, hbody]; rfl
     obtain rfl : v = false := by rw [← HV.out]; unfold okS; simp [hs, hepoch, hseq, hbody]
     go_wp2
     go_ret
     exact ⟨rfl, B0.out⟩
    | true =>
     have nhbody : ((S.body.n : Int) != 0) = false := by simp only [bne, hbody]; rfl
     cases htag : ((S.tag.n : Int) == 0) with
     | false =>
      have nhtag : ((S.tag.n : Int) != 0) = true := by simp only [bne, htag]; rfl
      obtain rfl : v = false := by rw [← HV.out]; unfold okS; simp [hs, hepoch, hseq, hbody, htag]
      go_wp2
      go_ret
      exact ⟨rfl, B0.out⟩
     | true =>
      have nhtag : ((S.tag.n : Int) != 0) = false := by simp only [bne, htag]; rfl
      cases hcn : ((S.cn.n : Int) == 12) with
      | false =>
       have nhcn : ((S.cn.n : Int) != 12) = true := by simp only [bne, hcn]; rfl
       obtain rfl : v = false := by rw [← HV.out]; unfold okS; simp [hs, hepoch, hseq, hbody, htag, hcn]
       go_wp2
       go_ret
       exact ⟨rfl, B0.out⟩
      | true =>
       have nhcn : ((S.cn.n : Int) != 12) = false := by simp only [bne, hcn]; rfl
       cases k1 : (D.kind == 1) with
       | true =>
        go_wp2_with fail
        refine (l1In D.id 1 9 x0).mono ?_
        rintro e x1 ⟨rfl, rfl⟩
        cases hid : (isIn D.id 1 9) with
        | false =>
         obtain rfl : v = false := by rw [← HV.out]; unfold okS; simp [hs, hepoch, hseq, hbody, htag, hcn, k1, hid]
         go_wp2
         go_ret
         exact ⟨rfl, B0.out⟩
        | true =>
         cases hsn : ((S.sn.n : Int) == 0) with
         | false =>
          obtain rfl : v = false := by rw [← HV.out]; unfold okS; simp [hs, hepoch, hseq, hbody, htag, hcn, k1, hid, hsn]
          go_wp2
          go_ret
          exact ⟨rfl, B0.out⟩
         | true =>
          cases htick : (D.tick == 0) with
          | false =>
           obtain rfl : v = false := by rw [← HV.out]; unfold okS; simp [hs, hepoch, hseq, hbody, htag, hcn, k1, hid, hsn, htick]
           go_wp2
           go_ret
           exact ⟨rfl, B0.out⟩
          | true =>
           cases hcookie : ((S.cookie.n : Int) == 0) with
           | false =>
            obtain rfl : v = false := by rw [← HV.out]; unfold okS; simp [hs, hepoch, hseq, hbody, htag, hcn, k1, hid, hsn, htick, hcookie]
            go_wp2
            go_ret
            exact ⟨rfl, B0.out⟩
           | true =>
            cases hproof : ((S.proof.n : Int) == 0) with
            | false =>
             obtain rfl : v = false := by rw [← HV.out]; unfold okS; simp [hs, hepoch, hseq, hbody, htag, hcn, k1, hid, hsn, htick, hcookie, hproof]
             go_wp2
             go_ret
             exact ⟨rfl, B0.out⟩
            | true =>
             obtain rfl : v = true := by rw [← HV.out]; unfold okS; simp [hs, hepoch, hseq, hbody, htag, hcn, k1, hid, hsn, htick, hcookie, hproof]
             go_wp2
             go_ret
             exact ⟨rfl, B0.out⟩
       | false =>
        cases k2 : (D.kind == 2) with
        | true =>
         cases hid : (D.id == 0) with
         | false =>
          obtain rfl : v = false := by rw [← HV.out]; unfold okS; simp [hs, hepoch, hseq, hbody, htag, hcn, k1, k2, hid]
          go_wp2
          go_ret
          exact ⟨rfl, B0.out⟩
         | true =>
          cases hsn : ((S.sn.n : Int) == 12) with
          | false =>
           obtain rfl : v = false := by rw [← HV.out]; unfold okS; simp [hs, hepoch, hseq, hbody, htag, hcn, k1, k2, hid, hsn]
           go_wp2
           go_ret
           exact ⟨rfl, B0.out⟩
          | true =>
           go_wp2_with fail
           refine (l1In D.tick 0 1000000 x0).mono ?_
           rintro e x1 ⟨rfl, rfl⟩
           cases htick : (isIn D.tick 0 1000000) with
           | false =>
            obtain rfl : v = false := by rw [← HV.out]; unfold okS; simp [hs, hepoch, hseq, hbody, htag, hcn, k1, k2, hid, hsn, htick]
            go_wp2
            go_ret
            exact ⟨rfl, B0.out⟩
           | true =>
            cases hcookie : ((S.cookie.n : Int) == 16) with
            | false =>
             obtain rfl : v = false := by rw [← HV.out]; unfold okS; simp [hs, hepoch, hseq, hbody, htag, hcn, k1, k2, hid, hsn, htick, hcookie]
             go_wp2
             go_ret
             exact ⟨rfl, B0.out⟩
            | true =>
             cases hproof : ((S.proof.n : Int) == 0) with
             | false =>
              obtain rfl : v = false := by rw [← HV.out]; unfold okS; simp [hs, hepoch, hseq, hbody, htag, hcn, k1, k2, hid, hsn, htick, hcookie, hproof]
              go_wp2
              go_ret
              exact ⟨rfl, B0.out⟩
             | true =>
              obtain rfl : v = true := by rw [← HV.out]; unfold okS; simp [hs, hepoch, hseq, hbody, htag, hcn, k1, k2, hid, hsn, htick, hcookie, hproof]
              go_wp2
              go_ret
              exact ⟨rfl, B0.out⟩
        | false =>
         cases k3 : (D.kind == 3) with
         | true =>
          go_wp2_with fail
          refine (l1In D.id 1 9 x0).mono ?_
          rintro e x1 ⟨rfl, rfl⟩
          cases hid : (isIn D.id 1 9) with
          | false =>
           obtain rfl : v = false := by rw [← HV.out]; unfold okS; simp [hs, hepoch, hseq, hbody, htag, hcn, k1, k2, k3, hid]
           go_wp2
           go_ret
           exact ⟨rfl, B0.out⟩
          | true =>
           cases hsn : ((S.sn.n : Int) == 12) with
           | false =>
            obtain rfl : v = false := by rw [← HV.out]; unfold okS; simp [hs, hepoch, hseq, hbody, htag, hcn, k1, k2, k3, hid, hsn]
            go_wp2
            go_ret
            exact ⟨rfl, B0.out⟩
           | true =>
            go_wp2_with fail
            refine (l1In D.tick 0 1000000 x0).mono ?_
            rintro e x1 ⟨rfl, rfl⟩
            cases htick : (isIn D.tick 0 1000000) with
            | false =>
             obtain rfl : v = false := by rw [← HV.out]; unfold okS; simp [hs, hepoch, hseq, hbody, htag, hcn, k1, k2, k3, hid, hsn, htick]
             go_wp2
             go_ret
             exact ⟨rfl, B0.out⟩
            | true =>
             cases hcookie : ((S.cookie.n : Int) == 16) with
             | false =>
              obtain rfl : v = false := by rw [← HV.out]; unfold okS; simp [hs, hepoch, hseq, hbody, htag, hcn, k1, k2, k3, hid, hsn, htick, hcookie]
              go_wp2
              go_ret
              exact ⟨rfl, B0.out⟩
             | true =>
              cases hproof : ((S.proof.n : Int) == 16) with
              | false =>
               obtain rfl : v = false := by rw [← HV.out]; unfold okS; simp [hs, hepoch, hseq, hbody, htag, hcn, k1, k2, k3, hid, hsn, htick, hcookie, hproof]
               go_wp2
               go_ret
               exact ⟨rfl, B0.out⟩
              | true =>
               obtain rfl : v = true := by rw [← HV.out]; unfold okS; simp [hs, hepoch, hseq, hbody, htag, hcn, k1, k2, k3, hid, hsn, htick, hcookie, hproof]
               go_wp2
               go_ret
               exact ⟨rfl, B0.out⟩
         | false =>
          obtain rfl : v = false := by rw [← HV.out]; unfold okS; simp [hs, hepoch, hseq, hbody, htag, hcn, k1, k2, k3]
          go_wp2
          go_ret
          exact ⟨rfl, B0.out⟩
end Go.Proofs.YtpenhliaelhnoaaGreatDoor.FrS
