/-
  Frames as plain data: which are right, their bytes, and back.
  A frame's bytes as plain data.
  Numbers and their bytes as plain facts.
  Right frames with the same bytes are the same; what it is to be read out of bytes.
  A frame's bytes are bytes, and few.
  What impl's putCookie and putSealed answer: bytes that are laid behind others.
  The words behind impl's interface: what each asks of its parts, and the frame that it is.
-/
import Derived.Test.YtmcflfpckpjphaaGreatDoorVdFrZ
import Derived.Test.YtmcflfpckpjphaaGreatDoorVdBas3
import Derived.Test.YtmcflfpckpjphaaGreatDoorVdBas1
import Derived.Deep.RegionHeld3
set_option linter.unusedVariables false
set_option maxRecDepth 100000
namespace Go.Proofs.YtmcflfpckpjphaaGreatDoor.FrP
open Go.RowKit Mem App Words FrZ

def bodyOk (k : Int) (n : Int) : Bool := if k == 4 then decide (n ≤ 40) else if k == 5 || k == 6 then n == 12 else n == 4
def okS (kind id : Int) (cn sn : Nat) (tick : Int) (cookie proof : Nat) (epoch seq : Int) (body tag : Nat) : Bool :=
 if isIn kind 4 8 = true then (id == 0) && (((cn : Int) == 0) && (((sn : Int) == 12) && ((tick == 0) && (((cookie : Int) == 0) && (((proof : Int) == 0) && (isIn epoch 0 4294967295 && (isIn seq 0 281474976710655 && (bodyOk kind body && ((tag : Int) == 16)))))))))
 else if ((epoch == 0) && ((seq == 0) && (((body : Int) == 0) && (((tag : Int) == 0) && ((cn : Int) == 12))))) = false then false
 else if (kind == 1) = true then isIn id 1 9 && (((sn : Int) == 0) && ((tick == 0) && (((cookie : Int) == 0) && ((proof : Int) == 0))))
 else if (kind == 2) = true then (id == 0) && (((sn : Int) == 12) && (isIn tick 0 1000000 && (((cookie : Int) == 16) && ((proof : Int) == 0))))
 else if (kind == 3) = true then isIn id 1 9 && (((sn : Int) == 12) && (isIn tick 0 1000000 && (((cookie : Int) == 16) && ((proof : Int) == 16))))
 else false
def frameOk (D : FrD) : Bool := okS D.kind D.id D.cn.length D.sn.length D.tick D.cookie.length D.proof.length D.epoch D.seq D.body.length D.tag.length
end Go.Proofs.YtmcflfpckpjphaaGreatDoor.FrP

namespace Go.Proofs.YtmcflfpckpjphaaGreatDoor.FrB
open Go.RowKit Mem App Words FrZ FrP

theorem ok_iff (D : FrD) : frameOk D = true ↔
  (4 ≤ D.kind ∧ D.kind ≤ 8 ∧ D.id = 0 ∧ D.cn.length = 0 ∧ D.sn.length = 12 ∧ D.tick = 0 ∧ D.cookie.length = 0 ∧ D.proof.length = 0 ∧ 0 ≤ D.epoch ∧ D.epoch ≤ 4294967295 ∧ 0 ≤ D.seq ∧ D.seq ≤ 281474976710655 ∧ bodyOk D.kind D.body.length = true ∧ D.tag.length = 16) ∨
  (D.epoch = 0 ∧ D.seq = 0 ∧ D.body.length = 0 ∧ D.tag.length = 0 ∧ D.cn.length = 12 ∧
   ((D.kind = 1 ∧ 1 ≤ D.id ∧ D.id ≤ 9 ∧ D.sn.length = 0 ∧ D.tick = 0 ∧ D.cookie.length = 0 ∧ D.proof.length = 0) ∨
    (D.kind = 2 ∧ D.id = 0 ∧ D.sn.length = 12 ∧ 0 ≤ D.tick ∧ D.tick ≤ 1000000 ∧ D.cookie.length = 16 ∧ D.proof.length = 0) ∨
    (D.kind = 3 ∧ 1 ≤ D.id ∧ D.id ≤ 9 ∧ D.sn.length = 12 ∧ 0 ≤ D.tick ∧ D.tick ≤ 1000000 ∧ D.cookie.length = 16 ∧ D.proof.length = 16))) := by
 unfold frameOk okS isIn
 by_cases hs : 4 ≤ D.kind ∧ D.kind ≤ 8
 ·
  rw [if_pos (by simpa using hs)]
  simp only [Bool.and_eq_true, beq_iff_eq, decide_eq_true_eq]
  constructor
  ·
   rintro ⟨h1, h2, h3, h4, h5, h6, h7, h8, h9, h10⟩
   exact .inl ⟨hs.1, hs.2, h1, by omega, by omega, h4, by omega, by omega, h7.1, h7.2, h8.1, h8.2, h9, by omega⟩
  ·
   rintro (⟨_, _, h1, h2, h3, h4, h5, h6, h7, h7', h8, h8', h9, h10⟩ | ⟨_, _, _, _, _, ⟨h, _⟩ | ⟨h, _⟩ | ⟨h, _⟩⟩)
   ·
    exact ⟨h1, by omega, by omega, h4, by omega, by omega, ⟨h7, h7'⟩, ⟨h8, h8'⟩, h9, by omega⟩
   ·
    omega
   ·
    omega
   ·
    omega
 ·
  rw [if_neg (by simpa using hs)]
  by_cases he : D.epoch = 0 ∧ D.seq = 0 ∧ D.body.length = 0 ∧ D.tag.length = 0 ∧ D.cn.length = 12
  ·
   obtain ⟨e1, e2, e3, e4, e5⟩ := he
   rw [if_neg (by rw [e1, e2, e3, e4, e5]; simp)]
   by_cases k1 : D.kind = 1
   ·
    rw [k1]; simp only [beq_self_eq_true, if_true, Bool.and_eq_true, beq_iff_eq, decide_eq_true_eq]; constructor
    ·
     rintro ⟨⟨a, a'⟩, b, c, d, e⟩; exact .inr ⟨e1, e2, e3, e4, e5, .inl ⟨trivial, a, a', by omega, c, by omega, by omega⟩⟩
    ·
     rintro (h | ⟨_, _, _, _, _, ⟨_, a, a', b, c, d, e⟩ | ⟨h, _⟩ | ⟨h, _⟩⟩)
     ·
      omega
     ·
      exact ⟨⟨a, a'⟩, by omega, c, by omega, by omega⟩
     ·
      omega
     ·
      omega
   ·
    rw [if_neg (by simpa using k1)]
    by_cases k2 : D.kind = 2
    ·
     rw [k2]; simp only [beq_self_eq_true, if_true, Bool.and_eq_true, beq_iff_eq, decide_eq_true_eq]; constructor
     ·
      rintro ⟨a, b, ⟨c, c'⟩, d, e⟩; exact .inr ⟨e1, e2, e3, e4, e5, .inr (.inl ⟨trivial, a, by omega, c, c', by omega, by omega⟩)⟩
     ·
      rintro (h | ⟨_, _, _, _, _, ⟨h, _⟩ | ⟨_, a, b, c, c', d, e⟩ | ⟨h, _⟩⟩)
      ·
       omega
      ·
       omega
      ·
       exact ⟨a, by omega, ⟨c, c'⟩, by omega, by omega⟩
      ·
       omega
    ·
     rw [if_neg (by simpa using k2)]
     by_cases k3 : D.kind = 3
     ·
      rw [k3]; simp only [beq_self_eq_true, if_true, Bool.and_eq_true, beq_iff_eq, decide_eq_true_eq]; constructor
      ·
       rintro ⟨⟨a, a'⟩, b, ⟨c, c'⟩, d, e⟩; exact .inr ⟨e1, e2, e3, e4, e5, .inr (.inr ⟨trivial, a, a', by omega, c, c', by omega, by omega⟩)⟩
      ·
       rintro (h | ⟨_, _, _, _, _, ⟨h, _⟩ | ⟨h, _⟩ | ⟨_, a, a', b, c, c', d, e⟩⟩)
       ·
        omega
       ·
        omega
       ·
        omega
       ·
        exact ⟨⟨a, a'⟩, by omega, ⟨c, c'⟩, by omega, by omega⟩
     ·
      rw [if_neg (by simpa using k3)]
      constructor
      ·
       intro h; cases h
      ·
       rintro (h | ⟨_, _, _, _, _, ⟨h, _⟩ | ⟨h, _⟩ | ⟨h, _⟩⟩)
       ·
        omega
       ·
        omega
       ·
        omega
       ·
        omega
  ·
   rw [if_pos (by
    cases hc : ((D.epoch == 0) && ((D.seq == 0) && (((D.body.length : Int) == 0) && (((D.tag.length : Int) == 0) && ((D.cn.length : Int) == 12))))) with
    | false => rfl
    | true =>
     simp only [Bool.and_eq_true, beq_iff_eq] at hc
     exact absurd ⟨hc.1, hc.2.1, by omega, by omega, by omega⟩ he)]
   constructor
   ·
    intro h; cases h
   ·
    rintro (h | ⟨a, b, c, d, e, _⟩)
    ·
     omega
    ·
     exact absurd ⟨a, b, c, d, e⟩ he
theorem ok_kind (D : FrD) (h : frameOk D = true) : 1 ≤ D.kind ∧ D.kind ≤ 8 := by
 rcases (ok_iff D).1 h with h | ⟨_, _, _, _, _, h | h | h⟩ <;> omega
theorem ok_lens (D : FrD) (h : frameOk D = true) : D.cn.length ≤ 12 ∧ D.sn.length ≤ 12 ∧ D.cookie.length ≤ 16 ∧ D.proof.length ≤ 16 ∧ D.body.length ≤ 40 ∧ D.tag.length ≤ 16 := by
 rcases (ok_iff D).1 h with ⟨_, _, _, _, _, _, _, _, _, _, _, _, hb, _⟩ | ⟨_, _, _, _, _, h | h | h⟩
 ·
  have : D.body.length ≤ 40 := by
   unfold bodyOk at hb
   split at hb
   ·
    simp at hb; omega
   ·
    split at hb <;> (simp at hb; omega)
  omega
 ·
  omega
 ·
  omega
 ·
  omega
end Go.Proofs.YtmcflfpckpjphaaGreatDoor.FrB

namespace Go.Proofs.YtmcflfpckpjphaaGreatDoor.FrG
open Go.RowKit Mem App Get FrZ FrP FrB

def zeroF : FrD := ⟨0, 0, [], [], 0, [], [], 0, 0, [], []⟩
end Go.Proofs.YtmcflfpckpjphaaGreatDoor.FrG

namespace Go.Proofs.YtmcflfpckpjphaaGreatDoor.FrQ
open Go.RowKit Mem App Blk Words Zone Res FrZ FrP FrB

def New (w : World) (l : List Int) : Ending → World → Prop := fun e w' => ∃ g m cap, e = .returned (.slice (some ⟨g, 0, none⟩) m cap) ∧ m = l.length ∧ w.heap.size ≤ g ∧ Row w' g cap l ∧ Below w.heap.size w w'
theorem rowRd {w : World} {g m cap : Nat} {l : List Int} (r : Row w g cap l) (em : m = l.length) (hb : Bytes l) : SRd w ⟨some ⟨g, 0, none⟩, m, cap⟩ l :=
 ⟨em, r.rd, (fun e => by cases e), by rw [em]; exact r.1, hb⟩
theorem putN_bytes (n k : Int) : Bytes (putN n k) := by
 unfold putN; split
 ·
  exact num_bytes _ _
 ·
  intro z hz; cases hz
theorem putB (s t : Sl) (x y : List Int) (w : World) (hx : SRd w s x) (hy : SRd w t y) (lx : x.length ≤ 100000) (ly : y.length ≤ 100000) :
  Calls Tryz.prog 57 #[.slice s.a s.n s.c, .slice t.a t.n t.c] w (New w (x ++ y)) := by
 refine (putBytes s.a t.a s.n s.c t.n t.c x y w hx.len hy.len hx.rd hy.rd hx.nil hy.nil (by omega) (by omega)).mono ?_
 rintro e w' ⟨rfl, r, b⟩
 exact ⟨_, _, _, rfl, by rw [List.length_append, hx.len, hy.len], Nat.le_refl _, r, b⟩
theorem putK (s : Sl) (x : List Int) (n k : Int) (w : World) (hx : SRd w s x) (lx : x.length ≤ 100000) :
  Calls Tryz.prog 73 #[.slice s.a s.n s.c, .int .i64 n, .int .i64 k] w (New w (x ++ putN n k)) :=
 implPutN s.a s.n s.c x n k w hx.len hx.rd hx.nil (by omega)

end Go.Proofs.YtmcflfpckpjphaaGreatDoor.FrQ

namespace Go.Proofs.YtmcflfpckpjphaaGreatDoor.FrW
open Go.RowKit Mem Blk Words Zone Res FrZ FrP

theorem isId (x : Int) (w : World) :
  Calls Tryz.prog 205 #[.int .i64 x] w fun e w' => e = .returned (.bool (isIn x 1 9)) ∧ w = w' := by
 by_cases h1 : x ≥ 1
 ·
  by_cases h2 : x ≤ 9
  ·
   have H : Hid (isIn x 1 9 = true) := isIn_yes ⟨h1, by omega⟩
   go_enter Tryz.func205, Tryz.ntmps205
   go_wp2
   go_ret
   exact ⟨by rw [H.out]; simp, rfl⟩
  ·
   have H : Hid (isIn x 1 9 = false) := isIn_no (fun h => h2 (by omega))
   go_enter Tryz.func205, Tryz.ntmps205
   go_wp2
   go_ret
   exact ⟨by rw [H.out]; simp, rfl⟩
 ·
  have H : Hid (isIn x 1 9 = false) := isIn_no (fun h => h1 h.1)
  go_enter Tryz.func205, Tryz.ntmps205
  go_wp2
  go_ret
  exact ⟨by rw [H.out]; simp, rfl⟩

theorem isTime (x : Int) (w : World) :
  Calls Tryz.prog 208 #[.int .i64 x] w fun e w' => e = .returned (.bool (isIn x 0 1000000)) ∧ w = w' := by
 by_cases h1 : x ≥ 0
 ·
  by_cases h2 : x ≤ 1000000
  ·
   have H : Hid (isIn x 0 1000000 = true) := isIn_yes ⟨h1, by omega⟩
   go_enter Tryz.func208, Tryz.ntmps208
   go_wp2
   go_ret
   exact ⟨by rw [H.out]; simp, rfl⟩
  ·
   have H : Hid (isIn x 0 1000000 = false) := isIn_no (fun h => h2 (by omega))
   go_enter Tryz.func208, Tryz.ntmps208
   go_wp2
   go_ret
   exact ⟨by rw [H.out]; simp, rfl⟩
 ·
  have H : Hid (isIn x 0 1000000 = false) := isIn_no (fun h => h1 h.1)
  go_enter Tryz.func208, Tryz.ntmps208
  go_wp2
  go_ret
  exact ⟨by rw [H.out]; simp, rfl⟩

theorem isEpoch (x : Int) (w : World) :
  Calls Tryz.prog 80 #[.int .i64 x] w fun e w' => e = .returned (.bool (isIn x 0 4294967295)) ∧ w = w' := by
 by_cases h1 : x ≥ 0
 ·
  by_cases h2 : x ≤ 4294967295
  ·
   have H : Hid (isIn x 0 4294967295 = true) := isIn_yes ⟨h1, by omega⟩
   go_enter Tryz.func80, Tryz.ntmps80
   go_wp2
   go_ret
   exact ⟨by rw [H.out]; simp, rfl⟩
  ·
   have H : Hid (isIn x 0 4294967295 = false) := isIn_no (fun h => h2 (by omega))
   go_enter Tryz.func80, Tryz.ntmps80
   go_wp2
   go_ret
   exact ⟨by rw [H.out]; simp, rfl⟩
 ·
  have H : Hid (isIn x 0 4294967295 = false) := isIn_no (fun h => h1 h.1)
  go_enter Tryz.func80, Tryz.ntmps80
  go_wp2
  go_ret
  exact ⟨by rw [H.out]; simp, rfl⟩

theorem isSeq (x : Int) (w : World) :
  Calls Tryz.prog 127 #[.int .i64 x] w fun e w' => e = .returned (.bool (isIn x 0 281474976710655)) ∧ w = w' := by
 by_cases h1 : x ≥ 0
 ·
  by_cases h2 : x < 281474976710656
  ·
   have H : Hid (isIn x 0 281474976710655 = true) := isIn_yes ⟨h1, by omega⟩
   go_enter Tryz.func127, Tryz.ntmps127
   go_wp2
   go_ret
   exact ⟨by rw [H.out]; simp, rfl⟩
  ·
   have H : Hid (isIn x 0 281474976710655 = false) := isIn_no (fun h => h2 (by omega))
   go_enter Tryz.func127, Tryz.ntmps127
   go_wp2
   go_ret
   exact ⟨by rw [H.out]; simp, rfl⟩
 ·
  have H : Hid (isIn x 0 281474976710655 = false) := isIn_no (fun h => h1 h.1)
  go_enter Tryz.func127, Tryz.ntmps127
  go_wp2
  go_ret
  exact ⟨by rw [H.out]; simp, rfl⟩

theorem isNonce (a : Option Addr) (n c : Nat) (w : World) :
  Calls Tryz.prog 142 #[.slice a n c] w fun e w' => e = .returned (.bool ((n : Int) == 12)) ∧ w = w' := by
 go_enter Tryz.func142, Tryz.ntmps142
 go_wp2
 go_ret
 exact ⟨by simp, rfl⟩

theorem isTag (a : Option Addr) (n c : Nat) (w : World) :
  Calls Tryz.prog 209 #[.slice a n c] w fun e w' => e = .returned (.bool ((n : Int) == 16)) ∧ w = w' := by
 go_enter Tryz.func209, Tryz.ntmps209
 go_wp2
 go_ret
 exact ⟨by simp, rfl⟩

set_option maxHeartbeats 1600000 in
theorem initRight (id : Int) (cn : Sl) (w : World) :
  Calls Tryz.prog 204 #[.agg #[.int .i64 id, .slice cn.a cn.n cn.c]] w fun e w' => e = .returned (.bool (isIn id 1 9 && ((cn.n : Int) == 12))) ∧ Below w.heap.size w w' := by
 obtain ⟨x0, hx0⟩ : ∃ x0, w.alloc (.cells #[.int .i64 id, .slice cn.a cn.n cn.c] 122) = x0 := ⟨_, rfl⟩
 have HW0 := hid (hx0)
 have B0 : Hid (Below w.heap.size w x0) := by rw [← hx0]; exact (Below.refl _ _).alloc (Nat.le_refl _) _
 have K0 : Hid (Blk x0 w.heap.size 122 [.int .i64 id, .slice cn.a cn.n cn.c]) := by rw [← hx0]; exact Blk.new w _ _
 clear hx0
 go_enter Tryz.func204, Tryz.ntmps204
 go_wp2_with fail
 rw [HW0.out]
 generalize hga : w.heap.size = ga at K0 ⊢
 have c0 := K0.out.cell 0 rfl
 have c1 := K0.out.cell 1 rfl
 refine (isId id x0).mono ?_
 rintro e y ⟨rfl, rfl⟩
 cases h0 : (isIn id 1 9) with
 | false =>
  go_wp2
  go_ret
  exact ⟨by rw [h0]; simp, hga ▸ B0.out⟩
 | true =>
  go_wp2_with fail
  refine (isNonce cn.a cn.n cn.c x0).mono ?_
  rintro e y ⟨rfl, rfl⟩
  go_wp2
  go_ret
  exact ⟨by rw [h0]; simp, hga ▸ B0.out⟩

set_option maxHeartbeats 1600000 in
theorem cookRight (cn sn : Sl) (tick : Int) (cookie : Sl) (w : World) :
  Calls Tryz.prog 207 #[.agg #[.slice cn.a cn.n cn.c, .slice sn.a sn.n sn.c, .int .i64 tick, .slice cookie.a cookie.n cookie.c]] w fun e w' => e = .returned (.bool ((cn.n : Int) == 12 && ((sn.n : Int) == 12 && (isIn tick 0 1000000 && ((cookie.n : Int) == 16))))) ∧ Below w.heap.size w w' := by
 obtain ⟨x0, hx0⟩ : ∃ x0, w.alloc (.cells #[.slice cn.a cn.n cn.c, .slice sn.a sn.n sn.c, .int .i64 tick, .slice cookie.a cookie.n cookie.c] 124) = x0 := ⟨_, rfl⟩
 have HW0 := hid (hx0)
 have B0 : Hid (Below w.heap.size w x0) := by rw [← hx0]; exact (Below.refl _ _).alloc (Nat.le_refl _) _
 have K0 : Hid (Blk x0 w.heap.size 124 [.slice cn.a cn.n cn.c, .slice sn.a sn.n sn.c, .int .i64 tick, .slice cookie.a cookie.n cookie.c]) := by rw [← hx0]; exact Blk.new w _ _
 clear hx0
 go_enter Tryz.func207, Tryz.ntmps207
 go_wp2_with fail
 rw [HW0.out]
 generalize hga : w.heap.size = ga at K0 ⊢
 have c0 := K0.out.cell 0 rfl
 have c1 := K0.out.cell 1 rfl
 have c2 := K0.out.cell 2 rfl
 have c3 := K0.out.cell 3 rfl
 refine (isNonce cn.a cn.n cn.c x0).mono ?_
 rintro e y ⟨rfl, rfl⟩
 cases h0 : ((cn.n : Int) == 12) with
 | false =>
  go_wp2
  go_ret
  exact ⟨by rw [h0]; simp, hga ▸ B0.out⟩
 | true =>
  go_wp2_with fail
  refine (isNonce sn.a sn.n sn.c x0).mono ?_
  rintro e y ⟨rfl, rfl⟩
  cases h1 : ((sn.n : Int) == 12) with
  | false =>
   go_wp2
   go_ret
   exact ⟨by rw [h0, h1]; simp, hga ▸ B0.out⟩
  | true =>
   go_wp2_with fail
   refine (isTime tick x0).mono ?_
   rintro e y ⟨rfl, rfl⟩
   cases h2 : (isIn tick 0 1000000) with
   | false =>
    go_wp2
    go_ret
    exact ⟨by rw [h0, h1, h2]; simp, hga ▸ B0.out⟩
   | true =>
    go_wp2_with fail
    refine (isTag cookie.a cookie.n cookie.c x0).mono ?_
    rintro e y ⟨rfl, rfl⟩
    go_wp2
    go_ret
    exact ⟨by rw [h0, h1, h2]; simp, hga ▸ B0.out⟩

set_option maxHeartbeats 1600000 in
theorem finRight (id : Int) (cn sn : Sl) (tick : Int) (cookie proof : Sl) (w : World) :
  Calls Tryz.prog 211 #[.agg #[.int .i64 id, .slice cn.a cn.n cn.c, .slice sn.a sn.n sn.c, .int .i64 tick, .slice cookie.a cookie.n cookie.c, .slice proof.a proof.n proof.c]] w fun e w' => e = .returned (.bool (isIn id 1 9 && (((cn.n : Int) == 12) && (((sn.n : Int) == 12) && (isIn tick 0 1000000 && ((cookie.n : Int) == 16))) && ((proof.n : Int) == 16)))) ∧ Below w.heap.size w w' := by
 obtain ⟨x0, hx0⟩ : ∃ x0, w.alloc (.cells #[.int .i64 id, .slice cn.a cn.n cn.c, .slice sn.a sn.n sn.c, .int .i64 tick, .slice cookie.a cookie.n cookie.c, .slice proof.a proof.n proof.c] 127) = x0 := ⟨_, rfl⟩
 have HW0 := hid (hx0)
 have B0 : Hid (Below w.heap.size w x0) := by rw [← hx0]; exact (Below.refl _ _).alloc (Nat.le_refl _) _
 have K0 : Hid (Blk x0 w.heap.size 127 [.int .i64 id, .slice cn.a cn.n cn.c, .slice sn.a sn.n sn.c, .int .i64 tick, .slice cookie.a cookie.n cookie.c, .slice proof.a proof.n proof.c]) := by rw [← hx0]; exact Blk.new w _ _
 clear hx0
 go_enter Tryz.func211, Tryz.ntmps211
 go_wp2_with fail
 rw [HW0.out]
 generalize hga : w.heap.size = ga at K0 ⊢
 have c0 := K0.out.cell 0 rfl
 have c1 := K0.out.cell 1 rfl
 have c2 := K0.out.cell 2 rfl
 have c3 := K0.out.cell 3 rfl
 have c4 := K0.out.cell 4 rfl
 have c5 := K0.out.cell 5 rfl
 refine (isId id x0).mono ?_
 rintro e y ⟨rfl, rfl⟩
 cases h0 : (isIn id 1 9) with
 | false =>
  go_wp2
  go_ret
  exact ⟨by rw [h0]; simp, hga ▸ B0.out⟩
 | true =>
  go_wp2_with fail
  refine (cookRight cn sn tick cookie x0).mono ?_
  rintro e x1 ⟨rfl, b1⟩
  have B1 := hid (B0.out.trans (b1.mono B0.out.size))
  have K1 := hid (K0.out.later b1)
  clear b1 c0 c1 c2 c3 c4 c5
  have c0 := K1.out.cell 0 rfl
  have c1 := K1.out.cell 1 rfl
  have c2 := K1.out.cell 2 rfl
  have c3 := K1.out.cell 3 rfl
  have c4 := K1.out.cell 4 rfl
  have c5 := K1.out.cell 5 rfl
  cases h1 : (((cn.n : Int) == 12) && (((sn.n : Int) == 12) && (isIn tick 0 1000000 && ((cookie.n : Int) == 16)))) with
  | false =>
   go_wp2
   go_ret
   exact ⟨by rw [h0, h1]; simp, hga ▸ B1.out⟩
  | true =>
   go_wp2_with fail
   refine (isTag proof.a proof.n proof.c x1).mono ?_
   rintro e y ⟨rfl, rfl⟩
   go_wp2
   go_ret
   exact ⟨by rw [h0, h1]; simp, hga ▸ B1.out⟩

set_option maxHeartbeats 1600000 in
theorem partsRight (sn : Sl) (epoch seq : Int) (tag body : Sl) (w : World) :
  Calls Tryz.prog 213 #[.agg #[.slice sn.a sn.n sn.c, .int .i64 epoch, .int .i64 seq, .slice tag.a tag.n tag.c, .slice body.a body.n body.c]] w fun e w' => e = .returned (.bool ((sn.n : Int) == 12 && (isIn epoch 0 4294967295 && (isIn seq 0 281474976710655 && ((tag.n : Int) == 16))))) ∧ Below w.heap.size w w' := by
 obtain ⟨x0, hx0⟩ : ∃ x0, w.alloc (.cells #[.slice sn.a sn.n sn.c, .int .i64 epoch, .int .i64 seq, .slice tag.a tag.n tag.c, .slice body.a body.n body.c] 129) = x0 := ⟨_, rfl⟩
 have HW0 := hid (hx0)
 have B0 : Hid (Below w.heap.size w x0) := by rw [← hx0]; exact (Below.refl _ _).alloc (Nat.le_refl _) _
 have K0 : Hid (Blk x0 w.heap.size 129 [.slice sn.a sn.n sn.c, .int .i64 epoch, .int .i64 seq, .slice tag.a tag.n tag.c, .slice body.a body.n body.c]) := by rw [← hx0]; exact Blk.new w _ _
 clear hx0
 go_enter Tryz.func213, Tryz.ntmps213
 go_wp2_with fail
 rw [HW0.out]
 generalize hga : w.heap.size = ga at K0 ⊢
 obtain ⟨c0, c1, c2, c3, c4⟩ := cells5 K0.out
 refine (isNonce sn.a sn.n sn.c x0).mono ?_
 rintro e y ⟨rfl, rfl⟩
 cases h0 : ((sn.n : Int) == 12) with
 | false =>
  go_wp2
  go_ret
  exact ⟨by rw [h0]; simp, hga ▸ B0.out⟩
 | true =>
  go_wp2_with fail
  refine (isEpoch epoch x0).mono ?_
  rintro e y ⟨rfl, rfl⟩
  cases h1 : (isIn epoch 0 4294967295) with
  | false =>
   go_wp2
   go_ret
   exact ⟨by rw [h0, h1]; simp, hga ▸ B0.out⟩
  | true =>
   go_wp2_with fail
   refine (isSeq seq x0).mono ?_
   rintro e y ⟨rfl, rfl⟩
   cases h2 : (isIn seq 0 281474976710655) with
   | false =>
    go_wp2
    go_ret
    exact ⟨by rw [h0, h1, h2]; simp, hga ▸ B0.out⟩
   | true =>
    go_wp2_with fail
    refine (isTag tag.a tag.n tag.c x0).mono ?_
    rintro e y ⟨rfl, rfl⟩
    go_wp2
    go_ret
    exact ⟨by rw [h0, h1, h2]; simp, hga ▸ B0.out⟩

set_option maxHeartbeats 1600000 in
theorem dataRight (sn : Sl) (epoch seq : Int) (tag body : Sl) (w : World) :
  Calls Tryz.prog 215 #[.agg #[.slice sn.a sn.n sn.c, .int .i64 epoch, .int .i64 seq, .slice tag.a tag.n tag.c, .slice body.a body.n body.c]] w fun e w' => e = .returned (.bool (((sn.n : Int) == 12) && (isIn epoch 0 4294967295 && (isIn seq 0 281474976710655 && ((tag.n : Int) == 16))) && (decide ((body.n : Int) ≤ 40)))) ∧ Below w.heap.size w w' := by
 obtain ⟨x0, hx0⟩ : ∃ x0, w.alloc (.cells #[.slice sn.a sn.n sn.c, .int .i64 epoch, .int .i64 seq, .slice tag.a tag.n tag.c, .slice body.a body.n body.c] 132) = x0 := ⟨_, rfl⟩
 have HW0 := hid (hx0)
 have B0 : Hid (Below w.heap.size w x0) := by rw [← hx0]; exact (Below.refl _ _).alloc (Nat.le_refl _) _
 have K0 : Hid (Blk x0 w.heap.size 132 [.slice sn.a sn.n sn.c, .int .i64 epoch, .int .i64 seq, .slice tag.a tag.n tag.c, .slice body.a body.n body.c]) := by rw [← hx0]; exact Blk.new w _ _
 clear hx0
 go_enter Tryz.func215, Tryz.ntmps215
 go_wp2_with fail
 rw [HW0.out]
 generalize hga : w.heap.size = ga at K0 ⊢
 obtain ⟨c0, c1, c2, c3, c4⟩ := cells5 K0.out
 refine (partsRight sn epoch seq tag body x0).mono ?_
 rintro e x1 ⟨rfl, b1⟩
 have B1 := hid (B0.out.trans (b1.mono B0.out.size))
 have K1 := hid (K0.out.later b1)
 clear b1 c0 c1 c2 c3 c4
 obtain ⟨c0, c1, c2, c3, c4⟩ := cells5 K1.out
 cases h0 : (((sn.n : Int) == 12) && (isIn epoch 0 4294967295 && (isIn seq 0 281474976710655 && ((tag.n : Int) == 16)))) with
 | false =>
  go_wp2
  go_ret
  exact ⟨by rw [h0]; simp, hga ▸ B1.out⟩
 | true =>
  go_wp2
  go_ret
  exact ⟨by rw [h0]; simp, hga ▸ B1.out⟩

set_option maxHeartbeats 1600000 in
theorem chalRight (sn : Sl) (epoch seq : Int) (tag body : Sl) (w : World) :
  Calls Tryz.prog 217 #[.agg #[.slice sn.a sn.n sn.c, .int .i64 epoch, .int .i64 seq, .slice tag.a tag.n tag.c, .slice body.a body.n body.c]] w fun e w' => e = .returned (.bool (((sn.n : Int) == 12) && (isIn epoch 0 4294967295 && (isIn seq 0 281474976710655 && ((tag.n : Int) == 16))) && ((body.n : Int) == 12))) ∧ Below w.heap.size w w' := by
 obtain ⟨x0, hx0⟩ : ∃ x0, w.alloc (.cells #[.slice sn.a sn.n sn.c, .int .i64 epoch, .int .i64 seq, .slice tag.a tag.n tag.c, .slice body.a body.n body.c] 133) = x0 := ⟨_, rfl⟩
 have HW0 := hid (hx0)
 have B0 : Hid (Below w.heap.size w x0) := by rw [← hx0]; exact (Below.refl _ _).alloc (Nat.le_refl _) _
 have K0 : Hid (Blk x0 w.heap.size 133 [.slice sn.a sn.n sn.c, .int .i64 epoch, .int .i64 seq, .slice tag.a tag.n tag.c, .slice body.a body.n body.c]) := by rw [← hx0]; exact Blk.new w _ _
 clear hx0
 go_enter Tryz.func217, Tryz.ntmps217
 go_wp2_with fail
 rw [HW0.out]
 generalize hga : w.heap.size = ga at K0 ⊢
 obtain ⟨c0, c1, c2, c3, c4⟩ := cells5 K0.out
 refine (partsRight sn epoch seq tag body x0).mono ?_
 rintro e x1 ⟨rfl, b1⟩
 have B1 := hid (B0.out.trans (b1.mono B0.out.size))
 have K1 := hid (K0.out.later b1)
 clear b1 c0 c1 c2 c3 c4
 obtain ⟨c0, c1, c2, c3, c4⟩ := cells5 K1.out
 cases h0 : (((sn.n : Int) == 12) && (isIn epoch 0 4294967295 && (isIn seq 0 281474976710655 && ((tag.n : Int) == 16)))) with
 | false =>
  go_wp2
  go_ret
  exact ⟨by rw [h0]; simp, hga ▸ B1.out⟩
 | true =>
  go_wp2_with fail
  refine (isNonce body.a body.n body.c x1).mono ?_
  rintro e y ⟨rfl, rfl⟩
  go_wp2
  go_ret
  exact ⟨by rw [h0]; simp, hga ▸ B1.out⟩

set_option maxHeartbeats 1600000 in
theorem respRight (sn : Sl) (epoch seq : Int) (tag body : Sl) (w : World) :
  Calls Tryz.prog 219 #[.agg #[.slice sn.a sn.n sn.c, .int .i64 epoch, .int .i64 seq, .slice tag.a tag.n tag.c, .slice body.a body.n body.c]] w fun e w' => e = .returned (.bool (((sn.n : Int) == 12) && (isIn epoch 0 4294967295 && (isIn seq 0 281474976710655 && ((tag.n : Int) == 16))) && ((body.n : Int) == 12))) ∧ Below w.heap.size w w' := by
 obtain ⟨x0, hx0⟩ : ∃ x0, w.alloc (.cells #[.slice sn.a sn.n sn.c, .int .i64 epoch, .int .i64 seq, .slice tag.a tag.n tag.c, .slice body.a body.n body.c] 134) = x0 := ⟨_, rfl⟩
 have HW0 := hid (hx0)
 have B0 : Hid (Below w.heap.size w x0) := by rw [← hx0]; exact (Below.refl _ _).alloc (Nat.le_refl _) _
 have K0 : Hid (Blk x0 w.heap.size 134 [.slice sn.a sn.n sn.c, .int .i64 epoch, .int .i64 seq, .slice tag.a tag.n tag.c, .slice body.a body.n body.c]) := by rw [← hx0]; exact Blk.new w _ _
 clear hx0
 go_enter Tryz.func219, Tryz.ntmps219
 go_wp2_with fail
 rw [HW0.out]
 generalize hga : w.heap.size = ga at K0 ⊢
 obtain ⟨c0, c1, c2, c3, c4⟩ := cells5 K0.out
 refine (partsRight sn epoch seq tag body x0).mono ?_
 rintro e x1 ⟨rfl, b1⟩
 have B1 := hid (B0.out.trans (b1.mono B0.out.size))
 have K1 := hid (K0.out.later b1)
 clear b1 c0 c1 c2 c3 c4
 obtain ⟨c0, c1, c2, c3, c4⟩ := cells5 K1.out
 cases h0 : (((sn.n : Int) == 12) && (isIn epoch 0 4294967295 && (isIn seq 0 281474976710655 && ((tag.n : Int) == 16)))) with
 | false =>
  go_wp2
  go_ret
  exact ⟨by rw [h0]; simp, hga ▸ B1.out⟩
 | true =>
  go_wp2_with fail
  refine (isNonce body.a body.n body.c x1).mono ?_
  rintro e y ⟨rfl, rfl⟩
  go_wp2
  go_ret
  exact ⟨by rw [h0]; simp, hga ▸ B1.out⟩

set_option maxHeartbeats 1600000 in
theorem rekRight (sn : Sl) (epoch seq : Int) (tag body : Sl) (w : World) :
  Calls Tryz.prog 221 #[.agg #[.slice sn.a sn.n sn.c, .int .i64 epoch, .int .i64 seq, .slice tag.a tag.n tag.c, .slice body.a body.n body.c]] w fun e w' => e = .returned (.bool (((sn.n : Int) == 12) && (isIn epoch 0 4294967295 && (isIn seq 0 281474976710655 && ((tag.n : Int) == 16))) && ((body.n : Int) == 4))) ∧ Below w.heap.size w w' := by
 obtain ⟨x0, hx0⟩ : ∃ x0, w.alloc (.cells #[.slice sn.a sn.n sn.c, .int .i64 epoch, .int .i64 seq, .slice tag.a tag.n tag.c, .slice body.a body.n body.c] 135) = x0 := ⟨_, rfl⟩
 have HW0 := hid (hx0)
 have B0 : Hid (Below w.heap.size w x0) := by rw [← hx0]; exact (Below.refl _ _).alloc (Nat.le_refl _) _
 have K0 : Hid (Blk x0 w.heap.size 135 [.slice sn.a sn.n sn.c, .int .i64 epoch, .int .i64 seq, .slice tag.a tag.n tag.c, .slice body.a body.n body.c]) := by rw [← hx0]; exact Blk.new w _ _
 clear hx0
 go_enter Tryz.func221, Tryz.ntmps221
 go_wp2_with fail
 rw [HW0.out]
 generalize hga : w.heap.size = ga at K0 ⊢
 obtain ⟨c0, c1, c2, c3, c4⟩ := cells5 K0.out
 refine (partsRight sn epoch seq tag body x0).mono ?_
 rintro e x1 ⟨rfl, b1⟩
 have B1 := hid (B0.out.trans (b1.mono B0.out.size))
 have K1 := hid (K0.out.later b1)
 clear b1 c0 c1 c2 c3 c4
 obtain ⟨c0, c1, c2, c3, c4⟩ := cells5 K1.out
 cases h0 : (((sn.n : Int) == 12) && (isIn epoch 0 4294967295 && (isIn seq 0 281474976710655 && ((tag.n : Int) == 16)))) with
 | false =>
  go_wp2
  go_ret
  exact ⟨by rw [h0]; simp, hga ▸ B1.out⟩
 | true =>
  go_wp2
  go_ret
  exact ⟨by rw [h0]; simp, hga ▸ B1.out⟩

set_option maxHeartbeats 1600000 in
theorem ackRight (sn : Sl) (epoch seq : Int) (tag body : Sl) (w : World) :
  Calls Tryz.prog 223 #[.agg #[.slice sn.a sn.n sn.c, .int .i64 epoch, .int .i64 seq, .slice tag.a tag.n tag.c, .slice body.a body.n body.c]] w fun e w' => e = .returned (.bool (((sn.n : Int) == 12) && (isIn epoch 0 4294967295 && (isIn seq 0 281474976710655 && ((tag.n : Int) == 16))) && ((body.n : Int) == 4))) ∧ Below w.heap.size w w' := by
 obtain ⟨x0, hx0⟩ : ∃ x0, w.alloc (.cells #[.slice sn.a sn.n sn.c, .int .i64 epoch, .int .i64 seq, .slice tag.a tag.n tag.c, .slice body.a body.n body.c] 136) = x0 := ⟨_, rfl⟩
 have HW0 := hid (hx0)
 have B0 : Hid (Below w.heap.size w x0) := by rw [← hx0]; exact (Below.refl _ _).alloc (Nat.le_refl _) _
 have K0 : Hid (Blk x0 w.heap.size 136 [.slice sn.a sn.n sn.c, .int .i64 epoch, .int .i64 seq, .slice tag.a tag.n tag.c, .slice body.a body.n body.c]) := by rw [← hx0]; exact Blk.new w _ _
 clear hx0
 go_enter Tryz.func223, Tryz.ntmps223
 go_wp2_with fail
 rw [HW0.out]
 generalize hga : w.heap.size = ga at K0 ⊢
 obtain ⟨c0, c1, c2, c3, c4⟩ := cells5 K0.out
 refine (partsRight sn epoch seq tag body x0).mono ?_
 rintro e x1 ⟨rfl, b1⟩
 have B1 := hid (B0.out.trans (b1.mono B0.out.size))
 have K1 := hid (K0.out.later b1)
 clear b1 c0 c1 c2 c3 c4
 obtain ⟨c0, c1, c2, c3, c4⟩ := cells5 K1.out
 cases h0 : (((sn.n : Int) == 12) && (isIn epoch 0 4294967295 && (isIn seq 0 281474976710655 && ((tag.n : Int) == 16)))) with
 | false =>
  go_wp2
  go_ret
  exact ⟨by rw [h0]; simp, hga ▸ B1.out⟩
 | true =>
  go_wp2
  go_ret
  exact ⟨by rw [h0]; simp, hga ▸ B1.out⟩

end Go.Proofs.YtmcflfpckpjphaaGreatDoor.FrW
