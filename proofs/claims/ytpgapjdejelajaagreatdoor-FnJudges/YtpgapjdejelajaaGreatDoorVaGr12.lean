/-
  How long the lists of a Frame are, all in all.
  A slice in memory of its own whose block may be longer than what the slice may hold.
  Two addresses, compared as structs.
  What impl's AddrOk, Near, PutAddr and GetAddr answer.
  What impl's putCookie and putSealed answer: bytes that are laid behind others.
-/
import Derived.Test.YtpgapjdejelajaaGreatDoorVaFrZ
import Derived.Test.YtpgapjdejelajaaGreatDoorVaGr5
import Derived.Test.YtpgapjdejelajaaGreatDoorVaGr8
import Derived.Test.YtpgapjdejelajaaGreatDoorVaGr4
import Derived.Test.YtpgapjdejelajaaGreatDoorVaGr9
import Derived.Deep.RegionHeld3
set_option linter.unusedVariables false

set_option maxRecDepth 100000
namespace Go.Proofs.YtpgapjdejelajaaGreatDoor.CkL
open Go.RowKit Mem Blk Zone Shp

def LOwn (w : World) (lo hi : Nat) (s : Sl) (l : List Int) : Prop := ∃ C, s.n ≤ s.c ∧ s.c ≤ C ∧ SOwn w lo hi ⟨s.a, s.n, C⟩ l
theorem LOwn.of {w : World} {lo hi : Nat} {s : Sl} {l : List Int} (h : SOwn w lo hi s l) : LOwn w lo hi s l := ⟨s.c, h.rd.cap, Nat.le_refl _, h⟩
theorem LOwn.rd {w : World} {lo hi : Nat} {s : Sl} {l : List Int} (h : LOwn w lo hi s l) : SRd w s l := by
 obtain ⟨C, h1, h2, h3⟩ := h
 have r := h3.rd
 exact ⟨r.len, r.rd, (fun e => by have : C = 0 := r.nil e; omega), h1, r.bytes⟩
theorem LOwn.len {w : World} {lo hi : Nat} {s : Sl} {l : List Int} (h : LOwn w lo hi s l) : s.n = l.length := h.rd.len
theorem LOwn.carry {w w' : World} {lo hi a b : Nat} {s : Sl} {l : List Int} (h : LOwn w lo hi s l) (k : Kept a b w w') (d : hi ≤ a ∨ b ≤ lo) : LOwn w' lo hi s l := by
 obtain ⟨C, h1, h2, h3⟩ := h
 exact ⟨C, h1, h2, h3.carry k d⟩
theorem LOwn.later {w w' : World} {lo hi : Nat} {s : Sl} {l : List Int} (h : LOwn w lo hi s l) (k : Below w.heap.size w w') : LOwn w' lo hi s l := h.carry (Kept.of_below k hi) (.inl (Nat.le_refl _))
theorem row_less {w : World} {g C : Nat} {a b : List Int} (h : Row w g C (a ++ b)) : Row w g C a := by
 obtain ⟨h1, h2, cur, h3, h4, h5⟩ := h
 rw [List.length_append] at h1
 refine ⟨by omega, h2, cur, h3, h4, ?_⟩
 have := congrArg (List.take a.length) h5
 rw [List.take_take, List.length_append, Nat.min_eq_left (by omega), List.map_append, List.take_append_of_le_length (by simp)] at this
 exact this.trans (List.take_of_length_le (by simp))
def AnsL (l : List Int) (w : World) : Ending → World → Prop := fun e w' => ∃ S0 : Sl, e = .returned (.slice S0.a S0.n S0.c) ∧ LOwn w' w.heap.size w'.heap.size S0 l ∧ Below w.heap.size w w'

end Go.Proofs.YtpgapjdejelajaaGreatDoor.CkL

namespace Go.Proofs.YtpgapjdejelajaaGreatDoor.AddrE
open Go.RowKit Mem AddrS

theorem eqPair (x y x' y' : Int) (w : World) :
  (Op.equalIn 10000 27 (.agg #[.int .i64 x, .int .i64 y]) (.agg #[.int .i64 x', .int .i64 y'])).run Tryz.prog w = .ok (x == x' && y == y') w := by
 rw [show (10000 : Nat) = 9999 + 1 from rfl]
 unfold Op.equalIn
 by_cases h1 : x = x'
 ·
  by_cases h2 : y = y'
  ·
   simp [Sem.run_bind, Tryz.underlying27, underlying, go_sem, Result.andThen, h1, h2]
  ·
   simp [Sem.run_bind, Tryz.underlying27, underlying, go_sem, Result.andThen, h1, h2]
 ·
  simp [Sem.run_bind, Tryz.underlying27, underlying, go_sem, Result.andThen, h1]
end Go.Proofs.YtpgapjdejelajaaGreatDoor.AddrE

namespace Go.Proofs.YtpgapjdejelajaaGreatDoor.AddrI
open Go.RowKit Mem App Get Blk Words AddrP Res Each Copy Ops AddrS AddrE

theorem wrap64_u16 (p : Int) : wrap64 (IntKind.u16.wrap p) = p % 65536 := by
 have e : IntKind.u16.wrap p = p % 65536 := by simp [IntKind.wrap, IntKind.signed, IntKind.bits]
 rw [e]
 unfold wrap64
 omega

set_option maxHeartbeats 800000 in
theorem implAddrOk (h p : Int) (w : World) :
  Calls Tryz.prog 72 #[addrV h p] w fun e w' => e = .returned (.bool (addrOk h p)) ∧ Below w.heap.size w w' := by
 have KB : Hid (Below w.heap.size w (w.alloc (.cells #[.int .i64 h, .int .i64 p] 27))) := (Below.refl _ _).alloc (Nat.le_refl _) _
 have E : Hid (∀ x y : Int, x = h % 4294967296 → y = p % 65536 → (h == x && p == y) = addrOk h p) := by
  intro x y hx hy
  unfold addrOk
  rw [Bool.eq_iff_iff]
  simp only [Bool.and_eq_true, beq_iff_eq, decide_eq_true_eq]
  omega
 unfold addrV
 have eqp := eqPair h p
 go_enter Tryz.func72, Tryz.ntmps72
 go_wp2
 go_ret
 refine ⟨?_, KB.out⟩
 show Ending.returned (Value.bool (h == h % 4294967296 && p == wrap64 (IntKind.u16.wrap p))) = _
 rw [E.out _ _ rfl (wrap64_u16 p)]

abbrev DL1 : List Nat := [10, 11, 12, 13, 14, 15, 16]
set_option maxHeartbeats 1600000 in
theorem implPutAddr (a : Option Addr) (n c : Nat) (l : List Int) (h p : Int) (w : World) (en : n = l.length) (hr : Rd w a l) (na : a = none → c = 0) (ll : n ≤ 2000000) :
  Calls Tryz.prog 44 #[.slice a n c, addrV h p] w fun e w' =>
   ∃ g m c', e = .returned (.slice (some ⟨g, 0, none⟩) m c') ∧ m = (putA l h p).length ∧ w.heap.size ≤ g ∧ Row w' g c' (putA l h p) ∧ Below w.heap.size w w' := by
 have EN : Hid (n = l.length) := en
 have HR := hid (hr)
 obtain ⟨w0, hw0⟩ : ∃ w0, w.alloc (.cells #[.int .i64 h, .int .i64 p] 27) = w0 := ⟨_, rfl⟩
 have HW0 := hid (hw0)
 have B0 : Hid (Below w.heap.size w w0) := by rw [← hw0]; exact (Below.refl _ _).alloc (Nat.le_refl _) _
 have K0 : Hid (Blk w0 w.heap.size 27 [.int .i64 h, .int .i64 p]) := by rw [← hw0]; exact Blk.new w _ _
 have o0 := K0.out.cell 0 rfl
 have o1 := K0.out.cell 1 rfl
 clear en hr hw0
 unfold addrV
 go_enter Tryz.func44, Tryz.ntmps44
 go_wp2_with fail
 rw [HW0.out]
 refine (implAddrOk h p w0).mono ?_
 rintro e w1 ⟨rfl, b1⟩
 have B1 := hid (B0.out.trans (b1.mono B0.out.size))
 have K1 := hid (K0.out.later b1)
 have R1 := hid (HR.out.later B1.out (Nat.le_refl _))
 clear b1 o0 o1
 cases hk : addrOk h p with
 | false =>
  have HP : Hid (putA l h p = l ++ []) := by show _ = _; unfold putA; rw [if_neg (by rw [hk]; simp), List.append_nil]
  go_wp2_with fail
  refine (putBytes a none n c 0 0 l [] w1 EN.out rfl R1.out (by intro i hi; simp at hi) na (by intro _; rfl) (by rw [← EN.out]; omega) (by simp)).mono ?_
  rintro e w2 ⟨rfl, r2, b2⟩
  have R2 : Hid (Row w2 w1.heap.size (n + 0) (putA l h p)) := by show Row _ _ _ _; rw [HP.out]; exact r2
  have E2 : Hid (n + 0 = (putA l h p).length) := by show _ = _; rw [HP.out, List.append_nil]; exact EN.out
  have G2 := hid (B1.out.size)
  have B2 := hid (B1.out.trans (b2.mono B1.out.size))
  clear r2 b2
  go_wp2
  go_ret
  exact ⟨w1.heap.size, n + 0, n + 0, by simp, E2.out, G2.out, R2.out, B2.out⟩
 | true =>
  have HP : Hid (putA l h p = l ++ putN h 4 ++ putN p 2) := by show _ = _; unfold putA; rw [if_pos hk]; rfl
  go_upto_region 3 with fail
  go_cut [4] from 10 to 16 (fun s4 wx => ∃ g m c', s4 = .slice (some ⟨g, 0, none⟩) m c' ∧ m = (l ++ putN h 4 ++ putN p 2).length ∧ Row wx g c' (l ++ putN h 4 ++ putN p 2) ∧ w1.heap.size ≤ g ∧ Below w1.heap.size w1 wx)
  case first =>
   rename_i J K' hRJ hMet
   generalize hA : Act.mk _ _ = A
   have a0' : A.eval (.tmp 0) = .slice a n c := by rw [← hA]; rfl
   have a3' : A.eval (.tmp 3) = .pointer (some ⟨w.heap.size, 0, none⟩) := by rw [← hA]; rfl
   have asz : A.tmps.size = 17 := by rw [← hA]; rfl
   have hK : ∀ wx, Below w1.heap.size w1 wx → Blk wx w.heap.size 27 [.int .i64 h, .int .i64 p] := fun wx hb => K1.out.later hb
   have hRl : ∀ wx, Below w1.heap.size w1 wx → Rd wx a l := fun wx hb => HR.out.later (B1.out.trans (hb.mono B1.out.size)) (Nat.le_refl _)
   refine region_each (by kernel_rfl) DL1 7 (fun i => DL1.getD i 0) (fun _ => 0)
    (fun i gB v wx => match i with
     | 0 => v = .slice a n c
     | 1 => v = .pointer (some ⟨w.heap.size, 0, none⟩)
     | 2 => v = .int .i64 h
     | 3 => ∃ m c, v = .slice (some ⟨gB, 0, none⟩) m c ∧ m = (l ++ putN h 4).length ∧ Row wx gB c (l ++ putN h 4)
     | 4 => v = .pointer (some ⟨w.heap.size, 1, none⟩)
     | 5 => v = .int .i64 p
     | 6 => ∃ m c, v = .slice (some ⟨gB, 0, none⟩) m c ∧ m = (l ++ putN h 4 ++ putN p 2).length ∧ Row wx gB c (l ++ putN h 4 ++ putN p 2) ∧ w1.heap.size ≤ gB
     | _ => False) (fun wx => Below w1.heap.size w1 wx) (by kernel_rfl) (Below.refl _ _).drew ?_ ?_ ?_
   ·
    intro i gB v wx wy hi hF hb _
    match i, hi with
    | 0, _ => exact hF
    | 1, _ => exact hF
    | 2, _ => exact hF
    | 3, _ => obtain ⟨m, c, h0, h1, h2⟩ := hF; exact ⟨m, c, h0, h1, h2.later hb⟩
    | 4, _ => exact hF
    | 5, _ => exact hF
    | 6, _ => obtain ⟨m, c, h0, h1, h2, h3⟩ := hF; exact ⟨m, c, h0, h1, h2.later hb, h3⟩
   ·
    intro i hi t ρ wx hB hp hd
    match i, hi with
    | 0, _ =>
     have e0 : (fr DL1 A t).eval (.tmp 0) = .slice a n c := (fr_eval_old _ _ _ 0 rfl).trans a0'
     refine op_run (v := .slice a n c) (w' := wx) rfl rfl ?_ ?_
     ·
      clear hp hd; have ec : ∀ v, (fr DL1 A t).eval (.const v) = v := fun _ => rfl; generalize (fr DL1 A t).eval = ev at ec e0 ⊢; go_simp
     ·
      exact ⟨_, 0, rfl, hB, Below.refl _ _, rfl, .inl rfl⟩
    | 1, _ =>
     have e3 : (fr DL1 A t).eval (.tmp 3) = .pointer (some ⟨w.heap.size, 0, none⟩) := (fr_eval_old _ _ _ 3 rfl).trans a3'
     refine op_run (v := .pointer (some ⟨w.heap.size, 0, none⟩)) (w' := wx) rfl rfl ?_ ?_
     ·
      clear hp hd; have ec : ∀ v, (fr DL1 A t).eval (.const v) = v := fun _ => rfl; generalize (fr DL1 A t).eval = ev at ec e3 ⊢; go_simp
     ·
      exact ⟨_, 0, rfl, hB, Below.refl _ _, rfl, .inl rfl⟩
    | 2, _ =>
     have e11 : (fr DL1 A t).eval (.tmp 11) = .pointer (some ⟨w.heap.size, 0, none⟩) := (fr_eval _ _ _ 11 rfl (by rw [asz]; decide)).trans (hp 1 (pre_mem (by kernel_rfl)))
     have hc := (hK wx hB).cell 0 rfl
     refine op_run (v := .int .i64 h) (w' := wx) rfl rfl ?_ ?_
     ·
      clear hp hd; have ec : ∀ v, (fr DL1 A t).eval (.const v) = v := fun _ => rfl; generalize (fr DL1 A t).eval = ev at ec e11 ⊢; go_simp
     ·
      exact ⟨_, 0, rfl, hB, Below.refl _ _, rfl, .inl rfl⟩
    | 3, _ =>
     have e10 : (fr DL1 A t).eval (.tmp 10) = .slice a n c := (fr_eval _ _ _ 10 rfl (by rw [asz]; decide)).trans (hp 0 (pre_mem (by kernel_rfl)))
     have e12 : (fr DL1 A t).eval (.tmp 12) = .int .i64 h := (fr_eval _ _ _ 12 rfl (by rw [asz]; decide)).trans (hp 2 (pre_mem (by kernel_rfl)))
     refine op_call (f := 43) (args := #[.slice a n c, .int .i64 h, .int .i64 4]) rfl rfl ?_ (implPutN a n c l h 4 wx EN.out (hRl wx hB) na (by rw [← EN.out]; omega)) ?_
     ·
      have ef : (fr DL1 A t).eval (.func 43) = .func (.func 43) #[] #[] := rfl; clear hp hd; have ec : ∀ v, (fr DL1 A t).eval (.const v) = v := fun _ => rfl; generalize (fr DL1 A t).eval = ev at ec e10 e12 ef ⊢; go_simp
     ·
      rintro e wy ⟨g2, m2, c2, rfl, e2, k2, r2, b2⟩
      exact ⟨_, rfl, _, g2, rfl, hB.trans (b2.mono hB.size), b2, ⟨m2, c2, rfl, e2, r2⟩, .inl rfl⟩
    | 4, _ =>
     have e3 : (fr DL1 A t).eval (.tmp 3) = .pointer (some ⟨w.heap.size, 0, none⟩) := (fr_eval_old _ _ _ 3 rfl).trans a3'
     refine op_run (v := .pointer (some ⟨w.heap.size, 1, none⟩)) (w' := wx) rfl rfl ?_ ?_
     ·
      clear hp hd; have ec : ∀ v, (fr DL1 A t).eval (.const v) = v := fun _ => rfl; generalize (fr DL1 A t).eval = ev at ec e3 ⊢; go_simp
     ·
      exact ⟨_, 0, rfl, hB, Below.refl _ _, rfl, .inl rfl⟩
    | 5, _ =>
     have e14 : (fr DL1 A t).eval (.tmp 14) = .pointer (some ⟨w.heap.size, 1, none⟩) := (fr_eval _ _ _ 14 rfl (by rw [asz]; decide)).trans (hp 4 (pre_mem (by kernel_rfl)))
     have hc := (hK wx hB).cell 1 rfl
     refine op_run (v := .int .i64 p) (w' := wx) rfl rfl ?_ ?_
     ·
      clear hp hd; have ec : ∀ v, (fr DL1 A t).eval (.const v) = v := fun _ => rfl; generalize (fr DL1 A t).eval = ev at ec e14 ⊢; go_simp
     ·
      exact ⟨_, 0, rfl, hB, Below.refl _ _, rfl, .inl rfl⟩
    | 6, _ =>
     obtain ⟨m3, c3, hv3, q3_0, q3_1⟩ := hp 3 (pre_mem (by kernel_rfl))
     have e13 : (fr DL1 A t).eval (.tmp 13) = .slice (some ⟨(ρ 3), 0, none⟩) m3 c3 := (fr_eval _ _ _ 13 rfl (by rw [asz]; decide)).trans hv3
     have e15 : (fr DL1 A t).eval (.tmp 15) = .int .i64 p := (fr_eval _ _ _ 15 rfl (by rw [asz]; decide)).trans (hp 5 (pre_mem (by kernel_rfl)))
     refine op_call (f := 43) (args := #[.slice (some ⟨(ρ 3), 0, none⟩) m3 c3, .int .i64 p, .int .i64 2]) rfl rfl ?_ (implPutN (some ⟨(ρ 3), 0, none⟩) m3 c3 (l ++ putN h 4) p 2 wx q3_0 q3_1.rd (by intro e; cases e) (by have := EN.out; have := putN_length h 4; rw [List.length_append]; omega)) ?_
     ·
      have ef : (fr DL1 A t).eval (.func 43) = .func (.func 43) #[] #[] := rfl; clear hp hd q3_0 q3_1; have ec : ∀ v, (fr DL1 A t).eval (.const v) = v := fun _ => rfl; generalize (fr DL1 A t).eval = ev at ec e13 e15 ef ⊢; go_simp
     ·
      rintro e wy ⟨g2, m2, c2, rfl, e2, k2, r2, b2⟩
      exact ⟨_, rfl, _, g2, rfl, hB.trans (b2.mono hB.size), b2, ⟨m2, c2, rfl, e2, r2, Nat.le_trans hB.size k2⟩, .inl rfl⟩
   ·
    intro t ρ wx hB hF hne
    obtain ⟨m6, c6, hv6, q6_0, q6_1, q6_2⟩ := hF 6 (by decide)
    have e16 : (fr DL1 A t).eval (.tmp 16) = .slice (some ⟨(ρ 6), 0, none⟩) m6 c6 := (fr_eval _ _ _ 16 rfl (by rw [asz]; decide)).trans hv6
    clear hne
    have E16 : Hid _ := q6_0
    refine op_wp rfl rfl ?_
    generalize hE : (fr DL1 A t).eval = ev at e16
    unfold Oper.wp
    rw [hE]
    clear q6_0
    go_simp
    refine hMet _ _ (Met.intro (hRJ _ _ ⟨_, t 10, t 11, t 12, t 13, t 14, t 15, t 16, ⟨_, _, _, rfl, E16.out, q6_1, q6_2, hB⟩, ?_⟩))
    rw [← hA]; rfl
  case rest =>
   obtain ⟨g3, m3, c3, rfl, e3, r3, k3, b3⟩ := hcut
   have R3 : Hid (Row wc g3 c3 (putA l h p)) := by show Row _ _ _ _; rw [HP.out]; exact r3
   have E3 : Hid (m3 = (putA l h p).length) := by show _ = _; rw [HP.out]; exact e3
   have G3 : Hid (w.heap.size ≤ g3) := Nat.le_trans B1.out.size k3
   have B3 := hid (B1.out.trans (b3.mono B1.out.size))
   clear e3 r3 k3 b3
   go_wp2
   go_ret
   exact ⟨g3, m3, c3, by simp, E3.out, G3.out, R3.out, B3.out⟩

end Go.Proofs.YtpgapjdejelajaaGreatDoor.AddrI

namespace Go.Proofs.YtpgapjdejelajaaGreatDoor.FrQ
open Go.RowKit Mem App Blk Words Zone Res FrZ FrP FrB FrB2

def New (w : World) (l : List Int) : Ending → World → Prop := fun e w' => ∃ g m cap, e = .returned (.slice (some ⟨g, 0, none⟩) m cap) ∧ m = l.length ∧ w.heap.size ≤ g ∧ Row w' g cap l ∧ Below w.heap.size w w'
theorem rowRd {w : World} {g m cap : Nat} {l : List Int} (r : Row w g cap l) (em : m = l.length) (hb : Bytes l) : SRd w ⟨some ⟨g, 0, none⟩, m, cap⟩ l :=
 ⟨em, r.rd, (fun e => by cases e), by rw [em]; exact r.1, hb⟩
theorem putN_bytes (n k : Int) : Bytes (putN n k) := by
 unfold putN; split
 ·
  exact num_bytes _ _
 ·
  intro z hz; cases hz
theorem putB (s t : Sl) (x y : List Int) (w : World) (hx : SRd w s x) (hy : SRd w t y) (lx : x.length ≤ 100000) (ly : y.length ≤ 100000) :
  Calls Tryz.prog 75 #[.slice s.a s.n s.c, .slice t.a t.n t.c] w (New w (x ++ y)) := by
 refine (putBytes s.a t.a s.n s.c t.n t.c x y w hx.len hy.len hx.rd hy.rd hx.nil hy.nil (by omega) (by omega)).mono ?_
 rintro e w' ⟨rfl, r, b⟩
 exact ⟨_, _, _, rfl, by rw [List.length_append, hx.len, hy.len], Nat.le_refl _, r, b⟩
theorem putK (s : Sl) (x : List Int) (n k : Int) (w : World) (hx : SRd w s x) (lx : x.length ≤ 100000) :
  Calls Tryz.prog 43 #[.slice s.a s.n s.c, .int .i64 n, .int .i64 k] w (New w (x ++ putN n k)) :=
 implPutN s.a s.n s.c x n k w hx.len hx.rd hx.nil (by omega)

set_option maxHeartbeats 8000000 in
theorem putCookie (s : Sl) (l : List Int) (S : FrS) (D : FrD) (w : World) (hl : SRd w s l) (ll : l.length ≤ 1000) (h : FrRd w S D) (hs : FrShort D 100) :
  Calls Tryz.prog 42 #[.slice s.a s.n s.c, frV D S] w (New w (l ++ D.cn ++ D.sn ++ putN D.tick 4 ++ D.cookie)) := by
 have HF := hid (h)
 have HS := hid (hs)
 have HL := hid (hl)
 have LL : Hid (l.length ≤ 1000) := ll
 obtain ⟨x0, hx0⟩ : ∃ x0, w.alloc (.cells #[.int .i64 D.kind, .int .i64 D.id, .slice S.cn.a S.cn.n S.cn.c, .slice S.sn.a S.sn.n S.sn.c, .int .i64 D.tick, .slice S.cookie.a S.cookie.n S.cookie.c, .slice S.proof.a S.proof.n S.proof.c, .int .i64 D.epoch, .int .i64 D.seq, .slice S.body.a S.body.n S.body.c, .slice S.tag.a S.tag.n S.tag.c] 35) = x0 := ⟨_, rfl⟩
 have HW0 := hid (hx0)
 have B0 : Hid (Below w.heap.size w x0) := by rw [← hx0]; exact (Below.refl _ _).alloc (Nat.le_refl _) _
 have K0 : Hid (Blk x0 w.heap.size 35 [.int .i64 D.kind, .int .i64 D.id, .slice S.cn.a S.cn.n S.cn.c, .slice S.sn.a S.sn.n S.sn.c, .int .i64 D.tick, .slice S.cookie.a S.cookie.n S.cookie.c, .slice S.proof.a S.proof.n S.proof.c, .int .i64 D.epoch, .int .i64 D.seq, .slice S.body.a S.body.n S.body.c, .slice S.tag.a S.tag.n S.tag.c]) := by rw [← hx0]; exact Blk.new w _ _
 have BL0 := hid (hl.bytes)
 clear hx0 hl h hs ll
 unfold frV
 go_enter Tryz.func42, Tryz.ntmps42
 go_upto_region 1 with fail
 rw [HW0.out]
 generalize hga : w.heap.size = ga at K0 ⊢
 have c0_2 := K0.out.cell 2 rfl
 have c0_3 := K0.out.cell 3 rfl
 go_region_held3 (fun w' => w'.cell? ⟨ga, 2, none⟩ = some (.slice S.cn.a S.cn.n S.cn.c) ∧ w'.cell? ⟨ga, 3, none⟩ = some (.slice S.sn.a S.sn.n S.sn.c)) (first | exact ⟨p2_2, p2_3⟩ | exact ⟨p1_2, p1_3⟩ | exact ⟨c0_2, c0_3⟩ | go_keep)
  (first
   | (go_at_call 75; refine (putB ⟨some ⟨g1, 0, none⟩, m1, c1⟩ S.sn (l ++ D.cn) D.sn x1 (rowRd (w := x1) R1.out EM1.out BL1.out) (HF.out.later B1.out).sn (by have := LN1.out; omega) (by have := HS.out.sn; omega)).mono ?_; rintro e x2 ⟨g2, m2, c2, rfl, em2, k2, r2, b2⟩; have R2 := hid (r2); have EM2 : Hid (m2 = (l ++ D.cn ++ D.sn).length) := em2; have GE2 : Hid (w.heap.size ≤ g2) := Nat.le_trans (B1.out).size k2; have B2 : Hid (Below w.heap.size w x2) := (B1.out).trans (b2.mono (B1.out).size); have K2 : Hid (Blk x2 ga 35 [.int .i64 D.kind, .int .i64 D.id, .slice S.cn.a S.cn.n S.cn.c, .slice S.sn.a S.sn.n S.sn.c, .int .i64 D.tick, .slice S.cookie.a S.cookie.n S.cookie.c, .slice S.proof.a S.proof.n S.proof.c, .int .i64 D.epoch, .int .i64 D.seq, .slice S.body.a S.body.n S.body.c, .slice S.tag.a S.tag.n S.tag.c]) := Blk.later (w := x1) K1.out b2; have BL2 : Hid (Bytes (l ++ D.cn ++ D.sn)) := FrB2.app BL1.out HF.out.sn.bytes; have LN2 : Hid ((l ++ D.cn ++ D.sn).length ≤ 1220) := (by show _ ≤ _; have h1 := LN1.out; have h2 := HS.out.sn; rw [List.length_append]; omega); have p2_2 := K2.out.cell 2 rfl; have p2_3 := K2.out.cell 3 rfl; clear em2 k2 r2 b2)
   | (go_at_call 75; refine (putB s S.cn (l) D.cn x0.drew (HL.out.later B0.out.drew) (HF.out.later B0.out.drew).cn (by have := LL.out; omega) (by have := HS.out.cn; omega)).mono ?_; rintro e x1 ⟨g1, m1, c1, rfl, em1, k1, r1, b1⟩; have R1 := hid (r1); have EM1 : Hid (m1 = (l ++ D.cn).length) := em1; have GE1 : Hid (w.heap.size ≤ g1) := Nat.le_trans (B0.out.drew).size k1; have B1 := hid ((B0.out.drew).trans (b1.mono (B0.out.drew).size)); have K1 : Hid (Blk x1 ga 35 [.int .i64 D.kind, .int .i64 D.id, .slice S.cn.a S.cn.n S.cn.c, .slice S.sn.a S.sn.n S.sn.c, .int .i64 D.tick, .slice S.cookie.a S.cookie.n S.cookie.c, .slice S.proof.a S.proof.n S.proof.c, .int .i64 D.epoch, .int .i64 D.seq, .slice S.body.a S.body.n S.body.c, .slice S.tag.a S.tag.n S.tag.c]) := Blk.later (w := x0.drew) K0.out b1; have BL1 : Hid (Bytes (l ++ D.cn)) := FrB2.app BL0.out HF.out.cn.bytes; have LN1 : Hid ((l ++ D.cn).length ≤ 1110) := (by show _ ≤ _; have h1 := LL.out; have h2 := HS.out.cn; rw [List.length_append]; omega); have p1_2 := K1.out.cell 2 rfl; have p1_3 := K1.out.cell 3 rfl; clear em1 k1 r1 b1))
 clear c0_2 c0_3 p1_2 p1_3 p2_2 p2_3
 go_upto_region 2 with fail
 have c2_4 := K2.out.cell 4 rfl
 have c2_5 := K2.out.cell 5 rfl
 go_region_held3 (fun w' => w'.cell? ⟨ga, 4, none⟩ = some (.int .i64 D.tick) ∧ w'.cell? ⟨ga, 5, none⟩ = some (.slice S.cookie.a S.cookie.n S.cookie.c)) (first | exact ⟨p4_4, p4_5⟩ | exact ⟨p3_4, p3_5⟩ | exact ⟨c2_4, c2_5⟩ | go_keep)
  (first
   | (go_at_call 75; refine (putB ⟨some ⟨g3, 0, none⟩, m3, c3⟩ S.cookie (l ++ D.cn ++ D.sn ++ putN D.tick 4) D.cookie x3 (rowRd (w := x3) R3.out EM3.out BL3.out) (HF.out.later B3.out).cookie (by have := LN3.out; omega) (by have := HS.out.cookie; omega)).mono ?_; rintro e x4 ⟨g4, m4, c4, rfl, em4, k4, r4, b4⟩; have R4 := hid (r4); have EM4 : Hid (m4 = (l ++ D.cn ++ D.sn ++ putN D.tick 4 ++ D.cookie).length) := em4; have GE4 : Hid (w.heap.size ≤ g4) := Nat.le_trans (B3.out).size k4; have B4 : Hid (Below w.heap.size w x4) := (B3.out).trans (b4.mono (B3.out).size); have K4 : Hid (Blk x4 ga 35 [.int .i64 D.kind, .int .i64 D.id, .slice S.cn.a S.cn.n S.cn.c, .slice S.sn.a S.sn.n S.sn.c, .int .i64 D.tick, .slice S.cookie.a S.cookie.n S.cookie.c, .slice S.proof.a S.proof.n S.proof.c, .int .i64 D.epoch, .int .i64 D.seq, .slice S.body.a S.body.n S.body.c, .slice S.tag.a S.tag.n S.tag.c]) := Blk.later (w := x3) K3.out b4; have BL4 : Hid (Bytes (l ++ D.cn ++ D.sn ++ putN D.tick 4 ++ D.cookie)) := FrB2.app BL3.out HF.out.cookie.bytes; have LN4 : Hid ((l ++ D.cn ++ D.sn ++ putN D.tick 4 ++ D.cookie).length ≤ 1440) := (by show _ ≤ _; have h1 := LN3.out; have h2 := HS.out.cookie; rw [List.length_append]; omega); have p4_4 := K4.out.cell 4 rfl; have p4_5 := K4.out.cell 5 rfl; clear em4 k4 r4 b4)
   | (go_at_call 43; refine (putK ⟨some ⟨g2, 0, none⟩, m2, c2⟩ (l ++ D.cn ++ D.sn) D.tick 4 x2.drew (rowRd (w := x2.drew) R2.out EM2.out BL2.out) (by have := LN2.out; omega)).mono ?_; rintro e x3 ⟨g3, m3, c3, rfl, em3, k3, r3, b3⟩; have R3 := hid (r3); have EM3 : Hid (m3 = (l ++ D.cn ++ D.sn ++ putN D.tick 4).length) := em3; have GE3 : Hid (w.heap.size ≤ g3) := Nat.le_trans (B2.out.drew).size k3; have B3 := hid ((B2.out.drew).trans (b3.mono (B2.out.drew).size)); have K3 : Hid (Blk x3 ga 35 [.int .i64 D.kind, .int .i64 D.id, .slice S.cn.a S.cn.n S.cn.c, .slice S.sn.a S.sn.n S.sn.c, .int .i64 D.tick, .slice S.cookie.a S.cookie.n S.cookie.c, .slice S.proof.a S.proof.n S.proof.c, .int .i64 D.epoch, .int .i64 D.seq, .slice S.body.a S.body.n S.body.c, .slice S.tag.a S.tag.n S.tag.c]) := Blk.later (w := x2.drew) K2.out b3; have BL3 : Hid (Bytes (l ++ D.cn ++ D.sn ++ putN D.tick 4)) := FrB2.app BL2.out (putN_bytes _ _); have LN3 : Hid ((l ++ D.cn ++ D.sn ++ putN D.tick 4).length ≤ 1330) := (by show _ ≤ _; have h1 := LN2.out; have h2 := putN_length D.tick 4; rw [List.length_append]; omega); have p3_4 := K3.out.cell 4 rfl; have p3_5 := K3.out.cell 5 rfl; clear em3 k3 r3 b3))
 clear c2_4 c2_5 p3_4 p3_5 p4_4 p4_5
 go_wp2
 go_ret
 exact ⟨g4, m4, c4, by simp, EM4.out, hga ▸ GE4.out, R4.out, hga ▸ B4.out⟩

end Go.Proofs.YtpgapjdejelajaaGreatDoor.FrQ
