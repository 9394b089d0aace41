/-
  Further draws: a number out of a list, an odd number, bytes, and a new cursor. No value of a draw is told but its bounds.
  What spec's Sealed, l7Body and FrameOk answer.
  'append' of bytes to a row of the call's own: what it holds then, and where it lies: where it lay, or behind all that was there.
  'append' of bytes to a row of the call's own, as one step of a region that draws its order; and where it lies then.
  What spec's PutFrame answers.
  A frame's bytes are bytes, and few.
  Numbers and their bytes as plain facts.
  Right frames with the same bytes are the same; what it is to be read out of bytes.
  Frames read back out of their bytes, kind by kind: what stands at each place of a right frame's bytes.
-/
import Derived.Test.YtmcflfpckpjphaaHs3
import Derived.Deep.CutBlock
import Derived.Test.YtmcflfpckpjphaaHs1
import Derived.Maps.AppendAt
import Derived.Deep.RegionHeld3
import Derived.Laws.AppendOwnNone
set_option linter.unusedVariables false
namespace Go.Proofs.Ytmcflfpckpjphaa.Draw
open Go.RowKit Go.Proofs.Ytmcflfpckpjphaa.Mem Go.Proofs.Ytmcflfpckpjphaa.App

/-- A block of ints. -/
def IntsAt (w : World) (q : Nat) (L : List Int) : Prop := ∀ j, j < L.length → w.cell? ⟨q, j, none⟩ = some (.int .i64 (L.getD j 0))
set_option maxRecDepth 100000 in
theorem ints_new (w : World) (L : List Int) : IntsAt (w.alloc (.cells (L.map (Value.int .i64)).toArray 3)) w.heap.size L := by
  intro j hj
  rw [cell_of_row _ w.heap.size j _ _ (0, 0) (heap_alloc_new w _)]
  simp [List.getD, hj]
set_option maxRecDepth 100000 in
theorem IntsAt.but {w w' : World} {p q : Nat} {L : List Int} (h : IntsAt w q L) (b : But p w w') (hq : q ≠ p) : IntsAt w' q L := by
  intro j hj
  have := h j hj
  rw [World.cell?_of_block (w := w) (b.block q (World.block_lt_of_cell? w _ this) (by simp only [ne_eq, Option.some.injEq]; exact hq))]
  exact this

set_option maxRecDepth 100000 in
set_option maxHeartbeats 800000 in
theorem intOfList {W0 : World} {a : Option Addr} {len cap : Nat} {l : List Int} {p : Nat} {w : World} (h : Ready W0 a len cap l p w) (q n : Nat) (L : List Int) (hn : n = L.length) (hL : IntsAt w q L) (hq : q ≠ p) (h0 : 0 < n) (h1 : n ≤ 256) :
    Calls Try.prog 59 #[.pointer (some ⟨p, 0, none⟩), .slice (some ⟨q, 0, none⟩) n n] w fun e w' => ∃ x : Int, e = .returned (.int .i64 x) ∧ x ∈ L ∧ Ready W0 a len cap l p w' ∧ But p w w' := by
  have HR : Hid (Ready W0 a len cap l p w) := h
  have HL : Hid (IntsAt w q L) := hL
  have HN : Hid (n = L.length) := hn
  clear h hL hn
  go_enter Try.func59, Try.ntmps59
  go_wp2_with fail
  refine (below HR.out n (by omega) (by omega)).mono ?_
  rintro e w1 ⟨x, rfl, x0, x1, r1, b1⟩
  have R1 : Hid (Ready W0 a len cap l p w1) := r1
  have B1 : Hid (But p w w1) := b1
  obtain ⟨X, rfl⟩ := Int.eq_ofNat_of_zero_le x0
  have hX : X < L.length := by have := HN.out; omega
  have hc := (HL.out.but b1 hq) X hX
  have HM : Hid (L.getD X 0 ∈ L) := by
    show _ ∈ _
    simp [List.getD, hX]
  clear r1 b1 hX
  generalize L.getD X 0 = z at *
  go_wp2
  go_ret
  exact ⟨z, rfl, HM.out, R1.out, B1.out⟩

set_option maxRecDepth 100000 in
theorem odd {W0 : World} {a : Option Addr} {len cap : Nat} {l : List Int} {p : Nat} {w : World} (h : Ready W0 a len cap l p w) :
    Calls Try.prog 86 #[.pointer (some ⟨p, 0, none⟩)] w fun e w' => ∃ x : Int, e = .returned (.int .i64 x) ∧ -9223372036854775808 ≤ x ∧ x ≤ 9223372036854775807 ∧ Ready W0 a len cap l p w' ∧ But p w w' := by
  have HR : Hid (Ready W0 a len cap l p w) := h
  have hlt := h.hc.lt
  clear h
  go_enter Try.func86, Try.ntmps86
  go_wp2_with fail
  refine (intOfList (HR.out.alloc _) w.heap.size 14 [-1, 0, 1, 2, 255, 256, 65535, 2147483647, 2147483648, 4294967295, 4294967296, -2147483648, 9223372036854775807, -9223372036854775808] rfl (ints_new w _) (by omega) (by omega) (by omega)).mono ?_
  rintro e w1 ⟨x, rfl, hx, r1, b1⟩
  have hb : -9223372036854775808 ≤ x ∧ x ≤ 9223372036854775807 := by
    simp only [List.mem_cons, List.not_mem_nil, or_false] at hx
    omega
  have HB : Hid (-9223372036854775808 ≤ x ∧ x ≤ 9223372036854775807) := hb
  have R1 : Hid (Ready W0 a len cap l p w1) := r1
  have B1 : Hid (But p w w1) := ((But.refl p w).alloc _).trans b1
  clear r1 b1 hx hb
  go_wp2
  go_ret
  exact ⟨x, rfl, HB.out.1, HB.out.2, R1.out, B1.out⟩

set_option maxRecDepth 100000 in
theorem but_grown {p g : Nat} {a b c : World} (h : But p a b) (k : b.grownBy c (some g)) (hg : a.heap.size ≤ g) : But p a c :=
  ⟨k.os.trans h.os, k.tape.trans h.tape, k.output.trans h.output, Nat.le_trans h.size k.size, fun i hi hne => (k.block i (Nat.lt_of_lt_of_le hi h.size) (by simp only [ne_eq, Option.some.injEq]; omega)).trans (h.block i hi hne)⟩

set_option maxRecDepth 100000 in
set_option maxHeartbeats 1600000 in
theorem bytesOf {W0 : World} {a : Option Addr} {len cap : Nat} {l : List Int} {p : Nat} {w : World} (h : Ready W0 a len cap l p w) (N : Nat) (hN : N ≤ 1000) :
    Calls Try.prog 60 #[.pointer (some ⟨p, 0, none⟩), .int .i64 N] w fun e w' => ∃ (g c : Nat) (r : List Int), e = .returned (.slice (some ⟨g, 0, none⟩) N c) ∧ N = r.length ∧ Bytes r ∧ w.heap.size ≤ g ∧ Row w' g c r ∧ Ready W0 a len cap l p w' ∧ But p w w' := by
  have HR : Hid (Ready W0 a len cap l p w) := h
  have hlt := h.hc.lt
  clear h
  go_enter Try.func60, Try.ntmps60
  go_wp2
  go_loopw [5, 6] (fun v i wr => ∃ (k g c : Nat) (r : List Int), k ≤ N ∧ i = .int .i64 k ∧ v = .slice (some ⟨g, 0, none⟩) k c ∧ k = r.length ∧ Bytes r ∧ w.heap.size ≤ g ∧ Row wr g c r ∧ Ready W0 a len cap l p wr ∧ But p w wr)
    (fun _ i _ => N - (intOf i).toNat)
  case atStart => exact ⟨0, w.heap.size, 0, [], Nat.zero_le _, rfl, rfl, rfl, (fun z hz => by cases hz), Nat.le_refl _, row_new w [] (by simp), HR.out.alloc _, (But.refl p w).alloc _⟩
  case round =>
    obtain ⟨k, g, c, r, hk, rfl, rfl, hkr, hby, hg, hrow, hrd, hbu⟩ := hrel
    have HRow : Hid (Row wr g c r) := hrow
    have HRd : Hid (Ready W0 a len cap l p wr) := hrd
    have HBu : Hid (But p w wr) := hbu
    have HKR : Hid (k = r.length) := hkr
    have HBy : Hid (Bytes r) := hby
    clear hrow hrd hbu hkr hby HR
    by_cases hkN : k < N
    · go_wp2_with fail
      refine (byteOf HRd.out).mono ?_
      rintro e w1 ⟨x, rfl, x0, x1, r1, b1⟩
      have R1 : Hid (Ready W0 a len cap l p w1) := r1
      have RW : Hid (Row w1 g c r) := Row.but HRow.out b1 (by omega)
      have B1 : Hid (But p w w1) := HBu.out.trans b1
      clear r1 b1 HRow HRd HBu
      go_wp2_with (at_builtin; refine wpList_app _ rfl (.tmp 13) (.tmp 17) rfl w.heap.size g k c r [x] rfl HKR.out (row_alloc RW.out _) hg (some ⟨w1.heap.size, 0, none⟩) 1 1 rfl rfl (rd_one _ _) (by intro h; cases h) (by rw [← HKR.out]; simp; omega) ?_; intro g2 c2 w2 r2 b2 l2 gr2)
      have R2 : Hid (Row w2 g2 c2 (r ++ [x])) := r2
      have C2 : Hid (Cur w2 p a len cap) := (R1.out.hc.alloc (.cells #[.int .u8 x] 5)).keep (gr2.block p (by have := R1.out.hc.lt; simp; omega) (by simp only [ne_eq, Option.some.injEq]; omega))
      have B2 : Hid (But p w w2) := but_grown (B1.out.alloc _) gr2 hg
      have Q2 : Hid (Ready W0 a len cap l p w2) := ⟨R1.out.hl, R1.out.hr, R1.out.hb, R1.out.hlen, Below.grown (R1.out.hB.alloc R1.out.hB.size _) gr2 (Nat.le_trans R1.out.hB.size (by simp)) (fun k h => by cases h; have := R1.out.hp; omega), R1.out.hp, C2.out⟩
      clear r2 gr2 l2
      go_roundw
      case rel => exact ⟨k + 1, g2, c2, r ++ [x], by omega, by go_num, rfl, by have := HKR.out; simp; omega, (fun z hz => by rcases List.mem_append.1 hz with h | h; exact HBy.out z h; simp at h; omega), b2, R2.out, Q2.out, B2.out⟩
      case measure => simp [intOf]; omega
    · obtain rfl : k = N := by omega
      go_wp2
      go_ret
      exact ⟨g, c, r, rfl, HKR.out, HBy.out, hg, HRow.out, HRd.out, HBu.out⟩

set_option maxRecDepth 100000 in
set_option maxHeartbeats 1600000 in
theorem newCur (a : Option Addr) (len cap : Nat) (l : List Int) (w : World) (hl : len = l.length) (hr : Rd w a l) (hb : Bytes l) (hlen : len ≤ 1048576) :
    Calls Try.prog 45 #[.slice a len cap] w fun e w' => ∃ p, e = .returned (.pointer (some ⟨p, 0, none⟩)) ∧ Ready w a len cap l p w' := by
  have HR : Hid (Rd w a l) := hr
  have HB : Hid (Bytes l) := hb
  have HL : Hid (len = l.length) := hl
  have hm := Bits.mask30
  clear hr hb hl
  go_enter Try.func45, Try.ntmps45
  go_wp2
  go_loop [3, 4] (fun v i => ∃ (k : Nat) (h : Int), k ≤ len ∧ k ≤ 4000 ∧ i = .int .i64 k ∧ v = .int .i64 h) (fun _ i => len - (intOf i).toNat)
  case atStart => exact ⟨0, _, Nat.zero_le _, Nat.zero_le _, rfl, rfl⟩
  case round =>
    obtain ⟨k, h, hk, hk4, rfl, rfl⟩ := hrel
    by_cases hlt : k < len
    · by_cases h4 : k < 4000
      · obtain ⟨b, off, rfl, hbl, hc⟩ := HR.out k (by have := HL.out; omega)
        generalize l.getD k 0 = z at *
        have hkI : (k : Int) < (len : Int) := by omega
        have h4I : (k : Int) < 4000 := by omega
        go_wp2
        go_round
        case rel => exact ⟨k + 1, _, by omega, by omega, by go_num, rfl⟩
        case measure => simp [intOf]; omega
      · have hkI : (k : Int) < (len : Int) := by omega
        have h4I : ¬ ((k : Int) < 4000) := by omega
        go_wp2
        go_ret
        exact ⟨w.heap.size, rfl, HL.out, HR.out, HB.out, hlen, (Below.refl _ _).alloc (Nat.le_refl _) _, Nat.le_refl _, ⟨0, h, by omega, by omega, heap_alloc_new w _⟩⟩
    · have hkI : ¬ ((k : Int) < (len : Int)) := by omega
      go_wp2
      go_ret
      exact ⟨w.heap.size, rfl, HL.out, HR.out, HB.out, hlen, (Below.refl _ _).alloc (Nat.le_refl _) _, Nat.le_refl _, ⟨0, h, by omega, by omega, heap_alloc_new w _⟩⟩
end Go.Proofs.Ytmcflfpckpjphaa.Draw

namespace Go.Proofs.Ytmcflfpckpjphaa.FrS
open Go.RowKit Go.Proofs.Ytmcflfpckpjphaa.Mem Go.Proofs.Ytmcflfpckpjphaa.App Go.Proofs.Ytmcflfpckpjphaa.Blk Go.Proofs.Ytmcflfpckpjphaa.Words Go.Proofs.Ytmcflfpckpjphaa.Zone Go.Proofs.Ytmcflfpckpjphaa.FrZ Go.Proofs.Ytmcflfpckpjphaa.FrP

set_option maxRecDepth 100000 in
theorem specSealed (k : Int) (w : World) :
    Calls Try.prog 68 #[.int .i64 k] w fun e w' => e = .returned (.bool (isIn k 4 8)) ∧ w = w' := by
  go_enter Try.func68, Try.ntmps68
  go_wp2_with fail
  refine (l1In k 4 8 w).mono ?_
  rintro e w1 ⟨rfl, rfl⟩
  go_wp2
  go_ret
  exact ⟨by simp, rfl⟩

set_option maxRecDepth 100000 in
theorem l7Body (k n : Int) (w : World) :
    Calls Try.prog 94 #[.int .i64 k, .int .i64 n] w fun e w' => e = .returned (.bool (bodyOk k n)) ∧ w = w' := by
  obtain ⟨v, hv⟩ : ∃ v, bodyOk k n = v := ⟨_, rfl⟩
  have HV : Hid (bodyOk k n = v) := hv
  rw [hv]
  clear hv
  cases h4 : (k == 4) with
  | true =>
    by_cases hn : n ≤ 40
    · obtain rfl : v = true := by rw [← HV.out]; unfold bodyOk; rw [h4]; simpa using hn
      go_enter Try.func94, Try.ntmps94
      go_wp2
      go_ret
      exact ⟨rfl, rfl⟩
    · obtain rfl : v = false := by rw [← HV.out]; unfold bodyOk; rw [h4]; simp; omega
      go_enter Try.func94, Try.ntmps94
      go_wp2
      go_ret
      exact ⟨rfl, rfl⟩
  | false =>
    cases h5 : (k == 5) with
    | true =>
      obtain rfl : v = (n == 12) := by rw [← HV.out]; unfold bodyOk; rw [h4, h5]; simp
      go_enter Try.func94, Try.ntmps94
      go_wp2
      go_ret
      exact ⟨by simp, rfl⟩
    | false =>
      cases h6 : (k == 6) with
      | true =>
        obtain rfl : v = (n == 12) := by rw [← HV.out]; unfold bodyOk; rw [h4, h5, h6]; simp
        go_enter Try.func94, Try.ntmps94
        go_wp2
        go_ret
        exact ⟨by simp, rfl⟩
      | false =>
        obtain rfl : v = (n == 4) := by rw [← HV.out]; unfold bodyOk; rw [h4, h5, h6]; simp
        go_enter Try.func94, Try.ntmps94
        go_wp2
        go_ret
        exact ⟨by simp, rfl⟩


set_option maxRecDepth 100000 in
set_option maxHeartbeats 8000000 in
theorem specFrameOk (S : FrS) (D : FrD) (w : World) (h : FrRd w S D) :
    Calls Try.prog 74 #[frV D S] w fun e w' => e = .returned (.bool (frameOk D)) ∧ Below w.heap.size w w' := by
  obtain ⟨v, hv⟩ : ∃ v, frameOk D = v := ⟨_, rfl⟩
  have HV : Hid (okS D.kind D.id S.cn.n S.sn.n D.tick S.cookie.n S.proof.n D.epoch D.seq S.body.n S.tag.n = v) := by
    show _ = _
    rw [← hv, h.cn.len, h.sn.len, h.cookie.len, h.proof.len, h.body.len, h.tag.len]; rfl
  rw [hv]
  obtain ⟨x0, hx0⟩ : ∃ x0, w.alloc (.cells #[.int .i64 D.kind, .int .i64 D.id, .slice S.cn.a S.cn.n S.cn.c, .slice S.sn.a S.sn.n S.sn.c, .int .i64 D.tick, .slice S.cookie.a S.cookie.n S.cookie.c, .slice S.proof.a S.proof.n S.proof.c, .int .i64 D.epoch, .int .i64 D.seq, .slice S.body.a S.body.n S.body.c, .slice S.tag.a S.tag.n S.tag.c] 39) = x0 := ⟨_, rfl⟩
  have HW0 : Hid (w.alloc (.cells #[.int .i64 D.kind, .int .i64 D.id, .slice S.cn.a S.cn.n S.cn.c, .slice S.sn.a S.sn.n S.sn.c, .int .i64 D.tick, .slice S.cookie.a S.cookie.n S.cookie.c, .slice S.proof.a S.proof.n S.proof.c, .int .i64 D.epoch, .int .i64 D.seq, .slice S.body.a S.body.n S.body.c, .slice S.tag.a S.tag.n S.tag.c] 39) = x0) := hx0
  have B0 : Hid (Below w.heap.size w x0) := by rw [← hx0]; exact (Below.refl _ _).alloc (Nat.le_refl _) _
  have KA0 : Hid (Blk x0 w.heap.size 39 [.int .i64 D.kind, .int .i64 D.id, .slice S.cn.a S.cn.n S.cn.c, .slice S.sn.a S.sn.n S.sn.c, .int .i64 D.tick, .slice S.cookie.a S.cookie.n S.cookie.c, .slice S.proof.a S.proof.n S.proof.c, .int .i64 D.epoch, .int .i64 D.seq, .slice S.body.a S.body.n S.body.c, .slice S.tag.a S.tag.n S.tag.c]) := by rw [← hx0]; exact Blk.new w _ _
  clear hv hx0 h
  unfold frV
  go_enter Try.func74, Try.ntmps74
  go_upto_region 1 with fail
  rw [HW0.out]
  generalize w.heap.size = ga at KA0 ⊢
  have c0 := KA0.out.cell 0 rfl
  have c1 := KA0.out.cell 1 rfl
  have c2 := KA0.out.cell 2 rfl
  have c3 := KA0.out.cell 3 rfl
  have c4 := KA0.out.cell 4 rfl
  have c5 := KA0.out.cell 5 rfl
  have c6 := KA0.out.cell 6 rfl
  have c7 := KA0.out.cell 7 rfl
  have c8 := KA0.out.cell 8 rfl
  have c9 := KA0.out.cell 9 rfl
  have c10 := KA0.out.cell 10 rfl
  clear HW0 KA0
  go_wp2_with fail
  refine (specSealed D.kind x0).mono ?_
  rintro e x1 ⟨rfl, rfl⟩
  cases hs : isIn D.kind 4 8 with
  | true =>
    cases hid : (D.id == 0) with
    | false =>
      obtain rfl : v = false := by rw [← HV.out]; unfold okS; simp [hs, hid]
      go_wp2
      go_ret
      exact ⟨rfl, B0.out⟩
    | true =>
      cases hcn : ((S.cn.n : Int) == 0) with
      | false =>
        obtain rfl : v = false := by rw [← HV.out]; unfold okS; simp [hs, hid, hcn]
        go_wp2
        go_ret
        exact ⟨rfl, B0.out⟩
      | true =>
        cases hsn : ((S.sn.n : Int) == 12) with
        | false =>
          obtain rfl : v = false := by rw [← HV.out]; unfold okS; simp [hs, hid, hcn, hsn]
          go_wp2
          go_ret
          exact ⟨rfl, B0.out⟩
        | true =>
          cases htick : (D.tick == 0) with
          | false =>
            obtain rfl : v = false := by rw [← HV.out]; unfold okS; simp [hs, hid, hcn, hsn, htick]
            go_wp2
            go_ret
            exact ⟨rfl, B0.out⟩
          | true =>
            cases hcookie : ((S.cookie.n : Int) == 0) with
            | false =>
              obtain rfl : v = false := by rw [← HV.out]; unfold okS; simp [hs, hid, hcn, hsn, htick, hcookie]
              go_wp2
              go_ret
              exact ⟨rfl, B0.out⟩
            | true =>
              cases hproof : ((S.proof.n : Int) == 0) with
              | false =>
                obtain rfl : v = false := by rw [← HV.out]; unfold okS; simp [hs, hid, hcn, hsn, htick, hcookie, hproof]
                go_wp2
                go_ret
                exact ⟨rfl, B0.out⟩
              | true =>
                go_wp2_with fail
                refine (l1In D.epoch 0 4294967295 x0).mono ?_
                rintro e x1 ⟨rfl, rfl⟩
                cases hepoch : (isIn D.epoch 0 4294967295) with
                | false =>
                  obtain rfl : v = false := by rw [← HV.out]; unfold okS; simp [hs, hid, hcn, hsn, htick, hcookie, hproof, hepoch]
                  go_wp2
                  go_ret
                  exact ⟨rfl, B0.out⟩
                | true =>
                  go_wp2_with fail
                  refine (l1In D.seq 0 281474976710655 x0).mono ?_
                  rintro e x1 ⟨rfl, rfl⟩
                  cases hseq : (isIn D.seq 0 281474976710655) with
                  | false =>
                    obtain rfl : v = false := by rw [← HV.out]; unfold okS; simp [hs, hid, hcn, hsn, htick, hcookie, hproof, hepoch, hseq]
                    go_wp2
                    go_ret
                    exact ⟨rfl, B0.out⟩
                  | true =>
                    go_wp2_with fail
                    refine (l7Body D.kind (S.body.n : Int) x0).mono ?_
                    rintro e x1 ⟨rfl, rfl⟩
                    cases hbody : (bodyOk D.kind (S.body.n : Int)) with
                    | false =>
                      obtain rfl : v = false := by rw [← HV.out]; unfold okS; simp [hs, hid, hcn, hsn, htick, hcookie, hproof, hepoch, hseq, hbody]
                      go_wp2
                      go_ret
                      exact ⟨rfl, B0.out⟩
                    | true =>
                      cases htag : ((S.tag.n : Int) == 16) with
                      | false =>
                        obtain rfl : v = false := by rw [← HV.out]; unfold okS; simp [hs, hid, hcn, hsn, htick, hcookie, hproof, hepoch, hseq, hbody, htag]
                        go_wp2
                        go_ret
                        exact ⟨rfl, B0.out⟩
                      | true =>
                        obtain rfl : v = true := by rw [← HV.out]; unfold okS; simp [hs, hid, hcn, hsn, htick, hcookie, hproof, hepoch, hseq, hbody, htag]
                        go_wp2
                        go_ret
                        exact ⟨rfl, B0.out⟩
  | false =>
    cases hepoch : (D.epoch == 0) with
    | false =>
      have nhepoch : (D.epoch != 0) = true := by simp only [bne, hepoch]; rfl
      obtain rfl : v = false := by rw [← HV.out]; unfold okS; simp [hs, hepoch]
      go_wp2
      go_ret
      exact ⟨rfl, B0.out⟩
    | true =>
      have nhepoch : (D.epoch != 0) = false := by simp only [bne, hepoch]; rfl
      cases hseq : (D.seq == 0) with
      | false =>
        have nhseq : (D.seq != 0) = true := by simp only [bne, hseq]; rfl
        obtain rfl : v = false := by rw [← HV.out]; unfold okS; simp [hs, hepoch, hseq]
        go_wp2
        go_ret
        exact ⟨rfl, B0.out⟩
      | true =>
        have nhseq : (D.seq != 0) = false := by simp only [bne, hseq]; rfl
        cases hbody : ((S.body.n : Int) == 0) with
        | false =>
          have nhbody : ((S.body.n : Int) != 0) = true := by simp only [bne, hbody]; rfl
          obtain rfl : v = false := by rw [← HV.out]; unfold okS; simp [hs, hepoch, hseq, hbody]
          go_wp2
          go_ret
          exact ⟨rfl, B0.out⟩
        | true =>
          have nhbody : ((S.body.n : Int) != 0) = false := by simp only [bne, hbody]; rfl
          cases htag : ((S.tag.n : Int) == 0) with
          | false =>
            have nhtag : ((S.tag.n : Int) != 0) = true := by simp only [bne, htag]; rfl
            obtain rfl : v = false := by rw [← HV.out]; unfold okS; simp [hs, hepoch, hseq, hbody, htag]
            go_wp2
            go_ret
            exact ⟨rfl, B0.out⟩
          | true =>
            have nhtag : ((S.tag.n : Int) != 0) = false := by simp only [bne, htag]; rfl
            cases hcn : ((S.cn.n : Int) == 12) with
            | false =>
              have nhcn : ((S.cn.n : Int) != 12) = true := by simp only [bne, hcn]; rfl
              obtain rfl : v = false := by rw [← HV.out]; unfold okS; simp [hs, hepoch, hseq, hbody, htag, hcn]
              go_wp2
              go_ret
              exact ⟨rfl, B0.out⟩
            | true =>
              have nhcn : ((S.cn.n : Int) != 12) = false := by simp only [bne, hcn]; rfl
              cases k1 : (D.kind == 1) with
              | true =>
                go_wp2_with fail
                refine (l1In D.id 1 9 x0).mono ?_
                rintro e x1 ⟨rfl, rfl⟩
                cases hid : (isIn D.id 1 9) with
                | false =>
                  obtain rfl : v = false := by rw [← HV.out]; unfold okS; simp [hs, hepoch, hseq, hbody, htag, hcn, k1, hid]
                  go_wp2
                  go_ret
                  exact ⟨rfl, B0.out⟩
                | true =>
                  cases hsn : ((S.sn.n : Int) == 0) with
                  | false =>
                    obtain rfl : v = false := by rw [← HV.out]; unfold okS; simp [hs, hepoch, hseq, hbody, htag, hcn, k1, hid, hsn]
                    go_wp2
                    go_ret
                    exact ⟨rfl, B0.out⟩
                  | true =>
                    cases htick : (D.tick == 0) with
                    | false =>
                      obtain rfl : v = false := by rw [← HV.out]; unfold okS; simp [hs, hepoch, hseq, hbody, htag, hcn, k1, hid, hsn, htick]
                      go_wp2
                      go_ret
                      exact ⟨rfl, B0.out⟩
                    | true =>
                      cases hcookie : ((S.cookie.n : Int) == 0) with
                      | false =>
                        obtain rfl : v = false := by rw [← HV.out]; unfold okS; simp [hs, hepoch, hseq, hbody, htag, hcn, k1, hid, hsn, htick, hcookie]
                        go_wp2
                        go_ret
                        exact ⟨rfl, B0.out⟩
                      | true =>
                        cases hproof : ((S.proof.n : Int) == 0) with
                        | false =>
                          obtain rfl : v = false := by rw [← HV.out]; unfold okS; simp [hs, hepoch, hseq, hbody, htag, hcn, k1, hid, hsn, htick, hcookie, hproof]
                          go_wp2
                          go_ret
                          exact ⟨rfl, B0.out⟩
                        | true =>
                          obtain rfl : v = true := by rw [← HV.out]; unfold okS; simp [hs, hepoch, hseq, hbody, htag, hcn, k1, hid, hsn, htick, hcookie, hproof]
                          go_wp2
                          go_ret
                          exact ⟨rfl, B0.out⟩
              | false =>
                cases k2 : (D.kind == 2) with
                | true =>
                  cases hid : (D.id == 0) with
                  | false =>
                    obtain rfl : v = false := by rw [← HV.out]; unfold okS; simp [hs, hepoch, hseq, hbody, htag, hcn, k1, k2, hid]
                    go_wp2
                    go_ret
                    exact ⟨rfl, B0.out⟩
                  | true =>
                    cases hsn : ((S.sn.n : Int) == 12) with
                    | false =>
                      obtain rfl : v = false := by rw [← HV.out]; unfold okS; simp [hs, hepoch, hseq, hbody, htag, hcn, k1, k2, hid, hsn]
                      go_wp2
                      go_ret
                      exact ⟨rfl, B0.out⟩
                    | true =>
                      go_wp2_with fail
                      refine (l1In D.tick 0 1000000 x0).mono ?_
                      rintro e x1 ⟨rfl, rfl⟩
                      cases htick : (isIn D.tick 0 1000000) with
                      | false =>
                        obtain rfl : v = false := by rw [← HV.out]; unfold okS; simp [hs, hepoch, hseq, hbody, htag, hcn, k1, k2, hid, hsn, htick]
                        go_wp2
                        go_ret
                        exact ⟨rfl, B0.out⟩
                      | true =>
                        cases hcookie : ((S.cookie.n : Int) == 16) with
                        | false =>
                          obtain rfl : v = false := by rw [← HV.out]; unfold okS; simp [hs, hepoch, hseq, hbody, htag, hcn, k1, k2, hid, hsn, htick, hcookie]
                          go_wp2
                          go_ret
                          exact ⟨rfl, B0.out⟩
                        | true =>
                          cases hproof : ((S.proof.n : Int) == 0) with
                          | false =>
                            obtain rfl : v = false := by rw [← HV.out]; unfold okS; simp [hs, hepoch, hseq, hbody, htag, hcn, k1, k2, hid, hsn, htick, hcookie, hproof]
                            go_wp2
                            go_ret
                            exact ⟨rfl, B0.out⟩
                          | true =>
                            obtain rfl : v = true := by rw [← HV.out]; unfold okS; simp [hs, hepoch, hseq, hbody, htag, hcn, k1, k2, hid, hsn, htick, hcookie, hproof]
                            go_wp2
                            go_ret
                            exact ⟨rfl, B0.out⟩
                | false =>
                  cases k3 : (D.kind == 3) with
                  | true =>
                    go_wp2_with fail
                    refine (l1In D.id 1 9 x0).mono ?_
                    rintro e x1 ⟨rfl, rfl⟩
                    cases hid : (isIn D.id 1 9) with
                    | false =>
                      obtain rfl : v = false := by rw [← HV.out]; unfold okS; simp [hs, hepoch, hseq, hbody, htag, hcn, k1, k2, k3, hid]
                      go_wp2
                      go_ret
                      exact ⟨rfl, B0.out⟩
                    | true =>
                      cases hsn : ((S.sn.n : Int) == 12) with
                      | false =>
                        obtain rfl : v = false := by rw [← HV.out]; unfold okS; simp [hs, hepoch, hseq, hbody, htag, hcn, k1, k2, k3, hid, hsn]
                        go_wp2
                        go_ret
                        exact ⟨rfl, B0.out⟩
                      | true =>
                        go_wp2_with fail
                        refine (l1In D.tick 0 1000000 x0).mono ?_
                        rintro e x1 ⟨rfl, rfl⟩
                        cases htick : (isIn D.tick 0 1000000) with
                        | false =>
                          obtain rfl : v = false := by rw [← HV.out]; unfold okS; simp [hs, hepoch, hseq, hbody, htag, hcn, k1, k2, k3, hid, hsn, htick]
                          go_wp2
                          go_ret
                          exact ⟨rfl, B0.out⟩
                        | true =>
                          cases hcookie : ((S.cookie.n : Int) == 16) with
                          | false =>
                            obtain rfl : v = false := by rw [← HV.out]; unfold okS; simp [hs, hepoch, hseq, hbody, htag, hcn, k1, k2, k3, hid, hsn, htick, hcookie]
                            go_wp2
                            go_ret
                            exact ⟨rfl, B0.out⟩
                          | true =>
                            cases hproof : ((S.proof.n : Int) == 16) with
                            | false =>
                              obtain rfl : v = false := by rw [← HV.out]; unfold okS; simp [hs, hepoch, hseq, hbody, htag, hcn, k1, k2, k3, hid, hsn, htick, hcookie, hproof]
                              go_wp2
                              go_ret
                              exact ⟨rfl, B0.out⟩
                            | true =>
                              obtain rfl : v = true := by rw [← HV.out]; unfold okS; simp [hs, hepoch, hseq, hbody, htag, hcn, k1, k2, k3, hid, hsn, htick, hcookie, hproof]
                              go_wp2
                              go_ret
                              exact ⟨rfl, B0.out⟩
                  | false =>
                    obtain rfl : v = false := by rw [← HV.out]; unfold okS; simp [hs, hepoch, hseq, hbody, htag, hcn, k1, k2, k3]
                    go_wp2
                    go_ret
                    exact ⟨rfl, B0.out⟩
end Go.Proofs.Ytmcflfpckpjphaa.FrS

namespace Go.Proofs.Ytmcflfpckpjphaa.AppAt
open Go.RowKit Go.Proofs.Ytmcflfpckpjphaa.Mem Go.Proofs.Ytmcflfpckpjphaa.App

set_option maxRecDepth 100000 in
theorem wpList_app_at (w : World) {ops : Array Oper} {rest : List Oper} {o : Oper} {a : Act} {Q : Exit → Act → World → Prop} (hgd : o.guard = none) (s x : Operand)
    (ho : o.op = .call { callee := .builtin .append, args := #[s, x], argTypes := #[22, 22] })
    (base g n cap : Nat) (l y : List Int) (hs : a.eval s = .slice (some ⟨g, 0, none⟩) n cap) (hn : n = l.length) (hrow : Row w g cap l) (hbg : base ≤ g)
    (ao : Option Addr) (m c : Nat) (hx : a.eval x = .slice ao m c) (hm : m = y.length) (hrd : Rd w ao y) (hnone : ao = none → c = 0) (hsum : l.length + y.length ≤ 100000000)
    (h : ∀ g' cap' w', Row w' g' cap' (l ++ y) → base ≤ g' → (g' = g ∨ w.heap.size ≤ g') → w.grownBy w' (some g) → wpList Try.prog ops Q rest (a.put o.dst (.slice (some ⟨g', 0, none⟩) (n + m) cap')) w') :
    wpList Try.prog ops Q (o :: rest) a w := by
  obtain ⟨i0, hi, hz0, hz1, hz2⟩ := info_parts info8
  subst hn hm
  have hlt := hrow.lt
  cases ao with
  | none =>
    have hy : y = [] := by
      cases y with
      | nil => rfl
      | cons z r => obtain ⟨_, _, e, _⟩ := hrd 0 (by simp); cases e
    subst hy
    have hc0 := hnone rfl
    subst hc0
    refine wpList_append_own_none hgd s x 22 ho base 5 i0 1 Try.underlying22 hi _ _ _ hs (hrow.owns hbg) hx ?_
    simpa using h g cap w (by simpa using hrow) hbg (.inl rfl) (World.grownBy.refl _ _)
  | some ad =>
    refine wpList_append_own_at w hgd s x 22 ho base 5 i0 (.int .u8 0) 1 1 Try.underlying22 hi hz0 hz1 hz2 rfl (by decide) _ _ _ hs (hrow.owns hbg) ad y.length c (y.map (Value.int .u8)) hx (by simp) (Rd.cells hrd) (ints_oneCell _ _) (by unfold maxLen; omega) (by omega) (by omega) ?_
    intro v' w' hown hgr hiff hat
    rcases hown.2 with ⟨hv, _⟩ | ⟨g', cap', cur, rfl, hb, hg', _⟩
    · exact absurd (hiff.1 hv).1 (by simp)
    · rw [← List.map_append] at hown
      obtain ⟨r1, r2, _, r4⟩ := Row.of hown
      refine h g' cap' w' r1 r2 ?_ hgr
      rcases hat with e | e
      · simp only [Value.ownBlock, Option.some.injEq] at e; exact .inl e
      · simp only [Value.ownBlock, Option.some.injEq] at e; exact .inr (by omega)
end Go.Proofs.Ytmcflfpckpjphaa.AppAt

namespace Go.Proofs.Ytmcflfpckpjphaa.AppStep
open Go.RowKit Go.Proofs.Ytmcflfpckpjphaa.Mem Go.Proofs.Ytmcflfpckpjphaa.App

set_option maxRecDepth 100000 in
theorem bstep_at {ops : Array Oper} {o : Oper} {a : Act} {w : World} {K : Act → World → Prop} {Q : Exit → Act → World → Prop} {E : Prop}
    (hgd : o.guard = none) (s x : Operand) (hop : o.op = .call { callee := .builtin .append, args := #[s, x], argTypes := #[22, 22] })
    (base g n cap : Nat) (l y : List Int) (hs : a.eval s = .slice (some ⟨g, 0, none⟩) n cap) (hn : n = l.length) (hrow : Row w g cap l) (hbg : base ≤ g)
    (ad : Addr) (m c : Nat) (hx : a.eval x = .slice (some ad) m c) (hm : m = y.length) (hrd : Rd w (some ad) y) (hsum : l.length + y.length ≤ 100000000)
    (hK : ∀ g' cap' w', Row w' g' cap' (l ++ y) → base ≤ g' → (g' = g ∨ w.heap.size ≤ g') → w.grownBy w' (some g) → K (a.put o.dst (.slice (some ⟨g', 0, none⟩) (n + m) cap')) w') :
    if Region.wanted o (yielded ops a.tmps) = true then Oper.wp Try.prog o a w K Q else E := by
  have hw : Region.wanted o (yielded ops a.tmps) = true := by simp [Region.wanted, hgd]
  rw [if_pos hw]
  obtain ⟨i0, hi, hz0, hz1, hz2⟩ := info_parts info8
  subst hn hm
  have hlt := hrow.lt
  obtain ⟨v', w', hrun, hown, hgr, hiff, hat⟩ := run_append_own_at (P := Try.prog) w base 22 o.type 5 i0 (.int .u8 0) 1 1 Try.underlying22 hi hz0 hz1 hz2 rfl (by decide) _ _ _ (hrow.owns hbg) ad y.length c (y.map (Value.int .u8)) (by simp) (Rd.cells hrd) (ints_oneCell _ _) (by unfold maxLen; omega) (by omega) (by omega)
  rcases hown.2 with ⟨hv, _⟩ | ⟨g', cap', cur, rfl, hb, hg', _⟩
  · exact absurd (hiff.1 hv).1 (by simp)
  · rw [← List.map_append] at hown
    obtain ⟨r1, r2, _, r4⟩ := Row.of hown
    unfold Oper.wp
    simp [execOp, hop, resolve, invoke, builtin, hs, hx, hrun, Result.andThen]
    refine hK g' cap' w' r1 r2 ?_ hgr
    rcases hat with e | e
    · simp only [Value.ownBlock, Option.some.injEq] at e; exact .inl e
    · simp only [Value.ownBlock, Option.some.injEq] at e; exact .inr (by omega)

set_option maxRecDepth 100000 in
/-- The same where what is appended may be no slice at all. -/
theorem bstep_any {ops : Array Oper} {o : Oper} {a : Act} {w : World} {K : Act → World → Prop} {Q : Exit → Act → World → Prop} {E : Prop}
    (hgd : o.guard = none) (s x : Operand) (hop : o.op = .call { callee := .builtin .append, args := #[s, x], argTypes := #[22, 22] })
    (base g n cap : Nat) (l y : List Int) (hs : a.eval s = .slice (some ⟨g, 0, none⟩) n cap) (hn : n = l.length) (hrow : Row w g cap l) (hbg : base ≤ g)
    (ao : Option Addr) (m c : Nat) (hx : a.eval x = .slice ao m c) (hm : m = y.length) (hrd : Rd w ao y) (hnone : ao = none → c = 0) (hsum : l.length + y.length ≤ 100000000)
    (hK : ∀ g' cap' w', Row w' g' cap' (l ++ y) → base ≤ g' → (g' = g ∨ w.heap.size ≤ g') → w.grownBy w' (some g) → K (a.put o.dst (.slice (some ⟨g', 0, none⟩) (n + m) cap')) w') :
    if Region.wanted o (yielded ops a.tmps) = true then Oper.wp Try.prog o a w K Q else E := by
  cases ao with
  | some ad => exact bstep_at hgd s x hop base g n cap l y hs hn hrow hbg ad m c hx hm hrd hsum hK
  | none =>
    have hy : y = [] := by
      cases y with
      | nil => rfl
      | cons z r => obtain ⟨_, _, e, _⟩ := hrd 0 (by simp); cases e
    subst hy
    have hc0 := hnone rfl
    have hm0 : m = 0 := hm
    subst hc0 hm0 hn
    have hw : Region.wanted o (yielded ops a.tmps) = true := by simp [Region.wanted, hgd]
    rw [if_pos hw]
    obtain ⟨i0, hi, hz0, hz1, hz2⟩ := info_parts info8
    have hrun := run_append_owned_none (P := Try.prog) (w := w) base 22 o.type 5 i0 1 Try.underlying22 hi _ _ _ (hrow.owns hbg)
    have hK' : K (a.put o.dst (.slice (some ⟨g, 0, none⟩) l.length cap)) w := hK g cap w (by simpa using hrow) hbg (.inl rfl) (World.grownBy.refl _ _)
    unfold Oper.wp
    simp [execOp, hop, resolve, invoke, builtin, hs, hx, hrun, Result.andThen]
    exact hK'
end Go.Proofs.Ytmcflfpckpjphaa.AppStep

namespace Go.Proofs.Ytmcflfpckpjphaa.FrPut
open Go.RowKit Go.Proofs.Ytmcflfpckpjphaa.Mem Go.Proofs.Ytmcflfpckpjphaa.App Go.Proofs.Ytmcflfpckpjphaa.AppAt Go.Proofs.Ytmcflfpckpjphaa.AppStep Go.Proofs.Ytmcflfpckpjphaa.Blk Go.Proofs.Ytmcflfpckpjphaa.Words Go.Proofs.Ytmcflfpckpjphaa.Zone Go.Proofs.Ytmcflfpckpjphaa.FrZ Go.Proofs.Ytmcflfpckpjphaa.FrP Go.Proofs.Ytmcflfpckpjphaa.FrS Go.Proofs.Ytmcflfpckpjphaa.FrB


end Go.Proofs.Ytmcflfpckpjphaa.FrPut

namespace Go.Proofs.Ytmcflfpckpjphaa.FrB2
open Go.RowKit Go.Proofs.Ytmcflfpckpjphaa.Mem Go.Proofs.Ytmcflfpckpjphaa.App Go.Proofs.Ytmcflfpckpjphaa.Zone Go.Proofs.Ytmcflfpckpjphaa.FrZ Go.Proofs.Ytmcflfpckpjphaa.FrP Go.Proofs.Ytmcflfpckpjphaa.FrB

set_option maxRecDepth 100000 in
theorem app {a b : List Int} (ha : Bytes a) (hb : Bytes b) : Bytes (a ++ b) := by
  intro z hz
  rcases List.mem_append.1 hz with h | h
  · exact ha z h
  · exact hb z h
set_option maxRecDepth 100000 in
theorem one {x : Int} (h0 : 0 ≤ x) (h1 : x ≤ 255) : Bytes [x] := by intro z hz; simp at hz; omega
set_option maxRecDepth 100000 in
theorem rep (n : Nat) : Bytes (List.replicate n 0) := by intro z hz; have := List.eq_of_mem_replicate hz; omega
set_option maxRecDepth 100000 in
theorem putF_bytes {w : World} {S : FrS} {D : FrD} (h : FrRd w S D) : Bytes (putF D) := by
  cases hok : frameOk D with
  | false => rw [putF_no D hok]; intro z hz; cases hz
  | true =>
    have hk := ok_kind D hok
    have K : Bytes [D.kind] := one (by omega) (by omega)
    cases k1 : (D.kind == 1) with
    | true => rw [putF_1 D hok k1]; have hi := ok_id1 D hok k1; exact app (app (app K (one (by omega) (by omega))) h.cn.bytes) (rep 20)
    | false =>
      cases k2 : (D.kind == 2) with
      | true => rw [putF_2 D hok k1 k2]; exact app (app (app (app K h.cn.bytes) h.sn.bytes) (num_bytes _ _)) h.cookie.bytes
      | false =>
        cases k3 : (D.kind == 3) with
        | true => rw [putF_3 D hok k1 k2 k3]; have hi := ok_id3 D hok k3; exact app (app (app (app (app (app K (one (by omega) (by omega))) h.cn.bytes) h.sn.bytes) (num_bytes _ _)) h.cookie.bytes) h.proof.bytes
        | false => rw [putF_s D hok k1 k2 k3]; exact app (app (app (app (app K h.sn.bytes) (num_bytes _ _)) (num_bytes _ _)) h.tag.bytes) h.body.bytes
set_option maxRecDepth 100000 in
theorem putF_len {w : World} {S : FrS} {D : FrD} (_h : FrRd w S D) : (putF D).length ≤ 4194304 := by
  cases hok : frameOk D with
  | false => rw [putF_no D hok]; simp
  | true =>
    have hl := ok_lens D hok
    unfold putF
    rw [if_pos hok]
    split
    · simp only [List.length_append, List.length_singleton, List.length_replicate]; omega
    · split
      · simp only [List.length_append, List.length_singleton, num_length]; omega
      · split
        · simp only [List.length_append, List.length_singleton, num_length]; omega
        · simp only [List.length_append, List.length_singleton, num_length]; omega
end Go.Proofs.Ytmcflfpckpjphaa.FrB2

namespace Go.Proofs.Ytmcflfpckpjphaa.NumV
open Go.RowKit Go.Proofs.Ytmcflfpckpjphaa.Mem Go.Proofs.Ytmcflfpckpjphaa.App Go.Proofs.Ytmcflfpckpjphaa.Get

set_option maxRecDepth 100000 in
theorem fold_from (r : List Int) : ∀ a : Int, r.foldl (fun n z => n * 256 + z) a = a * 256 ^ r.length + val r := by
  induction r with
  | nil => intro a; simp [val]
  | cons z r ih =>
    intro a
    have hv : val (z :: r) = z * 256 ^ r.length + val r := by
      have := ih (0 * 256 + z)
      rw [show (0 : Int) * 256 + z = z by omega] at this
      show (z :: r).foldl (fun n z => n * 256 + z) 0 = _
      rw [List.foldl_cons, show (0 : Int) * 256 + z = z by omega, this]
    rw [List.foldl_cons, ih, hv, List.length_cons, Int.pow_succ, Int.add_mul, Int.mul_assoc, Int.mul_comm 256 (256 ^ r.length), Int.add_assoc]
set_option maxRecDepth 100000 in
theorem val_cons (z : Int) (r : List Int) : val (z :: r) = z * 256 ^ r.length + val r := by
  have := fold_from r (0 * 256 + z)
  rw [show (0 : Int) * 256 + z = z by omega] at this
  show (z :: r).foldl (fun n z => n * 256 + z) 0 = _
  rw [List.foldl_cons, show (0 : Int) * 256 + z = z by omega, this]
set_option maxRecDepth 100000 in
theorem pow8 (j : Nat) : (2 : Int) ^ (8 * j) = 256 ^ j := by
  rw [Int.pow_mul]
  rfl
set_option maxRecDepth 100000 in
theorem val_num (n : Int) (k : Nat) : val (num n k) = n % 256 ^ k := by
  induction k with
  | zero => simp [num, val]
  | succ j ih =>
    unfold num
    rw [val_cons, num_length, ih, pow8, Int.pow_succ]
    have hp : (0 : Int) < 256 ^ j := Int.pow_pos (by decide)
    generalize (256 : Int) ^ j = P at *
    have h1 := Int.emod_add_mul_ediv n P
    have h2 := Int.emod_add_mul_ediv (n / P) 256
    have a1 := Int.emod_nonneg n (show P ≠ 0 by omega)
    have a2 := Int.emod_lt_of_pos n hp
    have a3 := Int.emod_nonneg (n / P) (show (256 : Int) ≠ 0 by decide)
    have a4 := Int.emod_lt_of_pos (n / P) (show (0 : Int) < 256 by decide)
    generalize n / P / 256 = q at *
    generalize hu : n / P % 256 = u at *
    generalize n / P = m at *
    generalize n % P = v at *
    have e : n = (v + u * P) + P * 256 * q := by
      rw [← h1, ← h2, Int.mul_add, ← Int.mul_assoc, Int.mul_comm P u, Int.add_assoc]
    have hup : u * P ≤ 255 * P := Int.mul_le_mul_of_nonneg_right (by omega) (by omega)
    have hu0 : 0 ≤ u * P := Int.mul_nonneg a3 (by omega)
    rw [e, Int.add_mul_emod_self_left, Int.emod_eq_of_lt (by omega) (by omega)]
    omega

set_option maxRecDepth 100000 in
theorem piece_tail (r x : List Int) (k : Nat) (h : x.length = k) : piece (r ++ x) r.length k = x := by
  unfold piece
  rw [List.drop_left, List.take_of_length_le (by omega)]
set_option maxRecDepth 100000 in
theorem piece_mid (r x y : List Int) (k : Nat) (h : x.length = k) : piece (r ++ x ++ y) r.length k = x := by
  unfold piece
  rw [List.append_assoc, List.drop_left, List.take_left' h]
end Go.Proofs.Ytmcflfpckpjphaa.NumV

namespace Go.Proofs.Ytmcflfpckpjphaa.FrG
open Go.RowKit Go.Proofs.Ytmcflfpckpjphaa.Mem Go.Proofs.Ytmcflfpckpjphaa.App Go.Proofs.Ytmcflfpckpjphaa.Get Go.Proofs.Ytmcflfpckpjphaa.NumV Go.Proofs.Ytmcflfpckpjphaa.FrZ Go.Proofs.Ytmcflfpckpjphaa.FrP Go.Proofs.Ytmcflfpckpjphaa.FrB

set_option maxRecDepth 100000 in
theorem num_inj (a b : Int) (k : Nat) (ha : 0 ≤ a) (ha' : a < 256 ^ k) (hb : 0 ≤ b) (hb' : b < 256 ^ k) (h : num a k = num b k) : a = b := by
  have e := congrArg val h
  rwa [val_num, val_num, Int.emod_eq_of_lt ha ha', Int.emod_eq_of_lt hb hb'] at e
set_option maxRecDepth 100000 in
theorem nil_of {l : List Int} (h : l.length = 0) : l = [] := List.length_eq_zero_iff.1 h

set_option maxRecDepth 100000 in
theorem putF_inj (D E : FrD) (h : frameOk D = true) (k : frameOk E = true) (e : putF D = putF E) : D = E := by
  have hh := (ok_iff D).1 h
  have kk := (ok_iff E).1 k
  have hd : ∀ D : FrD, frameOk D = true → (putF D).head? = some D.kind := by
    intro D h
    unfold putF
    rw [if_pos h]
    split
    · simp
    · split
      · simp
      · split <;> simp
  have hk : D.kind = E.kind := by
    have a := hd D h
    rw [e, hd E k] at a
    exact (Option.some.inj a).symm
  obtain ⟨dk, did, dcn, dsn, dtk, dco, dpr, dep, dsq, dbo, dta⟩ := D
  obtain ⟨ek, eid, ecn, esn, etk, eco, epr, eep, esq, ebo, eta⟩ := E
  simp only at hh kk hk
  subst hk
  rcases hh with ⟨h1, h2, h3, h4, h5, h6, h7, h8, h9, h10, h11, h12, h13, h14⟩ | ⟨h1, h2, h3, h4, h5, h⟩
  · rcases kk with ⟨k1, k2, k3, k4, k5, k6, k7, k8, k9, k10, k11, k12, k13, k14⟩ | ⟨_, _, _, _, _, ⟨k, _⟩ | ⟨k, _⟩ | ⟨k, _⟩⟩
    · have c1 : (dk == 1) = false := by simp; omega
      have c2 : (dk == 2) = false := by simp; omega
      have c3 : (dk == 3) = false := by simp; omega
      rw [putF_s _ (by assumption) c1 c2 c3, putF_s _ (by assumption) c1 c2 c3] at e
      simp only [List.append_assoc] at e
      obtain ⟨_, e⟩ := List.append_inj e rfl
      obtain ⟨e1, e⟩ := List.append_inj e (by rw [h5, k5])
      obtain ⟨e2, e⟩ := List.append_inj e (by rw [num_length, num_length])
      obtain ⟨e3, e⟩ := List.append_inj e (by rw [num_length, num_length])
      obtain ⟨e4, e5⟩ := List.append_inj e (by rw [h14, k14])
      have e2' := num_inj _ _ 4 h9 (by omega) k9 (by omega) e2
      have e3' := num_inj _ _ 6 h11 (by omega) k11 (by omega) e3
      rw [nil_of h4, nil_of k4, nil_of h7, nil_of k7, nil_of h8, nil_of k8, h3, k3, h6, k6, e1, e2', e3', e4, e5]
    · omega
    · omega
    · omega
  · rcases kk with ⟨k1, k2, _⟩ | ⟨k1, k2, k3, k4, k5, k⟩
    · rcases h with ⟨h, _⟩ | ⟨h, _⟩ | ⟨h, _⟩ <;> omega
    · rcases h with ⟨h6, h7, h8, h9, h10, h11, h12⟩ | ⟨h6, h7, h8, h9, h10, h11, h12⟩ | ⟨h6, h7, h8, h9, h10, h11, h12, h13⟩
      · rcases k with ⟨k6, k7, k8, k9, k10, k11, k12⟩ | ⟨k6, _⟩ | ⟨k6, _⟩
        · subst h6
          rw [putF_1 _ (by assumption) rfl, putF_1 _ (by assumption) rfl] at e
          simp only [List.append_assoc] at e
          obtain ⟨_, e⟩ := List.append_inj e rfl
          obtain ⟨e1, e⟩ := List.append_inj e rfl
          obtain ⟨e2, _⟩ := List.append_inj e (by rw [h5, k5])
          have e1' : did = eid := by simpa using e1
          rw [nil_of h9, nil_of k9, nil_of h11, nil_of k11, nil_of h12, nil_of k12, nil_of h3, nil_of k3, nil_of h4, nil_of k4, h1, k1, h2, k2, h10, k10, e1', e2]
        · omega
        · omega
      · rcases k with ⟨k6, _⟩ | ⟨k6, k7, k8, k9, k10, k11, k12⟩ | ⟨k6, _⟩
        · omega
        · subst h6
          rw [putF_2 _ (by assumption) rfl rfl, putF_2 _ (by assumption) rfl rfl] at e
          simp only [List.append_assoc] at e
          obtain ⟨_, e⟩ := List.append_inj e rfl
          obtain ⟨e1, e⟩ := List.append_inj e (by rw [h5, k5])
          obtain ⟨e2, e⟩ := List.append_inj e (by rw [h8, k8])
          obtain ⟨e3, e4⟩ := List.append_inj e (by rw [num_length, num_length])
          have e3' := num_inj _ _ 4 h9 (by omega) k9 (by omega) e3
          rw [nil_of h12, nil_of k12, nil_of h3, nil_of k3, nil_of h4, nil_of k4, h1, k1, h2, k2, h7, k7, e1, e2, e3', e4]
        · omega
      · rcases k with ⟨k6, _⟩ | ⟨k6, _⟩ | ⟨k6, k7, k8, k9, k10, k11, k12, k13⟩
        · omega
        · omega
        · subst h6
          rw [putF_3 _ (by assumption) rfl rfl rfl, putF_3 _ (by assumption) rfl rfl rfl] at e
          simp only [List.append_assoc] at e
          obtain ⟨_, e⟩ := List.append_inj e rfl
          obtain ⟨e0, e⟩ := List.append_inj e rfl
          obtain ⟨e1, e⟩ := List.append_inj e (by rw [h5, k5])
          obtain ⟨e2, e⟩ := List.append_inj e (by rw [h9, k9])
          obtain ⟨e3, e⟩ := List.append_inj e (by rw [num_length, num_length])
          obtain ⟨e4, e5⟩ := List.append_inj e (by rw [h12, k12])
          have e3' := num_inj _ _ 4 h10 (by omega) k10 (by omega) e3
          have e0' : did = eid := by simpa using e0
          rw [nil_of h3, nil_of k3, nil_of h4, nil_of k4, h1, k1, h2, k2, e0', e1, e2, e3', e4, e5]

def zeroF : FrD := ⟨0, 0, [], [], 0, [], [], 0, 0, [], []⟩
/-- What is read out of the bytes b. -/
def IsGot (b : List Int) (D : FrD) (ok : Bool) : Prop := (ok = true ∧ frameOk D = true ∧ putF D = b) ∨ (ok = false ∧ D = zeroF ∧ ∀ E, frameOk E = true → putF E ≠ b)
set_option maxRecDepth 100000 in
theorem IsGot.unique {b : List Int} {D E : FrD} {x y : Bool} (h : IsGot b D x) (k : IsGot b E y) : D = E ∧ x = y := by
  rcases h with ⟨rfl, h1, h2⟩ | ⟨rfl, rfl, h2⟩
  · rcases k with ⟨rfl, k1, k2⟩ | ⟨rfl, rfl, k2⟩
    · exact ⟨putF_inj D E h1 k1 (h2.trans k2.symm), rfl⟩
    · exact absurd h2 (k2 D h1)
  · rcases k with ⟨rfl, k1, k2⟩ | ⟨rfl, rfl, k2⟩
    · exact absurd k2 (h2 E k1)
    · exact ⟨rfl, rfl⟩
end Go.Proofs.Ytmcflfpckpjphaa.FrG

namespace Go.Proofs.Ytmcflfpckpjphaa.FrH
open Go.RowKit Go.Proofs.Ytmcflfpckpjphaa.Mem Go.Proofs.Ytmcflfpckpjphaa.App Go.Proofs.Ytmcflfpckpjphaa.Get Go.Proofs.Ytmcflfpckpjphaa.NumV Go.Proofs.Ytmcflfpckpjphaa.FrZ Go.Proofs.Ytmcflfpckpjphaa.FrP Go.Proofs.Ytmcflfpckpjphaa.FrB Go.Proofs.Ytmcflfpckpjphaa.FrG

def get1 (b : List Int) : FrD := ⟨b.getD 0 0, b.getD 1 0, piece b 2 12, [], 0, [], [], 0, 0, [], []⟩
def get2 (b : List Int) : FrD := ⟨b.getD 0 0, 0, piece b 1 12, piece b 13 12, val (piece b 25 4), b.drop 29, [], 0, 0, [], []⟩
def get3 (b : List Int) : FrD := ⟨b.getD 0 0, b.getD 1 0, piece b 2 12, piece b 14 12, val (piece b 26 4), piece b 30 16, b.drop 46, 0, 0, [], []⟩
def getS (b : List Int) : FrD := ⟨b.getD 0 0, 0, [], piece b 1 12, 0, [], [], val (piece b 13 4), val (piece b 17 6), b.drop 39, piece b 23 16⟩
set_option maxRecDepth 100000 in
theorem piece_at {b r x y : List Int} (e : b = r ++ (x ++ y)) {i k : Nat} (hr : r.length = i) (hx : x.length = k) : piece b i k = x := by
  subst e hr hx
  unfold piece
  rw [List.drop_left, List.take_left]
set_option maxRecDepth 100000 in
theorem drop_at {b r y : List Int} (e : b = r ++ y) {i : Nat} (hr : r.length = i) : b.drop i = y := by
  subst e hr
  rw [List.drop_left]
set_option maxRecDepth 100000 in
theorem back1 (E : FrD) (h : frameOk E = true) (k : E.kind = 1) : (putF E).length = 34 ∧ get1 (putF E) = E := by
  rcases (ok_iff E).1 h with ⟨h1, _⟩ | ⟨h1, h2, h3, h4, h5, ⟨h6, h7, h8, h9, h10, h11, h12⟩ | ⟨h6, _⟩ | ⟨h6, _⟩⟩
  · omega
  · have e := putF_1 E h (by rw [k]; rfl)
    obtain ⟨b, hb⟩ : ∃ b, putF E = b := ⟨_, rfl⟩
    rw [hb] at e ⊢
    clear hb h
    obtain ⟨ek, ei, ecn, esn, et, eco, epr, eep, esq, ebo, eta⟩ := E
    simp only at h1 h2 h3 h4 h5 h6 h7 h8 h9 h10 h11 h12 k e
    have g0 : b.getD 0 0 = ek := by rw [e]; simp
    have g1 : b.getD 1 0 = ei := by rw [e]; simp
    have p0 : piece b 2 12 = ecn := piece_at (r := [ek] ++ [ei]) (x := ecn) (y := List.replicate 20 0) (by rw [e]; simp) rfl h5
    refine ⟨by rw [e]; simp only [List.length_append, List.length_singleton, List.length_replicate]; omega, ?_⟩
    unfold get1
    rw [g0, g1, p0, h1, h2, nil_of h3, nil_of h4, nil_of h9, h10, nil_of h11, nil_of h12]
  · omega
  · omega
set_option maxRecDepth 100000 in
theorem back2 (E : FrD) (h : frameOk E = true) (k : E.kind = 2) : (putF E).length = 45 ∧ get2 (putF E) = E := by
  rcases (ok_iff E).1 h with ⟨h1, _⟩ | ⟨h1, h2, h3, h4, h5, ⟨h6, _⟩ | ⟨h6, h7, h8, h9, h10, h11, h12⟩ | ⟨h6, _⟩⟩
  · omega
  · omega
  · have e := putF_2 E h (by rw [k]; rfl) (by rw [k]; rfl)
    obtain ⟨b, hb⟩ : ∃ b, putF E = b := ⟨_, rfl⟩
    rw [hb] at e ⊢
    clear hb h
    obtain ⟨ek, ei, ecn, esn, et, eco, epr, eep, esq, ebo, eta⟩ := E
    simp only at h1 h2 h3 h4 h5 h6 h7 h8 h9 h10 h11 h12 k e
    have g0 : b.getD 0 0 = ek := by rw [e]; simp
    have p0 : piece b 1 12 = ecn := piece_at (r := [ek]) (x := ecn) (y := esn ++ num et 4 ++ eco) (by rw [e]; simp) rfl h5
    have p1 : piece b 13 12 = esn := piece_at (r := [ek] ++ ecn) (x := esn) (y := num et 4 ++ eco) (by rw [e]; simp) (by simp only [List.length_append, List.length_singleton]; omega) h8
    have p2 : piece b 25 4 = num et 4 := piece_at (r := [ek] ++ ecn ++ esn) (x := num et 4) (y := eco) (by rw [e]; simp) (by simp only [List.length_append, List.length_singleton]; omega) (num_length _ _)
    have p3 : b.drop 29 = eco := drop_at (r := [ek] ++ ecn ++ esn ++ num et 4) (y := eco) (by rw [e]) (by simp only [List.length_append, List.length_singleton, num_length]; omega)
    have v0 : val (piece b 25 4) = et := by rw [p2, val_num]; exact Int.emod_eq_of_lt h9 (by omega)
    refine ⟨by rw [e]; simp only [List.length_append, List.length_singleton, num_length]; omega, ?_⟩
    unfold get2
    rw [g0, p0, p1, v0, p3, h1, h2, nil_of h3, nil_of h4, h7, nil_of h12]
  · omega
set_option maxRecDepth 100000 in
theorem back3 (E : FrD) (h : frameOk E = true) (k : E.kind = 3) : (putF E).length = 62 ∧ get3 (putF E) = E := by
  rcases (ok_iff E).1 h with ⟨h1, _⟩ | ⟨h1, h2, h3, h4, h5, ⟨h6, _⟩ | ⟨h6, _⟩ | ⟨h6, h7, h8, h9, h10, h11, h12, h13⟩⟩
  · omega
  · omega
  · omega
  · have e := putF_3 E h (by rw [k]; rfl) (by rw [k]; rfl) (by rw [k]; rfl)
    obtain ⟨b, hb⟩ : ∃ b, putF E = b := ⟨_, rfl⟩
    rw [hb] at e ⊢
    clear hb h
    obtain ⟨ek, ei, ecn, esn, et, eco, epr, eep, esq, ebo, eta⟩ := E
    simp only at h1 h2 h3 h4 h5 h6 h7 h8 h9 h10 h11 h12 h13 k e
    have g0 : b.getD 0 0 = ek := by rw [e]; simp
    have g1 : b.getD 1 0 = ei := by rw [e]; simp
    have p0 : piece b 2 12 = ecn := piece_at (r := [ek] ++ [ei]) (x := ecn) (y := esn ++ num et 4 ++ eco ++ epr) (by rw [e]; simp) rfl h5
    have p1 : piece b 14 12 = esn := piece_at (r := [ek] ++ [ei] ++ ecn) (x := esn) (y := num et 4 ++ eco ++ epr) (by rw [e]; simp) (by simp only [List.length_append, List.length_singleton]; omega) h9
    have p2 : piece b 26 4 = num et 4 := piece_at (r := [ek] ++ [ei] ++ ecn ++ esn) (x := num et 4) (y := eco ++ epr) (by rw [e]; simp) (by simp only [List.length_append, List.length_singleton]; omega) (num_length _ _)
    have p3 : piece b 30 16 = eco := piece_at (r := [ek] ++ [ei] ++ ecn ++ esn ++ num et 4) (x := eco) (y := epr) (by rw [e]; simp) (by simp only [List.length_append, List.length_singleton, num_length]; omega) h12
    have p4 : b.drop 46 = epr := drop_at (r := [ek] ++ [ei] ++ ecn ++ esn ++ num et 4 ++ eco) (y := epr) (by rw [e]) (by simp only [List.length_append, List.length_singleton, num_length]; omega)
    have v0 : val (piece b 26 4) = et := by rw [p2, val_num]; exact Int.emod_eq_of_lt h10 (by omega)
    refine ⟨by rw [e]; simp only [List.length_append, List.length_singleton, num_length]; omega, ?_⟩
    unfold get3
    rw [g0, g1, p0, p1, v0, p3, p4, h1, h2, nil_of h3, nil_of h4]
set_option maxRecDepth 100000 in
theorem backS (E : FrD) (h : frameOk E = true) (k1 : E.kind ≠ 1) (k2 : E.kind ≠ 2) (k3 : E.kind ≠ 3) : 39 ≤ (putF E).length ∧ getS (putF E) = E := by
  rcases (ok_iff E).1 h with ⟨h1, h2, h3, h4, h5, h6, h7, h8, h9, h10, h11, h12, h13, h14⟩ | ⟨_, _, _, _, _, ⟨h6, _⟩ | ⟨h6, _⟩ | ⟨h6, _⟩⟩
  · have e := putF_s E h (by simp; omega) (by simp; omega) (by simp; omega)
    obtain ⟨b, hb⟩ : ∃ b, putF E = b := ⟨_, rfl⟩
    rw [hb] at e ⊢
    clear hb h
    obtain ⟨ek, ei, ecn, esn, et, eco, epr, eep, esq, ebo, eta⟩ := E
    simp only at h1 h2 h3 h4 h5 h6 h7 h8 h9 h10 h11 h12 h13 h14 k1 e
    have g0 : b.getD 0 0 = ek := by rw [e]; simp
    have p0 : piece b 1 12 = esn := piece_at (r := [ek]) (x := esn) (y := num eep 4 ++ num esq 6 ++ eta ++ ebo) (by rw [e]; simp) rfl h5
    have p1 : piece b 13 4 = num eep 4 := piece_at (r := [ek] ++ esn) (x := num eep 4) (y := num esq 6 ++ eta ++ ebo) (by rw [e]; simp) (by simp only [List.length_append, List.length_singleton]; omega) (num_length _ _)
    have p2 : piece b 17 6 = num esq 6 := piece_at (r := [ek] ++ esn ++ num eep 4) (x := num esq 6) (y := eta ++ ebo) (by rw [e]; simp) (by simp only [List.length_append, List.length_singleton, num_length]; omega) (num_length _ _)
    have p3 : piece b 23 16 = eta := piece_at (r := [ek] ++ esn ++ num eep 4 ++ num esq 6) (x := eta) (y := ebo) (by rw [e]; simp) (by simp only [List.length_append, List.length_singleton, num_length]; omega) h14
    have p4 : b.drop 39 = ebo := drop_at (r := [ek] ++ esn ++ num eep 4 ++ num esq 6 ++ eta) (y := ebo) (by rw [e]) (by simp only [List.length_append, List.length_singleton, num_length]; omega)
    have v0 : val (piece b 13 4) = eep := by rw [p1, val_num]; exact Int.emod_eq_of_lt h9 (by omega)
    have v1 : val (piece b 17 6) = esq := by rw [p2, val_num]; exact Int.emod_eq_of_lt h11 (by omega)
    refine ⟨by rw [e]; simp only [List.length_append, List.length_singleton, num_length]; omega, ?_⟩
    unfold getS
    rw [g0, p0, v0, v1, p3, p4, h3, nil_of h4, h6, nil_of h7, nil_of h8]
  · exact absurd h6 k1
  · exact absurd h6 k2
  · exact absurd h6 k3
set_option maxRecDepth 100000 in
theorem kind_at (E : FrD) (h : frameOk E = true) : (putF E).getD 0 0 = E.kind ∧ putF E ≠ [] := by
  by_cases k1 : E.kind = 1
  · rw [putF_1 E h (by rw [k1]; rfl)]; simp
  · by_cases k2 : E.kind = 2
    · rw [putF_2 E h (by rw [k2]; rfl) (by rw [k2]; rfl)]; simp
    · by_cases k3 : E.kind = 3
      · rw [putF_3 E h (by rw [k3]; rfl) (by rw [k3]; rfl) (by rw [k3]; rfl)]; simp
      · rw [putF_s E h (by simpa using k1) (by simpa using k2) (by simpa using k3)]; simp
set_option maxRecDepth 100000 in
theorem got_no {b : List Int} (h : ∀ E, frameOk E = true → putF E ≠ b) : IsGot b zeroF false := .inr ⟨rfl, rfl, h⟩
set_option maxRecDepth 100000 in
theorem got_nil : IsGot [] zeroF false := got_no fun E h => (kind_at E h).2
set_option maxRecDepth 100000 in
theorem got_len1 {b : List Int} (k : b.getD 0 0 = 1) (hl : b.length ≠ 34) : IsGot b zeroF false := got_no fun E h e => by
  subst e; exact hl (back1 E h (by rw [← (kind_at E h).1]; exact k)).1
set_option maxRecDepth 100000 in
theorem got_len2 {b : List Int} (k : b.getD 0 0 = 2) (hl : b.length ≠ 45) : IsGot b zeroF false := got_no fun E h e => by
  subst e; exact hl (back2 E h (by rw [← (kind_at E h).1]; exact k)).1
set_option maxRecDepth 100000 in
theorem got_len3 {b : List Int} (k : b.getD 0 0 = 3) (hl : b.length ≠ 62) : IsGot b zeroF false := got_no fun E h e => by
  subst e; exact hl (back3 E h (by rw [← (kind_at E h).1]; exact k)).1
set_option maxRecDepth 100000 in
theorem got_lenS {b : List Int} (k1 : b.getD 0 0 ≠ 1) (k2 : b.getD 0 0 ≠ 2) (k3 : b.getD 0 0 ≠ 3) (hl : b.length < 39) : IsGot b zeroF false := got_no fun E h e => by
  subst e
  rw [(kind_at E h).1] at k1 k2 k3
  have := (backS E h k1 k2 k3).1
  omega
/-- What was read is what it is, if its own bytes are those that were read. -/
def Cand (b : List Int) (D : FrD) : Prop := b ≠ [] ∧ ∀ E, frameOk E = true → putF E = b → E = D
set_option maxRecDepth 100000 in
theorem cand1 {b : List Int} (k : b.getD 0 0 = 1) : Cand b (get1 b) := ⟨by intro e; subst e; simp at k, fun E h e => by subst e; exact ((back1 E h (by rw [← (kind_at E h).1]; exact k)).2).symm⟩
set_option maxRecDepth 100000 in
theorem cand2 {b : List Int} (k : b.getD 0 0 = 2) : Cand b (get2 b) := ⟨by intro e; subst e; simp at k, fun E h e => by subst e; exact ((back2 E h (by rw [← (kind_at E h).1]; exact k)).2).symm⟩
set_option maxRecDepth 100000 in
theorem cand3 {b : List Int} (k : b.getD 0 0 = 3) : Cand b (get3 b) := ⟨by intro e; subst e; simp at k, fun E h e => by subst e; exact ((back3 E h (by rw [← (kind_at E h).1]; exact k)).2).symm⟩
set_option maxRecDepth 100000 in
theorem candS {b : List Int} (hb : b ≠ []) (k1 : b.getD 0 0 ≠ 1) (k2 : b.getD 0 0 ≠ 2) (k3 : b.getD 0 0 ≠ 3) : Cand b (getS b) := ⟨hb, fun E h e => by
  subst e
  rw [(kind_at E h).1] at k1 k2 k3
  exact ((backS E h k1 k2 k3).2).symm⟩
set_option maxRecDepth 100000 in
theorem Cand.yes {b : List Int} {D : FrD} (c : Cand b D) (e : putF D = b) : IsGot b D true := by
  refine .inl ⟨rfl, ?_, e⟩
  cases h : frameOk D with
  | true => rfl
  | false => rw [putF_no D h] at e; exact absurd e.symm c.1
set_option maxRecDepth 100000 in
theorem Cand.no {b : List Int} {D : FrD} (c : Cand b D) (e : putF D ≠ b) : IsGot b zeroF false := got_no fun E h k => by
  have := c.2 E h k
  subst this
  exact e k
end Go.Proofs.Ytmcflfpckpjphaa.FrH
