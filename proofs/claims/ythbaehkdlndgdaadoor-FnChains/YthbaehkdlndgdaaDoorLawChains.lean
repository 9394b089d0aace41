/-
  laws.FnChains answers true at every slice of bytes, where the table of round words holds what the program's text lays into it; nothing that was there is written into.
-/
import Derived.Test.YthbaehkdlndgdaaDoorKdfI
import Derived.Test.YthbaehkdlndgdaaDoorKdfS
import Derived.Test.YthbaehkdlndgdaaDoorDrawK
import Derived.Test.YthbaehkdlndgdaaDoorDrawS
import Derived.Test.YthbaehkdlndgdaaDoorSame
import Derived.Test.YthbaehkdlndgdaaDoorBent
namespace Go.Proofs.YthbaehkdlndgdaaDoor.LawChains
open Go.RowKit Go.Proofs.YthbaehkdlndgdaaDoor.Mem Go.Proofs.YthbaehkdlndgdaaDoor.App Go.Proofs.YthbaehkdlndgdaaDoor.Draw Go.Proofs.YthbaehkdlndgdaaDoor.DrawS Go.Proofs.YthbaehkdlndgdaaDoor.Same Go.Proofs.YthbaehkdlndgdaaDoor.Comp Go.Proofs.YthbaehkdlndgdaaDoor.KdfP Go.Proofs.YthbaehkdlndgdaaDoor.KdfI Go.Proofs.YthbaehkdlndgdaaDoor.KdfS Go.Proofs.YthbaehkdlndgdaaDoor.DrawK Go.Proofs.YthbaehkdlndgdaaDoor.Bent Go.Proofs.YthbaehkdlndgdaaDoor.Str

theorem chnI_nat (k : List Int) (i : Nat) (h : i ≤ 64) : chnI k (i : Int) = chn k i := by unfold chnI; rw [if_pos ⟨by omega, by omega⟩, Int.toNat_natCast]
theorem chnI_add (k : List Int) (i j n : Nat) (hn : n ≤ 64) (h : i + j = n) : chnI (chnI k (i : Int)) (j : Int) = chnI k (n : Int) := by
  rw [chnI_nat k i (by omega), chnI_nat _ j (by omega), chnI_nat k n hn, chn_add, h]
theorem chnI_bytes (k : List Int) (h : Bytes k) (n : Int) : Bytes (chnI k n) := by
  unfold chnI; split
  · exact chn_bytes k h _
  · intro z hz; cases hz

set_option maxRecDepth 100000 in
set_option maxHeartbeats 4000000 in
theorem small (a : Option Addr) (len cap : Nat) (l : List Int) (w : World) (hT : Tab w) (hl : len = l.length) (hr : Rd w a l) (hb : Bytes l) (hlen : len ≤ 1048576) :
    Calls Tryd.prog 4 #[.slice a len cap] w fun e w' => e = .returned (.bool true) ∧ Below w.heap.size w w' := by
  have HT : Hid (Tab w) := hT
  clear hT
  have HR : Hid (Rd w a l) := hr
  have HB : Hid (Bytes l) := hb
  have HL : Hid (len = l.length) := hl
  clear hr hb hl
  go_enter Tryd.func4, Tryd.ntmps4
  go_wp2_with fail
  refine (bigNo a len cap w hlen).mono ?_
  rintro e x1 ⟨rfl, rfl⟩
  go_wp2_with fail
  refine (drawChain a len cap l w HL.out HR.out HB.out hlen).mono ?_
  rintro e x2 ⟨gk, nk, ck, lk, n, rfl, ⟨elk, hzk, hyk⟩, hn, rwk, bx2⟩
  have HLk : Hid (nk = lk.length) := elk
  have HYk : Hid (Bytes lk) := hyk
  have Rk : Hid (Row x2 gk ck lk) := rwk
  clear elk hyk rwk
  have Bx2 : Hid (Below w.heap.size w x2) := bx2
  clear bx2
  clear hn
  by_cases hn0 : 0 ≤ n
  · by_cases hn6 : n ≤ 64
    · by_cases k0 : n = 0
      · obtain ⟨N, rfl⟩ := Int.eq_ofNat_of_zero_le hn0
        have p0 : ¬ ((N : Int) < 0) := by omega
        have p1 : ¬ ((N : Int) > 64) := by omega
        have p2 : ((N : Int) == 0) = true := by simp; omega
        have p3 : ((N : Int) != 1) = true := by simp; omega
        have EK : Hid (lk = chnI lk (N : Int)) := by show _ = _; rw [show (N : Int) = 0 by omega]; rfl
        clear k0
        go_wp2_with fail
        refine (implChain _ nk ck lk (N : Int) _ (HT.out.later Bx2.out) HLk.out Rk.out.rd (by intro e; cases e) HYk.out (by omega)).mono ?_
        rintro e x3 ⟨gx, mx, cx, rfl, ex3, hx3, rx3, bx3⟩
        have Ex : Hid (mx = (chnI lk (N : Int)).length) := ex3
        have Nx3 : Hid (Row x3 gx cx (chnI lk (N : Int))) := rx3
        clear ex3 rx3 hx3
        have Rx3k : Hid (Row x3 gk ck lk) := Rk.out.later bx3
        clear Rk
        have Bx3 : Hid (Below w.heap.size w x3) := Bx2.out.trans (bx3.mono Bx2.out.size)
        clear Bx2
        clear bx3
        go_wp2_with fail
        refine (specChain _ nk ck lk (N : Int) _  HLk.out Rx3k.out.rd (by intro e; cases e) HYk.out (by omega)).mono ?_
        rintro e x4 ⟨gy, my, cy, rfl, ex4, hx4, rx4, bx4⟩
        have Ey : Hid (my = (chnI lk (N : Int)).length) := ex4
        have Nx4 : Hid (Row x4 gy cy (chnI lk (N : Int))) := rx4
        clear ex4 rx4 hx4
        have Rx4k : Hid (Row x4 gk ck lk) := Rx3k.out.later bx4
        clear Rx3k
        have Rx4x : Hid (Row x4 gx cx (chnI lk (N : Int))) := Nx3.out.later bx4
        clear Nx3
        have Bx4 : Hid (Below w.heap.size w x4) := Bx3.out.trans (bx4.mono Bx3.out.size)
        clear Bx3
        clear bx4
        go_wp2_with fail
        refine (same_yes gx cx mx gy cy my ((chnI lk (N : Int))) _ Ex.out Ey.out Rx4x.out.rd Nx4.out.rd).mono ?_
        rintro e x5 ⟨rfl, rfl⟩
        clear Nx4
        go_wp2_with fail
        refine (atN a len cap l 2 x4 HL.out (HR.out.later Bx4.out (Nat.le_refl _)) HB.out hlen (by omega)).mono ?_
        rintro e x6 ⟨u, rfl, u0, u1, rfl⟩
        obtain ⟨M, hM, hMN⟩ : ∃ M : Nat, u % ((N : Int) + 1) = (M : Int) ∧ M ≤ N := ⟨(u % ((N : Int) + 1)).toNat, by rw [Int.toNat_of_nonneg (Int.emod_nonneg _ (by omega))], by have := Int.emod_lt_of_pos u (by omega : (0 : Int) < (N : Int) + 1); omega⟩
        obtain ⟨J, hJ, hJN⟩ : ∃ J : Nat, (N : Int) - (M : Int) = (J : Int) ∧ M + J = N := ⟨N - M, by omega, by omega⟩
        have EC : Hid (chnI (chnI lk (M : Int)) (J : Int) = chnI lk (N : Int)) := chnI_add lk M J N (by omega) hJN
        clear hMN hJN
        go_wp2_with fail
        refine (implChain _ nk ck lk (M : Int) _ (HT.out.later Bx4.out) HLk.out Rx4k.out.rd (by intro e; cases e) HYk.out (by omega)).mono ?_
        rintro e x7 ⟨gz, mz, cz, rfl, ex7, hx7, rx7, bx7⟩
        have Ez : Hid (mz = (chnI lk (M : Int)).length) := ex7
        have Nx7 : Hid (Row x7 gz cz (chnI lk (M : Int))) := rx7
        clear ex7 rx7 hx7
        have Rx7k : Hid (Row x7 gk ck lk) := Rx4k.out.later bx7
        clear Rx4k
        have Rx7x : Hid (Row x7 gx cx (chnI lk (N : Int))) := Rx4x.out.later bx7
        clear Rx4x
        have Bx7 : Hid (Below w.heap.size w x7) := Bx4.out.trans (bx7.mono Bx4.out.size)
        clear Bx4
        clear bx7
        have hmz : mz ≤ 1048576 := by have := chnI_most lk (M : Int); rw [← Ez.out, ← HLk.out] at this; omega
        go_wp2_with fail
        refine (implChain _ mz cz (chnI lk (M : Int)) (J : Int) _ (HT.out.later Bx7.out) Ez.out Nx7.out.rd (by intro e; cases e) (chnI_bytes lk HYk.out _) (by omega)).mono ?_
        rintro e x8 ⟨gv, mv, cv, rfl, ex8, hx8, rx8, bx8⟩
        have Ev : Hid (mv = (chnI (chnI lk (M : Int)) (J : Int)).length) := ex8
        have Nx8 : Hid (Row x8 gv cv (chnI (chnI lk (M : Int)) (J : Int))) := rx8
        clear ex8 rx8 hx8
        have Rx8k : Hid (Row x8 gk ck lk) := Rx7k.out.later bx8
        clear Rx7k
        have Rx8x : Hid (Row x8 gx cx (chnI lk (N : Int))) := Rx7x.out.later bx8
        clear Rx7x
        have Rx8z : Hid (Row x8 gz cz (chnI lk (M : Int))) := Nx7.out.later bx8
        clear Nx7
        have Bx8 : Hid (Below w.heap.size w x8) := Bx7.out.trans (bx8.mono Bx7.out.size)
        clear Bx7
        clear bx8
        go_wp2_with fail
        refine (same_yes gx cx mx gv cv mv ((chnI lk (N : Int))) _ Ex.out (EC.out ▸ Ev.out) Rx8x.out.rd (EC.out ▸ Nx8.out.rd)).mono ?_
        rintro e x9 ⟨rfl, rfl⟩
        clear Nx8
        clear Rx8z
        go_wp2_with fail
        refine (same_yes gx cx mx gk ck nk ((chnI lk (N : Int))) _ Ex.out (EK.out ▸ HLk.out) Rx8x.out.rd (EK.out ▸ Rx8k.out.rd)).mono ?_
        rintro e x10 ⟨rfl, rfl⟩
        go_wp2
        go_ret
        exact ⟨rfl, Bx8.out⟩
      · by_cases k1 : n = 1
        · obtain ⟨N, rfl⟩ := Int.eq_ofNat_of_zero_le hn0
          have p0 : ¬ ((N : Int) < 0) := by omega
          have p1 : ¬ ((N : Int) > 64) := by omega
          have p2 : ((N : Int) == 0) = false := by simp; omega
          have p3 : ((N : Int) != 1) = false := by simp; omega
          have EK : Hid (derI lk (bs ⟨#[114, 101, 107, 101, 121]⟩) = chnI lk (N : Int)) := by show _ = _; rw [show (N : Int) = 1 by omega]; rfl
          clear k0 k1
          go_wp2_with fail
          refine (implChain _ nk ck lk (N : Int) _ (HT.out.later Bx2.out) HLk.out Rk.out.rd (by intro e; cases e) HYk.out (by omega)).mono ?_
          rintro e x3 ⟨gx, mx, cx, rfl, ex3, hx3, rx3, bx3⟩
          have Ex : Hid (mx = (chnI lk (N : Int)).length) := ex3
          have Nx3 : Hid (Row x3 gx cx (chnI lk (N : Int))) := rx3
          clear ex3 rx3 hx3
          have Rx3k : Hid (Row x3 gk ck lk) := Rk.out.later bx3
          clear Rk
          have Bx3 : Hid (Below w.heap.size w x3) := Bx2.out.trans (bx3.mono Bx2.out.size)
          clear Bx2
          clear bx3
          go_wp2_with fail
          refine (specChain _ nk ck lk (N : Int) _  HLk.out Rx3k.out.rd (by intro e; cases e) HYk.out (by omega)).mono ?_
          rintro e x4 ⟨gy, my, cy, rfl, ex4, hx4, rx4, bx4⟩
          have Ey : Hid (my = (chnI lk (N : Int)).length) := ex4
          have Nx4 : Hid (Row x4 gy cy (chnI lk (N : Int))) := rx4
          clear ex4 rx4 hx4
          have Rx4k : Hid (Row x4 gk ck lk) := Rx3k.out.later bx4
          clear Rx3k
          have Rx4x : Hid (Row x4 gx cx (chnI lk (N : Int))) := Nx3.out.later bx4
          clear Nx3
          have Bx4 : Hid (Below w.heap.size w x4) := Bx3.out.trans (bx4.mono Bx3.out.size)
          clear Bx3
          clear bx4
          go_wp2_with fail
          refine (same_yes gx cx mx gy cy my ((chnI lk (N : Int))) _ Ex.out Ey.out Rx4x.out.rd Nx4.out.rd).mono ?_
          rintro e x5 ⟨rfl, rfl⟩
          clear Nx4
          go_wp2_with fail
          refine (atN a len cap l 2 x4 HL.out (HR.out.later Bx4.out (Nat.le_refl _)) HB.out hlen (by omega)).mono ?_
          rintro e x6 ⟨u, rfl, u0, u1, rfl⟩
          obtain ⟨M, hM, hMN⟩ : ∃ M : Nat, u % ((N : Int) + 1) = (M : Int) ∧ M ≤ N := ⟨(u % ((N : Int) + 1)).toNat, by rw [Int.toNat_of_nonneg (Int.emod_nonneg _ (by omega))], by have := Int.emod_lt_of_pos u (by omega : (0 : Int) < (N : Int) + 1); omega⟩
          obtain ⟨J, hJ, hJN⟩ : ∃ J : Nat, (N : Int) - (M : Int) = (J : Int) ∧ M + J = N := ⟨N - M, by omega, by omega⟩
          have EC : Hid (chnI (chnI lk (M : Int)) (J : Int) = chnI lk (N : Int)) := chnI_add lk M J N (by omega) hJN
          clear hMN hJN
          go_wp2_with fail
          refine (implChain _ nk ck lk (M : Int) _ (HT.out.later Bx4.out) HLk.out Rx4k.out.rd (by intro e; cases e) HYk.out (by omega)).mono ?_
          rintro e x7 ⟨gz, mz, cz, rfl, ex7, hx7, rx7, bx7⟩
          have Ez : Hid (mz = (chnI lk (M : Int)).length) := ex7
          have Nx7 : Hid (Row x7 gz cz (chnI lk (M : Int))) := rx7
          clear ex7 rx7 hx7
          have Rx7k : Hid (Row x7 gk ck lk) := Rx4k.out.later bx7
          clear Rx4k
          have Rx7x : Hid (Row x7 gx cx (chnI lk (N : Int))) := Rx4x.out.later bx7
          clear Rx4x
          have Bx7 : Hid (Below w.heap.size w x7) := Bx4.out.trans (bx7.mono Bx4.out.size)
          clear Bx4
          clear bx7
          have hmz : mz ≤ 1048576 := by have := chnI_most lk (M : Int); rw [← Ez.out, ← HLk.out] at this; omega
          go_wp2_with fail
          refine (implChain _ mz cz (chnI lk (M : Int)) (J : Int) _ (HT.out.later Bx7.out) Ez.out Nx7.out.rd (by intro e; cases e) (chnI_bytes lk HYk.out _) (by omega)).mono ?_
          rintro e x8 ⟨gv, mv, cv, rfl, ex8, hx8, rx8, bx8⟩
          have Ev : Hid (mv = (chnI (chnI lk (M : Int)) (J : Int)).length) := ex8
          have Nx8 : Hid (Row x8 gv cv (chnI (chnI lk (M : Int)) (J : Int))) := rx8
          clear ex8 rx8 hx8
          have Rx8k : Hid (Row x8 gk ck lk) := Rx7k.out.later bx8
          clear Rx7k
          have Rx8x : Hid (Row x8 gx cx (chnI lk (N : Int))) := Rx7x.out.later bx8
          clear Rx7x
          have Rx8z : Hid (Row x8 gz cz (chnI lk (M : Int))) := Nx7.out.later bx8
          clear Nx7
          have Bx8 : Hid (Below w.heap.size w x8) := Bx7.out.trans (bx8.mono Bx7.out.size)
          clear Bx7
          clear bx8
          go_wp2_with fail
          refine (same_yes gx cx mx gv cv mv ((chnI lk (N : Int))) _ Ex.out (EC.out ▸ Ev.out) Rx8x.out.rd (EC.out ▸ Nx8.out.rd)).mono ?_
          rintro e x9 ⟨rfl, rfl⟩
          clear Nx8
          clear Rx8z
          go_wp2_with fail
          refine (implDerive _ nk ck lk ⟨#[114, 101, 107, 101, 121]⟩ _ (HT.out.later Bx8.out) HLk.out Rx8k.out.rd (by intro e; cases e) HYk.out (by omega) (by decide)).mono ?_
          rintro e x10 ⟨gd, md, cd, rfl, ex10, hx10, rx10, bx10⟩
          have Ed : Hid (md = (derI lk (bs ⟨#[114, 101, 107, 101, 121]⟩)).length) := ex10
          have Nx10 : Hid (Row x10 gd cd (derI lk (bs ⟨#[114, 101, 107, 101, 121]⟩))) := rx10
          clear ex10 rx10 hx10
          have Rx10k : Hid (Row x10 gk ck lk) := Rx8k.out.later bx10
          clear Rx8k
          have Rx10x : Hid (Row x10 gx cx (chnI lk (N : Int))) := Rx8x.out.later bx10
          clear Rx8x
          have Bx10 : Hid (Below w.heap.size w x10) := Bx8.out.trans (bx10.mono Bx8.out.size)
          clear Bx8
          clear bx10
          go_wp2_with fail
          refine (same_yes gx cx mx gd cd md ((chnI lk (N : Int))) _ Ex.out (EK.out ▸ Ed.out) Rx10x.out.rd (EK.out ▸ Nx10.out.rd)).mono ?_
          rintro e x11 ⟨rfl, rfl⟩
          go_wp2
          go_ret
          exact ⟨rfl, Bx10.out⟩
        · obtain ⟨N, rfl⟩ := Int.eq_ofNat_of_zero_le hn0
          have p0 : ¬ ((N : Int) < 0) := by omega
          have p1 : ¬ ((N : Int) > 64) := by omega
          have p2 : ((N : Int) == 0) = false := by simp; omega
          have p3 : ((N : Int) != 1) = true := by simp; omega
          clear k0 k1
          go_wp2_with fail
          refine (implChain _ nk ck lk (N : Int) _ (HT.out.later Bx2.out) HLk.out Rk.out.rd (by intro e; cases e) HYk.out (by omega)).mono ?_
          rintro e x3 ⟨gx, mx, cx, rfl, ex3, hx3, rx3, bx3⟩
          have Ex : Hid (mx = (chnI lk (N : Int)).length) := ex3
          have Nx3 : Hid (Row x3 gx cx (chnI lk (N : Int))) := rx3
          clear ex3 rx3 hx3
          have Rx3k : Hid (Row x3 gk ck lk) := Rk.out.later bx3
          clear Rk
          have Bx3 : Hid (Below w.heap.size w x3) := Bx2.out.trans (bx3.mono Bx2.out.size)
          clear Bx2
          clear bx3
          go_wp2_with fail
          refine (specChain _ nk ck lk (N : Int) _  HLk.out Rx3k.out.rd (by intro e; cases e) HYk.out (by omega)).mono ?_
          rintro e x4 ⟨gy, my, cy, rfl, ex4, hx4, rx4, bx4⟩
          have Ey : Hid (my = (chnI lk (N : Int)).length) := ex4
          have Nx4 : Hid (Row x4 gy cy (chnI lk (N : Int))) := rx4
          clear ex4 rx4 hx4
          have Rx4k : Hid (Row x4 gk ck lk) := Rx3k.out.later bx4
          clear Rx3k
          have Rx4x : Hid (Row x4 gx cx (chnI lk (N : Int))) := Nx3.out.later bx4
          clear Nx3
          have Bx4 : Hid (Below w.heap.size w x4) := Bx3.out.trans (bx4.mono Bx3.out.size)
          clear Bx3
          clear bx4
          go_wp2_with fail
          refine (same_yes gx cx mx gy cy my ((chnI lk (N : Int))) _ Ex.out Ey.out Rx4x.out.rd Nx4.out.rd).mono ?_
          rintro e x5 ⟨rfl, rfl⟩
          clear Nx4
          go_wp2_with fail
          refine (atN a len cap l 2 x4 HL.out (HR.out.later Bx4.out (Nat.le_refl _)) HB.out hlen (by omega)).mono ?_
          rintro e x6 ⟨u, rfl, u0, u1, rfl⟩
          obtain ⟨M, hM, hMN⟩ : ∃ M : Nat, u % ((N : Int) + 1) = (M : Int) ∧ M ≤ N := ⟨(u % ((N : Int) + 1)).toNat, by rw [Int.toNat_of_nonneg (Int.emod_nonneg _ (by omega))], by have := Int.emod_lt_of_pos u (by omega : (0 : Int) < (N : Int) + 1); omega⟩
          obtain ⟨J, hJ, hJN⟩ : ∃ J : Nat, (N : Int) - (M : Int) = (J : Int) ∧ M + J = N := ⟨N - M, by omega, by omega⟩
          have EC : Hid (chnI (chnI lk (M : Int)) (J : Int) = chnI lk (N : Int)) := chnI_add lk M J N (by omega) hJN
          clear hMN hJN
          go_wp2_with fail
          refine (implChain _ nk ck lk (M : Int) _ (HT.out.later Bx4.out) HLk.out Rx4k.out.rd (by intro e; cases e) HYk.out (by omega)).mono ?_
          rintro e x7 ⟨gz, mz, cz, rfl, ex7, hx7, rx7, bx7⟩
          have Ez : Hid (mz = (chnI lk (M : Int)).length) := ex7
          have Nx7 : Hid (Row x7 gz cz (chnI lk (M : Int))) := rx7
          clear ex7 rx7 hx7
          have Rx7k : Hid (Row x7 gk ck lk) := Rx4k.out.later bx7
          clear Rx4k
          have Rx7x : Hid (Row x7 gx cx (chnI lk (N : Int))) := Rx4x.out.later bx7
          clear Rx4x
          have Bx7 : Hid (Below w.heap.size w x7) := Bx4.out.trans (bx7.mono Bx4.out.size)
          clear Bx4
          clear bx7
          have hmz : mz ≤ 1048576 := by have := chnI_most lk (M : Int); rw [← Ez.out, ← HLk.out] at this; omega
          go_wp2_with fail
          refine (implChain _ mz cz (chnI lk (M : Int)) (J : Int) _ (HT.out.later Bx7.out) Ez.out Nx7.out.rd (by intro e; cases e) (chnI_bytes lk HYk.out _) (by omega)).mono ?_
          rintro e x8 ⟨gv, mv, cv, rfl, ex8, hx8, rx8, bx8⟩
          have Ev : Hid (mv = (chnI (chnI lk (M : Int)) (J : Int)).length) := ex8
          have Nx8 : Hid (Row x8 gv cv (chnI (chnI lk (M : Int)) (J : Int))) := rx8
          clear ex8 rx8 hx8
          have Rx8k : Hid (Row x8 gk ck lk) := Rx7k.out.later bx8
          clear Rx7k
          have Rx8x : Hid (Row x8 gx cx (chnI lk (N : Int))) := Rx7x.out.later bx8
          clear Rx7x
          have Rx8z : Hid (Row x8 gz cz (chnI lk (M : Int))) := Nx7.out.later bx8
          clear Nx7
          have Bx8 : Hid (Below w.heap.size w x8) := Bx7.out.trans (bx8.mono Bx7.out.size)
          clear Bx7
          clear bx8
          go_wp2_with fail
          refine (same_yes gx cx mx gv cv mv ((chnI lk (N : Int))) _ Ex.out (EC.out ▸ Ev.out) Rx8x.out.rd (EC.out ▸ Nx8.out.rd)).mono ?_
          rintro e x9 ⟨rfl, rfl⟩
          clear Nx8
          clear Rx8z
          go_wp2
          go_ret
          exact ⟨rfl, Bx8.out⟩
    · have HE : Hid (chnI lk n = []) := by show _ = _; unfold chnI; rw [if_neg (by omega)]
      have p0 : ¬ (n < 0) := by omega
      have p1 : n > 64 := by omega
      go_wp2_with fail
      refine (implChain _ nk ck lk n _ (HT.out.later Bx2.out) HLk.out Rk.out.rd (by intro e; cases e) HYk.out (by omega)).mono ?_
      rintro e x3 ⟨gx, mx, cx, rfl, ex3, hx3, rx3, bx3⟩
      have Ex : Hid (mx = (chnI lk n).length) := ex3
      have Nx3 : Hid (Row x3 gx cx (chnI lk n)) := rx3
      clear ex3 rx3 hx3
      have Rx3k : Hid (Row x3 gk ck lk) := Rk.out.later bx3
      clear Rk
      have Bx3 : Hid (Below w.heap.size w x3) := Bx2.out.trans (bx3.mono Bx2.out.size)
      clear Bx2
      clear bx3
      go_wp2_with fail
      refine (specChain _ nk ck lk n _  HLk.out Rx3k.out.rd (by intro e; cases e) HYk.out (by omega)).mono ?_
      rintro e x4 ⟨gy, my, cy, rfl, ex4, hx4, rx4, bx4⟩
      have Ey : Hid (my = (chnI lk n).length) := ex4
      have Nx4 : Hid (Row x4 gy cy (chnI lk n)) := rx4
      clear ex4 rx4 hx4
      have Rx4k : Hid (Row x4 gk ck lk) := Rx3k.out.later bx4
      clear Rx3k
      have Rx4x : Hid (Row x4 gx cx (chnI lk n)) := Nx3.out.later bx4
      clear Nx3
      have Bx4 : Hid (Below w.heap.size w x4) := Bx3.out.trans (bx4.mono Bx3.out.size)
      clear Bx3
      clear bx4
      go_wp2_with fail
      refine (same_yes gx cx mx gy cy my ((chnI lk n)) _ Ex.out Ey.out Rx4x.out.rd Nx4.out.rd).mono ?_
      rintro e x5 ⟨rfl, rfl⟩
      clear Nx4
      obtain rfl : 0 = mx := Eq.symm (by rw [Ex.out]; exact (by rw [HE.out]; rfl))
      go_wp2
      go_ret
      exact ⟨rfl, Bx4.out⟩
  · have HE : Hid (chnI lk n = []) := by show _ = _; unfold chnI; rw [if_neg (by omega)]
    have p0 : n < 0 := by omega
    go_wp2_with fail
    refine (implChain _ nk ck lk n _ (HT.out.later Bx2.out) HLk.out Rk.out.rd (by intro e; cases e) HYk.out (by omega)).mono ?_
    rintro e x3 ⟨gx, mx, cx, rfl, ex3, hx3, rx3, bx3⟩
    have Ex : Hid (mx = (chnI lk n).length) := ex3
    have Nx3 : Hid (Row x3 gx cx (chnI lk n)) := rx3
    clear ex3 rx3 hx3
    have Rx3k : Hid (Row x3 gk ck lk) := Rk.out.later bx3
    clear Rk
    have Bx3 : Hid (Below w.heap.size w x3) := Bx2.out.trans (bx3.mono Bx2.out.size)
    clear Bx2
    clear bx3
    go_wp2_with fail
    refine (specChain _ nk ck lk n _  HLk.out Rx3k.out.rd (by intro e; cases e) HYk.out (by omega)).mono ?_
    rintro e x4 ⟨gy, my, cy, rfl, ex4, hx4, rx4, bx4⟩
    have Ey : Hid (my = (chnI lk n).length) := ex4
    have Nx4 : Hid (Row x4 gy cy (chnI lk n)) := rx4
    clear ex4 rx4 hx4
    have Rx4k : Hid (Row x4 gk ck lk) := Rx3k.out.later bx4
    clear Rx3k
    have Rx4x : Hid (Row x4 gx cx (chnI lk n)) := Nx3.out.later bx4
    clear Nx3
    have Bx4 : Hid (Below w.heap.size w x4) := Bx3.out.trans (bx4.mono Bx3.out.size)
    clear Bx3
    clear bx4
    go_wp2_with fail
    refine (same_yes gx cx mx gy cy my ((chnI lk n)) _ Ex.out Ey.out Rx4x.out.rd Nx4.out.rd).mono ?_
    rintro e x5 ⟨rfl, rfl⟩
    clear Nx4
    obtain rfl : 0 = mx := Eq.symm (by rw [Ex.out]; exact (by rw [HE.out]; rfl))
    go_wp2
    go_ret
    exact ⟨rfl, Bx4.out⟩


theorem walk (a : Option Addr) (len cap : Nat) (zs : List Int) (w : World) (hT : Tab w) (h : IsRow .u8 w a len cap zs) :
    Calls Tryd.prog 4 #[.slice a len cap] w fun e w' => e = .returned (.bool true) ∧ Below w.heap.size w w' := by
  obtain ⟨l, hl, hr, _, hb⟩ := h.read
  by_cases hlen : len ≤ 1048576
  · exact small a len cap l w hT hl hr hb hlen
  · clear hl hr hb h
    go_enter Tryd.func4, Tryd.ntmps4
    go_wp2_with fail
    refine (bigYes a len cap w (by omega)).mono ?_
    rintro e w1 ⟨rfl, rfl⟩
    go_wp2
    go_ret
    exact ⟨rfl, Below.refl _ _⟩
end Go.Proofs.YthbaehkdlndgdaaDoor.LawChains
