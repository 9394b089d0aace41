/-
  laws.FnStreams answers true at every slice of bytes, where the table of round words holds what the program's text lays into it; nothing that was there is written into.
-/
import Derived.Test.YtppckomiobablaaDoorStrI
import Derived.Test.YtppckomiobablaaDoorDrawK
import Derived.Test.YtppckomiobablaaDoorDrawS
import Derived.Test.YtppckomiobablaaDoorSame
import Derived.Test.YtppckomiobablaaDoorBent
namespace Go.Proofs.YtppckomiobablaaDoor.LawStreams
open Go.RowKit Go.Proofs.YtppckomiobablaaDoor.Mem Go.Proofs.YtppckomiobablaaDoor.App Go.Proofs.YtppckomiobablaaDoor.Draw Go.Proofs.YtppckomiobablaaDoor.DrawS Go.Proofs.YtppckomiobablaaDoor.Same Go.Proofs.YtppckomiobablaaDoor.Comp Go.Proofs.YtppckomiobablaaDoor.KdfP Go.Proofs.YtppckomiobablaaDoor.StrI Go.Proofs.YtppckomiobablaaDoor.DrawK Go.Proofs.YtppckomiobablaaDoor.Bent Go.Proofs.YtppckomiobablaaDoor.Blk

theorem blockI_at (k h : List Int) (i : Nat) (hi : i ≤ 6) (hh : h.length ≤ 100) : blockI k h (i : Int) = sblk k h i := by
  unfold blockI; rw [if_pos ⟨by omega, by omega, hh⟩, Int.toNat_natCast]
theorem str_tail (k h : List Int) (m : Nat) (e : mayStr k h (m : Int) = true) : (strI k h (m : Int)).drop (32 * (m / 32)) = (sblk k h (m / 32)).take (m - 32 * (m / 32)) := by
  obtain ⟨_, _, h2, h3⟩ := (mayStr_iff k h (m : Int)).1 e
  rw [strI_yes k h _ e, Int.toNat_natCast]
  by_cases hr : m % 32 = 0
  · rw [show m - 32 * (m / 32) = 0 by omega, List.take_zero, List.drop_eq_nil_of_le (by rw [List.length_take]; omega)]
  · rw [show (m + 31) / 32 = m / 32 + 1 by omega]
    show List.drop _ (List.take m (sblks k h (m / 32) ++ sblk k h (m / 32))) = _
    rw [List.drop_take, List.drop_left' (sblks_len k h h3 h2 (m / 32))]
theorem tail_at {w : World} {g c : Nat} {l : List Int} (hR : Row w g c l) (M P : Nat) (hM : M = l.length) (hP : P ≤ M) (hc : M ≤ c) {r : List Int} (e : l.drop P = r) : ∃ o, (if c = P then some (⟨g, 0, none⟩ : Addr) else some ⟨g, P, none⟩) = some ⟨g, o, none⟩ ∧ Rd w (some ⟨g, o, none⟩) r := by
  subst e
  by_cases h : c = P
  · refine ⟨0, by rw [if_pos h], ?_⟩
    intro i hi; rw [List.length_drop] at hi; omega
  · refine ⟨P, by rw [if_neg h], ?_⟩
    intro i hi
    rw [List.length_drop] at hi
    refine ⟨g, P, rfl, hR.lt, ?_⟩
    rw [hR.cell (P + i) (by omega)]
    simp [List.getD]

set_option maxRecDepth 100000 in
set_option maxHeartbeats 4000000 in
theorem small (a : Option Addr) (len cap : Nat) (l : List Int) (w : World) (hT : Tab w) (hl : len = l.length) (hr : Rd w a l) (hb : Bytes l) (hlen : len ≤ 1048576) :
    Calls Tryd.prog 3 #[.slice a len cap] w fun e w' => e = .returned (.bool true) ∧ Below w.heap.size w w' := by
  have HT : Hid (Tab w) := hT
  clear hT
  have HR : Hid (Rd w a l) := hr
  have HB : Hid (Bytes l) := hb
  have HL : Hid (len = l.length) := hl
  clear hr hb hl
  go_enter Tryd.func3, Tryd.ntmps3
  go_wp2_with fail
  refine (bigNo a len cap w hlen).mono ?_
  rintro e x1 ⟨rfl, rfl⟩
  go_wp2_with fail
  refine (drawStream a len cap l w HL.out HR.out HB.out hlen).mono ?_
  rintro e x2 ⟨gk, nk, ck, lk, gh, nh, ch, lh, n, rfl, ⟨elk, hzk, hyk⟩, ⟨elh, hzh, hyh⟩, hn, rwk, rwh, bx2⟩
  have HLk : Hid (nk = lk.length) := elk
  have HYk : Hid (Bytes lk) := hyk
  have Rk : Hid (Row x2 gk ck lk) := rwk
  clear elk hyk rwk
  have HLh : Hid (nh = lh.length) := elh
  have HYh : Hid (Bytes lh) := hyh
  have Rh : Hid (Row x2 gh ch lh) := rwh
  clear elh hyh rwh
  have Bx2 : Hid (Below w.heap.size w x2) := bx2
  clear bx2
  clear hn
  by_cases hh : nh ≤ 100
  · by_cases hn0 : 0 ≤ n
    · by_cases hn2 : n ≤ 200
      · obtain ⟨N, rfl⟩ := Int.eq_ofNat_of_zero_le hn0
        have OKn : Hid (mayStr lk lh (N : Int) = true) := (mayStr_iff lk lh _).2 ⟨by omega, by omega, by rw [← HLh.out]; omega, by rw [← HLk.out]; omega⟩
        have p9 : ¬ ((nh : Int) > 100) := by omega
        have p0 : ¬ ((N : Int) < 0) := by omega
        have p1 : ¬ ((N : Int) > 200) := by omega
        go_wp2_with fail
        refine (implStream _ nk ck _ nh ch lk lh (N : Int) _ (HT.out.later Bx2.out) HLk.out HLh.out Rk.out.rd Rh.out.rd (by intro e; cases e) (by intro e; cases e) HYk.out HYh.out (by omega) (by omega)).mono ?_
        rintro e x3 ⟨gx, mx, cx, rfl, ex3, hx3, rx3, bx3⟩
        have Ex : Hid (mx = (strI lk lh (N : Int)).length) := ex3
        have Nx3 : Hid (Row x3 gx cx (strI lk lh (N : Int))) := rx3
        clear ex3 rx3 hx3
        have Rx3k : Hid (Row x3 gk ck lk) := Rk.out.later bx3
        clear Rk
        have Rx3h : Hid (Row x3 gh ch lh) := Rh.out.later bx3
        clear Rh
        have Bx3 : Hid (Below w.heap.size w x3) := Bx2.out.trans (bx3.mono Bx2.out.size)
        clear Bx2
        clear bx3
        obtain rfl : N = mx := Eq.symm (by rw [Ex.out]; exact (strI_len lk lh N OKn.out))
        go_wp2_with fail
        refine (atN a len cap l 2 x3 HL.out (HR.out.later Bx3.out (Nat.le_refl _)) HB.out hlen (by omega)).mono ?_
        rintro e x4 ⟨u, rfl, u0, u1, rfl⟩
        obtain ⟨M, hM, hM2⟩ : ∃ M : Nat, u % 201 = (M : Int) ∧ M ≤ 200 := ⟨(u % 201).toNat, by omega, by omega⟩
        have OKm : Hid (mayStr lk lh (M : Int) = true) := (mayStr_iff lk lh _).2 ⟨by omega, by omega, by rw [← HLh.out]; omega, by rw [← HLk.out]; omega⟩
        go_wp2_with fail
        refine (implStream _ nk ck _ nh ch lk lh (M : Int) _ (HT.out.later Bx3.out) HLk.out HLh.out Rx3k.out.rd Rx3h.out.rd (by intro e; cases e) (by intro e; cases e) HYk.out HYh.out (by omega) (by omega)).mono ?_
        rintro e x5 ⟨gy, my, cy, rfl, ex5, hx5, rx5, bx5⟩
        have Ey : Hid (my = (strI lk lh (M : Int)).length) := ex5
        have Nx5 : Hid (Row x5 gy cy (strI lk lh (M : Int))) := rx5
        clear ex5 rx5 hx5
        have Rx5k : Hid (Row x5 gk ck lk) := Rx3k.out.later bx5
        clear Rx3k
        have Rx5h : Hid (Row x5 gh ch lh) := Rx3h.out.later bx5
        clear Rx3h
        have Rx5x : Hid (Row x5 gx cx (strI lk lh (N : Int))) := Nx3.out.later bx5
        clear Nx3
        have Bx5 : Hid (Below w.heap.size w x5) := Bx3.out.trans (bx5.mono Bx3.out.size)
        clear Bx3
        clear bx5
        obtain rfl : M = my := Eq.symm (by rw [Ey.out]; exact (strI_len lk lh M OKm.out))
        obtain ⟨I, hI, hI2⟩ : ∃ I : Nat, (M : Int) / 32 = (I : Int) ∧ M / 32 = I := ⟨M / 32, by omega, rfl⟩
        obtain ⟨P, hP, hP2⟩ : ∃ P : Nat, 32 * (I : Int) = (P : Int) ∧ 32 * I = P := ⟨32 * I, by omega, rfl⟩
        have hPM : P ≤ M := by omega
        have hI6 : I ≤ 6 := by omega
        have HB1 : Hid (blockI lk lh (I : Int) = sblk lk lh I) := blockI_at lk lh I hI6 (by rw [← HLh.out]; omega)
        have HB2 : Hid ((sblk lk lh I).length = 32) := sblk_len lk lh (by rw [← HLk.out]; omega) (by rw [← HLh.out]; omega) I
        have HTL : Hid ((strI lk lh (M : Int)).drop P = (sblk lk lh I).take (M - P)) := by show _ = _; rw [← hP2, ← hI2]; exact str_tail lk lh M OKm.out
        have hMP : M - P ≤ 32 := by omega
        clear hI2 hP2
        go_wp2_with fail
        refine (implBlockOf _ nk ck _ nh ch lk lh (I : Int) _ (HT.out.later Bx5.out) HLk.out HLh.out Rx5k.out.rd Rx5h.out.rd (by intro e; cases e) (by intro e; cases e) HYk.out HYh.out (by omega) (by omega)).mono ?_
        rintro e x6 ⟨gz, mz, cz, rfl, ex6, hx6, rx6, bx6⟩
        have Ez : Hid (mz = (blockI lk lh (I : Int)).length) := ex6
        have Nx6 : Hid (Row x6 gz cz (blockI lk lh (I : Int))) := rx6
        clear ex6 rx6 hx6
        have Rx6k : Hid (Row x6 gk ck lk) := Rx5k.out.later bx6
        clear Rx5k
        have Rx6h : Hid (Row x6 gh ch lh) := Rx5h.out.later bx6
        clear Rx5h
        have Rx6x : Hid (Row x6 gx cx (strI lk lh (N : Int))) := Rx5x.out.later bx6
        clear Rx5x
        have Rx6y : Hid (Row x6 gy cy (strI lk lh (M : Int))) := Nx5.out.later bx6
        clear Nx5
        have Bx6 : Hid (Below w.heap.size w x6) := Bx5.out.trans (bx6.mono Bx5.out.size)
        clear Bx5
        clear bx6
        obtain rfl : 32 = mz := Eq.symm (by rw [Ez.out]; exact (by rw [HB1.out]; exact HB2.out))
        have hcy : M ≤ cy := by have := Rx6y.out.1; rw [← Ey.out] at this; exact this
        have hcz : 32 ≤ cz := by have := Nx6.out.1; rw [← Ez.out] at this; exact this
        obtain ⟨o, hif, hRo⟩ : ∃ o, (if cy = P then some (⟨gy, 0, none⟩ : Addr) else some ⟨gy, P, none⟩) = some ⟨gy, o, none⟩ ∧ Rd x6 (some ⟨gy, o, none⟩) ((sblk lk lh I).take (M - P)) := tail_at Rx6y.out M P Ey.out hPM hcy HTL.out
        have HRo : Hid (Rd x6 (some ⟨gy, o, none⟩) ((sblk lk lh I).take (M - P))) := hRo
        clear hRo
        have j0 : (0 : Int) ≤ (P : Int) := by omega
        have j1 : (P : Int) ≤ (M : Int) := by omega
        have j2 : (M : Int) ≤ (cy : Int) := by omega
        go_wp2_with fail
        refine (starts_at gz cz gy o _ 32 (M - P) ((sblk lk lh I).take (M - P)) (blockI lk lh (I : Int)) _ Ez.out (by rw [List.length_take, HB2.out]; omega) hcz (by rw [HB1.out]) (by omega) Nx6.out.rd HRo.out (by omega)).mono ?_
        rintro e x7 ⟨rfl, mx7, dx7⟩
        have bx7 : Below x6.heap.size x6 x7 := by rw [dx7]; exact below_drewN (Below.refl _ _) _
        clear dx7
        have Rx7k : Hid (Row x7 gk ck lk) := Rx6k.out.later bx7
        clear Rx6k
        have Rx7h : Hid (Row x7 gh ch lh) := Rx6h.out.later bx7
        clear Rx6h
        have Rx7x : Hid (Row x7 gx cx (strI lk lh (N : Int))) := Rx6x.out.later bx7
        clear Rx6x
        have Rx7y : Hid (Row x7 gy cy (strI lk lh (M : Int))) := Rx6y.out.later bx7
        clear Rx6y
        have Rx7z : Hid (Row x7 gz cz (blockI lk lh (I : Int))) := Nx6.out.later bx7
        clear Nx6
        have Bx7 : Hid (Below w.heap.size w x7) := Bx6.out.trans (bx7.mono Bx6.out.size)
        clear Bx6
        clear bx7
        clear HRo hif
        by_cases hNM : M < N
        · have p2 : (N : Int) > (M : Int) := by omega
          go_wp2_with fail
          have hcx8 : N ≤ cx := by have := Rx7x.out.1; rw [← Ex.out] at this; exact this
          refine (starts_yes gx cx gy cy N M (strI lk lh (M : Int)) (strI lk lh (N : Int)) _ Ex.out Ey.out hcx8 (strI_more lk lh M N (by omega) OKn.out) (by omega) Rx7x.out.rd Rx7y.out.rd (by omega)).mono ?_
          rintro e x8 ⟨rfl, mx8, dx8⟩
          have bx8 : Below x7.heap.size x7 x8 := by rw [dx8]; exact below_drewN (Below.refl _ _) _
          clear dx8
          have Rx8k : Hid (Row x8 gk ck lk) := Rx7k.out.later bx8
          clear Rx7k
          have Rx8h : Hid (Row x8 gh ch lh) := Rx7h.out.later bx8
          clear Rx7h
          have Rx8x : Hid (Row x8 gx cx (strI lk lh (N : Int))) := Rx7x.out.later bx8
          clear Rx7x
          have Rx8y : Hid (Row x8 gy cy (strI lk lh (M : Int))) := Rx7y.out.later bx8
          clear Rx7y
          have Rx8z : Hid (Row x8 gz cz (blockI lk lh (I : Int))) := Rx7z.out.later bx8
          clear Rx7z
          have Bx8 : Hid (Below w.heap.size w x8) := Bx7.out.trans (bx8.mono Bx7.out.size)
          clear Bx7
          clear bx8
          go_wp2
          go_ret
          exact ⟨rfl, Bx8.out⟩
        · have p2 : ¬ ((N : Int) > (M : Int)) := by omega
          have p3 : (N : Int) ≤ (M : Int) := by omega
          go_wp2_with fail
          have hcx8 : M ≤ cy := by have := Rx7y.out.1; rw [← Ey.out] at this; exact this
          refine (starts_yes gy cy gx cx M N (strI lk lh (N : Int)) (strI lk lh (M : Int)) _ Ey.out Ex.out hcx8 (strI_more lk lh N M (by omega) OKm.out) (by omega) Rx7y.out.rd Rx7x.out.rd (by omega)).mono ?_
          rintro e x8 ⟨rfl, mx8, dx8⟩
          have bx8 : Below x7.heap.size x7 x8 := by rw [dx8]; exact below_drewN (Below.refl _ _) _
          clear dx8
          have Rx8k : Hid (Row x8 gk ck lk) := Rx7k.out.later bx8
          clear Rx7k
          have Rx8h : Hid (Row x8 gh ch lh) := Rx7h.out.later bx8
          clear Rx7h
          have Rx8x : Hid (Row x8 gx cx (strI lk lh (N : Int))) := Rx7x.out.later bx8
          clear Rx7x
          have Rx8y : Hid (Row x8 gy cy (strI lk lh (M : Int))) := Rx7y.out.later bx8
          clear Rx7y
          have Rx8z : Hid (Row x8 gz cz (blockI lk lh (I : Int))) := Rx7z.out.later bx8
          clear Rx7z
          have Bx8 : Hid (Below w.heap.size w x8) := Bx7.out.trans (bx8.mono Bx7.out.size)
          clear Bx7
          clear bx8
          go_wp2
          go_ret
          exact ⟨rfl, Bx8.out⟩
      · have OKn : Hid (mayStr lk lh n = false) := by show _ = _; rw [mayStr, decide_eq_false_iff_not, ← HLh.out]; omega
        have p9 : ¬ ((nh : Int) > 100) := by omega
        have p0 : ¬ (n < 0) := by omega
        have p1 : n > 200 := by omega
        go_wp2_with fail
        refine (implStream _ nk ck _ nh ch lk lh n _ (HT.out.later Bx2.out) HLk.out HLh.out Rk.out.rd Rh.out.rd (by intro e; cases e) (by intro e; cases e) HYk.out HYh.out (by omega) (by omega)).mono ?_
        rintro e x3 ⟨gx, mx, cx, rfl, ex3, hx3, rx3, bx3⟩
        have Ex : Hid (mx = (strI lk lh n).length) := ex3
        have Nx3 : Hid (Row x3 gx cx (strI lk lh n)) := rx3
        clear ex3 rx3 hx3
        have Rx3k : Hid (Row x3 gk ck lk) := Rk.out.later bx3
        clear Rk
        have Rx3h : Hid (Row x3 gh ch lh) := Rh.out.later bx3
        clear Rh
        have Bx3 : Hid (Below w.heap.size w x3) := Bx2.out.trans (bx3.mono Bx2.out.size)
        clear Bx2
        clear bx3
        obtain rfl : 0 = mx := Eq.symm (by rw [Ex.out]; exact (by rw [strI_no lk lh n OKn.out]; rfl))
        go_wp2_with fail
        refine (atN a len cap l 2 x3 HL.out (HR.out.later Bx3.out (Nat.le_refl _)) HB.out hlen (by omega)).mono ?_
        rintro e x4 ⟨u, rfl, u0, u1, rfl⟩
        obtain ⟨M, hM, hM2⟩ : ∃ M : Nat, u % 201 = (M : Int) ∧ M ≤ 200 := ⟨(u % 201).toNat, by omega, by omega⟩
        have OKm : Hid (mayStr lk lh (M : Int) = true) := (mayStr_iff lk lh _).2 ⟨by omega, by omega, by rw [← HLh.out]; omega, by rw [← HLk.out]; omega⟩
        go_wp2_with fail
        refine (implStream _ nk ck _ nh ch lk lh (M : Int) _ (HT.out.later Bx3.out) HLk.out HLh.out Rx3k.out.rd Rx3h.out.rd (by intro e; cases e) (by intro e; cases e) HYk.out HYh.out (by omega) (by omega)).mono ?_
        rintro e x5 ⟨gy, my, cy, rfl, ex5, hx5, rx5, bx5⟩
        have Ey : Hid (my = (strI lk lh (M : Int)).length) := ex5
        have Nx5 : Hid (Row x5 gy cy (strI lk lh (M : Int))) := rx5
        clear ex5 rx5 hx5
        have Rx5k : Hid (Row x5 gk ck lk) := Rx3k.out.later bx5
        clear Rx3k
        have Rx5h : Hid (Row x5 gh ch lh) := Rx3h.out.later bx5
        clear Rx3h
        have Rx5x : Hid (Row x5 gx cx (strI lk lh n)) := Nx3.out.later bx5
        clear Nx3
        have Bx5 : Hid (Below w.heap.size w x5) := Bx3.out.trans (bx5.mono Bx3.out.size)
        clear Bx3
        clear bx5
        obtain rfl : M = my := Eq.symm (by rw [Ey.out]; exact (strI_len lk lh M OKm.out))
        obtain ⟨I, hI, hI2⟩ : ∃ I : Nat, (M : Int) / 32 = (I : Int) ∧ M / 32 = I := ⟨M / 32, by omega, rfl⟩
        obtain ⟨P, hP, hP2⟩ : ∃ P : Nat, 32 * (I : Int) = (P : Int) ∧ 32 * I = P := ⟨32 * I, by omega, rfl⟩
        have hPM : P ≤ M := by omega
        have hI6 : I ≤ 6 := by omega
        have HB1 : Hid (blockI lk lh (I : Int) = sblk lk lh I) := blockI_at lk lh I hI6 (by rw [← HLh.out]; omega)
        have HB2 : Hid ((sblk lk lh I).length = 32) := sblk_len lk lh (by rw [← HLk.out]; omega) (by rw [← HLh.out]; omega) I
        have HTL : Hid ((strI lk lh (M : Int)).drop P = (sblk lk lh I).take (M - P)) := by show _ = _; rw [← hP2, ← hI2]; exact str_tail lk lh M OKm.out
        have hMP : M - P ≤ 32 := by omega
        clear hI2 hP2
        go_wp2_with fail
        refine (implBlockOf _ nk ck _ nh ch lk lh (I : Int) _ (HT.out.later Bx5.out) HLk.out HLh.out Rx5k.out.rd Rx5h.out.rd (by intro e; cases e) (by intro e; cases e) HYk.out HYh.out (by omega) (by omega)).mono ?_
        rintro e x6 ⟨gz, mz, cz, rfl, ex6, hx6, rx6, bx6⟩
        have Ez : Hid (mz = (blockI lk lh (I : Int)).length) := ex6
        have Nx6 : Hid (Row x6 gz cz (blockI lk lh (I : Int))) := rx6
        clear ex6 rx6 hx6
        have Rx6k : Hid (Row x6 gk ck lk) := Rx5k.out.later bx6
        clear Rx5k
        have Rx6h : Hid (Row x6 gh ch lh) := Rx5h.out.later bx6
        clear Rx5h
        have Rx6x : Hid (Row x6 gx cx (strI lk lh n)) := Rx5x.out.later bx6
        clear Rx5x
        have Rx6y : Hid (Row x6 gy cy (strI lk lh (M : Int))) := Nx5.out.later bx6
        clear Nx5
        have Bx6 : Hid (Below w.heap.size w x6) := Bx5.out.trans (bx6.mono Bx5.out.size)
        clear Bx5
        clear bx6
        obtain rfl : 32 = mz := Eq.symm (by rw [Ez.out]; exact (by rw [HB1.out]; exact HB2.out))
        have hcy : M ≤ cy := by have := Rx6y.out.1; rw [← Ey.out] at this; exact this
        have hcz : 32 ≤ cz := by have := Nx6.out.1; rw [← Ez.out] at this; exact this
        obtain ⟨o, hif, hRo⟩ : ∃ o, (if cy = P then some (⟨gy, 0, none⟩ : Addr) else some ⟨gy, P, none⟩) = some ⟨gy, o, none⟩ ∧ Rd x6 (some ⟨gy, o, none⟩) ((sblk lk lh I).take (M - P)) := tail_at Rx6y.out M P Ey.out hPM hcy HTL.out
        have HRo : Hid (Rd x6 (some ⟨gy, o, none⟩) ((sblk lk lh I).take (M - P))) := hRo
        clear hRo
        have j0 : (0 : Int) ≤ (P : Int) := by omega
        have j1 : (P : Int) ≤ (M : Int) := by omega
        have j2 : (M : Int) ≤ (cy : Int) := by omega
        go_wp2_with fail
        refine (starts_at gz cz gy o _ 32 (M - P) ((sblk lk lh I).take (M - P)) (blockI lk lh (I : Int)) _ Ez.out (by rw [List.length_take, HB2.out]; omega) hcz (by rw [HB1.out]) (by omega) Nx6.out.rd HRo.out (by omega)).mono ?_
        rintro e x7 ⟨rfl, mx7, dx7⟩
        have bx7 : Below x6.heap.size x6 x7 := by rw [dx7]; exact below_drewN (Below.refl _ _) _
        clear dx7
        have Rx7k : Hid (Row x7 gk ck lk) := Rx6k.out.later bx7
        clear Rx6k
        have Rx7h : Hid (Row x7 gh ch lh) := Rx6h.out.later bx7
        clear Rx6h
        have Rx7x : Hid (Row x7 gx cx (strI lk lh n)) := Rx6x.out.later bx7
        clear Rx6x
        have Rx7y : Hid (Row x7 gy cy (strI lk lh (M : Int))) := Rx6y.out.later bx7
        clear Rx6y
        have Rx7z : Hid (Row x7 gz cz (blockI lk lh (I : Int))) := Nx6.out.later bx7
        clear Nx6
        have Bx7 : Hid (Below w.heap.size w x7) := Bx6.out.trans (bx7.mono Bx6.out.size)
        clear Bx6
        clear bx7
        clear HRo hif
        go_wp2
        go_ret
        exact ⟨rfl, Bx7.out⟩
    · have OKn : Hid (mayStr lk lh n = false) := by show _ = _; rw [mayStr, decide_eq_false_iff_not, ← HLh.out]; omega
      have p9 : ¬ ((nh : Int) > 100) := by omega
      have p0 : n < 0 := by omega
      go_wp2_with fail
      refine (implStream _ nk ck _ nh ch lk lh n _ (HT.out.later Bx2.out) HLk.out HLh.out Rk.out.rd Rh.out.rd (by intro e; cases e) (by intro e; cases e) HYk.out HYh.out (by omega) (by omega)).mono ?_
      rintro e x3 ⟨gx, mx, cx, rfl, ex3, hx3, rx3, bx3⟩
      have Ex : Hid (mx = (strI lk lh n).length) := ex3
      have Nx3 : Hid (Row x3 gx cx (strI lk lh n)) := rx3
      clear ex3 rx3 hx3
      have Rx3k : Hid (Row x3 gk ck lk) := Rk.out.later bx3
      clear Rk
      have Rx3h : Hid (Row x3 gh ch lh) := Rh.out.later bx3
      clear Rh
      have Bx3 : Hid (Below w.heap.size w x3) := Bx2.out.trans (bx3.mono Bx2.out.size)
      clear Bx2
      clear bx3
      obtain rfl : 0 = mx := Eq.symm (by rw [Ex.out]; exact (by rw [strI_no lk lh n OKn.out]; rfl))
      go_wp2_with fail
      refine (atN a len cap l 2 x3 HL.out (HR.out.later Bx3.out (Nat.le_refl _)) HB.out hlen (by omega)).mono ?_
      rintro e x4 ⟨u, rfl, u0, u1, rfl⟩
      obtain ⟨M, hM, hM2⟩ : ∃ M : Nat, u % 201 = (M : Int) ∧ M ≤ 200 := ⟨(u % 201).toNat, by omega, by omega⟩
      have OKm : Hid (mayStr lk lh (M : Int) = true) := (mayStr_iff lk lh _).2 ⟨by omega, by omega, by rw [← HLh.out]; omega, by rw [← HLk.out]; omega⟩
      go_wp2_with fail
      refine (implStream _ nk ck _ nh ch lk lh (M : Int) _ (HT.out.later Bx3.out) HLk.out HLh.out Rx3k.out.rd Rx3h.out.rd (by intro e; cases e) (by intro e; cases e) HYk.out HYh.out (by omega) (by omega)).mono ?_
      rintro e x5 ⟨gy, my, cy, rfl, ex5, hx5, rx5, bx5⟩
      have Ey : Hid (my = (strI lk lh (M : Int)).length) := ex5
      have Nx5 : Hid (Row x5 gy cy (strI lk lh (M : Int))) := rx5
      clear ex5 rx5 hx5
      have Rx5k : Hid (Row x5 gk ck lk) := Rx3k.out.later bx5
      clear Rx3k
      have Rx5h : Hid (Row x5 gh ch lh) := Rx3h.out.later bx5
      clear Rx3h
      have Rx5x : Hid (Row x5 gx cx (strI lk lh n)) := Nx3.out.later bx5
      clear Nx3
      have Bx5 : Hid (Below w.heap.size w x5) := Bx3.out.trans (bx5.mono Bx3.out.size)
      clear Bx3
      clear bx5
      obtain rfl : M = my := Eq.symm (by rw [Ey.out]; exact (strI_len lk lh M OKm.out))
      obtain ⟨I, hI, hI2⟩ : ∃ I : Nat, (M : Int) / 32 = (I : Int) ∧ M / 32 = I := ⟨M / 32, by omega, rfl⟩
      obtain ⟨P, hP, hP2⟩ : ∃ P : Nat, 32 * (I : Int) = (P : Int) ∧ 32 * I = P := ⟨32 * I, by omega, rfl⟩
      have hPM : P ≤ M := by omega
      have hI6 : I ≤ 6 := by omega
      have HB1 : Hid (blockI lk lh (I : Int) = sblk lk lh I) := blockI_at lk lh I hI6 (by rw [← HLh.out]; omega)
      have HB2 : Hid ((sblk lk lh I).length = 32) := sblk_len lk lh (by rw [← HLk.out]; omega) (by rw [← HLh.out]; omega) I
      have HTL : Hid ((strI lk lh (M : Int)).drop P = (sblk lk lh I).take (M - P)) := by show _ = _; rw [← hP2, ← hI2]; exact str_tail lk lh M OKm.out
      have hMP : M - P ≤ 32 := by omega
      clear hI2 hP2
      go_wp2_with fail
      refine (implBlockOf _ nk ck _ nh ch lk lh (I : Int) _ (HT.out.later Bx5.out) HLk.out HLh.out Rx5k.out.rd Rx5h.out.rd (by intro e; cases e) (by intro e; cases e) HYk.out HYh.out (by omega) (by omega)).mono ?_
      rintro e x6 ⟨gz, mz, cz, rfl, ex6, hx6, rx6, bx6⟩
      have Ez : Hid (mz = (blockI lk lh (I : Int)).length) := ex6
      have Nx6 : Hid (Row x6 gz cz (blockI lk lh (I : Int))) := rx6
      clear ex6 rx6 hx6
      have Rx6k : Hid (Row x6 gk ck lk) := Rx5k.out.later bx6
      clear Rx5k
      have Rx6h : Hid (Row x6 gh ch lh) := Rx5h.out.later bx6
      clear Rx5h
      have Rx6x : Hid (Row x6 gx cx (strI lk lh n)) := Rx5x.out.later bx6
      clear Rx5x
      have Rx6y : Hid (Row x6 gy cy (strI lk lh (M : Int))) := Nx5.out.later bx6
      clear Nx5
      have Bx6 : Hid (Below w.heap.size w x6) := Bx5.out.trans (bx6.mono Bx5.out.size)
      clear Bx5
      clear bx6
      obtain rfl : 32 = mz := Eq.symm (by rw [Ez.out]; exact (by rw [HB1.out]; exact HB2.out))
      have hcy : M ≤ cy := by have := Rx6y.out.1; rw [← Ey.out] at this; exact this
      have hcz : 32 ≤ cz := by have := Nx6.out.1; rw [← Ez.out] at this; exact this
      obtain ⟨o, hif, hRo⟩ : ∃ o, (if cy = P then some (⟨gy, 0, none⟩ : Addr) else some ⟨gy, P, none⟩) = some ⟨gy, o, none⟩ ∧ Rd x6 (some ⟨gy, o, none⟩) ((sblk lk lh I).take (M - P)) := tail_at Rx6y.out M P Ey.out hPM hcy HTL.out
      have HRo : Hid (Rd x6 (some ⟨gy, o, none⟩) ((sblk lk lh I).take (M - P))) := hRo
      clear hRo
      have j0 : (0 : Int) ≤ (P : Int) := by omega
      have j1 : (P : Int) ≤ (M : Int) := by omega
      have j2 : (M : Int) ≤ (cy : Int) := by omega
      go_wp2_with fail
      refine (starts_at gz cz gy o _ 32 (M - P) ((sblk lk lh I).take (M - P)) (blockI lk lh (I : Int)) _ Ez.out (by rw [List.length_take, HB2.out]; omega) hcz (by rw [HB1.out]) (by omega) Nx6.out.rd HRo.out (by omega)).mono ?_
      rintro e x7 ⟨rfl, mx7, dx7⟩
      have bx7 : Below x6.heap.size x6 x7 := by rw [dx7]; exact below_drewN (Below.refl _ _) _
      clear dx7
      have Rx7k : Hid (Row x7 gk ck lk) := Rx6k.out.later bx7
      clear Rx6k
      have Rx7h : Hid (Row x7 gh ch lh) := Rx6h.out.later bx7
      clear Rx6h
      have Rx7x : Hid (Row x7 gx cx (strI lk lh n)) := Rx6x.out.later bx7
      clear Rx6x
      have Rx7y : Hid (Row x7 gy cy (strI lk lh (M : Int))) := Rx6y.out.later bx7
      clear Rx6y
      have Rx7z : Hid (Row x7 gz cz (blockI lk lh (I : Int))) := Nx6.out.later bx7
      clear Nx6
      have Bx7 : Hid (Below w.heap.size w x7) := Bx6.out.trans (bx7.mono Bx6.out.size)
      clear Bx6
      clear bx7
      clear HRo hif
      go_wp2
      go_ret
      exact ⟨rfl, Bx7.out⟩
  · have OKn : Hid (mayStr lk lh n = false) := by show _ = _; rw [mayStr, decide_eq_false_iff_not, ← HLh.out]; omega
    have p9 : (nh : Int) > 100 := by omega
    go_wp2_with fail
    refine (implStream _ nk ck _ nh ch lk lh n _ (HT.out.later Bx2.out) HLk.out HLh.out Rk.out.rd Rh.out.rd (by intro e; cases e) (by intro e; cases e) HYk.out HYh.out (by omega) (by omega)).mono ?_
    rintro e x3 ⟨gx, mx, cx, rfl, ex3, hx3, rx3, bx3⟩
    have Ex : Hid (mx = (strI lk lh n).length) := ex3
    have Nx3 : Hid (Row x3 gx cx (strI lk lh n)) := rx3
    clear ex3 rx3 hx3
    have Rx3k : Hid (Row x3 gk ck lk) := Rk.out.later bx3
    clear Rk
    have Rx3h : Hid (Row x3 gh ch lh) := Rh.out.later bx3
    clear Rh
    have Bx3 : Hid (Below w.heap.size w x3) := Bx2.out.trans (bx3.mono Bx2.out.size)
    clear Bx2
    clear bx3
    obtain rfl : 0 = mx := Eq.symm (by rw [Ex.out]; exact (by rw [strI_no lk lh n OKn.out]; rfl))
    go_wp2_with fail
    refine (atN a len cap l 2 x3 HL.out (HR.out.later Bx3.out (Nat.le_refl _)) HB.out hlen (by omega)).mono ?_
    rintro e x4 ⟨u, rfl, u0, u1, rfl⟩
    obtain ⟨M, hM, hM2⟩ : ∃ M : Nat, u % 201 = (M : Int) ∧ M ≤ 200 := ⟨(u % 201).toNat, by omega, by omega⟩
    have OKm : Hid (mayStr lk lh (M : Int) = false) := by show _ = _; rw [mayStr, decide_eq_false_iff_not, ← HLh.out]; omega
    go_wp2_with fail
    refine (implStream _ nk ck _ nh ch lk lh (M : Int) _ (HT.out.later Bx3.out) HLk.out HLh.out Rx3k.out.rd Rx3h.out.rd (by intro e; cases e) (by intro e; cases e) HYk.out HYh.out (by omega) (by omega)).mono ?_
    rintro e x5 ⟨gy, my, cy, rfl, ex5, hx5, rx5, bx5⟩
    have Ey : Hid (my = (strI lk lh (M : Int)).length) := ex5
    have Nx5 : Hid (Row x5 gy cy (strI lk lh (M : Int))) := rx5
    clear ex5 rx5 hx5
    have Rx5k : Hid (Row x5 gk ck lk) := Rx3k.out.later bx5
    clear Rx3k
    have Rx5h : Hid (Row x5 gh ch lh) := Rx3h.out.later bx5
    clear Rx3h
    have Rx5x : Hid (Row x5 gx cx (strI lk lh n)) := Nx3.out.later bx5
    clear Nx3
    have Bx5 : Hid (Below w.heap.size w x5) := Bx3.out.trans (bx5.mono Bx3.out.size)
    clear Bx3
    clear bx5
    obtain rfl : 0 = my := Eq.symm (by rw [Ey.out]; exact (by rw [strI_no lk lh _ OKm.out]; rfl))
    go_wp2
    go_ret
    exact ⟨rfl, Bx5.out⟩


theorem walk (a : Option Addr) (len cap : Nat) (zs : List Int) (w : World) (hT : Tab w) (h : IsRow .u8 w a len cap zs) :
    Calls Tryd.prog 3 #[.slice a len cap] w fun e w' => e = .returned (.bool true) ∧ Below w.heap.size w w' := by
  obtain ⟨l, hl, hr, _, hb⟩ := h.read
  by_cases hlen : len ≤ 1048576
  · exact small a len cap l w hT hl hr hb hlen
  · clear hl hr hb h
    go_enter Tryd.func3, Tryd.ntmps3
    go_wp2_with fail
    refine (bigYes a len cap w (by omega)).mono ?_
    rintro e w1 ⟨rfl, rfl⟩
    go_wp2
    go_ret
    exact ⟨rfl, Below.refl _ _⟩
end Go.Proofs.YtppckomiobablaaDoor.LawStreams
