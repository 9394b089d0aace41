/-
  laws.FnLongKeys answers true at every slice of bytes, where the table of round words holds what the program's text lays into it; nothing that was there is written into.
-/
import Derived.Test.YtfoilfbpbjfkcaaDoorMacI
import Derived.Test.YtfoilfbpbjfkcaaDoorMacS
import Derived.Test.YtfoilfbpbjfkcaaDoorDrawM
import Derived.Test.YtfoilfbpbjfkcaaDoorDrawS
import Derived.Test.YtfoilfbpbjfkcaaDoorSame
namespace Go.Proofs.YtfoilfbpbjfkcaaDoor.LawLongKeys
open Go.RowKit Go.Proofs.YtfoilfbpbjfkcaaDoor.Mem Go.Proofs.YtfoilfbpbjfkcaaDoor.App Go.Proofs.YtfoilfbpbjfkcaaDoor.Draw Go.Proofs.YtfoilfbpbjfkcaaDoor.DrawS Go.Proofs.YtfoilfbpbjfkcaaDoor.Same Go.Proofs.YtfoilfbpbjfkcaaDoor.Comp Go.Proofs.YtfoilfbpbjfkcaaDoor.Ends Go.Proofs.YtfoilfbpbjfkcaaDoor.MacP Go.Proofs.YtfoilfbpbjfkcaaDoor.MacI Go.Proofs.YtfoilfbpbjfkcaaDoor.MacS Go.Proofs.YtfoilfbpbjfkcaaDoor.DrawM Go.Proofs.YtfoilfbpbjfkcaaDoor.AppAt

theorem keyI_full (k : List Int) (h : k.length = 64) : keyI k = k := by
  have hs : short k = k := by unfold short; rw [if_pos (by omega)]
  unfold keyI; rw [if_pos (by omega), hs, h]; simp
theorem hmac_of_key (k k2 b : List Int) (h1 : k.length ≤ 1048576) (h2 : k2.length ≤ 1048576) (h : keyI k2 = keyI k) : hmacI k2 b = hmacI k b := by
  unfold hmacI
  by_cases hb : b.length ≤ 1048512
  · rw [if_pos ⟨h2, hb⟩, if_pos ⟨h1, hb⟩, h]
  · rw [if_neg (fun x => hb x.2), if_neg (fun x => hb x.2)]
theorem hmacI_key (k b : List Int) (h : k.length ≤ 1048576) : hmacI (keyI k) b = hmacI k b :=
  hmac_of_key k (keyI k) b h (by rw [keyI_len k h]; omega) (keyI_full _ (keyI_len k h))
theorem hmacI_sha (k b : List Int) (h1 : 64 < k.length) (h : k.length ≤ 1048576) : hmacI (shaI k) b = hmacI k b := by
  apply hmac_of_key k (shaI k) b h (by rw [shaI_len k h]; omega)
  have e1 : short (shaI k) = shaI k := by unfold short; rw [if_pos (by rw [shaI_len k h]; omega)]
  have e2 : short k = shaI k := by unfold short; rw [if_neg (by omega)]
  unfold keyI; rw [if_pos (by rw [shaI_len k h]; omega), if_pos h, e1, e2]
theorem hmacI_nought (k b : List Int) (h : k.length < 64) : hmacI (k ++ [0]) b = hmacI k b := by
  apply hmac_of_key k (k ++ [0]) b (by omega) (by simp; omega)
  have e1 : short (k ++ [0]) = k ++ [0] := by unfold short; rw [if_pos (by simp; omega)]
  have e2 : short k = k := by unfold short; rw [if_pos (by omega)]
  unfold keyI; rw [if_pos (by simp; omega), if_pos (by omega), e1, e2, List.append_assoc]
  congr 1
  rw [List.length_append, List.length_singleton, show 64 - k.length = (64 - (k.length + 1)) + 1 by omega, List.replicate_succ]
  rfl

set_option maxRecDepth 100000 in
set_option maxHeartbeats 4000000 in
theorem small (a : Option Addr) (len cap : Nat) (l : List Int) (w : World) (hT : Tab w) (hl : len = l.length) (hr : Rd w a l) (hb : Bytes l) (hlen : len ≤ 1048576) :
    Calls Tryd.prog 5 #[.slice a len cap] w fun e w' => e = .returned (.bool true) ∧ Below w.heap.size w w' := by
  have HT : Hid (Tab w) := hT
  clear hT
  have HR : Hid (Rd w a l) := hr
  have HB : Hid (Bytes l) := hb
  have HL : Hid (len = l.length) := hl
  clear hr hb hl
  go_enter Tryd.func5, Tryd.ntmps5
  go_wp2_with fail
  refine (bigNo a len cap w hlen).mono ?_
  rintro e x1 ⟨rfl, rfl⟩
  go_wp2_with fail
  refine (drawHmac a len cap l w HL.out HR.out HB.out hlen).mono ?_
  rintro e x2 ⟨gk, nk, ck, lk, gb, nb, cb, lb, rfl, elk, hzk, hyk, elb, hzb, hyb, rwk, rwb, bx2⟩
  have HLk : Hid (nk = lk.length) := elk
  have HYk : Hid (Bytes lk) := hyk
  have Rk : Hid (Row x2 gk ck lk) := rwk
  have HLb : Hid (nb = lb.length) := elb
  have HYb : Hid (Bytes lb) := hyb
  have Rb : Hid (Row x2 gb cb lb) := rwb
  clear elk hyk rwk elb hyb rwb
  have Bx2 : Hid (Below w.heap.size w x2) := bx2
  clear bx2
  have H32 : Hid ((hmacI lk lb).length = 32) := hmacI_len lk lb (by rw [← HLk.out]; omega) (by rw [← HLb.out]; omega)
  have HKY : Hid (Bytes (keyI lk)) := keyI_bytes lk HYk.out
  have HK64 : Hid ((keyI lk).length = 64) := keyI_len lk (by rw [← HLk.out]; omega)
  have EQ1 : Hid (hmacI (keyI lk) lb = hmacI lk lb) := hmacI_key lk lb (by rw [← HLk.out]; omega)
  go_wp2_with fail
  refine (implHmac _ nk ck _ nb cb lk lb _ (HT.out.later Bx2.out) HLk.out HLb.out Rk.out.rd Rb.out.rd (by intro e; cases e) (by intro e; cases e) HYk.out HYb.out (by omega) (by omega)).mono ?_
  rintro e x3 ⟨gh, mh, ch, rfl, ex3, hx3, rx3, bx3⟩
  have Eh : Hid (mh = (hmacI lk lb).length) := ex3
  obtain rfl : mh = 32 := by rw [Eh.out]; exact H32.out
  have Nx3 : Hid (Row x3 gh ch (hmacI lk lb)) := rx3
  clear ex3 rx3 hx3
  have Rx3k : Hid (Row x3 gk ck lk) := Rk.out.later bx3
  clear Rk
  have Rx3b : Hid (Row x3 gb cb lb) := Rb.out.later bx3
  clear Rb
  have Bx3 : Hid (Below w.heap.size w x3) := Bx2.out.trans (bx3.mono Bx2.out.size)
  clear Bx2
  clear bx3
  go_wp2_with fail
  refine (specHmac _ nk ck _ nb cb lk lb _  HLk.out HLb.out Rx3k.out.rd Rx3b.out.rd (by intro e; cases e) (by intro e; cases e) HYk.out HYb.out (by omega) (by omega)).mono ?_
  rintro e x4 ⟨gs, ms, cs, rfl, ex4, hx4, rx4, bx4⟩
  have Es : Hid (ms = (hmacI lk lb).length) := ex4
  obtain rfl : ms = 32 := by rw [Es.out]; exact H32.out
  have Nx4 : Hid (Row x4 gs cs (hmacI lk lb)) := rx4
  clear ex4 rx4 hx4
  have Rx4k : Hid (Row x4 gk ck lk) := Rx3k.out.later bx4
  clear Rx3k
  have Rx4b : Hid (Row x4 gb cb lb) := Rx3b.out.later bx4
  clear Rx3b
  have Rx4h : Hid (Row x4 gh ch (hmacI lk lb)) := Nx3.out.later bx4
  clear Nx3
  have Bx4 : Hid (Below w.heap.size w x4) := Bx3.out.trans (bx4.mono Bx3.out.size)
  clear Bx3
  clear bx4
  go_wp2_with fail
  refine (same_yes gh ch 32 gs cs 32 ((hmacI lk lb)) _ Eh.out Es.out Rx4h.out.rd Nx4.out.rd).mono ?_
  rintro e x5 ⟨rfl, rfl⟩
  go_wp2_with fail
  refine (implBlockKey _ nk ck lk _ (HT.out.later Bx4.out) HLk.out Rx4k.out.rd (by intro e; cases e) HYk.out (by omega)).mono ?_
  rintro e x6 ⟨gy, my, cy, rfl, ex6, hx6, rx6, bx6⟩
  have Ey : Hid (my = (keyI lk).length) := ex6
  obtain rfl : my = 64 := by rw [Ey.out]; exact HK64.out
  have Nx6 : Hid (Row x6 gy cy (keyI lk)) := rx6
  clear ex6 rx6 hx6
  have Rx6k : Hid (Row x6 gk ck lk) := Rx4k.out.later bx6
  clear Rx4k
  have Rx6b : Hid (Row x6 gb cb lb) := Rx4b.out.later bx6
  clear Rx4b
  have Rx6h : Hid (Row x6 gh ch (hmacI lk lb)) := Rx4h.out.later bx6
  clear Rx4h
  have Rx6s : Hid (Row x6 gs cs (hmacI lk lb)) := Nx4.out.later bx6
  clear Nx4
  have Bx6 : Hid (Below w.heap.size w x6) := Bx4.out.trans (bx6.mono Bx4.out.size)
  clear Bx4
  clear bx6
  go_wp2_with fail
  refine (implHmac _ 64 cy _ nb cb (keyI lk) lb _ (HT.out.later Bx6.out) Ey.out HLb.out Nx6.out.rd Rx6b.out.rd (by intro e; cases e) (by intro e; cases e) HKY.out HYb.out (by omega) (by omega)).mono ?_
  rintro e x7 ⟨gt, mt, ct, rfl, ex7, hx7, rx7, bx7⟩
  have Et : Hid (mt = (hmacI (keyI lk) lb).length) := ex7
  obtain rfl : mt = 32 := by rw [Et.out]; exact (by rw [EQ1.out]; exact H32.out)
  have Nx7 : Hid (Row x7 gt ct (hmacI (keyI lk) lb)) := rx7
  clear ex7 rx7 hx7
  have Rx7k : Hid (Row x7 gk ck lk) := Rx6k.out.later bx7
  clear Rx6k
  have Rx7b : Hid (Row x7 gb cb lb) := Rx6b.out.later bx7
  clear Rx6b
  have Rx7h : Hid (Row x7 gh ch (hmacI lk lb)) := Rx6h.out.later bx7
  clear Rx6h
  have Rx7s : Hid (Row x7 gs cs (hmacI lk lb)) := Rx6s.out.later bx7
  clear Rx6s
  have Rx7y : Hid (Row x7 gy cy (keyI lk)) := Nx6.out.later bx7
  clear Nx6
  have Bx7 : Hid (Below w.heap.size w x7) := Bx6.out.trans (bx7.mono Bx6.out.size)
  clear Bx6
  clear bx7
  go_wp2_with fail
  refine (same_yes gh ch 32 gt ct 32 ((hmacI lk lb)) _ Eh.out (EQ1.out ▸ Et.out) Rx7h.out.rd (EQ1.out ▸ Nx7.out.rd)).mono ?_
  rintro e x8 ⟨rfl, rfl⟩
  by_cases k1 : 64 < nk
  · have k1I : (nk : Int) > 64 := by omega
    have HS32 : Hid ((shaI lk).length = 32) := shaI_len lk (by rw [← HLk.out]; omega)
    have EQ2 : Hid (hmacI (shaI lk) lb = hmacI lk lb) := hmacI_sha lk lb (by rw [← HLk.out]; omega) (by rw [← HLk.out]; omega)
    go_wp2_with fail
    refine (implSha _ nk ck lk _ (HT.out.later Bx7.out) HLk.out Rx7k.out.rd (by intro e; cases e) HYk.out (by omega)).mono ?_
    rintro e x9 ⟨gu, mu, cu, rfl, ex9, hx9, rx9, bx9⟩
    have Eu : Hid (mu = (shaI lk).length) := ex9
    obtain rfl : mu = 32 := by rw [Eu.out]; exact HS32.out
    have Nx9 : Hid (Row x9 gu cu (shaI lk)) := rx9
    clear ex9 rx9 hx9
    have Rx9k : Hid (Row x9 gk ck lk) := Rx7k.out.later bx9
    clear Rx7k
    have Rx9b : Hid (Row x9 gb cb lb) := Rx7b.out.later bx9
    clear Rx7b
    have Rx9h : Hid (Row x9 gh ch (hmacI lk lb)) := Rx7h.out.later bx9
    clear Rx7h
    have Rx9s : Hid (Row x9 gs cs (hmacI lk lb)) := Rx7s.out.later bx9
    clear Rx7s
    have Rx9y : Hid (Row x9 gy cy (keyI lk)) := Rx7y.out.later bx9
    clear Rx7y
    have Rx9t : Hid (Row x9 gt ct (hmacI (keyI lk) lb)) := Nx7.out.later bx9
    clear Nx7
    have Bx9 : Hid (Below w.heap.size w x9) := Bx7.out.trans (bx9.mono Bx7.out.size)
    clear Bx7
    clear bx9
    go_wp2_with fail
    refine (implHmac _ 32 cu _ nb cb (shaI lk) lb _ (HT.out.later Bx9.out) Eu.out HLb.out Nx9.out.rd Rx9b.out.rd (by intro e; cases e) (by intro e; cases e) (shaI_bytes lk) HYb.out (by omega) (by omega)).mono ?_
    rintro e x10 ⟨gz, mz, cz, rfl, ex10, hx10, rx10, bx10⟩
    have Ez : Hid (mz = (hmacI (shaI lk) lb).length) := ex10
    obtain rfl : mz = 32 := by rw [Ez.out]; exact (by rw [EQ2.out]; exact H32.out)
    have Nx10 : Hid (Row x10 gz cz (hmacI (shaI lk) lb)) := rx10
    clear ex10 rx10 hx10
    have Rx10k : Hid (Row x10 gk ck lk) := Rx9k.out.later bx10
    clear Rx9k
    have Rx10b : Hid (Row x10 gb cb lb) := Rx9b.out.later bx10
    clear Rx9b
    have Rx10h : Hid (Row x10 gh ch (hmacI lk lb)) := Rx9h.out.later bx10
    clear Rx9h
    have Rx10s : Hid (Row x10 gs cs (hmacI lk lb)) := Rx9s.out.later bx10
    clear Rx9s
    have Rx10y : Hid (Row x10 gy cy (keyI lk)) := Rx9y.out.later bx10
    clear Rx9y
    have Rx10t : Hid (Row x10 gt ct (hmacI (keyI lk) lb)) := Rx9t.out.later bx10
    clear Rx9t
    have Rx10u : Hid (Row x10 gu cu (shaI lk)) := Nx9.out.later bx10
    clear Nx9
    have Bx10 : Hid (Below w.heap.size w x10) := Bx9.out.trans (bx10.mono Bx9.out.size)
    clear Bx9
    clear bx10
    go_wp2_with fail
    refine (same_yes gh ch 32 gz cz 32 ((hmacI lk lb)) _ Eh.out (EQ2.out ▸ Ez.out) Rx10h.out.rd (EQ2.out ▸ Nx10.out.rd)).mono ?_
    rintro e x11 ⟨rfl, rfl⟩
    go_wp2
    go_ret
    exact ⟨rfl, Bx10.out⟩
  · by_cases k2 : nk < 64
    · have k1I : ¬ ((nk : Int) > 64) := by omega
      have k2I : (nk : Int) < 64 := by omega
      have EQ3 : Hid (hmacI (lk ++ [0]) lb = hmacI lk lb) := hmacI_nought lk lb (by rw [← HLk.out]; omega)
      have HYz : Hid (Bytes (lk ++ [0])) := bytes_append HYk.out (by intro z hz; simp at hz; omega)
      have A1 : Hid (Below w.heap.size w (x7.alloc (.cells #[] 5))) := Bx7.out.alloc Bx7.out.size _
      have A1c : Hid (Below x7.heap.size x7 (x7.alloc (.cells #[] 5))) := (Below.refl _ _).alloc (Nat.le_refl _) _
      have E1 : Hid (Row (x7.alloc (.cells #[] 5)) x7.heap.size 0 []) := row_new x7 [] (by simp)
      go_wp2_with (first | (at_builtin; refine wpList_app_at _ rfl (.tmp 49) (.tmp 50) rfl x7.heap.size x7.heap.size 0 0 [] lk rfl rfl E1.out (Nat.le_refl _) (some ⟨gk, 0, none⟩) nk ck rfl HLk.out (row_alloc Rx7k.out _).rd (by intro e; cases e) (by rw [← HLk.out]; simp; omega) ?_; intro ga ca x9 r1 k1' l1 gr1; have RA : Hid (Row x9 ga ca lk) := (List.nil_append lk) ▸ r1; have GA : Hid (x7.heap.size ≤ ga) := k1'; have BA : Hid (Below x7.heap.size x7 x9) := A1c.out.grown gr1 A1c.out.size (fun k h => by cases h; exact Nat.le_refl _); clear r1 k1' l1 gr1) | (at_builtin; refine wpList_app_at _ rfl (.tmp 51) (.tmp 52) rfl x7.heap.size ga nk ca lk [0] rfl HLk.out (row_alloc RA.out _) GA.out (some ⟨x9.heap.size, 0, none⟩) 1 1 rfl rfl (rd_one x9 0) (by intro e; cases e) (by rw [← HLk.out, List.length_singleton]; omega) ?_; intro gz cz x10 r2 k2' l2 gr2; have RZ : Hid (Row x10 gz cz (lk ++ [0])) := r2; have bx10 : Below x7.heap.size x7 x10 := (BA.out.alloc BA.out.size _).grown gr2 (Below.size (BA.out.alloc BA.out.size _)) (fun k h => by cases h; exact GA.out); clear r2 k2' l2 gr2))
      clear A1 A1c E1 RA BA GA
      have Rx10k : Hid (Row x10 gk ck lk) := Rx7k.out.later bx10
      clear Rx7k
      have Rx10b : Hid (Row x10 gb cb lb) := Rx7b.out.later bx10
      clear Rx7b
      have Rx10h : Hid (Row x10 gh ch (hmacI lk lb)) := Rx7h.out.later bx10
      clear Rx7h
      have Rx10s : Hid (Row x10 gs cs (hmacI lk lb)) := Rx7s.out.later bx10
      clear Rx7s
      have Rx10y : Hid (Row x10 gy cy (keyI lk)) := Rx7y.out.later bx10
      clear Rx7y
      have Rx10t : Hid (Row x10 gt ct (hmacI (keyI lk) lb)) := Nx7.out.later bx10
      clear Nx7
      have Bx10 : Hid (Below w.heap.size w x10) := Bx7.out.trans (bx10.mono Bx7.out.size)
      clear Bx7
      clear bx10
      refine (implHmac _ (nk + 1) cz _ nb cb (lk ++ [0]) lb _ (HT.out.later Bx10.out) (by rw [List.length_append, ← HLk.out]; rfl) HLb.out RZ.out.rd Rx10b.out.rd (by intro e; cases e) (by intro e; cases e) HYz.out HYb.out (by omega) (by omega)).mono ?_
      rintro e x11 ⟨gq, mq, cq, rfl, ex11, hx11, rx11, bx11⟩
      have Eq : Hid (mq = (hmacI (lk ++ [0]) lb).length) := ex11
      obtain rfl : mq = 32 := by rw [Eq.out]; exact (by rw [EQ3.out]; exact H32.out)
      have Nx11 : Hid (Row x11 gq cq (hmacI (lk ++ [0]) lb)) := rx11
      clear ex11 rx11 hx11
      have Rx11k : Hid (Row x11 gk ck lk) := Rx10k.out.later bx11
      clear Rx10k
      have Rx11b : Hid (Row x11 gb cb lb) := Rx10b.out.later bx11
      clear Rx10b
      have Rx11h : Hid (Row x11 gh ch (hmacI lk lb)) := Rx10h.out.later bx11
      clear Rx10h
      have Rx11s : Hid (Row x11 gs cs (hmacI lk lb)) := Rx10s.out.later bx11
      clear Rx10s
      have Rx11y : Hid (Row x11 gy cy (keyI lk)) := Rx10y.out.later bx11
      clear Rx10y
      have Rx11t : Hid (Row x11 gt ct (hmacI (keyI lk) lb)) := Rx10t.out.later bx11
      clear Rx10t
      have Rx11z : Hid (Row x11 gz cz (lk ++ [0])) := RZ.out.later bx11
      clear RZ
      have Bx11 : Hid (Below w.heap.size w x11) := Bx10.out.trans (bx11.mono Bx10.out.size)
      clear Bx10
      clear bx11
      go_wp2_with fail
      refine (same_yes gh ch 32 gq cq 32 ((hmacI lk lb)) _ Eh.out (EQ3.out ▸ Eq.out) Rx11h.out.rd (EQ3.out ▸ Nx11.out.rd)).mono ?_
      rintro e x12 ⟨rfl, rfl⟩
      go_wp2
      go_ret
      exact ⟨rfl, Bx11.out⟩
    · obtain rfl : nk = 64 := by omega
      have EQ4 : Hid (keyI lk = lk) := keyI_full lk HLk.out.symm
      go_wp2_with fail
      refine (implBlockKey _ 64 ck lk _ (HT.out.later Bx7.out) HLk.out Rx7k.out.rd (by intro e; cases e) HYk.out (by omega)).mono ?_
      rintro e x9 ⟨gv, mv, cv, rfl, ex9, hx9, rx9, bx9⟩
      have Ev : Hid (mv = (keyI lk).length) := ex9
      obtain rfl : mv = 64 := by rw [Ev.out]; exact HK64.out
      have Nx9 : Hid (Row x9 gv cv (keyI lk)) := rx9
      clear ex9 rx9 hx9
      have Rx9k : Hid (Row x9 gk ck lk) := Rx7k.out.later bx9
      clear Rx7k
      have Rx9b : Hid (Row x9 gb cb lb) := Rx7b.out.later bx9
      clear Rx7b
      have Rx9h : Hid (Row x9 gh ch (hmacI lk lb)) := Rx7h.out.later bx9
      clear Rx7h
      have Rx9s : Hid (Row x9 gs cs (hmacI lk lb)) := Rx7s.out.later bx9
      clear Rx7s
      have Rx9y : Hid (Row x9 gy cy (keyI lk)) := Rx7y.out.later bx9
      clear Rx7y
      have Rx9t : Hid (Row x9 gt ct (hmacI (keyI lk) lb)) := Nx7.out.later bx9
      clear Nx7
      have Bx9 : Hid (Below w.heap.size w x9) := Bx7.out.trans (bx9.mono Bx7.out.size)
      clear Bx7
      clear bx9
      rw [EQ4.out] at Nx9
      go_wp2_with fail
      refine (same_yes gv cv 64 gk ck 64 (lk) _ HLk.out HLk.out Nx9.out.rd Rx9k.out.rd).mono ?_
      rintro e x10 ⟨rfl, rfl⟩
      go_wp2
      go_ret
      exact ⟨rfl, Bx9.out⟩


theorem walk (a : Option Addr) (len cap : Nat) (zs : List Int) (w : World) (hT : Tab w) (h : IsRow .u8 w a len cap zs) :
    Calls Tryd.prog 5 #[.slice a len cap] w fun e w' => e = .returned (.bool true) ∧ Below w.heap.size w w' := by
  obtain ⟨l, hl, hr, _, hb⟩ := h.read
  by_cases hlen : len ≤ 1048576
  · exact small a len cap l w hT hl hr hb hlen
  · clear hl hr hb h
    go_enter Tryd.func5, Tryd.ntmps5
    go_wp2_with fail
    refine (bigYes a len cap w (by omega)).mono ?_
    rintro e w1 ⟨rfl, rfl⟩
    go_wp2
    go_ret
    exact ⟨rfl, Below.refl _ _⟩
end Go.Proofs.YtfoilfbpbjfkcaaDoor.LawLongKeys
