/-
  What spec's BlockKey, Hmac and Tag answer.
  What spec's BlockOf, Stream and Mix answer.
  What Diff and SameTag answer, impl's and spec's.
  Slices of ints as values whose memory lies in a zone, and what the laws' helpers over them answer.
  How long the lists of a Frame are, all in all.
  Slices that came in, as slices that read; answers in new memory, as slices that own theirs.
  A region that draws its order, told by what each of its operations leaves: each operation is shown once, from what those that it waits for have left; the last one, for which all wait, from what all have left.
  One operation of a region that draws its order: one that runs to its end; and 'append' of a slice onto an empty one without room: what was there stays as it was.
  One operation of a region that draws its order: a call of a Go function, by its contract.
-/
import Derived.Test.YtmcflfpckpjphaaHs7
import Derived.Test.YtmcflfpckpjphaaHs4
import Derived.Test.YtmcflfpckpjphaaHs3
import Derived.Test.YtmcflfpckpjphaaHs5
import Derived.Test.YtmcflfpckpjphaaHs1
import Derived.Test.YtmcflfpckpjphaaHs2
import Derived.Deep.RegionLaw
import Derived.Deep.RegionLawGrows
import Derived.Laws.AppendOwnNone
import Derived.Deep.CutBlock
set_option linter.unusedVariables false
namespace Go.Proofs.Ytmcflfpckpjphaa.MacS
open Go.RowKit Go.Proofs.Ytmcflfpckpjphaa.Mem Go.Proofs.Ytmcflfpckpjphaa.MemI Go.Proofs.Ytmcflfpckpjphaa.Blk Go.Proofs.Ytmcflfpckpjphaa.App Go.Proofs.Ytmcflfpckpjphaa.Get Go.Proofs.Ytmcflfpckpjphaa.ShaP Go.Proofs.Ytmcflfpckpjphaa.Cuts Go.Proofs.Ytmcflfpckpjphaa.Ends Go.Proofs.Ytmcflfpckpjphaa.ShaS Go.Proofs.Ytmcflfpckpjphaa.MacP Go.Proofs.Ytmcflfpckpjphaa.Pads Go.Proofs.Ytmcflfpckpjphaa.AppAt

set_option maxRecDepth 100000 in
theorem keyI_of (k : List Int) (h : k.length ≤ 1048576) : keyI k = short k ++ List.replicate (64 - (short k).length) 0 := by unfold keyI; rw [if_pos h]
set_option maxRecDepth 100000 in
theorem zeros_snoc (l : List Int) (j : Nat) : l ++ List.replicate j (0 : Int) ++ [0] = l ++ List.replicate (j + 1) 0 := by
  rw [List.append_assoc, List.replicate_succ']
set_option maxRecDepth 100000 in
theorem mix_take (p : Int) (l : List Int) (k : Nat) (h : k < l.length) : mix p (l.take (k + 1)) = mix p (l.take k) ++ [bits .xor .u8 (l.getD k 0) p] := by
  have e : l.getD k 0 = l[k] := by simp [List.getD, h]
  rw [List.take_succ_eq_append_getElem h, e]
  simp only [mix, List.map_append, List.map_cons, List.map_nil]

set_option maxRecDepth 100000 in
set_option maxHeartbeats 1600000 in
theorem specBlockKey (a : Option Addr) (n cap : Nat) (k : List Int) (w : World) (hn : n = k.length) (hr : Rd w a k) (na : a = none → cap = 0) (hb : Bytes k) (hl : n ≤ 2097152) :
    Calls Try.prog 116 #[.slice a n cap] w fun e w' =>
      ∃ g m c, e = .returned (.slice (some ⟨g, 0, none⟩) m c) ∧ m = (keyI k).length ∧ w.heap.size ≤ g ∧ Row w' g c (keyI k) ∧ Below w.heap.size w w' := by
  have HN : Hid (n = k.length) := hn
  have HR : Hid (Rd w a k) := hr
  have HB : Hid (Bytes k) := hb
  have A0 : Hid (Below w.heap.size w (w.alloc (.cells #[] 5))) := (Below.refl _ _).alloc (Nat.le_refl _) _
  have R0 : Hid (Row (w.alloc (.cells #[] 5)) w.heap.size 0 []) := row_new w [] (by simp)
  clear hn hr hb
  by_cases h1 : n ≤ 1048576
  · have HK : Hid (keyI k = short k ++ List.replicate (64 - (short k).length) 0) := keyI_of k (by rw [← HN.out]; exact h1)
    have HSL : Hid ((short k).length ≤ 64) := short_len k (by rw [← HN.out]; exact h1)
    have h1I : ¬ ((n : Int) > 1048576) := by omega
    by_cases h2 : n ≤ 64
    · have h2I : ¬ ((n : Int) > 64) := by omega
      have HSH : Hid (short k = k) := by show _ = _; unfold short; rw [if_pos (by rw [← HN.out]; exact h2)]
      go_enter Try.func116, Try.ntmps116
      go_wp2_with (at_builtin; refine wpList_app _ rfl (.tmp 8) (.tmp 9) rfl w.heap.size w.heap.size 0 0 [] k rfl rfl R0.out (Nat.le_refl _) a n cap rfl HN.out (HR.out.later A0.out (Nat.le_refl _)) na (by rw [← HN.out]; simp; omega) ?_; intro g1 c1 w1 r1 b1 l1 gr1; have R1 : Hid (Row w1 g1 c1 k) := (List.nil_append k) ▸ r1; have G1 : Hid (w.heap.size ≤ g1) := b1; have B1 : Hid (Below w.heap.size w w1) := A0.out.grown gr1 A0.out.size (fun k h => by cases h; exact Nat.le_refl _); clear r1 b1 l1 gr1)
      have EM : Hid (n = (short k).length) := by show _ = _; rw [HSH.out]; exact HN.out
      have R2 : Hid (Row w1 g1 c1 (short k)) := by show Row _ _ _ _; rw [HSH.out]; exact R1.out
      clear R1
      go_loopw [3] (fun v wr => ∃ j gg cc : Nat, n + j ≤ 64 ∧ v = .slice (some ⟨gg, 0, none⟩) (n + j) cc ∧ w.heap.size ≤ gg ∧ Row wr gg cc (short k ++ List.replicate j 0) ∧ Below w.heap.size w wr)
        (fun v _ => 64 - lenOf v)
      case atStart => exact ⟨0, g1, c1, by have := HSL.out; have := EM.out; omega, by simp, G1.out, by simpa using R2.out, B1.out⟩
      case round =>
        obtain ⟨j, gg, cc, hj, rfl, hgg, hRow, hbe⟩ := hrel
        have HRow : Hid (Row wr gg cc (short k ++ List.replicate j 0)) := hRow
        have HBe : Hid (Below w.heap.size w wr) := hbe
        clear R2 B1 hRow hbe
        by_cases hlt : n + j < 64
        · have hI : ((n + j : Nat) : Int) < 64 := by omega
          have HLN : Hid (n + j = (short k ++ List.replicate j (0 : Int)).length) := by show _ = _; rw [List.length_append, List.length_replicate, EM.out]
          have A1 : Hid (Below w.heap.size w (wr.alloc (.cells #[.int .u8 0] 5))) := HBe.out.alloc HBe.out.size _
          generalize hL : n + j = L at *
          go_wp2_with (at_builtin; refine wpList_app _ rfl (.tmp 19) (.tmp 20) rfl w.heap.size gg L cc (short k ++ List.replicate j 0) [0] rfl HLN.out (row_alloc HRow.out _) hgg (some ⟨wr.heap.size, 0, none⟩) 1 1 rfl rfl (rd_one wr 0) (by intro e; cases e) (by rw [← HLN.out]; simp; omega) ?_; intro g3 c3 w3 r3 k3 l3 gr3; have R3 : Hid (Row w3 g3 c3 (short k ++ List.replicate (j + 1) 0)) := (zeros_snoc (short k) j) ▸ r3; have G3 : Hid (w.heap.size ≤ g3) := k3; have B3 : Hid (Below w.heap.size w w3) := A1.out.grown gr3 A1.out.size (fun k h => by cases h; exact hgg); clear r3 k3 l3 gr3)
          go_roundw
          case rel => exact ⟨j + 1, g3, c3, by omega, by rw [← Nat.add_assoc, hL], G3.out, R3.out, B3.out⟩
          case measure => simp [lenOf]; omega
        · have hI : ¬ (((n + j : Nat) : Int) < 64) := by omega
          have HJ : Hid (j = 64 - (short k).length) := by show _ = _; have := EM.out; omega
          have HM : Hid (n + j = 64) := by show _ = _; omega
          go_wp2
          go_ret
          exact ⟨gg, n + j, cc, rfl, by rw [HK.out, HM.out, List.length_append, List.length_replicate]; have := HSL.out; omega, hgg, by rw [HK.out, ← HJ.out]; exact HRow.out, HBe.out⟩
    · have h2I : (n : Int) > 64 := by omega
      have HSH : Hid (short k = shaI k) := by show _ = _; unfold short; rw [if_neg (by rw [← HN.out]; exact h2)]
      go_enter Try.func116, Try.ntmps116
      go_wp2_with (at_builtin; refine wpList_app _ rfl (.tmp 8) (.tmp 9) rfl w.heap.size w.heap.size 0 0 [] k rfl rfl R0.out (Nat.le_refl _) a n cap rfl HN.out (HR.out.later A0.out (Nat.le_refl _)) na (by rw [← HN.out]; simp; omega) ?_; intro g1 c1 w1 r1 b1 l1 gr1; have R1 : Hid (Row w1 g1 c1 k) := (List.nil_append k) ▸ r1; have G1 : Hid (w.heap.size ≤ g1) := b1; have B1 : Hid (Below w.heap.size w w1) := A0.out.grown gr1 A0.out.size (fun k h => by cases h; exact Nat.le_refl _); clear r1 b1 l1 gr1)
      refine (specSha a n cap k w1 HN.out (HR.out.later B1.out (Nat.le_refl _)) na HB.out (by omega)).mono ?_
      rintro e w2 ⟨g2, m2, c2, rfl, e2, k2, r2, b2⟩
      have EM : Hid (m2 = (short k).length) := by show _ = _; rw [HSH.out]; exact e2
      have R2 : Hid (Row w2 g2 c2 (short k)) := by show Row _ _ _ _; rw [HSH.out]; exact r2
      have G2 : Hid (w.heap.size ≤ g2) := Nat.le_trans B1.out.size k2
      have B2 : Hid (Below w.heap.size w w2) := B1.out.trans (b2.mono B1.out.size)
      clear R1 e2 r2 k2 b2
      go_wp2
      go_loopw [3] (fun v wr => ∃ j gg cc : Nat, m2 + j ≤ 64 ∧ v = .slice (some ⟨gg, 0, none⟩) (m2 + j) cc ∧ w.heap.size ≤ gg ∧ Row wr gg cc (short k ++ List.replicate j 0) ∧ Below w.heap.size w wr)
        (fun v _ => 64 - lenOf v)
      case atStart => exact ⟨0, g2, c2, by have := HSL.out; have := EM.out; omega, by simp, G2.out, by simpa using R2.out, B2.out⟩
      case round =>
        obtain ⟨j, gg, cc, hj, rfl, hgg, hRow, hbe⟩ := hrel
        have HRow : Hid (Row wr gg cc (short k ++ List.replicate j 0)) := hRow
        have HBe : Hid (Below w.heap.size w wr) := hbe
        clear R2 B2 hRow hbe
        by_cases hlt : m2 + j < 64
        · have hI : ((m2 + j : Nat) : Int) < 64 := by omega
          have HLN : Hid (m2 + j = (short k ++ List.replicate j (0 : Int)).length) := by show _ = _; rw [List.length_append, List.length_replicate, EM.out]
          have A1 : Hid (Below w.heap.size w (wr.alloc (.cells #[.int .u8 0] 5))) := HBe.out.alloc HBe.out.size _
          generalize hL : m2 + j = L at *
          go_wp2_with (at_builtin; refine wpList_app _ rfl (.tmp 19) (.tmp 20) rfl w.heap.size gg L cc (short k ++ List.replicate j 0) [0] rfl HLN.out (row_alloc HRow.out _) hgg (some ⟨wr.heap.size, 0, none⟩) 1 1 rfl rfl (rd_one wr 0) (by intro e; cases e) (by rw [← HLN.out]; simp; omega) ?_; intro g3 c3 w3 r3 k3 l3 gr3; have R3 : Hid (Row w3 g3 c3 (short k ++ List.replicate (j + 1) 0)) := (zeros_snoc (short k) j) ▸ r3; have G3 : Hid (w.heap.size ≤ g3) := k3; have B3 : Hid (Below w.heap.size w w3) := A1.out.grown gr3 A1.out.size (fun k h => by cases h; exact hgg); clear r3 k3 l3 gr3)
          go_roundw
          case rel => exact ⟨j + 1, g3, c3, by omega, by rw [← Nat.add_assoc, hL], G3.out, R3.out, B3.out⟩
          case measure => simp [lenOf]; omega
        · have hI : ¬ (((m2 + j : Nat) : Int) < 64) := by omega
          have HJ : Hid (j = 64 - (short k).length) := by show _ = _; have := EM.out; omega
          have HM : Hid (m2 + j = 64) := by show _ = _; omega
          go_wp2
          go_ret
          exact ⟨gg, m2 + j, cc, rfl, by rw [HK.out, HM.out, List.length_append, List.length_replicate]; have := HSL.out; omega, hgg, by rw [HK.out, ← HJ.out]; exact HRow.out, HBe.out⟩
  · have HK : Hid (keyI k = []) := keyI_none k (by rw [← HN.out]; exact h1)
    have h1I : (n : Int) > 1048576 := by omega
    go_enter Try.func116, Try.ntmps116
    go_wp2
    go_ret
    exact ⟨w.heap.size, 0, 0, by simp, by rw [HK.out]; rfl, Nat.le_refl _, by rw [HK.out]; exact R0.out, A0.out⟩

set_option maxRecDepth 100000 in
set_option maxHeartbeats 3200000 in
theorem specHmac (a0 : Option Addr) (n0 c0 : Nat) (a1 : Option Addr) (n1 c1 : Nat) (k b : List Int) (w : World) (e0 : n0 = k.length) (e1 : n1 = b.length) (r0 : Rd w a0 k) (r1 : Rd w a1 b) (na0 : a0 = none → c0 = 0) (na1 : a1 = none → c1 = 0) (hb0 : Bytes k) (hb1 : Bytes b) (l0 : n0 ≤ 2097152) (l1 : n1 ≤ 2097152) :
    Calls Try.prog 110 #[.slice a0 n0 c0, .slice a1 n1 c1] w fun e w' =>
      ∃ g m c, e = .returned (.slice (some ⟨g, 0, none⟩) m c) ∧ m = (hmacI k b).length ∧ w.heap.size ≤ g ∧ Row w' g c (hmacI k b) ∧ Below w.heap.size w w' := by
  have HN0 : Hid (n0 = k.length) := e0
  have HN1 : Hid (n1 = b.length) := e1
  have HR0 : Hid (Rd w a0 k) := r0
  have HR1 : Hid (Rd w a1 b) := r1
  have HB0 : Hid (Bytes k) := hb0
  have HB1 : Hid (Bytes b) := hb1
  clear e0 e1 r0 r1 hb0 hb1
  by_cases h1 : n0 ≤ 1048576 ∧ n1 ≤ 1048512
  · have HL : Hid ((keyI k).length = 64) := keyI_len k (by rw [← HN0.out]; exact h1.1)
    have HH : Hid (hmacI k b = shaI (mix 92 (keyI k) ++ shaI (mix 54 (keyI k) ++ b))) := by
      show _ = _
      unfold hmacI; rw [if_pos ⟨by rw [← HN0.out]; exact h1.1, by rw [← HN1.out]; exact h1.2⟩]
    have HKB : Hid (Bytes (keyI k)) := keyI_bytes k HB0.out
    obtain ⟨h1a, h1b⟩ := h1
    have h1I : ¬ ((n0 : Int) > 1048576) := by omega
    have h2I : ¬ ((n1 : Int) > 1048512) := by omega
    go_enter Try.func110, Try.ntmps110
    go_wp2_with fail
    refine (specBlockKey a0 n0 c0 k w HN0.out HR0.out na0 HB0.out l0).mono ?_
    rintro e w1 ⟨gk, mk, ck, rfl, em, k1, r1, b1⟩
    have hm : mk = 64 := by rw [em, HL.out]
    subst hm
    have R1 : Hid (Row w1 gk ck (keyI k)) := r1
    have B1 : Hid (Below w.heap.size w w1) := b1
    obtain ⟨y, hy⟩ : ∃ y, keyI k = y := ⟨_, rfl⟩
    rw [hy] at HH HKB HL R1
    clear em k1 r1 b1 hy
    obtain ⟨w3, hw3⟩ : ∃ w3, (w1.alloc (.cells #[] 5)).alloc (.cells #[] 5) = w3 := ⟨_, rfl⟩
    have HW3 : Hid ((w1.alloc (.cells #[] 5)).alloc (.cells #[] 5) = w3) := hw3
    have RI3 : Hid (Row w3 w1.heap.size 0 (mix 54 (y.take 0))) := by rw [← hw3]; exact row_alloc (row_new w1 [] (by simp)) _
    have RO3 : Hid (Row w3 (w1.heap.size + 1) 0 (mix 92 (y.take 0))) := by
      have := row_new (w1.alloc (.cells #[] 5)) [] (by simp)
      rw [show (w1.alloc (.cells #[] 5)).heap.size = w1.heap.size + 1 by simp] at this
      rw [← hw3]; exact this
    have B3 : Hid (Below w.heap.size w w3) := by rw [← hw3]; exact (B1.out.alloc B1.out.size _).alloc (by simp; exact Nat.le_trans B1.out.size (Nat.le_succ _)) _
    have BK3 : Hid (Below w1.heap.size w1 w3) := by rw [← hw3]; exact ((Below.refl _ _).alloc (Nat.le_refl _) _).alloc (by simp) _
    have RK3 : Hid (Row w3 gk ck y) := R1.out.later BK3.out
    have HGK : Hid (gk < w1.heap.size) := R1.out.lt
    clear hw3 R1
    go_wp2
    rw [HW3.out]
    go_loopw [6, 7, 8] (fun v u i wr => ∃ j gi ci go co : Nat, j ≤ 64 ∧ i = .int .i64 j ∧ v = .slice (some ⟨gi, 0, none⟩) j ci ∧ u = .slice (some ⟨go, 0, none⟩) j co ∧ w1.heap.size ≤ gi ∧ w1.heap.size ≤ go ∧ gi ≠ go ∧ Row wr gi ci (mix 54 (y.take j)) ∧ Row wr go co (mix 92 (y.take j)) ∧ Below w1.heap.size w1 wr ∧ Row wr gk ck y)
      (fun _ _ i _ => 64 - (intOf i).toNat)
    case atStart => exact ⟨0, w1.heap.size, 0, w1.heap.size + 1, 0, by omega, rfl, rfl, rfl, Nat.le_refl _, by omega, by omega, RI3.out, RO3.out, BK3.out, RK3.out⟩
    case round =>
      obtain ⟨j, gi, ci, go, co, hj, rfl, rfl, rfl, hgi, hgo, hne, hRi, hRo, hbe, hK⟩ := hrel
      have HRi : Hid (Row wr gi ci (mix 54 (y.take j))) := hRi
      have HRo : Hid (Row wr go co (mix 92 (y.take j))) := hRo
      have HBe : Hid (Below w1.heap.size w1 wr) := hbe
      have HK : Hid (Row wr gk ck y) := hK
      have HNE : Hid (gi ≠ go) := hne
      clear RI3 RO3 B3 BK3 RK3 hRi hRo hbe hK hne
      have ML : ∀ p, j = (mix p (y.take j)).length := fun p => by rw [mix_length, List.length_take, HL.out]; omega
      have HML : Hid (∀ p, j = (mix p (y.take j)).length) := ML
      clear ML
      by_cases hlt : j < 64
      · have hc := HK.out.cell j (by rw [HL.out]; exact hlt)
        have T1 : Hid (∀ p, mix p (y.take (j + 1)) = mix p (y.take j) ++ [bits .xor .u8 (y.getD j 0) p]) := fun p => mix_take p y j (by rw [HL.out]; exact hlt)
        obtain ⟨z, hz⟩ : ∃ z, y.getD j 0 = z := ⟨_, rfl⟩
        have HZ : Hid (z = y.getD j 0) := hz.symm
        rw [hz] at hc T1
        clear hz
        go_wp2_with (first | (at_builtin; refine wpList_app_at _ rfl (.tmp 26) (.tmp 32) rfl w1.heap.size gi j ci (mix 54 (y.take j)) [bits .xor .u8 z 54] rfl (HML.out 54) (row_alloc HRi.out _) hgi (some ⟨wr.heap.size, 0, none⟩) 1 1 rfl rfl (rd_one wr _) (by intro e; cases e) (by rw [← HML.out 54, List.length_singleton]; omega) ?_; intro g4 c4 w4 r4 k4 l4 gr4; have RI4 : Hid (Row w4 g4 c4 (mix 54 (y.take (j + 1)))) := (by show Row _ _ _ _; rw [T1.out 54]; exact r4); have GI4 : Hid (w1.heap.size ≤ g4) := k4; have RO4 : Hid (Row w4 go co (mix 92 (y.take j))) := (row_alloc HRo.out _).keep (gr4.block go (row_alloc HRo.out _).lt (by simp only [ne_eq, Option.some.injEq]; exact Ne.symm HNE.out)); have NE4 : Hid (g4 ≠ go) := (by rcases l4 with rfl | h; exact HNE.out; exact Nat.ne_of_gt (Nat.lt_of_lt_of_le (row_alloc HRo.out _).lt h)); have HK4 : Hid (Row w4 gk ck y) := (row_alloc HK.out _).keep (gr4.block gk (row_alloc HK.out _).lt (by simp only [ne_eq, Option.some.injEq]; exact Nat.ne_of_lt (Nat.lt_of_lt_of_le HGK.out hgi))); have B4 : Hid (Below w1.heap.size w1 w4) := (HBe.out.alloc HBe.out.size _).grown gr4 (Below.size (HBe.out.alloc HBe.out.size _)) (fun k h => by cases h; exact hgi); have hc4 : w4.cell? ⟨gk, j, none⟩ = some (.int .u8 z) := (by rw [HZ.out]; exact HK4.out.cell j (by rw [HL.out]; exact hlt)); clear r4 k4 l4 gr4) | (at_builtin; refine wpList_app_at _ rfl (.tmp 34) (.tmp 40) rfl w1.heap.size go j co (mix 92 (y.take j)) [bits .xor .u8 z 92] rfl (HML.out 92) (row_alloc RO4.out _) hgo (some ⟨w4.heap.size, 0, none⟩) 1 1 rfl rfl (rd_one w4 _) (by intro e; cases e) (by rw [← HML.out 92, List.length_singleton]; omega) ?_; intro g5 c5 w5 r5 k5 l5 gr5; have RO5 : Hid (Row w5 g5 c5 (mix 92 (y.take (j + 1)))) := (by show Row _ _ _ _; rw [T1.out 92]; exact r5); have GO5 : Hid (w1.heap.size ≤ g5) := k5; have RI5 : Hid (Row w5 g4 c4 (mix 54 (y.take (j + 1)))) := (row_alloc RI4.out _).keep (gr5.block g4 (row_alloc RI4.out _).lt (by simp only [ne_eq, Option.some.injEq]; exact NE4.out)); have NE5 : Hid (g4 ≠ g5) := (by rcases l5 with rfl | h; exact NE4.out; exact Nat.ne_of_lt (Nat.lt_of_lt_of_le (row_alloc RI4.out _).lt h)); have HK5 : Hid (Row w5 gk ck y) := (row_alloc HK4.out _).keep (gr5.block gk (row_alloc HK4.out _).lt (by simp only [ne_eq, Option.some.injEq]; exact Nat.ne_of_lt (Nat.lt_of_lt_of_le HGK.out hgo))); have B5 : Hid (Below w1.heap.size w1 w5) := (B4.out.alloc B4.out.size _).grown gr5 (Below.size (B4.out.alloc B4.out.size _)) (fun k h => by cases h; exact hgo); clear r5 k5 l5 gr5))
        go_roundw
        case rel => exact ⟨j + 1, g4, c4, g5, c5, by omega, by go_num, rfl, rfl, GI4.out, GO5.out, NE5.out, RI5.out, RO5.out, B5.out, HK5.out⟩
        case measure => simp [intOf]; omega
      · obtain rfl : j = 64 := by omega
        have TY : Hid (y.take 64 = y) := by show _ = _; rw [List.take_of_length_le (by rw [HL.out]; exact Nat.le_refl _)]
        rw [TY.out] at HRi HRo HML
        have BW : Hid (Below w.heap.size w wr) := B1.out.trans (HBe.out.mono B1.out.size)
        go_wp2_with (first | (at_builtin; refine wpList_app_at _ rfl (.tmp 43) (.tmp 44) rfl w1.heap.size gi 64 ci (mix 54 y) b rfl (HML.out 54) HRi.out hgi a1 n1 c1 rfl HN1.out (HR1.out.later BW.out (Nat.le_refl _)) na1 (by rw [← HML.out 54, ← HN1.out]; omega) ?_; intro g6 c6 w6 r6 k6 l6 gr6; have R6 : Hid (Row w6 g6 c6 (mix 54 y ++ b)) := r6; have RO6 : Hid (Row w6 go co (mix 92 y)) := HRo.out.keep (gr6.block go HRo.out.lt (by simp only [ne_eq, Option.some.injEq]; exact Ne.symm HNE.out)); have B6 : Hid (Below w1.heap.size w1 w6) := HBe.out.grown gr6 HBe.out.size (fun k h => by cases h; exact hgi); clear r6 k6 l6 gr6) | fail)
        have BW6 : Hid (Below w.heap.size w w6) := B1.out.trans (B6.out.mono B1.out.size)
        have HL6 : Hid (64 + n1 = (mix 54 y ++ b).length) := by show _ = _; rw [List.length_append, ← HML.out 54, HN1.out]
        have HB6 : Hid (Bytes (mix 54 y ++ b)) := bytes_append (mix_bytes 54 _ HKB.out (by omega) (by omega)) HB1.out
        refine (specSha _ (64 + n1) c6 _ w6 HL6.out R6.out.rd (by intro e; cases e) HB6.out (by omega)).mono ?_
        rintro e w7 ⟨g7, m7, c7, rfl, em, k7, r7, b7⟩
        have HS7 : Hid ((shaI (mix 54 y ++ b)).length = 32) := shaI_len _ (by rw [← HL6.out]; omega)
        have hm7 : m7 = 32 := by rw [em, HS7.out]
        subst hm7
        have R7 : Hid (Row w7 g7 c7 (shaI (mix 54 y ++ b))) := r7
        have RO7 : Hid (Row w7 go co (mix 92 y)) := RO6.out.later b7
        have B7 : Hid (Below w1.heap.size w1 w7) := B6.out.trans (b7.mono B6.out.size)
        clear em k7 r7 b7 R6 RO6 B6 BW6
        go_wp2_with (first | (at_builtin; refine wpList_app_at _ rfl (.tmp 42) (.tmp 46) rfl w1.heap.size go 64 co (mix 92 y) (shaI (mix 54 y ++ b)) rfl (HML.out 92) RO7.out hgo (some ⟨g7, 0, none⟩) 32 c7 rfl HS7.out.symm R7.out.rd (by intro e; cases e) (by rw [← HML.out 92, HS7.out]; omega) ?_; intro g8 c8 w8 r8 k8 l8 gr8; have R8 : Hid (Row w8 g8 c8 (mix 92 y ++ shaI (mix 54 y ++ b))) := r8; have B8 : Hid (Below w1.heap.size w1 w8) := B7.out.grown gr8 B7.out.size (fun k h => by cases h; exact hgo); clear r8 k8 l8 gr8) | fail)
        have BW8 : Hid (Below w.heap.size w w8) := B1.out.trans (B8.out.mono B1.out.size)
        have HL8 : Hid (64 + 32 = (mix 92 y ++ shaI (mix 54 y ++ b)).length) := by show _ = _; rw [List.length_append, ← HML.out 92, HS7.out]
        have HB8 : Hid (Bytes (mix 92 y ++ shaI (mix 54 y ++ b))) := bytes_append (mix_bytes 92 _ HKB.out (by omega) (by omega)) (shaI_bytes _)
        refine (specSha _ (64 + 32) c8 _ w8 HL8.out R8.out.rd (by intro e; cases e) HB8.out (by omega)).mono ?_
        rintro e w9 ⟨g9, m9, c9, rfl, em, k9, r9, b9⟩
        have EM : Hid (m9 = (hmacI k b).length) := by show _ = _; rw [HH.out]; exact em
        have K9 : Hid (w.heap.size ≤ g9) := Nat.le_trans BW8.out.size k9
        have R9 : Hid (Row w9 g9 c9 (hmacI k b)) := by show Row _ _ _ _; rw [HH.out]; exact r9
        have B9 : Hid (Below w.heap.size w w9) := BW8.out.trans (b9.mono BW8.out.size)
        clear em k9 r9 b9
        go_wp2
        go_ret
        exact ⟨g9, m9, c9, rfl, EM.out, K9.out, R9.out, B9.out⟩
  · have HH : Hid (hmacI k b = []) := hmacI_none k b (by rw [← HN0.out, ← HN1.out]; exact h1)
    have A0 : Hid (Below w.heap.size w (w.alloc (.cells #[] 5))) := (Below.refl _ _).alloc (Nat.le_refl _) _
    have R0 : Hid (Row (w.alloc (.cells #[] 5)) w.heap.size 0 []) := row_new w [] (by simp)
    by_cases h2 : n0 ≤ 1048576
    · have h1I : ¬ ((n0 : Int) > 1048576) := by omega
      have h2I : (n1 : Int) > 1048512 := by omega
      clear h1
      go_enter Try.func110, Try.ntmps110
      go_wp2
      go_ret
      exact ⟨w.heap.size, 0, 0, by simp, by rw [HH.out]; rfl, Nat.le_refl _, by rw [HH.out]; exact R0.out, A0.out⟩
    · have h1I : (n0 : Int) > 1048576 := by omega
      clear h1
      go_enter Try.func110, Try.ntmps110
      go_wp2
      go_ret
      exact ⟨w.heap.size, 0, 0, by simp, by rw [HH.out]; rfl, Nat.le_refl _, by rw [HH.out]; exact R0.out, A0.out⟩

set_option maxRecDepth 100000 in
set_option maxHeartbeats 800000 in
theorem specTag (a0 : Option Addr) (n0 c0 : Nat) (a1 : Option Addr) (n1 c1 : Nat) (k b : List Int) (w : World) (e0 : n0 = k.length) (e1 : n1 = b.length) (r0 : Rd w a0 k) (r1 : Rd w a1 b) (na0 : a0 = none → c0 = 0) (na1 : a1 = none → c1 = 0) (hb0 : Bytes k) (hb1 : Bytes b) (l0 : n0 ≤ 2097152) (l1 : n1 ≤ 2097152) :
    Calls Try.prog 96 #[.slice a0 n0 c0, .slice a1 n1 c1] w fun e w' =>
      ∃ g m c, e = .returned (.slice (some ⟨g, 0, none⟩) m c) ∧ m = (tagI k b).length ∧ w.heap.size ≤ g ∧ Row w' g c (tagI k b) ∧ Below w.heap.size w w' := by
  have HN0 : Hid (n0 = k.length) := e0
  have HN1 : Hid (n1 = b.length) := e1
  have HR0 : Hid (Rd w a0 k) := r0
  have HR1 : Hid (Rd w a1 b) := r1
  have HB0 : Hid (Bytes k) := hb0
  have HB1 : Hid (Bytes b) := hb1
  clear e0 e1 r0 r1 hb0 hb1
  go_enter Try.func96, Try.ntmps96
  go_wp2_with fail
  refine (specHmac a0 n0 c0 a1 n1 c1 k b w HN0.out HN1.out HR0.out HR1.out na0 na1 HB0.out HB1.out l0 l1).mono ?_
  rintro e w1 ⟨g, m, c, rfl, em, k1, r1, b1⟩
  have EM : Hid (m = (hmacI k b).length) := em
  have R1 : Hid (Row w1 g c (hmacI k b)) := r1
  have B1 : Hid (Below w.heap.size w w1) := b1
  have hm : m = 32 ∨ m = 0 := by
    rw [em]
    by_cases h : k.length ≤ 1048576 ∧ b.length ≤ 1048512
    · exact .inl (hmacI_len k b h.1 h.2)
    · exact .inr (by rw [hmacI_none k b h]; rfl)
  have hmc : m ≤ c := by rw [em]; exact r1.1
  have A1 : Hid (Below w.heap.size w (w1.alloc (.cells #[] 5))) := B1.out.alloc B1.out.size _
  have N1 : Hid (Row (w1.alloc (.cells #[] 5)) w1.heap.size 0 []) := row_new w1 [] (by simp)
  clear em k1 r1 b1
  rcases hm with rfl | rfl
  · have hcI : (32 : Int) ≤ (c : Int) := by omega
    have TL : Hid (16 = (tagI k b).length) := by show _ = _; unfold tagI; rw [List.length_take, ← EM.out]; rfl
    have RT : Hid (Rd (w1.alloc (.cells #[] 5)) (some ⟨g, 0, none⟩) (tagI k b)) := by
      have h1 := (row_alloc R1.out (.cells #[] 5)).rd
      show Rd _ _ _
      intro i hi
      rw [← TL.out] at hi
      obtain ⟨x, off, e, hx, hh⟩ := h1 i (by rw [← EM.out]; omega)
      refine ⟨x, off, e, hx, ?_⟩
      rw [hh]
      unfold tagI
      simp [List.getD, hi]
    go_wp2_with (at_builtin; refine wpList_app _ rfl (.tmp 13) (.tmp 15) rfl w.heap.size w1.heap.size 0 0 [] (tagI k b) rfl rfl N1.out B1.out.size (some ⟨g, 0, none⟩) 16 c rfl TL.out RT.out (by intro e; cases e) (by rw [← TL.out]; simp) ?_; intro g2 c2 w2 r2 k2 l2 gr2; have R2 : Hid (Row w2 g2 c2 (tagI k b)) := (List.nil_append (tagI k b)) ▸ r2; have G2 : Hid (w.heap.size ≤ g2) := k2; have B2 : Hid (Below w.heap.size w w2) := A1.out.grown gr2 A1.out.size (fun k h => by cases h; exact B1.out.size); clear r2 k2 l2 gr2)
    go_ret
    exact ⟨g2, 16, c2, rfl, TL.out, G2.out, R2.out, B2.out⟩
  · have HT : Hid (tagI k b = []) := by
      show _ = _
      have : hmacI k b = [] := List.eq_nil_of_length_eq_zero EM.out.symm
      unfold tagI; rw [this]; rfl
    go_wp2
    go_ret
    exact ⟨w1.heap.size, 0, 0, by simp, by rw [HT.out]; rfl, B1.out.size, by rw [HT.out]; exact N1.out, A1.out⟩
end Go.Proofs.Ytmcflfpckpjphaa.MacS

namespace Go.Proofs.Ytmcflfpckpjphaa.StrS
open Go.RowKit Go.Proofs.Ytmcflfpckpjphaa.Mem Go.Proofs.Ytmcflfpckpjphaa.App Go.Proofs.Ytmcflfpckpjphaa.AppAt Go.Proofs.Ytmcflfpckpjphaa.AppStep Go.Proofs.Ytmcflfpckpjphaa.ShaP Go.Proofs.Ytmcflfpckpjphaa.Words Go.Proofs.Ytmcflfpckpjphaa.DiffP Go.Proofs.Ytmcflfpckpjphaa.MacP Go.Proofs.Ytmcflfpckpjphaa.MacS Go.Proofs.Ytmcflfpckpjphaa.KdfP

set_option maxRecDepth 100000 in
set_option maxHeartbeats 1600000 in
theorem specBlockOf (a0 : Option Addr) (n0 c0 : Nat) (a1 : Option Addr) (n1 c1 : Nat) (k h : List Int) (i : Int) (w : World) (e0 : n0 = k.length) (e1 : n1 = h.length) (r0 : Rd w a0 k) (r1 : Rd w a1 h) (na0 : a0 = none → c0 = 0) (na1 : a1 = none → c1 = 0) (hb0 : Bytes k) (hb1 : Bytes h) (l0 : n0 ≤ 2097152) (l1 : n1 ≤ 2097152) :
    Calls Try.prog 115 #[.slice a0 n0 c0, .slice a1 n1 c1, .int .i64 i] w fun e w' =>
      ∃ g m c, e = .returned (.slice (some ⟨g, 0, none⟩) m c) ∧ m = (blockI k h i).length ∧ w.heap.size ≤ g ∧ Row w' g c (blockI k h i) ∧ Below w.heap.size w w' := by
  have HN0 : Hid (n0 = k.length) := e0
  have HN1 : Hid (n1 = h.length) := e1
  have HR0 : Hid (Rd w a0 k) := r0
  have HR1 : Hid (Rd w a1 h) := r1
  have HB0 : Hid (Bytes k) := hb0
  have HB1 : Hid (Bytes h) := hb1
  clear e0 e1 r0 r1 hb0 hb1
  by_cases hm : 0 ≤ i ∧ i ≤ 6 ∧ n1 ≤ 100
  · have HBI : Hid (blockI k h i = hmacI k (([115] ++ h) ++ putN i 4)) := by
      show _ = _
      unfold blockI; rw [if_pos ⟨hm.1, hm.2.1, by rw [← HN1.out]; exact hm.2.2⟩]
      unfold sblk
      rw [Int.toNat_of_nonneg hm.1]; rfl
    have hi : isIn i 0 6 = true := by simp [isIn]; omega
    have q1 : ¬ ((n1 : Int) > 100) := by omega
    have hn1 : n1 ≤ 100 := hm.2.2
    have A0 : Hid (Below w.heap.size w (w.alloc (.cells #[.int .u8 115] 5))) := (Below.refl _ _).alloc (Nat.le_refl _) _
    have R0 : Hid (Row (w.alloc (.cells #[.int .u8 115] 5)) w.heap.size 1 [115]) := row_new w [115] (by simp [maxLen])
    clear hm
    go_enter Try.func115, Try.ntmps115
    go_wp2_with fail
    refine (l1In i 0 6 w).mono ?_
    rintro e w1 ⟨rfl, rfl⟩
    rw [hi]
    go_wp2_with (at_builtin; refine wpList_app _ rfl (.tmp 17) (.tmp 18) rfl w.heap.size w.heap.size 1 1 [115] h rfl rfl R0.out (Nat.le_refl _) a1 n1 c1 rfl HN1.out (HR1.out.later A0.out (Nat.le_refl _)) na1 (by rw [← HN1.out, List.length_singleton]; omega) ?_; intro g1 cc1 w1 rr1 b1 ll1 gr1; have R1 : Hid (Row w1 g1 cc1 ([115] ++ h)) := rr1; have B1 : Hid (Below w.heap.size w w1) := A0.out.grown gr1 A0.out.size (fun k h => by cases h; exact Nat.le_refl _); clear rr1 b1 ll1 gr1)
    have L1 : Hid (1 + n1 = ([115] ++ h).length) := by show _ = _; rw [List.length_append, ← HN1.out]; rfl
    refine (specPutN (some ⟨g1, 0, none⟩) (1 + n1) cc1 ([115] ++ h) i 4 w1 L1.out R1.out.rd (by intro e; cases e) (by rw [← L1.out]; omega)).mono ?_
    rintro e w2 ⟨g2, m2, c2, rfl, e2, k2, r2, b2⟩
    have E2 : Hid (m2 = (([115] ++ h) ++ putN i 4).length) := e2
    have R2 : Hid (Row w2 g2 c2 (([115] ++ h) ++ putN i 4)) := r2
    have B2 : Hid (Below w.heap.size w w2) := B1.out.trans (b2.mono B1.out.size)
    have hm2 : m2 ≤ 200 := by have := putN_length i 4; rw [e2, List.length_append, ← L1.out]; omega
    have Y2 : Hid (Bytes (([115] ++ h) ++ putN i 4)) := bytes_append (bytes_append (by intro z hz; simp at hz; omega) HB1.out) (num_bytes i 4)
    clear e2 k2 r2 b2
    go_wp2_with fail
    refine (specHmac a0 n0 c0 (some ⟨g2, 0, none⟩) m2 c2 k _ w2 HN0.out E2.out (HR0.out.later B2.out (Nat.le_refl _)) R2.out.rd na0 (by intro e; cases e) HB0.out Y2.out l0 (by omega)).mono ?_
    rw [← HBI.out]
    rintro e w3 ⟨g3, m3, c3, rfl, e3, k3, r3, b3⟩
    have E3 : Hid (m3 = (blockI k h i).length) := e3
    have K3 : Hid (w.heap.size ≤ g3) := Nat.le_trans B2.out.size k3
    have R3 : Hid (Row w3 g3 c3 (blockI k h i)) := r3
    have B3 : Hid (Below w.heap.size w w3) := B2.out.trans (b3.mono B2.out.size)
    clear e3 k3 r3 b3
    go_wp2
    go_ret
    exact ⟨g3, m3, c3, rfl, E3.out, K3.out, R3.out, B3.out⟩
  · have HBI : Hid (blockI k h i = []) := by
      show _ = _
      unfold blockI; rw [if_neg (by rw [← HN1.out]; exact hm)]
    have A0 : Hid (Below w.heap.size w (w.alloc (.cells #[] 5))) := (Below.refl _ _).alloc (Nat.le_refl _) _
    have R0 : Hid (Row (w.alloc (.cells #[] 5)) w.heap.size 0 []) := row_new w [] (by simp)
    by_cases h1 : 0 ≤ i ∧ i ≤ 6
    · have hi : isIn i 0 6 = true := by simp [isIn]; omega
      have q1 : (n1 : Int) > 100 := by omega
      clear hm
      go_enter Try.func115, Try.ntmps115
      go_wp2_with fail
      refine (l1In i 0 6 w).mono ?_
      rintro e w1 ⟨rfl, rfl⟩
      rw [hi]
      go_wp2
      go_ret
      exact ⟨w.heap.size, 0, 0, by simp, by rw [HBI.out]; rfl, Nat.le_refl _, by rw [HBI.out]; exact R0.out, A0.out⟩
    · have hi : isIn i 0 6 = false := by simp [isIn]; omega
      clear hm
      go_enter Try.func115, Try.ntmps115
      go_wp2_with fail
      refine (l1In i 0 6 w).mono ?_
      rintro e w1 ⟨rfl, rfl⟩
      rw [hi]
      go_wp2
      go_ret
      exact ⟨w.heap.size, 0, 0, by simp, by rw [HBI.out]; rfl, Nat.le_refl _, by rw [HBI.out]; exact R0.out, A0.out⟩

set_option maxRecDepth 100000 in
theorem blockI_nat (k h : List Int) (i : Nat) (hi : i ≤ 6) (hh : h.length ≤ 100) : blockI k h (i : Int) = sblk k h i := by
  unfold blockI; rw [if_pos ⟨by omega, by omega, hh⟩, Int.toNat_natCast]

set_option maxRecDepth 100000 in
set_option maxHeartbeats 4000000 in
theorem specStream (a0 : Option Addr) (n0 c0 : Nat) (a1 : Option Addr) (n1 c1 : Nat) (k h : List Int) (n : Int) (w : World) (e0 : n0 = k.length) (e1 : n1 = h.length) (r0 : Rd w a0 k) (r1 : Rd w a1 h) (na0 : a0 = none → c0 = 0) (na1 : a1 = none → c1 = 0) (hb0 : Bytes k) (hb1 : Bytes h) (l0 : n0 ≤ 2097152) (l1 : n1 ≤ 2097152) :
    Calls Try.prog 109 #[.slice a0 n0 c0, .slice a1 n1 c1, .int .i64 n] w fun e w' =>
      ∃ g m c, e = .returned (.slice (some ⟨g, 0, none⟩) m c) ∧ m = (strI k h n).length ∧ w.heap.size ≤ g ∧ Row w' g c (strI k h n) ∧ Below w.heap.size w w' := by
  have HN0 : Hid (n0 = k.length) := e0
  have HN1 : Hid (n1 = h.length) := e1
  have HR0 : Hid (Rd w a0 k) := r0
  have HR1 : Hid (Rd w a1 h) := r1
  have HB0 : Hid (Bytes k) := hb0
  have HB1 : Hid (Bytes h) := hb1
  have A0 : Hid (Below w.heap.size w (w.alloc (.cells #[] 5))) := (Below.refl _ _).alloc (Nat.le_refl _) _
  have R0 : Hid (Row (w.alloc (.cells #[] 5)) w.heap.size 0 (sblks k h 0)) := row_new w [] (by simp)
  clear e0 e1 r0 r1 hb0 hb1
  cases hm : mayStr k h n with
  | false =>
    have HE : Hid (strI k h n = []) := strI_no k h n hm
    have hno : ¬ (0 ≤ n ∧ n ≤ 200 ∧ n1 ≤ 100 ∧ n0 ≤ 1048576) := by
      intro x; rw [HN0.out, HN1.out] at x; rw [(mayStr_iff k h n).2 x] at hm; cases hm
    clear hm
    by_cases h1 : 0 ≤ n ∧ n ≤ 200
    · have hi : isIn n 0 200 = true := by simp [isIn]; omega
      by_cases h2 : n1 ≤ 100
      · have q1 : ¬ ((n1 : Int) > 100) := by omega
        have q2 : (n0 : Int) > 1048576 := by omega
        clear hno
        go_enter Try.func109, Try.ntmps109
        go_wp2_with fail
        refine (l1In n 0 200 w).mono ?_
        rintro e w1 ⟨rfl, rfl⟩
        rw [hi]
        go_wp2
        go_ret
        exact ⟨w.heap.size, 0, 0, by simp, by rw [HE.out]; rfl, Nat.le_refl _, by rw [HE.out]; exact R0.out, A0.out⟩
      · have q1 : (n1 : Int) > 100 := by omega
        clear hno
        go_enter Try.func109, Try.ntmps109
        go_wp2_with fail
        refine (l1In n 0 200 w).mono ?_
        rintro e w1 ⟨rfl, rfl⟩
        rw [hi]
        go_wp2
        go_ret
        exact ⟨w.heap.size, 0, 0, by simp, by rw [HE.out]; rfl, Nat.le_refl _, by rw [HE.out]; exact R0.out, A0.out⟩
    · have hi : isIn n 0 200 = false := by simp [isIn]; omega
      clear hno
      go_enter Try.func109, Try.ntmps109
      go_wp2_with fail
      refine (l1In n 0 200 w).mono ?_
      rintro e w1 ⟨rfl, rfl⟩
      rw [hi]
      go_wp2
      go_ret
      exact ⟨w.heap.size, 0, 0, by simp, by rw [HE.out]; rfl, Nat.le_refl _, by rw [HE.out]; exact R0.out, A0.out⟩
  | true =>
    obtain ⟨h0, h1, h2, h3⟩ := (mayStr_iff k h n).1 hm
    obtain ⟨N, rfl⟩ := Int.eq_ofNat_of_zero_le h0
    have HE : Hid (strI k h (N : Int) = (sblks k h ((N + 31) / 32)).take N) := by show _ = _; rw [strI_yes k h _ hm, Int.toNat_natCast]
    have HEL : Hid (N = (strI k h (N : Int)).length) := (strI_len k h N hm).symm
    have HK3 : Hid (k.length ≤ 1048576) := h3
    have HF2 : Hid (h.length ≤ 100) := h2
    have hN : N ≤ 200 := by omega
    rw [← HN1.out] at h2
    rw [← HN0.out] at h3
    have hi : isIn (N : Int) 0 200 = true := by simp [isIn]; omega
    have q1 : ¬ ((n1 : Int) > 100) := by omega
    have q2 : ¬ ((n0 : Int) > 1048576) := by omega
    clear hm h0 h1
    go_enter Try.func109, Try.ntmps109
    go_wp2_with fail
    refine (l1In (N : Int) 0 200 w).mono ?_
    rintro e w1 ⟨rfl, rfl⟩
    rw [hi]
    go_wp2
    go_loopw [7, 8] (fun v i wr => ∃ q go co : Nat, q ≤ 7 ∧ 32 * q < N + 32 ∧ i = .int .i64 (q : Int) ∧ v = .slice (some ⟨go, 0, none⟩) (32 * q) co ∧ w.heap.size ≤ go ∧ Row wr go co (sblks k h q) ∧ Below w.heap.size w wr)
      (fun _ i _ => 10000 - (intOf i).toNat)
    case atStart => exact ⟨0, w.heap.size, 0, by omega, by omega, rfl, rfl, Nat.le_refl _, R0.out, A0.out⟩
    case round =>
      obtain ⟨q, go, co, hq, hqN, rfl, rfl, hgo, hRo, hbe⟩ := hrel
      have HRo : Hid (Row wr go co (sblks k h q)) := hRo
      have HBe : Hid (Below w.heap.size w wr) := hbe
      have HOL : Hid (32 * q = (sblks k h q).length) := (sblks_len k h HK3.out HF2.out q).symm
      clear R0 A0 hRo hbe
      by_cases hlt : 32 * q < N
      · have hltI : ((32 * q : Nat) : Int) < (N : Int) := by omega
        have HT1 : Hid (blockI k h (q : Int) = sblk k h q) := blockI_nat k h q (by omega) HF2.out
        have H32 : Hid ((sblk k h q).length = 32) := sblk_len k h HK3.out HF2.out q
        go_wp2_with fail
        refine (specBlockOf a0 n0 c0 a1 n1 c1 k h (q : Int) wr HN0.out HN1.out (HR0.out.later HBe.out (Nat.le_refl _)) (HR1.out.later HBe.out (Nat.le_refl _)) na0 na1 HB0.out HB1.out l0 l1).mono ?_
        rw [HT1.out]
        rintro e w6 ⟨g6, m6, c6, rfl, e6, k6, r6, b6⟩
        obtain rfl : m6 = 32 := by rw [e6, H32.out]
        have R6 : Hid (Row w6 g6 c6 (sblk k h q)) := r6
        have B6 : Hid (Below w.heap.size w w6) := HBe.out.trans (b6.mono HBe.out.size)
        have RO6 : Hid (Row w6 go co (sblks k h q)) := HRo.out.later b6
        clear e6 k6 r6 b6
        go_wp2_with (at_builtin; refine wpList_app_at _ rfl (.tmp 30) (.tmp 34) rfl w.heap.size go (32 * q) co (sblks k h q) (sblk k h q) rfl HOL.out RO6.out hgo (some ⟨g6, 0, none⟩) 32 c6 rfl H32.out.symm R6.out.rd (by intro e; cases e) (by rw [← HOL.out, H32.out]; omega) ?_; intro g7 c7 w7 r7 k7 l7 gr7; have R7 : Hid (Row w7 g7 c7 (sblks k h (q + 1))) := r7; have G7 : Hid (w.heap.size ≤ g7) := k7; have B7 : Hid (Below w.heap.size w w7) := B6.out.grown gr7 B6.out.size (fun k h => by cases h; exact hgo); clear r7 k7 l7 gr7)
        go_roundw
        case rel => exact ⟨q + 1, g7, c7, by omega, by omega, by go_num, by (congr 1), G7.out, R7.out, B7.out⟩
        case measure => simp [intOf]; omega
      · have hltI : ¬ (((32 * q : Nat) : Int) < (N : Int)) := by omega
        have hco : 32 * q ≤ co := by have := HRo.out.1; rw [← HOL.out] at this; exact this
        have i1 : (N : Int) ≤ (co : Int) := by omega
        have i0 : (0 : Int) ≤ (N : Int) := by omega
        have HQ : Hid ((N + 31) / 32 = q) := by show _ = _; omega
        have A1 : Hid (Below w.heap.size w (wr.alloc (.cells #[] 5))) := HBe.out.alloc HBe.out.size _
        have E1 : Hid (Row (wr.alloc (.cells #[] 5)) wr.heap.size 0 []) := row_new wr [] (by simp)
        have RX : Hid (Rd (wr.alloc (.cells #[] 5)) (some ⟨go, 0, none⟩) (strI k h (N : Int))) := by
          show Rd _ _ _
          rw [HE.out, HQ.out]
          have h1 := (row_alloc HRo.out (.cells #[] 5)).rd
          intro i hi
          rw [List.length_take] at hi
          obtain ⟨b', off, e, hb', hh⟩ := h1 i (by omega)
          refine ⟨b', off, e, hb', ?_⟩
          rw [hh]
          have : i < N := by omega
          simp [List.getD, this]
        go_wp2_with (at_builtin; refine wpList_app _ rfl (.tmp 36) (.tmp 39) rfl w.heap.size wr.heap.size 0 0 [] (strI k h (N : Int)) rfl rfl E1.out HBe.out.size (some ⟨go, 0, none⟩) N co rfl HEL.out RX.out (by intro e; cases e) (by rw [← HEL.out, List.length_nil]; omega) ?_; intro g8 c8 w8 r8 k8 l8 gr8; have R8 : Hid (Row w8 g8 c8 (strI k h (N : Int))) := (List.nil_append (strI k h (N : Int))) ▸ r8; have G8 : Hid (w.heap.size ≤ g8) := k8; have B8 : Hid (Below w.heap.size w w8) := A1.out.grown gr8 A1.out.size (fun k h => by cases h; exact HBe.out.size); clear r8 k8 l8 gr8)
        go_ret
        exact ⟨g8, N, c8, rfl, HEL.out, G8.out, R8.out, B8.out⟩

set_option maxRecDepth 100000 in
theorem xors_take (a b : List Int) (q : Nat) (h1 : q < a.length) (h2 : q < b.length) : (xors a b).take (q + 1) = (xors a b).take q ++ [bits .xor .u8 (a.getD q 0) (b.getD q 0)] := by
  have hx : q < (xors a b).length := by rw [xors_length]; omega
  have e := xors_at a b q h1 h2
  rw [List.getElem?_eq_getElem hx, Option.some.injEq] at e
  rw [List.take_succ_eq_append_getElem hx, e]
  simp [List.getD, h1, h2]

set_option maxRecDepth 100000 in
set_option maxHeartbeats 4000000 in
theorem specMix (a0 : Option Addr) (n0 c0 : Nat) (a1 : Option Addr) (n1 c1 : Nat) (ab : Option Addr) (nb cb : Nat) (k h b : List Int) (w : World) (e0 : n0 = k.length) (e1 : n1 = h.length) (eb : nb = b.length) (r0 : Rd w a0 k) (r1 : Rd w a1 h) (rb : Rd w ab b) (na0 : a0 = none → c0 = 0) (na1 : a1 = none → c1 = 0) (hb0 : Bytes k) (hb1 : Bytes h) (hbb : Bytes b) (l0 : n0 ≤ 2097152) (l1 : n1 ≤ 2097152) (lb : nb ≤ 2097152) :
    Calls Try.prog 95 #[.slice a0 n0 c0, .slice a1 n1 c1, .slice ab nb cb] w fun e w' =>
      ∃ g m c, e = .returned (.slice (some ⟨g, 0, none⟩) m c) ∧ m = (mixI k h b).length ∧ w.heap.size ≤ g ∧ Row w' g c (mixI k h b) ∧ Below w.heap.size w w' := by
  have HN0 : Hid (n0 = k.length) := e0
  have HN1 : Hid (n1 = h.length) := e1
  have HNB : Hid (nb = b.length) := eb
  have HR0 : Hid (Rd w a0 k) := r0
  have HR1 : Hid (Rd w a1 h) := r1
  have HRB : Hid (Rd w ab b) := rb
  have HB0 : Hid (Bytes k) := hb0
  have HB1 : Hid (Bytes h) := hb1
  have HBB : Hid (Bytes b) := hbb
  have A0 : Hid (Below w.heap.size w (w.alloc (.cells #[] 5))) := (Below.refl _ _).alloc (Nat.le_refl _) _
  have R0 : Hid (Row (w.alloc (.cells #[] 5)) w.heap.size 0 []) := row_new w [] (by simp)
  clear e0 e1 eb r0 r1 rb hb0 hb1 hbb
  cases hm : mayStr k h (b.length : Int) with
  | false =>
    have HE : Hid (mixI k h b = []) := mixI_no k h b hm
    have hno : ¬ (nb ≤ 200 ∧ n1 ≤ 100 ∧ n0 ≤ 1048576) := by
      intro x; rw [HN0.out, HN1.out, HNB.out] at x; rw [(mayStr_iff k h (b.length : Int)).2 ⟨by omega, by omega, x.2⟩] at hm; cases hm
    clear hm
    by_cases h1 : nb ≤ 200
    · by_cases h2 : n1 ≤ 100
      · have q0 : ¬ ((nb : Int) > 200) := by omega
        have q1 : ¬ ((n1 : Int) > 100) := by omega
        have q2 : (n0 : Int) > 1048576 := by omega
        clear hno
        go_enter Try.func95, Try.ntmps95
        go_wp2
        go_ret
        exact ⟨w.heap.size, 0, 0, by simp, by rw [HE.out]; rfl, Nat.le_refl _, by rw [HE.out]; exact R0.out, A0.out⟩
      · have q0 : ¬ ((nb : Int) > 200) := by omega
        have q1 : (n1 : Int) > 100 := by omega
        clear hno
        go_enter Try.func95, Try.ntmps95
        go_wp2
        go_ret
        exact ⟨w.heap.size, 0, 0, by simp, by rw [HE.out]; rfl, Nat.le_refl _, by rw [HE.out]; exact R0.out, A0.out⟩
    · have q0 : (nb : Int) > 200 := by omega
      clear hno
      go_enter Try.func95, Try.ntmps95
      go_wp2
      go_ret
      exact ⟨w.heap.size, 0, 0, by simp, by rw [HE.out]; rfl, Nat.le_refl _, by rw [HE.out]; exact R0.out, A0.out⟩
  | true =>
    obtain ⟨h0, h1, h2, h3⟩ := (mayStr_iff k h (b.length : Int)).1 hm
    have HE : Hid (mixI k h b = xors b (strI k h (b.length : Int))) := mixI_of k h b hm
    have HSL : Hid ((strI k h (nb : Int)).length = nb) := by show _ = _; rw [HNB.out]; exact strI_len k h _ hm
    have HEL : Hid (nb = (mixI k h b).length) := by show _ = _; rw [mixI_len k h b hm]; exact HNB.out
    have hnb : nb ≤ 200 := by have := HNB.out; omega
    rw [← HN1.out] at h2
    rw [← HN0.out] at h3
    have q0 : ¬ ((nb : Int) > 200) := by omega
    have q1 : ¬ ((n1 : Int) > 100) := by omega
    have q2 : ¬ ((n0 : Int) > 1048576) := by omega
    clear hm h0 h1
    go_enter Try.func95, Try.ntmps95
    go_wp2_with fail
    refine (specStream a0 n0 c0 a1 n1 c1 k h (nb : Int) _ HN0.out HN1.out (HR0.out.later A0.out (Nat.le_refl _)) (HR1.out.later A0.out (Nat.le_refl _)) na0 na1 HB0.out HB1.out l0 l1).mono ?_
    rintro e w2 ⟨gs, ms, cs, rfl, es, ks, rs, bs⟩
    obtain rfl : ms = nb := by rw [es, HSL.out]
    rw [← HNB.out] at HE
    obtain ⟨s, hs⟩ : ∃ s, strI k h (ms : Int) = s := ⟨_, rfl⟩
    rw [hs] at HE HSL rs
    have SB : Hid (Bytes s) := by rw [← hs]; exact strI_bytes k h _
    have RS : Hid (Row w2 gs cs s) := rs
    have B2 : Hid (Below w.heap.size w w2) := A0.out.trans (bs.mono A0.out.size)
    have RO : Hid (Row w2 w.heap.size 0 ((xors b s).take 0)) := R0.out.later bs
    have NS : Hid (w.heap.size ≠ gs) := Nat.ne_of_lt (Nat.lt_of_lt_of_le R0.out.lt ks)
    have GS : Hid (w.heap.size ≤ gs) := Nat.le_trans A0.out.size ks
    clear es ks rs bs hs
    go_wp2
    go_loopw [7, 9] (fun v i wr => ∃ q go co : Nat, q ≤ ms ∧ i = .int .i64 (q : Int) ∧ v = .slice (some ⟨go, 0, none⟩) q co ∧ w.heap.size ≤ go ∧ go ≠ gs ∧ Row wr go co ((xors b s).take q) ∧ Row wr gs cs s ∧ Below w.heap.size w wr)
      (fun _ i _ => ms - (intOf i).toNat)
    case atStart => exact ⟨0, w.heap.size, 0, by omega, rfl, rfl, Nat.le_refl _, NS.out, RO.out, RS.out, B2.out⟩
    case round =>
      obtain ⟨q, go, co, hq, rfl, rfl, hgo, hne, hRo, hRs, hbe⟩ := hrel
      have HRo : Hid (Row wr go co ((xors b s).take q)) := hRo
      have HRs : Hid (Row wr gs cs s) := hRs
      have HBe : Hid (Below w.heap.size w wr) := hbe
      have HNE : Hid (go ≠ gs) := hne
      have HQL : Hid (q = ((xors b s).take q).length) := by show _ = _; rw [List.length_take, xors_length, HSL.out, ← HNB.out]; omega
      clear RO RS B2 hRo hRs hbe hne
      by_cases hlt : q < ms
      · have hltI : (q : Int) < (ms : Int) := by omega
        have i0 : (0 : Int) ≤ (q : Int) := by omega
        have HT : Hid ((xors b s).take (q + 1) = (xors b s).take q ++ [bits .xor .u8 (b.getD q 0) (s.getD q 0)]) := xors_take b s q (by rw [← HNB.out]; exact hlt) (by rw [HSL.out]; exact hlt)
        obtain ⟨bb, bo, rfl, hbl, p1⟩ := (HRB.out.later HBe.out (Nat.le_refl _)) q (by rw [← HNB.out]; exact hlt)
        have p2 := HRs.out.cell q (by rw [HSL.out]; exact hlt)
        have HBL : Hid (∀ wx, Below w.heap.size w wx → wx.cell? ⟨bb, bo + q, none⟩ = some (.int .u8 (b.getD q 0))) := fun wx hb => by
          obtain ⟨b', o', e, _, hc⟩ := (HRB.out.later hb (Nat.le_refl _)) q (by rw [← HNB.out]; exact hlt)
          simp only [Option.some.injEq, Addr.mk.injEq, and_true] at e
          obtain ⟨rfl, rfl⟩ := e
          exact hc
        have HSS : Hid (∀ wx, Row wx gs cs s → wx.cell? ⟨gs, q, none⟩ = some (.int .u8 (s.getD q 0))) := fun wx hx => hx.cell q (by rw [HSL.out]; exact hlt)
        generalize b.getD q 0 = z1 at *
        generalize s.getD q 0 = z2 at *
        clear hbl
        go_wp2
        go_region_held3 (fun w' => w'.cell? ⟨bb, bo + q, none⟩ = some (.int .u8 z1) ∧ w'.cell? ⟨gs, q, none⟩ = some (.int .u8 z2)) (first | exact ⟨p3, p4⟩ | exact ⟨p1, p2⟩ | exact ⟨HBL.out _ (HBe.out.drew.alloc HBe.out.size _), HSS.out _ (row_alloc (w := wr.drew) HRs.out _)⟩ | go_keep)
          ((refine bstep_at rfl (.tmp 36) (.tmp 46) rfl w.heap.size go q co ((xors b s).take q) [bits .xor .u8 z1 z2] (by rfl) HQL.out (row_alloc (w := wr.drew) HRo.out _) hgo ⟨wr.heap.size, 0, none⟩ 1 1 (by rfl) rfl (rd_one wr.drew _) (by rw [← HQL.out, List.length_singleton]; omega) ?_; intro g3 c3 w3 r3 k3 l3 gr3; have R3 : Hid (Row w3 g3 c3 ((xors b s).take (q + 1))) := (by show Row _ _ _ _; rw [HT.out]; exact r3); have G3 : Hid (w.heap.size ≤ g3) := k3; have S3 : Hid (Row w3 gs cs s) := (row_alloc (w := wr.drew) HRs.out _).keep (gr3.block gs (row_alloc (w := wr.drew) HRs.out _).lt (by simp only [ne_eq, Option.some.injEq]; exact Ne.symm HNE.out)); have N3 : Hid (g3 ≠ gs) := (by rcases l3 with rfl | h; exact HNE.out; exact Nat.ne_of_gt (Nat.lt_of_lt_of_le (row_alloc (w := wr.drew) HRs.out _).lt h)); have B3 : Hid (Below w.heap.size w w3) := (HBe.out.drew.alloc HBe.out.size _).grown gr3 (Below.size (HBe.out.drew.alloc HBe.out.size _)) (fun k h => by cases h; exact hgo); have p3 := HBL.out w3 B3.out; have p4 := HSS.out w3 S3.out; clear r3 k3 l3 gr3))
        go_wp2
        go_roundw
        case rel => exact ⟨q + 1, g3, c3, by omega, by go_num, rfl, G3.out, N3.out, R3.out, S3.out, B3.out⟩
        case measure => simp [intOf]; omega
      · obtain rfl : q = ms := by omega
        have HF : Hid ((xors b s).take q = mixI k h b) := by
          show _ = _
          rw [HE.out, List.take_of_length_le (by rw [xors_length, HSL.out, ← HNB.out]; omega)]
        rw [HF.out] at HRo
        have hltI : ¬ ((q : Int) < (q : Int)) := by omega
        go_wp2
        go_ret
        exact ⟨go, q, co, rfl, HEL.out, hgo, HRo.out, HBe.out⟩
end Go.Proofs.Ytmcflfpckpjphaa.StrS

namespace Go.Proofs.Ytmcflfpckpjphaa.Diffs
open Go.RowKit Go.Proofs.Ytmcflfpckpjphaa.Mem Go.Proofs.Ytmcflfpckpjphaa.DiffP

set_option maxRecDepth 100000 in
theorem wrap_byte (x : Int) (h0 : 0 ≤ x) (h1 : x ≤ 255) : IntKind.i64.wrap x = x := by rw [IntKind.wrap_i64]; omega

set_option maxRecDepth 100000 in
theorem sameI_no (x y : List Int) (h : x.length ≠ 16) : sameI x y = false := by simp [sameI, h]
set_option maxRecDepth 100000 in
theorem sameI_yes (x y : List Int) (h : x.length = 16) : sameI x y = (diffI x y == 0) := by
  simp [sameI, h, Bool.beq_eq_decide_eq]

end Go.Proofs.Ytmcflfpckpjphaa.Diffs

namespace Go.Proofs.Ytmcflfpckpjphaa.ZoneI
open Go.RowKit Go.Proofs.Ytmcflfpckpjphaa.Mem Go.Proofs.Ytmcflfpckpjphaa.MemI Go.Proofs.Ytmcflfpckpjphaa.Blk Go.Proofs.Ytmcflfpckpjphaa.Zone

/-- The slice reads as the ints l. -/
structure ISRd (w : World) (s : Sl) (l : List Int) : Prop where
  len : s.n = l.length
  rd : IRd w s.a l
  nil : s.a = none → s.c = 0
  cap : s.n ≤ s.c
/-- The slice is none, or a row of its own in the zone [lo, hi). -/
def ISOwn (w : World) (lo hi : Nat) (s : Sl) (l : List Int) : Prop :=
  (s = ⟨none, 0, 0⟩ ∧ l = []) ∨ ∃ g, s.a = some ⟨g, 0, none⟩ ∧ s.n = l.length ∧ lo ≤ g ∧ g < hi ∧ IRow w g s.c l
set_option maxRecDepth 100000 in
theorem ISOwn.rd {w : World} {lo hi : Nat} {s : Sl} {l : List Int} (h : ISOwn w lo hi s l) : ISRd w s l := by
  obtain h | ⟨g, h1, h2, h3, h4, h5⟩ := h
  · obtain ⟨rfl, rfl⟩ := h
    exact ⟨rfl, (fun i hi => by cases hi), fun _ => rfl, Nat.le_refl _⟩
  · exact ⟨h2, by rw [h1]; exact h5.rd, (fun e => by rw [h1] at e; cases e), by rw [h2]; exact h5.1⟩
set_option maxRecDepth 100000 in
theorem ISOwn.carry {w w' : World} {lo hi a b : Nat} {s : Sl} {l : List Int} (h : ISOwn w lo hi s l) (k : Kept a b w w') (d : hi ≤ a ∨ b ≤ lo) : ISOwn w' lo hi s l := by
  obtain h | ⟨g, h1, h2, h3, h4, h5⟩ := h
  · exact .inl h
  · exact .inr ⟨g, h1, h2, h3, h4, h5.keep (k.block g h5.lt (by omega))⟩
set_option maxRecDepth 100000 in
theorem ISOwn.later {w w' : World} {lo hi : Nat} {s : Sl} {l : List Int} (h : ISOwn w lo hi s l) (k : Below w.heap.size w w') : ISOwn w' lo hi s l := h.carry (Kept.of_below k hi) (.inl (Nat.le_refl _))
set_option maxRecDepth 100000 in
theorem ISOwn.len {w : World} {lo hi : Nat} {s : Sl} {l : List Int} (h : ISOwn w lo hi s l) : s.n = l.length := h.rd.len
set_option maxRecDepth 100000 in
theorem ISOwn.mono {w : World} {lo hi lo' hi' : Nat} {s : Sl} {l : List Int} (h : ISOwn w lo hi s l) (h1 : lo' ≤ lo) (h2 : hi ≤ hi') : ISOwn w lo' hi' s l := by
  obtain h | ⟨g, q1, q2, q3, q4, q5⟩ := h
  · exact .inl h
  · exact .inr ⟨g, q1, q2, by omega, by omega, q5⟩
set_option maxRecDepth 100000 in
theorem ISOwn.nil (w : World) (lo hi : Nat) : ISOwn w lo hi ⟨none, 0, 0⟩ [] := .inl ⟨rfl, rfl⟩
set_option maxRecDepth 100000 in
theorem ISOwn.row {w : World} {lo hi g n c : Nat} {l : List Int} (h : IRow w g c l) (hn : n = l.length) (h1 : lo ≤ g) (h2 : g < hi) : ISOwn w lo hi ⟨some ⟨g, 0, none⟩, n, c⟩ l := .inr ⟨g, rfl, hn, h1, h2, h⟩
set_option maxRecDepth 100000 in
theorem ISRd.later {w w' : World} {s : Sl} {l : List Int} (h : ISRd w s l) (b : Below w.heap.size w w') : ISRd w' s l := ⟨h.len, h.rd.later b (Nat.le_refl _), h.nil, h.cap⟩

set_option maxRecDepth 100000 in
theorem toI (s : Sl) (l : List Int) (w : World) (h : ISRd w s l) (hl : l.length ≤ 4194304) :
    Calls Try.prog 104 #[.slice s.a s.n s.c] w fun e w' =>
      e = .returned (.slice (some ⟨w.heap.size, 0, none⟩) s.n s.n) ∧ ISOwn w' w.heap.size w'.heap.size ⟨some ⟨w.heap.size, 0, none⟩, s.n, s.n⟩ l ∧ Below w.heap.size w w' := by
  refine (toIntS s.a s.n s.c l w h.len h.rd hl).mono ?_
  rintro e w' ⟨rfl, r, b⟩
  exact ⟨rfl, ISOwn.row r h.len (Nat.le_refl _) r.lt, b⟩
set_option maxRecDepth 100000 in
theorem eqI (s t : Sl) (x y : List Int) (w : World) (h : ISRd w s x) (k : ISRd w t y) (lx : x.length ≤ 4194304) (ly : y.length ≤ 4194304) :
    Calls Try.prog 100 #[.slice s.a s.n s.c, .slice t.a t.n t.c] w fun e w' => e = .returned (.bool (decide (x = y))) ∧ Below w.heap.size w w' := by
  refine (eqIntS s.a t.a s.n s.c t.n t.c x y w h.len k.len h.rd k.rd lx ly).mono ?_
  rintro e w' ⟨rfl, m, rfl⟩
  exact ⟨rfl, ⟨rfl, rfl, rfl, Nat.le_refl _, fun _ _ => rfl⟩⟩
set_option maxRecDepth 100000 in
set_option maxHeartbeats 800000 in
theorem markI (s : Sl) (l : List Int) (q : Int) (w : World) (lo hi : Nat) (h : ISOwn w lo hi s l) (hl : l.length ≤ 4194304) (q0 : 0 ≤ q) (q1 : q ≤ 4194304) :
    Calls Try.prog 101 #[.slice s.a s.n s.c, .int .i64 q] w fun e w' =>
      e = .returned (.int .i64 (q + s.n)) ∧ ISOwn w' lo hi s (imarks q s.n) ∧ Kept lo hi w w' := by
  obtain ⟨rfl, rfl⟩ | ⟨g, h1, h2, h3, h4, h5⟩ := h
  · have hm : imarks q 0 = [] := rfl
    show Calls Try.prog 101 #[.slice none 0 0, .int .i64 q] w fun e w' => e = .returned (.int .i64 (q + (0 : Nat))) ∧ ISOwn w' lo hi ⟨none, 0, 0⟩ (imarks q 0) ∧ Kept lo hi w w'
    rw [hm]
    have HN : Hid (ISOwn w lo hi ⟨none, 0, 0⟩ []) := ISOwn.nil w lo hi
    clear hm hl
    go_enter Try.func101, Try.ntmps101
    go_wp2
    go_loop [1, 5] (fun k i => k = .int .i64 q ∧ i = .int .i64 0) (fun _ _ => 0)
    case atStart => exact ⟨rfl, rfl⟩
    case round =>
      obtain ⟨rfl, rfl⟩ := hrel
      go_wp2
      go_ret
      exact ⟨by simp, HN.out, Kept.refl _ _ _⟩
  · obtain ⟨sa, sn, sc⟩ := s
    simp only at h1 h2 h5
    subst h1
    refine (markIntS g sn sc l q w h2 h5 hl q0 q1).mono ?_
    rintro e w' ⟨rfl, r, gr⟩
    exact ⟨rfl, .inr ⟨g, rfl, (imarks_length q sn).symm, h3, h4, r⟩, (Kept.of_grown gr).mono h3 h4⟩
set_option maxRecDepth 100000 in
theorem heldI (s : Sl) (q : Int) (w : World) (h : ISRd w s (imarks q s.n)) (hl : s.n ≤ 4194304) (q0 : 0 ≤ q) (q1 : q ≤ 4194304) :
    Calls Try.prog 102 #[.slice s.a s.n s.c, .int .i64 q] w fun e w' => e = .returned (.int .i64 (q + s.n)) ∧ w = w' :=
  heldIntS s.a s.c s.n q w h.rd hl q0 q1
set_option maxRecDepth 100000 in
theorem szI (s : Sl) (q : Int) (w : World) (hl : s.n ≤ 9223372036854775807) (q0 : 0 ≤ q) (q1 : q ≤ 4194304) :
    Calls Try.prog 103 #[.slice s.a s.n s.c, .int .i64 q] w fun e w' => e = .returned (.int .i64 (if q - s.n < 0 then -1 else q - s.n)) ∧ w = w' := by
  have hw : IntKind.i64.wrap (q - (s.n : Int)) = q - (s.n : Int) := by rw [IntKind.wrap_i64]; omega
  by_cases h : q - (s.n : Int) < 0
  · rw [if_pos h]
    go_enter Try.func103, Try.ntmps103
    go_wp2
    go_ret
    exact ⟨rfl, rfl⟩
  · rw [if_neg h]
    go_enter Try.func103, Try.ntmps103
    go_wp2
    go_ret
    exact ⟨rfl, rfl⟩
end Go.Proofs.Ytmcflfpckpjphaa.ZoneI

namespace Go.Proofs.Ytmcflfpckpjphaa.FrL
open Go.RowKit Go.Proofs.Ytmcflfpckpjphaa.Mem Go.Proofs.Ytmcflfpckpjphaa.Blk Go.Proofs.Ytmcflfpckpjphaa.Zone Go.Proofs.Ytmcflfpckpjphaa.ZoneI Go.Proofs.Ytmcflfpckpjphaa.FrZ 
set_option maxRecDepth 100000 in
theorem fr_short_le {D : FrD} {n m : Nat} (h : FrShort D n) (hm : n ≤ m) : FrShort D m := ⟨Nat.le_trans h.cn hm, Nat.le_trans h.sn hm, Nat.le_trans h.cookie hm, Nat.le_trans h.proof hm, Nat.le_trans h.body hm, Nat.le_trans h.tag hm⟩
set_option maxRecDepth 100000 in
theorem fr_sum_eq {w w' : World} {S S' : FrS} {D : FrD} (r : FrRd w S D) (r' : FrRd w' S' D) : frSum S' = frSum S := by
  have a0 := r.cn.len; have b0 := r'.cn.len
  have a1 := r.sn.len; have b1 := r'.sn.len
  have a2 := r.cookie.len; have b2 := r'.cookie.len
  have a3 := r.proof.len; have b3 := r'.proof.len
  have a4 := r.body.len; have b4 := r'.body.len
  have a5 := r.tag.len; have b5 := r'.tag.len
  unfold frSum; omega
set_option maxRecDepth 100000 in
theorem fr_sum_le {w : World} {S : FrS} {D : FrD} {n : Nat} (r : FrRd w S D) (h : FrShort D n) : frSum S ≤ 6 * n := by
  have a0 := r.cn.len; have b0 := h.cn
  have a1 := r.sn.len; have b1 := h.sn
  have a2 := r.cookie.len; have b2 := h.cookie
  have a3 := r.proof.len; have b3 := h.proof
  have a4 := r.body.len; have b4 := h.body
  have a5 := r.tag.len; have b5 := h.tag
  unfold frSum; omega
set_option maxRecDepth 100000 in
theorem fr_short_of {w : World} {S : FrS} {D : FrD} {n : Nat} (r : FrRd w S D) (h : frSum S ≤ n) : FrShort D n := by
  unfold frSum at h
  have a0 := r.cn.len
  have a1 := r.sn.len
  have a2 := r.cookie.len
  have a3 := r.proof.len
  have a4 := r.body.len
  have a5 := r.tag.len
  exact ⟨by omega, by omega, by omega, by omega, by omega, by omega⟩
set_option maxRecDepth 100000 in
theorem fr_other {w : World} {g g' : Nat} {t : TypeId} {cs : List Value} (k : Blk w g' t cs) (ne : g' ≠ g) (v0 v1 v2 v3 v4 v5 v6 v7 v8 v9 v10 : Value) : Blk (((((((((((w.setCell ⟨g, 0, none⟩ (v0)).setCell ⟨g, 1, none⟩ (v1)).setCell ⟨g, 2, none⟩ (v2)).setCell ⟨g, 3, none⟩ (v3)).setCell ⟨g, 4, none⟩ (v4)).setCell ⟨g, 5, none⟩ (v5)).setCell ⟨g, 6, none⟩ (v6)).setCell ⟨g, 7, none⟩ (v7)).setCell ⟨g, 8, none⟩ (v8)).setCell ⟨g, 9, none⟩ (v9)).setCell ⟨g, 10, none⟩ (v10)) g' t cs :=
  ((((((((((k.other (by exact ne) _).other (by exact ne) _).other (by exact ne) _).other (by exact ne) _).other (by exact ne) _).other (by exact ne) _).other (by exact ne) _).other (by exact ne) _).other (by exact ne) _).other (by exact ne) _).other (by exact ne) _
set_option maxRecDepth 100000 in
theorem fr_kept (w : World) (g : Nat) (v0 v1 v2 v3 v4 v5 v6 v7 v8 v9 v10 : Value) : Kept g (g + 1) w (((((((((((w.setCell ⟨g, 0, none⟩ (v0)).setCell ⟨g, 1, none⟩ (v1)).setCell ⟨g, 2, none⟩ (v2)).setCell ⟨g, 3, none⟩ (v3)).setCell ⟨g, 4, none⟩ (v4)).setCell ⟨g, 5, none⟩ (v5)).setCell ⟨g, 6, none⟩ (v6)).setCell ⟨g, 7, none⟩ (v7)).setCell ⟨g, 8, none⟩ (v8)).setCell ⟨g, 9, none⟩ (v9)).setCell ⟨g, 10, none⟩ (v10)) := ((((((((((Kept.setCell _ _ _ _).trans (Kept.setCell _ _ _ _)).trans (Kept.setCell _ _ _ _)).trans (Kept.setCell _ _ _ _)).trans (Kept.setCell _ _ _ _)).trans (Kept.setCell _ _ _ _)).trans (Kept.setCell _ _ _ _)).trans (Kept.setCell _ _ _ _)).trans (Kept.setCell _ _ _ _)).trans (Kept.setCell _ _ _ _)).trans (Kept.setCell _ _ _ _)
set_option maxRecDepth 100000 in
theorem fr_size (w : World) (g : Nat) (v0 v1 v2 v3 v4 v5 v6 v7 v8 v9 v10 : Value) : (((((((((((w.setCell ⟨g, 0, none⟩ (v0)).setCell ⟨g, 1, none⟩ (v1)).setCell ⟨g, 2, none⟩ (v2)).setCell ⟨g, 3, none⟩ (v3)).setCell ⟨g, 4, none⟩ (v4)).setCell ⟨g, 5, none⟩ (v5)).setCell ⟨g, 6, none⟩ (v6)).setCell ⟨g, 7, none⟩ (v7)).setCell ⟨g, 8, none⟩ (v8)).setCell ⟨g, 9, none⟩ (v9)).setCell ⟨g, 10, none⟩ (v10)).heap.size = w.heap.size := by simp
set_option maxRecDepth 100000 in
theorem fr_stored {w : World} {g lo hi : Nat} {u0 u1 u2 u3 u4 u5 u6 u7 u8 u9 u10 : Value} {D : FrD} {S : FrS} (k : Blk w g 39 [u0, u1, u2, u3, u4, u5, u6, u7, u8, u9, u10]) (o : FrOwn w lo hi S D) (d : g + 1 ≤ lo ∨ hi ≤ g) :
    Blk (((((((((((w.setCell ⟨g, 0, none⟩ (.int .i64 D.kind)).setCell ⟨g, 1, none⟩ (.int .i64 D.id)).setCell ⟨g, 2, none⟩ (.slice S.cn.a S.cn.n S.cn.c)).setCell ⟨g, 3, none⟩ (.slice S.sn.a S.sn.n S.sn.c)).setCell ⟨g, 4, none⟩ (.int .i64 D.tick)).setCell ⟨g, 5, none⟩ (.slice S.cookie.a S.cookie.n S.cookie.c)).setCell ⟨g, 6, none⟩ (.slice S.proof.a S.proof.n S.proof.c)).setCell ⟨g, 7, none⟩ (.int .i64 D.epoch)).setCell ⟨g, 8, none⟩ (.int .i64 D.seq)).setCell ⟨g, 9, none⟩ (.slice S.body.a S.body.n S.body.c)).setCell ⟨g, 10, none⟩ (.slice S.tag.a S.tag.n S.tag.c)) g 39 [.int .i64 D.kind, .int .i64 D.id, .slice S.cn.a S.cn.n S.cn.c, .slice S.sn.a S.sn.n S.sn.c, .int .i64 D.tick, .slice S.cookie.a S.cookie.n S.cookie.c, .slice S.proof.a S.proof.n S.proof.c, .int .i64 D.epoch, .int .i64 D.seq, .slice S.body.a S.body.n S.body.c, .slice S.tag.a S.tag.n S.tag.c] ∧ FrOwn (((((((((((w.setCell ⟨g, 0, none⟩ (.int .i64 D.kind)).setCell ⟨g, 1, none⟩ (.int .i64 D.id)).setCell ⟨g, 2, none⟩ (.slice S.cn.a S.cn.n S.cn.c)).setCell ⟨g, 3, none⟩ (.slice S.sn.a S.sn.n S.sn.c)).setCell ⟨g, 4, none⟩ (.int .i64 D.tick)).setCell ⟨g, 5, none⟩ (.slice S.cookie.a S.cookie.n S.cookie.c)).setCell ⟨g, 6, none⟩ (.slice S.proof.a S.proof.n S.proof.c)).setCell ⟨g, 7, none⟩ (.int .i64 D.epoch)).setCell ⟨g, 8, none⟩ (.int .i64 D.seq)).setCell ⟨g, 9, none⟩ (.slice S.body.a S.body.n S.body.c)).setCell ⟨g, 10, none⟩ (.slice S.tag.a S.tag.n S.tag.c)) lo hi S D ∧ (∀ B a, B ≤ g → Below B a w → Below B a (((((((((((w.setCell ⟨g, 0, none⟩ (.int .i64 D.kind)).setCell ⟨g, 1, none⟩ (.int .i64 D.id)).setCell ⟨g, 2, none⟩ (.slice S.cn.a S.cn.n S.cn.c)).setCell ⟨g, 3, none⟩ (.slice S.sn.a S.sn.n S.sn.c)).setCell ⟨g, 4, none⟩ (.int .i64 D.tick)).setCell ⟨g, 5, none⟩ (.slice S.cookie.a S.cookie.n S.cookie.c)).setCell ⟨g, 6, none⟩ (.slice S.proof.a S.proof.n S.proof.c)).setCell ⟨g, 7, none⟩ (.int .i64 D.epoch)).setCell ⟨g, 8, none⟩ (.int .i64 D.seq)).setCell ⟨g, 9, none⟩ (.slice S.body.a S.body.n S.body.c)).setCell ⟨g, 10, none⟩ (.slice S.tag.a S.tag.n S.tag.c))) := by
  refine ⟨((((((((((k.set 0 _ (by simp [maxLen])).set 1 _ (by simp [maxLen])).set 2 _ (by simp [maxLen])).set 3 _ (by simp [maxLen])).set 4 _ (by simp [maxLen])).set 5 _ (by simp [maxLen])).set 6 _ (by simp [maxLen])).set 7 _ (by simp [maxLen])).set 8 _ (by simp [maxLen])).set 9 _ (by simp [maxLen])).set 10 _ (by simp [maxLen]), o.carry (fr_kept w g _ _ _ _ _ _ _ _ _ _ _) (by omega), fun B a hB h => ?_⟩
  exact ((((((((((h.setCell (by exact hB) _).setCell (by exact hB) _).setCell (by exact hB) _).setCell (by exact hB) _).setCell (by exact hB) _).setCell (by exact hB) _).setCell (by exact hB) _).setCell (by exact hB) _).setCell (by exact hB) _).setCell (by exact hB) _).setCell (by exact hB) _
end Go.Proofs.Ytmcflfpckpjphaa.FrL

namespace Go.Proofs.Ytmcflfpckpjphaa.Zone
open Go.RowKit Go.Proofs.Ytmcflfpckpjphaa.Mem
set_option maxRecDepth 100000 in
theorem SOwn.later {w w' : World} {lo hi : Nat} {s : Sl} {l : List Int} (h : SOwn w lo hi s l) (k : Below w.heap.size w w') : SOwn w' lo hi s l := h.carry (Kept.of_below k hi) (.inl (Nat.le_refl _))
end Go.Proofs.Ytmcflfpckpjphaa.Zone
namespace Go.Proofs.Ytmcflfpckpjphaa.Shp
open Go.RowKit Go.Proofs.Ytmcflfpckpjphaa.Mem Go.Proofs.Ytmcflfpckpjphaa.MemI Go.Proofs.Ytmcflfpckpjphaa.Zone Go.Proofs.Ytmcflfpckpjphaa.ZoneI
set_option maxRecDepth 100000 in
theorem row_cap {k : IntKind} {w : World} {a : Option Addr} {n c : Nat} {z : List Int} (h : IsRow k w a n c z) : n ≤ c := by
  rcases h with ⟨_, rfl, rfl, _⟩ | ⟨_, _, h, _⟩
  · exact Nat.le_refl _
  · exact h
set_option maxRecDepth 100000 in
theorem row_sl {w : World} {a : Option Addr} {n c : Nat} {z : List Int} (h : IsRow .u8 w a n c z) : ∃ l, SRd w ⟨a, n, c⟩ l := by
  obtain ⟨l, h1, h2, h3, h4⟩ := h.read
  exact ⟨l, h1, h2, h3, row_cap h, h4⟩
set_option maxRecDepth 100000 in
theorem row_isl {w : World} {a : Option Addr} {n c : Nat} {z : List Int} (h : IsRow .i64 w a n c z) : ∃ l, ISRd w ⟨a, n, c⟩ l := by
  obtain ⟨l, h1, h2, h3, _⟩ := readI h
  exact ⟨l, h1, h2, h3, row_cap h⟩
/-- A list of bytes in new memory. -/
def AnsB (l : List Int) (w : World) : Ending → World → Prop := fun e w' => ∃ S0 : Sl, e = .returned (.slice S0.a S0.n S0.c) ∧ SOwn w' w.heap.size w'.heap.size S0 l ∧ Below w.heap.size w w'
set_option maxRecDepth 100000 in
theorem AnsB.of {l : List Int} {w : World} {e : Ending} {w' : World} (hb : Bytes l) (h : ∃ g m cap, e = .returned (.slice (some ⟨g, 0, none⟩) m cap) ∧ m = l.length ∧ w.heap.size ≤ g ∧ Row w' g cap l ∧ Below w.heap.size w w') : AnsB l w e w' := by
  obtain ⟨g, m, c, h1, h2, h3, h4, h5⟩ := h
  exact ⟨⟨some ⟨g, 0, none⟩, m, c⟩, h1, SOwn.row h4 h2 hb h3 h4.lt, h5⟩
end Go.Proofs.Ytmcflfpckpjphaa.Shp

namespace Go.Proofs.Ytmcflfpckpjphaa.Each
open Go.RowKit

/-- A list whose places D, counted from i on, are told by t, all others as in l. -/
def frL (D : List Nat) (t : Nat → Value) : Nat → List Value → List Value
  | _, [] => []
  | i, v :: r => (if D.contains i then t i else v) :: frL D t (i + 1) r
/-- A frame whose temporaries D are told by t, all others as in a. -/
def fr (D : List Nat) (a : Act) (t : Nat → Value) : Act := { tmps := (frL D t 0 a.tmps.toList).toArray, defers := a.defers }
set_option maxRecDepth 100000 in
theorem frL_at (D : List Nat) (t : Nat → Value) (l : List Value) : ∀ i k, (frL D t i l)[k]? = (l[k]?).map (fun v => if D.contains (i + k) then t (i + k) else v) := by
  induction l with
  | nil => intro i k; simp [frL]
  | cons v r ih =>
    intro i k
    cases k with
    | zero => simp [frL]
    | succ k =>
      have := ih (i + 1) k
      rw [show i + 1 + k = i + (k + 1) by omega] at this
      simpa [frL] using this
set_option maxRecDepth 100000 in
theorem fr_eq (D : List Nat) (a : Act) (t : Nat → Value) : fr D a t = { tmps := a.tmps.mapIdx (fun i v => if D.contains i then t i else v), defers := a.defers } := by
  unfold fr
  congr 1
  apply Array.ext_getElem?
  intro k
  rw [Array.getElem?_mapIdx, List.getElem?_toArray, frL_at, Nat.zero_add, Array.getElem?_toList]
def upd (t : Nat → Value) (d : Nat) (v : Value) : Nat → Value := fun i => if i = d then v else t i
set_option maxRecDepth 100000 in
theorem upd_same (t : Nat → Value) (d : Nat) (v : Value) : upd t d v d = v := by simp [upd]
set_option maxRecDepth 100000 in
theorem upd_other (t : Nat → Value) (d : Nat) (v : Value) (i : Nat) (h : i ≠ d) : upd t d v i = t i := by simp [upd, h]
set_option maxRecDepth 100000 in
theorem fr_start (D : List Nat) (a : Act) : fr D a (fun i => a.tmps.getD i undef) = a := by
  cases a with | mk tmps defers =>
  rw [fr_eq]
  congr 1
  apply Array.ext
  · simp
  · intro i h1 h2
    simp at h1
    simp [h2]
set_option maxRecDepth 100000 in
theorem fr_put (D : List Nat) (a : Act) (t : Nat → Value) (d : Nat) (v : Value) (hd : D.contains d = true) : (fr D a t).put (some d) v = fr D a (upd t d v) := by
  rw [fr_eq, fr_eq]
  simp only [Act.put]
  congr 1
  apply Array.ext
  · simp
  · intro i h1 h2
    simp only [Array.size_setIfInBounds, Array.size_mapIdx] at h1
    rw [Array.getElem_setIfInBounds (by simpa using h1)]
    by_cases hid : d = i
    · subst hid
      simp only [if_true, Array.getElem_mapIdx, hd, upd_same]
    · simp only [hid, if_false, Array.getElem_mapIdx]
      split
      · rw [upd_other _ _ _ _ (Ne.symm hid)]
      · rfl
set_option maxRecDepth 100000 in
theorem fr_eval (D : List Nat) (a : Act) (t : Nat → Value) (d : Nat) (hd : D.contains d = true) (hl : d < a.tmps.size) : (fr D a t).eval (.tmp d) = t d := by
  have hd' : d ∈ D := by simpa using hd
  rw [fr_eq]
  simp [Act.eval, Array.getD, hl, hd']
set_option maxRecDepth 100000 in
theorem fr_eval_old (D : List Nat) (a : Act) (t : Nat → Value) (d : Nat) (hd : D.contains d = false) : (fr D a t).eval (.tmp d) = a.eval (.tmp d) := by
  have hd' : ¬ d ∈ D := by simpa using hd
  rw [fr_eq]
  by_cases hl : d < a.tmps.size
  · simp [Act.eval, Array.getD, hl, hd']
  · simp [Act.eval, Array.getD, hl]

/-- Those that operation i waits for. -/
def pre (ops : Array Oper) (i : Nat) : List Nat := match ops[i]? with
  | some o => (o.after.toList.filter (Region.binds .any)).map (·.on)
  | none => []
set_option maxRecDepth 100000 in
theorem mem_pre {ops : Array Oper} {i : Nat} {o : Oper} (h : ops[i]? = some o) {j : Nat} : j ∈ pre ops i ↔ ∃ e ∈ o.after, Region.binds .any e = true ∧ e.on = j := by
  unfold pre
  rw [h]
  simp only [List.mem_map, List.mem_filter, Array.mem_toList_iff]
  constructor
  · rintro ⟨e, ⟨h1, h2⟩, h3⟩; exact ⟨e, h1, h2, h3⟩
  · rintro ⟨e, h1, h2, h3⟩; exact ⟨e, ⟨h1, h2⟩, h3⟩

set_option maxRecDepth 100000 in
theorem pre_mem {ops : Array Oper} {i j : Nat} (h : (pre ops i).contains j = true) : j ∈ pre ops i := by simpa using h

/-- Who waits waits for one ahead; all ahead of the last are waited for; where they leave what they leave lies apart. -/
def fitB (ops : Array Oper) (last : Nat) (D : List Nat) (dst : Nat → Nat) : Bool :=
  ops.size == last + 1 &&
  (List.range (last + 1)).all (fun i => (pre ops i).all (fun j => decide (j < i))) &&
  (List.range last).all (fun j => (List.range (last + 1)).any (fun k => decide (j < k) && (pre ops k).contains j)) &&
  (List.range last).all (fun i => D.contains (dst i) && (List.range last).all (fun j => i == j || dst i != dst j))

set_option maxRecDepth 100000 in
theorem region_each {P : Program} {ops : Array Oper} {Q : Exit → Act → World → Prop} {id : Nat} {a0 : Act} {w0 : World}
    (hm : P.follows .mixedOrders = true) (D : List Nat) (last : Nat) (dst : Nat → Nat) (cls : Nat → Nat)
    (F : Nat → Nat → Value → World → Prop) (B : World → Prop) (hfit : fitB ops last D dst = true)
    (hB : B w0.drew)
    (hkeep : ∀ i g v w w', i < last → F i g v w → Below w.heap.size w w' → B w' → F i g v w')
    (hstep : ∀ i, i < last → ∀ (t : Nat → Value) (ρ : Nat → Nat) (w : World), B w → (∀ j ∈ pre ops i, F j (ρ j) (t (dst j)) w) → (∀ x y, x ∈ pre ops i → y ∈ pre ops i → cls x ≠ 0 → cls y ≠ 0 → cls x ≠ cls y → ρ x ≠ ρ y) →
      wpOp P ops Q i (fun a' w' => ∃ v g, a' = (fr D a0 t).put (some (dst i)) v ∧ B w' ∧ Below w.heap.size w w' ∧ F i g v w' ∧ (cls i = 0 ∨ g < w'.heap.size ∧ (w.heap.size ≤ g ∨ ∃ j ∈ pre ops i, cls j = cls i ∧ g = ρ j))) (fr D a0 t) w)
    (hlast : ∀ (t : Nat → Value) (ρ : Nat → Nat) (w : World), B w → (∀ j, j < last → F j (ρ j) (t (dst j)) w) →
      (∀ i j, i < last → j < last → cls i ≠ 0 → cls j ≠ 0 → cls i ≠ cls j → ρ i ≠ ρ j) →
      wpOp P ops Q last (fun a' w' => Q .normal a' w') (fr D a0 t) w) :
    (Code.region id ops true).wp P Q a0 w0 := by
  unfold fitB at hfit
  simp only [Bool.and_eq_true, beq_iff_eq, List.all_eq_true, List.mem_range, decide_eq_true_eq, List.any_eq_true, Bool.or_eq_true, bne_iff_ne, ne_eq] at hfit
  obtain ⟨⟨⟨hsz, hord⟩, hcov⟩, hdst⟩ := hfit
  have main : ∀ (fuel : Nat) (listed : Array Bool) (a : Act) (w : World), listed.size = ops.size → listed.getD last true = false → listed.toList.count false ≤ fuel →
      (∀ i, i < last + 1 → listed.getD i true = true → ∀ j ∈ pre ops i, listed.getD j true = true) →
      (∃ (t : Nat → Value) (ρ : Nat → Nat), a = fr D a0 t ∧ B w ∧ (∀ i, i < last → listed.getD i true = true → F i (ρ i) (t (dst i)) w ∧ (cls i = 0 ∨ ρ i < w.heap.size)) ∧
        (∀ i j, i < last → j < last → listed.getD i true = true → listed.getD j true = true → cls i ≠ 0 → cls j ≠ 0 → cls i ≠ cls j → ρ i ≠ ρ j)) →
      wpAny P .any ops Q fuel listed a w := by
    intro fuel
    induction fuel with
    | zero =>
      intro listed a w hls hl hc _ _
      exfalso
      have hlt : last < listed.size := by omega
      have : false ∈ listed.toList := by
        rw [Array.mem_toList_iff]
        have : listed[last] = false := by simpa [Array.getD, hlt] using hl
        rw [← this]; exact Array.getElem_mem hlt
      have := List.count_pos_iff.2 this
      omega
    | succ fuel ih =>
      intro listed a w hls hl hc hcl ⟨t, ρ, ha, hBw, hF, hne⟩
      have hop : ∀ i, i < last + 1 → ∃ o, ops[i]? = some o := fun i hi => ⟨ops[i]'(by omega), by simp⟩
      refine ⟨fun h0 => ?_, fun i hi => ?_⟩
      · exfalso
        -- the least that is not listed may come up
        have : ∃ i, i < last + 1 ∧ listed.getD i true = false ∧ ∀ j, j < i → listed.getD j true = true := by
          have aux : ∀ m, m ≤ last + 1 → (∀ j, j < m → listed.getD j true = true) ∨ ∃ i, i < m ∧ listed.getD i true = false ∧ ∀ j, j < i → listed.getD j true = true := by
            intro m
            induction m with
            | zero => intro _; exact .inl fun j hj => by omega
            | succ m ihm =>
              intro hm1
              rcases ihm (by omega) with h | ⟨i, h1, h2, h3⟩
              · cases hv : listed.getD m true with
                | false => exact .inr ⟨m, by omega, hv, h⟩
                | true =>
                  left; intro j hj
                  rcases Nat.lt_or_ge j m with h' | h'
                  · exact h j h'
                  · obtain rfl : j = m := by omega
                    exact hv
              · exact .inr ⟨i, by omega, h2, h3⟩
          rcases aux (last + 1) (Nat.le_refl _) with h | h
          · have := h last (by omega); rw [hl] at this; cases this
          · exact h
        obtain ⟨i, hi, hu, hb⟩ := this
        obtain ⟨o, ho⟩ := hop i hi
        have : i ∈ Region.ready .any ops listed := mem_ready.2 ⟨hu, o, ho, fun e he hbi => by
          have hj := hord i hi e.on ((mem_pre ho).2 ⟨e, he, hbi, rfl⟩)
          have := hb e.on hj
          have hlt : e.on < listed.size := by omega
          simpa [Array.getD, hlt] using this⟩
        rw [h0] at this; cases this
      · obtain ⟨hu, o, ho, hpre⟩ := mem_ready.1 hi
        have hil : i < last + 1 := by
          have := (Array.getElem?_eq_some_iff.1 ho).1; omega
        have hpre' : ∀ j ∈ pre ops i, listed.getD j true = true := fun j hj => by
          obtain ⟨e, he, hbi, rfl⟩ := (mem_pre ho).1 hj
          have h1 := hpre e he hbi
          have hlt : e.on < listed.size := by
            have := hord i hil e.on hj; omega
          simpa [Array.getD, hlt] using h1
        have hset : ∀ j, (listed.setIfInBounds i true).getD j true = true ↔ j = i ∨ listed.getD j true = true := fun j => by
          by_cases hji : j = i
          · subst hji
            have hlt : j < listed.size := by omega
            simp [Array.getD, hlt]
          · simp only [hji, false_or]
            rw [getD_set_ne true (Ne.symm hji)]
        by_cases hlast' : i = last
        · subst hlast'
          have hall : ∀ d j, j + d = i → j < i → listed.getD j true = true := by
            intro d
            induction d using Nat.strongRecOn with
            | ind d ihd =>
              intro j hjd hji
              obtain ⟨k, hk, hjk, hmem⟩ := hcov j hji
              have hmem' : j ∈ pre ops k := by simpa using hmem
              by_cases hki : k = i
              · subst hki; exact hpre' j hmem'
              · exact hcl k hk (ihd (i - k) (by omega) k (by omega) (by omega)) j hmem'
          have hl2 := hlast t ρ w hBw (fun j hj => (hF j hj (hall (i - j) j (by omega) hj)).1) (fun x y hx hy => hne x y hx hy (hall (i - x) x (by omega) hx) (hall (i - y) y (by omega) hy))
          rw [ha]
          refine wpOp_mono (fun a' w' hQ => wpAny_done ?_ hQ fuel) hl2
          apply List.eq_nil_iff_forall_not_mem.2
          intro k hk
          obtain ⟨hku, ok, hok, _⟩ := mem_ready.1 hk
          have hkl : k < i + 1 := by have := (Array.getElem?_eq_some_iff.1 hok).1; omega
          have : (listed.setIfInBounds i true).getD k true = true := (hset k).2 (by
            by_cases hki : k = i
            · exact .inl hki
            · exact .inr (hall (i - k) k (by omega) (by omega)))
          rw [hku] at this; cases this
        · have hilt : i < last := by omega
          have hs := hstep i hilt t ρ w hBw (fun j hj => (hF j (by have := hord i hil j hj; omega) (hpre' j hj)).1) (fun x y hx hy => hne x y (by have := hord i hil x hx; omega) (by have := hord i hil y hy; omega) (hpre' x hx) (hpre' y hy))
          rw [ha]
          refine wpOp_mono (fun a' w' h => ?_) hs
          obtain ⟨v, g, rfl, hB', hbe, hFi, hg⟩ := h
          rw [fr_put D a0 t (dst i) v (hdst i hilt).1]
          apply ih
          · simp [hls]
          · cases hx : (listed.setIfInBounds i true).getD last true with
            | false => rfl
            | true =>
              rcases (hset last).1 hx with h | h
              · exact absurd h.symm hlast'
              · rw [hl] at h; cases h
          · have hlt : i < listed.toList.length := by simp; omega
            have hfi : listed.toList[i] = false := by
              have hlt' : i < listed.size := by omega
              simpa [Array.getD, hlt'] using hu
            rw [Array.toList_setIfInBounds, List.count_set hlt, hfi]
            have : 0 < listed.toList.count false := List.count_pos_iff.2 (by rw [← hfi]; exact List.getElem_mem hlt)
            rw [if_pos (by rfl), if_neg (by decide)]
            omega
          · intro k hk hkl j hj
            rcases (hset k).1 hkl with rfl | h
            · exact (hset j).2 (.inr (hpre' j hj))
            · exact (hset j).2 (.inr (hcl k hk h j hj))
          · refine ⟨upd t (dst i) v, fun k => if k = i then g else ρ k, rfl, hB', ?_, ?_⟩
            · intro k hk hkl
              by_cases hki : k = i
              · subst hki
                simp only [if_true, upd_same]
                exact ⟨hFi, hg.imp (fun h => h) And.left⟩
              · have hdk : dst k ≠ dst i := by
                  have := (hdst k hk).2 i hilt
                  rcases this with h | h
                  · exact absurd h hki
                  · exact h
                have := hF k hk (((hset k).1 hkl).resolve_left hki)
                simp only [hki, if_false, upd_other _ _ _ _ hdk]
                exact ⟨hkeep k _ _ w w' hk this.1 hbe hB', this.2.imp (fun h => h) (fun h => Nat.lt_of_lt_of_le h hbe.size)⟩
            · intro x y hx hy hxl hyl cx cy cxy
              have key : ∀ y, y < last → y ≠ i → (listed.setIfInBounds i true).getD y true = true → cls i ≠ 0 → cls y ≠ 0 → cls i ≠ cls y → g ≠ ρ y := by
                intro y hy hyi hyl ci cy ciy
                have hyl' := ((hset y).1 hyl).resolve_left hyi
                rcases hg with h | ⟨_, h | ⟨j, hj, hcj, rfl⟩⟩
                · exact absurd h ci
                · have := (hF y hy hyl').2
                  rcases this with h' | h'
                  · exact absurd h' cy
                  · omega
                · have hjl : j < last := by have := hord i hil j hj; omega
                  exact hne j y hjl hy (hpre' j hj) hyl' (by rw [hcj]; exact ci) cy (by rw [hcj]; exact ciy)
              by_cases hxi : x = i
              · subst hxi
                have hyx : y ≠ x := fun h => cxy (by rw [h])
                simp only [if_true, hyx, if_false]
                exact key y hy hyx hyl cx cy cxy
              · by_cases hyi : y = i
                · subst hyi
                  simp only [if_true, hxi, if_false]
                  exact Ne.symm (key x hx hxi hxl cy cx (Ne.symm cxy))
                · simp only [hxi, hyi, if_false]
                  exact hne x y hx hy (((hset x).1 hxl).resolve_left hxi) (((hset y).1 hyl).resolve_left hyi) cx cy cxy
  refine wp_region_any hm ?_
  have hrep : ∀ i, i < last + 1 → (Array.replicate ops.size false).getD i true = false := fun i hi => by
    have : i < ops.size := by omega
    simp [Array.getD, this]
  refine main ops.size (Array.replicate ops.size false) a0 w0.drew (by simp) (hrep last (by omega)) (by simp) (fun i hi h => by rw [hrep i hi] at h; cases h) ?_
  exact ⟨_, fun _ => 0, (fr_start D a0).symm, hB, (fun i hi h => by rw [hrep i (by omega)] at h; cases h), (fun i j hi _ h => by rw [hrep i (by omega)] at h; cases h)⟩
end Go.Proofs.Ytmcflfpckpjphaa.Each

namespace Go.Proofs.Ytmcflfpckpjphaa.Copy
open Go.RowKit Go.Proofs.Ytmcflfpckpjphaa.Mem Go.Proofs.Ytmcflfpckpjphaa.MemI Go.Proofs.Ytmcflfpckpjphaa.App Go.Proofs.Ytmcflfpckpjphaa.Blk Go.Proofs.Ytmcflfpckpjphaa.Each

set_option maxRecDepth 100000 in
set_option maxHeartbeats 400000 in
theorem op_wp {P : Program} {ops : Array Oper} {Q : Exit → Act → World → Prop} {i : Nat} {o : Oper} {K : Act → World → Prop} {a : Act} {w : World}
    (hi : ops[i]? = some o) (hg : o.guard = none) (h : Oper.wp P o a w K Q) : wpOp P ops Q i K a w := by
  unfold wpOp
  rw [hi]
  have hw : Region.wanted o (yielded ops a.tmps) = true := by simp [Region.wanted, hg]
  simp only [hw, if_true]
  exact .inl h
set_option maxRecDepth 100000 in
set_option maxHeartbeats 400000 in
theorem op_run {P : Program} {ops : Array Oper} {Q : Exit → Act → World → Prop} {i : Nat} {o : Oper} {K : Act → World → Prop} {a : Act} {w w' : World} {v : Value}
    (hi : ops[i]? = some o) (hg : o.guard = none) (hr : (execOp a.eval o).run P w = .ok (.value v) w') (hk : K (a.put o.dst v) w') : wpOp P ops Q i K a w := by
  refine op_wp hi hg ?_
  unfold Oper.wp
  rw [hr]
  exact hk

set_option maxRecDepth 100000 in
set_option maxHeartbeats 400000 in
theorem grown_none_below {w w' : World} (h : w.grownBy w' none) : Below w.heap.size w w' :=
  (Below.refl _ _).grown h (Nat.le_refl _) (fun k e => by cases e)

set_option maxRecDepth 100000 in
set_option maxHeartbeats 400000 in
theorem op_copy {ops : Array Oper} {Q : Exit → Act → World → Prop} {i : Nat} {o : Oper} {K : Act → World → Prop} {a : Act} {w : World}
    (hi : ops[i]? = some o) (hgd : o.guard = none) (s x : Operand) (hop : o.op = .call { callee := .builtin .append, args := #[s, x], argTypes := #[22, 22] })
    (g : Nat) (hs : a.eval s = .slice (some ⟨g, 0, none⟩) 0 0) (hrow : Row w g 0 [])
    (ao : Option Addr) (m c : Nat) (y : List Int) (hx : a.eval x = .slice ao m c) (hm : m = y.length) (hrd : Rd w ao y) (hnone : ao = none → c = 0) (hsum : y.length ≤ 100000000)
    (hK : ∀ g' cap' w', Row w' g' cap' y → g' < w'.heap.size → (w.heap.size ≤ g' ∨ g' = g) → Below w.heap.size w w' → K (a.put o.dst (.slice (some ⟨g', 0, none⟩) m cap')) w') : wpOp Try.prog ops Q i K a w := by
  obtain ⟨i0, h2, hz0, hz1, hz2⟩ := info_parts info8
  refine op_wp hi hgd ?_
  have hw : Region.wanted o (yielded ops a.tmps) = true := by simp [Region.wanted, hgd]
  cases y with
  | nil =>
    have hm0 : m = 0 := hm
    subst hm0
    have hK' := hK g 0 w hrow hrow.lt (.inr rfl) (Below.refl _ _)
    cases ao with
    | none =>
      have hc0 := hnone rfl
      subst hc0

      unfold Oper.wp
      simp [execOp, hop, resolve, invoke, builtin, hs, hx, Result.andThen]
      exact hK'
    | some ad =>
      have h := step_append_room (P := Try.prog) (ops := ops) (o := o) (a := a) (w := w) (K := K) (Q := Q) (E := True) hgd s x 22 hop 5 i0 1 Try.underlying22 h2 hz1 g 0 0 0 hs ad 0 c [] hx rfl (by intro j u hu; simp at hu) (by simp) (by simp) (by intro j hj; simp at hj) hK'
      rw [if_pos hw] at h
      exact h
  | cons z r =>
    cases ao with
    | none => obtain ⟨_, _, e, _⟩ := hrd 0 (by simp); cases e
    | some ad =>
      have h := step_append_grows (P := Try.prog) (ops := ops) (o := o) (a := a) (w := w) (K := K) (Q := Q) (E := True) hgd s x 22 hop 5 i0 (.int .u8 0) 1 1 Try.underlying22 h2 hz0 hz1 hz2 rfl (by decide) (some ⟨g, 0, none⟩) 0 0 [] hs (by intro e; cases e) rfl (by intro b _ j u hu; simp at hu) ad m c ((z :: r).map (Value.int .u8)) hx (by simp [hm]) (Rd.cells hrd) (ints_oneCell _ _) (by rw [hm]; simp) (by rw [hm]; unfold maxLen; omega) (by rw [hm]; omega) (by
        intro v' w' hown hgr
        rw [List.nil_append, Nat.zero_add] at hown
        rcases hown.2 with ⟨hv, h0⟩ | ⟨g', cap', cur, rfl, hb, hg', _⟩
        · rw [hm] at h0; simp at h0
        · obtain ⟨r1, r2, _, r4⟩ := Row.of hown
          exact hK g' cap' w' r1 r4 (.inl r2) (grown_none_below hgr))
      rw [if_pos hw] at h
      exact h
set_option maxRecDepth 100000 in
set_option maxHeartbeats 400000 in
theorem op_icopy {ops : Array Oper} {Q : Exit → Act → World → Prop} {i : Nat} {o : Oper} {K : Act → World → Prop} {a : Act} {w : World}
    (hi : ops[i]? = some o) (hgd : o.guard = none) (s x : Operand) (hop : o.op = .call { callee := .builtin .append, args := #[s, x], argTypes := #[24, 24] })
    (g : Nat) (hs : a.eval s = .slice (some ⟨g, 0, none⟩) 0 0) (hrow : IRow w g 0 [])
    (ao : Option Addr) (m c : Nat) (y : List Int) (hx : a.eval x = .slice ao m c) (hm : m = y.length) (hrd : IRd w ao y) (hnone : ao = none → c = 0) (hsum : y.length ≤ 10000000)
    (hK : ∀ g' cap' w', IRow w' g' cap' y → g' < w'.heap.size → (w.heap.size ≤ g' ∨ g' = g) → Below w.heap.size w w' → K (a.put o.dst (.slice (some ⟨g', 0, none⟩) m cap')) w') : wpOp Try.prog ops Q i K a w := by
  obtain ⟨i0, h2, hz0, hz1, hz2⟩ := info_parts info64
  refine op_wp hi hgd ?_
  have hw : Region.wanted o (yielded ops a.tmps) = true := by simp [Region.wanted, hgd]
  cases y with
  | nil =>
    have hm0 : m = 0 := hm
    subst hm0
    have hK' := hK g 0 w hrow hrow.lt (.inr rfl) (Below.refl _ _)
    cases ao with
    | none =>
      have hc0 := hnone rfl
      subst hc0

      unfold Oper.wp
      simp [execOp, hop, resolve, invoke, builtin, hs, hx, Result.andThen]
      exact hK'
    | some ad =>
      have h := step_append_room (P := Try.prog) (ops := ops) (o := o) (a := a) (w := w) (K := K) (Q := Q) (E := True) hgd s x 24 hop 3 i0 1 Try.underlying24 h2 hz1 g 0 0 0 hs ad 0 c [] hx rfl (by intro j u hu; simp at hu) (by simp) (by simp) (by intro j hj; simp at hj) hK'
      rw [if_pos hw] at h
      exact h
  | cons z r =>
    cases ao with
    | none => obtain ⟨_, _, e, _⟩ := hrd 0 (by simp); cases e
    | some ad =>
      have h := step_append_grows (P := Try.prog) (ops := ops) (o := o) (a := a) (w := w) (K := K) (Q := Q) (E := True) hgd s x 24 hop 3 i0 (.int .i64 0) 1 8 Try.underlying24 h2 hz0 hz1 hz2 rfl (by decide) (some ⟨g, 0, none⟩) 0 0 [] hs (by intro e; cases e) rfl (by intro b _ j u hu; simp at hu) ad m c ((z :: r).map (Value.int .i64)) hx (by simp [hm]) (IRd.cells hrd) (ints_oneCell _ _) (by rw [hm]; simp) (by rw [hm]; unfold maxLen; omega) (by rw [hm]; omega) (by
        intro v' w' hown hgr
        rw [List.nil_append, Nat.zero_add] at hown
        rcases hown.2 with ⟨hv, h0⟩ | ⟨g', cap', cur, rfl, hb, hg', _⟩
        · rw [hm] at h0; simp at h0
        · obtain ⟨r1, r2, _, r4⟩ := IRow.of hown
          exact hK g' cap' w' r1 r4 (.inl r2) (grown_none_below hgr))
      rw [if_pos hw] at h
      exact h
end Go.Proofs.Ytmcflfpckpjphaa.Copy

namespace Go.Proofs.Ytmcflfpckpjphaa.Ops
open Go.RowKit Go.Proofs.Ytmcflfpckpjphaa.Mem Go.Proofs.Ytmcflfpckpjphaa.App Go.Proofs.Ytmcflfpckpjphaa.Blk Go.Proofs.Ytmcflfpckpjphaa.Each Go.Proofs.Ytmcflfpckpjphaa.Copy

set_option maxRecDepth 100000 in
theorem op_call {P : Program} {ops : Array Oper} {Q : Exit → Act → World → Prop} {i : Nat} {o : Oper} {K : Act → World → Prop} {a : Act} {w : World} {f : FuncId} {args : Array Value} {R : Ending → World → Prop}
    (hi : ops[i]? = some o) (hg : o.guard = none) (hr : (execOp a.eval o).run P w = .ok (.enter f args) w) (hc : Calls P f args w R)
    (hk : ∀ e w', R e w' → ∃ v, e = .returned v ∧ K (a.put o.dst v) w') : wpOp P ops Q i K a w := by
  refine op_wp hi hg ?_
  unfold Oper.wp
  rw [hr]
  refine hc.mono ?_
  intro e w' h
  obtain ⟨v, rfl, h2⟩ := hk e w' h
  exact h2
end Go.Proofs.Ytmcflfpckpjphaa.Ops
