/-
  What DrawHexText and DrawParseHex give: bytes and a text, of bounded length; nothing that was there is written.
-/
import Derived.Test.YtdfjpmldcbbmkaaDrawsW
import Derived.Test.YtdfjpmldcbbmkaaHexT
import Derived.Test.YtdfjpmldcbbmkaaParse
import Derived.Laws.IdiomStrings
import Derived.Deep.RegionWith
namespace Go.Proofs.Ytdfjpmldcbbmkaa.DrawHex
open Go.RowKit Go.Proofs.Ytdfjpmldcbbmkaa.Mem Go.Proofs.Ytdfjpmldcbbmkaa.App Go.Proofs.Ytdfjpmldcbbmkaa.Draw Go.Proofs.Ytdfjpmldcbbmkaa.DrawsW Go.Proofs.Ytdfjpmldcbbmkaa.HexT Go.Proofs.Ytdfjpmldcbbmkaa.Parse

theorem size12 (a : Option Addr) (len cap : Nat) (w : World) (h : len ≤ 1048576) :
    Calls Try.prog 52 #[.slice a len cap, .int .i64 12] w fun e w' => ∃ x : Int, e = .returned (.int .i64 x) ∧ 3 ≤ x ∧ x ≤ 12 ∧ w = w' := by
  by_cases h1 : 12 < 3 + (len : Int) / 12
  · go_enter Try.func52, Try.ntmps52
    go_wp2
    go_ret
    exact ⟨12, rfl, by omega, by omega, rfl⟩
  · go_enter Try.func52, Try.ntmps52
    go_wp2
    go_ret
    exact ⟨3 + (len : Int) / 12, rfl, by omega, by omega, rfl⟩

theorem at2 (a : Option Addr) (len cap : Nat) (l : List Int) (w : World) (hl : len = l.length) (hr : Rd w a l) (hb : Bytes l) (hlen : len ≤ 1048576) :
    Calls Try.prog 30 #[.slice a len cap, .int .i64 2] w fun e w' => ∃ x : Int, e = .returned (.int .i64 x) ∧ 0 ≤ x ∧ x ≤ 255 ∧ w = w' := by
  by_cases h : 2 < len
  · obtain ⟨b, off, rfl, _, hc⟩ := hr 2 (by omega)
    have hz := hb.at 2
    clear hr hb
    generalize l.getD 2 0 = z at *
    have hI : (2 : Int) < (len : Int) := by omega
    obtain ⟨z0, z1⟩ := hz
    go_enter Try.func30, Try.ntmps30
    go_wp2
    go_ret
    exact ⟨z, rfl, z0, z1, rfl⟩
  · have hI : ¬ ((2 : Int) < (len : Int)) := by omega
    clear hr hb
    go_enter Try.func30, Try.ntmps30
    go_wp2
    go_ret
    exact ⟨_, rfl, by omega, by omega, rfl⟩

set_option maxHeartbeats 1600000 in
theorem drawHexText (a : Option Addr) (len cap : Nat) (l : List Int) (w : World) (hl : len = l.length) (hr : Rd w a l) (hb : Bytes l) (hlen : len ≤ 1048576) :
    Calls Try.prog 25 #[.slice a len cap] w fun e w' => ∃ (g m c : Nat) (r : List Int), e = .returned (.slice (some ⟨g, 0, none⟩) m c) ∧ m = r.length ∧ m ≤ 200 ∧ m ≤ c ∧ Bytes r ∧ w.heap.size ≤ g ∧ Row w' g c r ∧ Below w.heap.size w w' := by
  have HR : Hid (Rd w a l) := hr
  have HB : Hid (Bytes l) := hb
  have HL : Hid (len = l.length) := hl
  clear hr hb hl
  go_enter Try.func25, Try.ntmps25
  go_wp2_with fail
  refine (newCur a len cap l w HL.out HR.out HB.out hlen).mono ?_
  rintro e w1 ⟨p, rfl, r1⟩
  have R1 : Hid (Ready w a len cap l p w1) := r1
  have hp := r1.hp
  clear r1 HR HB HL
  go_wp2_with fail
  refine (size12 a len cap w1 hlen).mono ?_
  rintro e w2 ⟨n, rfl, n0, n1, rfl⟩
  go_wp2_with fail
  refine (below R1.out n (by omega) (by omega)).mono ?_
  rintro e w2 ⟨x, rfl, x0, x1, r2, _⟩
  have R2 : Hid (Ready w a len cap l p w2) := r2
  clear r2 R1
  obtain ⟨X, rfl⟩ := Int.eq_ofNat_of_zero_le x0
  go_wp2_with fail
  refine (bytesOf R2.out X (by omega)).mono ?_
  rintro e w3 ⟨g, c, r, rfl, e3, y3, g3, row3, r3, _⟩
  have hwg : w.heap.size ≤ g := Nat.le_trans R2.out.hB.size g3
  have hXc : X ≤ c := by rw [e3]; exact row3.1
  have R3 : Hid (Ready w a len cap l p w3) := r3
  have Q3 : Hid (Row w3 g c r) := row3
  have E3 : Hid (X = r.length) := e3
  have Y3 : Hid (Bytes r) := y3
  clear r3 row3 e3 y3 R2
  go_wp2
  go_ret
  exact ⟨g, X, c, r, rfl, E3.out, by omega, hXc, Y3.out, hwg, Q3.out, R3.out.hB⟩

theorem rd_grown {w w' : World} {a : Option Addr} {x : List Int} {g : Nat} (h : Rd w a x) (b : w.grownBy w' (some g)) (hne : ∀ b' off, a = some ⟨b', off, none⟩ → b' ≠ g) : Rd w' a x := by
  intro i hi
  obtain ⟨b', off, e, h1, h2⟩ := h i hi
  exact ⟨b', off, e, Nat.lt_of_lt_of_le h1 b.size, by rw [World.cell?_of_block (w := w) (b.block b' h1 (by simp only [ne_eq, Option.some.injEq]; exact hne b' off e))]; exact h2⟩

theorem Row.set {w : World} {g c : Nat} {r : List Int} (h : Row w g c r) (i : Nat) (z : Int) : Row (w.setCell ⟨g, i, none⟩ (.int .u8 z)) g c (r.set i z) := by
  have := (h.owns (Nat.le_refl g)).stored i (.int .u8 z)
  have h1 := this.1
  rw [← List.map_set] at h1
  have := (Row.of (l := r.set i z) h1).1
  simpa using this
theorem xor_bd (x y : Int) : 0 ≤ bits .xor .u8 x y ∧ bits .xor .u8 x y ≤ 255 := by
  have : ∃ n, bits .xor .u8 x y = IntKind.u8.wrap n := ⟨_, rfl⟩
  obtain ⟨n, hn⟩ := this
  rw [hn, IntKind.wrap_u8']
  omega

theorem bytes_set {x : List Int} (h : Bytes x) (i : Nat) {z : Int} (hz : 0 ≤ z ∧ z ≤ 255) : Bytes (x.set i z) := by
  intro y hy
  rcases List.mem_or_eq_of_mem_set hy with h' | rfl
  · exact h y h'
  · exact hz
theorem bytes_snoc {x : List Int} (h : Bytes x) {z : Int} (hz : 0 ≤ z ∧ z ≤ 255) : Bytes (x ++ [z]) := by
  intro y hy
  rcases List.mem_append.1 hy with h' | h'
  · exact h y h'
  · simp at h'; subst h'; exact hz
theorem Row.front {w : World} {g c : Nat} {r : List Int} (h : Row w g c r) (i : Nat) : Row w g c (r.take i) := by
  obtain ⟨h1, h2, cur, h3, h4, h5⟩ := h
  refine ⟨by rw [List.length_take]; omega, h2, cur, h3, h4, ?_⟩
  rw [List.map_take, ← h5, List.length_take, List.take_take]

set_option maxHeartbeats 3200000 in
theorem bend {W0 : World} {a : Option Addr} {len cap : Nat} {l : List Int} {p : Nat} {w : World} (h : Ready W0 a len cap l p w) (gx nx cx : Nat) (x : List Int) (hn : nx = x.length) (hx : Rd w (some ⟨gx, 0, none⟩) x) (hy : Bytes x) (hnx : nx ≤ 1000) :
    Calls Try.prog 54 #[.pointer (some ⟨p, 0, none⟩), .slice (some ⟨gx, 0, none⟩) nx cx] w fun e w' => ∃ (g m c : Nat) (r : List Int), e = .returned (.slice (some ⟨g, 0, none⟩) m c) ∧ m = r.length ∧ m ≤ nx + 1 ∧ Bytes r ∧ w.heap.size ≤ g ∧ Row w' g c r ∧ Below W0.heap.size W0 w' := by
  have HR : Hid (Ready W0 a len cap l p w) := h
  have HX : Hid (Rd w (some ⟨gx, 0, none⟩) x) := hx
  have HY : Hid (Bytes x) := hy
  have HN : Hid (nx = x.length) := hn
  have HA : Hid (Below w.heap.size w (w.alloc (.cells #[] 5))) := (Below.refl _ _).alloc (Nat.le_refl _) _
  have hplt := h.hc.lt
  clear h hx hy hn
  go_enter Try.func54, Try.ntmps54
  go_wp2_with (at_builtin; refine wpList_app _ rfl (.tmp 7) (.tmp 8) rfl w.heap.size w.heap.size 0 0 [] x rfl rfl (row_new w [] (by simp)) (Nat.le_refl _) (some ⟨gx, 0, none⟩) nx cx rfl HN.out (HX.out.later HA.out (Nat.le_refl _)) (by intro h; cases h) (by have := HN.out; simp; omega) ?_; intro g1 c1 w1 r1 b1 l1 gr1; have R1 : Hid (Row w1 g1 c1 ([] ++ x)) := r1; have C1 : Hid (Ready W0 a len cap l p w1) := ⟨HR.out.hl, HR.out.hr, HR.out.hb, HR.out.hlen, Below.grown (HR.out.hB.alloc HR.out.hB.size _) gr1 (Nat.le_trans HR.out.hB.size (by simp)) (fun k h => by cases h; have := HR.out.hB.size; omega), HR.out.hp, (HR.out.hc.alloc _).keep (gr1.block p (by simp; omega) (by simp only [ne_eq, Option.some.injEq]; omega))⟩; clear r1 gr1)
  have Q1 : Hid (Row w1 g1 c1 x) := by have := R1.out; rw [List.nil_append] at this; exact this
  have hpg : g1 ≠ p := by omega
  clear R1 HR HX HA
  refine (below C1.out 8 (by omega) (by omega)).mono ?_
  rintro e w2 ⟨y, rfl, y0, y1, r2, bu2⟩
  have C2 : Hid (Ready W0 a len cap l p w2) := r2
  have Q2 : Hid (Row w2 g1 c1 x) := Row.but Q1.out bu2 hpg
  clear r2 bu2 C1 Q1
  rcases (show y = 0 ∨ y = 1 ∨ y = 2 ∨ 3 ≤ y by omega) with rfl | rfl | rfl | h3
  · by_cases hx0 : 0 < nx
    · have hx0I : (0 : Int) < (nx : Int) := by omega
      go_wp2_with fail
      refine (below C2.out nx (by omega) (by omega)).mono ?_
      rintro e w3 ⟨i, rfl, i0, i1, r3, bu3⟩
      have C3 : Hid (Ready W0 a len cap l p w3) := r3
      have Q3 : Hid (Row w3 g1 c1 x) := Row.but Q2.out bu3 hpg
      clear r3 bu3 C2 Q2
      obtain ⟨I, rfl⟩ := Int.eq_ofNat_of_zero_le i0
      have hI : I < x.length := by have := HN.out; omega
      have hIn : I < nx := by omega
      have c3 := Q3.out.cell I hI
      have f3 : w3.frozen? ⟨g1, I, none⟩ = false := (Q3.out.owns (Nat.zero_le _)).frozenAt I
      have HI : Hid (I < x.length) := hI
      clear hI
      generalize hz : x.getD I 0 = z at *
      have HZ : Hid (x.getD I 0 = z) := hz
      clear hz
      have D3 : Hid (Ready W0 a len cap l p w3.drew) := C3.out.next C3.out.hc (But.alike (But.refl p w3) rfl rfl rfl rfl)
      have E3 : Hid (Row w3.drew g1 c1 x) := Q3.out.keep rfl
      go_wp2_with fail
      go_region_with (go_at_call 43; refine (below D3.out 255 (by omega) (by omega)).mono ?_; rintro e w4 ⟨v, rfl, v0, v1, r4, bu4⟩; have C4 : Hid (Ready W0 a len cap l p w4) := r4; have Q4 : Hid (Row w4 g1 c1 x) := Row.but E3.out bu4 hpg; have c4 := Q4.out.cell I HI.out; rw [HZ.out] at c4; have f4 : w4.frozen? ⟨g1, I, none⟩ = false := (Q4.out.owns (Nat.zero_le _)).frozenAt I; clear r4 bu4)
      all_goals
        go_wp2
      all_goals
        go_ret
      all_goals
        refine ⟨g1, nx, c1, x.set I _, rfl, ?_, ?_, ?_, b1, Row.set Q4.out I _, ?_⟩
        · rw [List.length_set]; exact HN.out
        · omega
        · exact bytes_set HY.out I (xor_bd _ _)
        · exact C4.out.hB.setCell (by show W0.heap.size ≤ g1; have := C4.out.hp; omega) _
    · have hx0I : ¬ ((0 : Int) < (nx : Int)) := by omega
      go_wp2
      go_ret
      exact ⟨g1, nx, c1, x, rfl, HN.out, by omega, HY.out, b1, Q2.out, C2.out.hB⟩
  · by_cases hx0 : 0 < nx
    · have hx0I : (0 : Int) < (nx : Int) := by omega
      have hnc : nx ≤ c1 := by have := HN.out; have := Q2.out.1; omega
      go_wp2_with fail
      refine (below C2.out nx (by omega) (by omega)).mono ?_
      rintro e w3 ⟨i, rfl, i0, i1, r3, bu3⟩
      have C3 : Hid (Ready W0 a len cap l p w3) := r3
      have Q3 : Hid (Row w3 g1 c1 x) := Row.but Q2.out bu3 hpg
      clear r3 bu3 C2 Q2
      obtain ⟨I, rfl⟩ := Int.eq_ofNat_of_zero_le i0
      have hIc : I ≤ c1 := by omega
      go_wp2
      go_ret
      exact ⟨g1, I, c1, x.take I, rfl, by rw [List.length_take]; have := HN.out; omega, by omega, (fun z hz => HY.out z (List.mem_of_mem_take hz)), b1, Row.front Q3.out I, C3.out.hB⟩
    · have hx0I : ¬ ((0 : Int) < (nx : Int)) := by omega
      go_wp2
      go_ret
      exact ⟨g1, nx, c1, x, rfl, HN.out, by omega, HY.out, b1, Q2.out, C2.out.hB⟩
  · go_wp2_with fail
    refine (Draw.byteOf C2.out).mono ?_
    rintro e w3 ⟨v, rfl, v0, v1, r3, bu3⟩
    have C3 : Hid (Ready W0 a len cap l p w3) := r3
    have Q3 : Hid (Row w3 g1 c1 x) := Row.but Q2.out bu3 hpg
    clear r3 bu3 C2 Q2
    go_wp2_with (at_builtin; refine wpList_app _ rfl (.tmp 46) (.tmp 50) rfl w.heap.size g1 nx c1 x [v] rfl HN.out (row_alloc Q3.out _) b1 (some ⟨w3.heap.size, 0, none⟩) 1 1 rfl rfl (rd_one _ _) (by intro h; cases h) (by rw [← HN.out]; simp; omega) ?_; intro g2 c2 w4 r4 b4 l4 gr4; have R4 : Hid (Row w4 g2 c2 (x ++ [v])) := r4; have B4 : Hid (Below W0.heap.size W0 w4) := Below.grown (C3.out.hB.alloc C3.out.hB.size _) gr4 (Nat.le_trans C3.out.hB.size (by simp)) (fun k h => by cases h; have := C3.out.hp; omega); clear r4 gr4 l4)
    go_ret
    exact ⟨g2, nx + 1, c2, x ++ [v], rfl, by rw [List.length_append, ← HN.out]; rfl, by omega, bytes_snoc HY.out ⟨v0, v1⟩, b4, R4.out, B4.out⟩
  · have e0 : (y == 0) = false := by rw [beq_eq_false_iff_ne]; omega
    have e1 : (y == 1) = false := by rw [beq_eq_false_iff_ne]; omega
    have e2 : (y == 2) = false := by rw [beq_eq_false_iff_ne]; omega
    go_wp2
    go_ret
    exact ⟨g1, nx, c1, x, rfl, HN.out, by omega, HY.out, b1, Q2.out, C2.out.hB⟩

theorem Ready.below {W0 : World} {a : Option Addr} {len cap : Nat} {l : List Int} {p : Nat} {w w' : World} (h : Ready W0 a len cap l p w) (b : Below w.heap.size w w') : Ready W0 a len cap l p w' :=
  ⟨h.hl, h.hr, h.hb, h.hlen, h.hB.trans (b.mono h.hB.size), h.hp, h.hc.keep (b.block p h.hc.lt)⟩

theorem bytes_made (w : World) (s : ByteArray) :
    ∃ W c, (convert 9 22 (.string s)).run Try.prog w = .ok (.slice (some ⟨w.heap.size, 0, none⟩) s.size c) W ∧ Rd W (some ⟨w.heap.size, 0, none⟩) (bs s) ∧ Below w.heap.size w W := by
  refine ⟨_, _, run_bytes_of_string w 9 22 5 s Try.underlying9 Try.underlying22 Try.underlying5, ?_, ?_⟩
  · intro i hi
    rw [bs_length] at hi
    refine ⟨w.heap.size, 0, rfl, by simp, ?_⟩
    rw [Nat.zero_add, cell_of_row _ w.heap.size i _ _ _ (heap_alloc_new w.drew _), bytesRow_at s _ i hi, bs_getD s i hi]
    rfl
  · exact (Below.refl w.heap.size w).trans (((Below.refl w.heap.size w).drew).alloc (Nat.le_refl _) _)
theorem convert_row {w : World} {g c n : Nat} {l : List Int} (hn : n = l.length) (h : Rd w (some ⟨g, 0, none⟩) l) :
    (convert 22 9 (.slice (some ⟨g, 0, none⟩) n c)).run Try.prog w = .ok (.string (strOfNums l)) w := by
  subst hn
  exact run_convert_bytes_arg (P := Try.prog) w 22 5 Try.underlying22 Try.underlying5 g 0 l.length c l rfl (fun i hi => by
    obtain ⟨b, off, e, _, hc⟩ := h i hi
    simp only [Option.some.injEq, Addr.mk.injEq, and_true] at e
    obtain ⟨rfl, rfl⟩ := e
    exact hc) 9 Try.underlying9

set_option maxHeartbeats 1600000 in
theorem drawParseHex (a : Option Addr) (len cap : Nat) (l : List Int) (w : World) (hl : len = l.length) (hr : Rd w a l) (hb : Bytes l) (hlen : len ≤ 1048576) :
    Calls Try.prog 28 #[.slice a len cap] w fun e w' => ∃ s : ByteArray, e = .returned (.string s) ∧ s.size ≤ 1000 ∧ Below w.heap.size w w' := by
  have HR : Hid (Rd w a l) := hr
  have HB : Hid (Bytes l) := hb
  have HL : Hid (len = l.length) := hl
  clear hr hb hl
  go_enter Try.func28, Try.ntmps28
  go_wp2_with fail
  refine (newCur a len cap l w HL.out HR.out HB.out hlen).mono ?_
  rintro e w1 ⟨p, rfl, r1⟩
  have R1 : Hid (Ready w a len cap l p w1) := r1
  clear r1 HR HB HL
  go_wp2_with fail
  refine (intOfList (R1.out.alloc _) w1.heap.size 6 [0, 1, 2, 6, 200, 201] rfl (ints_new w1 _) (by have := R1.out.hc.lt; omega) (by omega) (by omega)).mono ?_
  rintro e w2 ⟨n, rfl, hn, r2, _⟩
  have hnb : 0 ≤ n ∧ n ≤ 201 := by
    simp only [List.mem_cons, List.not_mem_nil, or_false] at hn
    omega
  have R2 : Hid (Ready w a len cap l p w2) := r2
  clear r2 R1 hn
  obtain ⟨X, rfl⟩ := Int.eq_ofNat_of_zero_le hnb.1
  have hX : X ≤ 201 := by omega
  clear hnb
  go_wp2_with fail
  refine (bytesOf R2.out X (by omega)).mono ?_
  rintro e w3 ⟨g, c, r, rfl, e3, y3, g3, row3, r3, _⟩
  have R3 : Hid (Ready w a len cap l p w3) := r3
  have Q3 : Hid (Row w3 g c r) := row3
  have E3 : Hid (X = r.length) := e3
  have Y3 : Hid (Bytes r) := y3
  clear r3 row3 e3 y3 R2
  go_wp2_with fail
  refine (specHexText _ X c r w3 E3.out Q3.out.rd Y3.out (by omega)).mono ?_
  rintro e w4 ⟨rfl, b4⟩
  have R4 : Hid (Ready w a len cap l p w4) := Ready.below R3.out b4
  clear b4 R3 Q3
  have HS : Hid ((strOfNums (hexOf r)).size ≤ 402) := by show _ ≤ _; rw [strOfNums_size, hexOf_length, ← E3.out]; omega
  generalize strOfNums (hexOf r) = s at *
  obtain ⟨W, cB, hrun, rdW, beW⟩ := bytes_made w4 s
  have RW : Hid (Ready w a len cap l p W) := Ready.below R4.out beW
  have QW : Hid (Rd W (some ⟨w4.heap.size, 0, none⟩) (bs s)) := rdW
  clear rdW beW R4
  go_wp2_with fail
  refine (bend RW.out w4.heap.size s.size cB (bs s) (bs_length s).symm QW.out (bs_bytes s) (by have := HS.out; omega)).mono ?_
  rintro e w5 ⟨g5, m5, c5, r5, rfl, e5, n5, y5, _, row5, b5⟩
  have hcv := convert_row (c := c5) e5 row5.rd
  have B5 : Hid (Below w.heap.size w w5) := b5
  have N5 : Hid ((strOfNums r5).size ≤ 1000) := by show _ ≤ _; rw [strOfNums_size, ← e5]; have := HS.out; omega
  clear b5 row5 e5 y5 hrun
  go_wp2
  go_ret
  exact ⟨_, rfl, N5.out, B5.out⟩
end Go.Proofs.Ytdfjpmldcbbmkaa.DrawHex
