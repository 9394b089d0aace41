/-
  How two lists of bytes differ, as a plain function.
  What the laws' own 'at' and 'bent' hand back: a byte's number; a copy in new memory, of which one byte is turned.
  What l1Bend, DrawDiff and DrawSameTag give: bytes in new memory.
  The words behind impl's interface: what each asks of its parts, and the frame that it is.
  The frames of impl's words, and the words of impl's frames.
-/
import Derived.Test.YtmcflfpckpjphaaHs1
import Derived.Laws.BitsAllLaws
import Derived.Test.YtmcflfpckpjphaaHs4
import Derived.Deep.CutBlock
import Derived.Deep.RegionWith
import Derived.Test.YtmcflfpckpjphaaHs3
set_option linter.unusedVariables false
namespace Go.Proofs.Ytmcflfpckpjphaa.DiffP
open Go.RowKit Go.Proofs.Ytmcflfpckpjphaa.Mem

set_option maxRecDepth 100000 in
theorem xor_byte (a b : Int) (h1 : 0 ≤ a) (h2 : a ≤ 255) (h3 : 0 ≤ b) (h4 : b ≤ 255) : 0 ≤ bits .xor .u8 a b ∧ bits .xor .u8 a b ≤ 255 := by
  rw [u8_xor a b h1 (by omega) h3 (by omega)]
  have : a.toNat ^^^ b.toNat < 2 ^ 8 := Nat.xor_lt_two_pow (by omega) (by omega)
  omega
/-- What is turned in the first n places, all in one. -/
def diffN (a b : List Int) : Nat → Int
  | 0 => 0
  | n + 1 => bits .or .u8 (diffN a b n) (bits .xor .u8 (a.getD n 0) (b.getD n 0))
def diffI (a b : List Int) : Int := if a.length = b.length then diffN a b a.length else -1

set_option maxRecDepth 100000 in
theorem diffN_bd (a b : List Int) (ha : Bytes a) (hb : Bytes b) (n : Nat) : 0 ≤ diffN a b n ∧ diffN a b n ≤ 255 := by
  induction n with
  | zero => simp [diffN]
  | succ n ih =>
    have hx := xor_byte (a.getD n 0) (b.getD n 0) (ha.at n).1 (ha.at n).2 (hb.at n).1 (hb.at n).2
    unfold diffN
    rw [u8_or _ _ ih.1 (by omega) hx.1 (by omega)]
    have : (diffN a b n).toNat ||| (bits .xor .u8 (a.getD n 0) (b.getD n 0)).toNat < 2 ^ 8 := Nat.or_lt_two_pow (by omega) (by omega)
    omega
set_option maxRecDepth 100000 in
theorem or_wide (x y : Int) (h1 : 0 ≤ x) (h2 : x ≤ 255) (h3 : 0 ≤ y) (h4 : y ≤ 255) : bits .or .i64 x y = bits .or .u8 x y := by
  rw [u8_or x y h1 (by omega) h3 (by omega)]
  have := Bits.or_i64 x.toNat y.toNat (by omega) (by omega)
  rw [Int.toNat_of_nonneg h1, Int.toNat_of_nonneg h3] at this
  exact this
set_option maxRecDepth 100000 in
theorem xor_zero_iff (a b : Int) (h1 : 0 ≤ a) (h2 : a ≤ 255) (h3 : 0 ≤ b) (h4 : b ≤ 255) : bits .xor .u8 a b = 0 ↔ a = b := by
  rw [u8_xor a b h1 (by omega) h3 (by omega)]
  constructor
  · intro h
    have : a.toNat ^^^ b.toNat = 0 := by omega
    have h2 := congrArg (fun x => a.toNat ^^^ x) this
    simp only [← Nat.xor_assoc, Nat.xor_self, Nat.zero_xor, Nat.xor_zero] at h2
    omega
  · rintro rfl; simp
set_option maxRecDepth 100000 in
theorem or_zero_iff (a b : Int) (h1 : 0 ≤ a) (h2 : a ≤ 255) (h3 : 0 ≤ b) (h4 : b ≤ 255) : bits .or .u8 a b = 0 ↔ a = 0 ∧ b = 0 := by
  rw [u8_or a b h1 (by omega) h3 (by omega)]
  constructor
  · intro h
    have : a.toNat ||| b.toNat = 0 := by omega
    rw [Nat.or_eq_zero_iff] at this
    omega
  · rintro ⟨rfl, rfl⟩; simp
set_option maxRecDepth 100000 in
theorem diffN_zero (a b : List Int) (ha : Bytes a) (hb : Bytes b) (n : Nat) : diffN a b n = 0 ↔ ∀ i, i < n → a.getD i 0 = b.getD i 0 := by
  induction n with
  | zero => simp [diffN]
  | succ n ih =>
    have hx := xor_byte (a.getD n 0) (b.getD n 0) (ha.at n).1 (ha.at n).2 (hb.at n).1 (hb.at n).2
    have hd := diffN_bd a b ha hb n
    unfold diffN
    rw [or_zero_iff _ _ hd.1 hd.2 hx.1 hx.2, ih, xor_zero_iff _ _ (ha.at n).1 (ha.at n).2 (hb.at n).1 (hb.at n).2]
    constructor
    · rintro ⟨h, k⟩ i hi
      rcases Nat.lt_or_ge i n with h' | h'
      · exact h i h'
      · obtain rfl : i = n := by omega
        exact k
    · intro h; exact ⟨fun i hi => h i (by omega), h n (by omega)⟩
set_option maxRecDepth 100000 in
theorem list_eq_of {a b : List Int} (hl : a.length = b.length) (h : ∀ i, i < a.length → a.getD i 0 = b.getD i 0) : a = b := by
  apply List.ext_getElem hl
  intro i h1 h2
  have := h i h1
  simpa [List.getD, h1, h2] using this
set_option maxRecDepth 100000 in
theorem diffI_zero (a b : List Int) (ha : Bytes a) (hb : Bytes b) : diffI a b = 0 ↔ a = b := by
  unfold diffI
  by_cases h : a.length = b.length
  · rw [if_pos h, diffN_zero a b ha hb]
    exact ⟨fun k => list_eq_of h k, fun k i _ => by rw [k]⟩
  · rw [if_neg h]
    exact ⟨fun k => by omega, fun k => absurd (by rw [k]) h⟩
set_option maxRecDepth 100000 in
theorem diffI_bd (a b : List Int) (ha : Bytes a) (hb : Bytes b) : -1 ≤ diffI a b ∧ diffI a b ≤ 255 := by
  unfold diffI; split
  · have := diffN_bd a b ha hb a.length; omega
  · omega
set_option maxRecDepth 100000 in
theorem diffI_less (a b : List Int) (ha : Bytes a) (hb : Bytes b) : diffI a b = -1 ↔ a.length ≠ b.length := by
  unfold diffI; split
  · have := diffN_bd a b ha hb a.length
    constructor
    · intro h; omega
    · intro h; contradiction
  · simpa using by assumption
set_option maxRecDepth 100000 in
theorem bits_xor_comm (a b : Int) (h1 : 0 ≤ a) (h2 : a ≤ 255) (h3 : 0 ≤ b) (h4 : b ≤ 255) : bits .xor .u8 a b = bits .xor .u8 b a := by
  rw [u8_xor a b h1 (by omega) h3 (by omega), u8_xor b a h3 (by omega) h1 (by omega), Nat.xor_comm]
set_option maxRecDepth 100000 in
theorem diffN_comm (a b : List Int) (ha : Bytes a) (hb : Bytes b) (n : Nat) : diffN a b n = diffN b a n := by
  induction n with
  | zero => rfl
  | succ n ih => unfold diffN; rw [ih, bits_xor_comm _ _ (ha.at n).1 (ha.at n).2 (hb.at n).1 (hb.at n).2]
set_option maxRecDepth 100000 in
theorem diffI_comm (a b : List Int) (ha : Bytes a) (hb : Bytes b) : diffI a b = diffI b a := by
  unfold diffI
  by_cases h : a.length = b.length
  · rw [if_pos h, if_pos h.symm, diffN_comm a b ha hb, h]
  · rw [if_neg h, if_neg (Ne.symm h)]
/-- Two tags are the same: 16 bytes, and the same ones. -/
def sameI (a b : List Int) : Bool := decide (a.length = 16 ∧ diffI a b = 0)
end Go.Proofs.Ytmcflfpckpjphaa.DiffP

namespace Go.Proofs.Ytmcflfpckpjphaa.Bent
open Go.RowKit Go.Proofs.Ytmcflfpckpjphaa.Mem Go.Proofs.Ytmcflfpckpjphaa.App Go.Proofs.Ytmcflfpckpjphaa.AppAt Go.Proofs.Ytmcflfpckpjphaa.DiffP

set_option maxRecDepth 100000 in
theorem row_set {w : World} {g c : Nat} {l : List Int} (h : Row w g c l) (k : Nat) (z : Int) : Row (w.setCell ⟨g, k, none⟩ (.int .u8 z)) g c (l.set k z) ∧ w.grownBy (w.setCell ⟨g, k, none⟩ (.int .u8 z)) (some g) := by
  have hst := (h.owns (Nat.le_refl g)).stored k (.int .u8 z)
  rw [← List.map_set] at hst
  refine ⟨?_, hst.2⟩
  have e : l.length = (l.set k z).length := by simp
  have := hst.1
  rw [e] at this
  exact (Row.of (l := l.set k z) (n := (l.set k z).length) this).1
set_option maxRecDepth 100000 in
theorem xor_ne (z d : Int) (h1 : 0 ≤ z) (h2 : z ≤ 255) (h3 : 1 ≤ d) (h4 : d ≤ 255) : bits .xor .u8 z d ≠ z := by
  rw [u8_xor z d h1 (by omega) (by omega) (by omega)]
  intro h
  have h5 : z.toNat ^^^ d.toNat = z.toNat := by omega
  have h6 := congrArg (fun x => z.toNat ^^^ x) h5
  simp only [← Nat.xor_assoc, Nat.xor_self, Nat.zero_xor] at h6
  omega
set_option maxRecDepth 100000 in
theorem set_ne (l : List Int) (p : Nat) (v : Int) (hp : p < l.length) (h : v ≠ l.getD p 0) : l.set p v ≠ l := by
  intro e
  apply h
  have : (l.set p v).getD p 0 = v := by simp [List.getD, hp]
  rw [← this, e]
set_option maxRecDepth 100000 in
theorem set_bytes {l : List Int} (h : Bytes l) (p : Nat) (v : Int) (h0 : 0 ≤ v) (h1 : v ≤ 255) : Bytes (l.set p v) := by
  intro z hz
  rcases List.mem_or_eq_of_mem_set hz with h' | rfl
  · exact h z h'
  · exact ⟨h0, h1⟩

set_option maxRecDepth 100000 in
theorem atN (a : Option Addr) (len cap : Nat) (l : List Int) (i : Nat) (w : World) (hl : len = l.length) (hr : Rd w a l) (hb : Bytes l) (hlen : len ≤ 1048576) (hi : i ≤ 1000) :
    Calls Try.prog 27 #[.slice a len cap, .int .i64 (i : Int)] w fun e w' => ∃ x : Int, e = .returned (.int .i64 x) ∧ 0 ≤ x ∧ x ≤ 255 ∧ w = w' := by
  by_cases h : i < len
  · obtain ⟨b, off, rfl, _, hc⟩ := hr i (by omega)
    have hz := hb.at i
    clear hr hb
    generalize l.getD i 0 = z at *
    have hI : (i : Int) < (len : Int) := by omega
    obtain ⟨z0, z1⟩ := hz
    go_enter Try.func27, Try.ntmps27
    go_wp2
    go_ret
    exact ⟨z, rfl, z0, z1, rfl⟩
  · have hI : ¬ ((i : Int) < (len : Int)) := by omega
    clear hr hb
    go_enter Try.func27, Try.ntmps27
    go_wp2
    go_ret
    exact ⟨_, rfl, by omega, by omega, rfl⟩

end Go.Proofs.Ytmcflfpckpjphaa.Bent

namespace Go.Proofs.Ytmcflfpckpjphaa.DrawD
open Go.RowKit Go.Proofs.Ytmcflfpckpjphaa.Mem Go.Proofs.Ytmcflfpckpjphaa.App Go.Proofs.Ytmcflfpckpjphaa.AppAt Go.Proofs.Ytmcflfpckpjphaa.Draw Go.Proofs.Ytmcflfpckpjphaa.DiffP Go.Proofs.Ytmcflfpckpjphaa.Bent

set_option maxRecDepth 100000 in
theorem Ready.drew {W0 : World} {a : Option Addr} {len cap : Nat} {l : List Int} {p : Nat} {w : World} (h : Ready W0 a len cap l p w) : Ready W0 a len cap l p w.drew :=
  ⟨h.hl, h.hr, h.hb, h.hlen, h.hB.drew, h.hp, h.hc.keep rfl⟩
set_option maxRecDepth 100000 in
theorem Ready.grown {W0 : World} {a : Option Addr} {len cap : Nat} {l : List Int} {p g : Nat} {w w' : World} (h : Ready W0 a len cap l p w) (gr : w.grownBy w' (some g)) (hg : g ≠ p) (h0 : W0.heap.size ≤ g) : Ready W0 a len cap l p w' :=
  ⟨h.hl, h.hr, h.hb, h.hlen, h.hB.grown gr h.hB.size (fun k e => by cases e; exact h0), h.hp, h.hc.keep (gr.block p h.hc.lt (by simpa using Ne.symm hg))⟩
set_option maxRecDepth 100000 in
theorem But.drew {p : Nat} {w w' : World} (h : But p w w') : But p w w'.drew := h.alike rfl rfl rfl rfl
set_option maxRecDepth 100000 in
theorem but_below {p : Nat} {w w' : World} (h : Below w.heap.size w w') : But p w w' :=
  ⟨h.os, h.tape, h.output, h.size, fun i hi _ => h.block i hi⟩
set_option maxRecDepth 100000 in
theorem row_take {w : World} {g c : Nat} {l : List Int} (h : Row w g c l) (k : Nat) : Row w g c (l.take k) := by
  obtain ⟨h1, h2, cur, h3, h4, h5⟩ := h
  refine ⟨by rw [List.length_take]; omega, h2, cur, h3, h4, ?_⟩
  rw [List.length_take, List.map_take, ← h5, List.take_take]
set_option maxRecDepth 100000 in
theorem take_bytes {l : List Int} (h : Bytes l) (k : Nat) : Bytes (l.take k) := fun z hz => h z (List.mem_of_mem_take hz)

end Go.Proofs.Ytmcflfpckpjphaa.DrawD

namespace Go.Proofs.Ytmcflfpckpjphaa.FrW
open Go.RowKit Go.Proofs.Ytmcflfpckpjphaa.Mem Go.Proofs.Ytmcflfpckpjphaa.Blk Go.Proofs.Ytmcflfpckpjphaa.Words Go.Proofs.Ytmcflfpckpjphaa.Zone Go.Proofs.Ytmcflfpckpjphaa.Res Go.Proofs.Ytmcflfpckpjphaa.FrZ Go.Proofs.Ytmcflfpckpjphaa.FrP

set_option maxRecDepth 100000 in
theorem geq_leq {x a b : Int} {p : Prop} [Decidable p] (h : p ↔ (a ≤ x ∧ x ≤ b)) : decide p = isIn x a b := by
  unfold isIn; simp only [h]

set_option maxRecDepth 100000 in
theorem isId (x : Int) (w : World) :
    Calls Try.prog 161 #[.int .i64 x] w fun e w' => e = .returned (.bool (isIn x 1 9)) ∧ w = w' := by
  by_cases h1 : x ≥ 1
  · by_cases h2 : x ≤ 9
    · have H : Hid (isIn x 1 9 = true) := isIn_yes ⟨h1, by omega⟩
      go_enter Try.func161, Try.ntmps161
      go_wp2
      go_ret
      exact ⟨by rw [H.out]; simp, rfl⟩
    · have H : Hid (isIn x 1 9 = false) := isIn_no (fun h => h2 (by omega))
      go_enter Try.func161, Try.ntmps161
      go_wp2
      go_ret
      exact ⟨by rw [H.out]; simp, rfl⟩
  · have H : Hid (isIn x 1 9 = false) := isIn_no (fun h => h1 h.1)
    go_enter Try.func161, Try.ntmps161
    go_wp2
    go_ret
    exact ⟨by rw [H.out]; simp, rfl⟩

set_option maxRecDepth 100000 in
theorem isTime (x : Int) (w : World) :
    Calls Try.prog 164 #[.int .i64 x] w fun e w' => e = .returned (.bool (isIn x 0 1000000)) ∧ w = w' := by
  by_cases h1 : x ≥ 0
  · by_cases h2 : x ≤ 1000000
    · have H : Hid (isIn x 0 1000000 = true) := isIn_yes ⟨h1, by omega⟩
      go_enter Try.func164, Try.ntmps164
      go_wp2
      go_ret
      exact ⟨by rw [H.out]; simp, rfl⟩
    · have H : Hid (isIn x 0 1000000 = false) := isIn_no (fun h => h2 (by omega))
      go_enter Try.func164, Try.ntmps164
      go_wp2
      go_ret
      exact ⟨by rw [H.out]; simp, rfl⟩
  · have H : Hid (isIn x 0 1000000 = false) := isIn_no (fun h => h1 h.1)
    go_enter Try.func164, Try.ntmps164
    go_wp2
    go_ret
    exact ⟨by rw [H.out]; simp, rfl⟩

set_option maxRecDepth 100000 in
theorem isEpoch (x : Int) (w : World) :
    Calls Try.prog 63 #[.int .i64 x] w fun e w' => e = .returned (.bool (isIn x 0 4294967295)) ∧ w = w' := by
  by_cases h1 : x ≥ 0
  · by_cases h2 : x ≤ 4294967295
    · have H : Hid (isIn x 0 4294967295 = true) := isIn_yes ⟨h1, by omega⟩
      go_enter Try.func63, Try.ntmps63
      go_wp2
      go_ret
      exact ⟨by rw [H.out]; simp, rfl⟩
    · have H : Hid (isIn x 0 4294967295 = false) := isIn_no (fun h => h2 (by omega))
      go_enter Try.func63, Try.ntmps63
      go_wp2
      go_ret
      exact ⟨by rw [H.out]; simp, rfl⟩
  · have H : Hid (isIn x 0 4294967295 = false) := isIn_no (fun h => h1 h.1)
    go_enter Try.func63, Try.ntmps63
    go_wp2
    go_ret
    exact ⟨by rw [H.out]; simp, rfl⟩

set_option maxRecDepth 100000 in
theorem isSeq (x : Int) (w : World) :
    Calls Try.prog 64 #[.int .i64 x] w fun e w' => e = .returned (.bool (isIn x 0 281474976710655)) ∧ w = w' := by
  by_cases h1 : x ≥ 0
  · by_cases h2 : x < 281474976710656
    · have H : Hid (isIn x 0 281474976710655 = true) := isIn_yes ⟨h1, by omega⟩
      go_enter Try.func64, Try.ntmps64
      go_wp2
      go_ret
      exact ⟨by rw [H.out]; simp, rfl⟩
    · have H : Hid (isIn x 0 281474976710655 = false) := isIn_no (fun h => h2 (by omega))
      go_enter Try.func64, Try.ntmps64
      go_wp2
      go_ret
      exact ⟨by rw [H.out]; simp, rfl⟩
  · have H : Hid (isIn x 0 281474976710655 = false) := isIn_no (fun h => h1 h.1)
    go_enter Try.func64, Try.ntmps64
    go_wp2
    go_ret
    exact ⟨by rw [H.out]; simp, rfl⟩

set_option maxRecDepth 100000 in
theorem isNonce (a : Option Addr) (n c : Nat) (w : World) :
    Calls Try.prog 62 #[.slice a n c] w fun e w' => e = .returned (.bool ((n : Int) == 12)) ∧ w = w' := by
  go_enter Try.func62, Try.ntmps62
  go_wp2
  go_ret
  exact ⟨by simp, rfl⟩

set_option maxRecDepth 100000 in
theorem isTag (a : Option Addr) (n c : Nat) (w : World) :
    Calls Try.prog 148 #[.slice a n c] w fun e w' => e = .returned (.bool ((n : Int) == 16)) ∧ w = w' := by
  go_enter Try.func148, Try.ntmps148
  go_wp2
  go_ret
  exact ⟨by simp, rfl⟩

set_option maxRecDepth 100000 in
set_option maxHeartbeats 1600000 in
theorem initRight (id : Int) (cn : Sl) (w : World) :
    Calls Try.prog 160 #[.agg #[.int .i64 id, .slice cn.a cn.n cn.c]] w fun e w' => e = .returned (.bool (isIn id 1 9 && ((cn.n : Int) == 12))) ∧ Below w.heap.size w w' := by
  obtain ⟨x0, hx0⟩ : ∃ x0, w.alloc (.cells #[.int .i64 id, .slice cn.a cn.n cn.c] 131) = x0 := ⟨_, rfl⟩
  have HW0 : Hid (w.alloc (.cells #[.int .i64 id, .slice cn.a cn.n cn.c] 131) = x0) := hx0
  have B0 : Hid (Below w.heap.size w x0) := by rw [← hx0]; exact (Below.refl _ _).alloc (Nat.le_refl _) _
  have K0 : Hid (Blk x0 w.heap.size 131 [.int .i64 id, .slice cn.a cn.n cn.c]) := by rw [← hx0]; exact Blk.new w _ _
  clear hx0
  go_enter Try.func160, Try.ntmps160
  go_wp2_with fail
  rw [HW0.out]
  generalize hga : w.heap.size = ga at K0 ⊢
  have c0 := K0.out.cell 0 rfl
  have c1 := K0.out.cell 1 rfl
  refine (isId id x0).mono ?_
  rintro e y ⟨rfl, rfl⟩
  cases h0 : (isIn id 1 9) with
  | false =>
    go_wp2
    go_ret
    exact ⟨by rw [h0]; simp, hga ▸ B0.out⟩
  | true =>
    go_wp2_with fail
    refine (isNonce cn.a cn.n cn.c x0).mono ?_
    rintro e y ⟨rfl, rfl⟩
    go_wp2
    go_ret
    exact ⟨by rw [h0]; simp, hga ▸ B0.out⟩

set_option maxRecDepth 100000 in
set_option maxHeartbeats 1600000 in
theorem cookRight (cn sn : Sl) (tick : Int) (cookie : Sl) (w : World) :
    Calls Try.prog 163 #[.agg #[.slice cn.a cn.n cn.c, .slice sn.a sn.n sn.c, .int .i64 tick, .slice cookie.a cookie.n cookie.c]] w fun e w' => e = .returned (.bool ((cn.n : Int) == 12 && ((sn.n : Int) == 12 && (isIn tick 0 1000000 && ((cookie.n : Int) == 16))))) ∧ Below w.heap.size w w' := by
  obtain ⟨x0, hx0⟩ : ∃ x0, w.alloc (.cells #[.slice cn.a cn.n cn.c, .slice sn.a sn.n sn.c, .int .i64 tick, .slice cookie.a cookie.n cookie.c] 133) = x0 := ⟨_, rfl⟩
  have HW0 : Hid (w.alloc (.cells #[.slice cn.a cn.n cn.c, .slice sn.a sn.n sn.c, .int .i64 tick, .slice cookie.a cookie.n cookie.c] 133) = x0) := hx0
  have B0 : Hid (Below w.heap.size w x0) := by rw [← hx0]; exact (Below.refl _ _).alloc (Nat.le_refl _) _
  have K0 : Hid (Blk x0 w.heap.size 133 [.slice cn.a cn.n cn.c, .slice sn.a sn.n sn.c, .int .i64 tick, .slice cookie.a cookie.n cookie.c]) := by rw [← hx0]; exact Blk.new w _ _
  clear hx0
  go_enter Try.func163, Try.ntmps163
  go_wp2_with fail
  rw [HW0.out]
  generalize hga : w.heap.size = ga at K0 ⊢
  have c0 := K0.out.cell 0 rfl
  have c1 := K0.out.cell 1 rfl
  have c2 := K0.out.cell 2 rfl
  have c3 := K0.out.cell 3 rfl
  refine (isNonce cn.a cn.n cn.c x0).mono ?_
  rintro e y ⟨rfl, rfl⟩
  cases h0 : ((cn.n : Int) == 12) with
  | false =>
    go_wp2
    go_ret
    exact ⟨by rw [h0]; simp, hga ▸ B0.out⟩
  | true =>
    go_wp2_with fail
    refine (isNonce sn.a sn.n sn.c x0).mono ?_
    rintro e y ⟨rfl, rfl⟩
    cases h1 : ((sn.n : Int) == 12) with
    | false =>
      go_wp2
      go_ret
      exact ⟨by rw [h0, h1]; simp, hga ▸ B0.out⟩
    | true =>
      go_wp2_with fail
      refine (isTime tick x0).mono ?_
      rintro e y ⟨rfl, rfl⟩
      cases h2 : (isIn tick 0 1000000) with
      | false =>
        go_wp2
        go_ret
        exact ⟨by rw [h0, h1, h2]; simp, hga ▸ B0.out⟩
      | true =>
        go_wp2_with fail
        refine (isTag cookie.a cookie.n cookie.c x0).mono ?_
        rintro e y ⟨rfl, rfl⟩
        go_wp2
        go_ret
        exact ⟨by rw [h0, h1, h2]; simp, hga ▸ B0.out⟩

set_option maxRecDepth 100000 in
set_option maxHeartbeats 1600000 in
theorem finRight (id : Int) (cn sn : Sl) (tick : Int) (cookie proof : Sl) (w : World) :
    Calls Try.prog 166 #[.agg #[.int .i64 id, .slice cn.a cn.n cn.c, .slice sn.a sn.n sn.c, .int .i64 tick, .slice cookie.a cookie.n cookie.c, .slice proof.a proof.n proof.c]] w fun e w' => e = .returned (.bool (isIn id 1 9 && (((cn.n : Int) == 12) && (((sn.n : Int) == 12) && (isIn tick 0 1000000 && ((cookie.n : Int) == 16))) && ((proof.n : Int) == 16)))) ∧ Below w.heap.size w w' := by
  obtain ⟨x0, hx0⟩ : ∃ x0, w.alloc (.cells #[.int .i64 id, .slice cn.a cn.n cn.c, .slice sn.a sn.n sn.c, .int .i64 tick, .slice cookie.a cookie.n cookie.c, .slice proof.a proof.n proof.c] 136) = x0 := ⟨_, rfl⟩
  have HW0 : Hid (w.alloc (.cells #[.int .i64 id, .slice cn.a cn.n cn.c, .slice sn.a sn.n sn.c, .int .i64 tick, .slice cookie.a cookie.n cookie.c, .slice proof.a proof.n proof.c] 136) = x0) := hx0
  have B0 : Hid (Below w.heap.size w x0) := by rw [← hx0]; exact (Below.refl _ _).alloc (Nat.le_refl _) _
  have K0 : Hid (Blk x0 w.heap.size 136 [.int .i64 id, .slice cn.a cn.n cn.c, .slice sn.a sn.n sn.c, .int .i64 tick, .slice cookie.a cookie.n cookie.c, .slice proof.a proof.n proof.c]) := by rw [← hx0]; exact Blk.new w _ _
  clear hx0
  go_enter Try.func166, Try.ntmps166
  go_wp2_with fail
  rw [HW0.out]
  generalize hga : w.heap.size = ga at K0 ⊢
  have c0 := K0.out.cell 0 rfl
  have c1 := K0.out.cell 1 rfl
  have c2 := K0.out.cell 2 rfl
  have c3 := K0.out.cell 3 rfl
  have c4 := K0.out.cell 4 rfl
  have c5 := K0.out.cell 5 rfl
  refine (isId id x0).mono ?_
  rintro e y ⟨rfl, rfl⟩
  cases h0 : (isIn id 1 9) with
  | false =>
    go_wp2
    go_ret
    exact ⟨by rw [h0]; simp, hga ▸ B0.out⟩
  | true =>
    go_wp2_with fail
    refine (cookRight cn sn tick cookie x0).mono ?_
    rintro e x1 ⟨rfl, b1⟩
    have B1 : Hid (Below w.heap.size w x1) := B0.out.trans (b1.mono B0.out.size)
    have K1 : Hid (Blk x1 ga 136 [.int .i64 id, .slice cn.a cn.n cn.c, .slice sn.a sn.n sn.c, .int .i64 tick, .slice cookie.a cookie.n cookie.c, .slice proof.a proof.n proof.c]) := K0.out.later b1
    clear b1 c0 c1 c2 c3 c4 c5
    have c0 := K1.out.cell 0 rfl
    have c1 := K1.out.cell 1 rfl
    have c2 := K1.out.cell 2 rfl
    have c3 := K1.out.cell 3 rfl
    have c4 := K1.out.cell 4 rfl
    have c5 := K1.out.cell 5 rfl
    cases h1 : (((cn.n : Int) == 12) && (((sn.n : Int) == 12) && (isIn tick 0 1000000 && ((cookie.n : Int) == 16)))) with
    | false =>
      go_wp2
      go_ret
      exact ⟨by rw [h0, h1]; simp, hga ▸ B1.out⟩
    | true =>
      go_wp2_with fail
      refine (isTag proof.a proof.n proof.c x1).mono ?_
      rintro e y ⟨rfl, rfl⟩
      go_wp2
      go_ret
      exact ⟨by rw [h0, h1]; simp, hga ▸ B1.out⟩

set_option maxRecDepth 100000 in
set_option maxHeartbeats 1600000 in
theorem partsRight (sn : Sl) (epoch seq : Int) (tag body : Sl) (w : World) :
    Calls Try.prog 147 #[.agg #[.slice sn.a sn.n sn.c, .int .i64 epoch, .int .i64 seq, .slice tag.a tag.n tag.c, .slice body.a body.n body.c]] w fun e w' => e = .returned (.bool ((sn.n : Int) == 12 && (isIn epoch 0 4294967295 && (isIn seq 0 281474976710655 && ((tag.n : Int) == 16))))) ∧ Below w.heap.size w w' := by
  obtain ⟨x0, hx0⟩ : ∃ x0, w.alloc (.cells #[.slice sn.a sn.n sn.c, .int .i64 epoch, .int .i64 seq, .slice tag.a tag.n tag.c, .slice body.a body.n body.c] 123) = x0 := ⟨_, rfl⟩
  have HW0 : Hid (w.alloc (.cells #[.slice sn.a sn.n sn.c, .int .i64 epoch, .int .i64 seq, .slice tag.a tag.n tag.c, .slice body.a body.n body.c] 123) = x0) := hx0
  have B0 : Hid (Below w.heap.size w x0) := by rw [← hx0]; exact (Below.refl _ _).alloc (Nat.le_refl _) _
  have K0 : Hid (Blk x0 w.heap.size 123 [.slice sn.a sn.n sn.c, .int .i64 epoch, .int .i64 seq, .slice tag.a tag.n tag.c, .slice body.a body.n body.c]) := by rw [← hx0]; exact Blk.new w _ _
  clear hx0
  go_enter Try.func147, Try.ntmps147
  go_wp2_with fail
  rw [HW0.out]
  generalize hga : w.heap.size = ga at K0 ⊢
  have c0 := K0.out.cell 0 rfl
  have c1 := K0.out.cell 1 rfl
  have c2 := K0.out.cell 2 rfl
  have c3 := K0.out.cell 3 rfl
  have c4 := K0.out.cell 4 rfl
  refine (isNonce sn.a sn.n sn.c x0).mono ?_
  rintro e y ⟨rfl, rfl⟩
  cases h0 : ((sn.n : Int) == 12) with
  | false =>
    go_wp2
    go_ret
    exact ⟨by rw [h0]; simp, hga ▸ B0.out⟩
  | true =>
    go_wp2_with fail
    refine (isEpoch epoch x0).mono ?_
    rintro e y ⟨rfl, rfl⟩
    cases h1 : (isIn epoch 0 4294967295) with
    | false =>
      go_wp2
      go_ret
      exact ⟨by rw [h0, h1]; simp, hga ▸ B0.out⟩
    | true =>
      go_wp2_with fail
      refine (isSeq seq x0).mono ?_
      rintro e y ⟨rfl, rfl⟩
      cases h2 : (isIn seq 0 281474976710655) with
      | false =>
        go_wp2
        go_ret
        exact ⟨by rw [h0, h1, h2]; simp, hga ▸ B0.out⟩
      | true =>
        go_wp2_with fail
        refine (isTag tag.a tag.n tag.c x0).mono ?_
        rintro e y ⟨rfl, rfl⟩
        go_wp2
        go_ret
        exact ⟨by rw [h0, h1, h2]; simp, hga ▸ B0.out⟩

set_option maxRecDepth 100000 in
set_option maxHeartbeats 1600000 in
theorem dataRight (sn : Sl) (epoch seq : Int) (tag body : Sl) (w : World) :
    Calls Try.prog 150 #[.agg #[.slice sn.a sn.n sn.c, .int .i64 epoch, .int .i64 seq, .slice tag.a tag.n tag.c, .slice body.a body.n body.c]] w fun e w' => e = .returned (.bool (((sn.n : Int) == 12) && (isIn epoch 0 4294967295 && (isIn seq 0 281474976710655 && ((tag.n : Int) == 16))) && (decide ((body.n : Int) ≤ 40)))) ∧ Below w.heap.size w w' := by
  obtain ⟨x0, hx0⟩ : ∃ x0, w.alloc (.cells #[.slice sn.a sn.n sn.c, .int .i64 epoch, .int .i64 seq, .slice tag.a tag.n tag.c, .slice body.a body.n body.c] 125) = x0 := ⟨_, rfl⟩
  have HW0 : Hid (w.alloc (.cells #[.slice sn.a sn.n sn.c, .int .i64 epoch, .int .i64 seq, .slice tag.a tag.n tag.c, .slice body.a body.n body.c] 125) = x0) := hx0
  have B0 : Hid (Below w.heap.size w x0) := by rw [← hx0]; exact (Below.refl _ _).alloc (Nat.le_refl _) _
  have K0 : Hid (Blk x0 w.heap.size 125 [.slice sn.a sn.n sn.c, .int .i64 epoch, .int .i64 seq, .slice tag.a tag.n tag.c, .slice body.a body.n body.c]) := by rw [← hx0]; exact Blk.new w _ _
  clear hx0
  go_enter Try.func150, Try.ntmps150
  go_wp2_with fail
  rw [HW0.out]
  generalize hga : w.heap.size = ga at K0 ⊢
  have c0 := K0.out.cell 0 rfl
  have c1 := K0.out.cell 1 rfl
  have c2 := K0.out.cell 2 rfl
  have c3 := K0.out.cell 3 rfl
  have c4 := K0.out.cell 4 rfl
  refine (partsRight sn epoch seq tag body x0).mono ?_
  rintro e x1 ⟨rfl, b1⟩
  have B1 : Hid (Below w.heap.size w x1) := B0.out.trans (b1.mono B0.out.size)
  have K1 : Hid (Blk x1 ga 125 [.slice sn.a sn.n sn.c, .int .i64 epoch, .int .i64 seq, .slice tag.a tag.n tag.c, .slice body.a body.n body.c]) := K0.out.later b1
  clear b1 c0 c1 c2 c3 c4
  have c0 := K1.out.cell 0 rfl
  have c1 := K1.out.cell 1 rfl
  have c2 := K1.out.cell 2 rfl
  have c3 := K1.out.cell 3 rfl
  have c4 := K1.out.cell 4 rfl
  cases h0 : (((sn.n : Int) == 12) && (isIn epoch 0 4294967295 && (isIn seq 0 281474976710655 && ((tag.n : Int) == 16)))) with
  | false =>
    go_wp2
    go_ret
    exact ⟨by rw [h0]; simp, hga ▸ B1.out⟩
  | true =>
    go_wp2
    go_ret
    exact ⟨by rw [h0]; simp, hga ▸ B1.out⟩

set_option maxRecDepth 100000 in
set_option maxHeartbeats 1600000 in
theorem chalRight (sn : Sl) (epoch seq : Int) (tag body : Sl) (w : World) :
    Calls Try.prog 152 #[.agg #[.slice sn.a sn.n sn.c, .int .i64 epoch, .int .i64 seq, .slice tag.a tag.n tag.c, .slice body.a body.n body.c]] w fun e w' => e = .returned (.bool (((sn.n : Int) == 12) && (isIn epoch 0 4294967295 && (isIn seq 0 281474976710655 && ((tag.n : Int) == 16))) && ((body.n : Int) == 12))) ∧ Below w.heap.size w w' := by
  obtain ⟨x0, hx0⟩ : ∃ x0, w.alloc (.cells #[.slice sn.a sn.n sn.c, .int .i64 epoch, .int .i64 seq, .slice tag.a tag.n tag.c, .slice body.a body.n body.c] 126) = x0 := ⟨_, rfl⟩
  have HW0 : Hid (w.alloc (.cells #[.slice sn.a sn.n sn.c, .int .i64 epoch, .int .i64 seq, .slice tag.a tag.n tag.c, .slice body.a body.n body.c] 126) = x0) := hx0
  have B0 : Hid (Below w.heap.size w x0) := by rw [← hx0]; exact (Below.refl _ _).alloc (Nat.le_refl _) _
  have K0 : Hid (Blk x0 w.heap.size 126 [.slice sn.a sn.n sn.c, .int .i64 epoch, .int .i64 seq, .slice tag.a tag.n tag.c, .slice body.a body.n body.c]) := by rw [← hx0]; exact Blk.new w _ _
  clear hx0
  go_enter Try.func152, Try.ntmps152
  go_wp2_with fail
  rw [HW0.out]
  generalize hga : w.heap.size = ga at K0 ⊢
  have c0 := K0.out.cell 0 rfl
  have c1 := K0.out.cell 1 rfl
  have c2 := K0.out.cell 2 rfl
  have c3 := K0.out.cell 3 rfl
  have c4 := K0.out.cell 4 rfl
  refine (partsRight sn epoch seq tag body x0).mono ?_
  rintro e x1 ⟨rfl, b1⟩
  have B1 : Hid (Below w.heap.size w x1) := B0.out.trans (b1.mono B0.out.size)
  have K1 : Hid (Blk x1 ga 126 [.slice sn.a sn.n sn.c, .int .i64 epoch, .int .i64 seq, .slice tag.a tag.n tag.c, .slice body.a body.n body.c]) := K0.out.later b1
  clear b1 c0 c1 c2 c3 c4
  have c0 := K1.out.cell 0 rfl
  have c1 := K1.out.cell 1 rfl
  have c2 := K1.out.cell 2 rfl
  have c3 := K1.out.cell 3 rfl
  have c4 := K1.out.cell 4 rfl
  cases h0 : (((sn.n : Int) == 12) && (isIn epoch 0 4294967295 && (isIn seq 0 281474976710655 && ((tag.n : Int) == 16)))) with
  | false =>
    go_wp2
    go_ret
    exact ⟨by rw [h0]; simp, hga ▸ B1.out⟩
  | true =>
    go_wp2_with fail
    refine (isNonce body.a body.n body.c x1).mono ?_
    rintro e y ⟨rfl, rfl⟩
    go_wp2
    go_ret
    exact ⟨by rw [h0]; simp, hga ▸ B1.out⟩

set_option maxRecDepth 100000 in
set_option maxHeartbeats 1600000 in
theorem respRight (sn : Sl) (epoch seq : Int) (tag body : Sl) (w : World) :
    Calls Try.prog 154 #[.agg #[.slice sn.a sn.n sn.c, .int .i64 epoch, .int .i64 seq, .slice tag.a tag.n tag.c, .slice body.a body.n body.c]] w fun e w' => e = .returned (.bool (((sn.n : Int) == 12) && (isIn epoch 0 4294967295 && (isIn seq 0 281474976710655 && ((tag.n : Int) == 16))) && ((body.n : Int) == 12))) ∧ Below w.heap.size w w' := by
  obtain ⟨x0, hx0⟩ : ∃ x0, w.alloc (.cells #[.slice sn.a sn.n sn.c, .int .i64 epoch, .int .i64 seq, .slice tag.a tag.n tag.c, .slice body.a body.n body.c] 127) = x0 := ⟨_, rfl⟩
  have HW0 : Hid (w.alloc (.cells #[.slice sn.a sn.n sn.c, .int .i64 epoch, .int .i64 seq, .slice tag.a tag.n tag.c, .slice body.a body.n body.c] 127) = x0) := hx0
  have B0 : Hid (Below w.heap.size w x0) := by rw [← hx0]; exact (Below.refl _ _).alloc (Nat.le_refl _) _
  have K0 : Hid (Blk x0 w.heap.size 127 [.slice sn.a sn.n sn.c, .int .i64 epoch, .int .i64 seq, .slice tag.a tag.n tag.c, .slice body.a body.n body.c]) := by rw [← hx0]; exact Blk.new w _ _
  clear hx0
  go_enter Try.func154, Try.ntmps154
  go_wp2_with fail
  rw [HW0.out]
  generalize hga : w.heap.size = ga at K0 ⊢
  have c0 := K0.out.cell 0 rfl
  have c1 := K0.out.cell 1 rfl
  have c2 := K0.out.cell 2 rfl
  have c3 := K0.out.cell 3 rfl
  have c4 := K0.out.cell 4 rfl
  refine (partsRight sn epoch seq tag body x0).mono ?_
  rintro e x1 ⟨rfl, b1⟩
  have B1 : Hid (Below w.heap.size w x1) := B0.out.trans (b1.mono B0.out.size)
  have K1 : Hid (Blk x1 ga 127 [.slice sn.a sn.n sn.c, .int .i64 epoch, .int .i64 seq, .slice tag.a tag.n tag.c, .slice body.a body.n body.c]) := K0.out.later b1
  clear b1 c0 c1 c2 c3 c4
  have c0 := K1.out.cell 0 rfl
  have c1 := K1.out.cell 1 rfl
  have c2 := K1.out.cell 2 rfl
  have c3 := K1.out.cell 3 rfl
  have c4 := K1.out.cell 4 rfl
  cases h0 : (((sn.n : Int) == 12) && (isIn epoch 0 4294967295 && (isIn seq 0 281474976710655 && ((tag.n : Int) == 16)))) with
  | false =>
    go_wp2
    go_ret
    exact ⟨by rw [h0]; simp, hga ▸ B1.out⟩
  | true =>
    go_wp2_with fail
    refine (isNonce body.a body.n body.c x1).mono ?_
    rintro e y ⟨rfl, rfl⟩
    go_wp2
    go_ret
    exact ⟨by rw [h0]; simp, hga ▸ B1.out⟩

set_option maxRecDepth 100000 in
set_option maxHeartbeats 1600000 in
theorem rekRight (sn : Sl) (epoch seq : Int) (tag body : Sl) (w : World) :
    Calls Try.prog 156 #[.agg #[.slice sn.a sn.n sn.c, .int .i64 epoch, .int .i64 seq, .slice tag.a tag.n tag.c, .slice body.a body.n body.c]] w fun e w' => e = .returned (.bool (((sn.n : Int) == 12) && (isIn epoch 0 4294967295 && (isIn seq 0 281474976710655 && ((tag.n : Int) == 16))) && ((body.n : Int) == 4))) ∧ Below w.heap.size w w' := by
  obtain ⟨x0, hx0⟩ : ∃ x0, w.alloc (.cells #[.slice sn.a sn.n sn.c, .int .i64 epoch, .int .i64 seq, .slice tag.a tag.n tag.c, .slice body.a body.n body.c] 128) = x0 := ⟨_, rfl⟩
  have HW0 : Hid (w.alloc (.cells #[.slice sn.a sn.n sn.c, .int .i64 epoch, .int .i64 seq, .slice tag.a tag.n tag.c, .slice body.a body.n body.c] 128) = x0) := hx0
  have B0 : Hid (Below w.heap.size w x0) := by rw [← hx0]; exact (Below.refl _ _).alloc (Nat.le_refl _) _
  have K0 : Hid (Blk x0 w.heap.size 128 [.slice sn.a sn.n sn.c, .int .i64 epoch, .int .i64 seq, .slice tag.a tag.n tag.c, .slice body.a body.n body.c]) := by rw [← hx0]; exact Blk.new w _ _
  clear hx0
  go_enter Try.func156, Try.ntmps156
  go_wp2_with fail
  rw [HW0.out]
  generalize hga : w.heap.size = ga at K0 ⊢
  have c0 := K0.out.cell 0 rfl
  have c1 := K0.out.cell 1 rfl
  have c2 := K0.out.cell 2 rfl
  have c3 := K0.out.cell 3 rfl
  have c4 := K0.out.cell 4 rfl
  refine (partsRight sn epoch seq tag body x0).mono ?_
  rintro e x1 ⟨rfl, b1⟩
  have B1 : Hid (Below w.heap.size w x1) := B0.out.trans (b1.mono B0.out.size)
  have K1 : Hid (Blk x1 ga 128 [.slice sn.a sn.n sn.c, .int .i64 epoch, .int .i64 seq, .slice tag.a tag.n tag.c, .slice body.a body.n body.c]) := K0.out.later b1
  clear b1 c0 c1 c2 c3 c4
  have c0 := K1.out.cell 0 rfl
  have c1 := K1.out.cell 1 rfl
  have c2 := K1.out.cell 2 rfl
  have c3 := K1.out.cell 3 rfl
  have c4 := K1.out.cell 4 rfl
  cases h0 : (((sn.n : Int) == 12) && (isIn epoch 0 4294967295 && (isIn seq 0 281474976710655 && ((tag.n : Int) == 16)))) with
  | false =>
    go_wp2
    go_ret
    exact ⟨by rw [h0]; simp, hga ▸ B1.out⟩
  | true =>
    go_wp2
    go_ret
    exact ⟨by rw [h0]; simp, hga ▸ B1.out⟩

set_option maxRecDepth 100000 in
set_option maxHeartbeats 1600000 in
theorem ackRight (sn : Sl) (epoch seq : Int) (tag body : Sl) (w : World) :
    Calls Try.prog 158 #[.agg #[.slice sn.a sn.n sn.c, .int .i64 epoch, .int .i64 seq, .slice tag.a tag.n tag.c, .slice body.a body.n body.c]] w fun e w' => e = .returned (.bool (((sn.n : Int) == 12) && (isIn epoch 0 4294967295 && (isIn seq 0 281474976710655 && ((tag.n : Int) == 16))) && ((body.n : Int) == 4))) ∧ Below w.heap.size w w' := by
  obtain ⟨x0, hx0⟩ : ∃ x0, w.alloc (.cells #[.slice sn.a sn.n sn.c, .int .i64 epoch, .int .i64 seq, .slice tag.a tag.n tag.c, .slice body.a body.n body.c] 129) = x0 := ⟨_, rfl⟩
  have HW0 : Hid (w.alloc (.cells #[.slice sn.a sn.n sn.c, .int .i64 epoch, .int .i64 seq, .slice tag.a tag.n tag.c, .slice body.a body.n body.c] 129) = x0) := hx0
  have B0 : Hid (Below w.heap.size w x0) := by rw [← hx0]; exact (Below.refl _ _).alloc (Nat.le_refl _) _
  have K0 : Hid (Blk x0 w.heap.size 129 [.slice sn.a sn.n sn.c, .int .i64 epoch, .int .i64 seq, .slice tag.a tag.n tag.c, .slice body.a body.n body.c]) := by rw [← hx0]; exact Blk.new w _ _
  clear hx0
  go_enter Try.func158, Try.ntmps158
  go_wp2_with fail
  rw [HW0.out]
  generalize hga : w.heap.size = ga at K0 ⊢
  have c0 := K0.out.cell 0 rfl
  have c1 := K0.out.cell 1 rfl
  have c2 := K0.out.cell 2 rfl
  have c3 := K0.out.cell 3 rfl
  have c4 := K0.out.cell 4 rfl
  refine (partsRight sn epoch seq tag body x0).mono ?_
  rintro e x1 ⟨rfl, b1⟩
  have B1 : Hid (Below w.heap.size w x1) := B0.out.trans (b1.mono B0.out.size)
  have K1 : Hid (Blk x1 ga 129 [.slice sn.a sn.n sn.c, .int .i64 epoch, .int .i64 seq, .slice tag.a tag.n tag.c, .slice body.a body.n body.c]) := K0.out.later b1
  clear b1 c0 c1 c2 c3 c4
  have c0 := K1.out.cell 0 rfl
  have c1 := K1.out.cell 1 rfl
  have c2 := K1.out.cell 2 rfl
  have c3 := K1.out.cell 3 rfl
  have c4 := K1.out.cell 4 rfl
  cases h0 : (((sn.n : Int) == 12) && (isIn epoch 0 4294967295 && (isIn seq 0 281474976710655 && ((tag.n : Int) == 16)))) with
  | false =>
    go_wp2
    go_ret
    exact ⟨by rw [h0]; simp, hga ▸ B1.out⟩
  | true =>
    go_wp2
    go_ret
    exact ⟨by rw [h0]; simp, hga ▸ B1.out⟩

end Go.Proofs.Ytmcflfpckpjphaa.FrW

namespace Go.Proofs.Ytmcflfpckpjphaa.FrW2
open Go.RowKit Go.Proofs.Ytmcflfpckpjphaa.Mem Go.Proofs.Ytmcflfpckpjphaa.Blk Go.Proofs.Ytmcflfpckpjphaa.Words Go.Proofs.Ytmcflfpckpjphaa.Zone Go.Proofs.Ytmcflfpckpjphaa.Res Go.Proofs.Ytmcflfpckpjphaa.FrZ Go.Proofs.Ytmcflfpckpjphaa.FrP Go.Proofs.Ytmcflfpckpjphaa.FrW

set_option maxRecDepth 100000 in
theorem aggCook : aggB Try.prog 133 4 = true := by kernel_rfl
set_option maxRecDepth 100000 in
theorem aggParts : aggB Try.prog 123 5 = true := by kernel_rfl

set_option maxRecDepth 100000 in
set_option maxHeartbeats 1600000 in
theorem initFrame (id : Int) (cn : Sl) (w : World) :
    Calls Try.prog 159 #[.agg #[.int .i64 id, .slice cn.a cn.n cn.c]] w fun e w' => e = .returned (.agg #[.int .i64 1, .int .i64 id, .slice cn.a cn.n cn.c, .slice none 0 0, .int .i64 0, .slice none 0 0, .slice none 0 0, .int .i64 0, .int .i64 0, .slice none 0 0, .slice none 0 0]) ∧ Below w.heap.size w w' := by
  go_enter Try.func159, Try.ntmps159
  go_wp2
  have K := Blk.new (w.alloc (.cells #[.int .i64 id, .slice cn.a cn.n cn.c] 131)) 39 [.int .i64 1, .int .i64 id, .slice cn.a cn.n cn.c, .slice none 0 0, .int .i64 0, .slice none 0 0, .slice none 0 0, .int .i64 0, .int .i64 0, .slice none 0 0, .slice none 0 0]
  rw [World.size_alloc] at K
  exact bodyPost_ret (v := .agg #[.int .i64 1, .int .i64 id, .slice cn.a cn.n cn.c, .slice none 0 0, .int .i64 0, .slice none 0 0, .slice none 0 0, .int .i64 0, .int .i64 0, .slice none 0 0, .slice none 0 0]) (res1 rfl (is_cell rfl K aggFr)) rfl ⟨rfl, ((Below.refl _ _).alloc (Nat.le_refl _) _).alloc (by simp) _⟩

set_option maxRecDepth 100000 in
set_option maxHeartbeats 1600000 in
theorem cookFrame (cn sn : Sl) (tick : Int) (cookie : Sl) (w : World) :
    Calls Try.prog 162 #[.agg #[.slice cn.a cn.n cn.c, .slice sn.a sn.n sn.c, .int .i64 tick, .slice cookie.a cookie.n cookie.c]] w fun e w' => e = .returned (.agg #[.int .i64 2, .int .i64 0, .slice cn.a cn.n cn.c, .slice sn.a sn.n sn.c, .int .i64 tick, .slice cookie.a cookie.n cookie.c, .slice none 0 0, .int .i64 0, .int .i64 0, .slice none 0 0, .slice none 0 0]) ∧ Below w.heap.size w w' := by
  go_enter Try.func162, Try.ntmps162
  go_wp2
  have K := Blk.new (w.alloc (.cells #[.slice cn.a cn.n cn.c, .slice sn.a sn.n sn.c, .int .i64 tick, .slice cookie.a cookie.n cookie.c] 133)) 39 [.int .i64 2, .int .i64 0, .slice cn.a cn.n cn.c, .slice sn.a sn.n sn.c, .int .i64 tick, .slice cookie.a cookie.n cookie.c, .slice none 0 0, .int .i64 0, .int .i64 0, .slice none 0 0, .slice none 0 0]
  rw [World.size_alloc] at K
  exact bodyPost_ret (v := .agg #[.int .i64 2, .int .i64 0, .slice cn.a cn.n cn.c, .slice sn.a sn.n sn.c, .int .i64 tick, .slice cookie.a cookie.n cookie.c, .slice none 0 0, .int .i64 0, .int .i64 0, .slice none 0 0, .slice none 0 0]) (res1 rfl (is_cell rfl K aggFr)) rfl ⟨rfl, ((Below.refl _ _).alloc (Nat.le_refl _) _).alloc (by simp) _⟩

set_option maxRecDepth 100000 in
set_option maxHeartbeats 1600000 in
theorem partsFrame (sn : Sl) (epoch seq : Int) (tag body : Sl) (k : Int) (w : World) :
    Calls Try.prog 146 #[.agg #[.slice sn.a sn.n sn.c, .int .i64 epoch, .int .i64 seq, .slice tag.a tag.n tag.c, .slice body.a body.n body.c], .int .i64 k] w fun e w' => e = .returned (.agg #[.int .i64 k, .int .i64 0, .slice none 0 0, .slice sn.a sn.n sn.c, .int .i64 0, .slice none 0 0, .slice none 0 0, .int .i64 epoch, .int .i64 seq, .slice body.a body.n body.c, .slice tag.a tag.n tag.c]) ∧ Below w.heap.size w w' := by
  go_enter Try.func146, Try.ntmps146
  go_wp2
  have K := Blk.new (w.alloc (.cells #[.slice sn.a sn.n sn.c, .int .i64 epoch, .int .i64 seq, .slice tag.a tag.n tag.c, .slice body.a body.n body.c] 123)) 39 [.int .i64 k, .int .i64 0, .slice none 0 0, .slice sn.a sn.n sn.c, .int .i64 0, .slice none 0 0, .slice none 0 0, .int .i64 epoch, .int .i64 seq, .slice body.a body.n body.c, .slice tag.a tag.n tag.c]
  rw [World.size_alloc] at K
  exact bodyPost_ret (v := .agg #[.int .i64 k, .int .i64 0, .slice none 0 0, .slice sn.a sn.n sn.c, .int .i64 0, .slice none 0 0, .slice none 0 0, .int .i64 epoch, .int .i64 seq, .slice body.a body.n body.c, .slice tag.a tag.n tag.c]) (res1 rfl (is_cell rfl K aggFr)) rfl ⟨rfl, ((Below.refl _ _).alloc (Nat.le_refl _) _).alloc (by simp) _⟩

set_option maxRecDepth 100000 in
set_option maxHeartbeats 1600000 in
theorem dataFrame (sn : Sl) (epoch seq : Int) (tag body : Sl) (w : World) :
    Calls Try.prog 149 #[.agg #[.slice sn.a sn.n sn.c, .int .i64 epoch, .int .i64 seq, .slice tag.a tag.n tag.c, .slice body.a body.n body.c]] w fun e w' => e = .returned (.agg #[.int .i64 4, .int .i64 0, .slice none 0 0, .slice sn.a sn.n sn.c, .int .i64 0, .slice none 0 0, .slice none 0 0, .int .i64 epoch, .int .i64 seq, .slice body.a body.n body.c, .slice tag.a tag.n tag.c]) ∧ Below w.heap.size w w' := by
  obtain ⟨x0, hx0⟩ : ∃ x0, (w.alloc (.cells #[.slice sn.a sn.n sn.c, .int .i64 epoch, .int .i64 seq, .slice tag.a tag.n tag.c, .slice body.a body.n body.c] 125)).alloc (.cells #[.int .i64 0, .int .i64 0, .slice none 0 0, .slice none 0 0, .int .i64 0, .slice none 0 0, .slice none 0 0, .int .i64 0, .int .i64 0, .slice none 0 0, .slice none 0 0] 39) = x0 := ⟨_, rfl⟩
  have HW0 : Hid ((w.alloc (.cells #[.slice sn.a sn.n sn.c, .int .i64 epoch, .int .i64 seq, .slice tag.a tag.n tag.c, .slice body.a body.n body.c] 125)).alloc (.cells #[.int .i64 0, .int .i64 0, .slice none 0 0, .slice none 0 0, .int .i64 0, .slice none 0 0, .slice none 0 0, .int .i64 0, .int .i64 0, .slice none 0 0, .slice none 0 0] 39) = x0) := hx0
  have B0 : Hid (Below w.heap.size w x0) := by rw [← hx0]; exact ((Below.refl _ _).alloc (Nat.le_refl _) _).alloc (by simp) _
  have K0 : Hid (Blk x0 (w.heap.size + 1) 39 [.int .i64 0, .int .i64 0, .slice none 0 0, .slice none 0 0, .int .i64 0, .slice none 0 0, .slice none 0 0, .int .i64 0, .int .i64 0, .slice none 0 0, .slice none 0 0]) := by
    have := Blk.new (w.alloc (.cells #[.slice sn.a sn.n sn.c, .int .i64 epoch, .int .i64 seq, .slice tag.a tag.n tag.c, .slice body.a body.n body.c] 125)) 39 [.int .i64 0, .int .i64 0, .slice none 0 0, .slice none 0 0, .int .i64 0, .slice none 0 0, .slice none 0 0, .int .i64 0, .int .i64 0, .slice none 0 0, .slice none 0 0]
    rw [World.size_alloc] at this
    rw [← hx0]; exact this
  clear hx0
  go_enter Try.func149, Try.ntmps149
  go_wp2_with fail
  rw [HW0.out]
  obtain ⟨gr, hgr⟩ : ∃ gr, w.heap.size + 1 = gr := ⟨_, rfl⟩
  have HG : Hid (w.heap.size + 1 = gr) := hgr
  rw [hgr] at K0 ⊢
  clear hgr HW0
  refine (partsFrame sn epoch seq tag body 4 x0).mono ?_
  rintro e x1 ⟨rfl, b1⟩
  have B1 : Hid (Below w.heap.size w x1) := B0.out.trans (b1.mono B0.out.size)
  have K1 : Hid (Blk x1 gr 39 [.int .i64 0, .int .i64 0, .slice none 0 0, .slice none 0 0, .int .i64 0, .slice none 0 0, .slice none 0 0, .int .i64 0, .int .i64 0, .slice none 0 0, .slice none 0 0]) := K0.out.later b1
  clear b1 B0 K0
  have c0 := K1.out.cell 0 rfl
  have f0 := K1.out.frozen 0
  have c1 := K1.out.cell 1 rfl
  have f1 := K1.out.frozen 1
  have c2 := K1.out.cell 2 rfl
  have f2 := K1.out.frozen 2
  have c3 := K1.out.cell 3 rfl
  have f3 := K1.out.frozen 3
  have c4 := K1.out.cell 4 rfl
  have f4 := K1.out.frozen 4
  have c5 := K1.out.cell 5 rfl
  have f5 := K1.out.frozen 5
  have c6 := K1.out.cell 6 rfl
  have f6 := K1.out.frozen 6
  have c7 := K1.out.cell 7 rfl
  have f7 := K1.out.frozen 7
  have c8 := K1.out.cell 8 rfl
  have f8 := K1.out.frozen 8
  have c9 := K1.out.cell 9 rfl
  have f9 := K1.out.frozen 9
  have c10 := K1.out.cell 10 rfl
  have f10 := K1.out.frozen 10
  go_wp2
  have KF : Blk ((((((((((((x1).setCell ⟨gr, 0, none⟩ (.int .i64 4)).setCell ⟨gr, 1, none⟩ (.int .i64 0)).setCell ⟨gr, 2, none⟩ (.slice none 0 0)).setCell ⟨gr, 3, none⟩ (.slice sn.a sn.n sn.c)).setCell ⟨gr, 4, none⟩ (.int .i64 0)).setCell ⟨gr, 5, none⟩ (.slice none 0 0)).setCell ⟨gr, 6, none⟩ (.slice none 0 0)).setCell ⟨gr, 7, none⟩ (.int .i64 epoch)).setCell ⟨gr, 8, none⟩ (.int .i64 seq)).setCell ⟨gr, 9, none⟩ (.slice body.a body.n body.c)).setCell ⟨gr, 10, none⟩ (.slice tag.a tag.n tag.c)) gr 39 [.int .i64 4, .int .i64 0, .slice none 0 0, .slice sn.a sn.n sn.c, .int .i64 0, .slice none 0 0, .slice none 0 0, .int .i64 epoch, .int .i64 seq, .slice body.a body.n body.c, .slice tag.a tag.n tag.c] := (((((((((((K1.out).set 0 _ (by simp [maxLen])).set 1 _ (by simp [maxLen])).set 2 _ (by simp [maxLen])).set 3 _ (by simp [maxLen])).set 4 _ (by simp [maxLen])).set 5 _ (by simp [maxLen])).set 6 _ (by simp [maxLen])).set 7 _ (by simp [maxLen])).set 8 _ (by simp [maxLen])).set 9 _ (by simp [maxLen])).set 10 _ (by simp [maxLen])
  exact bodyPost_ret (v := .agg #[.int .i64 4, .int .i64 0, .slice none 0 0, .slice sn.a sn.n sn.c, .int .i64 0, .slice none 0 0, .slice none 0 0, .int .i64 epoch, .int .i64 seq, .slice body.a body.n body.c, .slice tag.a tag.n tag.c]) (res1 rfl (is_cell rfl KF aggFr)) rfl ⟨rfl, (((((((((((B1.out).setCell (by show _ ≤ gr; have := HG.out; omega) _).setCell (by show _ ≤ gr; have := HG.out; omega) _).setCell (by show _ ≤ gr; have := HG.out; omega) _).setCell (by show _ ≤ gr; have := HG.out; omega) _).setCell (by show _ ≤ gr; have := HG.out; omega) _).setCell (by show _ ≤ gr; have := HG.out; omega) _).setCell (by show _ ≤ gr; have := HG.out; omega) _).setCell (by show _ ≤ gr; have := HG.out; omega) _).setCell (by show _ ≤ gr; have := HG.out; omega) _).setCell (by show _ ≤ gr; have := HG.out; omega) _).setCell (by show _ ≤ gr; have := HG.out; omega) _⟩

set_option maxRecDepth 100000 in
set_option maxHeartbeats 1600000 in
theorem chalFrame (sn : Sl) (epoch seq : Int) (tag body : Sl) (w : World) :
    Calls Try.prog 151 #[.agg #[.slice sn.a sn.n sn.c, .int .i64 epoch, .int .i64 seq, .slice tag.a tag.n tag.c, .slice body.a body.n body.c]] w fun e w' => e = .returned (.agg #[.int .i64 5, .int .i64 0, .slice none 0 0, .slice sn.a sn.n sn.c, .int .i64 0, .slice none 0 0, .slice none 0 0, .int .i64 epoch, .int .i64 seq, .slice body.a body.n body.c, .slice tag.a tag.n tag.c]) ∧ Below w.heap.size w w' := by
  obtain ⟨x0, hx0⟩ : ∃ x0, (w.alloc (.cells #[.slice sn.a sn.n sn.c, .int .i64 epoch, .int .i64 seq, .slice tag.a tag.n tag.c, .slice body.a body.n body.c] 126)).alloc (.cells #[.int .i64 0, .int .i64 0, .slice none 0 0, .slice none 0 0, .int .i64 0, .slice none 0 0, .slice none 0 0, .int .i64 0, .int .i64 0, .slice none 0 0, .slice none 0 0] 39) = x0 := ⟨_, rfl⟩
  have HW0 : Hid ((w.alloc (.cells #[.slice sn.a sn.n sn.c, .int .i64 epoch, .int .i64 seq, .slice tag.a tag.n tag.c, .slice body.a body.n body.c] 126)).alloc (.cells #[.int .i64 0, .int .i64 0, .slice none 0 0, .slice none 0 0, .int .i64 0, .slice none 0 0, .slice none 0 0, .int .i64 0, .int .i64 0, .slice none 0 0, .slice none 0 0] 39) = x0) := hx0
  have B0 : Hid (Below w.heap.size w x0) := by rw [← hx0]; exact ((Below.refl _ _).alloc (Nat.le_refl _) _).alloc (by simp) _
  have K0 : Hid (Blk x0 (w.heap.size + 1) 39 [.int .i64 0, .int .i64 0, .slice none 0 0, .slice none 0 0, .int .i64 0, .slice none 0 0, .slice none 0 0, .int .i64 0, .int .i64 0, .slice none 0 0, .slice none 0 0]) := by
    have := Blk.new (w.alloc (.cells #[.slice sn.a sn.n sn.c, .int .i64 epoch, .int .i64 seq, .slice tag.a tag.n tag.c, .slice body.a body.n body.c] 126)) 39 [.int .i64 0, .int .i64 0, .slice none 0 0, .slice none 0 0, .int .i64 0, .slice none 0 0, .slice none 0 0, .int .i64 0, .int .i64 0, .slice none 0 0, .slice none 0 0]
    rw [World.size_alloc] at this
    rw [← hx0]; exact this
  clear hx0
  go_enter Try.func151, Try.ntmps151
  go_wp2_with fail
  rw [HW0.out]
  obtain ⟨gr, hgr⟩ : ∃ gr, w.heap.size + 1 = gr := ⟨_, rfl⟩
  have HG : Hid (w.heap.size + 1 = gr) := hgr
  rw [hgr] at K0 ⊢
  clear hgr HW0
  refine (partsFrame sn epoch seq tag body 5 x0).mono ?_
  rintro e x1 ⟨rfl, b1⟩
  have B1 : Hid (Below w.heap.size w x1) := B0.out.trans (b1.mono B0.out.size)
  have K1 : Hid (Blk x1 gr 39 [.int .i64 0, .int .i64 0, .slice none 0 0, .slice none 0 0, .int .i64 0, .slice none 0 0, .slice none 0 0, .int .i64 0, .int .i64 0, .slice none 0 0, .slice none 0 0]) := K0.out.later b1
  clear b1 B0 K0
  have c0 := K1.out.cell 0 rfl
  have f0 := K1.out.frozen 0
  have c1 := K1.out.cell 1 rfl
  have f1 := K1.out.frozen 1
  have c2 := K1.out.cell 2 rfl
  have f2 := K1.out.frozen 2
  have c3 := K1.out.cell 3 rfl
  have f3 := K1.out.frozen 3
  have c4 := K1.out.cell 4 rfl
  have f4 := K1.out.frozen 4
  have c5 := K1.out.cell 5 rfl
  have f5 := K1.out.frozen 5
  have c6 := K1.out.cell 6 rfl
  have f6 := K1.out.frozen 6
  have c7 := K1.out.cell 7 rfl
  have f7 := K1.out.frozen 7
  have c8 := K1.out.cell 8 rfl
  have f8 := K1.out.frozen 8
  have c9 := K1.out.cell 9 rfl
  have f9 := K1.out.frozen 9
  have c10 := K1.out.cell 10 rfl
  have f10 := K1.out.frozen 10
  go_wp2
  have KF : Blk ((((((((((((x1).setCell ⟨gr, 0, none⟩ (.int .i64 5)).setCell ⟨gr, 1, none⟩ (.int .i64 0)).setCell ⟨gr, 2, none⟩ (.slice none 0 0)).setCell ⟨gr, 3, none⟩ (.slice sn.a sn.n sn.c)).setCell ⟨gr, 4, none⟩ (.int .i64 0)).setCell ⟨gr, 5, none⟩ (.slice none 0 0)).setCell ⟨gr, 6, none⟩ (.slice none 0 0)).setCell ⟨gr, 7, none⟩ (.int .i64 epoch)).setCell ⟨gr, 8, none⟩ (.int .i64 seq)).setCell ⟨gr, 9, none⟩ (.slice body.a body.n body.c)).setCell ⟨gr, 10, none⟩ (.slice tag.a tag.n tag.c)) gr 39 [.int .i64 5, .int .i64 0, .slice none 0 0, .slice sn.a sn.n sn.c, .int .i64 0, .slice none 0 0, .slice none 0 0, .int .i64 epoch, .int .i64 seq, .slice body.a body.n body.c, .slice tag.a tag.n tag.c] := (((((((((((K1.out).set 0 _ (by simp [maxLen])).set 1 _ (by simp [maxLen])).set 2 _ (by simp [maxLen])).set 3 _ (by simp [maxLen])).set 4 _ (by simp [maxLen])).set 5 _ (by simp [maxLen])).set 6 _ (by simp [maxLen])).set 7 _ (by simp [maxLen])).set 8 _ (by simp [maxLen])).set 9 _ (by simp [maxLen])).set 10 _ (by simp [maxLen])
  exact bodyPost_ret (v := .agg #[.int .i64 5, .int .i64 0, .slice none 0 0, .slice sn.a sn.n sn.c, .int .i64 0, .slice none 0 0, .slice none 0 0, .int .i64 epoch, .int .i64 seq, .slice body.a body.n body.c, .slice tag.a tag.n tag.c]) (res1 rfl (is_cell rfl KF aggFr)) rfl ⟨rfl, (((((((((((B1.out).setCell (by show _ ≤ gr; have := HG.out; omega) _).setCell (by show _ ≤ gr; have := HG.out; omega) _).setCell (by show _ ≤ gr; have := HG.out; omega) _).setCell (by show _ ≤ gr; have := HG.out; omega) _).setCell (by show _ ≤ gr; have := HG.out; omega) _).setCell (by show _ ≤ gr; have := HG.out; omega) _).setCell (by show _ ≤ gr; have := HG.out; omega) _).setCell (by show _ ≤ gr; have := HG.out; omega) _).setCell (by show _ ≤ gr; have := HG.out; omega) _).setCell (by show _ ≤ gr; have := HG.out; omega) _).setCell (by show _ ≤ gr; have := HG.out; omega) _⟩

set_option maxRecDepth 100000 in
set_option maxHeartbeats 1600000 in
theorem respFrame (sn : Sl) (epoch seq : Int) (tag body : Sl) (w : World) :
    Calls Try.prog 153 #[.agg #[.slice sn.a sn.n sn.c, .int .i64 epoch, .int .i64 seq, .slice tag.a tag.n tag.c, .slice body.a body.n body.c]] w fun e w' => e = .returned (.agg #[.int .i64 6, .int .i64 0, .slice none 0 0, .slice sn.a sn.n sn.c, .int .i64 0, .slice none 0 0, .slice none 0 0, .int .i64 epoch, .int .i64 seq, .slice body.a body.n body.c, .slice tag.a tag.n tag.c]) ∧ Below w.heap.size w w' := by
  obtain ⟨x0, hx0⟩ : ∃ x0, (w.alloc (.cells #[.slice sn.a sn.n sn.c, .int .i64 epoch, .int .i64 seq, .slice tag.a tag.n tag.c, .slice body.a body.n body.c] 127)).alloc (.cells #[.int .i64 0, .int .i64 0, .slice none 0 0, .slice none 0 0, .int .i64 0, .slice none 0 0, .slice none 0 0, .int .i64 0, .int .i64 0, .slice none 0 0, .slice none 0 0] 39) = x0 := ⟨_, rfl⟩
  have HW0 : Hid ((w.alloc (.cells #[.slice sn.a sn.n sn.c, .int .i64 epoch, .int .i64 seq, .slice tag.a tag.n tag.c, .slice body.a body.n body.c] 127)).alloc (.cells #[.int .i64 0, .int .i64 0, .slice none 0 0, .slice none 0 0, .int .i64 0, .slice none 0 0, .slice none 0 0, .int .i64 0, .int .i64 0, .slice none 0 0, .slice none 0 0] 39) = x0) := hx0
  have B0 : Hid (Below w.heap.size w x0) := by rw [← hx0]; exact ((Below.refl _ _).alloc (Nat.le_refl _) _).alloc (by simp) _
  have K0 : Hid (Blk x0 (w.heap.size + 1) 39 [.int .i64 0, .int .i64 0, .slice none 0 0, .slice none 0 0, .int .i64 0, .slice none 0 0, .slice none 0 0, .int .i64 0, .int .i64 0, .slice none 0 0, .slice none 0 0]) := by
    have := Blk.new (w.alloc (.cells #[.slice sn.a sn.n sn.c, .int .i64 epoch, .int .i64 seq, .slice tag.a tag.n tag.c, .slice body.a body.n body.c] 127)) 39 [.int .i64 0, .int .i64 0, .slice none 0 0, .slice none 0 0, .int .i64 0, .slice none 0 0, .slice none 0 0, .int .i64 0, .int .i64 0, .slice none 0 0, .slice none 0 0]
    rw [World.size_alloc] at this
    rw [← hx0]; exact this
  clear hx0
  go_enter Try.func153, Try.ntmps153
  go_wp2_with fail
  rw [HW0.out]
  obtain ⟨gr, hgr⟩ : ∃ gr, w.heap.size + 1 = gr := ⟨_, rfl⟩
  have HG : Hid (w.heap.size + 1 = gr) := hgr
  rw [hgr] at K0 ⊢
  clear hgr HW0
  refine (partsFrame sn epoch seq tag body 6 x0).mono ?_
  rintro e x1 ⟨rfl, b1⟩
  have B1 : Hid (Below w.heap.size w x1) := B0.out.trans (b1.mono B0.out.size)
  have K1 : Hid (Blk x1 gr 39 [.int .i64 0, .int .i64 0, .slice none 0 0, .slice none 0 0, .int .i64 0, .slice none 0 0, .slice none 0 0, .int .i64 0, .int .i64 0, .slice none 0 0, .slice none 0 0]) := K0.out.later b1
  clear b1 B0 K0
  have c0 := K1.out.cell 0 rfl
  have f0 := K1.out.frozen 0
  have c1 := K1.out.cell 1 rfl
  have f1 := K1.out.frozen 1
  have c2 := K1.out.cell 2 rfl
  have f2 := K1.out.frozen 2
  have c3 := K1.out.cell 3 rfl
  have f3 := K1.out.frozen 3
  have c4 := K1.out.cell 4 rfl
  have f4 := K1.out.frozen 4
  have c5 := K1.out.cell 5 rfl
  have f5 := K1.out.frozen 5
  have c6 := K1.out.cell 6 rfl
  have f6 := K1.out.frozen 6
  have c7 := K1.out.cell 7 rfl
  have f7 := K1.out.frozen 7
  have c8 := K1.out.cell 8 rfl
  have f8 := K1.out.frozen 8
  have c9 := K1.out.cell 9 rfl
  have f9 := K1.out.frozen 9
  have c10 := K1.out.cell 10 rfl
  have f10 := K1.out.frozen 10
  go_wp2
  have KF : Blk ((((((((((((x1).setCell ⟨gr, 0, none⟩ (.int .i64 6)).setCell ⟨gr, 1, none⟩ (.int .i64 0)).setCell ⟨gr, 2, none⟩ (.slice none 0 0)).setCell ⟨gr, 3, none⟩ (.slice sn.a sn.n sn.c)).setCell ⟨gr, 4, none⟩ (.int .i64 0)).setCell ⟨gr, 5, none⟩ (.slice none 0 0)).setCell ⟨gr, 6, none⟩ (.slice none 0 0)).setCell ⟨gr, 7, none⟩ (.int .i64 epoch)).setCell ⟨gr, 8, none⟩ (.int .i64 seq)).setCell ⟨gr, 9, none⟩ (.slice body.a body.n body.c)).setCell ⟨gr, 10, none⟩ (.slice tag.a tag.n tag.c)) gr 39 [.int .i64 6, .int .i64 0, .slice none 0 0, .slice sn.a sn.n sn.c, .int .i64 0, .slice none 0 0, .slice none 0 0, .int .i64 epoch, .int .i64 seq, .slice body.a body.n body.c, .slice tag.a tag.n tag.c] := (((((((((((K1.out).set 0 _ (by simp [maxLen])).set 1 _ (by simp [maxLen])).set 2 _ (by simp [maxLen])).set 3 _ (by simp [maxLen])).set 4 _ (by simp [maxLen])).set 5 _ (by simp [maxLen])).set 6 _ (by simp [maxLen])).set 7 _ (by simp [maxLen])).set 8 _ (by simp [maxLen])).set 9 _ (by simp [maxLen])).set 10 _ (by simp [maxLen])
  exact bodyPost_ret (v := .agg #[.int .i64 6, .int .i64 0, .slice none 0 0, .slice sn.a sn.n sn.c, .int .i64 0, .slice none 0 0, .slice none 0 0, .int .i64 epoch, .int .i64 seq, .slice body.a body.n body.c, .slice tag.a tag.n tag.c]) (res1 rfl (is_cell rfl KF aggFr)) rfl ⟨rfl, (((((((((((B1.out).setCell (by show _ ≤ gr; have := HG.out; omega) _).setCell (by show _ ≤ gr; have := HG.out; omega) _).setCell (by show _ ≤ gr; have := HG.out; omega) _).setCell (by show _ ≤ gr; have := HG.out; omega) _).setCell (by show _ ≤ gr; have := HG.out; omega) _).setCell (by show _ ≤ gr; have := HG.out; omega) _).setCell (by show _ ≤ gr; have := HG.out; omega) _).setCell (by show _ ≤ gr; have := HG.out; omega) _).setCell (by show _ ≤ gr; have := HG.out; omega) _).setCell (by show _ ≤ gr; have := HG.out; omega) _).setCell (by show _ ≤ gr; have := HG.out; omega) _⟩

set_option maxRecDepth 100000 in
set_option maxHeartbeats 1600000 in
theorem rekFrame (sn : Sl) (epoch seq : Int) (tag body : Sl) (w : World) :
    Calls Try.prog 155 #[.agg #[.slice sn.a sn.n sn.c, .int .i64 epoch, .int .i64 seq, .slice tag.a tag.n tag.c, .slice body.a body.n body.c]] w fun e w' => e = .returned (.agg #[.int .i64 7, .int .i64 0, .slice none 0 0, .slice sn.a sn.n sn.c, .int .i64 0, .slice none 0 0, .slice none 0 0, .int .i64 epoch, .int .i64 seq, .slice body.a body.n body.c, .slice tag.a tag.n tag.c]) ∧ Below w.heap.size w w' := by
  obtain ⟨x0, hx0⟩ : ∃ x0, (w.alloc (.cells #[.slice sn.a sn.n sn.c, .int .i64 epoch, .int .i64 seq, .slice tag.a tag.n tag.c, .slice body.a body.n body.c] 128)).alloc (.cells #[.int .i64 0, .int .i64 0, .slice none 0 0, .slice none 0 0, .int .i64 0, .slice none 0 0, .slice none 0 0, .int .i64 0, .int .i64 0, .slice none 0 0, .slice none 0 0] 39) = x0 := ⟨_, rfl⟩
  have HW0 : Hid ((w.alloc (.cells #[.slice sn.a sn.n sn.c, .int .i64 epoch, .int .i64 seq, .slice tag.a tag.n tag.c, .slice body.a body.n body.c] 128)).alloc (.cells #[.int .i64 0, .int .i64 0, .slice none 0 0, .slice none 0 0, .int .i64 0, .slice none 0 0, .slice none 0 0, .int .i64 0, .int .i64 0, .slice none 0 0, .slice none 0 0] 39) = x0) := hx0
  have B0 : Hid (Below w.heap.size w x0) := by rw [← hx0]; exact ((Below.refl _ _).alloc (Nat.le_refl _) _).alloc (by simp) _
  have K0 : Hid (Blk x0 (w.heap.size + 1) 39 [.int .i64 0, .int .i64 0, .slice none 0 0, .slice none 0 0, .int .i64 0, .slice none 0 0, .slice none 0 0, .int .i64 0, .int .i64 0, .slice none 0 0, .slice none 0 0]) := by
    have := Blk.new (w.alloc (.cells #[.slice sn.a sn.n sn.c, .int .i64 epoch, .int .i64 seq, .slice tag.a tag.n tag.c, .slice body.a body.n body.c] 128)) 39 [.int .i64 0, .int .i64 0, .slice none 0 0, .slice none 0 0, .int .i64 0, .slice none 0 0, .slice none 0 0, .int .i64 0, .int .i64 0, .slice none 0 0, .slice none 0 0]
    rw [World.size_alloc] at this
    rw [← hx0]; exact this
  clear hx0
  go_enter Try.func155, Try.ntmps155
  go_wp2_with fail
  rw [HW0.out]
  obtain ⟨gr, hgr⟩ : ∃ gr, w.heap.size + 1 = gr := ⟨_, rfl⟩
  have HG : Hid (w.heap.size + 1 = gr) := hgr
  rw [hgr] at K0 ⊢
  clear hgr HW0
  refine (partsFrame sn epoch seq tag body 7 x0).mono ?_
  rintro e x1 ⟨rfl, b1⟩
  have B1 : Hid (Below w.heap.size w x1) := B0.out.trans (b1.mono B0.out.size)
  have K1 : Hid (Blk x1 gr 39 [.int .i64 0, .int .i64 0, .slice none 0 0, .slice none 0 0, .int .i64 0, .slice none 0 0, .slice none 0 0, .int .i64 0, .int .i64 0, .slice none 0 0, .slice none 0 0]) := K0.out.later b1
  clear b1 B0 K0
  have c0 := K1.out.cell 0 rfl
  have f0 := K1.out.frozen 0
  have c1 := K1.out.cell 1 rfl
  have f1 := K1.out.frozen 1
  have c2 := K1.out.cell 2 rfl
  have f2 := K1.out.frozen 2
  have c3 := K1.out.cell 3 rfl
  have f3 := K1.out.frozen 3
  have c4 := K1.out.cell 4 rfl
  have f4 := K1.out.frozen 4
  have c5 := K1.out.cell 5 rfl
  have f5 := K1.out.frozen 5
  have c6 := K1.out.cell 6 rfl
  have f6 := K1.out.frozen 6
  have c7 := K1.out.cell 7 rfl
  have f7 := K1.out.frozen 7
  have c8 := K1.out.cell 8 rfl
  have f8 := K1.out.frozen 8
  have c9 := K1.out.cell 9 rfl
  have f9 := K1.out.frozen 9
  have c10 := K1.out.cell 10 rfl
  have f10 := K1.out.frozen 10
  go_wp2
  have KF : Blk ((((((((((((x1).setCell ⟨gr, 0, none⟩ (.int .i64 7)).setCell ⟨gr, 1, none⟩ (.int .i64 0)).setCell ⟨gr, 2, none⟩ (.slice none 0 0)).setCell ⟨gr, 3, none⟩ (.slice sn.a sn.n sn.c)).setCell ⟨gr, 4, none⟩ (.int .i64 0)).setCell ⟨gr, 5, none⟩ (.slice none 0 0)).setCell ⟨gr, 6, none⟩ (.slice none 0 0)).setCell ⟨gr, 7, none⟩ (.int .i64 epoch)).setCell ⟨gr, 8, none⟩ (.int .i64 seq)).setCell ⟨gr, 9, none⟩ (.slice body.a body.n body.c)).setCell ⟨gr, 10, none⟩ (.slice tag.a tag.n tag.c)) gr 39 [.int .i64 7, .int .i64 0, .slice none 0 0, .slice sn.a sn.n sn.c, .int .i64 0, .slice none 0 0, .slice none 0 0, .int .i64 epoch, .int .i64 seq, .slice body.a body.n body.c, .slice tag.a tag.n tag.c] := (((((((((((K1.out).set 0 _ (by simp [maxLen])).set 1 _ (by simp [maxLen])).set 2 _ (by simp [maxLen])).set 3 _ (by simp [maxLen])).set 4 _ (by simp [maxLen])).set 5 _ (by simp [maxLen])).set 6 _ (by simp [maxLen])).set 7 _ (by simp [maxLen])).set 8 _ (by simp [maxLen])).set 9 _ (by simp [maxLen])).set 10 _ (by simp [maxLen])
  exact bodyPost_ret (v := .agg #[.int .i64 7, .int .i64 0, .slice none 0 0, .slice sn.a sn.n sn.c, .int .i64 0, .slice none 0 0, .slice none 0 0, .int .i64 epoch, .int .i64 seq, .slice body.a body.n body.c, .slice tag.a tag.n tag.c]) (res1 rfl (is_cell rfl KF aggFr)) rfl ⟨rfl, (((((((((((B1.out).setCell (by show _ ≤ gr; have := HG.out; omega) _).setCell (by show _ ≤ gr; have := HG.out; omega) _).setCell (by show _ ≤ gr; have := HG.out; omega) _).setCell (by show _ ≤ gr; have := HG.out; omega) _).setCell (by show _ ≤ gr; have := HG.out; omega) _).setCell (by show _ ≤ gr; have := HG.out; omega) _).setCell (by show _ ≤ gr; have := HG.out; omega) _).setCell (by show _ ≤ gr; have := HG.out; omega) _).setCell (by show _ ≤ gr; have := HG.out; omega) _).setCell (by show _ ≤ gr; have := HG.out; omega) _).setCell (by show _ ≤ gr; have := HG.out; omega) _⟩

set_option maxRecDepth 100000 in
set_option maxHeartbeats 1600000 in
theorem ackFrame (sn : Sl) (epoch seq : Int) (tag body : Sl) (w : World) :
    Calls Try.prog 157 #[.agg #[.slice sn.a sn.n sn.c, .int .i64 epoch, .int .i64 seq, .slice tag.a tag.n tag.c, .slice body.a body.n body.c]] w fun e w' => e = .returned (.agg #[.int .i64 8, .int .i64 0, .slice none 0 0, .slice sn.a sn.n sn.c, .int .i64 0, .slice none 0 0, .slice none 0 0, .int .i64 epoch, .int .i64 seq, .slice body.a body.n body.c, .slice tag.a tag.n tag.c]) ∧ Below w.heap.size w w' := by
  obtain ⟨x0, hx0⟩ : ∃ x0, (w.alloc (.cells #[.slice sn.a sn.n sn.c, .int .i64 epoch, .int .i64 seq, .slice tag.a tag.n tag.c, .slice body.a body.n body.c] 129)).alloc (.cells #[.int .i64 0, .int .i64 0, .slice none 0 0, .slice none 0 0, .int .i64 0, .slice none 0 0, .slice none 0 0, .int .i64 0, .int .i64 0, .slice none 0 0, .slice none 0 0] 39) = x0 := ⟨_, rfl⟩
  have HW0 : Hid ((w.alloc (.cells #[.slice sn.a sn.n sn.c, .int .i64 epoch, .int .i64 seq, .slice tag.a tag.n tag.c, .slice body.a body.n body.c] 129)).alloc (.cells #[.int .i64 0, .int .i64 0, .slice none 0 0, .slice none 0 0, .int .i64 0, .slice none 0 0, .slice none 0 0, .int .i64 0, .int .i64 0, .slice none 0 0, .slice none 0 0] 39) = x0) := hx0
  have B0 : Hid (Below w.heap.size w x0) := by rw [← hx0]; exact ((Below.refl _ _).alloc (Nat.le_refl _) _).alloc (by simp) _
  have K0 : Hid (Blk x0 (w.heap.size + 1) 39 [.int .i64 0, .int .i64 0, .slice none 0 0, .slice none 0 0, .int .i64 0, .slice none 0 0, .slice none 0 0, .int .i64 0, .int .i64 0, .slice none 0 0, .slice none 0 0]) := by
    have := Blk.new (w.alloc (.cells #[.slice sn.a sn.n sn.c, .int .i64 epoch, .int .i64 seq, .slice tag.a tag.n tag.c, .slice body.a body.n body.c] 129)) 39 [.int .i64 0, .int .i64 0, .slice none 0 0, .slice none 0 0, .int .i64 0, .slice none 0 0, .slice none 0 0, .int .i64 0, .int .i64 0, .slice none 0 0, .slice none 0 0]
    rw [World.size_alloc] at this
    rw [← hx0]; exact this
  clear hx0
  go_enter Try.func157, Try.ntmps157
  go_wp2_with fail
  rw [HW0.out]
  obtain ⟨gr, hgr⟩ : ∃ gr, w.heap.size + 1 = gr := ⟨_, rfl⟩
  have HG : Hid (w.heap.size + 1 = gr) := hgr
  rw [hgr] at K0 ⊢
  clear hgr HW0
  refine (partsFrame sn epoch seq tag body 8 x0).mono ?_
  rintro e x1 ⟨rfl, b1⟩
  have B1 : Hid (Below w.heap.size w x1) := B0.out.trans (b1.mono B0.out.size)
  have K1 : Hid (Blk x1 gr 39 [.int .i64 0, .int .i64 0, .slice none 0 0, .slice none 0 0, .int .i64 0, .slice none 0 0, .slice none 0 0, .int .i64 0, .int .i64 0, .slice none 0 0, .slice none 0 0]) := K0.out.later b1
  clear b1 B0 K0
  have c0 := K1.out.cell 0 rfl
  have f0 := K1.out.frozen 0
  have c1 := K1.out.cell 1 rfl
  have f1 := K1.out.frozen 1
  have c2 := K1.out.cell 2 rfl
  have f2 := K1.out.frozen 2
  have c3 := K1.out.cell 3 rfl
  have f3 := K1.out.frozen 3
  have c4 := K1.out.cell 4 rfl
  have f4 := K1.out.frozen 4
  have c5 := K1.out.cell 5 rfl
  have f5 := K1.out.frozen 5
  have c6 := K1.out.cell 6 rfl
  have f6 := K1.out.frozen 6
  have c7 := K1.out.cell 7 rfl
  have f7 := K1.out.frozen 7
  have c8 := K1.out.cell 8 rfl
  have f8 := K1.out.frozen 8
  have c9 := K1.out.cell 9 rfl
  have f9 := K1.out.frozen 9
  have c10 := K1.out.cell 10 rfl
  have f10 := K1.out.frozen 10
  go_wp2
  have KF : Blk ((((((((((((x1).setCell ⟨gr, 0, none⟩ (.int .i64 8)).setCell ⟨gr, 1, none⟩ (.int .i64 0)).setCell ⟨gr, 2, none⟩ (.slice none 0 0)).setCell ⟨gr, 3, none⟩ (.slice sn.a sn.n sn.c)).setCell ⟨gr, 4, none⟩ (.int .i64 0)).setCell ⟨gr, 5, none⟩ (.slice none 0 0)).setCell ⟨gr, 6, none⟩ (.slice none 0 0)).setCell ⟨gr, 7, none⟩ (.int .i64 epoch)).setCell ⟨gr, 8, none⟩ (.int .i64 seq)).setCell ⟨gr, 9, none⟩ (.slice body.a body.n body.c)).setCell ⟨gr, 10, none⟩ (.slice tag.a tag.n tag.c)) gr 39 [.int .i64 8, .int .i64 0, .slice none 0 0, .slice sn.a sn.n sn.c, .int .i64 0, .slice none 0 0, .slice none 0 0, .int .i64 epoch, .int .i64 seq, .slice body.a body.n body.c, .slice tag.a tag.n tag.c] := (((((((((((K1.out).set 0 _ (by simp [maxLen])).set 1 _ (by simp [maxLen])).set 2 _ (by simp [maxLen])).set 3 _ (by simp [maxLen])).set 4 _ (by simp [maxLen])).set 5 _ (by simp [maxLen])).set 6 _ (by simp [maxLen])).set 7 _ (by simp [maxLen])).set 8 _ (by simp [maxLen])).set 9 _ (by simp [maxLen])).set 10 _ (by simp [maxLen])
  exact bodyPost_ret (v := .agg #[.int .i64 8, .int .i64 0, .slice none 0 0, .slice sn.a sn.n sn.c, .int .i64 0, .slice none 0 0, .slice none 0 0, .int .i64 epoch, .int .i64 seq, .slice body.a body.n body.c, .slice tag.a tag.n tag.c]) (res1 rfl (is_cell rfl KF aggFr)) rfl ⟨rfl, (((((((((((B1.out).setCell (by show _ ≤ gr; have := HG.out; omega) _).setCell (by show _ ≤ gr; have := HG.out; omega) _).setCell (by show _ ≤ gr; have := HG.out; omega) _).setCell (by show _ ≤ gr; have := HG.out; omega) _).setCell (by show _ ≤ gr; have := HG.out; omega) _).setCell (by show _ ≤ gr; have := HG.out; omega) _).setCell (by show _ ≤ gr; have := HG.out; omega) _).setCell (by show _ ≤ gr; have := HG.out; omega) _).setCell (by show _ ≤ gr; have := HG.out; omega) _).setCell (by show _ ≤ gr; have := HG.out; omega) _).setCell (by show _ ≤ gr; have := HG.out; omega) _⟩

set_option maxRecDepth 100000 in
set_option maxHeartbeats 1600000 in
theorem cookieOf (kind id : Int) (cn sn : Sl) (tick : Int) (cookie proof : Sl) (epoch seq : Int) (body tag : Sl) (w : World) :
    Calls Try.prog 118 #[.agg #[.int .i64 kind, .int .i64 id, .slice cn.a cn.n cn.c, .slice sn.a sn.n sn.c, .int .i64 tick, .slice cookie.a cookie.n cookie.c, .slice proof.a proof.n proof.c, .int .i64 epoch, .int .i64 seq, .slice body.a body.n body.c, .slice tag.a tag.n tag.c]] w fun e w' => e = .returned (.agg #[.slice cn.a cn.n cn.c, .slice sn.a sn.n sn.c, .int .i64 tick, .slice cookie.a cookie.n cookie.c]) ∧ Below w.heap.size w w' := by
  go_enter Try.func118, Try.ntmps118
  go_wp2
  have K := Blk.new (w.alloc (.cells #[.int .i64 kind, .int .i64 id, .slice cn.a cn.n cn.c, .slice sn.a sn.n sn.c, .int .i64 tick, .slice cookie.a cookie.n cookie.c, .slice proof.a proof.n proof.c, .int .i64 epoch, .int .i64 seq, .slice body.a body.n body.c, .slice tag.a tag.n tag.c] 39)) 133 [.slice cn.a cn.n cn.c, .slice sn.a sn.n sn.c, .int .i64 tick, .slice cookie.a cookie.n cookie.c]
  rw [World.size_alloc] at K
  exact bodyPost_ret (v := .agg #[.slice cn.a cn.n cn.c, .slice sn.a sn.n sn.c, .int .i64 tick, .slice cookie.a cookie.n cookie.c]) (res1 rfl (is_cell rfl K aggCook)) rfl ⟨rfl, ((Below.refl _ _).alloc (Nat.le_refl _) _).alloc (by simp) _⟩

set_option maxRecDepth 100000 in
set_option maxHeartbeats 1600000 in
theorem sealedOf (kind id : Int) (cn sn : Sl) (tick : Int) (cookie proof : Sl) (epoch seq : Int) (body tag : Sl) (w : World) :
    Calls Try.prog 119 #[.agg #[.int .i64 kind, .int .i64 id, .slice cn.a cn.n cn.c, .slice sn.a sn.n sn.c, .int .i64 tick, .slice cookie.a cookie.n cookie.c, .slice proof.a proof.n proof.c, .int .i64 epoch, .int .i64 seq, .slice body.a body.n body.c, .slice tag.a tag.n tag.c]] w fun e w' => e = .returned (.agg #[.slice sn.a sn.n sn.c, .int .i64 epoch, .int .i64 seq, .slice tag.a tag.n tag.c, .slice body.a body.n body.c]) ∧ Below w.heap.size w w' := by
  go_enter Try.func119, Try.ntmps119
  go_wp2
  have K := Blk.new (w.alloc (.cells #[.int .i64 kind, .int .i64 id, .slice cn.a cn.n cn.c, .slice sn.a sn.n sn.c, .int .i64 tick, .slice cookie.a cookie.n cookie.c, .slice proof.a proof.n proof.c, .int .i64 epoch, .int .i64 seq, .slice body.a body.n body.c, .slice tag.a tag.n tag.c] 39)) 123 [.slice sn.a sn.n sn.c, .int .i64 epoch, .int .i64 seq, .slice tag.a tag.n tag.c, .slice body.a body.n body.c]
  rw [World.size_alloc] at K
  exact bodyPost_ret (v := .agg #[.slice sn.a sn.n sn.c, .int .i64 epoch, .int .i64 seq, .slice tag.a tag.n tag.c, .slice body.a body.n body.c]) (res1 rfl (is_cell rfl K aggParts)) rfl ⟨rfl, ((Below.refl _ _).alloc (Nat.le_refl _) _).alloc (by simp) _⟩

set_option maxRecDepth 100000 in
set_option maxHeartbeats 1600000 in
theorem finFrame (id : Int) (cn sn : Sl) (tick : Int) (cookie proof : Sl) (w : World) :
    Calls Try.prog 165 #[.agg #[.int .i64 id, .slice cn.a cn.n cn.c, .slice sn.a sn.n sn.c, .int .i64 tick, .slice cookie.a cookie.n cookie.c, .slice proof.a proof.n proof.c]] w fun e w' => e = .returned (.agg #[.int .i64 3, .int .i64 id, .slice cn.a cn.n cn.c, .slice sn.a sn.n sn.c, .int .i64 tick, .slice cookie.a cookie.n cookie.c, .slice proof.a proof.n proof.c, .int .i64 0, .int .i64 0, .slice none 0 0, .slice none 0 0]) ∧ Below w.heap.size w w' := by
  obtain ⟨x0, hx0⟩ : ∃ x0, (w.alloc (.cells #[.int .i64 id, .slice cn.a cn.n cn.c, .slice sn.a sn.n sn.c, .int .i64 tick, .slice cookie.a cookie.n cookie.c, .slice proof.a proof.n proof.c] 136)).alloc (.cells #[.int .i64 0, .int .i64 0, .slice none 0 0, .slice none 0 0, .int .i64 0, .slice none 0 0, .slice none 0 0, .int .i64 0, .int .i64 0, .slice none 0 0, .slice none 0 0] 39) = x0 := ⟨_, rfl⟩
  have HW0 : Hid ((w.alloc (.cells #[.int .i64 id, .slice cn.a cn.n cn.c, .slice sn.a sn.n sn.c, .int .i64 tick, .slice cookie.a cookie.n cookie.c, .slice proof.a proof.n proof.c] 136)).alloc (.cells #[.int .i64 0, .int .i64 0, .slice none 0 0, .slice none 0 0, .int .i64 0, .slice none 0 0, .slice none 0 0, .int .i64 0, .int .i64 0, .slice none 0 0, .slice none 0 0] 39) = x0) := hx0
  have B0 : Hid (Below w.heap.size w x0) := by rw [← hx0]; exact ((Below.refl _ _).alloc (Nat.le_refl _) _).alloc (by simp) _
  have KA0 : Hid (Blk x0 w.heap.size 136 [.int .i64 id, .slice cn.a cn.n cn.c, .slice sn.a sn.n sn.c, .int .i64 tick, .slice cookie.a cookie.n cookie.c, .slice proof.a proof.n proof.c]) := by rw [← hx0]; exact (Blk.new w _ _).alloc _
  have K0 : Hid (Blk x0 (w.heap.size + 1) 39 [.int .i64 0, .int .i64 0, .slice none 0 0, .slice none 0 0, .int .i64 0, .slice none 0 0, .slice none 0 0, .int .i64 0, .int .i64 0, .slice none 0 0, .slice none 0 0]) := by
    have := Blk.new (w.alloc (.cells #[.int .i64 id, .slice cn.a cn.n cn.c, .slice sn.a sn.n sn.c, .int .i64 tick, .slice cookie.a cookie.n cookie.c, .slice proof.a proof.n proof.c] 136)) 39 [.int .i64 0, .int .i64 0, .slice none 0 0, .slice none 0 0, .int .i64 0, .slice none 0 0, .slice none 0 0, .int .i64 0, .int .i64 0, .slice none 0 0, .slice none 0 0]
    rw [World.size_alloc] at this
    rw [← hx0]; exact this
  clear hx0
  go_enter Try.func165, Try.ntmps165
  go_wp2_with fail
  rw [HW0.out]
  obtain ⟨ga, hga⟩ : ∃ ga, w.heap.size = ga := ⟨_, rfl⟩
  obtain ⟨gr, hgr⟩ : ∃ gr, w.heap.size + 1 = gr := ⟨_, rfl⟩
  have HG : Hid (w.heap.size = ga ∧ w.heap.size + 1 = gr) := ⟨hga, hgr⟩
  rw [hgr] at K0 ⊢
  rw [hga] at KA0
  rw [hga]
  clear hgr hga HW0
  refine (cookFrame cn sn tick cookie x0).mono ?_
  rintro e x1 ⟨rfl, b1⟩
  have B1 : Hid (Below w.heap.size w x1) := B0.out.trans (b1.mono B0.out.size)
  have K1 : Hid (Blk x1 gr 39 [.int .i64 0, .int .i64 0, .slice none 0 0, .slice none 0 0, .int .i64 0, .slice none 0 0, .slice none 0 0, .int .i64 0, .int .i64 0, .slice none 0 0, .slice none 0 0]) := K0.out.later b1
  have KA1 : Hid (Blk x1 ga 136 [.int .i64 id, .slice cn.a cn.n cn.c, .slice sn.a sn.n sn.c, .int .i64 tick, .slice cookie.a cookie.n cookie.c, .slice proof.a proof.n proof.c]) := KA0.out.later b1
  clear b1 B0 K0 KA0
  obtain ⟨x2, hx2⟩ : ∃ x2, x1.alloc (.cells #[.int .i64 2, .int .i64 0, .slice cn.a cn.n cn.c, .slice sn.a sn.n sn.c, .int .i64 tick, .slice cookie.a cookie.n cookie.c, .slice none 0 0, .int .i64 0, .int .i64 0, .slice none 0 0, .slice none 0 0] 39) = x2 := ⟨_, rfl⟩
  have HW2 : Hid (x1.alloc (.cells #[.int .i64 2, .int .i64 0, .slice cn.a cn.n cn.c, .slice sn.a sn.n sn.c, .int .i64 tick, .slice cookie.a cookie.n cookie.c, .slice none 0 0, .int .i64 0, .int .i64 0, .slice none 0 0, .slice none 0 0] 39) = x2) := hx2
  have B2 : Hid (Below w.heap.size w x2) := by rw [← hx2]; exact B1.out.alloc B1.out.size _
  have K2 : Hid (Blk x2 gr 39 [.int .i64 0, .int .i64 0, .slice none 0 0, .slice none 0 0, .int .i64 0, .slice none 0 0, .slice none 0 0, .int .i64 0, .int .i64 0, .slice none 0 0, .slice none 0 0]) := by rw [← hx2]; exact K1.out.alloc _
  have KA2 : Hid (Blk x2 ga 136 [.int .i64 id, .slice cn.a cn.n cn.c, .slice sn.a sn.n sn.c, .int .i64 tick, .slice cookie.a cookie.n cookie.c, .slice proof.a proof.n proof.c]) := by rw [← hx2]; exact KA1.out.alloc _
  have KO2 : Hid (Blk x2 x1.heap.size 39 [.int .i64 2, .int .i64 0, .slice cn.a cn.n cn.c, .slice sn.a sn.n sn.c, .int .i64 tick, .slice cookie.a cookie.n cookie.c, .slice none 0 0, .int .i64 0, .int .i64 0, .slice none 0 0, .slice none 0 0]) := by rw [← hx2]; exact Blk.new _ _ _
  have LG : Hid (gr < x1.heap.size) := K1.out.lt
  clear hx2 B1 K1 KA1
  go_upto_region 2 with fail
  rw [HW2.out]
  obtain ⟨go, hgo⟩ : ∃ go, x1.heap.size = go := ⟨_, rfl⟩
  rw [hgo] at KO2 LG ⊢
  clear HW2 hgo
  have ne1 : ga ≠ go := by have := HG.out; have := LG.out; omega
  have ne2 : go ≠ ga := by have := HG.out; have := LG.out; omega
  have a0 := KA2.out.cell 0 rfl
  have a1 := KA2.out.cell 1 rfl
  have a2 := KA2.out.cell 2 rfl
  have a3 := KA2.out.cell 3 rfl
  have a4 := KA2.out.cell 4 rfl
  have a5 := KA2.out.cell 5 rfl
  have o0 := KO2.out.cell 0 rfl
  have q0 := KO2.out.frozen 0
  have o1 := KO2.out.cell 1 rfl
  have q1 := KO2.out.frozen 1
  have o6 := KO2.out.cell 6 rfl
  have q6 := KO2.out.frozen 6
  go_region
  clear a0 a1 a2 a3 a4 a5 o0 q0 o1 q1 o6 q6
  obtain ⟨x3, hx3⟩ : ∃ x3, (((x2.setCell ⟨go, 0, none⟩ (.int .i64 3)).setCell ⟨go, 1, none⟩ (.int .i64 id)).setCell ⟨go, 6, none⟩ (.slice proof.a proof.n proof.c)).drew = x3 := ⟨_, rfl⟩
  have hgo : w.heap.size ≤ go := by have := HG.out; have := LG.out; omega
  have B3 : Hid (Below w.heap.size w x3) := by rw [← hx3]; exact (((B2.out.setCell hgo _).setCell hgo _).setCell hgo _).drew
  have K3 : Hid (Blk x3 gr 39 [.int .i64 0, .int .i64 0, .slice none 0 0, .slice none 0 0, .int .i64 0, .slice none 0 0, .slice none 0 0, .int .i64 0, .int .i64 0, .slice none 0 0, .slice none 0 0]) := by
    rw [← hx3]; exact ((K2.out.other (by show gr ≠ go; have := LG.out; omega) _).other (by show gr ≠ go; have := LG.out; omega) _).other (by show gr ≠ go; have := LG.out; omega) _
  have KO3 : Hid (Blk x3 go 39 [.int .i64 3, .int .i64 id, .slice cn.a cn.n cn.c, .slice sn.a sn.n sn.c, .int .i64 tick, .slice cookie.a cookie.n cookie.c, .slice proof.a proof.n proof.c, .int .i64 0, .int .i64 0, .slice none 0 0, .slice none 0 0]) := by
    rw [← hx3]; exact ((KO2.out.set 0 _ (by simp [maxLen])).set 1 _ (by simp [maxLen])).set 6 _ (by simp [maxLen])
  rw [hx3]
  clear hx3 B2 K2 KA2 KO2
  have c0 := K3.out.cell 0 rfl
  have f0 := K3.out.frozen 0
  have o0 := KO3.out.cell 0 rfl
  have c1 := K3.out.cell 1 rfl
  have f1 := K3.out.frozen 1
  have o1 := KO3.out.cell 1 rfl
  have c2 := K3.out.cell 2 rfl
  have f2 := K3.out.frozen 2
  have o2 := KO3.out.cell 2 rfl
  have c3 := K3.out.cell 3 rfl
  have f3 := K3.out.frozen 3
  have o3 := KO3.out.cell 3 rfl
  have c4 := K3.out.cell 4 rfl
  have f4 := K3.out.frozen 4
  have o4 := KO3.out.cell 4 rfl
  have c5 := K3.out.cell 5 rfl
  have f5 := K3.out.frozen 5
  have o5 := KO3.out.cell 5 rfl
  have c6 := K3.out.cell 6 rfl
  have f6 := K3.out.frozen 6
  have o6 := KO3.out.cell 6 rfl
  have c7 := K3.out.cell 7 rfl
  have f7 := K3.out.frozen 7
  have o7 := KO3.out.cell 7 rfl
  have c8 := K3.out.cell 8 rfl
  have f8 := K3.out.frozen 8
  have o8 := KO3.out.cell 8 rfl
  have c9 := K3.out.cell 9 rfl
  have f9 := K3.out.frozen 9
  have o9 := KO3.out.cell 9 rfl
  have c10 := K3.out.cell 10 rfl
  have f10 := K3.out.frozen 10
  have o10 := KO3.out.cell 10 rfl
  have ne3 : gr ≠ go := by have := LG.out; omega
  have ne4 : go ≠ gr := by have := LG.out; omega
  go_wp2
  have KF : Blk ((((((((((((x3).setCell ⟨gr, 0, none⟩ (.int .i64 3)).setCell ⟨gr, 1, none⟩ (.int .i64 id)).setCell ⟨gr, 2, none⟩ (.slice cn.a cn.n cn.c)).setCell ⟨gr, 3, none⟩ (.slice sn.a sn.n sn.c)).setCell ⟨gr, 4, none⟩ (.int .i64 tick)).setCell ⟨gr, 5, none⟩ (.slice cookie.a cookie.n cookie.c)).setCell ⟨gr, 6, none⟩ (.slice proof.a proof.n proof.c)).setCell ⟨gr, 7, none⟩ (.int .i64 0)).setCell ⟨gr, 8, none⟩ (.int .i64 0)).setCell ⟨gr, 9, none⟩ (.slice none 0 0)).setCell ⟨gr, 10, none⟩ (.slice none 0 0)) gr 39 [.int .i64 3, .int .i64 id, .slice cn.a cn.n cn.c, .slice sn.a sn.n sn.c, .int .i64 tick, .slice cookie.a cookie.n cookie.c, .slice proof.a proof.n proof.c, .int .i64 0, .int .i64 0, .slice none 0 0, .slice none 0 0] := (((((((((((K3.out).set 0 _ (by simp [maxLen])).set 1 _ (by simp [maxLen])).set 2 _ (by simp [maxLen])).set 3 _ (by simp [maxLen])).set 4 _ (by simp [maxLen])).set 5 _ (by simp [maxLen])).set 6 _ (by simp [maxLen])).set 7 _ (by simp [maxLen])).set 8 _ (by simp [maxLen])).set 9 _ (by simp [maxLen])).set 10 _ (by simp [maxLen])
  exact bodyPost_ret (v := .agg #[.int .i64 3, .int .i64 id, .slice cn.a cn.n cn.c, .slice sn.a sn.n sn.c, .int .i64 tick, .slice cookie.a cookie.n cookie.c, .slice proof.a proof.n proof.c, .int .i64 0, .int .i64 0, .slice none 0 0, .slice none 0 0]) (res1 rfl (is_cell rfl KF aggFr)) rfl ⟨rfl, (((((((((((B3.out).setCell (by show _ ≤ gr; have := HG.out; omega) _).setCell (by show _ ≤ gr; have := HG.out; omega) _).setCell (by show _ ≤ gr; have := HG.out; omega) _).setCell (by show _ ≤ gr; have := HG.out; omega) _).setCell (by show _ ≤ gr; have := HG.out; omega) _).setCell (by show _ ≤ gr; have := HG.out; omega) _).setCell (by show _ ≤ gr; have := HG.out; omega) _).setCell (by show _ ≤ gr; have := HG.out; omega) _).setCell (by show _ ≤ gr; have := HG.out; omega) _).setCell (by show _ ≤ gr; have := HG.out; omega) _).setCell (by show _ ≤ gr; have := HG.out; omega) _⟩

end Go.Proofs.Ytmcflfpckpjphaa.FrW2
