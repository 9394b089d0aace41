/-
  Each.region_each inside a fence (a round of a range over a function among them): each operation is shown once.
  'append' of bytes to a row of the call's own: what it holds then, and where it lies: where it lay, or behind all that was there.
  What the laws' own 'at' and 'bent' hand back: a byte's number; a copy in new memory, of which one byte is turned.
-/
import Derived.Test.YtpenhliaelhnoaaGreatDoorVaGz8
import Derived.OrdersIn
import Derived.TacticsIn
import Derived.OwnWalkIn
import Derived.Test.YtpenhliaelhnoaaGreatDoorVaGz1
import Derived.Maps.AppendAt
import Derived.Test.YtpenhliaelhnoaaGreatDoorVaGz5
import Derived.Deep.CutBlock
import Derived.Deep.RegionWith
set_option linter.unusedVariables false

set_option maxRecDepth 100000
namespace Go.Proofs.YtpenhliaelhnoaaGreatDoor.AppAt
open Go.RowKit Mem App

theorem wpList_app_at (w : World) {ops : Array Oper} {rest : List Oper} {o : Oper} {a : Act} {Q : Exit → Act → World → Prop} (hgd : o.guard = none) (s x : Operand)
  (ho : o.op = .call { callee := .builtin .append, args := #[s, x], argTypes := #[22, 22] })
  (base g n cap : Nat) (l y : List Int) (hs : a.eval s = .slice (some ⟨g, 0, none⟩) n cap) (hn : n = l.length) (hrow : Row w g cap l) (hbg : base ≤ g)
  (ao : Option Addr) (m c : Nat) (hx : a.eval x = .slice ao m c) (hm : m = y.length) (hrd : Rd w ao y) (hnone : ao = none → c = 0) (hsum : l.length + y.length ≤ 100000000)
  (h : ∀ g' cap' w', Row w' g' cap' (l ++ y) → base ≤ g' → (g' = g ∨ w.heap.size ≤ g') → w.grownBy w' (some g) → wpList Tryz.prog ops Q rest (a.put o.dst (.slice (some ⟨g', 0, none⟩) (n + m) cap')) w') :
  wpList Tryz.prog ops Q (o :: rest) a w := by
 obtain ⟨i0, hi, hz0, hz1, hz2⟩ := info_parts info8
 subst hn hm
 have hlt := hrow.lt
 cases ao with
 | none =>
  have hy : y = [] := by
   cases y with
   | nil => rfl
   | cons z r => obtain ⟨_, _, e, _⟩ := hrd 0 (by simp); cases e
  subst hy
  have hc0 := hnone rfl
  subst hc0
  refine wpList_append_own_none hgd s x 22 ho base 5 i0 1 Tryz.underlying22 hi _ _ _ hs (hrow.owns hbg) hx ?_
  simpa using h g cap w (by simpa using hrow) hbg (.inl rfl) (World.grownBy.refl _ _)
 | some ad =>
  refine wpList_append_own_at w hgd s x 22 ho base 5 i0 (.int .u8 0) 1 1 Tryz.underlying22 hi hz0 hz1 hz2 rfl (by decide) _ _ _ hs (hrow.owns hbg) ad y.length c (y.map (Value.int .u8)) hx (by simp) (Rd.cells hrd) (ints_oneCell _ _) (by unfold maxLen; omega) (by omega) (by omega) ?_
  intro v' w' hown hgr hiff hat
  rcases hown.2 with ⟨hv, _⟩ | ⟨g', cap', cur, rfl, hb, hg', _⟩
  ·
   exact absurd (hiff.1 hv).1 (by simp)
  ·
   rw [← List.map_append] at hown
   obtain ⟨r1, r2, _, r4⟩ := Row.of hown
   refine h g' cap' w' r1 r2 ?_ hgr
   rcases hat with e | e
   ·
    simp only [Value.ownBlock, Option.some.injEq] at e; exact .inl e
   ·
    simp only [Value.ownBlock, Option.some.injEq] at e; exact .inr (by omega)
end Go.Proofs.YtpenhliaelhnoaaGreatDoor.AppAt

namespace Go.Proofs.YtpenhliaelhnoaaGreatDoor.Bent
open Go.RowKit Mem App AppAt DiffP

theorem row_set {w : World} {g c : Nat} {l : List Int} (h : Row w g c l) (k : Nat) (z : Int) : Row (w.setCell ⟨g, k, none⟩ (.int .u8 z)) g c (l.set k z) ∧ w.grownBy (w.setCell ⟨g, k, none⟩ (.int .u8 z)) (some g) := by
 have hst := (h.owns (Nat.le_refl g)).stored k (.int .u8 z)
 rw [← List.map_set] at hst
 refine ⟨?_, hst.2⟩
 have e : l.length = (l.set k z).length := by simp
 have := hst.1
 rw [e] at this
 exact (Row.of (l := l.set k z) (n := (l.set k z).length) this).1
theorem xor_ne (z d : Int) (h1 : 0 ≤ z) (h2 : z ≤ 255) (h3 : 1 ≤ d) (h4 : d ≤ 255) : bits .xor .u8 z d ≠ z := by
 rw [u8_xor z d h1 (by omega) (by omega) (by omega)]
 intro h
 have h5 : z.toNat ^^^ d.toNat = z.toNat := by omega
 have h6 := congrArg (fun x => z.toNat ^^^ x) h5
 simp only [← Nat.xor_assoc, Nat.xor_self, Nat.zero_xor] at h6
 omega
theorem set_ne (l : List Int) (p : Nat) (v : Int) (hp : p < l.length) (h : v ≠ l.getD p 0) : l.set p v ≠ l := by
 intro e
 apply h
 have : (l.set p v).getD p 0 = v := by simp [List.getD, hp]
 rw [← this, e]
theorem set_bytes {l : List Int} (h : Bytes l) (p : Nat) (v : Int) (h0 : 0 ≤ v) (h1 : v ≤ 255) : Bytes (l.set p v) := by
 intro z hz
 rcases List.mem_or_eq_of_mem_set hz with h' | rfl
 ·
  exact h z h'
 ·
  exact ⟨h0, h1⟩

theorem atN (a : Option Addr) (len cap : Nat) (l : List Int) (i : Nat) (w : World) (hl : len = l.length) (hr : Rd w a l) (hb : Bytes l) (hlen : len ≤ 1048576) (hi : i ≤ 1000) :
  Calls Tryz.prog 41 #[.slice a len cap, .int .i64 (i : Int)] w fun e w' => ∃ x : Int, e = .returned (.int .i64 x) ∧ 0 ≤ x ∧ x ≤ 255 ∧ w = w' := by
 by_cases h : i < len
 ·
  obtain ⟨b, off, rfl, _, hc⟩ := hr i (by omega)
  have hz := hb.at i
  clear hr hb
  generalize l.getD i 0 = z at *
  have hI : (i : Int) < (len : Int) := by omega
  obtain ⟨z0, z1⟩ := hz
  go_enter Tryz.func41, Tryz.ntmps41
  go_wp2
  go_ret
  exact ⟨z, rfl, z0, z1, rfl⟩
 ·
  have hI : ¬ ((i : Int) < (len : Int)) := by omega
  clear hr hb
  go_enter Tryz.func41, Tryz.ntmps41
  go_wp2
  go_ret
  exact ⟨_, rfl, by omega, by omega, rfl⟩

set_option maxHeartbeats 1600000 in
theorem bent (a : Option Addr) (len cap : Nat) (l : List Int) (ab : Option Addr) (nb cb : Nat) (b : List Int) (w : World) (hl : len = l.length) (hr : Rd w a l) (hb : Bytes l) (hlen : len ≤ 1048576) (eb : nb = b.length) (rb : Rd w ab b) (nab : ab = none → cb = 0) (hbb : Bytes b) (lb : nb ≤ 1048576) :
  Calls Tryz.prog 14 #[.slice a len cap, .slice ab nb cb] w fun e w' =>
   ∃ (g c : Nat) (y : List Int), e = .returned (.slice (some ⟨g, 0, none⟩) nb c) ∧ nb = y.length ∧ Bytes y ∧ (0 < nb → y ≠ b) ∧ w.heap.size ≤ g ∧ Row w' g c y ∧ Below w.heap.size w w' := by
 have HL : Hid (len = l.length) := hl
 have HR := hid (hr)
 have HB := hid (hb)
 have EB : Hid (nb = b.length) := eb
 have RB := hid (rb)
 have HBB := hid (hbb)
 have A0 : Hid (Below w.heap.size w (w.alloc (.cells #[] 5))) := (Below.refl _ _).alloc (Nat.le_refl _) _
 have R0 : Hid (Row (w.alloc (.cells #[] 5)) w.heap.size 0 []) := row_new w [] (by simp)
 clear hl hr hb eb rb hbb
 by_cases h0 : nb = 0
 ·
  subst h0
  go_enter Tryz.func14, Tryz.ntmps14
  go_wp2_with (at_builtin; refine wpList_app _ rfl (.tmp 7) (.tmp 8) rfl w.heap.size w.heap.size 0 0 [] b rfl rfl R0.out (Nat.le_refl _) ab 0 cb rfl EB.out (RB.out.later A0.out (Nat.le_refl _)) nab (by rw [← EB.out]; simp) ?_; intro g1 c1 w1 r1 b1 l1 gr1; have R1 : Hid (Row w1 g1 c1 b) := (List.nil_append b) ▸ r1; have G1 : Hid (w.heap.size ≤ g1) := b1; have B1 : Hid (Below w.heap.size w w1) := A0.out.grown gr1 A0.out.size (fun k h => by cases h; exact Nat.le_refl _); clear r1 b1 l1 gr1)
  go_ret
  exact ⟨g1, c1, b, rfl, EB.out, HBB.out, fun h => by omega, G1.out, R1.out, B1.out⟩
 ·
  have h1I : (nb : Int) > 0 := by omega
  go_enter Tryz.func14, Tryz.ntmps14
  go_wp2_with (at_builtin; refine wpList_app _ rfl (.tmp 7) (.tmp 8) rfl w.heap.size w.heap.size 0 0 [] b rfl rfl R0.out (Nat.le_refl _) ab nb cb rfl EB.out (RB.out.later A0.out (Nat.le_refl _)) nab (by rw [← EB.out]; simp; omega) ?_; intro g1 c1 w1 r1 b1 l1 gr1; have R1 : Hid (Row w1 g1 c1 b) := (List.nil_append b) ▸ r1; have G1 : Hid (w.heap.size ≤ g1) := b1; have B1 : Hid (Below w.heap.size w w1) := A0.out.grown gr1 A0.out.size (fun k h => by cases h; exact Nat.le_refl _); clear r1 b1 l1 gr1)
  refine (atN a len cap l 2 w1 HL.out (HR.out.later B1.out (Nat.le_refl _)) HB.out hlen (by omega)).mono ?_
  rintro e w2 ⟨x2, rfl, p0, p1, rfl⟩
  go_wp2_with fail
  refine (atN a len cap l 3 w1 HL.out (HR.out.later B1.out (Nat.le_refl _)) HB.out hlen (by omega)).mono ?_
  rintro e w2 ⟨x3, rfl, q0, q1, rfl⟩
  go_upto_region 4 with fail
  obtain ⟨p, hp⟩ := Int.eq_ofNat_of_zero_le (Int.emod_nonneg (x2 * 256 + x3) (by omega : (nb : Int) ≠ 0))
  have hp2 := Int.emod_lt_of_pos (x2 * 256 + x3) (by omega : (0 : Int) < (nb : Int))
  rw [hp] at hp2 ⊢
  have i0 : (0 : Int) ≤ (p : Int) := by omega
  have hpn : p < nb := by omega
  clear hp p0 p1 q0 q1
  obtain ⟨z, hz⟩ : ∃ z, b.getD p 0 = z := ⟨_, rfl⟩
  have zb := HBB.out.at p
  rw [hz] at zb
  have HZ : Hid (z = b.getD p 0) := hz.symm
  obtain ⟨z0, z1⟩ := zb
  have hc : w1.drew.cell? ⟨g1, p, none⟩ = some (.int .u8 z) := by
   rw [← hz]; exact R1.out.cell p (by rw [← EB.out]; exact hpn)
  have hf : w1.drew.frozen? ⟨g1, p, none⟩ = false := (R1.out.owns (Nat.le_refl _)).frozenAt p
  clear hz
  go_region_with (go_at_call 41; refine (atN a len cap l 4 w1.drew HL.out (HR.out.later B1.out.drew (Nat.le_refl _)) HB.out hlen (by omega)).mono ?_; rintro e w2 ⟨x4, rfl, t0, t1, rfl⟩)
  all_goals
   obtain ⟨d, hd⟩ : ∃ d, IntKind.u8.wrap (IntKind.i64.wrap (1 + x4.tmod 255)) = d := ⟨_, rfl⟩
   have hdb : 1 ≤ d ∧ d ≤ 255 := by
    rw [← hd, Int.tmod_eq_emod_of_nonneg t0, IntKind.wrap_u8', IntKind.wrap_i64]; omega
   rw [hd]
   obtain ⟨w3, hw3⟩ : ∃ w3, w1.setCell ⟨g1, p, none⟩ (.int .u8 (bits .xor .u8 z d)) = w3 := ⟨_, rfl⟩
   have hs := row_set R1.out p (bits .xor .u8 z d)
   have R3 : Hid (Row w3.drew g1 c1 (b.set p (bits .xor .u8 z d))) := by rw [← hw3]; exact hs.1
   have B3 : Hid (Below w.heap.size w w3.drew) := by rw [← hw3]; exact (B1.out.grown hs.2 B1.out.size (fun k h => by cases h; exact G1.out)).drew
   have hxb := xor_byte z d z0 z1 (by omega) hdb.2
   have Y3 : Hid (Bytes (b.set p (bits .xor .u8 z d))) := set_bytes HBB.out p _ hxb.1 hxb.2
   have N3 : Hid (b.set p (bits .xor .u8 z d) ≠ b) := set_ne b p _ (by rw [← EB.out]; exact hpn) (by rw [← HZ.out]; exact xor_ne z d z0 z1 hdb.1 hdb.2)
   have L3 : Hid (nb = (b.set p (bits .xor .u8 z d)).length) := by show _ = _; rw [List.length_set]; exact EB.out
   rw [hw3]
   clear hw3 hs hxb hdb hd hc hf
   go_wp2
   go_ret
   exact ⟨g1, c1, _, rfl, L3.out, Y3.out, fun _ => N3.out, G1.out, R3.out, B3.out⟩
end Go.Proofs.YtpenhliaelhnoaaGreatDoor.Bent
