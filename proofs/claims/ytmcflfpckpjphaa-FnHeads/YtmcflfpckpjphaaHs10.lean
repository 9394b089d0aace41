/-
  Heads as plain functions: when two are the same.
  What the laws' own tests of bytes answer of any two slices.
  What impl's Sealed answers.
  What impl lays as a head, and as what a tag is of.
-/
import Derived.Test.YtmcflfpckpjphaaHs6
import Derived.Test.YtmcflfpckpjphaaFrE
import Derived.Test.YtmcflfpckpjphaaHs5
import Derived.Test.YtmcflfpckpjphaaFrW3
import Derived.Test.YtmcflfpckpjphaaFrQ2
set_option linter.unusedVariables false
namespace Go.Proofs.Ytmcflfpckpjphaa.HdP
open Go.RowKit Go.Proofs.Ytmcflfpckpjphaa.Mem Go.Proofs.Ytmcflfpckpjphaa.App Go.Proofs.Ytmcflfpckpjphaa.Words Go.Proofs.Ytmcflfpckpjphaa.FrZ Go.Proofs.Ytmcflfpckpjphaa.FrP Go.Proofs.Ytmcflfpckpjphaa.FrG Go.Proofs.Ytmcflfpckpjphaa.Get Go.Proofs.Ytmcflfpckpjphaa.SlP

set_option maxRecDepth 100000 in
theorem head_turn {role : Int} {sn : List Int} {e s : Int} (h : headOk role sn.length e s = true) : headL role sn e s ≠ headL (1 - role) sn e s := by
  intro he
  obtain ⟨a1, a2, a3, a4⟩ := (headOk_iff _ _ _ _).1 h
  have h' : headOk (1 - role) sn.length e s = true := (headOk_iff _ _ _ _).2 ⟨by omega, a2, a3, a4⟩
  have := (headL_inj h h' he).1
  omega
set_option maxRecDepth 100000 in
theorem head_other {role : Int} {sn : List Int} {e s e' s' : Int} (h : headOk role sn.length e s = true) (h1 : 0 ≤ e' ∧ e' ≤ 255) (h2 : 0 ≤ s' ∧ s' ≤ 255) : decide (headL role sn e s = headL role sn e' s') = ((e' == e) && (s' == s)) := by
  obtain ⟨a1, a2, a3, a4⟩ := (headOk_iff _ _ _ _).1 h
  have h' : headOk role sn.length e' s' = true := (headOk_iff _ _ _ _).2 ⟨a1, a2, by omega, by omega⟩
  by_cases c : e' = e ∧ s' = s
  · obtain ⟨rfl, rfl⟩ := c; simp
  · rw [decide_eq_false (fun q => c ⟨(headL_inj h h' q).2.2.1.symm, (headL_inj h h' q).2.2.2.symm⟩)]
    by_cases c1 : e' = e
    · have : (s' == s) = false := by simp; exact fun q => c ⟨c1, q⟩
      rw [this]; simp
    · have : (e' == e) = false := by simpa using c1
      rw [this]; rfl
set_option maxRecDepth 100000 in
theorem tag_starts {role : Int} {D : FrD} (h : canTag role D = true) : ((tagIn role D).drop 1).take (headL role D.sn D.epoch D.seq).length = headL role D.sn D.epoch D.seq := by
  rw [tagIn_yes role D h]; simp
set_option maxRecDepth 100000 in
theorem headNot {role : Int} {n : Int} {e s : Int} (h : headOk role n e s = false) : role < 0 ∨ 1 < role ∨ n ≠ 12 ∨ e < 0 ∨ 4294967295 < e ∨ s < 0 ∨ 281474976710656 ≤ s := by
  by_cases c : role < 0 ∨ 1 < role ∨ n ≠ 12 ∨ e < 0 ∨ 4294967295 < e ∨ s < 0 ∨ 281474976710656 ≤ s
  · exact c
  · rw [(headOk_iff _ _ _ _).2 ⟨by omega, by omega, by omega, by omega⟩] at h; cases h
end Go.Proofs.Ytmcflfpckpjphaa.HdP

namespace Go.Proofs.Ytmcflfpckpjphaa.SameV
open Go.RowKit Go.Proofs.Ytmcflfpckpjphaa.Mem Go.Proofs.Ytmcflfpckpjphaa.Blk Go.Proofs.Ytmcflfpckpjphaa.Zone Go.Proofs.Ytmcflfpckpjphaa.FrE Go.Proofs.Ytmcflfpckpjphaa.Same

set_option maxRecDepth 100000 in
theorem same_raw (s t : Sl) (x y : List Int) (w : World) (h : SRd w s x) (k : SRd w t y) :
    Calls Try.prog 23 #[.slice s.a s.n s.c, .slice t.a t.n t.c] w fun e w' => e = .returned (.bool (decide (x = y))) ∧ w = w' := by
  have cv1 := convS h
  have cv2 := convS k
  have HD : Hid (decide (x = y) = ((strOfNums x).toList == (strOfNums y).toList)) := by
    show _ = _
    rw [Lib.strOfNums_toList, Lib.strOfNums_toList]
    by_cases e : x = y
    · subst e; simp
    · have : ¬ Lib.bytesOf x = Lib.bytesOf y := fun q => e (nums_inj h.bytes k.bytes (by unfold strOfNums; rw [show (x.map fun n => UInt8.ofNat n.toNat) = (y.map fun n => UInt8.ofNat n.toNat) from q]))
      simp [e, this]
  clear h k
  generalize strOfNums x = sx at *
  generalize strOfNums y = sy at *
  go_enter Try.func23, Try.ntmps23
  go_wp2
  go_ret
  exact ⟨by rw [HD.out]; rfl, rfl⟩
set_option maxRecDepth 100000 in
/-- Whether two slices are the same, v. -/
theorem sameV (s t : Sl) (x y : List Int) (v : Bool) (w : World) (h : SRd w s x) (k : SRd w t y) (hv : decide (x = y) = v) :
    Calls Try.prog 23 #[.slice s.a s.n s.c, .slice t.a t.n t.c] w fun e w' => e = .returned (.bool v) ∧ w = w' := by
  subst hv; exact same_raw s t x y w h k
set_option maxRecDepth 100000 in
theorem yes {x y : List Int} (h : x = y) : decide (x = y) = true := decide_eq_true h
set_option maxRecDepth 100000 in
theorem no {x y : List Int} (h : x ≠ y) : decide (x = y) = false := decide_eq_false h

set_option maxRecDepth 100000 in
theorem cut_from {w : World} {g o m c k : Nat} {l : List Int} (h : SRd w ⟨some ⟨g, o, none⟩, m, c⟩ l) (hk : k ≤ m) : SRd w ⟨some ⟨g, o + k, none⟩, m - k, c - k⟩ (l.drop k) := by
  have hm : m = l.length := h.len
  have hc : m ≤ c := h.cap
  refine ⟨?_, ?_, (fun e => by cases e), by show m - k ≤ c - k; omega, fun z hz => h.bytes z (List.mem_of_mem_drop hz)⟩
  · show m - k = (l.drop k).length
    rw [List.length_drop]; omega
  · intro i hi
    rw [List.length_drop] at hi
    obtain ⟨b, off, e, h1, h2⟩ := h.rd (k + i) (by omega)
    simp only [Option.some.injEq, Addr.mk.injEq, and_true] at e
    obtain ⟨rfl, rfl⟩ := e
    refine ⟨g, o + k, rfl, h1, ?_⟩
    rw [show o + k + i = o + (k + i) by omega, h2]
    simp [List.getD]
set_option maxRecDepth 100000 in
set_option maxHeartbeats 800000 in
set_option maxRecDepth 100000 in
/-- A slice begins with what it begins with. -/
theorem startsV (g o n c : Nat) (t : Sl) (z x : List Int) (w : World) (h : SRd w ⟨some ⟨g, o, none⟩, n, c⟩ z) (k : SRd w t x) (hz : z.take t.n = x) (hle : t.n ≤ n) :
    Calls Try.prog 26 #[.slice (some ⟨g, o, none⟩) n c, .slice t.a t.n t.c] w fun e w' => e = .returned (.bool true) ∧ ∃ m, w' = w.drewN m := by
  obtain ⟨ta, n2, c2⟩ := t
  have hn : n = z.length := h.len
  have hn2 : n2 = x.length := k.len
  have hc : n ≤ c := h.cap
  have hle : n2 ≤ n := hle
  have hz : z.take n2 = x := hz
  have hx : SRd w ⟨some ⟨g, o, none⟩, n2, c⟩ x := by
    refine ⟨hn2, ?_, (fun e => by cases e), by show n2 ≤ c; omega, k.bytes⟩
    intro i hi
    obtain ⟨b, off, e, h1, hh⟩ := h.rd i (by omega)
    refine ⟨b, off, e, h1, ?_⟩
    rw [hh, ← hz]
    have : i < n2 := by omega
    simp [List.getD, this]
  have cv1 : ∀ m, (convert 22 9 (.slice (some ⟨g, o, none⟩) n2 c)).run Try.prog (w.drewN m) = .ok (.string (strOfNums x)) (w.drewN m) := fun m => convAt hn2 (fun i hi => hx.rd i hi)
  have cv2 : ∀ m, (convert 22 9 (.slice ta n2 c2)).run Try.prog (w.drewN m) = .ok (.string (strOfNums x)) (w.drewN m) := fun m => convS (s := ⟨ta, n2, c2⟩) ⟨k.len, fun i hi => k.rd i hi, k.nil, k.cap, k.bytes⟩
  have h12I : (n2 : Int) ≤ (n : Int) := by omega
  clear hx h k hn hn2 hz
  generalize strOfNums x = s at *
  go_enter Try.func26, Try.ntmps26
  go_wp2
  go_quiet (fail)
  go_wp2
  go_ret
  exact ⟨by simp, _, rfl⟩
end Go.Proofs.Ytmcflfpckpjphaa.SameV

namespace Go.Proofs.Ytmcflfpckpjphaa.FrSe
open Go.RowKit Go.Proofs.Ytmcflfpckpjphaa.Mem Go.Proofs.Ytmcflfpckpjphaa.Words Go.Proofs.Ytmcflfpckpjphaa.Zone Go.Proofs.Ytmcflfpckpjphaa.FrT Go.Proofs.Ytmcflfpckpjphaa.FrW3

set_option maxRecDepth 100000 in
set_option maxHeartbeats 1600000 in
theorem implSealed (k : Int) (w : World) :
    Calls Try.prog 97 #[.int .i64 k] w fun e w' => e = .returned (.bool (isIn k 4 8)) ∧ Below w.heap.size w w' := by
  by_cases k1 : k = 1
  · subst k1
    go_enter Try.func97, Try.ntmps97
    go_wp2_with fail
    refine (wordOf1 0 ⟨none, 0, 0⟩ ⟨none, 0, 0⟩ 0 ⟨none, 0, 0⟩ ⟨none, 0, 0⟩ 0 0 ⟨none, 0, 0⟩ ⟨none, 0, 0⟩ w).mono ?_
    rintro e x1 ⟨rfl, b1⟩
    have B1 : Hid (Below w.heap.size w x1) := b1
    clear b1
    go_wp2_with fail
    refine (isSealed1 0 ⟨none, 0, 0⟩ x1).mono ?_
    rintro e y ⟨rfl, rfl⟩
    go_wp2
    go_ret
    exact ⟨rfl, B1.out⟩
  by_cases k2 : k = 2
  · subst k2
    go_enter Try.func97, Try.ntmps97
    go_wp2_with fail
    refine (wordOf2 0 ⟨none, 0, 0⟩ ⟨none, 0, 0⟩ 0 ⟨none, 0, 0⟩ ⟨none, 0, 0⟩ 0 0 ⟨none, 0, 0⟩ ⟨none, 0, 0⟩ w).mono ?_
    rintro e x1 ⟨rfl, b1⟩
    have B1 : Hid (Below w.heap.size w x1) := b1
    clear b1
    go_wp2_with fail
    refine (isSealed2 ⟨none, 0, 0⟩ ⟨none, 0, 0⟩ 0 ⟨none, 0, 0⟩ x1).mono ?_
    rintro e y ⟨rfl, rfl⟩
    go_wp2
    go_ret
    exact ⟨rfl, B1.out⟩
  by_cases k3 : k = 3
  · subst k3
    go_enter Try.func97, Try.ntmps97
    go_wp2_with fail
    refine (wordOf3 0 ⟨none, 0, 0⟩ ⟨none, 0, 0⟩ 0 ⟨none, 0, 0⟩ ⟨none, 0, 0⟩ 0 0 ⟨none, 0, 0⟩ ⟨none, 0, 0⟩ w).mono ?_
    rintro e x1 ⟨rfl, b1⟩
    have B1 : Hid (Below w.heap.size w x1) := b1
    clear b1
    go_wp2_with fail
    refine (isSealed3 0 ⟨none, 0, 0⟩ ⟨none, 0, 0⟩ 0 ⟨none, 0, 0⟩ ⟨none, 0, 0⟩ x1).mono ?_
    rintro e y ⟨rfl, rfl⟩
    go_wp2
    go_ret
    exact ⟨rfl, B1.out⟩
  by_cases k4 : k = 4
  · subst k4
    go_enter Try.func97, Try.ntmps97
    go_wp2_with fail
    refine (wordOf4 0 ⟨none, 0, 0⟩ ⟨none, 0, 0⟩ 0 ⟨none, 0, 0⟩ ⟨none, 0, 0⟩ 0 0 ⟨none, 0, 0⟩ ⟨none, 0, 0⟩ w).mono ?_
    rintro e x1 ⟨rfl, b1⟩
    have B1 : Hid (Below w.heap.size w x1) := b1
    clear b1
    go_wp2_with fail
    refine (isSealed4 ⟨none, 0, 0⟩ 0 0 ⟨none, 0, 0⟩ ⟨none, 0, 0⟩ x1).mono ?_
    rintro e y ⟨rfl, rfl⟩
    go_wp2
    go_ret
    exact ⟨rfl, B1.out⟩
  by_cases k5 : k = 5
  · subst k5
    go_enter Try.func97, Try.ntmps97
    go_wp2_with fail
    refine (wordOf5 0 ⟨none, 0, 0⟩ ⟨none, 0, 0⟩ 0 ⟨none, 0, 0⟩ ⟨none, 0, 0⟩ 0 0 ⟨none, 0, 0⟩ ⟨none, 0, 0⟩ w).mono ?_
    rintro e x1 ⟨rfl, b1⟩
    have B1 : Hid (Below w.heap.size w x1) := b1
    clear b1
    go_wp2_with fail
    refine (isSealed5 ⟨none, 0, 0⟩ 0 0 ⟨none, 0, 0⟩ ⟨none, 0, 0⟩ x1).mono ?_
    rintro e y ⟨rfl, rfl⟩
    go_wp2
    go_ret
    exact ⟨rfl, B1.out⟩
  by_cases k6 : k = 6
  · subst k6
    go_enter Try.func97, Try.ntmps97
    go_wp2_with fail
    refine (wordOf6 0 ⟨none, 0, 0⟩ ⟨none, 0, 0⟩ 0 ⟨none, 0, 0⟩ ⟨none, 0, 0⟩ 0 0 ⟨none, 0, 0⟩ ⟨none, 0, 0⟩ w).mono ?_
    rintro e x1 ⟨rfl, b1⟩
    have B1 : Hid (Below w.heap.size w x1) := b1
    clear b1
    go_wp2_with fail
    refine (isSealed6 ⟨none, 0, 0⟩ 0 0 ⟨none, 0, 0⟩ ⟨none, 0, 0⟩ x1).mono ?_
    rintro e y ⟨rfl, rfl⟩
    go_wp2
    go_ret
    exact ⟨rfl, B1.out⟩
  by_cases k7 : k = 7
  · subst k7
    go_enter Try.func97, Try.ntmps97
    go_wp2_with fail
    refine (wordOf7 0 ⟨none, 0, 0⟩ ⟨none, 0, 0⟩ 0 ⟨none, 0, 0⟩ ⟨none, 0, 0⟩ 0 0 ⟨none, 0, 0⟩ ⟨none, 0, 0⟩ w).mono ?_
    rintro e x1 ⟨rfl, b1⟩
    have B1 : Hid (Below w.heap.size w x1) := b1
    clear b1
    go_wp2_with fail
    refine (isSealed7 ⟨none, 0, 0⟩ 0 0 ⟨none, 0, 0⟩ ⟨none, 0, 0⟩ x1).mono ?_
    rintro e y ⟨rfl, rfl⟩
    go_wp2
    go_ret
    exact ⟨rfl, B1.out⟩
  by_cases k8 : k = 8
  · subst k8
    go_enter Try.func97, Try.ntmps97
    go_wp2_with fail
    refine (wordOf8 0 ⟨none, 0, 0⟩ ⟨none, 0, 0⟩ 0 ⟨none, 0, 0⟩ ⟨none, 0, 0⟩ 0 0 ⟨none, 0, 0⟩ ⟨none, 0, 0⟩ w).mono ?_
    rintro e x1 ⟨rfl, b1⟩
    have B1 : Hid (Below w.heap.size w x1) := b1
    clear b1
    go_wp2_with fail
    refine (isSealed8 ⟨none, 0, 0⟩ 0 0 ⟨none, 0, 0⟩ ⟨none, 0, 0⟩ x1).mono ?_
    rintro e y ⟨rfl, rfl⟩
    go_wp2
    go_ret
    exact ⟨rfl, B1.out⟩
  have hf : Hid (isIn k 4 8 = false) := isIn_no (by omega)
  have e1 : (k == 1) = false := by simpa using k1
  have e2 : (k == 2) = false := by simpa using k2
  have e3 : (k == 3) = false := by simpa using k3
  have e4 : (k == 4) = false := by simpa using k4
  have e5 : (k == 5) = false := by simpa using k5
  have e6 : (k == 6) = false := by simpa using k6
  have e7 : (k == 7) = false := by simpa using k7
  have e8 : (k == 8) = false := by simpa using k8
  clear k1 k2 k3 k4 k5 k6 k7 k8
  go_enter Try.func97, Try.ntmps97
  go_wp2_with fail
  refine (wordOf0 k 0 ⟨none, 0, 0⟩ ⟨none, 0, 0⟩ 0 ⟨none, 0, 0⟩ ⟨none, 0, 0⟩ 0 0 ⟨none, 0, 0⟩ ⟨none, 0, 0⟩ e1 e2 e3 e4 e5 e6 e7 e8 w).mono ?_
  rintro e x1 ⟨rfl, b1⟩
  have B1 : Hid (Below w.heap.size w x1) := b1
  clear b1
  go_wp2_with fail
  refine (isSealed0 x1).mono ?_
  rintro e y ⟨rfl, rfl⟩
  go_wp2
  go_ret
  exact ⟨by rw [hf.out]; rfl, B1.out⟩
end Go.Proofs.Ytmcflfpckpjphaa.FrSe


namespace Go.Proofs.Ytmcflfpckpjphaa.SlI
open Go.RowKit Go.Proofs.Ytmcflfpckpjphaa.Mem Go.Proofs.Ytmcflfpckpjphaa.App Go.Proofs.Ytmcflfpckpjphaa.Blk Go.Proofs.Ytmcflfpckpjphaa.Words Go.Proofs.Ytmcflfpckpjphaa.Zone Go.Proofs.Ytmcflfpckpjphaa.Res Go.Proofs.Ytmcflfpckpjphaa.FrZ Go.Proofs.Ytmcflfpckpjphaa.FrP Go.Proofs.Ytmcflfpckpjphaa.FrG Go.Proofs.Ytmcflfpckpjphaa.FrQ Go.Proofs.Ytmcflfpckpjphaa.SlP Go.Proofs.Ytmcflfpckpjphaa.FrW Go.Proofs.Ytmcflfpckpjphaa.FrQ2 Go.Proofs.Ytmcflfpckpjphaa.FrQ3 Go.Proofs.Ytmcflfpckpjphaa.FrO2 Go.Proofs.Ytmcflfpckpjphaa.FrSe

set_option maxRecDepth 100000 in
theorem isRole (x : Int) (w : World) :
    Calls Try.prog 61 #[.int .i64 x] w fun e w' => e = .returned (.bool (isIn x 0 1)) ∧ w = w' := by
  by_cases h1 : x = 0
  · subst h1
    go_enter Try.func61, Try.ntmps61
    go_wp2
    go_ret
    exact ⟨rfl, rfl⟩
  · by_cases h2 : x = 1
    · subst h2
      go_enter Try.func61, Try.ntmps61
      go_wp2
      go_ret
      exact ⟨rfl, rfl⟩
    · have H : Hid (isIn x 0 1 = false) := isIn_no (fun h => by omega)
      have k1 : (x == 0) = false := by simpa using h1
      have k2 : (x == 1) = false := by simpa using h2
      clear h1 h2
      go_enter Try.func61, Try.ntmps61
      go_wp2
      go_ret
      exact ⟨by rw [H.out]; rfl, rfl⟩
set_option maxRecDepth 100000 in
theorem isKey (a : Option Addr) (n c : Nat) (w : World) :
    Calls Try.prog 77 #[.slice a n c] w fun e w' => e = .returned (.bool ((n : Int) == 32)) ∧ w = w' := by
  go_enter Try.func77, Try.ntmps77
  go_wp2
  go_ret
  exact ⟨by simp, rfl⟩
set_option maxRecDepth 100000 in
theorem new_nil {w x : World} (b : Below w.heap.size w x) : New w [] (.returned (.slice (some ⟨x.heap.size, 0, none⟩) 0 0)) (x.alloc (.cells #[] 5)) :=
  ⟨x.heap.size, 0, 0, rfl, rfl, b.size, ⟨Nat.le_refl _, by unfold maxLen; omega, #[], heap_alloc_new x _, rfl, rfl⟩, b.alloc b.size _⟩
set_option maxRecDepth 100000 in
theorem new_to {w : World} {l l' : List Int} {e : Ending} {w' : World} (h : New w l e w') (hl : l = l') : New w l' e w' := hl ▸ h
set_option maxRecDepth 100000 in
theorem lay_head {role : Int} {l : List Int} {epoch seq : Int} (h : headOk role l.length epoch seq = true) : [] ++ putN role 1 ++ l ++ putN epoch 4 ++ putN seq 6 = headL role l epoch seq := by
  rw [headL_yes _ _ _ _ h]
  have h1 := ((headOk_iff _ _ _ _).1 h).1
  rw [putN_one role h1.1 (by omega)]
  rfl

set_option maxRecDepth 100000 in
set_option maxHeartbeats 8000000 in
theorem implHeadOf (role : Int) (s : Sl) (l : List Int) (epoch seq : Int) (w : World) (h : SRd w s l) :
    Calls Try.prog 20 #[.int .i64 role, .slice s.a s.n s.c, .int .i64 epoch, .int .i64 seq] w (New w (headL role l epoch seq)) := by
  have HR : Hid (SRd w s l) := h
  obtain ⟨H, hH⟩ : ∃ H, headL role l epoch seq = H := ⟨_, rfl⟩
  have HH : Hid (headL role l epoch seq = H) := hH
  have HN : Hid (s.n = l.length) := h.len
  rw [hH]
  clear h hH
  go_enter Try.func20, Try.ntmps20
  go_wp2_with fail
  refine (isRole role w).mono ?_
  rintro e y ⟨rfl, rfl⟩
  cases h0 : (isIn role 0 1) with
  | false =>
    have HF : Hid (headL role l epoch seq = []) := headL_no _ _ _ _ (by unfold headOk; rw [← HN.out]; simp [h0])
    obtain rfl : H = [] := by rw [← HH.out, HF.out]
    go_wp2
    go_ret
    exact new_nil (Below.refl _ _)
  | true =>
    go_wp2_with fail
    refine (isNonce s.a s.n s.c w).mono ?_
    rintro e y ⟨rfl, rfl⟩
    cases h1 : (((s.n : Int) == 12)) with
    | false =>
      have HF : Hid (headL role l epoch seq = []) := headL_no _ _ _ _ (by unfold headOk; rw [← HN.out]; simp [h0, h1])
      obtain rfl : H = [] := by rw [← HH.out, HF.out]
      go_wp2
      go_ret
      exact new_nil (Below.refl _ _)
    | true =>
      go_wp2_with fail
      refine (isEpoch epoch w).mono ?_
      rintro e y ⟨rfl, rfl⟩
      cases h2 : (isIn epoch 0 4294967295) with
      | false =>
        have HF : Hid (headL role l epoch seq = []) := headL_no _ _ _ _ (by unfold headOk; rw [← HN.out]; simp [h0, h1, h2])
        obtain rfl : H = [] := by rw [← HH.out, HF.out]
        go_wp2
        go_ret
        exact new_nil (Below.refl _ _)
      | true =>
        go_wp2_with fail
        refine (isSeq seq w).mono ?_
        rintro e y ⟨rfl, rfl⟩
        cases h3 : (isIn seq 0 281474976710655) with
        | false =>
          have HF : Hid (headL role l epoch seq = []) := headL_no _ _ _ _ (by unfold headOk; rw [← HN.out]; simp [h0, h1, h2, h3])
          obtain rfl : H = [] := by rw [← HH.out, HF.out]
          go_wp2
          go_ret
          exact new_nil (Below.refl _ _)
        | true =>
          have HY : Hid (headOk role l.length epoch seq = true) := by show headOk _ _ _ _ = true; unfold headOk; rw [← HN.out]; simp [h0, h1, h2, h3]
          have HL : Hid (l.length = 12) := by have := ((headOk_iff _ _ _ _).1 HY.out).2.1; show _ = _; omega
          clear h0 h1 h2 h3
          go_wp2_with fail
          refine (putK ⟨none, 0, 0⟩ [] role 1 w (nilRd w) (by simp)).mono ?_
          rintro e x1 ⟨g1, m1, c1, rfl, em1, k1, r1, b1⟩
          have R1 : Hid (Row x1 g1 c1 ([] ++ putN role 1)) := r1
          have EM1 : Hid (m1 = ([] ++ putN role 1).length) := em1
          have B1 : Hid (Below w.heap.size w x1) := b1
          have LN1 : Hid (([] ++ putN role 1).length ≤ 10) := by show _ ≤ _; have := putN_length role 1; simp only [List.nil_append]; omega
          have Y1 : Hid (Bytes ([] ++ putN role 1)) := putN_bytes role 1
          clear em1 k1 r1 b1
          go_wp2_with fail
          refine (putB ⟨some ⟨g1, 0, none⟩, m1, c1⟩ s ([] ++ putN role 1) l x1 (rowRd R1.out EM1.out Y1.out) (HR.out.later B1.out) (by have := LN1.out; omega) (by have := HL.out; omega)).mono ?_
          rintro e x2 ⟨g2, m2, c2, rfl, em2, k2, r2, b2⟩
          have R2 : Hid (Row x2 g2 c2 ([] ++ putN role 1 ++ l)) := r2
          have EM2 : Hid (m2 = ([] ++ putN role 1 ++ l).length) := em2
          have B2 : Hid (Below w.heap.size w x2) := B1.out.trans (b2.mono B1.out.size)
          have LN2 : Hid (([] ++ putN role 1 ++ l).length ≤ 30) := by show _ ≤ _; have := LN1.out; have := HL.out; rw [List.length_append]; omega
          have Y2 : Hid (Bytes ([] ++ putN role 1 ++ l)) := bytes_app Y1.out HR.out.bytes
          clear em2 k2 r2 b2
          go_wp2_with fail
          refine (putK ⟨some ⟨g2, 0, none⟩, m2, c2⟩ ([] ++ putN role 1 ++ l) epoch 4 x2 (rowRd R2.out EM2.out Y2.out) (by have := LN2.out; omega)).mono ?_
          rintro e x3 ⟨g3, m3, c3, rfl, em3, k3, r3, b3⟩
          have R3 : Hid (Row x3 g3 c3 ([] ++ putN role 1 ++ l ++ putN epoch 4)) := r3
          have EM3 : Hid (m3 = ([] ++ putN role 1 ++ l ++ putN epoch 4).length) := em3
          have B3 : Hid (Below w.heap.size w x3) := B2.out.trans (b3.mono B2.out.size)
          have LN3 : Hid (([] ++ putN role 1 ++ l ++ putN epoch 4).length ≤ 40) := by show _ ≤ _; have := LN2.out; have := putN_length epoch 4; rw [List.length_append]; omega
          have Y3 : Hid (Bytes ([] ++ putN role 1 ++ l ++ putN epoch 4)) := bytes_app Y2.out (putN_bytes _ _)
          clear em3 k3 r3 b3
          go_wp2_with fail
          refine (putK ⟨some ⟨g3, 0, none⟩, m3, c3⟩ ([] ++ putN role 1 ++ l ++ putN epoch 4) seq 6 x3 (rowRd R3.out EM3.out Y3.out) (by have := LN3.out; omega)).mono ?_
          rintro e x4 ⟨g4, m4, c4, rfl, em4, k4, r4, b4⟩
          have R4 : Hid (Row x4 g4 c4 H) := by rw [← HH.out, ← lay_head HY.out]; exact r4
          have EM4 : Hid (m4 = H.length) := by rw [← HH.out, ← lay_head HY.out]; exact em4
          have B4 : Hid (Below w.heap.size w x4) := B3.out.trans (b4.mono B3.out.size)
          have GE4 : Hid (w.heap.size ≤ g4) := Nat.le_trans B3.out.size k4
          clear em4 k4 r4 b4
          go_wp2
          go_ret
          exact ⟨g4, m4, c4, by simp, EM4.out, GE4.out, R4.out, B4.out⟩

set_option maxRecDepth 100000 in
set_option maxHeartbeats 8000000 in
theorem frameHead (role : Int) (S : FrS) (D : FrD) (w : World) (h : FrRd w S D) :
    Calls Try.prog 72 #[.int .i64 role, frV D S] w (New w (headL role D.sn D.epoch D.seq)) := by
  have HR : Hid (FrRd w S D) := h
  obtain ⟨x0, hx0⟩ : ∃ x0, w.alloc (.cells #[.int .i64 D.kind, .int .i64 D.id, .slice S.cn.a S.cn.n S.cn.c, .slice S.sn.a S.sn.n S.sn.c, .int .i64 D.tick, .slice S.cookie.a S.cookie.n S.cookie.c, .slice S.proof.a S.proof.n S.proof.c, .int .i64 D.epoch, .int .i64 D.seq, .slice S.body.a S.body.n S.body.c, .slice S.tag.a S.tag.n S.tag.c] 39) = x0 := ⟨_, rfl⟩
  have HW0 : Hid (w.alloc (.cells #[.int .i64 D.kind, .int .i64 D.id, .slice S.cn.a S.cn.n S.cn.c, .slice S.sn.a S.sn.n S.sn.c, .int .i64 D.tick, .slice S.cookie.a S.cookie.n S.cookie.c, .slice S.proof.a S.proof.n S.proof.c, .int .i64 D.epoch, .int .i64 D.seq, .slice S.body.a S.body.n S.body.c, .slice S.tag.a S.tag.n S.tag.c] 39) = x0) := hx0
  have B0 : Hid (Below w.heap.size w x0) := by rw [← hx0]; exact (Below.refl _ _).alloc (Nat.le_refl _) _
  have K0 : Hid (Blk x0 w.heap.size 39 [.int .i64 D.kind, .int .i64 D.id, .slice S.cn.a S.cn.n S.cn.c, .slice S.sn.a S.sn.n S.sn.c, .int .i64 D.tick, .slice S.cookie.a S.cookie.n S.cookie.c, .slice S.proof.a S.proof.n S.proof.c, .int .i64 D.epoch, .int .i64 D.seq, .slice S.body.a S.body.n S.body.c, .slice S.tag.a S.tag.n S.tag.c]) := by rw [← hx0]; exact Blk.new w _ _
  clear hx0 h
  unfold frV
  go_enter Try.func72, Try.ntmps72
  go_upto_region 1 with fail
  rw [HW0.out]
  obtain ⟨ga, hga⟩ : ∃ ga, w.heap.size = ga := ⟨_, rfl⟩
  rw [hga] at K0
  rw [hga]
  clear hga
  have c3 := K0.out.cell 3 rfl
  have c7 := K0.out.cell 7 rfl
  have c8 := K0.out.cell 8 rfl
  go_wp2_with fail
  refine (implHeadOf role S.sn D.sn D.epoch D.seq x0 (HR.out.later B0.out).sn).mono ?_
  rintro e x1 ⟨g1, m1, c1, rfl, em1, k1, r1, b1⟩
  have R1 : Hid (Row x1 g1 c1 (headL role D.sn D.epoch D.seq)) := r1
  have EM1 : Hid (m1 = (headL role D.sn D.epoch D.seq).length) := em1
  have B1 : Hid (Below w.heap.size w x1) := B0.out.trans (b1.mono B0.out.size)
  have GE1 : Hid (w.heap.size ≤ g1) := Nat.le_trans B0.out.size k1
  clear em1 k1 r1 b1
  go_wp2
  go_ret
  exact ⟨g1, m1, c1, rfl, EM1.out, GE1.out, R1.out, B1.out⟩

set_option maxRecDepth 100000 in
set_option maxHeartbeats 8000000 in
theorem implCanTag (role : Int) (S : FrS) (D : FrD) (w : World) (h : FrRd w S D) :
    Calls Try.prog 71 #[.int .i64 role, frV D S] w fun e w' => e = .returned (.bool (canTag role D)) ∧ Below w.heap.size w w' := by
  obtain ⟨v, hv⟩ : ∃ v, canTag role D = v := ⟨_, rfl⟩
  have HV : Hid (canTag role D = v) := hv
  rw [hv]
  clear hv
  have HR : Hid (FrRd w S D) := h
  obtain ⟨x0, hx0⟩ : ∃ x0, w.alloc (.cells #[.int .i64 D.kind, .int .i64 D.id, .slice S.cn.a S.cn.n S.cn.c, .slice S.sn.a S.sn.n S.sn.c, .int .i64 D.tick, .slice S.cookie.a S.cookie.n S.cookie.c, .slice S.proof.a S.proof.n S.proof.c, .int .i64 D.epoch, .int .i64 D.seq, .slice S.body.a S.body.n S.body.c, .slice S.tag.a S.tag.n S.tag.c] 39) = x0 := ⟨_, rfl⟩
  have HW0 : Hid (w.alloc (.cells #[.int .i64 D.kind, .int .i64 D.id, .slice S.cn.a S.cn.n S.cn.c, .slice S.sn.a S.sn.n S.sn.c, .int .i64 D.tick, .slice S.cookie.a S.cookie.n S.cookie.c, .slice S.proof.a S.proof.n S.proof.c, .int .i64 D.epoch, .int .i64 D.seq, .slice S.body.a S.body.n S.body.c, .slice S.tag.a S.tag.n S.tag.c] 39) = x0) := hx0
  have B0 : Hid (Below w.heap.size w x0) := by rw [← hx0]; exact (Below.refl _ _).alloc (Nat.le_refl _) _
  have K0 : Hid (Blk x0 w.heap.size 39 [.int .i64 D.kind, .int .i64 D.id, .slice S.cn.a S.cn.n S.cn.c, .slice S.sn.a S.sn.n S.sn.c, .int .i64 D.tick, .slice S.cookie.a S.cookie.n S.cookie.c, .slice S.proof.a S.proof.n S.proof.c, .int .i64 D.epoch, .int .i64 D.seq, .slice S.body.a S.body.n S.body.c, .slice S.tag.a S.tag.n S.tag.c]) := by rw [← hx0]; exact Blk.new w _ _
  clear hx0 h
  unfold frV
  go_enter Try.func71, Try.ntmps71
  go_upto_region 1 with fail
  rw [HW0.out]
  obtain ⟨ga, hga⟩ : ∃ ga, w.heap.size = ga := ⟨_, rfl⟩
  rw [hga] at K0
  rw [hga]
  clear hga
  have d0 := K0.out.cell 0 rfl
  go_wp2_with fail
  refine (isRole role x0).mono ?_
  rintro e y ⟨rfl, rfl⟩
  cases h0 : isIn role 0 1 with
  | false =>
    obtain rfl : v = false := by rw [← HV.out]; unfold canTag; simp [h0]
    go_wp2
    go_ret
    exact ⟨rfl, B0.out⟩
  | true =>
    go_wp2_with fail
    refine (implSealed D.kind x0).mono ?_
    rintro e x1 ⟨rfl, b1⟩
    have B1 : Hid (Below w.heap.size w x1) := B0.out.trans (b1.mono B0.out.size)
    have K1 : Hid (Blk x1 ga 39 [.int .i64 D.kind, .int .i64 D.id, .slice S.cn.a S.cn.n S.cn.c, .slice S.sn.a S.sn.n S.sn.c, .int .i64 D.tick, .slice S.cookie.a S.cookie.n S.cookie.c, .slice S.proof.a S.proof.n S.proof.c, .int .i64 D.epoch, .int .i64 D.seq, .slice S.body.a S.body.n S.body.c, .slice S.tag.a S.tag.n S.tag.c]) := K0.out.later b1
    clear b1 d0
    cases h1 : isIn D.kind 4 8 with
    | false =>
      obtain rfl : v = false := by rw [← HV.out]; unfold canTag; simp [h0, h1]
      go_wp2
      go_ret
      exact ⟨rfl, B1.out⟩
    | true =>
      obtain rfl : v = frameOk D := by rw [← HV.out]; unfold canTag; simp [h0, h1]
      have d0 := K1.out.cell 0 rfl
      have d1 := K1.out.cell 1 rfl
      have d2 := K1.out.cell 2 rfl
      have d3 := K1.out.cell 3 rfl
      have d4 := K1.out.cell 4 rfl
      have d5 := K1.out.cell 5 rfl
      have d6 := K1.out.cell 6 rfl
      have d7 := K1.out.cell 7 rfl
      have d8 := K1.out.cell 8 rfl
      have d9 := K1.out.cell 9 rfl
      have d10 := K1.out.cell 10 rfl
      go_wp2_with fail
      refine (implFrameOk S D x1 (HR.out.later B1.out)).mono ?_
      rintro e x2 ⟨rfl, b2⟩
      have B2 : Hid (Below w.heap.size w x2) := B1.out.trans (b2.mono B1.out.size)
      clear b2 d0 d1 d2 d3 d4 d5 d6 d7 d8 d9 d10
      go_wp2
      go_ret
      exact ⟨rfl, B2.out⟩

set_option maxRecDepth 100000 in
theorem rd_one8 {w : World} {g : Nat} (k : Blk w g 5 [.int .u8 116]) : SRd w ⟨some ⟨g, 0, none⟩, 1, 1⟩ [116] :=
  ⟨rfl, (fun i hi => by
    have : i = 0 := by simpa using hi
    subst this
    exact ⟨g, 0, rfl, k.lt, k.cell 0 rfl⟩), (fun e => by cases e), Nat.le_refl _, bytes_one (by omega) (by omega)⟩
set_option maxRecDepth 100000 in
theorem lay_tag {role : Int} {D : FrD} (h : canTag role D = true) : [116] ++ headL role D.sn D.epoch D.seq ++ putN D.kind 1 ++ D.body = tagIn role D := by
  rw [tagIn_yes _ _ h]
  have hk := (canTag_parts h).2.1
  rw [putN_one D.kind (by omega) (by omega)]
set_option maxRecDepth 100000 in
set_option maxHeartbeats 8000000 in
theorem implTagInput (role : Int) (S : FrS) (D : FrD) (w : World) (h : FrRd w S D) :
    Calls Try.prog 22 #[.int .i64 role, frV D S] w (New w (tagIn role D)) := by
  obtain ⟨H, hH⟩ : ∃ H, tagIn role D = H := ⟨_, rfl⟩
  have HH : Hid (tagIn role D = H) := hH
  rw [hH]
  clear hH
  have HR : Hid (FrRd w S D) := h
  obtain ⟨x0, hx0⟩ : ∃ x0, w.alloc (.cells #[.int .i64 D.kind, .int .i64 D.id, .slice S.cn.a S.cn.n S.cn.c, .slice S.sn.a S.sn.n S.sn.c, .int .i64 D.tick, .slice S.cookie.a S.cookie.n S.cookie.c, .slice S.proof.a S.proof.n S.proof.c, .int .i64 D.epoch, .int .i64 D.seq, .slice S.body.a S.body.n S.body.c, .slice S.tag.a S.tag.n S.tag.c] 39) = x0 := ⟨_, rfl⟩
  have HW0 : Hid (w.alloc (.cells #[.int .i64 D.kind, .int .i64 D.id, .slice S.cn.a S.cn.n S.cn.c, .slice S.sn.a S.sn.n S.sn.c, .int .i64 D.tick, .slice S.cookie.a S.cookie.n S.cookie.c, .slice S.proof.a S.proof.n S.proof.c, .int .i64 D.epoch, .int .i64 D.seq, .slice S.body.a S.body.n S.body.c, .slice S.tag.a S.tag.n S.tag.c] 39) = x0) := hx0
  have B0 : Hid (Below w.heap.size w x0) := by rw [← hx0]; exact (Below.refl _ _).alloc (Nat.le_refl _) _
  have K0 : Hid (Blk x0 w.heap.size 39 [.int .i64 D.kind, .int .i64 D.id, .slice S.cn.a S.cn.n S.cn.c, .slice S.sn.a S.sn.n S.sn.c, .int .i64 D.tick, .slice S.cookie.a S.cookie.n S.cookie.c, .slice S.proof.a S.proof.n S.proof.c, .int .i64 D.epoch, .int .i64 D.seq, .slice S.body.a S.body.n S.body.c, .slice S.tag.a S.tag.n S.tag.c]) := by rw [← hx0]; exact Blk.new w _ _
  clear hx0 h
  unfold frV
  go_enter Try.func22, Try.ntmps22
  go_upto_region 1 with fail
  rw [HW0.out]
  obtain ⟨ga, hga⟩ : ∃ ga, w.heap.size = ga := ⟨_, rfl⟩
  rw [hga] at K0
  rw [hga]
  clear hga
  have d0 := K0.out.cell 0 rfl
  have d1 := K0.out.cell 1 rfl
  have d2 := K0.out.cell 2 rfl
  have d3 := K0.out.cell 3 rfl
  have d4 := K0.out.cell 4 rfl
  have d5 := K0.out.cell 5 rfl
  have d6 := K0.out.cell 6 rfl
  have d7 := K0.out.cell 7 rfl
  have d8 := K0.out.cell 8 rfl
  have d9 := K0.out.cell 9 rfl
  have d10 := K0.out.cell 10 rfl
  go_wp2_with fail
  refine (implCanTag role S D x0 (HR.out.later B0.out)).mono ?_
  rintro e x1 ⟨rfl, b1⟩
  have B1 : Hid (Below w.heap.size w x1) := B0.out.trans (b1.mono B0.out.size)
  have K1 : Hid (Blk x1 ga 39 [.int .i64 D.kind, .int .i64 D.id, .slice S.cn.a S.cn.n S.cn.c, .slice S.sn.a S.sn.n S.sn.c, .int .i64 D.tick, .slice S.cookie.a S.cookie.n S.cookie.c, .slice S.proof.a S.proof.n S.proof.c, .int .i64 D.epoch, .int .i64 D.seq, .slice S.body.a S.body.n S.body.c, .slice S.tag.a S.tag.n S.tag.c]) := K0.out.later b1
  clear b1 d0 d1 d2 d3 d4 d5 d6 d7 d8 d9 d10
  cases h0 : canTag role D with
  | false =>
    obtain rfl : H = [] := by rw [← HH.out]; exact tagIn_no _ _ h0
    go_wp2
    go_ret
    exact new_nil B1.out
  | true =>
    have HC : Hid (canTag role D = true) := h0
    have HHL : Hid ((headL role D.sn D.epoch D.seq).length ≤ 23) := headL_le _ _ _ _
    have HBL : Hid (D.body.length ≤ 40) := canTag_body h0
    clear h0
    obtain ⟨x2, hx2⟩ : ∃ x2, x1.alloc (.cells #[.int .u8 116] 5) = x2 := ⟨_, rfl⟩
    have HW2 : Hid (x1.alloc (.cells #[.int .u8 116] 5) = x2) := hx2
    have b2 : Below x1.heap.size x1 x2 := by rw [← hx2]; exact (Below.refl _ _).alloc (Nat.le_refl _) _
    have B2 : Hid (Below w.heap.size w x2) := B1.out.trans (b2.mono B1.out.size)
    have KN : Hid (Blk x2 x1.heap.size 5 [.int .u8 116]) := by rw [← hx2]; exact Blk.new x1 _ _
    have K2 : Hid (Blk x2 ga 39 [.int .i64 D.kind, .int .i64 D.id, .slice S.cn.a S.cn.n S.cn.c, .slice S.sn.a S.sn.n S.sn.c, .int .i64 D.tick, .slice S.cookie.a S.cookie.n S.cookie.c, .slice S.proof.a S.proof.n S.proof.c, .int .i64 D.epoch, .int .i64 D.seq, .slice S.body.a S.body.n S.body.c, .slice S.tag.a S.tag.n S.tag.c]) := K1.out.later b2
    clear b2 hx2
    have d0 := K2.out.cell 0 rfl
    have d1 := K2.out.cell 1 rfl
    have d2 := K2.out.cell 2 rfl
    have d3 := K2.out.cell 3 rfl
    have d4 := K2.out.cell 4 rfl
    have d5 := K2.out.cell 5 rfl
    have d6 := K2.out.cell 6 rfl
    have d7 := K2.out.cell 7 rfl
    have d8 := K2.out.cell 8 rfl
    have d9 := K2.out.cell 9 rfl
    have d10 := K2.out.cell 10 rfl
    have f0 := (K1.out.alloc (.cells #[.int .u8 116] 5)).cell 0 rfl
    have f1 := (K1.out.alloc (.cells #[.int .u8 116] 5)).cell 1 rfl
    have f2 := (K1.out.alloc (.cells #[.int .u8 116] 5)).cell 2 rfl
    have f3 := (K1.out.alloc (.cells #[.int .u8 116] 5)).cell 3 rfl
    have f4 := (K1.out.alloc (.cells #[.int .u8 116] 5)).cell 4 rfl
    have f5 := (K1.out.alloc (.cells #[.int .u8 116] 5)).cell 5 rfl
    have f6 := (K1.out.alloc (.cells #[.int .u8 116] 5)).cell 6 rfl
    have f7 := (K1.out.alloc (.cells #[.int .u8 116] 5)).cell 7 rfl
    have f8 := (K1.out.alloc (.cells #[.int .u8 116] 5)).cell 8 rfl
    have f9 := (K1.out.alloc (.cells #[.int .u8 116] 5)).cell 9 rfl
    have f10 := (K1.out.alloc (.cells #[.int .u8 116] 5)).cell 10 rfl
    go_wp2_with fail
    rw [HW2.out]
    obtain ⟨gb, hgb⟩ : ∃ gb, x1.heap.size = gb := ⟨_, rfl⟩
    rw [hgb] at KN
    rw [hgb]
    clear hgb f0 f1 f2 f3 f4 f5 f6 f7 f8 f9 f10
    refine (frameHead role S D x2 (HR.out.later B2.out)).mono ?_
    rintro e x3 ⟨g3, m3, c3, rfl, em3, k3, r3, b3⟩
    have R3 : Hid (Row x3 g3 c3 (headL role D.sn D.epoch D.seq)) := r3
    have EM3 : Hid (m3 = (headL role D.sn D.epoch D.seq).length) := em3
    have B3 : Hid (Below w.heap.size w x3) := B2.out.trans (b3.mono B2.out.size)
    have K3 : Hid (Blk x3 ga 39 [.int .i64 D.kind, .int .i64 D.id, .slice S.cn.a S.cn.n S.cn.c, .slice S.sn.a S.sn.n S.sn.c, .int .i64 D.tick, .slice S.cookie.a S.cookie.n S.cookie.c, .slice S.proof.a S.proof.n S.proof.c, .int .i64 D.epoch, .int .i64 D.seq, .slice S.body.a S.body.n S.body.c, .slice S.tag.a S.tag.n S.tag.c]) := K2.out.later b3
    have KN3 : Hid (Blk x3 gb 5 [.int .u8 116]) := KN.out.later b3
    have YH : Hid (Bytes (headL role D.sn D.epoch D.seq)) := headL_bytes _ _ _ _ HR.out.sn.bytes
    clear em3 k3 r3 b3 d0 d1 d2 d3 d4 d5 d6 d7 d8 d9 d10
    go_wp2_with fail
    refine (putB ⟨some ⟨gb, 0, none⟩, 1, 1⟩ ⟨some ⟨g3, 0, none⟩, m3, c3⟩ [116] (headL role D.sn D.epoch D.seq) x3 (rd_one8 KN3.out) (rowRd R3.out EM3.out YH.out) (by simp) (by have := HHL.out; omega)).mono ?_
    rintro e x4 ⟨g4, m4, c4, rfl, em4, k4, r4, b4⟩
    have R4 : Hid (Row x4 g4 c4 ([116] ++ headL role D.sn D.epoch D.seq)) := r4
    have EM4 : Hid (m4 = ([116] ++ headL role D.sn D.epoch D.seq).length) := em4
    have B4 : Hid (Below w.heap.size w x4) := B3.out.trans (b4.mono B3.out.size)
    have K4 : Hid (Blk x4 ga 39 [.int .i64 D.kind, .int .i64 D.id, .slice S.cn.a S.cn.n S.cn.c, .slice S.sn.a S.sn.n S.sn.c, .int .i64 D.tick, .slice S.cookie.a S.cookie.n S.cookie.c, .slice S.proof.a S.proof.n S.proof.c, .int .i64 D.epoch, .int .i64 D.seq, .slice S.body.a S.body.n S.body.c, .slice S.tag.a S.tag.n S.tag.c]) := K3.out.later b4
    have Y4 : Hid (Bytes ([116] ++ headL role D.sn D.epoch D.seq)) := bytes_app (bytes_one (by omega) (by omega)) YH.out
    have LN4 : Hid (([116] ++ headL role D.sn D.epoch D.seq).length ≤ 30) := by show _ ≤ _; have := HHL.out; rw [List.length_append]; simp; omega
    clear em4 k4 r4 b4
    have d4_0 := K4.out.cell 0 rfl
    have d4_9 := K4.out.cell 9 rfl
    go_upto_region 4 with fail
    go_region_held3 (fun w' => w'.cell? ⟨ga, 0, none⟩ = some (.int .i64 D.kind) ∧ w'.cell? ⟨ga, 9, none⟩ = some (.slice S.body.a S.body.n S.body.c)) (first | exact ⟨d6_0, d6_9⟩ | exact ⟨d5_0, d5_9⟩ | exact ⟨d4_0, d4_9⟩ | go_keep)
      (first
        | (go_at_call 65; refine (putB ⟨some ⟨g5, 0, none⟩, m5, c5⟩ S.body ([116] ++ headL role D.sn D.epoch D.seq ++ putN D.kind 1) D.body x5 (rowRd R5.out EM5.out Y5.out) (HR.out.later B5.out).body (by have := LN5.out; omega) (by have := HBL.out; omega)).mono ?_; rintro e x6 ⟨g6, m6, c6, rfl, em6, k6, r6, b6⟩; have R6 : Hid (Row x6 g6 c6 ([116] ++ headL role D.sn D.epoch D.seq ++ putN D.kind 1 ++ D.body)) := r6; have EM6 : Hid (m6 = ([116] ++ headL role D.sn D.epoch D.seq ++ putN D.kind 1 ++ D.body).length) := em6; have GE6 : Hid (w.heap.size ≤ g6) := Nat.le_trans B5.out.size k6; have B6 : Hid (Below w.heap.size w x6) := B5.out.trans (b6.mono B5.out.size); have d6_0 := (K5.out.later b6).cell 0 rfl; have d6_9 := (K5.out.later b6).cell 9 rfl; clear em6 k6 r6 b6)
        | (go_at_call 66; refine (putK ⟨some ⟨g4, 0, none⟩, m4, c4⟩ ([116] ++ headL role D.sn D.epoch D.seq) D.kind 1 x4.drew (rowRd (w := x4.drew) R4.out EM4.out Y4.out) (by have := LN4.out; omega)).mono ?_; rintro e x5 ⟨g5, m5, c5, rfl, em5, k5, r5, b5⟩; have R5 : Hid (Row x5 g5 c5 ([116] ++ headL role D.sn D.epoch D.seq ++ putN D.kind 1)) := r5; have EM5 : Hid (m5 = ([116] ++ headL role D.sn D.epoch D.seq ++ putN D.kind 1).length) := em5; have Y5 : Hid (Bytes ([116] ++ headL role D.sn D.epoch D.seq ++ putN D.kind 1)) := bytes_app Y4.out (putN_bytes _ _); have B5 : Hid (Below w.heap.size w x5) := B4.out.trans (((Below.refl _ _).drew.trans b5).mono B4.out.size); have LN5 : Hid (([116] ++ headL role D.sn D.epoch D.seq ++ putN D.kind 1).length ≤ 40) := (by show _ ≤ _; have := LN4.out; have := putN_length D.kind 1; rw [List.length_append]; omega); have K5 : Hid (Blk x5 ga 39 [.int .i64 D.kind, .int .i64 D.id, .slice S.cn.a S.cn.n S.cn.c, .slice S.sn.a S.sn.n S.sn.c, .int .i64 D.tick, .slice S.cookie.a S.cookie.n S.cookie.c, .slice S.proof.a S.proof.n S.proof.c, .int .i64 D.epoch, .int .i64 D.seq, .slice S.body.a S.body.n S.body.c, .slice S.tag.a S.tag.n S.tag.c]) := K4.out.later ((Below.refl _ _).drew.trans b5); have d5_0 := K5.out.cell 0 rfl; have d5_9 := K5.out.cell 9 rfl; clear em5 k5 r5 b5))
    have HE : Hid ([116] ++ headL role D.sn D.epoch D.seq ++ putN D.kind 1 ++ D.body = H) := by rw [← HH.out]; exact lay_tag HC.out
    have R7 : Hid (Row x6 g6 c6 H) := by rw [← HE.out]; exact R6.out
    have EM7 : Hid (m6 = H.length) := by rw [← HE.out]; exact EM6.out
    clear d4_0 d4_9
    go_wp2
    go_ret
    exact ⟨g6, m6, c6, by simp, EM7.out, GE6.out, R7.out, B6.out⟩
end Go.Proofs.Ytmcflfpckpjphaa.SlI
