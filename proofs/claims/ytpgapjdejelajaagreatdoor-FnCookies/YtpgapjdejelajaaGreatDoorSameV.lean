/-
  What the laws' own tests of bytes answer of any two slices.
-/
import Derived.Test.YtpgapjdejelajaaGreatDoorGr11
import Derived.Test.YtpgapjdejelajaaGreatDoorGr4
namespace Go.Proofs.YtpgapjdejelajaaGreatDoor.SameV
open Go.RowKit Go.Proofs.YtpgapjdejelajaaGreatDoor.Mem Go.Proofs.YtpgapjdejelajaaGreatDoor.Blk Go.Proofs.YtpgapjdejelajaaGreatDoor.Zone Go.Proofs.YtpgapjdejelajaaGreatDoor.FrE Go.Proofs.YtpgapjdejelajaaGreatDoor.Same

set_option maxRecDepth 100000 in
theorem same_raw (s t : Sl) (x y : List Int) (w : World) (h : SRd w s x) (k : SRd w t y) :
    Calls Tryz.prog 9 #[.slice s.a s.n s.c, .slice t.a t.n t.c] w fun e w' => e = .returned (.bool (decide (x = y))) ∧ w = w' := by
  have cv1 := convS h
  have cv2 := convS k
  have HD : Hid (decide (x = y) = ((strOfNums x).toList == (strOfNums y).toList)) := by
    show _ = _
    rw [Lib.strOfNums_toList, Lib.strOfNums_toList]
    by_cases e : x = y
    · subst e; simp
    · have : ¬ Lib.bytesOf x = Lib.bytesOf y := fun q => e (nums_inj h.bytes k.bytes (by unfold strOfNums; rw [show (x.map fun n => UInt8.ofNat n.toNat) = (y.map fun n => UInt8.ofNat n.toNat) from q]))
      simp [e, this]
  clear h k
  generalize strOfNums x = sx at *
  generalize strOfNums y = sy at *
  go_enter Tryz.func9, Tryz.ntmps9
  go_wp2
  go_ret
  exact ⟨by rw [HD.out]; rfl, rfl⟩
set_option maxRecDepth 100000 in
/-- Whether two slices are the same, v. -/
theorem sameV (s t : Sl) (x y : List Int) (v : Bool) (w : World) (h : SRd w s x) (k : SRd w t y) (hv : decide (x = y) = v) :
    Calls Tryz.prog 9 #[.slice s.a s.n s.c, .slice t.a t.n t.c] w fun e w' => e = .returned (.bool v) ∧ w = w' := by
  subst hv; exact same_raw s t x y w h k
set_option maxRecDepth 100000 in
theorem yes {x y : List Int} (h : x = y) : decide (x = y) = true := decide_eq_true h
set_option maxRecDepth 100000 in
theorem no {x y : List Int} (h : x ≠ y) : decide (x = y) = false := decide_eq_false h

set_option maxRecDepth 100000 in
theorem cut_from {w : World} {g o m c k : Nat} {l : List Int} (h : SRd w ⟨some ⟨g, o, none⟩, m, c⟩ l) (hk : k ≤ m) : SRd w ⟨some ⟨g, o + k, none⟩, m - k, c - k⟩ (l.drop k) := by
  have hm : m = l.length := h.len
  have hc : m ≤ c := h.cap
  refine ⟨?_, ?_, (fun e => by cases e), by show m - k ≤ c - k; omega, fun z hz => h.bytes z (List.mem_of_mem_drop hz)⟩
  · show m - k = (l.drop k).length
    rw [List.length_drop]; omega
  · intro i hi
    rw [List.length_drop] at hi
    obtain ⟨b, off, e, h1, h2⟩ := h.rd (k + i) (by omega)
    simp only [Option.some.injEq, Addr.mk.injEq, and_true] at e
    obtain ⟨rfl, rfl⟩ := e
    refine ⟨g, o + k, rfl, h1, ?_⟩
    rw [show o + k + i = o + (k + i) by omega, h2]
    simp [List.getD]
end Go.Proofs.YtpgapjdejelajaaGreatDoor.SameV
