/-
  What impl's HashEnd and HashAdd answer at every hash whose lists are of at most 1,048,576, where the table of round words holds what the program's text lays into it.
-/
import Derived.Test.YtfoilfbpbjfkcaaDoorHashS
import Derived.Test.YtfoilfbpbjfkcaaDoorShaS
namespace Go.Proofs.YtfoilfbpbjfkcaaDoor.HashE
open Go.RowKit Go.Proofs.YtfoilfbpbjfkcaaDoor.Mem Go.Proofs.YtfoilfbpbjfkcaaDoor.MemI Go.Proofs.YtfoilfbpbjfkcaaDoor.Blk Go.Proofs.YtfoilfbpbjfkcaaDoor.App Go.Proofs.YtfoilfbpbjfkcaaDoor.Get Go.Proofs.YtfoilfbpbjfkcaaDoor.ShaP Go.Proofs.YtfoilfbpbjfkcaaDoor.Sched Go.Proofs.YtfoilfbpbjfkcaaDoor.Words Go.Proofs.YtfoilfbpbjfkcaaDoor.WordsOf Go.Proofs.YtfoilfbpbjfkcaaDoor.Start Go.Proofs.YtfoilfbpbjfkcaaDoor.Comp Go.Proofs.YtfoilfbpbjfkcaaDoor.Hashs Go.Proofs.YtfoilfbpbjfkcaaDoor.HashH Go.Proofs.YtfoilfbpbjfkcaaDoor.HashO Go.Proofs.YtfoilfbpbjfkcaaDoor.HashS Go.Proofs.YtfoilfbpbjfkcaaDoor.Pads Go.Proofs.YtfoilfbpbjfkcaaDoor.Adds Go.Proofs.YtfoilfbpbjfkcaaDoor.Ends Go.Proofs.YtfoilfbpbjfkcaaDoor.ShaS

def endI (h held : List Int) (N : Int) : List Int := if okH h held.length N = true then endOf h held N.toNat else []
theorem endI_length (h held : List Int) (N : Int) : (endI h held N).length ≤ 1048576 := by
  unfold endI; split
  · rename_i e; rw [endOf_length _ _ _ ((okw_iff h).1 (okH_parts e).1).1]; omega
  · simp

set_option maxRecDepth 100000 in
set_option maxHeartbeats 1000000 in
theorem implHashEnd (a0 : Option Addr) (n0 c0 : Nat) (a1 : Option Addr) (n1 c1 : Nat) (N : Int) (h held : List Int) (w : World) (hT : Tab w) (e0 : n0 = h.length) (e1 : n1 = held.length) (r0 : IRd w a0 h) (r1 : Rd w a1 held) (na : a1 = none → c1 = 0) (hb : Bytes held) (l0 : n0 ≤ 1048576) (l1 : n1 ≤ 1048576) :
    Calls Tryd.prog 19 #[hashV a0 n0 c0 a1 n1 c1 N] w fun e w' =>
      ∃ g m c, e = .returned (.slice (some ⟨g, 0, none⟩) m c) ∧ m = (endI h held N).length ∧ w.heap.size ≤ g ∧ Row w' g c (endI h held N) ∧ Below w.heap.size w w' := by
  have HT : Hid (Tab w) := hT
  have E0 : Hid (n0 = h.length) := e0
  have E1 : Hid (n1 = held.length) := e1
  have R0 : Hid (IRd w a0 h) := r0
  have R1 : Hid (Rd w a1 held) := r1
  have HB : Hid (Bytes held) := hb
  have A0 : Hid (Below w.heap.size w (w.alloc (.cells #[.slice a0 n0 c0, .slice a1 n1 c1, .int .i64 N] 27))) := (Below.refl _ _).alloc (Nat.le_refl _) _
  clear hT e0 e1 r0 r1 hb
  unfold hashV
  go_enter Tryd.func19, Tryd.ntmps19
  go_wp2_with fail
  refine (sumOf a0 n0 c0 a1 n1 c1 N h _ E0.out (R0.out.later A0.out (Nat.le_refl _)) (by omega) (by omega)).mono ?_
  rintro e w1 ⟨p, rfl, hyes, hno, b1⟩
  have B1 : Hid (Below w.heap.size w w1) := A0.out.trans (b1.mono A0.out.size)
  clear b1
  cases hk : okH h n1 N with
  | false =>
    obtain rfl := hno hk
    have HE : Hid (endI h held N = []) := by show _ = _; unfold endI; rw [if_neg (by rw [← E1.out, hk]; simp)]
    clear hyes hno hk
    go_wp2
    go_ret
    exact ⟨w1.heap.size, 0, 0, by simp, by rw [HE.out]; rfl, B1.out.size, by rw [HE.out]; exact row_new w1 [] (by simp), B1.out.alloc B1.out.size _⟩
  | true =>
    obtain ⟨g, rfl, kg, k1⟩ := hyes hk
    obtain ⟨p1, p2, p3⟩ := okH_parts hk
    obtain ⟨M, rfl⟩ := Int.eq_ofNat_of_zero_le p2.1
    have HE : Hid (endI h held (M : Int) = endOf h held M) := by show _ = _; unfold endI; rw [if_pos (by rw [← E1.out]; exact hk), Int.toNat_natCast]
    have K1 : Hid (Blk w1 g 57 (sumCells h a1 n1 c1 M)) := k1
    have HG0 : Hid (0 < g) := by
      have h1 := HT.out.1
      have h2 := A0.out.size
      show _ < _
      simp at kg
      omega
    have HGW : Hid (w.heap.size ≤ g) := Nat.le_trans A0.out.size kg
    have HW : Hid (h.length = 8 ∧ Wds h) := (okw_iff h).1 p1
    have hM : M ≤ 1048576 := by omega
    clear hyes hno hk p1 p2 p3 kg k1
    go_wp2_with fail
    refine (endSum g h a1 n1 c1 M held w1 K1.out HG0.out HW.out.1 HW.out.2 (HT.out.later B1.out) E1.out (R1.out.later B1.out (Nat.le_refl _)) na HB.out (by omega) hM).mono ?_
    rintro e w2 ⟨g2, c2, rfl, k2, r2, gr2⟩
    have HEL : Hid ((endI h held (M : Int)).length = 32) := by show _ = _; rw [HE.out, endOf_length _ _ _ HW.out.1]
    have R2 : Hid (Row w2 g2 c2 (endOf h held M)) := r2
    have K2 : Hid (w.heap.size ≤ g2) := Nat.le_trans B1.out.size k2
    have B2 : Hid (Below w.heap.size w w2) := B1.out.grown gr2 B1.out.size (fun k h => by cases h; exact HGW.out)
    clear k2 r2 gr2
    go_wp2
    go_ret
    exact ⟨g2, 32, c2, rfl, HEL.out.symm, K2.out, by rw [HE.out]; exact R2.out, B2.out⟩

/-- What is added to a hash: its words, what it then holds, its number. -/
def mayAdd (h held : List Int) (N : Int) (b : List Int) : Bool := okH h held.length N && decide ((b.length : Int) ≤ 1048576 - N)
def addW (h held : List Int) (N : Int) (b : List Int) : List Int := if mayAdd h held N b = true then run h (held ++ b) ((held ++ b).length / 64) else h
def addB (h held : List Int) (N : Int) (b : List Int) : List Int := if mayAdd h held N b = true then (held ++ b).drop (64 * ((held ++ b).length / 64)) else held
def addN (h held : List Int) (N : Int) (b : List Int) : Int := if mayAdd h held N b = true then N + b.length else N
theorem addW_length (h held : List Int) (N : Int) (b : List Int) : (addW h held N b).length = h.length := by
  unfold addW; split
  · rename_i e
    have := ((okw_iff h).1 (okH_parts (by simp only [mayAdd, Bool.and_eq_true] at e; exact e.1)).1).1
    rw [run_length _ _ _ this, this]
  · rfl
theorem addB_length (h held : List Int) (N : Int) (b : List Int) : (addB h held N b).length ≤ held.length + 64 := by
  unfold addB; split
  · rw [List.length_drop]; omega
  · omega
end Go.Proofs.YtfoilfbpbjfkcaaDoor.HashE
