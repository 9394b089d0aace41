/-
  What impl's and spec's Schedule answer at every slice of bytes of at most 4,194,304: the same words, in new memory.
-/
import Derived.Test.YtippfkoondknkaaDoorSched
namespace Go.Proofs.YtippfkoondknkaaDoor.Sched2
open Go.RowKit Go.Proofs.YtippfkoondknkaaDoor.Mem Go.Proofs.YtippfkoondknkaaDoor.MemI Go.Proofs.YtippfkoondknkaaDoor.Blk Go.Proofs.YtippfkoondknkaaDoor.App Go.Proofs.YtippfkoondknkaaDoor.Get Go.Proofs.YtippfkoondknkaaDoor.ShaP Go.Proofs.YtippfkoondknkaaDoor.Word Go.Proofs.YtippfkoondknkaaDoor.Bits Go.Proofs.YtippfkoondknkaaDoor.Sched

def schedI (b : List Int) : List Int := if b.length = 64 then sched b else []
theorem schedI_length (b : List Int) : (schedI b).length ≤ 64 := by
  unfold schedI; split
  · rw [sched_length]; omega
  · simp

set_option maxHeartbeats 1000000 in
theorem implSchedule (a : Option Addr) (n cap : Nat) (b : List Int) (w : World) (hl : n = b.length) (hr : Rd w a b) (hb : Bytes b) (hc : n ≤ cap) (hn : n ≤ 4194304) :
    Calls Tryd.prog 21 #[.slice a n cap] w fun e w' =>
      ∃ g m c, e = .returned (.slice (some ⟨g, 0, none⟩) m c) ∧ m = (schedI b).length ∧ w.heap.size ≤ g ∧ IRow w' g c (schedI b) ∧ Below w.heap.size w w' := by
  by_cases h64 : n = 64
  · subst h64
    have HS : Hid (schedI b = sched b) := by show _ = _; unfold schedI; rw [if_pos hl.symm]
    have HR : Hid (Rd w a b) := hr
    have HB : Hid (Bytes b) := hb
    have HL : Hid (b.length = 64) := hl.symm
    obtain ⟨zv, zs⟩ := zero_of_info info65
    obtain ⟨cs, hcs⟩ : ∃ cs, cs = ((sched b).map (Value.int .i64)).toArray := ⟨_, rfl⟩
    have HCS : Hid (((sched b).map (Value.int .i64)).toArray = cs) := hcs.symm
    have hsz : cs.size = 64 := by rw [hcs]; simp [sched_length]
    have HZS : Hid ((Tryd.prog.info? 75).map (·.size) = some cs.size) := by rw [hsz]; exact zs
    have HON : Hid (cs.all (·.oneCell') = true) := by show _ = _; rw [hcs]; simp [Value.oneCell']
    have HZE : Hid ((z64.map (Value.int .i64)).toArray.size = cs.size) := by show _ = _; rw [hsz]; simp
    have HSL : Hid ((sched b).length = 64) := sched_length b
    clear hr hb hl hcs hsz zs
    go_enter Tryd.func21, Tryd.ntmps21
    go_wp2_with fail
    refine (implSchedule64 a cap b w HL.out HR.out HB.out hc).mono ?_
    rintro e w1 ⟨rfl, b1⟩
    rw [HCS.out]
    have HB1 : Hid (Below w.heap.size w w1) := b1
    have HA : Hid (Blk (w1.alloc (.cells (z64.map (Value.int .i64)).toArray 75)) w1.heap.size 75 (z64.map (Value.int .i64))) := Blk.new _ _ _
    clear b1
    have HC : Hid (Blk (w1.alloc (.cells cs 75)) w1.heap.size 75 ((sched b).map (Value.int .i64) ++ [])) := by
      show Blk _ _ _ _
      rw [← HCS.out, List.append_nil]; exact Blk.new _ _ _
    have HB2 : Hid (Below w.heap.size w (w1.alloc (.cells cs 75))) := HB1.out.alloc HB1.out.size _
    have HB3 : Hid (Below w.heap.size w ((w1.alloc (.cells cs 75)).alloc (.cells #[] 3))) := HB2.out.alloc HB2.out.size _
    have HG : Hid (w.heap.size ≤ w1.heap.size + 1) := Nat.le_trans HB1.out.size (by omega)
    have HN : Hid (IRow ((w1.alloc (.cells cs 75)).alloc (.cells #[] 3)) (w1.heap.size + 1) 0 []) := by
      have := irow_new (w1.alloc (.cells cs 75)) [] (by simp)
      rw [show (w1.alloc (.cells cs 75)).heap.size = w1.heap.size + 1 by simp] at this
      exact this
    have HS2 : Hid (w.heap.size ≤ ((w1.alloc (.cells cs 75)).alloc (.cells #[] 3)).heap.size) := HB3.out.size
    go_wp2_with (first | (refine wpList_store_row rfl 75 _ _ rfl w1.heap.size cs rfl rfl 75 (z64.map (Value.int .i64)).toArray HA.out HZS.out HZE.out HON.out ?_; rw [World.setRow_alloc_new]) | (at_builtin; refine iwpList_app _ rfl (.tmp 10) (.tmp 11) rfl w.heap.size (w1.heap.size + 1) 0 0 [] (sched b) rfl rfl HN.out HG.out (some ⟨w1.heap.size, 0, none⟩) 64 64 rfl HSL.out.symm (HC.out.alloc _).rd (by intro h; cases h) (by rw [HSL.out]; simp) ?_; intro g1 c1 w2 r1 b1 l1 gr1; have R1 : Hid (IRow w2 g1 c1 (sched b)) := (List.nil_append (sched b)) ▸ r1; have B1 : Hid (Below w.heap.size w w2) := HB3.out.grown gr1 HS2.out (fun k h => by cases h; exact HG.out); clear r1 gr1 l1))
    go_ret
    exact ⟨g1, _, c1, rfl, by rw [HS.out, HSL.out], b1, by rw [HS.out]; exact R1.out, B1.out⟩
  · have HS : Hid (schedI b = []) := by show _ = _; unfold schedI; rw [if_neg (by omega)]
    have hne : ((n : Int) != 64) = true := by simp; omega
    clear h64 hl hr hb
    go_enter Tryd.func21, Tryd.ntmps21
    go_wp2
    go_ret
    exact ⟨w.heap.size, 0, 0, by simp, by rw [HS.out]; rfl, Nat.le_refl _, by rw [HS.out]; exact irow_new w [] (by simp), (Below.refl _ _).alloc (Nat.le_refl _) _⟩
end Go.Proofs.YtippfkoondknkaaDoor.Sched2
