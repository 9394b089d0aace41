/-
  What impl's reader of frames answers: a number, a piece, the rest.
-/
import Derived.Test.YtfapehmbecgjaaaFrN
import Derived.Test.YtfapehmbecgjaaaCuts
import Derived.Deep.RegionHeld3
set_option linter.unusedVariables false
namespace Go.Proofs.Ytfapehmbecgjaaa.FrRd
open Go.RowKit Go.Proofs.Ytfapehmbecgjaaa.Mem Go.Proofs.Ytfapehmbecgjaaa.App Go.Proofs.Ytfapehmbecgjaaa.Get Go.Proofs.Ytfapehmbecgjaaa.Cuts Go.Proofs.Ytfapehmbecgjaaa.Blk Go.Proofs.Ytfapehmbecgjaaa.Zone Go.Proofs.Ytfapehmbecgjaaa.Res Go.Proofs.Ytfapehmbecgjaaa.FrZ Go.Proofs.Ytfapehmbecgjaaa.FrM Go.Proofs.Ytfapehmbecgjaaa.FrN

def numAt (l : List Int) (p k : Int) : Int := if isSize k = true ∧ there l.length p k = true then val (piece l p.toNat k.toNat) else 0
theorem gotN_any (l : List Int) (p k : Int) : ∃ j b, gotN l p k = .tuple #[.int .i64 (numAt l p k), .int .i64 j, .bool b] := by
  unfold gotN numAt
  split
  · exact ⟨_, _, rfl⟩
  · exact ⟨_, _, rfl⟩
set_option maxRecDepth 100000 in
set_option maxHeartbeats 4000000 in
theorem number (g bb off N c : Nat) (p k : Int) (l : List Int) (w : World) (K : Blk w g 84 [.slice (some ⟨bb, off, none⟩) N c, .int .i64 p]) (hn : N = l.length) (hr : Rd w (some ⟨bb, off, none⟩) l) (hb : Bytes l) (hc : N ≤ c) (hm : N ≤ 4194304) (p0 : 0 ≤ p) (p1 : p ≤ 8000000) (k0 : 0 ≤ k) (k1 : k ≤ 6) :
    Calls Try.prog 58 #[.pointer (some ⟨g, 0, none⟩), .int .i64 k] w fun e w' => e = .returned (.int .i64 (numAt l p k)) ∧ Blk w' g 84 [.slice (some ⟨bb, off, none⟩) N c, .int .i64 (p + k)] ∧ Kept g (g + 1) w w' := by
  have HK : Hid (Blk w g 84 [.slice (some ⟨bb, off, none⟩) N c, .int .i64 p]) := K
  have HLen : Hid (N = l.length) := hn
  have HRd : Hid (Rd w (some ⟨bb, off, none⟩) l) := hr
  have HBy : Hid (Bytes l) := hb
  obtain ⟨j, b, hg⟩ := gotN_any l p k
  have HGN : Hid (gotN l p k = .tuple #[.int .i64 (numAt l p k), .int .i64 j, .bool b]) := hg
  have hw : IntKind.i64.wrap (p + k) = p + k := by rw [IntKind.wrap_i64]; omega
  have c0 := K.cell 0 rfl
  have c1 := K.cell 1 rfl
  have f1 := K.frozen 1
  clear hn hr hb hg K
  generalize numAt l p k = v at *
  go_enter Try.func58, Try.ntmps58
  go_upto_region 1 with fail
  go_region_held3 (fun w' => w'.cell? ⟨g, 0, none⟩ = some (.slice (some ⟨bb, off, none⟩) N c) ∧ w'.cell? ⟨g, 1, none⟩ = some (.int .i64 p)) (first | exact ⟨c0, c1⟩ | go_keep)
    ((go_at_call 65; refine (implGetN (some ⟨bb, off, none⟩) N c l p k w.drew HLen.out (Rd.later HRd.out (Below.refl _ _).drew (Nat.le_refl _)) HBy.out hc hm (by omega)).mono ?_; rw [HGN.out]; rintro e y ⟨rfl, rfl⟩))
  go_wp2
  go_ret
  have K2 : Blk (w.drew.setCell ⟨g, 1, none⟩ (.int .i64 (p + k))) g 84 [.slice (some ⟨bb, off, none⟩) N c, .int .i64 (p + k)] := Blk.set (w := w.drew) HK.out 1 _ (by simp [maxLen])
  exact ⟨rfl, K2, ⟨rfl, rfl, rfl, by simp, fun i _ hi => Below.heap_setCell w.drew _ _ i (by show i ≠ g; omega)⟩⟩
set_option maxRecDepth 100000 in
set_option maxHeartbeats 4000000 in
theorem take (g bb off N c : Nat) (p n : Int) (l : List Int) (w : World) (K : Blk w g 84 [.slice (some ⟨bb, off, none⟩) N c, .int .i64 p]) (hn : N = l.length) (hr : Rd w (some ⟨bb, off, none⟩) l) (hb : Bytes l) (hc : N ≤ c) (hm : N ≤ 4194304) (p0 : 0 ≤ p) (p1 : p ≤ 8000000) (n0 : -8000000 ≤ n) (n1 : n ≤ 8000000) :
    Calls Try.prog 59 #[.pointer (some ⟨g, 0, none⟩), .int .i64 n] w fun e w' => ∃ q m cc, e = .returned (.slice (some ⟨q, 0, none⟩) m cc) ∧ m = (cutOf l p n).length ∧ w.heap.size ≤ q ∧ Row w' q cc (cutOf l p n) ∧ Blk w' g 84 [.slice (some ⟨bb, off, none⟩) N c, .int .i64 (p + n)] ∧ Kept g (g + 1) w w' := by
  have HK : Hid (Blk w g 84 [.slice (some ⟨bb, off, none⟩) N c, .int .i64 p]) := K
  have HLen : Hid (N = l.length) := hn
  have HRd : Hid (Rd w (some ⟨bb, off, none⟩) l) := hr
  have hw : IntKind.i64.wrap (p + n) = p + n := by rw [IntKind.wrap_i64]; omega
  have c0 := K.cell 0 rfl
  have c1 := K.cell 1 rfl
  clear hn hr hb K
  generalize hx : cutOf l p n = x at *
  have HX : Hid (cutOf l p n = x) := hx
  clear hx
  go_enter Try.func59, Try.ntmps59
  go_upto_region 1 with fail
  go_region_held3 (fun w' => w'.cell? ⟨g, 0, none⟩ = some (.slice (some ⟨bb, off, none⟩) N c) ∧ w'.cell? ⟨g, 1, none⟩ = some (.int .i64 p)) (first | exact ⟨d0, d1⟩ | exact ⟨c0, c1⟩ | go_keep)
    ((go_at_call 66; refine (implCut bb off N c l p n w.drew HLen.out (Rd.later HRd.out (Below.refl _ _).drew (Nat.le_refl _)) hc hm (by omega)).mono ?_; rw [HX.out]; rintro e y ⟨q, m, cc, rfl, em, kq, r, b⟩; have EM : Hid (m = x.length) := em; have KQ : Hid (w.heap.size ≤ q) := kq; have R : Hid (Row y q cc x) := r; have BY : Hid (Below w.heap.size w y) := ((Below.refl w.heap.size w).drew.trans b); have K1 : Hid (Blk y g 84 [.slice (some ⟨bb, off, none⟩) N c, .int .i64 p]) := Blk.later (w := w.drew) HK.out b; have d0 := K1.out.cell 0 rfl; have d1 := K1.out.cell 1 rfl; have f1 := K1.out.frozen 1; clear em kq r b))
  generalize there N p n = tb at *
  go_wp2
  go_ret
  have hgs : g < w.heap.size := HK.out.lt
  have K2 : Blk (y.setCell ⟨g, 1, none⟩ (.int .i64 (p + n))) g 84 [.slice (some ⟨bb, off, none⟩) N c, .int .i64 (p + n)] := K1.out.set 1 _ (by simp [maxLen])
  exact ⟨q, m, cc, by simp, EM.out, KQ.out, R.out.keep (Below.heap_setCell y _ _ q (by show q ≠ g; have := KQ.out; omega)), K2, (Kept.of_below BY.out g).any.trans (Kept.setCell y g 1 _)⟩
set_option maxRecDepth 100000 in
set_option maxHeartbeats 4000000 in
theorem rest (g bb off N c : Nat) (p : Int) (l : List Int) (w : World) (K : Blk w g 84 [.slice (some ⟨bb, off, none⟩) N c, .int .i64 p]) (hn : N = l.length) (hr : Rd w (some ⟨bb, off, none⟩) l) (hb : Bytes l) (hc : N ≤ c) (hm : N ≤ 4194304) (p0 : 0 ≤ p) (p1 : p ≤ 3000000) :
    Calls Try.prog 67 #[.pointer (some ⟨g, 0, none⟩)] w fun e w' => ∃ q m cc, e = .returned (.slice (some ⟨q, 0, none⟩) m cc) ∧ m = (cutOf l p ((N : Int) - p)).length ∧ w.heap.size ≤ q ∧ Row w' q cc (cutOf l p ((N : Int) - p)) ∧ Blk w' g 84 [.slice (some ⟨bb, off, none⟩) N c, .int .i64 (p + ((N : Int) - p))] ∧ Kept g (g + 1) w w' := by
  have HK : Hid (Blk w g 84 [.slice (some ⟨bb, off, none⟩) N c, .int .i64 p]) := K
  have HLen : Hid (N = l.length) := hn
  have HRd : Hid (Rd w (some ⟨bb, off, none⟩) l) := hr
  have HBy : Hid (Bytes l) := hb
  obtain ⟨n, hnn⟩ : ∃ n, (N : Int) - p = n := ⟨_, rfl⟩
  rw [hnn]
  have hw : IntKind.i64.wrap ((N : Int) - p) = n := by rw [IntKind.wrap_i64]; omega
  have n0 : -8000000 ≤ n := by omega
  have n1 : n ≤ 8000000 := by omega
  have p2 : p ≤ 8000000 := by omega
  have c0 := K.cell 0 rfl
  have c1 := K.cell 1 rfl
  clear hn hr hb K hnn
  go_enter Try.func67, Try.ntmps67
  go_upto_region 1 with fail
  go_region_with
    ((go_at_call 59; refine (take g bb off N c p n l w.drew HK.out HLen.out (Rd.later HRd.out (Below.refl _ _).drew (Nat.le_refl _)) HBy.out hc hm p0 p2 n0 n1).mono ?_; rintro e y ⟨q, m, cc, rfl, em, kq, r, kb, kp⟩; have EM : Hid (m = (cutOf l p n).length) := em; have KQ : Hid (w.heap.size ≤ q) := kq; have R : Hid (Row y q cc (cutOf l p n)) := r; have KB : Hid (Blk y g 84 [.slice (some ⟨bb, off, none⟩) N c, .int .i64 (p + n)]) := kb; have KP : Hid (Kept g (g + 1) w y) := ⟨kp.os, kp.tape, kp.output, kp.size, kp.block⟩; clear em kq r kb kp))
  all_goals first | (go_wp2; go_ret; exact ⟨q, m, cc, rfl, EM.out, KQ.out, R.out, KB.out, KP.out⟩) | (go_ret; exact ⟨q, m, cc, rfl, EM.out, KQ.out, R.out, KB.out, KP.out⟩)
end Go.Proofs.Ytfapehmbecgjaaa.FrRd
