/-
  The frames of impl's words, and the words of impl's frames.
-/
import Derived.Test.YtpgapjdejelajaaDoorFrW
namespace Go.Proofs.YtpgapjdejelajaaDoor.FrW2
open Go.RowKit Go.Proofs.YtpgapjdejelajaaDoor.Mem Go.Proofs.YtpgapjdejelajaaDoor.Blk Go.Proofs.YtpgapjdejelajaaDoor.Words Go.Proofs.YtpgapjdejelajaaDoor.Zone Go.Proofs.YtpgapjdejelajaaDoor.Res Go.Proofs.YtpgapjdejelajaaDoor.FrZ Go.Proofs.YtpgapjdejelajaaDoor.FrP Go.Proofs.YtpgapjdejelajaaDoor.FrW

set_option maxRecDepth 100000 in
theorem aggCook : aggB Tryd.prog 52 4 = true := by kernel_rfl
set_option maxRecDepth 100000 in
set_option maxHeartbeats 1600000 in
theorem cookFrame (cn sn : Sl) (tick : Int) (cookie : Sl) (w : World) :
    Calls Tryd.prog 41 #[.agg #[.slice cn.a cn.n cn.c, .slice sn.a sn.n sn.c, .int .i64 tick, .slice cookie.a cookie.n cookie.c]] w fun e w' => e = .returned (.agg #[.int .i64 2, .int .i64 0, .slice cn.a cn.n cn.c, .slice sn.a sn.n sn.c, .int .i64 tick, .slice cookie.a cookie.n cookie.c, .slice none 0 0, .int .i64 0, .int .i64 0, .slice none 0 0, .slice none 0 0]) ∧ Below w.heap.size w w' := by
  go_enter Tryd.func41, Tryd.ntmps41
  go_wp2
  have K := Blk.new (w.alloc (.cells #[.slice cn.a cn.n cn.c, .slice sn.a sn.n sn.c, .int .i64 tick, .slice cookie.a cookie.n cookie.c] 52)) 57 [.int .i64 2, .int .i64 0, .slice cn.a cn.n cn.c, .slice sn.a sn.n sn.c, .int .i64 tick, .slice cookie.a cookie.n cookie.c, .slice none 0 0, .int .i64 0, .int .i64 0, .slice none 0 0, .slice none 0 0]
  rw [World.size_alloc] at K
  exact bodyPost_ret (v := .agg #[.int .i64 2, .int .i64 0, .slice cn.a cn.n cn.c, .slice sn.a sn.n sn.c, .int .i64 tick, .slice cookie.a cookie.n cookie.c, .slice none 0 0, .int .i64 0, .int .i64 0, .slice none 0 0, .slice none 0 0]) (res1 rfl (is_cell rfl K aggFr)) rfl ⟨rfl, ((Below.refl _ _).alloc (Nat.le_refl _) _).alloc (by simp) _⟩

end Go.Proofs.YtpgapjdejelajaaDoor.FrW2
