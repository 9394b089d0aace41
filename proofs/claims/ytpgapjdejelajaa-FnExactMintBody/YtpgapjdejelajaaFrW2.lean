/-
  The frames of impl's words, and the words of impl's frames.
-/
import Derived.Test.YtpgapjdejelajaaFrW
namespace Go.Proofs.Ytpgapjdejelajaa.FrW2
open Go.RowKit Go.Proofs.Ytpgapjdejelajaa.Mem Go.Proofs.Ytpgapjdejelajaa.Blk Go.Proofs.Ytpgapjdejelajaa.Words Go.Proofs.Ytpgapjdejelajaa.Zone Go.Proofs.Ytpgapjdejelajaa.Res Go.Proofs.Ytpgapjdejelajaa.FrZ Go.Proofs.Ytpgapjdejelajaa.FrP Go.Proofs.Ytpgapjdejelajaa.FrW

set_option maxRecDepth 100000 in
theorem aggCook : aggB Try.prog 47 4 = true := by kernel_rfl
set_option maxRecDepth 100000 in
set_option maxHeartbeats 1600000 in
theorem cookFrame (cn sn : Sl) (tick : Int) (cookie : Sl) (w : World) :
    Calls Try.prog 31 #[.agg #[.slice cn.a cn.n cn.c, .slice sn.a sn.n sn.c, .int .i64 tick, .slice cookie.a cookie.n cookie.c]] w fun e w' => e = .returned (.agg #[.int .i64 2, .int .i64 0, .slice cn.a cn.n cn.c, .slice sn.a sn.n sn.c, .int .i64 tick, .slice cookie.a cookie.n cookie.c, .slice none 0 0, .int .i64 0, .int .i64 0, .slice none 0 0, .slice none 0 0]) ∧ Below w.heap.size w w' := by
  go_enter Try.func31, Try.ntmps31
  go_wp2
  have K := Blk.new (w.alloc (.cells #[.slice cn.a cn.n cn.c, .slice sn.a sn.n sn.c, .int .i64 tick, .slice cookie.a cookie.n cookie.c] 47)) 52 [.int .i64 2, .int .i64 0, .slice cn.a cn.n cn.c, .slice sn.a sn.n sn.c, .int .i64 tick, .slice cookie.a cookie.n cookie.c, .slice none 0 0, .int .i64 0, .int .i64 0, .slice none 0 0, .slice none 0 0]
  rw [World.size_alloc] at K
  exact bodyPost_ret (v := .agg #[.int .i64 2, .int .i64 0, .slice cn.a cn.n cn.c, .slice sn.a sn.n sn.c, .int .i64 tick, .slice cookie.a cookie.n cookie.c, .slice none 0 0, .int .i64 0, .int .i64 0, .slice none 0 0, .slice none 0 0]) (res1 rfl (is_cell rfl K aggFr)) rfl ⟨rfl, ((Below.refl _ _).alloc (Nat.le_refl _) _).alloc (by simp) _⟩

end Go.Proofs.Ytpgapjdejelajaa.FrW2
