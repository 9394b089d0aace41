/-
  Two addresses, compared as structs.
-/
import Derived.Test.YtpgapjdejelajaaDoorAddrS
namespace Go.Proofs.YtpgapjdejelajaaDoor.AddrE
open Go.RowKit Go.Proofs.YtpgapjdejelajaaDoor.Mem Go.Proofs.YtpgapjdejelajaaDoor.AddrS

set_option maxRecDepth 100000 in
theorem eqPair (x y x' y' : Int) (w : World) :
    (Op.equalIn 10000 38 (.agg #[.int .i64 x, .int .i64 y]) (.agg #[.int .i64 x', .int .i64 y'])).run Tryd.prog w = .ok (x == x' && y == y') w := by
  rw [show (10000 : Nat) = 9999 + 1 from rfl]
  unfold Op.equalIn
  by_cases h1 : x = x'
  · by_cases h2 : y = y'
    · simp [Sem.run_bind, Tryd.underlying38, underlying, go_sem, Result.andThen, h1, h2]
    · simp [Sem.run_bind, Tryd.underlying38, underlying, go_sem, Result.andThen, h1, h2]
  · simp [Sem.run_bind, Tryd.underlying38, underlying, go_sem, Result.andThen, h1]
end Go.Proofs.YtpgapjdejelajaaDoor.AddrE
