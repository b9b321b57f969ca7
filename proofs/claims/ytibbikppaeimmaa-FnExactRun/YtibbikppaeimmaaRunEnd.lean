/-
  FnExactRun.
-/
import Derived.Test.YtibbikppaeimmaaRunRow
import Derived.Test.YtibbikppaeimmaaImplRun
namespace Go.Proofs.Ytibbikppaeimmaa

theorem implRun : ImplRun where
  some := implRun_some
  none := implRun_none

theorem run_holds : Rows.FnExactRunSaid := run_said implRun

#print axioms run_holds
end Go.Proofs.Ytibbikppaeimmaa
