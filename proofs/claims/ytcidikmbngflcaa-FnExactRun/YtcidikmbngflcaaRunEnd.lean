/-
  FnExactRun.
-/
import Derived.Test.YtcidikmbngflcaaRunRow
import Derived.Test.YtcidikmbngflcaaImplRun
namespace Go.Proofs.Ytcidikmbngflcaa

theorem implRun : ImplRun where
  some := implRun_some
  none := implRun_none

theorem run_holds : Rows.FnExactRunSaid := run_said implRun

#print axioms run_holds
end Go.Proofs.Ytcidikmbngflcaa
