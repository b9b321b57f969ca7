/-
  FnExactWaits.
-/
import Derived.Test.YtcidikmbngflcabWaitsRow
import Derived.Test.YtcidikmbngflcabImplWaits
namespace Go.Proofs.Ytcidikmbngflcab

theorem implWaits : ImplWaits where
  some := implWaits_some
  none := implWaits_none

theorem waits_holds : Rows.FnExactWaitsSaid := waits_said implWaits

#print axioms waits_holds
end Go.Proofs.Ytcidikmbngflcab
