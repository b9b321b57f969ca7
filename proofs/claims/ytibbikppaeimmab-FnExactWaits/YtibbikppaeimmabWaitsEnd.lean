/-
  FnExactWaits.
-/
import Derived.Test.YtibbikppaeimmabWaitsRow
import Derived.Test.YtibbikppaeimmabImplWaits
namespace Go.Proofs.Ytibbikppaeimmab

theorem implWaits : ImplWaits where
  some := implWaits_some
  none := implWaits_none

theorem waits_holds : Rows.FnExactWaitsSaid := waits_said implWaits

#print axioms waits_holds
end Go.Proofs.Ytibbikppaeimmab
