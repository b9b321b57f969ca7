/-
  laws.toFelt.
-/
import Derived.Test.YtcidikmbngflcaaBase
namespace Go.Proofs.Ytcidikmbngflcaa
open Go.ChangeShapes Go.WideShapes Go.ChangeAt Go.RowKit
set_option maxRecDepth 100000

set_option maxHeartbeats 400000 in
theorem toFelt_any (a n o : Bool) (b : Int) (m : Bool) (w : World) :
    Calls Try.prog 31 #[fV a n o b m] w fun e w' => e = .returned (fV a n o b m) ∧ Below w.heap.size w w' := by
  unfold fV
  go_enter Try.func31, Try.ntmps31
  go_wp2
  exact bodyPost_ret (v := .agg #[.bool a, .bool n, .bool o, .int .i64 b, .bool m]) (by simp [results, Try.results31, go_sem]) rfl ⟨rfl, by repeat (first | exact Below.refl _ _ | refine Below.alloc ?_ (by simp; try omega) _ | refine Below.setCell ?_ (by simp) _)⟩

end Go.Proofs.Ytcidikmbngflcaa
