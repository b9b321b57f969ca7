/-
  laws.toGate.
-/
import Derived.Test.YtcidikmbngflcaaBase
namespace Go.Proofs.Ytcidikmbngflcaa
open Go.ChangeShapes Go.WideShapes Go.ChangeAt Go.RowKit
set_option maxRecDepth 100000

set_option maxHeartbeats 400000 in
theorem toGate_any (s i u : Int) (f : Bool) (w : World) :
    Calls Try.prog 28 #[gV s i u f] w fun e w' => e = .returned (gV s i u f) ∧ Below w.heap.size w w' := by
  unfold gV
  go_enter Try.func28, Try.ntmps28
  go_wp2
  exact bodyPost_ret (v := .agg #[.int .i64 s, .int .i64 i, .int .i64 u, .bool f]) (by simp [results, Try.results28, go_sem]) rfl ⟨rfl, by repeat (first | exact Below.refl _ _ | refine Below.alloc ?_ (by simp; try omega) _ | refine Below.setCell ?_ (by simp) _)⟩

end Go.Proofs.Ytcidikmbngflcaa
