/-
  eqGate and eqSaid at two that are the same.
-/
import Derived.Test.YtcidikmbngflcaaBox
namespace Go.Proofs.Ytcidikmbngflcaa
open Go.ChangeShapes Go.WideShapes Go.ChangeAt Go.RowKit
set_option maxRecDepth 100000

set_option maxHeartbeats 1000000 in
theorem eqGate_same (s i u : Int) (f : Bool) (w : World) :
    Calls Try.prog 64 #[gV s i u f, gV s i u f] w fun e w' => e = .returned (.bool true) ∧ Below w.heap.size w w' := by
  unfold gV
  have h1 : (s != s) = false := by simp
  have h2 : (i != i) = false := by simp
  have h3 : (u != u) = false := by simp
  have h4 : (f != f) = false := by simp
  go_enter Try.func64, Try.ntmps64
  go_wp2
  go_ret
  exact ⟨rfl, ((Below.refl _ _).alloc (Nat.le_refl _) _).alloc (by simp) _⟩

set_option maxHeartbeats 1000000 in
theorem eqSaid_same (p0 : Bool) (p1 p2 p3 : Int) (p4 p5 p6 p7 p8 : Bool) (w : World) :
    Calls Try.prog 35 #[.agg #[.bool p0, .int .i64 p1, .int .i64 p2, .int .i64 p3, .bool p4, .bool p5, .bool p6, .bool p7, .bool p8], .agg #[.bool p0, .int .i64 p1, .int .i64 p2, .int .i64 p3, .bool p4, .bool p5, .bool p6, .bool p7, .bool p8]] w
      fun e w' => e = .returned (.bool true) ∧ Below w.heap.size w w' := by
  have h1 : (p0 != p0) = false := by simp
  have h5 : (p5 != p5) = false := by simp
  have h6 : (p6 != p6) = false := by simp
  have h7 : (p7 != p7) = false := by simp
  have h8 : (p8 != p8) = false := by simp
  have HG : Hid (gV p1 p2 p3 p4 = .agg #[.int .i64 p1, .int .i64 p2, .int .i64 p3, .bool p4]) := rfl
  go_enter Try.func35, Try.ntmps35
  go_wp2_with fail
  rw [← HG.out]
  refine (eqGate_same p1 p2 p3 p4 _).mono ?_
  rintro e w1 ⟨rfl, hb1⟩
  have HB : Hid (Below w.heap.size w w1) := (((Below.refl _ _).alloc (Nat.le_refl _) _).alloc (by simp) _).trans (hb1.mono (by simp; omega))
  obtain ⟨hc, hf⟩ := bcell hb1
  clear hb1 hf
  go_wp2
  go_ret
  exact ⟨rfl, HB.out⟩

end Go.Proofs.Ytcidikmbngflcaa
