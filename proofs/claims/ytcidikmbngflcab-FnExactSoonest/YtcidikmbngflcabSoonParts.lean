/-
  The small functions behind impl.Soonest.
-/
import Derived.Test.YtcidikmbngflcabSoonP
namespace Go.Proofs.Ytcidikmbngflcab
open Go.ChangeShapes Go.WideShapes Go.ChangeAt Go.RowKit
set_option maxRecDepth 100000
set_option linter.unusedSimpArgs false

set_option maxHeartbeats 400000 in
theorem stepsOk_any (n : Int) (w : World) :
    Calls Try.prog 37 #[.int .i64 n] w fun e w' => e = .returned (.bool (inB n 1 1000)) ∧ w' = w := by
  go_enter Try.func37, Try.ntmps37
  go_wp2_with fail
  refine (within_any _ _ _ _).mono ?_
  rintro e w' ⟨rfl, hw⟩
  replace hw := hw.symm
  subst hw
  go_wp2
  go_ret
  exact ⟨rfl, rfl⟩

set_option maxHeartbeats 400000 in
theorem feltAt_any (bar steps : Int) (w : World) :
    Calls Try.prog 55 #[.int .i64 bar, .int .i64 steps] w fun e w' => e = .returned (.int .i64 (barsOf bar steps)) ∧ w' = w := by
  by_cases h0 : bar = 0
  · have hb : (bar == 0) = true := by simp [h0]
    have HR : Hid ((0 : Int) = barsOf bar steps) := hid (by simp [barsOf, h0])
    clear h0
    go_enter Try.func55, Try.ntmps55
    go_wp2
    go_ret
    exact ⟨ret_int HR.out, rfl⟩
  · have hb : (bar == 0) = false := by simp [h0]
    by_cases h1 : bar = steps
    · have hc : (bar == steps) = true := by simp [h1]
      have HR : Hid ((2 : Int) = barsOf bar steps) := hid (by unfold barsOf; rw [if_neg h0, if_pos h1])
      clear h0 h1
      go_enter Try.func55, Try.ntmps55
      go_wp2
      go_ret
      exact ⟨ret_int HR.out, rfl⟩
    · have hc : (bar == steps) = false := by simp [h1]
      have HR : Hid ((1 : Int) = barsOf bar steps) := hid (by unfold barsOf; rw [if_neg h0, if_neg h1])
      clear h0 h1
      go_enter Try.func55, Try.ntmps55
      go_wp2
      go_ret
      exact ⟨ret_int HR.out, rfl⟩

set_option maxHeartbeats 400000 in
theorem moved_any (bar steps : Int) (down : Bool) (w : World) (h0 : 0 ≤ bar) (h1 : bar ≤ steps) (h2 : steps ≤ 1000) :
    Calls Try.prog 56 #[.int .i64 bar, .int .i64 steps, .bool down] w fun e w' => e = .returned (.int .i64 (nextBar false down bar steps)) ∧ w' = w := by
  cases down
  · go_enter Try.func56, Try.ntmps56
    go_wp2
    all_goals (go_ret; exact ⟨ret_int (by simp only [nextBar, Bool.false_eq_true, if_false, if_true]; split <;> omega), rfl⟩)
  · go_enter Try.func56, Try.ntmps56
    go_wp2
    all_goals (go_ret; exact ⟨ret_int (by simp only [nextBar, Bool.false_eq_true, if_false, if_true]; split <;> omega), rfl⟩)

set_option maxHeartbeats 400000 in
theorem eachAsked_any (t : TD) (steps : Int) (w : World) :
    Calls Try.prog 38 #[t.v, .int .i64 steps] w fun e w' => e = .returned (.func (.func 54) #[] #[.pointer (some ⟨w.heap.size, 0, none⟩), .pointer (some ⟨w.heap.size + 1, 0, none⟩)]) ∧
      Below w.heap.size w w' ∧ w'.heap.size = w.heap.size + 2 ∧ TCell w' w.heap.size t ∧ w'.cell? ⟨w.heap.size + 1, 0, none⟩ = some (.int .i64 steps) := by
  unfold TD.v tV
  go_enter Try.func38, Try.ntmps38
  go_wp2
  go_ret
  exact ⟨rfl, ((Below.refl _ _).alloc (Nat.le_refl _) _).alloc (by simp) _, by simp, ⟨by simp [go_sem], by simp [go_sem], by simp [go_sem], by simp [go_sem]⟩, by simp [go_sem]⟩

end Go.Proofs.Ytcidikmbngflcab
