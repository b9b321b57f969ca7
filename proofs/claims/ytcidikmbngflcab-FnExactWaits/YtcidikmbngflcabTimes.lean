/-
  TimesOk: the contracts of spec.TimesOk, impl.TimesOk, laws.toTimes.
-/
import Derived.Test.YtcidikmbngflcabBase
namespace Go.Proofs.Ytcidikmbngflcab
open Go.ChangeShapes Go.WideShapes Go.ChangeAt Go.RowKit
set_option maxRecDepth 100000

def tOk (a b c d : Int) : Bool := inB a 0 100 && inB b 1 100 && inB c 0 1000 && inB d 1 100000

set_option maxHeartbeats 400000 in
theorem impl_TimesOk (a b c d : Int) (w : World) :
    Calls Try.prog 36 #[tV a b c d] w fun e w' => e = .returned (.bool (tOk a b c d)) ∧ Below w.heap.size w w' := by
  unfold tV
  have HE : Hid (tOk a b c d = (inB a 0 100 && inB b 1 100 && inB c 0 1000 && inB d 1 100000)) := rfl
  cases h1 : inB a 0 100 <;> cases h2 : inB b 1 100 <;> cases h3 : inB c 0 1000 <;> cases h4 : inB d 1 100000
  all_goals
    go_enter Try.func36, Try.ntmps36
    go_wp2_with (go_at_call 53; refine (within_any _ _ _ _).mono ?_; rintro e w' ⟨rfl, rfl⟩)
    go_ret
    exact ⟨by rw [HE.out, h1, h2, h3, h4]; rfl, (Below.refl _ _).alloc (Nat.le_refl _) _⟩

set_option maxHeartbeats 400000 in
theorem spec_TimesOk (a b c d : Int) (w : World) :
    Calls Try.prog 33 #[tV a b c d] w fun e w' => e = .returned (.bool (tOk a b c d)) ∧ Below w.heap.size w w' := by
  unfold tV
  have HE : Hid (tOk a b c d = (inB a 0 100 && inB b 1 100 && inB c 0 1000 && inB d 1 100000)) := rfl
  cases h1 : inB a 0 100 <;> cases h2 : inB b 1 100 <;> cases h3 : inB c 0 1000 <;> cases h4 : inB d 1 100000
  all_goals
    go_enter Try.func33, Try.ntmps33
    go_wp2_with (go_at_call 34; refine (l1in_any _ _ _ _).mono ?_; rintro e w' ⟨rfl, rfl⟩)
    go_ret
    exact ⟨by rw [HE.out, h1, h2, h3, h4]; rfl, (Below.refl _ _).alloc (Nat.le_refl _) _⟩

set_option maxHeartbeats 400000 in
theorem toTimes_any (a b c d : Int) (w : World) :
    Calls Try.prog 8 #[tV a b c d] w fun e w' => e = .returned (tV a b c d) ∧ Below w.heap.size w w' := by
  unfold tV
  go_enter Try.func8, Try.ntmps8
  go_wp2
  exact bodyPost_ret (v := .agg #[.int .i64 a, .int .i64 b, .int .i64 c, .int .i64 d]) (by simp [results, Try.results8, go_sem]) rfl ⟨rfl, by repeat (first | exact Below.refl _ _ | refine Below.alloc ?_ (by simp; try omega) _ | refine Below.setCell ?_ (by simp) _)⟩

end Go.Proofs.Ytcidikmbngflcab
