/-
  impl.say.
-/
import Derived.Test.YtcidikmbngflcabRules2
namespace Go.Proofs.Ytcidikmbngflcab
open Go.ChangeShapes Go.WideShapes Go.ChangeAt Go.RowKit
set_option maxRecDepth 100000

set_option maxHeartbeats 2000000 in
theorem say_0 (a b c d i u : Int) (f x n o : Bool) (br : Int) (m : Bool) (w : World) :
    Calls Try.prog 68 #[tV a b c d, gV 0 i u f, fV x n o br m, .iface 155 (.agg #[])] w fun e w' => e = .returned (saidK 0 i u f d br o) ∧ Below w.heap.size w w' := by
  unfold tV gV fV
  by_cases hl : d < u
  · have HV : Hid (.agg #[.bool true, .int .i64 0, .int .i64 i, .int .i64 u, .bool f, .bool false, .bool false, .bool false, .bool !o] = saidK 0 i u f d br o) := hid (by simp [saidK, saidV, saidC, mayB, redB, downB, longB, hl])
    skip
    go_enter Try.func68, Try.ntmps68
    go_wp2_with (go_at_call 95; refine (shown_0 _).mono ?_; rintro e w1 ⟨rfl, rfl⟩)
    exact bodyPost_ret (v := .agg #[.bool true, .int .i64 0, .int .i64 i, .int .i64 u, .bool f, .bool false, .bool false, .bool false, .bool !o]) (by simp [results, Try.results68, go_sem]) rfl ⟨congrArg Ending.returned HV.out, by repeat (first | exact Below.refl _ _ | refine Below.drew ?_ | refine Below.alloc ?_ (by simp; try omega) _ | refine Below.setCell ?_ (by simp) _)⟩
  · have HV : Hid (.agg #[.bool true, .int .i64 0, .int .i64 i, .int .i64 u, .bool f, .bool false, .bool false, .bool false, .bool false] = saidK 0 i u f d br o) := hid (by simp [saidK, saidV, saidC, mayB, redB, downB, longB, hl])
    skip
    go_enter Try.func68, Try.ntmps68
    go_wp2_with (go_at_call 95; refine (shown_0 _).mono ?_; rintro e w1 ⟨rfl, rfl⟩)
    exact bodyPost_ret (v := .agg #[.bool true, .int .i64 0, .int .i64 i, .int .i64 u, .bool f, .bool false, .bool false, .bool false, .bool false]) (by simp [results, Try.results68, go_sem]) rfl ⟨congrArg Ending.returned HV.out, by repeat (first | exact Below.refl _ _ | refine Below.drew ?_ | refine Below.alloc ?_ (by simp; try omega) _ | refine Below.setCell ?_ (by simp) _)⟩

set_option maxHeartbeats 2000000 in
theorem say_1 (a b c d i u : Int) (f x n o : Bool) (br : Int) (m : Bool) (w : World) :
    Calls Try.prog 68 #[tV a b c d, gV 1 i u f, fV x n o br m, .iface 154 (.agg #[])] w fun e w' => e = .returned (saidK 1 i u f d br o) ∧ Below w.heap.size w w' := by
  unfold tV gV fV
  by_cases hl : d < u
  · have HV : Hid (.agg #[.bool true, .int .i64 1, .int .i64 i, .int .i64 u, .bool f, .bool false, .bool true, .bool false, .bool !o] = saidK 1 i u f d br o) := hid (by simp [saidK, saidV, saidC, mayB, redB, downB, longB, hl])
    skip
    go_enter Try.func68, Try.ntmps68
    go_wp2_with (go_at_call 95; refine (shown_1 _).mono ?_; rintro e w1 ⟨rfl, rfl⟩)
    exact bodyPost_ret (v := .agg #[.bool true, .int .i64 1, .int .i64 i, .int .i64 u, .bool f, .bool false, .bool true, .bool false, .bool !o]) (by simp [results, Try.results68, go_sem]) rfl ⟨congrArg Ending.returned HV.out, by repeat (first | exact Below.refl _ _ | refine Below.drew ?_ | refine Below.alloc ?_ (by simp; try omega) _ | refine Below.setCell ?_ (by simp) _)⟩
  · have HV : Hid (.agg #[.bool true, .int .i64 1, .int .i64 i, .int .i64 u, .bool f, .bool false, .bool true, .bool false, .bool false] = saidK 1 i u f d br o) := hid (by simp [saidK, saidV, saidC, mayB, redB, downB, longB, hl])
    skip
    go_enter Try.func68, Try.ntmps68
    go_wp2_with (go_at_call 95; refine (shown_1 _).mono ?_; rintro e w1 ⟨rfl, rfl⟩)
    exact bodyPost_ret (v := .agg #[.bool true, .int .i64 1, .int .i64 i, .int .i64 u, .bool f, .bool false, .bool true, .bool false, .bool false]) (by simp [results, Try.results68, go_sem]) rfl ⟨congrArg Ending.returned HV.out, by repeat (first | exact Below.refl _ _ | refine Below.drew ?_ | refine Below.alloc ?_ (by simp; try omega) _ | refine Below.setCell ?_ (by simp) _)⟩

set_option maxHeartbeats 2000000 in
theorem say_2 (a b c d i u : Int) (f x n o : Bool) (br : Int) (m : Bool) (w : World) :
    Calls Try.prog 68 #[tV a b c d, gV 2 i u f, fV x n o br m, .iface 156 (.agg #[])] w fun e w' => e = .returned (saidK 2 i u f d br o) ∧ Below w.heap.size w w' := by
  unfold tV gV fV
  by_cases hl : d < u
  · have HV : Hid (.agg #[.bool true, .int .i64 2, .int .i64 i, .int .i64 u, .bool f, .bool false, .bool true, .bool true, .bool !o] = saidK 2 i u f d br o) := hid (by simp [saidK, saidV, saidC, mayB, redB, downB, longB, hl])
    skip
    go_enter Try.func68, Try.ntmps68
    go_wp2_with (go_at_call 95; refine (shown_2 _).mono ?_; rintro e w1 ⟨rfl, rfl⟩)
    exact bodyPost_ret (v := .agg #[.bool true, .int .i64 2, .int .i64 i, .int .i64 u, .bool f, .bool false, .bool true, .bool true, .bool !o]) (by simp [results, Try.results68, go_sem]) rfl ⟨congrArg Ending.returned HV.out, by repeat (first | exact Below.refl _ _ | refine Below.drew ?_ | refine Below.alloc ?_ (by simp; try omega) _ | refine Below.setCell ?_ (by simp) _)⟩
  · have HV : Hid (.agg #[.bool true, .int .i64 2, .int .i64 i, .int .i64 u, .bool f, .bool false, .bool true, .bool true, .bool false] = saidK 2 i u f d br o) := hid (by simp [saidK, saidV, saidC, mayB, redB, downB, longB, hl])
    skip
    go_enter Try.func68, Try.ntmps68
    go_wp2_with (go_at_call 95; refine (shown_2 _).mono ?_; rintro e w1 ⟨rfl, rfl⟩)
    exact bodyPost_ret (v := .agg #[.bool true, .int .i64 2, .int .i64 i, .int .i64 u, .bool f, .bool false, .bool true, .bool true, .bool false]) (by simp [results, Try.results68, go_sem]) rfl ⟨congrArg Ending.returned HV.out, by repeat (first | exact Below.refl _ _ | refine Below.drew ?_ | refine Below.alloc ?_ (by simp; try omega) _ | refine Below.setCell ?_ (by simp) _)⟩

set_option maxHeartbeats 2000000 in
theorem say_3 (a b c d i u : Int) (f x n o : Bool) (br : Int) (m : Bool) (w : World) :
    Calls Try.prog 68 #[tV a b c d, gV 3 i u f, fV x n o br m, .iface 157 (.agg #[])] w fun e w' => e = .returned (saidK 3 i u f d br o) ∧ Below w.heap.size w w' := by
  unfold tV gV fV
  by_cases hb2 : br = 2
  · have hbr : (br == 2) = true := by simp [hb2]
    by_cases hl : d < u
    · have HV : Hid (.agg #[.bool true, .int .i64 3, .int .i64 i, .int .i64 u, .bool f, .bool !f, .bool true, .bool true, .bool !o] = saidK 3 i u f d br o) := hid (by simp [saidK, saidV, saidC, mayB, redB, downB, longB, hl, hb2])
      clear hb2
      go_enter Try.func68, Try.ntmps68
      go_wp2_with (go_at_call 95; refine (shown_3 _).mono ?_; rintro e w1 ⟨rfl, rfl⟩)
      exact bodyPost_ret (v := .agg #[.bool true, .int .i64 3, .int .i64 i, .int .i64 u, .bool f, .bool !f, .bool true, .bool true, .bool !o]) (by simp [results, Try.results68, go_sem]) rfl ⟨congrArg Ending.returned HV.out, by repeat (first | exact Below.refl _ _ | refine Below.drew ?_ | refine Below.alloc ?_ (by simp; try omega) _ | refine Below.setCell ?_ (by simp) _)⟩
    · have HV : Hid (.agg #[.bool true, .int .i64 3, .int .i64 i, .int .i64 u, .bool f, .bool !f, .bool true, .bool true, .bool false] = saidK 3 i u f d br o) := hid (by simp [saidK, saidV, saidC, mayB, redB, downB, longB, hl, hb2])
      clear hb2
      go_enter Try.func68, Try.ntmps68
      go_wp2_with (go_at_call 95; refine (shown_3 _).mono ?_; rintro e w1 ⟨rfl, rfl⟩)
      exact bodyPost_ret (v := .agg #[.bool true, .int .i64 3, .int .i64 i, .int .i64 u, .bool f, .bool !f, .bool true, .bool true, .bool false]) (by simp [results, Try.results68, go_sem]) rfl ⟨congrArg Ending.returned HV.out, by repeat (first | exact Below.refl _ _ | refine Below.drew ?_ | refine Below.alloc ?_ (by simp; try omega) _ | refine Below.setCell ?_ (by simp) _)⟩
  · have hbr : (br == 2) = false := by simp [hb2]
    by_cases hl : d < u
    · have HV : Hid (.agg #[.bool true, .int .i64 3, .int .i64 i, .int .i64 u, .bool f, .bool false, .bool true, .bool true, .bool !o] = saidK 3 i u f d br o) := hid (by simp [saidK, saidV, saidC, mayB, redB, downB, longB, hl, hb2])
      clear hb2
      go_enter Try.func68, Try.ntmps68
      go_wp2_with (go_at_call 95; refine (shown_3 _).mono ?_; rintro e w1 ⟨rfl, rfl⟩)
      exact bodyPost_ret (v := .agg #[.bool true, .int .i64 3, .int .i64 i, .int .i64 u, .bool f, .bool false, .bool true, .bool true, .bool !o]) (by simp [results, Try.results68, go_sem]) rfl ⟨congrArg Ending.returned HV.out, by repeat (first | exact Below.refl _ _ | refine Below.drew ?_ | refine Below.alloc ?_ (by simp; try omega) _ | refine Below.setCell ?_ (by simp) _)⟩
    · have HV : Hid (.agg #[.bool true, .int .i64 3, .int .i64 i, .int .i64 u, .bool f, .bool false, .bool true, .bool true, .bool false] = saidK 3 i u f d br o) := hid (by simp [saidK, saidV, saidC, mayB, redB, downB, longB, hl, hb2])
      clear hb2
      go_enter Try.func68, Try.ntmps68
      go_wp2_with (go_at_call 95; refine (shown_3 _).mono ?_; rintro e w1 ⟨rfl, rfl⟩)
      exact bodyPost_ret (v := .agg #[.bool true, .int .i64 3, .int .i64 i, .int .i64 u, .bool f, .bool false, .bool true, .bool true, .bool false]) (by simp [results, Try.results68, go_sem]) rfl ⟨congrArg Ending.returned HV.out, by repeat (first | exact Below.refl _ _ | refine Below.drew ?_ | refine Below.alloc ?_ (by simp; try omega) _ | refine Below.setCell ?_ (by simp) _)⟩

set_option maxHeartbeats 2000000 in
theorem say_4 (a b c d i u : Int) (f x n o : Bool) (br : Int) (m : Bool) (w : World) :
    Calls Try.prog 68 #[tV a b c d, gV 4 i u f, fV x n o br m, .iface 158 (.agg #[])] w fun e w' => e = .returned (saidK 4 i u f d br o) ∧ Below w.heap.size w w' := by
  unfold tV gV fV
  by_cases hl : d < u
  · have HV : Hid (.agg #[.bool true, .int .i64 4, .int .i64 i, .int .i64 u, .bool f, .bool false, .bool true, .bool false, .bool !o] = saidK 4 i u f d br o) := hid (by simp [saidK, saidV, saidC, mayB, redB, downB, longB, hl])
    skip
    go_enter Try.func68, Try.ntmps68
    go_wp2_with (go_at_call 95; refine (shown_4 _).mono ?_; rintro e w1 ⟨rfl, rfl⟩)
    exact bodyPost_ret (v := .agg #[.bool true, .int .i64 4, .int .i64 i, .int .i64 u, .bool f, .bool false, .bool true, .bool false, .bool !o]) (by simp [results, Try.results68, go_sem]) rfl ⟨congrArg Ending.returned HV.out, by repeat (first | exact Below.refl _ _ | refine Below.drew ?_ | refine Below.alloc ?_ (by simp; try omega) _ | refine Below.setCell ?_ (by simp) _)⟩
  · have HV : Hid (.agg #[.bool true, .int .i64 4, .int .i64 i, .int .i64 u, .bool f, .bool false, .bool true, .bool false, .bool false] = saidK 4 i u f d br o) := hid (by simp [saidK, saidV, saidC, mayB, redB, downB, longB, hl])
    skip
    go_enter Try.func68, Try.ntmps68
    go_wp2_with (go_at_call 95; refine (shown_4 _).mono ?_; rintro e w1 ⟨rfl, rfl⟩)
    exact bodyPost_ret (v := .agg #[.bool true, .int .i64 4, .int .i64 i, .int .i64 u, .bool f, .bool false, .bool true, .bool false, .bool false]) (by simp [results, Try.results68, go_sem]) rfl ⟨congrArg Ending.returned HV.out, by repeat (first | exact Below.refl _ _ | refine Below.drew ?_ | refine Below.alloc ?_ (by simp; try omega) _ | refine Below.setCell ?_ (by simp) _)⟩

end Go.Proofs.Ytcidikmbngflcab
