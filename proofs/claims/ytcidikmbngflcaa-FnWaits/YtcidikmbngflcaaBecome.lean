/-
  impl.become, impl.say.
-/
import Derived.Test.YtcidikmbngflcaaRules2
namespace Go.Proofs.Ytcidikmbngflcaa
open Go.ChangeShapes Go.WideShapes Go.ChangeAt Go.RowKit
set_option maxRecDepth 100000

set_option maxHeartbeats 2000000 in
theorem become_0 (s i u : Int) (f : Bool) (w : World) :
    Calls Try.prog 62 #[gV s i u f, .iface 158 (.agg #[])] w fun e w' => e = .returned (gV 0 (sinceOf s 0 i) (shutOf 0 u) f) ∧ Below w.heap.size w w' := by
  have km : ∀ w : World, (method 282 158 (.agg #[]) "loop.example/wicket/impl.number").run Try.prog w = .ok (128, .agg #[]) w := fun _ => by kernel_rfl
  have HG : Hid (gV s i u f = .agg #[.int .i64 s, .int .i64 i, .int .i64 u, .bool f]) := rfl
  rw [HG.out]
  by_cases hk : s = 0
  · have hs : ((0 : Int) != 0) = false := by simp
    have HV : Hid (gV 0 i 0 f = gV 0 (sinceOf s 0 i) (shutOf 0 u) f) := hid (by simp [sinceOf, shutOf, hk])
    subst hk
    go_enter Try.func62, Try.ntmps62
    go_wp2_with fail
    go_region_held3 (fun w' => w'.cell? ⟨w.heap.size, 0, none⟩ = some (.int .i64 0)) (go_keep) (first | (go_at_call 128; refine (number_0 _).mono ?_; rintro e w1 ⟨rfl, rfl⟩))
    go_wp2_with (go_at_call 128; refine (number_0 _).mono ?_; rintro e w1 ⟨rfl, rfl⟩)
    exact bodyPost_ret (v := .agg #[.int .i64 0, .int .i64 i, .int .i64 0, .bool f]) (by simp [results, Try.results62, go_sem]) rfl ⟨congrArg Ending.returned HV.out, by repeat (first | exact Below.refl _ _ | refine Below.drew ?_ | refine Below.alloc ?_ (by simp; try omega) _ | refine Below.setCell ?_ (by simp) _)⟩
  · have hs : (s != 0) = true := by simp [hk]
    have HV : Hid (gV 0 0 0 f = gV 0 (sinceOf s 0 i) (shutOf 0 u) f) := hid (by simp [sinceOf, shutOf, hk])
    clear hk
    go_enter Try.func62, Try.ntmps62
    go_wp2_with fail
    go_region_held3 (fun w' => w'.cell? ⟨w.heap.size, 0, none⟩ = some (.int .i64 s)) (go_keep) (first | (go_at_call 128; refine (number_0 _).mono ?_; rintro e w1 ⟨rfl, rfl⟩))
    go_wp2_with (go_at_call 128; refine (number_0 _).mono ?_; rintro e w1 ⟨rfl, rfl⟩)
    exact bodyPost_ret (v := .agg #[.int .i64 0, .int .i64 0, .int .i64 0, .bool f]) (by simp [results, Try.results62, go_sem]) rfl ⟨congrArg Ending.returned HV.out, by repeat (first | exact Below.refl _ _ | refine Below.drew ?_ | refine Below.alloc ?_ (by simp; try omega) _ | refine Below.setCell ?_ (by simp) _)⟩

set_option maxHeartbeats 2000000 in
theorem become_1 (s i u : Int) (f : Bool) (w : World) :
    Calls Try.prog 62 #[gV s i u f, .iface 157 (.agg #[])] w fun e w' => e = .returned (gV 1 (sinceOf s 1 i) (shutOf 1 u) f) ∧ Below w.heap.size w w' := by
  have km : ∀ w : World, (method 282 157 (.agg #[]) "loop.example/wicket/impl.number").run Try.prog w = .ok (127, .agg #[]) w := fun _ => by kernel_rfl
  have HG : Hid (gV s i u f = .agg #[.int .i64 s, .int .i64 i, .int .i64 u, .bool f]) := rfl
  rw [HG.out]
  by_cases hk : s = 1
  · have hs : ((1 : Int) != 1) = false := by simp
    have HV : Hid (gV 1 i u f = gV 1 (sinceOf s 1 i) (shutOf 1 u) f) := hid (by simp [sinceOf, shutOf, hk])
    subst hk
    go_enter Try.func62, Try.ntmps62
    go_wp2_with fail
    go_region_held3 (fun w' => w'.cell? ⟨w.heap.size, 0, none⟩ = some (.int .i64 1)) (go_keep) (first | (go_at_call 127; refine (number_1 _).mono ?_; rintro e w1 ⟨rfl, rfl⟩))
    go_wp2_with (go_at_call 127; refine (number_1 _).mono ?_; rintro e w1 ⟨rfl, rfl⟩)
    exact bodyPost_ret (v := .agg #[.int .i64 1, .int .i64 i, .int .i64 u, .bool f]) (by simp [results, Try.results62, go_sem]) rfl ⟨congrArg Ending.returned HV.out, by repeat (first | exact Below.refl _ _ | refine Below.drew ?_ | refine Below.alloc ?_ (by simp; try omega) _ | refine Below.setCell ?_ (by simp) _)⟩
  · have hs : (s != 1) = true := by simp [hk]
    have HV : Hid (gV 1 0 u f = gV 1 (sinceOf s 1 i) (shutOf 1 u) f) := hid (by simp [sinceOf, shutOf, hk])
    clear hk
    go_enter Try.func62, Try.ntmps62
    go_wp2_with fail
    go_region_held3 (fun w' => w'.cell? ⟨w.heap.size, 0, none⟩ = some (.int .i64 s)) (go_keep) (first | (go_at_call 127; refine (number_1 _).mono ?_; rintro e w1 ⟨rfl, rfl⟩))
    go_wp2_with (go_at_call 127; refine (number_1 _).mono ?_; rintro e w1 ⟨rfl, rfl⟩)
    exact bodyPost_ret (v := .agg #[.int .i64 1, .int .i64 0, .int .i64 u, .bool f]) (by simp [results, Try.results62, go_sem]) rfl ⟨congrArg Ending.returned HV.out, by repeat (first | exact Below.refl _ _ | refine Below.drew ?_ | refine Below.alloc ?_ (by simp; try omega) _ | refine Below.setCell ?_ (by simp) _)⟩

set_option maxHeartbeats 2000000 in
theorem become_2 (s i u : Int) (f : Bool) (w : World) :
    Calls Try.prog 62 #[gV s i u f, .iface 159 (.agg #[])] w fun e w' => e = .returned (gV 2 (sinceOf s 2 i) (shutOf 2 u) f) ∧ Below w.heap.size w w' := by
  have km : ∀ w : World, (method 282 159 (.agg #[]) "loop.example/wicket/impl.number").run Try.prog w = .ok (129, .agg #[]) w := fun _ => by kernel_rfl
  have HG : Hid (gV s i u f = .agg #[.int .i64 s, .int .i64 i, .int .i64 u, .bool f]) := rfl
  rw [HG.out]
  by_cases hk : s = 2
  · have hs : ((2 : Int) != 2) = false := by simp
    have HV : Hid (gV 2 i u f = gV 2 (sinceOf s 2 i) (shutOf 2 u) f) := hid (by simp [sinceOf, shutOf, hk])
    subst hk
    go_enter Try.func62, Try.ntmps62
    go_wp2_with fail
    go_region_held3 (fun w' => w'.cell? ⟨w.heap.size, 0, none⟩ = some (.int .i64 2)) (go_keep) (first | (go_at_call 129; refine (number_2 _).mono ?_; rintro e w1 ⟨rfl, rfl⟩))
    go_wp2_with (go_at_call 129; refine (number_2 _).mono ?_; rintro e w1 ⟨rfl, rfl⟩)
    exact bodyPost_ret (v := .agg #[.int .i64 2, .int .i64 i, .int .i64 u, .bool f]) (by simp [results, Try.results62, go_sem]) rfl ⟨congrArg Ending.returned HV.out, by repeat (first | exact Below.refl _ _ | refine Below.drew ?_ | refine Below.alloc ?_ (by simp; try omega) _ | refine Below.setCell ?_ (by simp) _)⟩
  · have hs : (s != 2) = true := by simp [hk]
    have HV : Hid (gV 2 0 u f = gV 2 (sinceOf s 2 i) (shutOf 2 u) f) := hid (by simp [sinceOf, shutOf, hk])
    clear hk
    go_enter Try.func62, Try.ntmps62
    go_wp2_with fail
    go_region_held3 (fun w' => w'.cell? ⟨w.heap.size, 0, none⟩ = some (.int .i64 s)) (go_keep) (first | (go_at_call 129; refine (number_2 _).mono ?_; rintro e w1 ⟨rfl, rfl⟩))
    go_wp2_with (go_at_call 129; refine (number_2 _).mono ?_; rintro e w1 ⟨rfl, rfl⟩)
    exact bodyPost_ret (v := .agg #[.int .i64 2, .int .i64 0, .int .i64 u, .bool f]) (by simp [results, Try.results62, go_sem]) rfl ⟨congrArg Ending.returned HV.out, by repeat (first | exact Below.refl _ _ | refine Below.drew ?_ | refine Below.alloc ?_ (by simp; try omega) _ | refine Below.setCell ?_ (by simp) _)⟩

set_option maxHeartbeats 2000000 in
theorem become_3 (s i u : Int) (f : Bool) (w : World) :
    Calls Try.prog 62 #[gV s i u f, .iface 160 (.agg #[])] w fun e w' => e = .returned (gV 3 (sinceOf s 3 i) (shutOf 3 u) f) ∧ Below w.heap.size w w' := by
  have km : ∀ w : World, (method 282 160 (.agg #[]) "loop.example/wicket/impl.number").run Try.prog w = .ok (130, .agg #[]) w := fun _ => by kernel_rfl
  have HG : Hid (gV s i u f = .agg #[.int .i64 s, .int .i64 i, .int .i64 u, .bool f]) := rfl
  rw [HG.out]
  by_cases hk : s = 3
  · have hs : ((3 : Int) != 3) = false := by simp
    have HV : Hid (gV 3 i u f = gV 3 (sinceOf s 3 i) (shutOf 3 u) f) := hid (by simp [sinceOf, shutOf, hk])
    subst hk
    go_enter Try.func62, Try.ntmps62
    go_wp2_with fail
    go_region_held3 (fun w' => w'.cell? ⟨w.heap.size, 0, none⟩ = some (.int .i64 3)) (go_keep) (first | (go_at_call 130; refine (number_3 _).mono ?_; rintro e w1 ⟨rfl, rfl⟩))
    go_wp2_with (go_at_call 130; refine (number_3 _).mono ?_; rintro e w1 ⟨rfl, rfl⟩)
    exact bodyPost_ret (v := .agg #[.int .i64 3, .int .i64 i, .int .i64 u, .bool f]) (by simp [results, Try.results62, go_sem]) rfl ⟨congrArg Ending.returned HV.out, by repeat (first | exact Below.refl _ _ | refine Below.drew ?_ | refine Below.alloc ?_ (by simp; try omega) _ | refine Below.setCell ?_ (by simp) _)⟩
  · have hs : (s != 3) = true := by simp [hk]
    have HV : Hid (gV 3 0 u f = gV 3 (sinceOf s 3 i) (shutOf 3 u) f) := hid (by simp [sinceOf, shutOf, hk])
    clear hk
    go_enter Try.func62, Try.ntmps62
    go_wp2_with fail
    go_region_held3 (fun w' => w'.cell? ⟨w.heap.size, 0, none⟩ = some (.int .i64 s)) (go_keep) (first | (go_at_call 130; refine (number_3 _).mono ?_; rintro e w1 ⟨rfl, rfl⟩))
    go_wp2_with (go_at_call 130; refine (number_3 _).mono ?_; rintro e w1 ⟨rfl, rfl⟩)
    exact bodyPost_ret (v := .agg #[.int .i64 3, .int .i64 0, .int .i64 u, .bool f]) (by simp [results, Try.results62, go_sem]) rfl ⟨congrArg Ending.returned HV.out, by repeat (first | exact Below.refl _ _ | refine Below.drew ?_ | refine Below.alloc ?_ (by simp; try omega) _ | refine Below.setCell ?_ (by simp) _)⟩

set_option maxHeartbeats 2000000 in
theorem become_4 (s i u : Int) (f : Bool) (w : World) :
    Calls Try.prog 62 #[gV s i u f, .iface 161 (.agg #[])] w fun e w' => e = .returned (gV 4 (sinceOf s 4 i) (shutOf 4 u) f) ∧ Below w.heap.size w w' := by
  have km : ∀ w : World, (method 282 161 (.agg #[]) "loop.example/wicket/impl.number").run Try.prog w = .ok (131, .agg #[]) w := fun _ => by kernel_rfl
  have HG : Hid (gV s i u f = .agg #[.int .i64 s, .int .i64 i, .int .i64 u, .bool f]) := rfl
  rw [HG.out]
  by_cases hk : s = 4
  · have hs : ((4 : Int) != 4) = false := by simp
    have HV : Hid (gV 4 i u f = gV 4 (sinceOf s 4 i) (shutOf 4 u) f) := hid (by simp [sinceOf, shutOf, hk])
    subst hk
    go_enter Try.func62, Try.ntmps62
    go_wp2_with fail
    go_region_held3 (fun w' => w'.cell? ⟨w.heap.size, 0, none⟩ = some (.int .i64 4)) (go_keep) (first | (go_at_call 131; refine (number_4 _).mono ?_; rintro e w1 ⟨rfl, rfl⟩))
    go_wp2_with (go_at_call 131; refine (number_4 _).mono ?_; rintro e w1 ⟨rfl, rfl⟩)
    exact bodyPost_ret (v := .agg #[.int .i64 4, .int .i64 i, .int .i64 u, .bool f]) (by simp [results, Try.results62, go_sem]) rfl ⟨congrArg Ending.returned HV.out, by repeat (first | exact Below.refl _ _ | refine Below.drew ?_ | refine Below.alloc ?_ (by simp; try omega) _ | refine Below.setCell ?_ (by simp) _)⟩
  · have hs : (s != 4) = true := by simp [hk]
    have HV : Hid (gV 4 0 u f = gV 4 (sinceOf s 4 i) (shutOf 4 u) f) := hid (by simp [sinceOf, shutOf, hk])
    clear hk
    go_enter Try.func62, Try.ntmps62
    go_wp2_with fail
    go_region_held3 (fun w' => w'.cell? ⟨w.heap.size, 0, none⟩ = some (.int .i64 s)) (go_keep) (first | (go_at_call 131; refine (number_4 _).mono ?_; rintro e w1 ⟨rfl, rfl⟩))
    go_wp2_with (go_at_call 131; refine (number_4 _).mono ?_; rintro e w1 ⟨rfl, rfl⟩)
    exact bodyPost_ret (v := .agg #[.int .i64 4, .int .i64 0, .int .i64 u, .bool f]) (by simp [results, Try.results62, go_sem]) rfl ⟨congrArg Ending.returned HV.out, by repeat (first | exact Below.refl _ _ | refine Below.drew ?_ | refine Below.alloc ?_ (by simp; try omega) _ | refine Below.setCell ?_ (by simp) _)⟩

end Go.Proofs.Ytcidikmbngflcaa
