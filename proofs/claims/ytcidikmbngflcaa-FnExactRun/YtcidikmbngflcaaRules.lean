/-
  impl's own parts of a tick: wanted, begin, the five rules, ruleOf, become, shown, say.
-/
import Derived.Test.YtcidikmbngflcaaPlain
import Derived.Deep.RegionHeld3
import Derived.BigQuiet
namespace Go.Proofs.Ytcidikmbngflcaa
open Go.ChangeShapes Go.WideShapes Go.ChangeAt Go.RowKit
set_option maxRecDepth 100000

theorem below3 (w : World) (o1 o2 o3 : Obj) : Below w.heap.size w (((w.alloc o1).alloc o2).alloc o3) :=
  (((Below.refl _ _).alloc (Nat.le_refl _) o1).alloc (by simp) o2).alloc (by simp; omega) o3

set_option maxHeartbeats 400000 in
theorem wanted_any (x n o : Bool) (b : Int) (m : Bool) (w : World) :
    Calls Try.prog 106 #[fV x n o b m] w fun e w' => e = .returned (.bool (x || n || o)) ∧ Below w.heap.size w w' := by
  unfold fV
  cases x <;> cases n
  all_goals
    go_enter Try.func106, Try.ntmps106
    go_wp2
    go_ret
    exact ⟨ret_bool (by simp), (Below.refl _ _).alloc (Nat.le_refl _) _⟩

set_option maxHeartbeats 2000000 in
theorem begin_any (s i u : Int) (f x n o : Bool) (b : Int) (m : Bool) (w : World) (hi0 : 0 ≤ i) (hi : i ≤ 1000000000) (hu0 : 0 ≤ u) (hu : u ≤ 1000000000) :
    Calls Try.prog 60 #[gV s i u f, fV x n o b m] w fun e w' => e = .returned (gV s (more i) (if s = 0 then u else more u) (f && !m)) ∧ Below w.heap.size w w' := by
  generalize hR : gV s (more i) (if s = 0 then u else more u) (f && !m) = R
  have HR : Hid (gV s (more i) (if s = 0 then u else more u) (f && !m) = R) := hR
  clear hR
  unfold gV fV
  by_cases h1 : i < 1000000000 <;> by_cases h0 : s = 0
  · have hs : (s != 0) = false := by simp [h0]
    have HI : Hid (gV s (i + 1) u (f && !m) = R) := hid (by rw [← HR.out, more_lt h1, if_pos h0])
    have h1' : i + 1 ≤ 1000000000 := by omega
    clear h0
    cases m
    · go_enter Try.func60, Try.ntmps60
      go_wp2
      exact bodyPost_ret (v := .agg #[.int .i64 s, .int .i64 (i + 1), .int .i64 u, .bool f]) (by simp [results, Try.results60, go_sem]) rfl ⟨by rw [← HI.out]; simp [gV], below3 _ _ _ _⟩
    · go_enter Try.func60, Try.ntmps60
      go_wp2
      exact bodyPost_ret (v := .agg #[.int .i64 s, .int .i64 (i + 1), .int .i64 u, .bool false]) (by simp [results, Try.results60, go_sem]) rfl ⟨by rw [← HI.out]; simp [gV], below3 _ _ _ _⟩
  · have hs : (s != 0) = true := by simp [h0]
    have h1' : i + 1 ≤ 1000000000 := by omega
    by_cases h2 : u < 1000000000
    · have HI : Hid (gV s (i + 1) (u + 1) (f && !m) = R) := hid (by rw [← HR.out, more_lt h1, if_neg h0, more_lt h2])
      have h2' : u + 1 ≤ 1000000000 := by omega
      clear h0
      cases m
      · go_enter Try.func60, Try.ntmps60
        go_wp2
        exact bodyPost_ret (v := .agg #[.int .i64 s, .int .i64 (i + 1), .int .i64 (u + 1), .bool f]) (by simp [results, Try.results60, go_sem]) rfl ⟨by rw [← HI.out]; simp [gV], below3 _ _ _ _⟩
      · go_enter Try.func60, Try.ntmps60
        go_wp2
        exact bodyPost_ret (v := .agg #[.int .i64 s, .int .i64 (i + 1), .int .i64 (u + 1), .bool false]) (by simp [results, Try.results60, go_sem]) rfl ⟨by rw [← HI.out]; simp [gV], below3 _ _ _ _⟩
    · have HI : Hid (gV s (i + 1) 1000000000 (f && !m) = R) := hid (by rw [← HR.out, more_lt h1, if_neg h0, more_ge h2])
      have h2' : 1000000000 < u + 1 := by omega
      clear h0
      cases m
      · go_enter Try.func60, Try.ntmps60
        go_wp2
        exact bodyPost_ret (v := .agg #[.int .i64 s, .int .i64 (i + 1), .int .i64 1000000000, .bool f]) (by simp [results, Try.results60, go_sem]) rfl ⟨by rw [← HI.out]; simp [gV], below3 _ _ _ _⟩
      · go_enter Try.func60, Try.ntmps60
        go_wp2
        exact bodyPost_ret (v := .agg #[.int .i64 s, .int .i64 (i + 1), .int .i64 1000000000, .bool false]) (by simp [results, Try.results60, go_sem]) rfl ⟨by rw [← HI.out]; simp [gV], below3 _ _ _ _⟩
  · have hs : (s != 0) = false := by simp [h0]
    have HI : Hid (gV s 1000000000 u (f && !m) = R) := hid (by rw [← HR.out, more_ge h1, if_pos h0])
    have h1' : 1000000000 < i + 1 := by omega
    clear h0
    cases m
    · go_enter Try.func60, Try.ntmps60
      go_wp2
      exact bodyPost_ret (v := .agg #[.int .i64 s, .int .i64 1000000000, .int .i64 u, .bool f]) (by simp [results, Try.results60, go_sem]) rfl ⟨by rw [← HI.out]; simp [gV], below3 _ _ _ _⟩
    · go_enter Try.func60, Try.ntmps60
      go_wp2
      exact bodyPost_ret (v := .agg #[.int .i64 s, .int .i64 1000000000, .int .i64 u, .bool false]) (by simp [results, Try.results60, go_sem]) rfl ⟨by rw [← HI.out]; simp [gV], below3 _ _ _ _⟩
  · have hs : (s != 0) = true := by simp [h0]
    have h1' : 1000000000 < i + 1 := by omega
    by_cases h2 : u < 1000000000
    · have HI : Hid (gV s 1000000000 (u + 1) (f && !m) = R) := hid (by rw [← HR.out, more_ge h1, if_neg h0, more_lt h2])
      have h2' : u + 1 ≤ 1000000000 := by omega
      clear h0
      cases m
      · go_enter Try.func60, Try.ntmps60
        go_wp2
        exact bodyPost_ret (v := .agg #[.int .i64 s, .int .i64 1000000000, .int .i64 (u + 1), .bool f]) (by simp [results, Try.results60, go_sem]) rfl ⟨by rw [← HI.out]; simp [gV], below3 _ _ _ _⟩
      · go_enter Try.func60, Try.ntmps60
        go_wp2
        exact bodyPost_ret (v := .agg #[.int .i64 s, .int .i64 1000000000, .int .i64 (u + 1), .bool false]) (by simp [results, Try.results60, go_sem]) rfl ⟨by rw [← HI.out]; simp [gV], below3 _ _ _ _⟩
    · have HI : Hid (gV s 1000000000 1000000000 (f && !m) = R) := hid (by rw [← HR.out, more_ge h1, if_neg h0, more_ge h2])
      have h2' : 1000000000 < u + 1 := by omega
      clear h0
      cases m
      · go_enter Try.func60, Try.ntmps60
        go_wp2
        exact bodyPost_ret (v := .agg #[.int .i64 s, .int .i64 1000000000, .int .i64 1000000000, .bool f]) (by simp [results, Try.results60, go_sem]) rfl ⟨by rw [← HI.out]; simp [gV], below3 _ _ _ _⟩
      · go_enter Try.func60, Try.ntmps60
        go_wp2
        exact bodyPost_ret (v := .agg #[.int .i64 s, .int .i64 1000000000, .int .i64 1000000000, .bool false]) (by simp [results, Try.results60, go_sem]) rfl ⟨by rw [← HI.out]; simp [gV], below3 _ _ _ _⟩

end Go.Proofs.Ytcidikmbngflcaa
