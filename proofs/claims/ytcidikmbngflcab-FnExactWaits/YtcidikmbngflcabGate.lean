/-
  GateOk, FeltOk: the contracts of the functions of spec, impl and laws.
-/
import Derived.Test.YtcidikmbngflcabTimes
namespace Go.Proofs.Ytcidikmbngflcab
open Go.ChangeShapes Go.WideShapes Go.ChangeAt Go.RowKit
set_option maxRecDepth 100000

def gOk (a b c d s i u : Int) : Bool :=
  tOk a b c d && inB s 0 4 && inB i 0 1000000000 && inB u 0 1000000000 && (if s = 0 then decide (u = 0) else if s = 1 then decide (i ≤ a) else true)

theorem gOk_no {a b c d s i u : Int} (h : (tOk a b c d && inB s 0 4 && inB i 0 1000000000 && inB u 0 1000000000) = false) : gOk a b c d s i u = false := by
  unfold gOk; rw [h]; rfl
theorem gOk_yes {a b c d s i u : Int} {r : Bool} (h : (tOk a b c d && inB s 0 4 && inB i 0 1000000000 && inB u 0 1000000000) = true)
    (h2 : (if s = 0 then decide (u = 0) else if s = 1 then decide (i ≤ a) else true) = r) : gOk a b c d s i u = r := by
  unfold gOk; rw [h, h2]; rfl

set_option maxHeartbeats 1000000 in
theorem impl_GateOk (a b c d s i u : Int) (f : Bool) (w : World) :
    Calls Try.prog 63 #[tV a b c d, gV s i u f] w fun e w' => e = .returned (.bool (gOk a b c d s i u)) ∧ Below w.heap.size w w' := by
  have HE : Hid (tV a b c d = .agg #[.int .i64 a, .int .i64 b, .int .i64 c, .int .i64 d]) := rfl
  rw [HE.out]
  unfold gV
  generalize hk : gOk a b c d s i u = k
  have HK : Hid (gOk a b c d s i u = k) := hk
  clear hk
  go_enter Try.func63, Try.ntmps63
  go_wp2_with fail
  rw [← HE.out]
  refine (impl_TimesOk a b c d _).mono ?_
  rintro e w1 ⟨rfl, hb1⟩
  have HB : Hid (Below w.heap.size w w1) := (((Below.refl _ _).alloc (Nat.le_refl _) _).alloc (by simp) _).trans (hb1.mono (by simp; omega))
  obtain ⟨hc, hf⟩ := bcell hb1
  clear hf hb1
  cases h0 : tOk a b c d
  · have HF : Hid (false = k) := HK.out ▸ (gOk_no (by rw [h0]; rfl)).symm
    go_wp2
    go_ret
    exact ⟨ret_bool HF.out, HB.out⟩
  cases h1 : inB s 0 4
  · have HF : Hid (false = k) := HK.out ▸ (gOk_no (by rw [h0, h1]; rfl)).symm
    go_wp2_with (go_at_call 53; refine (within_any _ _ _ _).mono ?_; rintro e w' ⟨rfl, rfl⟩)
    go_ret
    exact ⟨ret_bool HF.out, HB.out⟩
  cases h2 : inB i 0 1000000000
  · have HF : Hid (false = k) := HK.out ▸ (gOk_no (by rw [h0, h1, h2]; rfl)).symm
    go_wp2_with (go_at_call 53; refine (within_any _ _ _ _).mono ?_; rintro e w' ⟨rfl, rfl⟩)
    go_ret
    exact ⟨ret_bool HF.out, HB.out⟩
  cases h3 : inB u 0 1000000000
  · have HF : Hid (false = k) := HK.out ▸ (gOk_no (by rw [h0, h1, h2, h3]; rfl)).symm
    go_wp2_with (go_at_call 53; refine (within_any _ _ _ _).mono ?_; rintro e w' ⟨rfl, rfl⟩)
    go_ret
    exact ⟨ret_bool HF.out, HB.out⟩
  have HY : Hid ((if s = 0 then decide (u = 0) else if s = 1 then decide (i ≤ a) else true) = k) := by
    have := gOk_yes (a := a) (b := b) (c := c) (d := d) (s := s) (i := i) (u := u) (by rw [h0, h1, h2, h3]; rfl) rfl
    exact this.symm.trans HK.out
  by_cases hs0 : s = 0
  · have hs : (s == 0) = true := by simp [hs0]
    have HF : Hid ((u == 0) = k) := hid (by
      have := HY.out
      rw [if_pos hs0] at this
      rw [← this]
      by_cases hu : u = 0 <;> simp [hu])
    clear hs0
    go_wp2_with (go_at_call 53; refine (within_any _ _ _ _).mono ?_; rintro e w' ⟨rfl, rfl⟩)
    go_ret
    exact ⟨ret_bool HF.out, HB.out⟩
  have hs : (s == 0) = false := by simp [hs0]
  by_cases hs1 : s = 1
  · have hs' : (s == 1) = true := by simp [hs1]
    have hs'' : (s != 1) = false := by simp [hs1]
    have HF : Hid (decide (i ≤ a) = k) := by
      have := HY.out
      rw [if_neg hs0, if_pos hs1] at this
      exact this
    clear hs0 hs1
    by_cases hia : i ≤ a
    · have HF2 : Hid (true = k) := hid (by rw [← HF.out]; simp [hia])
      go_wp2_with (go_at_call 53; refine (within_any _ _ _ _).mono ?_; rintro e w' ⟨rfl, rfl⟩)
      go_ret
      exact ⟨by first | exact ret_bool HF2.out | exact ret_bool HF.out, HB.out⟩
    · have HF2 : Hid (false = k) := hid (by rw [← HF.out]; simp [hia])
      go_wp2_with (go_at_call 53; refine (within_any _ _ _ _).mono ?_; rintro e w' ⟨rfl, rfl⟩)
      go_ret
      exact ⟨by first | exact ret_bool HF2.out | exact ret_bool HF.out, HB.out⟩
  · have hs' : (s == 1) = false := by simp [hs1]
    have hs'' : (s != 1) = true := by simp [hs1]
    have HF : Hid (true = k) := by
      have := HY.out
      rw [if_neg hs0, if_neg hs1] at this
      exact this
    clear hs0 hs1
    go_wp2_with (go_at_call 53; refine (within_any _ _ _ _).mono ?_; rintro e w' ⟨rfl, rfl⟩)
    go_ret
    exact ⟨ret_bool HF.out, HB.out⟩

set_option maxHeartbeats 1000000 in
theorem spec_GateOk (a b c d s i u : Int) (f : Bool) (w : World) :
    Calls Try.prog 57 #[tV a b c d, gV s i u f] w fun e w' => e = .returned (.bool (gOk a b c d s i u)) ∧ Below w.heap.size w w' := by
  have HE : Hid (tV a b c d = .agg #[.int .i64 a, .int .i64 b, .int .i64 c, .int .i64 d]) := rfl
  rw [HE.out]
  unfold gV
  generalize hk : gOk a b c d s i u = k
  have HK : Hid (gOk a b c d s i u = k) := hk
  clear hk
  go_enter Try.func57, Try.ntmps57
  go_wp2_with fail
  rw [← HE.out]
  refine (spec_TimesOk a b c d _).mono ?_
  rintro e w1 ⟨rfl, hb1⟩
  have HB : Hid (Below w.heap.size w w1) := (((Below.refl _ _).alloc (Nat.le_refl _) _).alloc (by simp) _).trans (hb1.mono (by simp; omega))
  obtain ⟨hc, hf⟩ := bcell hb1
  clear hf hb1
  cases h0 : tOk a b c d
  · have HF : Hid (false = k) := HK.out ▸ (gOk_no (by rw [h0]; rfl)).symm
    go_wp2
    go_ret
    exact ⟨ret_bool HF.out, HB.out⟩
  cases h1 : inB s 0 4
  · have HF : Hid (false = k) := HK.out ▸ (gOk_no (by rw [h0, h1]; rfl)).symm
    go_wp2_with (go_at_call 34; refine (l1in_any _ _ _ _).mono ?_; rintro e w' ⟨rfl, rfl⟩)
    go_ret
    exact ⟨ret_bool HF.out, HB.out⟩
  cases h2 : inB i 0 1000000000
  · have HF : Hid (false = k) := HK.out ▸ (gOk_no (by rw [h0, h1, h2]; rfl)).symm
    go_wp2_with (go_at_call 34; refine (l1in_any _ _ _ _).mono ?_; rintro e w' ⟨rfl, rfl⟩)
    go_ret
    exact ⟨ret_bool HF.out, HB.out⟩
  cases h3 : inB u 0 1000000000
  · have HF : Hid (false = k) := HK.out ▸ (gOk_no (by rw [h0, h1, h2, h3]; rfl)).symm
    go_wp2_with (go_at_call 34; refine (l1in_any _ _ _ _).mono ?_; rintro e w' ⟨rfl, rfl⟩)
    go_ret
    exact ⟨ret_bool HF.out, HB.out⟩
  have HY : Hid ((if s = 0 then decide (u = 0) else if s = 1 then decide (i ≤ a) else true) = k) := by
    have := gOk_yes (a := a) (b := b) (c := c) (d := d) (s := s) (i := i) (u := u) (by rw [h0, h1, h2, h3]; rfl) rfl
    exact this.symm.trans HK.out
  by_cases hs0 : s = 0
  · have hs : (s == 0) = true := by simp [hs0]
    have HF : Hid ((u == 0) = k) := hid (by
      have := HY.out
      rw [if_pos hs0] at this
      rw [← this]
      by_cases hu : u = 0 <;> simp [hu])
    clear hs0
    go_wp2_with (go_at_call 34; refine (l1in_any _ _ _ _).mono ?_; rintro e w' ⟨rfl, rfl⟩)
    go_ret
    exact ⟨ret_bool HF.out, HB.out⟩
  have hs : (s == 0) = false := by simp [hs0]
  by_cases hs1 : s = 1
  · have hs' : (s == 1) = true := by simp [hs1]
    have hs'' : (s != 1) = false := by simp [hs1]
    have HF : Hid (decide (i ≤ a) = k) := by
      have := HY.out
      rw [if_neg hs0, if_pos hs1] at this
      exact this
    clear hs0 hs1
    by_cases hia : i ≤ a
    · have HF2 : Hid (true = k) := hid (by rw [← HF.out]; simp [hia])
      go_wp2_with (go_at_call 34; refine (l1in_any _ _ _ _).mono ?_; rintro e w' ⟨rfl, rfl⟩)
      go_ret
      exact ⟨by first | exact ret_bool HF2.out | exact ret_bool HF.out, HB.out⟩
    · have HF2 : Hid (false = k) := hid (by rw [← HF.out]; simp [hia])
      go_wp2_with (go_at_call 34; refine (l1in_any _ _ _ _).mono ?_; rintro e w' ⟨rfl, rfl⟩)
      go_ret
      exact ⟨by first | exact ret_bool HF2.out | exact ret_bool HF.out, HB.out⟩
  · have hs' : (s == 1) = false := by simp [hs1]
    have hs'' : (s != 1) = true := by simp [hs1]
    have HF : Hid (true = k) := by
      have := HY.out
      rw [if_neg hs0, if_neg hs1] at this
      exact this
    clear hs0 hs1
    go_wp2_with (go_at_call 34; refine (l1in_any _ _ _ _).mono ?_; rintro e w' ⟨rfl, rfl⟩)
    go_ret
    exact ⟨ret_bool HF.out, HB.out⟩

set_option maxHeartbeats 400000 in
theorem impl_FeltOk (a n o : Bool) (b : Int) (m : Bool) (w : World) :
    Calls Try.prog 64 #[fV a n o b m] w fun e w' => e = .returned (.bool (inB b 0 2)) ∧ Below w.heap.size w w' := by
  unfold fV
  go_enter Try.func64, Try.ntmps64
  go_wp2_with (go_at_call 53; refine (within_any _ _ _ _).mono ?_; rintro e w' ⟨rfl, rfl⟩)
  go_ret
  exact ⟨rfl, (Below.refl _ _).alloc (Nat.le_refl _) _⟩

set_option maxHeartbeats 400000 in
theorem spec_FeltOk (a n o : Bool) (b : Int) (m : Bool) (w : World) :
    Calls Try.prog 50 #[fV a n o b m] w fun e w' => e = .returned (.bool (inB b 0 2)) ∧ Below w.heap.size w w' := by
  unfold fV
  go_enter Try.func50, Try.ntmps50
  go_wp2_with (go_at_call 34; refine (l1in_any _ _ _ _).mono ?_; rintro e w' ⟨rfl, rfl⟩)
  go_ret
  exact ⟨rfl, (Below.refl _ _).alloc (Nat.le_refl _) _⟩

end Go.Proofs.Ytcidikmbngflcab
