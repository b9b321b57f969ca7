/-
  spec.Soonest.
-/
import Derived.Test.YtcidikmbngflcabSpecDrive
namespace Go.Proofs.Ytcidikmbngflcab
open Go.ChangeShapes Go.WideShapes Go.ChangeAt Go.RowKit
set_option maxRecDepth 100000
set_option linter.unusedSimpArgs false

theorem Try.infoA : (Try.prog.info? 77).map (fun i => (i.zero, i.size, i.bytes)) = some (some (.agg #[.bool false, .bool false, .bool false, .bool false, .bool false]), 5, 5) := by kernel_rfl

/-- Asked for, always. -/
def askedA (_ : Nat) : AD := ⟨true, false, false, false, false⟩
def mayAt (t : TD) (steps : Int) (k : Nat) : Bool := (dSaid t steps askedA k).may
def soonestOf (t : TD) (steps : Int) : Int :=
  if t.ok && inB steps 1 1000 then (match (List.range 1200).find? (mayAt t steps) with | some k => (dSaid t steps askedA k).g.u | none => -1) else -1
theorem find_none {p : Nat → Bool} {n : Nat} (h : ∀ j, j < n → p j = false) : (List.range n).find? p = none := by
  rw [List.find?_eq_none]; intro x hx; rw [h x (by simpa using hx)]; simp
theorem find_some {p : Nat → Bool} {n k : Nat} (hk : k < n) (h : ∀ j, j < k → p j = false) (hp : p k = true) : (List.range n).find? p = some k := by
  rw [List.find?_range_eq_some]
  exact ⟨hp, by simpa using hk, fun j hj => by rw [h j hj]; rfl⟩

set_option maxHeartbeats 2000000 in
theorem l2asked_any (t : TD) (steps : Int) (w : World) :
    Calls Try.prog 35 #[t.v, .int .i64 steps] w fun e w' => ∃ v, e = .returned v ∧ RowV w.heap.size w' v 10 (driveLen t steps 1200) (fun i j => trueCell (trueAt t steps askedA i) j) ∧ Below w.heap.size w w' := by
  obtain ⟨i0, hi, hz0, hz1, hz2⟩ := info_parts Try.infoA
  have HT : Hid (t.v = .agg #[.int .i64 t.a, .int .i64 t.b, .int .i64 t.c, .int .i64 t.d]) := rfl
  rw [HT.out]
  obtain ⟨W1, hW1⟩ : ∃ W1, W1 = w.alloc (.cells #[.int .i64 t.a, .int .i64 t.b, .int .i64 t.c, .int .i64 t.d] 28) := ⟨_, rfl⟩
  have HZ : Hid (W1.heap.size = w.heap.size + 1) := hid (by rw [hW1]; simp)
  have HW : Hid (Below w.heap.size w W1) := hid (by rw [hW1]; exact (Below.refl _ _).alloc (Nat.le_refl _) _)
  have HTC : Hid (TCell W1 w.heap.size t) := hid (by rw [hW1]; exact ⟨by simp [go_sem], by simp [go_sem], by simp [go_sem], by simp [go_sem]⟩)
  have HW1 : Hid (W1 = w.alloc (.cells #[.int .i64 t.a, .int .i64 t.b, .int .i64 t.c, .int .i64 t.d] 28)) := hW1
  clear hW1
  go_enter Try.func35, Try.ntmps35
  go_wp2_with (at_make; refine wpList_make_full _ rfl _ _ 43 rfl (w.heap.size + 1) 77 i0 _ 5 Try.underlying43 hi hz0 hz1 _ _ _ _ 1200 rfl rfl rfl rfl (by rw [hz2]; omega) (by unfold maxLen; omega) (by simp) ?_; intro w1 hown hgrow)
  rw [← HW1.out] at hgrow
  have hsz : (w.alloc (.cells #[.int .i64 t.a, .int .i64 t.b, .int .i64 t.c, .int .i64 t.d] 28)).heap.size = w.heap.size + 1 := by simp
  rw [hsz] at hown
  have hlt1 : w.heap.size + 1 < w1.heap.size := (hown.lt (w.heap.size + 1) rfl).2
  have HR1 : Hid (Row w1 (w.heap.size + 1) 5 1200 (fun _ j => (#[.bool false, .bool false, .bool false, .bool false, .bool false] : Array Value)[j]!)) := row_made rfl hown hlt1
  have HB1 : Hid (Below (w.heap.size + 1) W1 w1) := hid (by rw [← HZ.out]; exact (Below.refl _ _).grown hgrow (Nat.le_refl _) (fun k e => by cases e))
  clear hown hgrow hsz hlt1
  go_loopw [10] (fun i wr => ∃ k : Nat, k ≤ 1200 ∧ i = .int .i64 k ∧ Row wr (w.heap.size + 1) 5 1200 (fun i j => actCl (if i < k then askedA i else act0) j) ∧ Below (w.heap.size + 1) W1 wr)
    (fun i _ => 1200 - (intOf i).toNat)
  case atStart =>
    refine ⟨0, Nat.zero_le _, rfl, HR1.out.congr (fun i j _ hj => ?_), HB1.out⟩
    have : j = 0 ∨ j = 1 ∨ j = 2 ∨ j = 3 ∨ j = 4 := by omega
    rcases this with rfl | rfl | rfl | rfl | rfl <;> rfl
  case round =>
    obtain ⟨k, hk, rfl, hrow, hbel⟩ := hrel
    by_cases hlt : k < 1200
    · have z0 := hrow.cells k 0 hlt (by omega)
      have zf := hrow.free
      simp only [Nat.add_zero] at z0
      have HROW : Hid (Row wr (w.heap.size + 1) 5 1200 (fun i j => actCl (if i < k then askedA i else act0) j)) := hrow
      have HBEL : Hid (Below (w.heap.size + 1) W1 wr) := hbel
      clear hrow hbel
      go_wp2
      go_roundw
      case rel =>
        refine ⟨k + 1, by omega, by go_num, ?_, HBEL.out.setCell (Nat.le_refl _) _⟩
        have := HROW.out.set k 0 hlt (by omega) (.bool true)
        simp only [Nat.add_zero] at this
        refine this.congr fun i j hi' hj' => ?_
        by_cases e1 : i = k
        · subst e1
          have : j = 0 ∨ j = 1 ∨ j = 2 ∨ j = 3 ∨ j = 4 := by omega
          rcases this with rfl | rfl | rfl | rfl | rfl <;> simp [actCl, askedA, act0]
        · have e2 : i < k + 1 ↔ i < k := by omega
          simp [e1, e2]
      case measure => simp [intOf]; omega
    · have ek : k = 1200 := by omega
      subst ek
      have HROW : Hid (Row wr (w.heap.size + 1) 5 1200 (fun i j => actCl (askedA i) j)) := hid (hrow.congr (fun i j hi' _ => by simp [hi']))
      have HBEL : Hid (Below (w.heap.size + 1) W1 wr) := hbel
      obtain ⟨t0, t1, t2, t3⟩ := HTC.out.below hbel (by omega)
      have HBW : Hid (Below w.heap.size w wr) := hid (HW.out.trans (hbel.mono (by omega)))
      clear hrow hbel
      go_wp2_with fail
      rw [← HT.out]
      refine (specDrive_some t steps (w.heap.size + 1) 0 1200 1200 askedA _ (by omega) (by omega) HROW.out.lt (fun i hi => acell_row HROW.out hi)).mono ?_
      rintro e w2 ⟨v, rfl, hv, hb2⟩
      have HV : Hid (RowV w.heap.size w2 v 10 (driveLen t steps 1200) (fun i j => trueCell (trueAt t steps askedA i) j)) := hid (by
        rcases hv with h | ⟨g, cap, e, hg, hr⟩
        · exact .inl h
        · exact .inr ⟨g, cap, e, Nat.le_trans HBW.out.size hg, hr⟩)
      have HB2 : Hid (Below w.heap.size w w2) := hid (HBW.out.trans (hb2.mono HBW.out.size))
      clear hv hb2
      go_wp2
      go_ret
      exact ⟨_, rfl, HV.out, HB2.out⟩

set_option maxHeartbeats 2000000 in
theorem specSoonest (t : TD) (steps : Int) (w : World) :
    Calls Try.prog 16 #[t.v, .int .i64 steps] w fun e w' => e = .returned (.int .i64 (soonestOf t steps)) ∧ Below w.heap.size w w' := by
  have HT : Hid (t.v = .agg #[.int .i64 t.a, .int .i64 t.b, .int .i64 t.c, .int .i64 t.d]) := rfl
  have HTT : Hid (tV t.a t.b t.c t.d = t.v) := rfl
  rw [HT.out]
  generalize hR : soonestOf t steps = R
  have HR : Hid (soonestOf t steps = R) := hR
  clear hR
  go_enter Try.func16, Try.ntmps16
  go_wp2_with fail
  rw [← HT.out]
  refine (spec_TimesOk t.a t.b t.c t.d _).mono ?_
  rintro e w1 ⟨rfl, hb1⟩
  obtain ⟨W1, hW1⟩ : ∃ W1, W1 = w.alloc (.cells #[.int .i64 t.a, .int .i64 t.b, .int .i64 t.c, .int .i64 t.d] 28) := ⟨_, rfl⟩
  have hz : W1.heap.size = w.heap.size + 1 := by rw [hW1]; simp
  have HX : Hid (Below (w.heap.size + 1) W1 w1) := by rw [← hW1] at hb1; rw [← hz]; exact hb1
  have HW : Hid (Below w.heap.size w W1) := by rw [hW1]; exact (Below.refl _ _).alloc (Nat.le_refl _) _
  have HTC : Hid (TCell W1 w.heap.size t) := by rw [hW1]; exact ⟨by simp [go_sem], by simp [go_sem], by simp [go_sem], by simp [go_sem]⟩
  clear hb1 hW1 hz
  cases hk : tOk t.a t.b t.c t.d
  · have HN0 : Hid (-1 = R) := hid (by rw [← HR.out]; simp [soonestOf, TD.ok, hk])
    go_wp2
    go_ret
    exact ⟨ret_int HN0.out, HW.out.trans (HX.out.mono (by omega))⟩
  cases hst : inB steps 1 1000
  · have HN0 : Hid (-1 = R) := hid (by rw [← HR.out]; simp [soonestOf, hst])
    go_wp2_with (go_at_call 34; refine (l1in_any _ _ _ _).mono ?_; rintro e w' ⟨rfl, rfl⟩)
    go_ret
    exact ⟨ret_int HN0.out, HW.out.trans (HX.out.mono (by omega))⟩
  have HDL : Hid (driveLen t steps 1200 = 1200) := hid (by simp [driveLen, driveOk, TD.ok, hk, hst])
  have HSO : Hid (soonestOf t steps = (match (List.range 1200).find? (mayAt t steps) with | some k => (dSaid t steps askedA k).g.u | none => -1)) := hid (by simp [soonestOf, TD.ok, hk, hst])
  obtain ⟨t0, t1, t2, t3⟩ := HTC.out.below HX.out (by omega)
  have HBW : Hid (Below w.heap.size w w1) := hid (HW.out.trans (HX.out.mono (by omega)))
  go_wp2_with fail
  refine (l1in_any _ _ _ _).mono ?_
  rintro e w1' ⟨rfl, hw1⟩
  replace hw1 := hw1.symm
  subst hw1
  go_wp2_with fail
  rw [← HT.out]
  refine (l2asked_any t steps _).mono ?_
  rintro e w2 ⟨v, rfl, hv, hb2⟩
  rw [HDL.out] at hv
  obtain ⟨g, cp, rfl, _, hrow⟩ := hv.formS (by omega)
  have HROW : Hid (Row w2 g 10 1200 (fun i j => trueCell (trueAt t steps askedA i) j)) := hrow
  have HB2 : Hid (Below w.heap.size w w2) := hid (HBW.out.trans (hb2.mono HBW.out.size))
  clear hv hb2 hrow t0 t1 t2 t3
  go_wp2_with fail
  go_loopw [19] (fun i wr => ∃ k : Nat, k ≤ 1200 ∧ i = .int .i64 k ∧ (∀ j, j < k → mayAt t steps j = false) ∧ Below w2.heap.size w2 wr) (fun i _ => 1200 - (intOf i).toNat)
  case atStart => exact ⟨0, Nat.zero_le _, rfl, fun j h => absurd h (by omega), Below.refl _ _⟩
  case round =>
    obtain ⟨k, hkl, rfl, hno, hbel⟩ := hrel
    have HNO : Hid (∀ j, j < k → mayAt t steps j = false) := hno
    have HBEL : Hid (Below w2.heap.size w2 wr) := hbel
    have HFIN : Hid (Below w.heap.size w wr) := hid (HB2.out.trans (hbel.mono HB2.out.size))
    clear hno hbel
    by_cases hlt : k < 1200
    · obtain ⟨c0, c1, c2, c3, c4, c5, c6, c7, c8, c9⟩ := trueCell_at (R := fun i => trueAt t steps askedA i) (HROW.out.below HBEL.out HROW.out.lt) hlt
      obtain ⟨ud, hud⟩ : ∃ ud, ud = trueAt t steps askedA k := ⟨_, rfl⟩
      have HUD : Hid (ud = trueAt t steps askedA k) := hud
      simp only [← hud] at c0 c1 c2 c3 c4 c5 c6 c7 c8 c9
      clear hud
      cases hm : ud.s.may
      · have HMF : Hid (mayAt t steps k = false) := hid (by rw [← hm, HUD.out]; rfl)
        go_wp2
        go_roundw
        case rel =>
          refine ⟨k + 1, by omega, by go_num, fun j hj => ?_, HBEL.out.alloc HBEL.out.size _⟩
          by_cases e : j = k
          · subst e; exact HMF.out
          · exact HNO.out j (by omega)
        case measure => simp [intOf]; omega
      · have HMT : Hid (ud.s.g.u = R) := hid (by
          rw [← HR.out, HSO.out, find_some hlt HNO.out (by unfold mayAt; rw [← hm, HUD.out]; rfl), HUD.out]; rfl)
        go_wp2
        go_ret
        exact ⟨ret_int HMT.out, HFIN.out.alloc HFIN.out.size _⟩
    · have ek : k = 1200 := by omega
      subst ek
      have HMN : Hid (-1 = R) := hid (by rw [← HR.out, HSO.out, find_none HNO.out])
      go_wp2
      go_ret
      exact ⟨ret_int HMN.out, HFIN.out⟩

end Go.Proofs.Ytcidikmbngflcab
