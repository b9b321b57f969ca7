/-
  FnExactSoonest: the law's walk out of the contracts, and its row.
-/
import Derived.Test.YtcidikmbngflcabSpecSoon
import Derived.Test.YtcidikmbngflcabOpenT
namespace Go.Proofs.Ytcidikmbngflcab
open Go.ChangeShapes Go.WideShapes Go.ChangeAt Go.RowKit
set_option maxRecDepth 100000

/-- What the law asks of impl.Soonest. -/
def ImplSoonest : Prop := ∀ (t : TD) (steps : Int) (w : World), (Lit.int .i64 steps).wf = true →
  Calls Try.prog 17 #[t.v, .int .i64 steps] w fun e w' => e = .returned (.int .i64 (soonestOf t steps)) ∧ Below w.heap.size w w'

set_option maxHeartbeats 1000000 in
theorem soonest_walk (IS : ImplSoonest) (t : TD) (steps : Int) (w : World) (hw : (Lit.int .i64 steps).wf = true) :
    Calls Try.prog 4 #[t.v, .int .i64 steps] w fun e w' => e = .returned (.bool true) ∧ Below w.heap.size w w' := by
  have HWF : Hid ((Lit.int .i64 steps).wf = true) := hw
  clear hw
  have HT : Hid (t.v = .agg #[.int .i64 t.a, .int .i64 t.b, .int .i64 t.c, .int .i64 t.d]) := rfl
  have HTT : Hid (tV t.a t.b t.c t.d = t.v) := rfl
  rw [HT.out]
  obtain ⟨r, hr⟩ : ∃ r, r = soonestOf t steps := ⟨_, rfl⟩
  have HR : Hid (r = soonestOf t steps) := hr
  clear hr
  have hrr : (r != r) = false := by simp
  obtain ⟨W1, hW1⟩ : ∃ W1, W1 = w.alloc (.cells #[.int .i64 t.a, .int .i64 t.b, .int .i64 t.c, .int .i64 t.d] 23) := ⟨_, rfl⟩
  have HZ : Hid (W1.heap.size = w.heap.size + 1) := hid (by rw [hW1]; simp)
  have HW : Hid (Below w.heap.size w W1) := hid (by rw [hW1]; exact (Below.refl _ _).alloc (Nat.le_refl _) _)
  have HTC : Hid (TCell W1 w.heap.size t) := hid (by rw [hW1]; exact ⟨by simp [go_sem], by simp [go_sem], by simp [go_sem], by simp [go_sem]⟩)
  have HW1 : Hid (W1 = w.alloc (.cells #[.int .i64 t.a, .int .i64 t.b, .int .i64 t.c, .int .i64 t.d] 23)) := hW1
  clear hW1
  go_enter Try.func4, Try.ntmps4
  go_wp2_with fail
  rw [← HT.out]
  refine (toTimes_any t.a t.b t.c t.d _).mono ?_
  rintro e w1 ⟨rfl, hb1⟩
  rw [HTT.out]
  rw [← HW1.out] at hb1
  have HB1 : Hid (Below W1.heap.size W1 w1) := hb1
  clear hb1
  go_wp2_with fail
  refine (specSoonest t steps _).mono ?_
  rintro e w2 ⟨rfl, hb2⟩
  rw [← HR.out]
  have HB2 : Hid (Below W1.heap.size W1 w2) := hid (HB1.out.trans (hb2.mono HB1.out.size))
  clear hb2
  obtain ⟨t0, t1, t2, t3⟩ := HTC.out.below HB2.out (by have := HZ.out; omega)
  go_wp2_with fail
  rw [← HT.out]
  refine (toTimes_any t.a t.b t.c t.d _).mono ?_
  rintro e w3 ⟨rfl, hb3⟩
  rw [HTT.out]
  have HB3 : Hid (Below W1.heap.size W1 w3) := hid (HB2.out.trans (hb3.mono HB2.out.size))
  clear hb3 t0 t1 t2 t3
  go_wp2_with fail
  refine (IS t steps _ HWF.out).mono ?_
  rintro e w4 ⟨rfl, hb4⟩
  rw [← HR.out]
  have HFIN : Hid (Below w.heap.size w w4) := hid (HW.out.trans ((HB3.out.trans (hb4.mono HB3.out.size)).mono HW.out.size))
  clear hb4
  go_wp2
  go_ret
  exact ⟨rfl, HFIN.out⟩

theorem soonest_lifted (IS : ImplSoonest) (os : Os) (started : os.Started) (H : Type) (enc : TypeId × Value → H) :
    ReturnsInHanded {} Try.checked os 4 .any (Rows.fnExactSoonestSpec.pre6 enc Try.prog Try.f4 Rows.fnExactSoonestRow.domain false) (Rows.fnExactSoonestSpec.post enc Try.prog Try.f4 false true false false) := by
  refine returnsInHanded_of_change (C := Try.checked) Try.own started (by kernel_rfl) Try.func4
    (ChangeSpec.witness6 (enc := enc) (C := Try.checked) false ⟨#[], #[.agg #[.int .i64 0, .int .i64 0, .int .i64 0, .int .i64 0], .int .i64 0], []⟩ 8 (by kernel_rfl) (by kernel_rfl) (by kernel_rfl) (by kernel_rfl)) ?_
  intro W base args ds gs before hval0 hW hcnd _
  have hval : ∀ (j : Nat) t v, Try.f4.params[j]? = some t → args[j]? = some v → Value.okWide Try.prog W .any base t v := hval0
  have hW' := hW
  obtain ⟨p, q, hA0, hV, rfl, hfz, hnd⟩ := hW
  have hA : DataW.TrodAll enc Try.prog W 0 (fun _ => true) true Try.f4.params.toList args.toList ds p := hA0
  rw [Try.params4] at hA hval
  obtain ⟨v0, v1, d0, d1, p0, p1, rfl, rfl, rfl, h0, h1⟩ := trodAll_two hA
  obtain ⟨rfl, rfl⟩ := trodVars_none hV
  have k1 := h1
  obtain ⟨a, b, c, d, rfl, _, _, _, _⟩ := open_times (hval 0 23 v0 rfl rfl) h0
  obtain ⟨x, rfl, rfl, rfl, wx⟩ := open_int Try.underlying3 (hval 1 3 v1 rfl rfl) h1
  have lt0 : ∀ x ∈ p0, x.block < W.heap.size := by obtain ⟨m, hm⟩ := h0; exact DataW.trod_lt m _ _ _ hm
  clear hA0 hval0
  refine (soonest_walk IS ⟨a, b, c, d⟩ x W wx).mono fun e W' ⟨he, bel⟩ => ?_
  subst he
  exact ⟨_, rfl, _, _, _, [], _, [], hW', trodAll_mk1 (shut_bool Try.underlying4 _), trodAll_mk2 (Below.trod Try.laidOut (by kernel_rfl) (of_decide_eq_true (by kernel_rfl)) h0 bel lt0) (shut_int Try.underlying3 wx), rfl, bel.frame _, fun h => by cases h⟩

theorem soonest_said (IS : ImplSoonest) : Rows.FnExactSoonestSaid :=
  OpenClaim.holds_of_wide 4 Try.f4 rfl rfl rfl rfl rfl rfl rfl ⟨rfl, rfl, rfl, rfl, rfl⟩ rfl rfl rfl rfl rfl (by kernel_rfl) Try.func4 (by kernel_rfl)
    (of_decide_eq_true (by kernel_rfl)) (by unfold Func.isWrapper; first | (rw [if_pos (by decide +kernel)]; kernel_rfl) | (rw [if_neg (by decide +kernel)]; exact ⟨rfl, rfl⟩))
    (fun os started H enc _ => soonest_lifted IS os started H enc)

end Go.Proofs.Ytcidikmbngflcab
