/-
  FnExactFeltOk: the law's walk out of the contracts, and its row.
-/
import Derived.Test.YtcidikmbngflcaaGate
import Derived.Test.YtcidikmbngflcaaToF
import Derived.Test.YtcidikmbngflcaaOpenGF
namespace Go.Proofs.Ytcidikmbngflcaa
open Go.ChangeShapes Go.WideShapes Go.ChangeAt Go.RowKit
set_option maxRecDepth 100000

set_option maxHeartbeats 400000 in
theorem feltOk_walk (x n o : Bool) (b : Int) (m : Bool) (w : World) :
    Calls Try.prog 11 #[fV x n o b m] w fun e w' => e = .returned (.bool true) ∧ Below w.heap.size w w' := by
  have HE : Hid (fV x n o b m = .agg #[.bool x, .bool n, .bool o, .int .i64 b, .bool m]) := rfl
  rw [HE.out]
  have HT : Hid (∃ t, inB b 0 2 = t) := ⟨_, rfl⟩
  go_enter Try.func11, Try.ntmps11
  go_wp2_with fail
  rw [← HE.out]
  refine (toFelt_any x n o b m _).mono ?_
  rintro e w1 ⟨rfl, hb1⟩
  go_wp2_with fail
  refine (spec_FeltOk x n o b m _).mono ?_
  rintro e w2 ⟨rfl, hb2⟩
  have hb := hb1.trans (hb2.mono hb1.size)
  clear hb1 hb2
  obtain ⟨t, ht⟩ := HT.out
  rw [ht]
  have HT2 : Hid (inB b 0 2 = t) := ht
  clear ht HT
  obtain ⟨hc, hf⟩ := bcell hb
  go_wp2_with fail
  rw [← HE.out]
  refine (toFelt_any x n o b m _).mono ?_
  rintro e w3 ⟨rfl, hb3⟩
  go_wp2_with fail
  refine (impl_FeltOk x n o b m _).mono ?_
  rintro e w4 ⟨rfl, hb4⟩
  have hb' := hb.trans ((hb3.trans (hb4.mono hb3.size)).mono hb.size)
  clear hb hb3 hb4 hc hf
  rw [HT2.out]
  have hb2 := ((Below.refl _ _).alloc (Nat.le_refl _) _).trans (hb'.mono (by simp))
  clear hb'
  cases t
  all_goals
    go_wp2
    go_ret
    exact ⟨rfl, hb2⟩

set_option maxRecDepth 100000 in
theorem feltOk_lifted (os : Os) (started : os.Started) (H : Type) (enc : TypeId × Value → H) :
    ReturnsInHanded {} Try.checked os 11 .any (Rows.fnExactFeltOkSpec.pre6 enc Try.prog Try.f11 Rows.fnExactFeltOkRow.domain false) (Rows.fnExactFeltOkSpec.post enc Try.prog Try.f11 false true false false) := by
  refine returnsInHanded_of_change (C := Try.checked) Try.own started (by kernel_rfl) Try.func11
    (ChangeSpec.witness6 (enc := enc) (C := Try.checked) false ⟨#[], #[.agg #[.bool false, .bool false, .bool false, .int .i64 0, .bool false]], []⟩ 8 (by kernel_rfl) (by kernel_rfl) (by kernel_rfl) (by kernel_rfl)) ?_
  intro W base args ds gs before hval0 hW hcnd _
  have hval : ∀ (j : Nat) t v, Try.f11.params[j]? = some t → args[j]? = some v → Value.okWide Try.prog W .any base t v := hval0
  have hW' := hW
  obtain ⟨p, q, hA0, hV, rfl, hfz, hnd⟩ := hW
  have hA : DataW.TrodAll enc Try.prog W 0 (fun _ => true) true Try.f11.params.toList args.toList ds p := hA0
  rw [Try.params11] at hA hval
  obtain ⟨v0, d0, rfl, rfl, h0⟩ := trodAll_one hA
  obtain ⟨rfl, rfl⟩ := trodVars_none hV
  obtain ⟨x, n, o, b, m, rfl, _⟩ := open_felt (hval 0 60 v0 rfl rfl) h0
  have lt0 : ∀ x ∈ p, x.block < W.heap.size := by obtain ⟨m, hm⟩ := h0; exact DataW.trod_lt m _ _ _ hm
  clear hA0 hval0
  refine (feltOk_walk x n o b m W).mono fun e W' ⟨he, bel⟩ => ?_
  subst he
  exact ⟨_, rfl, _, _, _, [], _, [], hW', trodAll_mk1 (shut_bool Try.underlying4 _), trodAll_mk1 (Below.trod Try.laidOut (by kernel_rfl) (of_decide_eq_true (by kernel_rfl)) h0 bel lt0), rfl, bel.frame _, fun h => by cases h⟩

theorem feltOk_holds : Rows.FnExactFeltOkSaid :=
  OpenClaim.holds_of_wide 11 Try.f11 rfl rfl rfl rfl rfl rfl rfl ⟨rfl, rfl, rfl, rfl, rfl⟩ rfl rfl rfl rfl rfl (by kernel_rfl) Try.func11 (by kernel_rfl)
    (of_decide_eq_true (by kernel_rfl)) (by unfold Func.isWrapper; first | (rw [if_pos (by decide +kernel)]; kernel_rfl) | (rw [if_neg (by decide +kernel)]; exact ⟨rfl, rfl⟩))
    (fun os started H enc _ => feltOk_lifted os started H enc)

#print axioms feltOk_holds
end Go.Proofs.Ytcidikmbngflcaa
