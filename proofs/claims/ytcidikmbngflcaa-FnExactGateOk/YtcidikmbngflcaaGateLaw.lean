/-
  FnExactGateOk: the law's walk out of the contracts, and its row.
-/
import Derived.Test.YtcidikmbngflcaaGate
import Derived.Test.YtcidikmbngflcaaToG
import Derived.Test.YtcidikmbngflcaaOpenGF
import Derived.Deep.RegionHeld3
namespace Go.Proofs.Ytcidikmbngflcaa
open Go.ChangeShapes Go.WideShapes Go.ChangeAt Go.RowKit
set_option maxRecDepth 100000

/-- What is held while a drawn region goes: old memory stands; the two boxes read as they were laid. -/
theorem held2 {W w' : World} {b1 b2 : Nat} {x0 x1 x2 x3 y0 y1 y2 y3 : Value} (l1 : b1 < W.heap.size) (l2 : b2 < W.heap.size)
    (c0 : W.cell? ⟨b1, 0, none⟩ = some x0) (c1 : W.cell? ⟨b1, 1, none⟩ = some x1) (c2 : W.cell? ⟨b1, 2, none⟩ = some x2) (c3 : W.cell? ⟨b1, 3, none⟩ = some x3)
    (e0 : W.cell? ⟨b2, 0, none⟩ = some y0) (e1 : W.cell? ⟨b2, 1, none⟩ = some y1) (e2 : W.cell? ⟨b2, 2, none⟩ = some y2) (e3 : W.cell? ⟨b2, 3, none⟩ = some y3)
    (hb : Below W.heap.size W w') :
    Below W.heap.size W w' ∧ w'.cell? ⟨b1, 0, none⟩ = some x0 ∧ w'.cell? ⟨b1, 1, none⟩ = some x1 ∧ w'.cell? ⟨b1, 2, none⟩ = some x2 ∧ w'.cell? ⟨b1, 3, none⟩ = some x3 ∧
      w'.cell? ⟨b2, 0, none⟩ = some y0 ∧ w'.cell? ⟨b2, 1, none⟩ = some y1 ∧ w'.cell? ⟨b2, 2, none⟩ = some y2 ∧ w'.cell? ⟨b2, 3, none⟩ = some y3 :=
  ⟨hb, (hb.cell l1).trans c0, (hb.cell l1).trans c1, (hb.cell l1).trans c2, (hb.cell l1).trans c3, (hb.cell l2).trans e0, (hb.cell l2).trans e1, (hb.cell l2).trans e2, (hb.cell l2).trans e3⟩

theorem held_step {W x w1 : World} {R : Prop} (h : Below W.heap.size W x ∧ R) (hb : Below x.heap.size x w1) : Below W.heap.size W w1 := h.1.trans (hb.mono h.1.size)

set_option maxHeartbeats 1000000 in
theorem gateOk_walk (a b c d s i u : Int) (f : Bool) (w : World) :
    Calls Try.prog 10 #[tV a b c d, gV s i u f] w fun e w' => e = .returned (.bool true) ∧ Below w.heap.size w w' := by
  have HT : Hid (tV a b c d = .agg #[.int .i64 a, .int .i64 b, .int .i64 c, .int .i64 d]) := rfl
  have HG : Hid (gV s i u f = .agg #[.int .i64 s, .int .i64 i, .int .i64 u, .bool f]) := rfl
  rw [HT.out, HG.out]
  go_enter Try.func10, Try.ntmps10
  go_wp2_with fail
  obtain ⟨W, hW⟩ : ∃ W, W = (w.alloc (.cells #[.int .i64 a, .int .i64 b, .int .i64 c, .int .i64 d] 51)).alloc (.cells #[.int .i64 s, .int .i64 i, .int .i64 u, .bool f] 55) := ⟨_, rfl⟩
  rw [← hW]
  have hz : W.heap.size = w.heap.size + 2 := by rw [hW]; simp
  have l1 : w.heap.size < W.heap.size := by omega
  have l2 : w.heap.size + 1 < W.heap.size := by omega
  have HB0 : Hid (Below w.heap.size w W) := by rw [hW]; exact ((Below.refl _ _).alloc (Nat.le_refl _) _).alloc (by simp) _
  have c0 : W.cell? ⟨w.heap.size, 0, none⟩ = some (.int .i64 a) := by rw [hW]; simp [go_sem]
  have c1 : W.cell? ⟨w.heap.size, 1, none⟩ = some (.int .i64 b) := by rw [hW]; simp [go_sem]
  have c2 : W.cell? ⟨w.heap.size, 2, none⟩ = some (.int .i64 c) := by rw [hW]; simp [go_sem]
  have c3 : W.cell? ⟨w.heap.size, 3, none⟩ = some (.int .i64 d) := by rw [hW]; simp [go_sem]
  have e0 : W.cell? ⟨w.heap.size + 1, 0, none⟩ = some (.int .i64 s) := by rw [hW]; simp [go_sem]
  have e1 : W.cell? ⟨w.heap.size + 1, 1, none⟩ = some (.int .i64 i) := by rw [hW]; simp [go_sem]
  have e2 : W.cell? ⟨w.heap.size + 1, 2, none⟩ = some (.int .i64 u) := by rw [hW]; simp [go_sem]
  have e3 : W.cell? ⟨w.heap.size + 1, 3, none⟩ = some (.bool f) := by rw [hW]; simp [go_sem]
  clear hW
  have HK : Hid (∃ t, gOk a b c d s i u = t) := ⟨_, rfl⟩
  obtain ⟨t, ht⟩ := HK.out
  have HT2 : Hid (gOk a b c d s i u = t) := ht
  clear ht HK
  go_region_held3 (fun w' => Below W.heap.size W w' ∧ w'.cell? ⟨w.heap.size, 0, none⟩ = some (.int .i64 a) ∧ w'.cell? ⟨w.heap.size, 1, none⟩ = some (.int .i64 b) ∧ w'.cell? ⟨w.heap.size, 2, none⟩ = some (.int .i64 c) ∧ w'.cell? ⟨w.heap.size, 3, none⟩ = some (.int .i64 d) ∧
      w'.cell? ⟨w.heap.size + 1, 0, none⟩ = some (.int .i64 s) ∧ w'.cell? ⟨w.heap.size + 1, 1, none⟩ = some (.int .i64 i) ∧ w'.cell? ⟨w.heap.size + 1, 2, none⟩ = some (.int .i64 u) ∧ w'.cell? ⟨w.heap.size + 1, 3, none⟩ = some (.bool f))
    ((refine held2 l1 l2 c0 c1 c2 c3 e0 e1 e2 e3 ?_; first | exact (Below.refl _ _).drew | exact held_step (by assumption) (by assumption) | exact And.left (by assumption)))
    (first | (go_at_call 25; refine (toTimes_any a b c d _).mono ?_; rintro e w1 ⟨rfl, hb1⟩) | (go_at_call 28; refine (toGate_any s i u f _).mono ?_; rintro e w1 ⟨rfl, hb1⟩) | (go_at_call 27; refine (spec_GateOk a b c d s i u f _).mono ?_; rintro e w1 ⟨rfl, hb1⟩; rw [HT2.out]))
  obtain ⟨hbW, _⟩ := (by assumption : Below W.heap.size W w1 ∧ _)
  go_wp2_with fail
  go_region_held3 (fun w' => Below W.heap.size W w' ∧ w'.cell? ⟨w.heap.size, 0, none⟩ = some (.int .i64 a) ∧ w'.cell? ⟨w.heap.size, 1, none⟩ = some (.int .i64 b) ∧ w'.cell? ⟨w.heap.size, 2, none⟩ = some (.int .i64 c) ∧ w'.cell? ⟨w.heap.size, 3, none⟩ = some (.int .i64 d) ∧
      w'.cell? ⟨w.heap.size + 1, 0, none⟩ = some (.int .i64 s) ∧ w'.cell? ⟨w.heap.size + 1, 1, none⟩ = some (.int .i64 i) ∧ w'.cell? ⟨w.heap.size + 1, 2, none⟩ = some (.int .i64 u) ∧ w'.cell? ⟨w.heap.size + 1, 3, none⟩ = some (.bool f))
    ((refine held2 l1 l2 c0 c1 c2 c3 e0 e1 e2 e3 ?_; first | exact hbW.drew | exact held_step (by assumption) (by assumption) | exact And.left (by assumption)))
    (first | (go_at_call 25; refine (toTimes_any a b c d _).mono ?_; rintro e w2 ⟨rfl, hb2⟩) | (go_at_call 28; refine (toGate_any s i u f _).mono ?_; rintro e w2 ⟨rfl, hb2⟩) | (go_at_call 29; refine (impl_GateOk a b c d s i u f _).mono ?_; rintro e w2 ⟨rfl, hb2⟩; rw [HT2.out]))
  obtain ⟨hbX, _⟩ := (by assumption : Below W.heap.size W w2 ∧ _)
  have HF : Hid (Below w.heap.size w w2) := HB0.out.trans (hbX.mono (by omega))
  clear hbX hbW
  cases t
  all_goals
    go_wp2
    go_ret
    exact ⟨rfl, HF.out⟩

set_option maxRecDepth 100000 in
theorem gateOk_lifted (os : Os) (started : os.Started) (H : Type) (enc : TypeId × Value → H) :
    ReturnsInHanded {} Try.checked os 10 .any (Rows.fnExactGateOkSpec.pre6 enc Try.prog Try.f10 Rows.fnExactGateOkRow.domain false) (Rows.fnExactGateOkSpec.post enc Try.prog Try.f10 false true false false) := by
  refine returnsInHanded_of_change (C := Try.checked) Try.own started (by kernel_rfl) Try.func10
    (ChangeSpec.witness6 (enc := enc) (C := Try.checked) false ⟨#[], #[.agg #[.int .i64 0, .int .i64 0, .int .i64 0, .int .i64 0], .agg #[.int .i64 0, .int .i64 0, .int .i64 0, .bool false]], []⟩ 8 (by kernel_rfl) (by kernel_rfl) (by kernel_rfl) (by kernel_rfl)) ?_
  intro W base args ds gs before hval0 hW hcnd _
  have hval : ∀ (j : Nat) t v, Try.f10.params[j]? = some t → args[j]? = some v → Value.okWide Try.prog W .any base t v := hval0
  have hW' := hW
  obtain ⟨p, q, hA0, hV, rfl, hfz, hnd⟩ := hW
  have hA : DataW.TrodAll enc Try.prog W 0 (fun _ => true) true Try.f10.params.toList args.toList ds p := hA0
  rw [Try.params10] at hA hval
  obtain ⟨v0, v1, d0, d1, p0, p1, rfl, rfl, rfl, h0, h1⟩ := trodAll_two hA
  obtain ⟨rfl, rfl⟩ := trodVars_none hV
  obtain ⟨a, b, c, d, rfl, _, _, _, _⟩ := open_times (hval 0 51 v0 rfl rfl) h0
  obtain ⟨s, i, u, f, rfl, _, _, _⟩ := open_gate (hval 1 55 v1 rfl rfl) h1
  have lt0 : ∀ x ∈ p0, x.block < W.heap.size := by obtain ⟨m, hm⟩ := h0; exact DataW.trod_lt m _ _ _ hm
  have lt1 : ∀ x ∈ p1, x.block < W.heap.size := by obtain ⟨m, hm⟩ := h1; exact DataW.trod_lt m _ _ _ hm
  clear hA0 hval0
  refine (gateOk_walk a b c d s i u f W).mono fun e W' ⟨he, bel⟩ => ?_
  subst he
  exact ⟨_, rfl, _, _, _, [], _, [], hW', trodAll_mk1 (shut_bool Try.underlying4 _), trodAll_mk2 (Below.trod Try.laidOut (by kernel_rfl) (of_decide_eq_true (by kernel_rfl)) h0 bel lt0) (Below.trod Try.laidOut (by kernel_rfl) (of_decide_eq_true (by kernel_rfl)) h1 bel lt1), rfl, bel.frame _, fun h => by cases h⟩

theorem gateOk_holds : Rows.FnExactGateOkSaid :=
  OpenClaim.holds_of_wide 10 Try.f10 rfl rfl rfl rfl rfl rfl rfl ⟨rfl, rfl, rfl, rfl, rfl⟩ rfl rfl rfl rfl rfl (by kernel_rfl) Try.func10 (by kernel_rfl)
    (of_decide_eq_true (by kernel_rfl)) (by unfold Func.isWrapper; first | (rw [if_pos (by decide +kernel)]; kernel_rfl) | (rw [if_neg (by decide +kernel)]; exact ⟨rfl, rfl⟩))
    (fun os started H enc _ => gateOk_lifted os started H enc)

#print axioms gateOk_holds

end Go.Proofs.Ytcidikmbngflcaa
