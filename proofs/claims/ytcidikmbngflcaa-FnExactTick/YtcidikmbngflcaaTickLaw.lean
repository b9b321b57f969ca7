/-
  FnExactTick: the law's walk out of the contracts, and its row.
-/
import Derived.Test.YtcidikmbngflcaaSpecTick
import Derived.Test.YtcidikmbngflcaaImplTick
import Derived.Test.YtcidikmbngflcaaEqSaid
import Derived.Test.YtcidikmbngflcaaNewSaid
import Derived.Test.YtcidikmbngflcaaToG
import Derived.Test.YtcidikmbngflcaaToF
import Derived.Test.YtcidikmbngflcaaOpenGF
namespace Go.Proofs.Ytcidikmbngflcaa
open Go.ChangeShapes Go.WideShapes Go.ChangeAt Go.RowKit
set_option maxRecDepth 100000

theorem tickV_form (a b c d s i u : Int) (f x n o : Bool) (br : Int) (m : Bool) : ∃ (p0 : Bool) (p1 p2 p3 : Int) (p4 p5 p6 p7 p8 : Bool), tickV a b c d s i u f x n o br m = .agg #[.bool p0, .int .i64 p1, .int .i64 p2, .int .i64 p3, .bool p4, .bool p5, .bool p6, .bool p7, .bool p8] := by
  unfold tickV
  split
  · exact ⟨_, _, _, _, _, _, _, _, _, rfl⟩
  · exact ⟨_, _, _, _, _, _, _, _, _, rfl⟩

/-- The three boxes of the law. -/
def Wl (w : World) (a b c d s i u : Int) (f x n o : Bool) (br : Int) (m : Bool) : World :=
  ((w.alloc (.cells #[.int .i64 a, .int .i64 b, .int .i64 c, .int .i64 d] 51)).alloc (.cells #[.int .i64 s, .int .i64 i, .int .i64 u, .bool f] 55)).alloc
    (.cells #[.bool x, .bool n, .bool o, .int .i64 br, .bool m] 60)

theorem heldL {w w' W : World} {a b c d s i u : Int} {f x n o : Bool} {br : Int} {m : Bool} (hW : W = Wl w a b c d s i u f x n o br m) (h : Below W.heap.size W w') :
    Below W.heap.size W w' ∧ w'.cell? ⟨w.heap.size, 0, none⟩ = some (.int .i64 a) ∧ w'.cell? ⟨w.heap.size, 1, none⟩ = some (.int .i64 b) ∧ w'.cell? ⟨w.heap.size, 2, none⟩ = some (.int .i64 c) ∧ w'.cell? ⟨w.heap.size, 3, none⟩ = some (.int .i64 d) ∧ w'.cell? ⟨w.heap.size + 1, 0, none⟩ = some (.int .i64 s) ∧ w'.cell? ⟨w.heap.size + 1, 1, none⟩ = some (.int .i64 i) ∧ w'.cell? ⟨w.heap.size + 1, 2, none⟩ = some (.int .i64 u) ∧ w'.cell? ⟨w.heap.size + 1, 3, none⟩ = some (.bool f) ∧ w'.cell? ⟨w.heap.size + 1 + 1, 0, none⟩ = some (.bool x) ∧ w'.cell? ⟨w.heap.size + 1 + 1, 1, none⟩ = some (.bool n) ∧ w'.cell? ⟨w.heap.size + 1 + 1, 2, none⟩ = some (.bool o) ∧ w'.cell? ⟨w.heap.size + 1 + 1, 3, none⟩ = some (.int .i64 br) ∧ w'.cell? ⟨w.heap.size + 1 + 1, 4, none⟩ = some (.bool m) := by
  have hz : W.heap.size = w.heap.size + 3 := by rw [hW]; simp [Wl]
  refine ⟨h, ?_, ?_, ?_, ?_, ?_, ?_, ?_, ?_, ?_, ?_, ?_, ?_, ?_⟩
  all_goals (rw [h.cell (by simp; omega), hW]; simp [Wl, go_sem])

theorem heldM {w w' W wc : World} {a b c d s i u : Int} {f x n o : Bool} {br : Int} {m : Bool} (hW : W = Wl w a b c d s i u f x n o br m) (h1 : Below W.heap.size W wc) (h : Below wc.heap.size wc w') :
    Below wc.heap.size wc w' ∧ w'.cell? ⟨w.heap.size, 0, none⟩ = some (.int .i64 a) ∧ w'.cell? ⟨w.heap.size, 1, none⟩ = some (.int .i64 b) ∧ w'.cell? ⟨w.heap.size, 2, none⟩ = some (.int .i64 c) ∧ w'.cell? ⟨w.heap.size, 3, none⟩ = some (.int .i64 d) ∧ w'.cell? ⟨w.heap.size + 1, 0, none⟩ = some (.int .i64 s) ∧ w'.cell? ⟨w.heap.size + 1, 1, none⟩ = some (.int .i64 i) ∧ w'.cell? ⟨w.heap.size + 1, 2, none⟩ = some (.int .i64 u) ∧ w'.cell? ⟨w.heap.size + 1, 3, none⟩ = some (.bool f) ∧ w'.cell? ⟨w.heap.size + 1 + 1, 0, none⟩ = some (.bool x) ∧ w'.cell? ⟨w.heap.size + 1 + 1, 1, none⟩ = some (.bool n) ∧ w'.cell? ⟨w.heap.size + 1 + 1, 2, none⟩ = some (.bool o) ∧ w'.cell? ⟨w.heap.size + 1 + 1, 3, none⟩ = some (.int .i64 br) ∧ w'.cell? ⟨w.heap.size + 1 + 1, 4, none⟩ = some (.bool m) :=
  ⟨h, (heldL hW (h1.trans (h.mono h1.size))).2⟩

set_option maxRecDepth 100000 in
set_option maxHeartbeats 4000000 in
theorem tick_walk (a b c d s i u : Int) (f x n o : Bool) (br : Int) (m : Bool) (w : World) :
    Calls Try.prog 12 #[tV a b c d, gV s i u f, fV x n o br m] w fun e w' => e = .returned (.bool true) ∧ Below w.heap.size w w' := by
  have HT : Hid (tV a b c d = .agg #[.int .i64 a, .int .i64 b, .int .i64 c, .int .i64 d]) := rfl
  have HG : Hid (gV s i u f = .agg #[.int .i64 s, .int .i64 i, .int .i64 u, .bool f]) := rfl
  have HF : Hid (fV x n o br m = .agg #[.bool x, .bool n, .bool o, .int .i64 br, .bool m]) := rfl
  rw [HT.out, HG.out, HF.out]
  obtain ⟨p0, p1, p2, p3, p4, p5, p6, p7, p8, hp⟩ := tickV_form a b c d s i u f x n o br m
  have HP : Hid (tickV a b c d s i u f x n o br m = .agg #[.bool p0, .int .i64 p1, .int .i64 p2, .int .i64 p3, .bool p4, .bool p5, .bool p6, .bool p7, .bool p8]) := hp
  clear hp
  go_enter Try.func12, Try.ntmps12
  go_wp2_with fail
  obtain ⟨W, hW⟩ : ∃ W, W = Wl w a b c d s i u f x n o br m := ⟨_, rfl⟩
  have HW : Hid (W = Wl w a b c d s i u f x n o br m) := hW
  unfold Wl at hW
  rw [← hW]
  clear hW
  have HB0 : Hid (Below w.heap.size w W) := hid (by rw [HW.out]; exact (((Below.refl _ _).alloc (Nat.le_refl _) _).alloc (by simp) _).alloc (by simp; omega) _)
  have hz : W.heap.size = w.heap.size + 3 := by rw [HW.out]; simp [Wl]
  have HZ : Hid (W.heap.size = w.heap.size + 3) := hz
  clear hz
  have hs0 : W.heap.size ≤ W.heap.size := Nat.le_refl _
  go_cut [7] (fun v7 wd => Out9 W p0 p1 p2 p3 p4 p5 p6 p7 p8 v7 wd)
  case first =>
    go_region_held3 (fun w' => Below W.heap.size W w' ∧ w'.cell? ⟨w.heap.size, 0, none⟩ = some (.int .i64 a) ∧ w'.cell? ⟨w.heap.size, 1, none⟩ = some (.int .i64 b) ∧ w'.cell? ⟨w.heap.size, 2, none⟩ = some (.int .i64 c) ∧ w'.cell? ⟨w.heap.size, 3, none⟩ = some (.int .i64 d) ∧ w'.cell? ⟨w.heap.size + 1, 0, none⟩ = some (.int .i64 s) ∧ w'.cell? ⟨w.heap.size + 1, 1, none⟩ = some (.int .i64 i) ∧ w'.cell? ⟨w.heap.size + 1, 2, none⟩ = some (.int .i64 u) ∧ w'.cell? ⟨w.heap.size + 1, 3, none⟩ = some (.bool f) ∧ w'.cell? ⟨w.heap.size + 1 + 1, 0, none⟩ = some (.bool x) ∧ w'.cell? ⟨w.heap.size + 1 + 1, 1, none⟩ = some (.bool n) ∧ w'.cell? ⟨w.heap.size + 1 + 1, 2, none⟩ = some (.bool o) ∧ w'.cell? ⟨w.heap.size + 1 + 1, 3, none⟩ = some (.int .i64 br) ∧ w'.cell? ⟨w.heap.size + 1 + 1, 4, none⟩ = some (.bool m))
      ((refine heldL HW.out ?_; first | (with_reducible exact Below.drew (Below.refl _ _)) | (with_reducible exact Below.drew (Below.alloc (Below.refl _ _) (Nat.le_refl _) _)) | (with_reducible exact held_on (by assumption) (by assumption)) | (with_reducible exact Below.alloc (And.left (by assumption)) (Below.size (And.left (by assumption))) _) | (with_reducible exact re_alloc (And.left (by assumption)) (by assumption) (by assumption) _) | (with_reducible exact below9 (And.left (by assumption)) (by assumption) _ _ _ _ _ _ _ _ _) | (with_reducible exact And.left (by assumption))))
      (first | (go_at_call 25; refine (toTimes_any a b c d _).mono ?_; rintro e w1 ⟨rfl, hb1⟩; have hs1 := held_size (by assumption) hb1; (first | (with_reducible have hz9 := zero_here hb1) | (with_reducible have hz9 := zero_drew hb1) | (with_reducible have hz9 := zero_carry (by assumption) hb1) | skip)) | (go_at_call 28; refine (toGate_any s i u f _).mono ?_; rintro e w1 ⟨rfl, hb1⟩; have hs1 := held_size (by assumption) hb1; (first | (with_reducible have hz9 := zero_here hb1) | (with_reducible have hz9 := zero_drew hb1) | (with_reducible have hz9 := zero_carry (by assumption) hb1) | skip)) | (go_at_call 31; refine (toFelt_any x n o br m _).mono ?_; rintro e w1 ⟨rfl, hb1⟩; have hs1 := held_size (by assumption) hb1; (first | (with_reducible have hz9 := zero_here hb1) | (with_reducible have hz9 := zero_drew hb1) | (with_reducible have hz9 := zero_carry (by assumption) hb1) | skip)) | (go_at_call 33; refine (spec_Tick a b c d s i u f x n o br m _).mono ?_; rintro e w1 ⟨rfl, hb1⟩; have hs1 := held_size (by assumption) hb1; rw [HP.out]; (first | (with_reducible have hz9 := zero_here hb1) | (with_reducible have hz9 := zero_drew hb1) | (with_reducible have hz9 := zero_carry (by assumption) hb1) | skip)))
    all_goals (go_wp2; go_meet; case rel => first | (with_reducible exact met_new (by assumption) (by assumption)) | (with_reducible exact met_old (by assumption) (by assumption) (by assumption)))
  case rest =>
    obtain ⟨w9, e9⟩ : ∃ y, y = wc := ⟨wc, rfl⟩
    subst e9
    obtain ⟨g7, rfl, hg7, hl7, hbc, k0, k1, k2, k3, k4, k5, k6, k7, k8⟩ := hcut
    have HBC : Hid (Below W.heap.size W w9) := hbc
    have HL7 : Hid (g7 < w9.heap.size) := hl7
    have HK : Hid (w9.cell? ⟨g7, 0, none⟩ = some (.bool p0) ∧ w9.cell? ⟨g7, 1, none⟩ = some (.int .i64 p1) ∧ w9.cell? ⟨g7, 2, none⟩ = some (.int .i64 p2) ∧ w9.cell? ⟨g7, 3, none⟩ = some (.int .i64 p3) ∧ w9.cell? ⟨g7, 4, none⟩ = some (.bool p4) ∧ w9.cell? ⟨g7, 5, none⟩ = some (.bool p5) ∧ w9.cell? ⟨g7, 6, none⟩ = some (.bool p6) ∧ w9.cell? ⟨g7, 7, none⟩ = some (.bool p7) ∧ w9.cell? ⟨g7, 8, none⟩ = some (.bool p8)) := ⟨k0, k1, k2, k3, k4, k5, k6, k7, k8⟩
    clear hbc hl7 hg7 hs0 k0 k1 k2 k3 k4 k5 k6 k7 k8
    have hs0 : w9.heap.size ≤ w9.heap.size := Nat.le_refl _
    go_upto_region 2 with fail
    go_cut [8] (fun v8 wd => Out9 w9 p0 p1 p2 p3 p4 p5 p6 p7 p8 v8 wd)
    case first =>
      go_region_held3 (fun w' => Below w9.heap.size w9 w' ∧ w'.cell? ⟨w.heap.size, 0, none⟩ = some (.int .i64 a) ∧ w'.cell? ⟨w.heap.size, 1, none⟩ = some (.int .i64 b) ∧ w'.cell? ⟨w.heap.size, 2, none⟩ = some (.int .i64 c) ∧ w'.cell? ⟨w.heap.size, 3, none⟩ = some (.int .i64 d) ∧ w'.cell? ⟨w.heap.size + 1, 0, none⟩ = some (.int .i64 s) ∧ w'.cell? ⟨w.heap.size + 1, 1, none⟩ = some (.int .i64 i) ∧ w'.cell? ⟨w.heap.size + 1, 2, none⟩ = some (.int .i64 u) ∧ w'.cell? ⟨w.heap.size + 1, 3, none⟩ = some (.bool f) ∧ w'.cell? ⟨w.heap.size + 1 + 1, 0, none⟩ = some (.bool x) ∧ w'.cell? ⟨w.heap.size + 1 + 1, 1, none⟩ = some (.bool n) ∧ w'.cell? ⟨w.heap.size + 1 + 1, 2, none⟩ = some (.bool o) ∧ w'.cell? ⟨w.heap.size + 1 + 1, 3, none⟩ = some (.int .i64 br) ∧ w'.cell? ⟨w.heap.size + 1 + 1, 4, none⟩ = some (.bool m))
        ((refine heldM HW.out HBC.out ?_; first | (with_reducible exact Below.drew (Below.refl _ _)) | (with_reducible exact Below.drew (Below.alloc (Below.refl _ _) (Nat.le_refl _) _)) | (with_reducible exact held_on (by assumption) (by assumption)) | (with_reducible exact Below.alloc (And.left (by assumption)) (Below.size (And.left (by assumption))) _) | (with_reducible exact re_alloc (And.left (by assumption)) (by assumption) (by assumption) _) | (with_reducible exact below9 (And.left (by assumption)) (by assumption) _ _ _ _ _ _ _ _ _) | (with_reducible exact And.left (by assumption))))
        (first | (go_at_call 25; refine (toTimes_any a b c d _).mono ?_; rintro e w1 ⟨rfl, hb1⟩; have hs1 := held_size (by assumption) hb1; (first | (with_reducible have hz9 := zero_here hb1) | (with_reducible have hz9 := zero_drew hb1) | (with_reducible have hz9 := zero_carry (by assumption) hb1) | skip)) | (go_at_call 28; refine (toGate_any s i u f _).mono ?_; rintro e w1 ⟨rfl, hb1⟩; have hs1 := held_size (by assumption) hb1; (first | (with_reducible have hz9 := zero_here hb1) | (with_reducible have hz9 := zero_drew hb1) | (with_reducible have hz9 := zero_carry (by assumption) hb1) | skip)) | (go_at_call 31; refine (toFelt_any x n o br m _).mono ?_; rintro e w1 ⟨rfl, hb1⟩; have hs1 := held_size (by assumption) hb1; (first | (with_reducible have hz9 := zero_here hb1) | (with_reducible have hz9 := zero_drew hb1) | (with_reducible have hz9 := zero_carry (by assumption) hb1) | skip)) | (go_at_call 34; refine (impl_Tick a b c d s i u f x n o br m _).mono ?_; rintro e w1 ⟨rfl, hb1⟩; have hs1 := held_size (by assumption) hb1; rw [HP.out]; (first | (with_reducible have hz9 := zero_here hb1) | (with_reducible have hz9 := zero_drew hb1) | (with_reducible have hz9 := zero_carry (by assumption) hb1) | skip)))
      all_goals (go_wp2; go_meet; case rel => first | (with_reducible exact met_new (by assumption) (by assumption)) | (with_reducible exact met_old (by assumption) (by assumption) (by assumption)))
    case rest =>
      obtain ⟨g8, rfl, hg8, hl8, hbd, j0, j1, j2, j3, j4, j5, j6, j7, j8⟩ := hcut
      have HBD : Hid (Below w9.heap.size w9 wc) := hbd
      obtain ⟨k0, k1, k2, k3, k4, k5, k6, k7, k8⟩ := HK.out
      have i0 : wc.cell? ⟨g7, 0, none⟩ = some (.bool p0) := (hbd.cell HL7.out).trans k0
      have i1 : wc.cell? ⟨g7, 1, none⟩ = some (.int .i64 p1) := (hbd.cell HL7.out).trans k1
      have i2 : wc.cell? ⟨g7, 2, none⟩ = some (.int .i64 p2) := (hbd.cell HL7.out).trans k2
      have i3 : wc.cell? ⟨g7, 3, none⟩ = some (.int .i64 p3) := (hbd.cell HL7.out).trans k3
      have i4 : wc.cell? ⟨g7, 4, none⟩ = some (.bool p4) := (hbd.cell HL7.out).trans k4
      have i5 : wc.cell? ⟨g7, 5, none⟩ = some (.bool p5) := (hbd.cell HL7.out).trans k5
      have i6 : wc.cell? ⟨g7, 6, none⟩ = some (.bool p6) := (hbd.cell HL7.out).trans k6
      have i7 : wc.cell? ⟨g7, 7, none⟩ = some (.bool p7) := (hbd.cell HL7.out).trans k7
      have i8 : wc.cell? ⟨g7, 8, none⟩ = some (.bool p8) := (hbd.cell HL7.out).trans k8
      clear hbd hg8 hl8 hs0 k0 k1 k2 k3 k4 k5 k6 k7 k8
      go_wp2_with fail
      refine (eqSaid_same p0 p1 p2 p3 p4 p5 p6 p7 p8 _).mono ?_
      rintro e w3 ⟨rfl, hb3⟩
      have HFIN : Hid (Below w.heap.size w w3) := hid (by
        have h1 := HBC.out.trans ((HBD.out.trans (hb3.mono HBD.out.size)).mono HBC.out.size)
        exact HB0.out.trans (h1.mono HB0.out.size))
      clear hb3
      go_wp2
      go_ret
      exact ⟨rfl, HFIN.out⟩

set_option maxRecDepth 100000 in
theorem tick_lifted (os : Os) (started : os.Started) (H : Type) (enc : TypeId × Value → H) :
    ReturnsInHanded {} Try.checked os 12 .any (Rows.fnExactTickSpec.pre6 enc Try.prog Try.f12 Rows.fnExactTickRow.domain false) (Rows.fnExactTickSpec.post enc Try.prog Try.f12 false true false false) := by
  refine returnsInHanded_of_change (C := Try.checked) Try.own started (by kernel_rfl) Try.func12
    (ChangeSpec.witness6 (enc := enc) (C := Try.checked) false ⟨#[], #[.agg #[.int .i64 0, .int .i64 0, .int .i64 0, .int .i64 0], .agg #[.int .i64 0, .int .i64 0, .int .i64 0, .bool false], .agg #[.bool false, .bool false, .bool false, .int .i64 0, .bool false]], []⟩ 8 (by kernel_rfl) (by kernel_rfl) (by kernel_rfl) (by kernel_rfl)) ?_
  intro W base args ds gs before hval0 hW hcnd _
  have hval : ∀ (j : Nat) t v, Try.f12.params[j]? = some t → args[j]? = some v → Value.okWide Try.prog W .any base t v := hval0
  have hW' := hW
  obtain ⟨p, q, hA0, hV, rfl, hfz, hnd⟩ := hW
  have hA : DataW.TrodAll enc Try.prog W 0 (fun _ => true) true Try.f12.params.toList args.toList ds p := hA0
  rw [Try.params12] at hA hval
  obtain ⟨v0, v1, v2, d0, d1, d2, r0, r1, r2, rfl, rfl, rfl, h0, h1, h2⟩ := trodAll_three hA
  obtain ⟨rfl, rfl⟩ := trodVars_none hV
  obtain ⟨a, b, c, d, rfl, _, _, _, _⟩ := open_times (hval 0 51 v0 rfl rfl) h0
  obtain ⟨s, i, u, f, rfl, _, _, _⟩ := open_gate (hval 1 55 v1 rfl rfl) h1
  obtain ⟨x, n, o, br, m, rfl, _⟩ := open_felt (hval 2 60 v2 rfl rfl) h2
  have lt0 : ∀ x ∈ r0, x.block < W.heap.size := by obtain ⟨m, hm⟩ := h0; exact DataW.trod_lt m _ _ _ hm
  have lt1 : ∀ x ∈ r1, x.block < W.heap.size := by obtain ⟨m, hm⟩ := h1; exact DataW.trod_lt m _ _ _ hm
  have lt2 : ∀ x ∈ r2, x.block < W.heap.size := by obtain ⟨m, hm⟩ := h2; exact DataW.trod_lt m _ _ _ hm
  clear hA0 hval0
  refine (tick_walk a b c d s i u f x n o br m W).mono fun e W' ⟨he, bel⟩ => ?_
  subst he
  exact ⟨_, rfl, _, _, _, [], _, [], hW', trodAll_mk1 (shut_bool Try.underlying4 _), trodAll_mk3 (Below.trod Try.laidOut (by kernel_rfl) (of_decide_eq_true (by kernel_rfl)) h0 bel lt0) (Below.trod Try.laidOut (by kernel_rfl) (of_decide_eq_true (by kernel_rfl)) h1 bel lt1) (Below.trod Try.laidOut (by kernel_rfl) (of_decide_eq_true (by kernel_rfl)) h2 bel lt2), rfl, bel.frame _, fun h => by cases h⟩

theorem tick_holds : Rows.FnExactTickSaid :=
  OpenClaim.holds_of_wide 12 Try.f12 rfl rfl rfl rfl rfl rfl rfl ⟨rfl, rfl, rfl, rfl, rfl⟩ rfl rfl rfl rfl rfl (by kernel_rfl) Try.func12 (by kernel_rfl)
    (of_decide_eq_true (by kernel_rfl)) (by unfold Func.isWrapper; first | (rw [if_pos (by decide +kernel)]; kernel_rfl) | (rw [if_neg (by decide +kernel)]; exact ⟨rfl, rfl⟩))
    (fun os started H enc _ => tick_lifted os started H enc)

#print axioms tick_holds
end Go.Proofs.Ytcidikmbngflcaa
