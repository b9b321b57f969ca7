/-
  spec.Tick: the specification's own text comes to the same plain function.
-/
import Derived.Test.YtcidikmbngflcabBox
import Derived.Deep.CutBlock
namespace Go.Proofs.Ytcidikmbngflcab
open Go.ChangeShapes Go.WideShapes Go.ChangeAt Go.RowKit
set_option maxRecDepth 100000
set_option linter.unusedSimpArgs false

set_option maxHeartbeats 400000 in
theorem l1more_any (n : Int) (w : World) (h0 : 0 ≤ n) (h9 : n ≤ 1000000000) :
    Calls Try.prog 58 #[.int .i64 n] w fun e w' => e = .returned (.int .i64 (more n)) ∧ w' = w := by
  by_cases h : n < 1000000000
  · have HM : Hid (n + 1 = more n) := hid (more_lt h).symm
    have h' : ¬ 1000000000 ≤ n := by omega
    go_enter Try.func58, Try.ntmps58
    go_wp2
    go_ret
    exact ⟨ret_int HM.out, rfl⟩
  · have HM : Hid (1000000000 = more n) := hid (more_ge h).symm
    have h' : 1000000000 ≤ n := by omega
    go_enter Try.func58, Try.ntmps58
    go_wp2
    go_ret
    exact ⟨ret_int HM.out, rfl⟩

set_option maxHeartbeats 400000 in
theorem l1to_any (s i u : Int) (f : Bool) (k : Int) (w : World) :
    Calls Try.prog 59 #[gV s i u f, .int .i64 k] w fun e w' => e = .returned (gV k 0 u f) ∧ Below w.heap.size w w' := by
  unfold gV
  go_enter Try.func59, Try.ntmps59
  go_wp2
  exact bodyPost_ret (v := .agg #[.int .i64 k, .int .i64 0, .int .i64 u, .bool f]) (by simp [results, Try.results59, go_sem]) rfl ⟨rfl, by repeat (first | exact Below.refl _ _ | refine Below.alloc ?_ (by simp; try omega) _ | refine Below.setCell ?_ (by simp) _)⟩

set_option maxRecDepth 100000 in
set_option maxHeartbeats 8000000 in
theorem spec_Tick (a b c d s i u : Int) (f x n o : Bool) (br : Int) (m : Bool) (w : World) :
    Calls Try.prog 39 #[tV a b c d, gV s i u f, fV x n o br m] w fun e w' => e = .returned (tickV a b c d s i u f x n o br m) ∧ Below w.heap.size w w' := by
  have HT : Hid (tV a b c d = .agg #[.int .i64 a, .int .i64 b, .int .i64 c, .int .i64 d]) := rfl
  have HG : Hid (gV s i u f = .agg #[.int .i64 s, .int .i64 i, .int .i64 u, .bool f]) := rfl
  have HF : Hid (fV x n o br m = .agg #[.bool x, .bool n, .bool o, .int .i64 br, .bool m]) := rfl
  generalize hR : tickV a b c d s i u f x n o br m = R
  have HR : Hid (tickV a b c d s i u f x n o br m = R) := hR
  clear hR
  rw [HT.out, HG.out, HF.out]
  have HW : Hid (Below (w.heap.size + 4) (Wx w a b c d s i u f x n o br m) (Wx w a b c d s i u f x n o br m)) := hid (Below.refl _ _)
  go_enter Try.func39, Try.ntmps39
  go_wp2_with fail
  rw [← HT.out, ← HG.out]
  refine (spec_GateOk a b c d s i u f _).mono ?_
  rintro e w1 ⟨rfl, hb1⟩
  have hx1 : Below (w.heap.size + 4) (Wx w a b c d s i u f x n o br m) w1 := below_far HW.out (by rw [Wx_size]; exact Nat.le_refl _) hb1
  clear hb1
  obtain ⟨t0, t1, t2, t3, g0, g1, g2, g3, f0, f1, f2, f3, f4, z1, z3, r0, r1, r2, r3, r4, r5, r6, r7, r8, zz⟩ := boxed hx1
  have HX : Hid (Below (w.heap.size + 4) (Wx w a b c d s i u f x n o br m) w1) := hx1
  clear hx1
  cases hg : gOk a b c d s i u
  · have HV : Hid (zeroV = R) := hid (by rw [← HR.out, tickV_no (by unfold tickOk; rw [hg]; rfl)])
    go_wp2
    exact bodyPost_ret (v := zeroV) (by unfold zeroV; simp [results, Try.results39, go_sem, r0, r1, r2, r3, r4, r5, r6, r7, r8]) rfl ⟨congrArg Ending.returned HV.out, below9 (below_x HX.out) (by omega) _ _ _ _ _ _ _ _ _⟩
  go_wp2_with fail
  rw [← HF.out]
  refine (spec_FeltOk x n o br m _).mono ?_
  rintro e w2 ⟨rfl, hb2⟩
  have hx2 : Below (w.heap.size + 4) (Wx w a b c d s i u f x n o br m) w2 := below_far HX.out (by rw [Wx_size]; exact Nat.le_refl _) hb2
  clear hb2 HX t0 t1 t2 t3 g0 g1 g2 g3 f0 f1 f2 f3 f4 z1 z3 r0 r1 r2 r3 r4 r5 r6 r7 r8 zz
  obtain ⟨t0, t1, t2, t3, g0, g1, g2, g3, f0, f1, f2, f3, f4, z1, z3, r0, r1, r2, r3, r4, r5, r6, r7, r8, zz⟩ := boxed hx2
  have HX : Hid (Below (w.heap.size + 4) (Wx w a b c d s i u f x n o br m) w2) := hx2
  clear hx2
  cases hf : inB br 0 2
  · have HV : Hid (zeroV = R) := hid (by rw [← HR.out, tickV_no (by unfold tickOk; rw [hg, hf]; rfl)])
    go_wp2
    exact bodyPost_ret (v := zeroV) (by unfold zeroV; simp [results, Try.results39, go_sem, r0, r1, r2, r3, r4, r5, r6, r7, r8]) rfl ⟨congrArg Ending.returned HV.out, below9 (below_x HX.out) (by omega) _ _ _ _ _ _ _ _ _⟩
  obtain ⟨⟨s0, s4⟩, ⟨il, ih⟩, ⟨ul, uh⟩, _, _, _, _, hsu, hsi⟩ := gOk_facts hg
  have HSU : Hid (s = 0 → u = 0) := hsu
  clear hsu hsi
  obtain ⟨ii, hii⟩ : ∃ ii, ii = more i := ⟨_, rfl⟩
  obtain ⟨uu, huu⟩ : ∃ uu, uu = (if s = 0 then u else more u) := ⟨_, rfl⟩
  obtain ⟨ff, hff⟩ : ∃ ff, ff = (f && !m) := ⟨_, rfl⟩
  obtain ⟨k, hk⟩ : ∃ k, k = nextS s a c ii (x || n || o) br := ⟨_, rfl⟩
  obtain ⟨F, hF⟩ : ∃ F, F = nextF s b ii br := ⟨_, rfl⟩
  have HI : Hid (ii = more i) := hii
  have HU : Hid (uu = (if s = 0 then u else more u)) := huu
  have H9 : Hid (ff = (f && !m)) := hff
  have HK : Hid (k = nextS s a c ii (x || n || o) br) := hk
  have HN : Hid (F = nextF s b ii br) := hF
  have hk04 : 0 ≤ k ∧ k ≤ 4 := by rw [hk]; exact nextS_in _ _ _ _ _ _
  have HV : Hid (saidK k (sinceOf s k ii) (shutOf k uu) (ff || F) d br o = R) := hid (by
    rw [← HR.out]; unfold tickV; rw [if_pos (by unfold tickOk; rw [hg, hf]; rfl), ← hii, ← huu, ← hff, ← hk, ← hF])
  clear hii huu hff hk hF
  obtain ⟨k0, k4⟩ := hk04
  obtain ⟨wt, hwt⟩ : ∃ wt, wt = (x || n || o) := ⟨_, rfl⟩
  have HWT : Hid (wt = (x || n || o)) := hwt
  go_upto_region 3 with fail
  go_cut [7] (fun v7 wd => v7 = .bool wt ∧ Below (w.heap.size + 4) (Wx w a b c d s i u f x n o br m) wd)
  case first =>
    cases x
    · cases n
      · simp only [Bool.false_or] at hwt
        subst hwt
        go_wp2
        go_meet
        case rel => exact ⟨rfl, HX.out⟩
      · simp only [Bool.false_or, Bool.true_or] at hwt
        subst hwt
        go_wp2
        go_meet
        case rel => exact ⟨rfl, HX.out⟩
    · simp only [Bool.true_or] at hwt
      subst hwt
      go_wp2
      go_meet
      case rel => exact ⟨rfl, HX.out⟩
  case rest =>
    clear hwt
    obtain ⟨rfl, hcut2⟩ := hcut
    clear HX t0 t1 t2 t3 g0 g1 g2 g3 f0 f1 f2 f3 f4 z1 z3 r0 r1 r2 r3 r4 r5 r6 r7 r8 zz
    obtain ⟨t0, t1, t2, t3, g0, g1, g2, g3, f0, f1, f2, f3, f4, z1, z3, r0, r1, r2, r3, r4, r5, r6, r7, r8, zz⟩ := boxed hcut2
    have HX : Hid (Below (w.heap.size + 4) (Wx w a b c d s i u f x n o br m) wc) := hcut2
    clear hcut2
    go_upto_if 30 with fail
    go_cut [] (fun wd => Below (w.heap.size + 4) (Wx w a b c d s i u ff x n o br m) wd)
    case first =>
      cases m
      · have e9 : ff = f := by have := H9.out; simpa using this
        subst e9
        go_wp2
        go_meet
        case rel => exact HX.out
      · have e9 : ff = false := by have := H9.out; simpa using this
        subst e9
        go_wp2
        go_meet
        case rel => exact x_setF HX.out _
    case rest =>
      clear HX t0 t1 t2 t3 g0 g1 g2 g3 f0 f1 f2 f3 f4 z1 z3 r0 r1 r2 r3 r4 r5 r6 r7 r8 zz
      obtain ⟨t0, t1, t2, t3, g0, g1, g2, g3, f0, f1, f2, f3, f4, z1, z3, r0, r1, r2, r3, r4, r5, r6, r7, r8, zz⟩ := boxed hcut
      have HX : Hid (Below (w.heap.size + 4) (Wx w a b c d s i u ff x n o br m) wc) := hcut
      clear hcut
      go_upto_region 6 with fail
      go_cut [] (fun wd => Below (w.heap.size + 4) (Wx w a b c d s ii u ff x n o br m) wd)
      case first =>
        go_wp2_with fail
        refine (l1more_any i _ il ih).mono ?_
        rintro e w3 ⟨rfl, rfl⟩
        rw [← HI.out]
        go_wp2
        go_meet
        case rel => exact x_setI HX.out _
      case rest =>
        clear HX t0 t1 t2 t3 g0 g1 g2 g3 f0 f1 f2 f3 f4 z1 z3 r0 r1 r2 r3 r4 r5 r6 r7 r8 zz
        obtain ⟨t0, t1, t2, t3, g0, g1, g2, g3, f0, f1, f2, f3, f4, z1, z3, r0, r1, r2, r3, r4, r5, r6, r7, r8, zz⟩ := boxed hcut
        have HX : Hid (Below (w.heap.size + 4) (Wx w a b c d s ii u ff x n o br m) wc) := hcut
        clear hcut
        go_upto_if 38 with fail
        go_cut [] (fun wd => Below (w.heap.size + 4) (Wx w a b c d s ii uu ff x n o br m) wd)
        case first =>
          by_cases hs0 : s = 0
          · have hsb : (s != 0) = false := by simp [hs0]
            have e9 : uu = u := by have := HU.out; rw [if_pos hs0] at this; exact this
            subst e9
            clear hs0
            go_wp2
            go_meet
            case rel => exact HX.out
          · have hsb : (s != 0) = true := by simp [hs0]
            have e9 : uu = more u := by have := HU.out; rw [if_neg hs0] at this; exact this
            have HU2 : Hid (uu = more u) := e9
            clear e9 hs0
            go_wp2_with fail
            refine (l1more_any u _ ul uh).mono ?_
            rintro e w3 ⟨rfl, rfl⟩
            rw [← HU2.out]
            go_wp2
            go_meet
            case rel => exact x_setU HX.out _
        case rest =>
          clear HX t0 t1 t2 t3 g0 g1 g2 g3 f0 f1 f2 f3 f4 z1 z3 r0 r1 r2 r3 r4 r5 r6 r7 r8 zz
          obtain ⟨t0, t1, t2, t3, g0, g1, g2, g3, f0, f1, f2, f3, f4, z1, z3, r0, r1, r2, r3, r4, r5, r6, r7, r8, zz⟩ := boxed hcut
          have HX : Hid (Below (w.heap.size + 4) (Wx w a b c d s ii uu ff x n o br m) wc) := hcut
          clear hcut
          obtain ⟨s2, hs2⟩ : ∃ s2, s2 = sinceOf s k ii := ⟨_, rfl⟩
          obtain ⟨q2, hq2⟩ : ∃ q2, q2 = shutOf k uu := ⟨_, rfl⟩
          have HS2 : Hid (s2 = sinceOf s k ii) := hs2
          have HQ2 : Hid (q2 = shutOf k uu) := hq2
          have HV2 : Hid (saidK k s2 q2 (ff || F) d br o = R) := hid (by rw [hs2, hq2]; exact HV.out)
          have HK2 : Hid (k = nextS s a c ii wt br) := hid (by rw [HWT.out]; exact HK.out)
          have HU0 : Hid (s = 0 → uu = 0) := hid (fun e => by rw [HU.out, if_pos e]; exact HSU.out e)
          clear hs2 hq2
          go_upto_block 0 with fail
          go_cut [] (fun wd => Below (w.heap.size + 4) (Wx w a b c d k s2 q2 (ff || F) x n o br m) wd)
          case first =>
            clear HV HV2 HR HG HT HF HW HK HU HI H9 HWT
            by_cases es0 : s = 0
            · subst es0
              have hu0 : uu = 0 := HU0.out rfl
              cases wt
              · by_cases hb0 : br = 0
                · have hbb : (br != 0) = false := by simp [hb0]
                  have EK : k = 0 := by have := HK2.out; simpa [nextS, hb0] using this
                  have HQ : Hid (k = 0 ∧ s2 = ii ∧ q2 = uu ∧ (ff || F) = ff) := hid ⟨EK, by rw [HS2.out, EK]; simp [sinceOf], by rw [HQ2.out, EK]; simp [shutOf, hu0], by rw [HN.out]; simp [nextF, hb0]⟩
                  clear EK
                  clear hb0 hu0
                  go_wp2
                  go_meet
                  case rel => exact x_eq (HX.out) HQ.out
                · have hbb : (br != 0) = true := by simp [hb0]
                  have EK : k = 0 := by have := HK2.out; simpa [nextS, hb0] using this
                  have HQ : Hid (k = 0 ∧ s2 = ii ∧ q2 = uu ∧ (ff || F) = true) := hid ⟨EK, by rw [HS2.out, EK]; simp [sinceOf], by rw [HQ2.out, EK]; simp [shutOf, hu0], by rw [HN.out]; simp [nextF, hb0]⟩
                  clear EK
                  clear hb0 hu0
                  go_wp2
                  go_meet
                  case rel => exact x_eq (x_setF HX.out true) HQ.out
              · by_cases hb0 : br = 0
                · have hbb : (br != 0) = false := by simp [hb0]
                  have EK : k = 1 := by have := HK2.out; simpa [nextS, hb0] using this
                  have HQ : Hid (k = 1 ∧ s2 = 0 ∧ q2 = uu ∧ (ff || F) = ff) := hid ⟨EK, by rw [HS2.out, EK]; simp [sinceOf], by rw [HQ2.out, EK]; simp [shutOf, hu0], by rw [HN.out]; simp [nextF, hb0]⟩
                  clear EK
                  clear hb0 hu0
                  have HL0 : Hid (gV 0 ii uu ff = .agg #[.int .i64 0, .int .i64 ii, .int .i64 uu, .bool ff]) := rfl
                  have HL1 : Hid (gV 1 0 uu ff = .agg #[.int .i64 1, .int .i64 0, .int .i64 uu, .bool ff]) := rfl
                  go_wp2_with fail
                  rw [← HL0.out]
                  refine (l1to_any 0 ii uu ff 1 _).mono ?_
                  rintro e w3 ⟨rfl, hb3⟩
                  have hx3 : Below (w.heap.size + 4) (Wx w a b c d 0 ii uu ff x n o br m) w3 := below_far (HX.out) (by rw [Wx_size]; exact Nat.le_refl _) hb3
                  clear hb3 HX t0 t1 t2 t3 g0 g1 g2 g3 f0 f1 f2 f3 f4 z1 z3 r0 r1 r2 r3 r4 r5 r6 r7 r8 zz
                  obtain ⟨t0, t1, t2, t3, g0, g1, g2, g3, f0, f1, f2, f3, f4, z1, z3, r0, r1, r2, r3, r4, r5, r6, r7, r8, zz⟩ := boxed hx3
                  have HX : Hid (Below (w.heap.size + 4) (Wx w a b c d 0 ii uu ff x n o br m) w3) := hx3
                  clear hx3
                  rw [HL1.out]
                  go_wp2
                  go_meet
                  case rel => exact x_eq (x_set HX.out _ _ _ _) HQ.out
                · have hbb : (br != 0) = true := by simp [hb0]
                  have EK : k = 1 := by have := HK2.out; simpa [nextS, hb0] using this
                  have HQ : Hid (k = 1 ∧ s2 = 0 ∧ q2 = uu ∧ (ff || F) = true) := hid ⟨EK, by rw [HS2.out, EK]; simp [sinceOf], by rw [HQ2.out, EK]; simp [shutOf, hu0], by rw [HN.out]; simp [nextF, hb0]⟩
                  clear EK
                  clear hb0 hu0
                  have HL0 : Hid (gV 0 ii uu ff = .agg #[.int .i64 0, .int .i64 ii, .int .i64 uu, .bool ff]) := rfl
                  have HL1 : Hid (gV 1 0 uu ff = .agg #[.int .i64 1, .int .i64 0, .int .i64 uu, .bool ff]) := rfl
                  go_wp2_with fail
                  rw [← HL0.out]
                  refine (l1to_any 0 ii uu ff 1 _).mono ?_
                  rintro e w3 ⟨rfl, hb3⟩
                  have hx3 : Below (w.heap.size + 4) (Wx w a b c d 0 ii uu ff x n o br m) w3 := below_far (HX.out) (by rw [Wx_size]; exact Nat.le_refl _) hb3
                  clear hb3 HX t0 t1 t2 t3 g0 g1 g2 g3 f0 f1 f2 f3 f4 z1 z3 r0 r1 r2 r3 r4 r5 r6 r7 r8 zz
                  obtain ⟨t0, t1, t2, t3, g0, g1, g2, g3, f0, f1, f2, f3, f4, z1, z3, r0, r1, r2, r3, r4, r5, r6, r7, r8, zz⟩ := boxed hx3
                  have HX : Hid (Below (w.heap.size + 4) (Wx w a b c d 0 ii uu ff x n o br m) w3) := hx3
                  clear hx3
                  rw [HL1.out]
                  go_wp2
                  go_meet
                  case rel => exact x_eq (x_setF (x_set HX.out _ _ _ _) true) HQ.out
            have hu0 : True := trivial
            by_cases es1 : s = 1
            · subst es1
              by_cases hai : a ≤ ii
              · skip
                have EK : k = 2 := by have := HK2.out; simpa [nextS, hai] using this
                have HQ : Hid (k = 2 ∧ s2 = 0 ∧ q2 = uu ∧ (ff || F) = ff) := hid ⟨EK, by rw [HS2.out, EK]; simp [sinceOf], by rw [HQ2.out, EK]; simp [shutOf, hu0], by rw [HN.out]; simp [nextF, hai]⟩
                clear EK
                have HL0 : Hid (gV 1 ii uu ff = .agg #[.int .i64 1, .int .i64 ii, .int .i64 uu, .bool ff]) := rfl
                have HL1 : Hid (gV 2 0 uu ff = .agg #[.int .i64 2, .int .i64 0, .int .i64 uu, .bool ff]) := rfl
                go_wp2_with fail
                rw [← HL0.out]
                refine (l1to_any 1 ii uu ff 2 _).mono ?_
                rintro e w3 ⟨rfl, hb3⟩
                have hx3 : Below (w.heap.size + 4) (Wx w a b c d 1 ii uu ff x n o br m) w3 := below_far (HX.out) (by rw [Wx_size]; exact Nat.le_refl _) hb3
                clear hb3 HX t0 t1 t2 t3 g0 g1 g2 g3 f0 f1 f2 f3 f4 z1 z3 r0 r1 r2 r3 r4 r5 r6 r7 r8 zz
                obtain ⟨t0, t1, t2, t3, g0, g1, g2, g3, f0, f1, f2, f3, f4, z1, z3, r0, r1, r2, r3, r4, r5, r6, r7, r8, zz⟩ := boxed hx3
                have HX : Hid (Below (w.heap.size + 4) (Wx w a b c d 1 ii uu ff x n o br m) w3) := hx3
                clear hx3
                rw [HL1.out]
                go_wp2
                go_meet
                case rel => exact x_eq (x_set HX.out _ _ _ _) HQ.out
              · skip
                have EK : k = 1 := by have := HK2.out; simpa [nextS, hai] using this
                have HQ : Hid (k = 1 ∧ s2 = ii ∧ q2 = uu ∧ (ff || F) = ff) := hid ⟨EK, by rw [HS2.out, EK]; simp [sinceOf], by rw [HQ2.out, EK]; simp [shutOf, hu0], by rw [HN.out]; simp [nextF, hai]⟩
                clear EK
                go_wp2
                go_meet
                case rel => exact x_eq (HX.out) HQ.out
            by_cases es2 : s = 2
            · subst es2
              by_cases hb2 : br = 2
              · have hbb : (br == 2) = true := by simp [hb2]
                have EK : k = 3 := by have := HK2.out; simpa [nextS, hb2] using this
                have HQ : Hid (k = 3 ∧ s2 = 0 ∧ q2 = uu ∧ (ff || F) = ff) := hid ⟨EK, by rw [HS2.out, EK]; simp [sinceOf], by rw [HQ2.out, EK]; simp [shutOf, hu0], by rw [HN.out]; simp [nextF, hb2]⟩
                clear EK
                clear hb2
                have HL0 : Hid (gV 2 ii uu ff = .agg #[.int .i64 2, .int .i64 ii, .int .i64 uu, .bool ff]) := rfl
                have HL1 : Hid (gV 3 0 uu ff = .agg #[.int .i64 3, .int .i64 0, .int .i64 uu, .bool ff]) := rfl
                go_wp2_with fail
                rw [← HL0.out]
                refine (l1to_any 2 ii uu ff 3 _).mono ?_
                rintro e w3 ⟨rfl, hb3⟩
                have hx3 : Below (w.heap.size + 4) (Wx w a b c d 2 ii uu ff x n o br m) w3 := below_far (HX.out) (by rw [Wx_size]; exact Nat.le_refl _) hb3
                clear hb3 HX t0 t1 t2 t3 g0 g1 g2 g3 f0 f1 f2 f3 f4 z1 z3 r0 r1 r2 r3 r4 r5 r6 r7 r8 zz
                obtain ⟨t0, t1, t2, t3, g0, g1, g2, g3, f0, f1, f2, f3, f4, z1, z3, r0, r1, r2, r3, r4, r5, r6, r7, r8, zz⟩ := boxed hx3
                have HX : Hid (Below (w.heap.size + 4) (Wx w a b c d 2 ii uu ff x n o br m) w3) := hx3
                clear hx3
                rw [HL1.out]
                go_wp2
                go_meet
                case rel => exact x_eq (x_set HX.out _ _ _ _) HQ.out
              · have hbb : (br == 2) = false := by simp [hb2]
                by_cases hbi : b < ii
                · skip
                  have EK : k = 2 := by have := HK2.out; simpa [nextS, hb2, hbi] using this
                  have HQ : Hid (k = 2 ∧ s2 = ii ∧ q2 = uu ∧ (ff || F) = true) := hid ⟨EK, by rw [HS2.out, EK]; simp [sinceOf], by rw [HQ2.out, EK]; simp [shutOf, hu0], by rw [HN.out]; simp [nextF, hb2, hbi]⟩
                  clear EK
                  clear hb2
                  go_wp2
                  go_meet
                  case rel => exact x_eq (x_setF HX.out true) HQ.out
                · skip
                  have EK : k = 2 := by have := HK2.out; simpa [nextS, hb2, hbi] using this
                  have HQ : Hid (k = 2 ∧ s2 = ii ∧ q2 = uu ∧ (ff || F) = ff) := hid ⟨EK, by rw [HS2.out, EK]; simp [sinceOf], by rw [HQ2.out, EK]; simp [shutOf, hu0], by rw [HN.out]; simp [nextF, hb2, hbi]⟩
                  clear EK
                  clear hb2
                  go_wp2
                  go_meet
                  case rel => exact x_eq (HX.out) HQ.out
            by_cases es3 : s = 3
            · subst es3
              by_cases hb2 : br = 2
              · have hbb : (br != 2) = false := by simp [hb2]
                cases wt
                · by_cases hci : c ≤ ii
                  · skip
                    have EK : k = 4 := by have := HK2.out; simpa [nextS, hb2, hci] using this
                    have HQ : Hid (k = 4 ∧ s2 = 0 ∧ q2 = uu ∧ (ff || F) = ff) := hid ⟨EK, by rw [HS2.out, EK]; simp [sinceOf], by rw [HQ2.out, EK]; simp [shutOf, hu0], by rw [HN.out]; simp [nextF, hb2, hci]⟩
                    clear EK
                    clear hb2
                    have HL0 : Hid (gV 3 ii uu ff = .agg #[.int .i64 3, .int .i64 ii, .int .i64 uu, .bool ff]) := rfl
                    have HL1 : Hid (gV 4 0 uu ff = .agg #[.int .i64 4, .int .i64 0, .int .i64 uu, .bool ff]) := rfl
                    go_wp2_with fail
                    rw [← HL0.out]
                    refine (l1to_any 3 ii uu ff 4 _).mono ?_
                    rintro e w3 ⟨rfl, hb3⟩
                    have hx3 : Below (w.heap.size + 4) (Wx w a b c d 3 ii uu ff x n o br m) w3 := below_far (HX.out) (by rw [Wx_size]; exact Nat.le_refl _) hb3
                    clear hb3 HX t0 t1 t2 t3 g0 g1 g2 g3 f0 f1 f2 f3 f4 z1 z3 r0 r1 r2 r3 r4 r5 r6 r7 r8 zz
                    obtain ⟨t0, t1, t2, t3, g0, g1, g2, g3, f0, f1, f2, f3, f4, z1, z3, r0, r1, r2, r3, r4, r5, r6, r7, r8, zz⟩ := boxed hx3
                    have HX : Hid (Below (w.heap.size + 4) (Wx w a b c d 3 ii uu ff x n o br m) w3) := hx3
                    clear hx3
                    rw [HL1.out]
                    go_wp2
                    go_meet
                    case rel => exact x_eq (x_set HX.out _ _ _ _) HQ.out
                  · skip
                    have EK : k = 3 := by have := HK2.out; simpa [nextS, hb2, hci] using this
                    have HQ : Hid (k = 3 ∧ s2 = ii ∧ q2 = uu ∧ (ff || F) = ff) := hid ⟨EK, by rw [HS2.out, EK]; simp [sinceOf], by rw [HQ2.out, EK]; simp [shutOf, hu0], by rw [HN.out]; simp [nextF, hb2, hci]⟩
                    clear EK
                    clear hb2
                    go_wp2
                    go_meet
                    case rel => exact x_eq (HX.out) HQ.out
                · skip
                  have EK : k = 3 := by have := HK2.out; simpa [nextS, hb2] using this
                  have HQ : Hid (k = 3 ∧ s2 = ii ∧ q2 = uu ∧ (ff || F) = ff) := hid ⟨EK, by rw [HS2.out, EK]; simp [sinceOf], by rw [HQ2.out, EK]; simp [shutOf, hu0], by rw [HN.out]; simp [nextF, hb2]⟩
                  clear EK
                  clear hb2
                  go_wp2
                  go_meet
                  case rel => exact x_eq (HX.out) HQ.out
              · have hbb : (br != 2) = true := by simp [hb2]
                have EK : k = 2 := by have := HK2.out; simpa [nextS, hb2] using this
                have HQ : Hid (k = 2 ∧ s2 = 0 ∧ q2 = uu ∧ (ff || F) = true) := hid ⟨EK, by rw [HS2.out, EK]; simp [sinceOf], by rw [HQ2.out, EK]; simp [shutOf, hu0], by rw [HN.out]; simp [nextF, hb2]⟩
                clear EK
                clear hb2
                have HL0 : Hid (gV 3 ii uu true = .agg #[.int .i64 3, .int .i64 ii, .int .i64 uu, .bool true]) := rfl
                have HL1 : Hid (gV 2 0 uu true = .agg #[.int .i64 2, .int .i64 0, .int .i64 uu, .bool true]) := rfl
                go_wp2_with fail
                rw [← HL0.out]
                refine (l1to_any 3 ii uu true 2 _).mono ?_
                rintro e w3 ⟨rfl, hb3⟩
                have hx3 : Below (w.heap.size + 4) (Wx w a b c d 3 ii uu true x n o br m) w3 := below_far (x_setF HX.out true) (by rw [Wx_size]; exact Nat.le_refl _) hb3
                clear hb3 HX t0 t1 t2 t3 g0 g1 g2 g3 f0 f1 f2 f3 f4 z1 z3 r0 r1 r2 r3 r4 r5 r6 r7 r8 zz
                obtain ⟨t0, t1, t2, t3, g0, g1, g2, g3, f0, f1, f2, f3, f4, z1, z3, r0, r1, r2, r3, r4, r5, r6, r7, r8, zz⟩ := boxed hx3
                have HX : Hid (Below (w.heap.size + 4) (Wx w a b c d 3 ii uu true x n o br m) w3) := hx3
                clear hx3
                rw [HL1.out]
                go_wp2
                go_meet
                case rel => exact x_eq (x_set HX.out _ _ _ _) HQ.out
            have es4 : s = 4 := by omega
            · subst es4
              cases wt
              · by_cases hb0 : br = 0
                · have hbb : (br == 0) = true := by simp [hb0]
                  have EK : k = 0 := by have := HK2.out; simpa [nextS, hb0] using this
                  have HQ : Hid (k = 0 ∧ s2 = 0 ∧ q2 = 0 ∧ (ff || F) = ff) := hid ⟨EK, by rw [HS2.out, EK]; simp [sinceOf], by rw [HQ2.out, EK]; simp [shutOf, hu0], by rw [HN.out]; simp [nextF, hb0]⟩
                  clear EK
                  clear hb0
                  have HL0 : Hid (gV 4 ii uu ff = .agg #[.int .i64 4, .int .i64 ii, .int .i64 uu, .bool ff]) := rfl
                  have HL1 : Hid (gV 0 0 uu ff = .agg #[.int .i64 0, .int .i64 0, .int .i64 uu, .bool ff]) := rfl
                  go_wp2_with fail
                  rw [← HL0.out]
                  refine (l1to_any 4 ii uu ff 0 _).mono ?_
                  rintro e w3 ⟨rfl, hb3⟩
                  have hx3 : Below (w.heap.size + 4) (Wx w a b c d 4 ii uu ff x n o br m) w3 := below_far (HX.out) (by rw [Wx_size]; exact Nat.le_refl _) hb3
                  clear hb3 HX t0 t1 t2 t3 g0 g1 g2 g3 f0 f1 f2 f3 f4 z1 z3 r0 r1 r2 r3 r4 r5 r6 r7 r8 zz
                  obtain ⟨t0, t1, t2, t3, g0, g1, g2, g3, f0, f1, f2, f3, f4, z1, z3, r0, r1, r2, r3, r4, r5, r6, r7, r8, zz⟩ := boxed hx3
                  have HX : Hid (Below (w.heap.size + 4) (Wx w a b c d 4 ii uu ff x n o br m) w3) := hx3
                  clear hx3
                  rw [HL1.out]
                  go_wp2
                  go_meet
                  case rel => exact x_eq (x_setU (x_set HX.out _ _ _ _) 0) HQ.out
                · have hbb : (br == 0) = false := by simp [hb0]
                  have EK : k = 4 := by have := HK2.out; simpa [nextS, hb0] using this
                  have HQ : Hid (k = 4 ∧ s2 = ii ∧ q2 = uu ∧ (ff || F) = ff) := hid ⟨EK, by rw [HS2.out, EK]; simp [sinceOf], by rw [HQ2.out, EK]; simp [shutOf, hu0], by rw [HN.out]; simp [nextF, hb0]⟩
                  clear EK
                  clear hb0
                  go_wp2
                  go_meet
                  case rel => exact x_eq (HX.out) HQ.out
              · skip
                have EK : k = 1 := by have := HK2.out; simpa [nextS] using this
                have HQ : Hid (k = 1 ∧ s2 = 0 ∧ q2 = uu ∧ (ff || F) = ff) := hid ⟨EK, by rw [HS2.out, EK]; simp [sinceOf], by rw [HQ2.out, EK]; simp [shutOf, hu0], by rw [HN.out]; simp [nextF]⟩
                clear EK
                have HL0 : Hid (gV 4 ii uu ff = .agg #[.int .i64 4, .int .i64 ii, .int .i64 uu, .bool ff]) := rfl
                have HL1 : Hid (gV 1 0 uu ff = .agg #[.int .i64 1, .int .i64 0, .int .i64 uu, .bool ff]) := rfl
                go_wp2_with fail
                rw [← HL0.out]
                refine (l1to_any 4 ii uu ff 1 _).mono ?_
                rintro e w3 ⟨rfl, hb3⟩
                have hx3 : Below (w.heap.size + 4) (Wx w a b c d 4 ii uu ff x n o br m) w3 := below_far (HX.out) (by rw [Wx_size]; exact Nat.le_refl _) hb3
                clear hb3 HX t0 t1 t2 t3 g0 g1 g2 g3 f0 f1 f2 f3 f4 z1 z3 r0 r1 r2 r3 r4 r5 r6 r7 r8 zz
                obtain ⟨t0, t1, t2, t3, g0, g1, g2, g3, f0, f1, f2, f3, f4, z1, z3, r0, r1, r2, r3, r4, r5, r6, r7, r8, zz⟩ := boxed hx3
                have HX : Hid (Below (w.heap.size + 4) (Wx w a b c d 4 ii uu ff x n o br m) w3) := hx3
                clear hx3
                rw [HL1.out]
                go_wp2
                go_meet
                case rel => exact x_eq (x_set HX.out _ _ _ _) HQ.out
          case rest =>
            clear HX t0 t1 t2 t3 g0 g1 g2 g3 f0 f1 f2 f3 f4 z1 z3 r0 r1 r2 r3 r4 r5 r6 r7 r8 zz
            obtain ⟨t0, t1, t2, t3, g0, g1, g2, g3, f0, f1, f2, f3, f4, z1, z3, r0, r1, r2, r3, r4, r5, r6, r7, r8, zz⟩ := boxed hcut
            have HX : Hid (Below (w.heap.size + 4) (Wx w a b c d k s2 q2 (ff || F) x n o br m) wc) := hcut
            clear hcut
            obtain ⟨fz, hfz⟩ : ∃ fz, fz = (ff || F) := ⟨_, rfl⟩
            rw [← hfz] at g3
            have HV3 : Hid (saidK k s2 q2 fz d br o = R) := hid (by rw [hfz]; exact HV2.out)
            clear hfz HV HV2 HR HG HT HF HW HK HU HI H9 HWT HK2 HN HU0 HS2 HQ2
            have o0 := old_cell (wc := wc) (g := w.heap.size) (by omega)
            have o1 := old_cell (wc := wc) (g := w.heap.size + 1) (by omega)
            have o2 := old_cell (wc := wc) (g := w.heap.size + 1 + 1) (by omega)
            have o3 := old_cell (wc := wc) (g := w.heap.size + 1 + 1 + 1) (by omega)
            have o4 := old_frozen (wc := wc) (g := w.heap.size + 1 + 1 + 1) (by omega)
            by_cases ek0 : k = 0
            · subst ek0
              by_cases hl : d < q2
              · have HV4 : Hid (.agg #[.bool true, .int .i64 0, .int .i64 s2, .int .i64 q2, .bool fz, .bool false, .bool false, .bool false, .bool !o] = R) := hid (by rw [← HV3.out]; simp [saidK, saidV, saidC, mayB, redB, downB, longB, hl])
                go_wp2
                exact bodyPost_ret (v := .agg #[.bool true, .int .i64 0, .int .i64 s2, .int .i64 q2, .bool fz, .bool false, .bool false, .bool false, .bool !o]) (by simp [results, Try.results39, go_sem, r0, r1, r2, r3, r4, r5, r6, r7, r8, o3]) rfl
                  ⟨congrArg Ending.returned HV4.out, below9 ((below_x HX.out).alloc (by omega) _) (by omega) _ _ _ _ _ _ _ _ _⟩
              · have HV4 : Hid (.agg #[.bool true, .int .i64 0, .int .i64 s2, .int .i64 q2, .bool fz, .bool false, .bool false, .bool false, .bool false] = R) := hid (by rw [← HV3.out]; simp [saidK, saidV, saidC, mayB, redB, downB, longB, hl])
                go_wp2
                exact bodyPost_ret (v := .agg #[.bool true, .int .i64 0, .int .i64 s2, .int .i64 q2, .bool fz, .bool false, .bool false, .bool false, .bool false]) (by simp [results, Try.results39, go_sem, r0, r1, r2, r3, r4, r5, r6, r7, r8, o3]) rfl
                  ⟨congrArg Ending.returned HV4.out, below9 ((below_x HX.out).alloc (by omega) _) (by omega) _ _ _ _ _ _ _ _ _⟩
            by_cases ek1 : k = 1
            · subst ek1
              by_cases hl : d < q2
              · have HV4 : Hid (.agg #[.bool true, .int .i64 1, .int .i64 s2, .int .i64 q2, .bool fz, .bool false, .bool true, .bool false, .bool !o] = R) := hid (by rw [← HV3.out]; simp [saidK, saidV, saidC, mayB, redB, downB, longB, hl])
                go_wp2
                exact bodyPost_ret (v := .agg #[.bool true, .int .i64 1, .int .i64 s2, .int .i64 q2, .bool fz, .bool false, .bool true, .bool false, .bool !o]) (by simp [results, Try.results39, go_sem, r0, r1, r2, r3, r4, r5, r6, r7, r8, o3]) rfl
                  ⟨congrArg Ending.returned HV4.out, below9 ((below_x HX.out).alloc (by omega) _) (by omega) _ _ _ _ _ _ _ _ _⟩
              · have HV4 : Hid (.agg #[.bool true, .int .i64 1, .int .i64 s2, .int .i64 q2, .bool fz, .bool false, .bool true, .bool false, .bool false] = R) := hid (by rw [← HV3.out]; simp [saidK, saidV, saidC, mayB, redB, downB, longB, hl])
                go_wp2
                exact bodyPost_ret (v := .agg #[.bool true, .int .i64 1, .int .i64 s2, .int .i64 q2, .bool fz, .bool false, .bool true, .bool false, .bool false]) (by simp [results, Try.results39, go_sem, r0, r1, r2, r3, r4, r5, r6, r7, r8, o3]) rfl
                  ⟨congrArg Ending.returned HV4.out, below9 ((below_x HX.out).alloc (by omega) _) (by omega) _ _ _ _ _ _ _ _ _⟩
            by_cases ek2 : k = 2
            · subst ek2
              by_cases hl : d < q2
              · have HV4 : Hid (.agg #[.bool true, .int .i64 2, .int .i64 s2, .int .i64 q2, .bool fz, .bool false, .bool true, .bool true, .bool !o] = R) := hid (by rw [← HV3.out]; simp [saidK, saidV, saidC, mayB, redB, downB, longB, hl])
                go_wp2
                exact bodyPost_ret (v := .agg #[.bool true, .int .i64 2, .int .i64 s2, .int .i64 q2, .bool fz, .bool false, .bool true, .bool true, .bool !o]) (by simp [results, Try.results39, go_sem, r0, r1, r2, r3, r4, r5, r6, r7, r8, o3]) rfl
                  ⟨congrArg Ending.returned HV4.out, below9 ((below_x HX.out).alloc (by omega) _) (by omega) _ _ _ _ _ _ _ _ _⟩
              · have HV4 : Hid (.agg #[.bool true, .int .i64 2, .int .i64 s2, .int .i64 q2, .bool fz, .bool false, .bool true, .bool true, .bool false] = R) := hid (by rw [← HV3.out]; simp [saidK, saidV, saidC, mayB, redB, downB, longB, hl])
                go_wp2
                exact bodyPost_ret (v := .agg #[.bool true, .int .i64 2, .int .i64 s2, .int .i64 q2, .bool fz, .bool false, .bool true, .bool true, .bool false]) (by simp [results, Try.results39, go_sem, r0, r1, r2, r3, r4, r5, r6, r7, r8, o3]) rfl
                  ⟨congrArg Ending.returned HV4.out, below9 ((below_x HX.out).alloc (by omega) _) (by omega) _ _ _ _ _ _ _ _ _⟩
            by_cases ek3 : k = 3
            · subst ek3
              by_cases hb2 : br = 2
              · have hbb : (br == 2) = true := by simp [hb2]
                by_cases hl : d < q2
                · have HV4 : Hid (.agg #[.bool true, .int .i64 3, .int .i64 s2, .int .i64 q2, .bool fz, .bool !fz, .bool true, .bool true, .bool !o] = R) := hid (by rw [← HV3.out]; simp [saidK, saidV, saidC, mayB, redB, downB, longB, hl, hb2])
                  go_wp2
                  exact bodyPost_ret (v := .agg #[.bool true, .int .i64 3, .int .i64 s2, .int .i64 q2, .bool fz, .bool !fz, .bool true, .bool true, .bool !o]) (by simp [results, Try.results39, go_sem, r0, r1, r2, r3, r4, r5, r6, r7, r8, o3]) rfl
                    ⟨congrArg Ending.returned HV4.out, below9 ((below_x HX.out).alloc (by omega) _) (by omega) _ _ _ _ _ _ _ _ _⟩
                · have HV4 : Hid (.agg #[.bool true, .int .i64 3, .int .i64 s2, .int .i64 q2, .bool fz, .bool !fz, .bool true, .bool true, .bool false] = R) := hid (by rw [← HV3.out]; simp [saidK, saidV, saidC, mayB, redB, downB, longB, hl, hb2])
                  go_wp2
                  exact bodyPost_ret (v := .agg #[.bool true, .int .i64 3, .int .i64 s2, .int .i64 q2, .bool fz, .bool !fz, .bool true, .bool true, .bool false]) (by simp [results, Try.results39, go_sem, r0, r1, r2, r3, r4, r5, r6, r7, r8, o3]) rfl
                    ⟨congrArg Ending.returned HV4.out, below9 ((below_x HX.out).alloc (by omega) _) (by omega) _ _ _ _ _ _ _ _ _⟩
              · have hbb : (br == 2) = false := by simp [hb2]
                by_cases hl : d < q2
                · have HV4 : Hid (.agg #[.bool true, .int .i64 3, .int .i64 s2, .int .i64 q2, .bool fz, .bool false, .bool true, .bool true, .bool !o] = R) := hid (by rw [← HV3.out]; simp [saidK, saidV, saidC, mayB, redB, downB, longB, hl, hb2])
                  go_wp2
                  exact bodyPost_ret (v := .agg #[.bool true, .int .i64 3, .int .i64 s2, .int .i64 q2, .bool fz, .bool false, .bool true, .bool true, .bool !o]) (by simp [results, Try.results39, go_sem, r0, r1, r2, r3, r4, r5, r6, r7, r8, o3]) rfl
                    ⟨congrArg Ending.returned HV4.out, below9 ((below_x HX.out).alloc (by omega) _) (by omega) _ _ _ _ _ _ _ _ _⟩
                · have HV4 : Hid (.agg #[.bool true, .int .i64 3, .int .i64 s2, .int .i64 q2, .bool fz, .bool false, .bool true, .bool true, .bool false] = R) := hid (by rw [← HV3.out]; simp [saidK, saidV, saidC, mayB, redB, downB, longB, hl, hb2])
                  go_wp2
                  exact bodyPost_ret (v := .agg #[.bool true, .int .i64 3, .int .i64 s2, .int .i64 q2, .bool fz, .bool false, .bool true, .bool true, .bool false]) (by simp [results, Try.results39, go_sem, r0, r1, r2, r3, r4, r5, r6, r7, r8, o3]) rfl
                    ⟨congrArg Ending.returned HV4.out, below9 ((below_x HX.out).alloc (by omega) _) (by omega) _ _ _ _ _ _ _ _ _⟩
            have ek4 : k = 4 := by omega
            · subst ek4
              by_cases hl : d < q2
              · have HV4 : Hid (.agg #[.bool true, .int .i64 4, .int .i64 s2, .int .i64 q2, .bool fz, .bool false, .bool true, .bool false, .bool !o] = R) := hid (by rw [← HV3.out]; simp [saidK, saidV, saidC, mayB, redB, downB, longB, hl])
                go_wp2
                exact bodyPost_ret (v := .agg #[.bool true, .int .i64 4, .int .i64 s2, .int .i64 q2, .bool fz, .bool false, .bool true, .bool false, .bool !o]) (by simp [results, Try.results39, go_sem, r0, r1, r2, r3, r4, r5, r6, r7, r8, o3]) rfl
                  ⟨congrArg Ending.returned HV4.out, below9 ((below_x HX.out).alloc (by omega) _) (by omega) _ _ _ _ _ _ _ _ _⟩
              · have HV4 : Hid (.agg #[.bool true, .int .i64 4, .int .i64 s2, .int .i64 q2, .bool fz, .bool false, .bool true, .bool false, .bool false] = R) := hid (by rw [← HV3.out]; simp [saidK, saidV, saidC, mayB, redB, downB, longB, hl])
                go_wp2
                exact bodyPost_ret (v := .agg #[.bool true, .int .i64 4, .int .i64 s2, .int .i64 q2, .bool fz, .bool false, .bool true, .bool false, .bool false]) (by simp [results, Try.results39, go_sem, r0, r1, r2, r3, r4, r5, r6, r7, r8, o3]) rfl
                  ⟨congrArg Ending.returned HV4.out, below9 ((below_x HX.out).alloc (by omega) _) (by omega) _ _ _ _ _ _ _ _ _⟩

end Go.Proofs.Ytcidikmbngflcab
