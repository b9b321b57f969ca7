/-
  impl.Tick out of its parts.
-/
import Derived.Test.YtcidikmbngflcaaBox
import Derived.Test.YtcidikmbngflcaaBecome
import Derived.Test.YtcidikmbngflcaaSay
namespace Go.Proofs.Ytcidikmbngflcaa
open Go.ChangeShapes Go.WideShapes Go.ChangeAt Go.RowKit
set_option maxRecDepth 100000

theorem become_any (s k i u : Int) (f : Bool) (w : World) (h0 : 0 ≤ k) (h4 : k ≤ 4) :
    Calls Try.prog 62 #[gV s i u f, stV k] w fun e w' => e = .returned (gV k (sinceOf s k i) (shutOf k u) f) ∧ Below w.heap.size w w' := by
  by_cases e0 : k = 0
  · subst e0; rw [← stV_0]; exact become_0 s i u f w
  by_cases e1 : k = 1
  · subst e1; rw [← stV_1]; exact become_1 s i u f w
  by_cases e2 : k = 2
  · subst e2; rw [← stV_2]; exact become_2 s i u f w
  by_cases e3 : k = 3
  · subst e3; rw [← stV_3]; exact become_3 s i u f w
  have e4 : k = 4 := by omega
  subst e4; rw [← stV_4]; exact become_4 s i u f w

theorem say_any (a b c d k i u : Int) (f x n o : Bool) (br : Int) (m : Bool) (w : World) (h0 : 0 ≤ k) (h4 : k ≤ 4) :
    Calls Try.prog 63 #[tV a b c d, gV k i u f, fV x n o br m, stV k] w fun e w' => e = .returned (saidK k i u f d br o) ∧ Below w.heap.size w w' := by
  by_cases e0 : k = 0
  · subst e0; rw [← stV_0]; exact say_0 a b c d i u f x n o br m w
  by_cases e1 : k = 1
  · subst e1; rw [← stV_1]; exact say_1 a b c d i u f x n o br m w
  by_cases e2 : k = 2
  · subst e2; rw [← stV_2]; exact say_2 a b c d i u f x n o br m w
  by_cases e3 : k = 3
  · subst e3; rw [← stV_3]; exact say_3 a b c d i u f x n o br m w
  have e4 : k = 4 := by omega
  subst e4; rw [← stV_4]; exact say_4 a b c d i u f x n o br m w

set_option maxHeartbeats 2000000 in
theorem impl_Tick (a b c d s i u : Int) (f x n o : Bool) (br : Int) (m : Bool) (w : World) :
    Calls Try.prog 34 #[tV a b c d, gV s i u f, fV x n o br m] w fun e w' => e = .returned (tickV a b c d s i u f x n o br m) ∧ Below w.heap.size w w' := by
  have HT : Hid (tV a b c d = .agg #[.int .i64 a, .int .i64 b, .int .i64 c, .int .i64 d]) := rfl
  have HG : Hid (gV s i u f = .agg #[.int .i64 s, .int .i64 i, .int .i64 u, .bool f]) := rfl
  have HF : Hid (fV x n o br m = .agg #[.bool x, .bool n, .bool o, .int .i64 br, .bool m]) := rfl
  generalize hR : tickV a b c d s i u f x n o br m = R
  have HR : Hid (tickV a b c d s i u f x n o br m = R) := hR
  clear hR
  rw [HT.out, HG.out, HF.out]
  have HW : Hid (Below (w.heap.size + 4) (Wx w a b c d s i u f x n o br m) (Wx w a b c d s i u f x n o br m)) := hid (Below.refl _ _)
  go_enter Try.func34, Try.ntmps34
  go_wp2_with fail
  rw [← HT.out, ← HG.out]
  refine (impl_GateOk a b c d s i u f _).mono ?_
  rintro e w1 ⟨rfl, hb1⟩
  have hx1 : Below (w.heap.size + 4) (Wx w a b c d s i u f x n o br m) w1 := below_far HW.out (by rw [Wx_size]; exact Nat.le_refl _) hb1
  clear hb1
  obtain ⟨t0, t1, t2, t3, g0, g1, g2, g3, f0, f1, f2, f3, f4, z1, z3, r0, r1, r2, r3, r4, r5, r6, r7, r8, zz⟩ := boxed hx1
  have HX : Hid (Below (w.heap.size + 4) (Wx w a b c d s i u f x n o br m) w1) := hx1
  clear hx1
  cases hg : gOk a b c d s i u
  · have HV : Hid (zeroV = R) := hid (by rw [← HR.out, tickV_no (by unfold tickOk; rw [hg]; rfl)])
    go_wp2
    exact bodyPost_ret (v := zeroV) (by unfold zeroV; simp [results, Try.results34, go_sem, r0, r1, r2, r3, r4, r5, r6, r7, r8]) rfl ⟨congrArg Ending.returned HV.out, below9 (below_x HX.out) (by omega) _ _ _ _ _ _ _ _ _⟩
  go_wp2_with fail
  rw [← HF.out]
  refine (impl_FeltOk x n o br m _).mono ?_
  rintro e w2 ⟨rfl, hb2⟩
  have hx2 : Below (w.heap.size + 4) (Wx w a b c d s i u f x n o br m) w2 := below_far HX.out (by rw [Wx_size]; exact Nat.le_refl _) hb2
  clear hb2 HX t0 t1 t2 t3 g0 g1 g2 g3 f0 f1 f2 f3 f4 z1 z3 r0 r1 r2 r3 r4 r5 r6 r7 r8 zz
  obtain ⟨t0, t1, t2, t3, g0, g1, g2, g3, f0, f1, f2, f3, f4, z1, z3, r0, r1, r2, r3, r4, r5, r6, r7, r8, zz⟩ := boxed hx2
  have HX : Hid (Below (w.heap.size + 4) (Wx w a b c d s i u f x n o br m) w2) := hx2
  clear hx2
  cases hf : inB br 0 2
  · have HV : Hid (zeroV = R) := hid (by rw [← HR.out, tickV_no (by unfold tickOk; rw [hg, hf]; rfl)])
    go_wp2
    exact bodyPost_ret (v := zeroV) (by unfold zeroV; simp [results, Try.results34, go_sem, r0, r1, r2, r3, r4, r5, r6, r7, r8]) rfl ⟨congrArg Ending.returned HV.out, below9 (below_x HX.out) (by omega) _ _ _ _ _ _ _ _ _⟩
  obtain ⟨⟨s0, s4⟩, ⟨il, ih⟩, ⟨ul, uh⟩, _, _, _, _, hsu, hsi⟩ := gOk_facts hg
  clear hsu hsi
  obtain ⟨ii, hii⟩ : ∃ ii, ii = more i := ⟨_, rfl⟩
  obtain ⟨uu, huu⟩ : ∃ uu, uu = (if s = 0 then u else more u) := ⟨_, rfl⟩
  obtain ⟨ff, hff⟩ : ∃ ff, ff = (f && !m) := ⟨_, rfl⟩
  obtain ⟨k, hk⟩ : ∃ k, k = nextS s a c ii (x || n || o) br := ⟨_, rfl⟩
  obtain ⟨F, hF⟩ : ∃ F, F = nextF s b ii br := ⟨_, rfl⟩
  have HI : Hid (ii = more i) := hii
  have HU : Hid (uu = (if s = 0 then u else more u)) := huu
  have H9 : Hid (ff = (f && !m)) := hff
  have HK : Hid (k = nextS s a c ii (x || n || o) br) := hk
  have HN : Hid (F = nextF s b ii br) := hF
  have hk04 : 0 ≤ k ∧ k ≤ 4 := by rw [hk]; exact nextS_in _ _ _ _ _ _
  have HV : Hid (saidK k (sinceOf s k ii) (shutOf k uu) (ff || F) d br o = R) := hid (by
    rw [← HR.out]; unfold tickV; rw [if_pos (by unfold tickOk; rw [hg, hf]; rfl), ← hii, ← huu, ← hff, ← hk, ← hF])
  clear hii huu hff hk hF
  obtain ⟨k0, k4⟩ := hk04
  have HG1 : Hid (gV s ii uu ff = .agg #[.int .i64 s, .int .i64 ii, .int .i64 uu, .bool ff]) := rfl
  go_upto_region 3 with fail
  go_cut [] (fun wc => Below (w.heap.size + 4) (Wx w a b c d s ii uu ff x n o br m) wc)
  case first =>
    go_wp2_with fail
    rw [← HG.out, ← HF.out]
    refine (begin_any s i u f x n o br m _ il ih ul uh).mono ?_
    rintro e w3 ⟨rfl, hb3⟩
    have hx3 : Below (w.heap.size + 4) (Wx w a b c d s i u f x n o br m) w3 := below_far HX.out (by rw [Wx_size]; exact Nat.le_refl _) hb3
    clear hb3 HX t0 t1 t2 t3 g0 g1 g2 g3 f0 f1 f2 f3 f4 z1 z3 r0 r1 r2 r3 r4 r5 r6 r7 r8 zz
    obtain ⟨t0, t1, t2, t3, g0, g1, g2, g3, f0, f1, f2, f3, f4, z1, z3, r0, r1, r2, r3, r4, r5, r6, r7, r8, zz⟩ := boxed hx3
    have HX : Hid (Below (w.heap.size + 4) (Wx w a b c d s i u f x n o br m) w3) := hx3
    clear hx3
    rw [← HI.out, ← HU.out, ← H9.out, HG1.out]
    go_wp2
    go_meet
    case rel => exact x_set HX.out _ _ _ _
  case rest =>
    clear HX t0 t1 t2 t3 g0 g1 g2 g3 f0 f1 f2 f3 f4 z1 z3 r0 r1 r2 r3 r4 r5 r6 r7 r8 zz
    obtain ⟨t0, t1, t2, t3, g0, g1, g2, g3, f0, f1, f2, f3, f4, z1, z3, r0, r1, r2, r3, r4, r5, r6, r7, r8, zz⟩ := boxed hcut
    have HX : Hid (Below (w.heap.size + 4) (Wx w a b c d s ii uu ff x n o br m) wc) := hcut
    clear hcut
    go_upto_region 4 with fail
    go_cut [7, 8] (fun v7 v8 wd => v7 = stV k ∧ v8 = .bool F ∧ Below (w.heap.size + 4) (Wx w a b c d s ii uu ff x n o br m) wd)
    case first =>
      clear HG1 HG HT HF HV HR HW
      by_cases es0 : s = 0
      · subst es0
        go_region_held3 (fun w' => Below (w.heap.size + 4) (Wx w a b c d 0 ii uu ff x n o br m) w' ∧ w'.cell? ⟨w.heap.size, 0, none⟩ = some (.int .i64 a) ∧ w'.cell? ⟨w.heap.size, 1, none⟩ = some (.int .i64 b) ∧ w'.cell? ⟨w.heap.size, 2, none⟩ = some (.int .i64 c) ∧ w'.cell? ⟨w.heap.size, 3, none⟩ = some (.int .i64 d) ∧ w'.cell? ⟨w.heap.size + 1, 0, none⟩ = some (.int .i64 0) ∧ w'.cell? ⟨w.heap.size + 1, 1, none⟩ = some (.int .i64 ii) ∧ w'.cell? ⟨w.heap.size + 1, 2, none⟩ = some (.int .i64 uu) ∧ w'.cell? ⟨w.heap.size + 1, 3, none⟩ = some (.bool ff) ∧ w'.cell? ⟨w.heap.size + 1 + 1, 0, none⟩ = some (.bool x) ∧ w'.cell? ⟨w.heap.size + 1 + 1, 1, none⟩ = some (.bool n) ∧ w'.cell? ⟨w.heap.size + 1 + 1, 2, none⟩ = some (.bool o) ∧ w'.cell? ⟨w.heap.size + 1 + 1, 3, none⟩ = some (.int .i64 br) ∧ w'.cell? ⟨w.heap.size + 1 + 1, 4, none⟩ = some (.bool m))
          ((refine heldX ?_; first | exact Below.drew HX.out | exact held_far (by assumption) (by rw [Wx_size]; exact Nat.le_refl _) (by assumption)))
          (first | (go_at_call 61; refine (ruleOf_0 _).mono ?_; rintro e w5 ⟨rfl, hb5⟩) | (go_at_call 78; refine (whenUp_any a b c d ii uu ff x n o br m _).mono ?_; rintro e w5 ⟨rfl, hb5⟩; rw [← HK.out, ← HN.out]))
        obtain ⟨hxd, _⟩ := (by assumption : Below (w.heap.size + 4) (Wx w a b c d 0 ii uu ff x n o br m) w5 ∧ _)
        have HXD : Hid (Below (w.heap.size + 4) (Wx w a b c d 0 ii uu ff x n o br m) w5) := hxd
        clear hxd
        go_wp2
        go_meet
        case rel => exact ⟨rfl, rfl, HXD.out⟩
      by_cases es1 : s = 1
      · subst es1
        go_region_held3 (fun w' => Below (w.heap.size + 4) (Wx w a b c d 1 ii uu ff x n o br m) w' ∧ w'.cell? ⟨w.heap.size, 0, none⟩ = some (.int .i64 a) ∧ w'.cell? ⟨w.heap.size, 1, none⟩ = some (.int .i64 b) ∧ w'.cell? ⟨w.heap.size, 2, none⟩ = some (.int .i64 c) ∧ w'.cell? ⟨w.heap.size, 3, none⟩ = some (.int .i64 d) ∧ w'.cell? ⟨w.heap.size + 1, 0, none⟩ = some (.int .i64 1) ∧ w'.cell? ⟨w.heap.size + 1, 1, none⟩ = some (.int .i64 ii) ∧ w'.cell? ⟨w.heap.size + 1, 2, none⟩ = some (.int .i64 uu) ∧ w'.cell? ⟨w.heap.size + 1, 3, none⟩ = some (.bool ff) ∧ w'.cell? ⟨w.heap.size + 1 + 1, 0, none⟩ = some (.bool x) ∧ w'.cell? ⟨w.heap.size + 1 + 1, 1, none⟩ = some (.bool n) ∧ w'.cell? ⟨w.heap.size + 1 + 1, 2, none⟩ = some (.bool o) ∧ w'.cell? ⟨w.heap.size + 1 + 1, 3, none⟩ = some (.int .i64 br) ∧ w'.cell? ⟨w.heap.size + 1 + 1, 4, none⟩ = some (.bool m))
          ((refine heldX ?_; first | exact Below.drew HX.out | exact held_far (by assumption) (by rw [Wx_size]; exact Nat.le_refl _) (by assumption)))
          (first | (go_at_call 61; refine (ruleOf_1 _).mono ?_; rintro e w5 ⟨rfl, hb5⟩) | (go_at_call 79; refine (whenWarning_any a b c d ii uu ff x n o br m _).mono ?_; rintro e w5 ⟨rfl, hb5⟩; rw [← HK.out, ← HN.out]))
        obtain ⟨hxd, _⟩ := (by assumption : Below (w.heap.size + 4) (Wx w a b c d 1 ii uu ff x n o br m) w5 ∧ _)
        have HXD : Hid (Below (w.heap.size + 4) (Wx w a b c d 1 ii uu ff x n o br m) w5) := hxd
        clear hxd
        go_wp2
        go_meet
        case rel => exact ⟨rfl, rfl, HXD.out⟩
      by_cases es2 : s = 2
      · subst es2
        go_region_held3 (fun w' => Below (w.heap.size + 4) (Wx w a b c d 2 ii uu ff x n o br m) w' ∧ w'.cell? ⟨w.heap.size, 0, none⟩ = some (.int .i64 a) ∧ w'.cell? ⟨w.heap.size, 1, none⟩ = some (.int .i64 b) ∧ w'.cell? ⟨w.heap.size, 2, none⟩ = some (.int .i64 c) ∧ w'.cell? ⟨w.heap.size, 3, none⟩ = some (.int .i64 d) ∧ w'.cell? ⟨w.heap.size + 1, 0, none⟩ = some (.int .i64 2) ∧ w'.cell? ⟨w.heap.size + 1, 1, none⟩ = some (.int .i64 ii) ∧ w'.cell? ⟨w.heap.size + 1, 2, none⟩ = some (.int .i64 uu) ∧ w'.cell? ⟨w.heap.size + 1, 3, none⟩ = some (.bool ff) ∧ w'.cell? ⟨w.heap.size + 1 + 1, 0, none⟩ = some (.bool x) ∧ w'.cell? ⟨w.heap.size + 1 + 1, 1, none⟩ = some (.bool n) ∧ w'.cell? ⟨w.heap.size + 1 + 1, 2, none⟩ = some (.bool o) ∧ w'.cell? ⟨w.heap.size + 1 + 1, 3, none⟩ = some (.int .i64 br) ∧ w'.cell? ⟨w.heap.size + 1 + 1, 4, none⟩ = some (.bool m))
          ((refine heldX ?_; first | exact Below.drew HX.out | exact held_far (by assumption) (by rw [Wx_size]; exact Nat.le_refl _) (by assumption)))
          (first | (go_at_call 61; refine (ruleOf_2 _).mono ?_; rintro e w5 ⟨rfl, hb5⟩) | (go_at_call 80; refine (whenClosing_any a b c d ii uu ff x n o br m _).mono ?_; rintro e w5 ⟨rfl, hb5⟩; rw [← HK.out, ← HN.out]))
        obtain ⟨hxd, _⟩ := (by assumption : Below (w.heap.size + 4) (Wx w a b c d 2 ii uu ff x n o br m) w5 ∧ _)
        have HXD : Hid (Below (w.heap.size + 4) (Wx w a b c d 2 ii uu ff x n o br m) w5) := hxd
        clear hxd
        go_wp2
        go_meet
        case rel => exact ⟨rfl, rfl, HXD.out⟩
      by_cases es3 : s = 3
      · subst es3
        go_region_held3 (fun w' => Below (w.heap.size + 4) (Wx w a b c d 3 ii uu ff x n o br m) w' ∧ w'.cell? ⟨w.heap.size, 0, none⟩ = some (.int .i64 a) ∧ w'.cell? ⟨w.heap.size, 1, none⟩ = some (.int .i64 b) ∧ w'.cell? ⟨w.heap.size, 2, none⟩ = some (.int .i64 c) ∧ w'.cell? ⟨w.heap.size, 3, none⟩ = some (.int .i64 d) ∧ w'.cell? ⟨w.heap.size + 1, 0, none⟩ = some (.int .i64 3) ∧ w'.cell? ⟨w.heap.size + 1, 1, none⟩ = some (.int .i64 ii) ∧ w'.cell? ⟨w.heap.size + 1, 2, none⟩ = some (.int .i64 uu) ∧ w'.cell? ⟨w.heap.size + 1, 3, none⟩ = some (.bool ff) ∧ w'.cell? ⟨w.heap.size + 1 + 1, 0, none⟩ = some (.bool x) ∧ w'.cell? ⟨w.heap.size + 1 + 1, 1, none⟩ = some (.bool n) ∧ w'.cell? ⟨w.heap.size + 1 + 1, 2, none⟩ = some (.bool o) ∧ w'.cell? ⟨w.heap.size + 1 + 1, 3, none⟩ = some (.int .i64 br) ∧ w'.cell? ⟨w.heap.size + 1 + 1, 4, none⟩ = some (.bool m))
          ((refine heldX ?_; first | exact Below.drew HX.out | exact held_far (by assumption) (by rw [Wx_size]; exact Nat.le_refl _) (by assumption)))
          (first | (go_at_call 61; refine (ruleOf_3 _).mono ?_; rintro e w5 ⟨rfl, hb5⟩) | (go_at_call 81; refine (whenDown_any a b c d ii uu ff x n o br m _).mono ?_; rintro e w5 ⟨rfl, hb5⟩; rw [← HK.out, ← HN.out]))
        obtain ⟨hxd, _⟩ := (by assumption : Below (w.heap.size + 4) (Wx w a b c d 3 ii uu ff x n o br m) w5 ∧ _)
        have HXD : Hid (Below (w.heap.size + 4) (Wx w a b c d 3 ii uu ff x n o br m) w5) := hxd
        clear hxd
        go_wp2
        go_meet
        case rel => exact ⟨rfl, rfl, HXD.out⟩
      have es4 : s = 4 := by omega
      · subst es4
        go_region_held3 (fun w' => Below (w.heap.size + 4) (Wx w a b c d 4 ii uu ff x n o br m) w' ∧ w'.cell? ⟨w.heap.size, 0, none⟩ = some (.int .i64 a) ∧ w'.cell? ⟨w.heap.size, 1, none⟩ = some (.int .i64 b) ∧ w'.cell? ⟨w.heap.size, 2, none⟩ = some (.int .i64 c) ∧ w'.cell? ⟨w.heap.size, 3, none⟩ = some (.int .i64 d) ∧ w'.cell? ⟨w.heap.size + 1, 0, none⟩ = some (.int .i64 4) ∧ w'.cell? ⟨w.heap.size + 1, 1, none⟩ = some (.int .i64 ii) ∧ w'.cell? ⟨w.heap.size + 1, 2, none⟩ = some (.int .i64 uu) ∧ w'.cell? ⟨w.heap.size + 1, 3, none⟩ = some (.bool ff) ∧ w'.cell? ⟨w.heap.size + 1 + 1, 0, none⟩ = some (.bool x) ∧ w'.cell? ⟨w.heap.size + 1 + 1, 1, none⟩ = some (.bool n) ∧ w'.cell? ⟨w.heap.size + 1 + 1, 2, none⟩ = some (.bool o) ∧ w'.cell? ⟨w.heap.size + 1 + 1, 3, none⟩ = some (.int .i64 br) ∧ w'.cell? ⟨w.heap.size + 1 + 1, 4, none⟩ = some (.bool m))
          ((refine heldX ?_; first | exact Below.drew HX.out | exact held_far (by assumption) (by rw [Wx_size]; exact Nat.le_refl _) (by assumption)))
          (first | (go_at_call 61; refine (ruleOf_4 _).mono ?_; rintro e w5 ⟨rfl, hb5⟩) | (go_at_call 82; refine (whenOpening_any a b c d ii uu ff x n o br m _).mono ?_; rintro e w5 ⟨rfl, hb5⟩; rw [← HK.out, ← HN.out]))
        obtain ⟨hxd, _⟩ := (by assumption : Below (w.heap.size + 4) (Wx w a b c d 4 ii uu ff x n o br m) w5 ∧ _)
        have HXD : Hid (Below (w.heap.size + 4) (Wx w a b c d 4 ii uu ff x n o br m) w5) := hxd
        clear hxd
        go_wp2
        go_meet
        case rel => exact ⟨rfl, rfl, HXD.out⟩
    case rest =>
      obtain ⟨rfl, rfl, hcut2⟩ := hcut
      clear HX t0 t1 t2 t3 g0 g1 g2 g3 f0 f1 f2 f3 f4 z1 z3 r0 r1 r2 r3 r4 r5 r6 r7 r8 zz
      obtain ⟨t0, t1, t2, t3, g0, g1, g2, g3, f0, f1, f2, f3, f4, z1, z3, r0, r1, r2, r3, r4, r5, r6, r7, r8, zz⟩ := boxed hcut2
      have HX : Hid (Below (w.heap.size + 4) (Wx w a b c d s ii uu ff x n o br m) wc) := hcut2
      clear hcut2
      obtain ⟨s2, hs2⟩ : ∃ s2, s2 = sinceOf s k ii := ⟨_, rfl⟩
      obtain ⟨q2, hq2⟩ : ∃ q2, q2 = shutOf k uu := ⟨_, rfl⟩
      have HS2 : Hid (s2 = sinceOf s k ii) := hs2
      have HQ2 : Hid (q2 = shutOf k uu) := hq2
      have HV2 : Hid (saidK k s2 q2 (ff || F) d br o = R) := hid (by rw [hs2, hq2]; exact HV.out)
      clear hs2 hq2
      have HG2 : Hid (gV k s2 q2 ff = .agg #[.int .i64 k, .int .i64 s2, .int .i64 q2, .bool ff]) := rfl
      go_upto_region 5 with fail
      go_cut [] (fun wd => Below (w.heap.size + 4) (Wx w a b c d k s2 q2 ff x n o br m) wd)
      case first =>
        go_wp2_with fail
        rw [← HG1.out]
        refine (become_any s k ii uu ff _ k0 k4).mono ?_
        rintro e w3 ⟨rfl, hb3⟩
        have hx3 : Below (w.heap.size + 4) (Wx w a b c d s ii uu ff x n o br m) w3 := below_far HX.out (by rw [Wx_size]; exact Nat.le_refl _) hb3
        clear hb3 HX t0 t1 t2 t3 g0 g1 g2 g3 f0 f1 f2 f3 f4 z1 z3 r0 r1 r2 r3 r4 r5 r6 r7 r8 zz
        obtain ⟨t0, t1, t2, t3, g0, g1, g2, g3, f0, f1, f2, f3, f4, z1, z3, r0, r1, r2, r3, r4, r5, r6, r7, r8, zz⟩ := boxed hx3
        have HX : Hid (Below (w.heap.size + 4) (Wx w a b c d s ii uu ff x n o br m) w3) := hx3
        clear hx3
        rw [← HS2.out, ← HQ2.out, HG2.out]
        go_wp2
        go_meet
        case rel => exact x_set HX.out _ _ _ _
      case rest =>
        clear HX t0 t1 t2 t3 g0 g1 g2 g3 f0 f1 f2 f3 f4 z1 z3 r0 r1 r2 r3 r4 r5 r6 r7 r8 zz
        obtain ⟨t0, t1, t2, t3, g0, g1, g2, g3, f0, f1, f2, f3, f4, z1, z3, r0, r1, r2, r3, r4, r5, r6, r7, r8, zz⟩ := boxed hcut
        have HX : Hid (Below (w.heap.size + 4) (Wx w a b c d k s2 q2 ff x n o br m) wc) := hcut
        clear hcut
        go_upto_region 6 with fail
        go_cut [] (fun wd => Below (w.heap.size + 4) (Wx w a b c d k s2 q2 (ff || F) x n o br m) wd)
        case first =>
          cases ff
          · go_wp2
            go_meet
            case rel => exact x_setF HX.out _
          · go_wp2
            go_meet
            case rel => exact x_setF HX.out _
        case rest =>
          clear HX t0 t1 t2 t3 g0 g1 g2 g3 f0 f1 f2 f3 f4 z1 z3 r0 r1 r2 r3 r4 r5 r6 r7 r8 zz
          obtain ⟨t0, t1, t2, t3, g0, g1, g2, g3, f0, f1, f2, f3, f4, z1, z3, r0, r1, r2, r3, r4, r5, r6, r7, r8, zz⟩ := boxed hcut
          have HX : Hid (Below (w.heap.size + 4) (Wx w a b c d k s2 q2 (ff || F) x n o br m) wc) := hcut
          clear hcut
          obtain ⟨fz, hfz⟩ : ∃ fz, fz = (ff || F) := ⟨_, rfl⟩
          rw [← hfz] at g3
          have HFZ : Hid (fz = (ff || F)) := hfz
          clear hfz
          have HG3 : Hid (gV k s2 q2 fz = .agg #[.int .i64 k, .int .i64 s2, .int .i64 q2, .bool fz]) := rfl
          go_wp2_with fail
          rw [← HT.out, ← HG3.out, ← HF.out]
          refine (say_any a b c d k s2 q2 fz x n o br m _ k0 k4).mono ?_
          rintro e w3 ⟨rfl, hb3⟩
          have hx3 : Below (w.heap.size + 4) (Wx w a b c d k s2 q2 (ff || F) x n o br m) w3 := below_far HX.out (by rw [Wx_size]; exact Nat.le_refl _) hb3
          clear hb3 HX t0 t1 t2 t3 g0 g1 g2 g3 f0 f1 f2 f3 f4 z1 z3 r0 r1 r2 r3 r4 r5 r6 r7 r8 zz
          obtain ⟨t0, t1, t2, t3, g0, g1, g2, g3, f0, f1, f2, f3, f4, z1, z3, r0, r1, r2, r3, r4, r5, r6, r7, r8, zz⟩ := boxed hx3
          have HX : Hid (Below (w.heap.size + 4) (Wx w a b c d k s2 q2 (ff || F) x n o br m) w3) := hx3
          clear hx3 g3
          rw [HFZ.out, HV2.out]
          have HC : Hid (∃ p0 p1 p2 p3 p4 p5 p6 p7 p8, R = .agg #[.bool p0, .int .i64 p1, .int .i64 p2, .int .i64 p3, .bool p4, .bool p5, .bool p6, .bool p7, .bool p8]) := hid ⟨_, _, _, _, _, _, _, _, _, HV2.out.symm.trans rfl⟩
          obtain ⟨p0, p1, p2, p3, p4, p5, p6, p7, p8, hp⟩ := HC.out
          have HP : Hid (R = .agg #[.bool p0, .int .i64 p1, .int .i64 p2, .int .i64 p3, .bool p4, .bool p5, .bool p6, .bool p7, .bool p8]) := hp
          clear hp HC
          rw [HP.out]
          go_wp2
          exact bodyPost_ret (v := .agg #[.bool p0, .int .i64 p1, .int .i64 p2, .int .i64 p3, .bool p4, .bool p5, .bool p6, .bool p7, .bool p8]) (by simp [results, Try.results34, go_sem, r0, r1, r2, r3, r4, r5, r6, r7, r8]) rfl
            ⟨congrArg Ending.returned HP.out.symm, below9 (below_x HX.out) (by omega) _ _ _ _ _ _ _ _ _⟩

end Go.Proofs.Ytcidikmbngflcaa
