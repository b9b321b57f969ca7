/-
  FnWaits: the law's walk.
-/
import Derived.Test.YtcidikmbngflcaaAnyRow
import Derived.Test.YtcidikmbngflcaaOpenB
import Derived.Deep.CutBlock
namespace Go.Proofs.Ytcidikmbngflcaa
open Go.ChangeShapes Go.WideShapes Go.ChangeAt Go.RowKit
set_option maxRecDepth 100000
set_option linter.unusedSimpArgs false

theorem Try.infoBo : (Try.prog.info? 4).map (fun i => (i.zero, i.size, i.bytes)) = some (some (.bool false), 1, 1) := by kernel_rfl

set_option maxHeartbeats 400000 in
theorem fnWaits_long (ao : Option Addr) (len cap : Nat) (w : World) (hm : len ≤ maxLen) (hl : 1048576 < len) :
    Calls Try.prog 8 #[.slice ao len cap] w fun e w' => e = .returned (.bool true) ∧ Below w.heap.size w w' := by
  unfold maxLen at hm
  have h1 : (1048576 : Int) < (len : Int) := by omega
  go_enter Try.func8, Try.ntmps8
  go_wp2
  go_ret
  exact ⟨rfl, Below.refl _ _⟩

set_option maxHeartbeats 4000000 in
theorem fnWaits_short (ao : Option Addr) (len cap : Nat) (B : Nat → Int) (w : World) (hl : len ≤ 1048576) (hr : ∀ i, 0 ≤ B i ∧ B i ≤ 255)
    (hb : len = 0 ∨ ∃ b o, ao = some ⟨b, o, none⟩ ∧ b < w.heap.size ∧ ∀ i, i < len → w.cell? ⟨b, o + i, none⟩ = some (.int .u8 (B i))) :
    Calls Try.prog 8 #[.slice ao len cap] w fun e w' => e = .returned (.bool true) ∧ Below w.heap.size w w' := by
  obtain ⟨i0, hi, hz0, hz1, hz2⟩ := info_parts Try.infoBo
  have h1 : ¬ (1048576 : Int) < (len : Int) := by omega
  have HRG : Hid (∀ i, 0 ≤ B i ∧ B i ≤ 255) := hr
  have HBB : Hid (len = 0 ∨ ∃ b o, ao = some ⟨b, o, none⟩ ∧ b < w.heap.size ∧ ∀ i, i < len → w.cell? ⟨b, o + i, none⟩ = some (.int .u8 (B i))) := hb
  clear hr hb
  go_enter Try.func8, Try.ntmps8
  go_wp2_with fail
  refine (drawWaitsE ao len cap B w hl HRG.out HBB.out).mono ?_
  rintro e w1 ⟨t, v, n, F, rfl, hn, hv, hb1⟩
  have HT : Hid (t.v = .agg #[.int .i64 t.a, .int .i64 t.b, .int .i64 t.c, .int .i64 t.d]) := rfl
  rw [HT.out]
  obtain ⟨W1, hW1⟩ : ∃ W1, W1 = w1.alloc (.cells #[.int .i64 t.a, .int .i64 t.b, .int .i64 t.c, .int .i64 t.d] 24) := ⟨_, rfl⟩
  have HWB : Hid (Below w1.heap.size w1 W1) := hid (by rw [hW1]; exact (Below.refl _ _).alloc (Nat.le_refl _) _)
  have HB1 : Hid (Below w.heap.size w W1) := hid (hb1.trans (HWB.out.mono hb1.size))
  have HV1 : Hid (RowV w.heap.size W1 v 5 n (feltC F)) := hid (hv.below HWB.out)
  have HTC : Hid (TCell W1 w1.heap.size t) := hid (by rw [hW1]; exact ⟨by simp [go_sem], by simp [go_sem], by simp [go_sem], by simp [go_sem]⟩)
  have HZ : Hid (W1.heap.size = w1.heap.size + 1) := hid (by rw [hW1]; simp)
  obtain ⟨T, hTT⟩ : ∃ T, T = w1.heap.size := ⟨_, rfl⟩
  rw [← hTT] at HTC HZ
  obtain ⟨pv, cv, hvs⟩ := hv.slice
  subst hvs
  clear hv hb1 HWB
  go_wp2_with fail
  rw [← HT.out, ← hW1, ← hTT]
  clear hW1 hTT
  refine (implWaits_rowV t _ n _ F _ HV1.out (by omega)).mono ?_
  rintro e w2 ⟨v2, rfl, hv2, hb2⟩
  have HB2 : Hid (Below W1.heap.size W1 w2) := hb2
  have HV2 : Hid (RowV W1.heap.size w2 v2 3 (waitLen t F n) (fun i j => waitCell (waitAt t F n i) j)) := hv2
  clear hv2 hb2
  obtain ⟨t0, t1, t2, t3⟩ := HTC.out.below HB2.out (by have := HZ.out; omega)
  go_wp2_with fail
  rw [← HT.out]
  refine (specWaits_rowV t _ n _ F _ (HV1.out.below HB2.out) (by omega)).mono ?_
  rintro e w3 ⟨v3, rfl, hv3, hb3⟩
  have HB3 : Hid (Below W1.heap.size W1 w3) := hid (HB2.out.trans (hb3.mono HB2.out.size))
  have HV3 : Hid (RowV W1.heap.size w3 v3 3 (waitLen t F n) (fun i j => waitCell (waitAt t F n i) j)) := hid (by
    rcases hv3 with h | ⟨g, c, e, hg, hr⟩
    · exact .inl h
    · exact .inr ⟨g, c, e, Nat.le_trans HB2.out.size hg, hr⟩)
  have HV23 : Hid (RowV W1.heap.size w3 v2 3 (waitLen t F n) (fun i j => waitCell (waitAt t F n i) j)) := hid (HV2.out.below hb3)
  clear hv3 hb3 t0 t1 t2 t3
  obtain ⟨t0, t1, t2, t3⟩ := HTC.out.below HB3.out (by have := HZ.out; omega)
  go_wp2_with fail
  rw [← HT.out]
  refine (implRun_rowV t _ n _ F _ (HV1.out.below HB3.out) (by omega)).mono ?_
  rintro e w4 ⟨v4, rfl, hv4, hb4⟩
  obtain ⟨N, hN⟩ : ∃ N, N = runLen t F n := ⟨_, rfl⟩
  obtain ⟨m, hm⟩ : ∃ m, m = waitLen t F n := ⟨_, rfl⟩
  have HN : Hid (N = runLen t F n) := hN
  have HM : Hid (m = waitLen t F n) := hm
  have hNle : N ≤ 2001 := by rw [hN]; exact Nat.le_trans (runLen_le t F n) hn
  have hmle : m ≤ 2001 := by rw [hm]; exact Nat.le_trans (waitLen_le t F n) hn
  have HB4 : Hid (Below W1.heap.size W1 w4) := hid (HB3.out.trans (hb4.mono HB3.out.size))
  have HV4 : Hid (RowV W1.heap.size w4 v4 9 N (fun i j => saidCell (saidAt t F i) j)) := hid (by
    rw [hN]
    rcases hv4 with h | ⟨g, c, e, hg, hr⟩
    · exact .inl h
    · exact .inr ⟨g, c, e, Nat.le_trans HB3.out.size hg, hr⟩)
  have HV34 : Hid (RowV W1.heap.size w4 v3 3 m (fun i j => waitCell (waitAt t F n i) j)) := hid (by rw [hm]; exact HV3.out.below hb4)
  have HV24 : Hid (RowV W1.heap.size w4 v2 3 m (fun i j => waitCell (waitAt t F n i) j)) := hid (by rw [hm]; exact HV23.out.below hb4)
  clear hv4 hb4 t0 t1 t2 t3 hN hm HV2 HV3 HV23
  obtain ⟨p2, c2, e2⟩ := HV24.out.slice
  obtain ⟨p3, c3, e3⟩ := HV34.out.slice
  obtain ⟨p4, c4, e4⟩ := HV4.out.slice
  subst e2 e3 e4
  obtain ⟨t0, t1, t2, t3⟩ := HTC.out.below HB4.out (by have := HZ.out; omega)
  have hmm : (((m : Nat) : Int) != ((m : Nat) : Int)) = false := by simp
  have hNN : (((N : Nat) : Int) != ((N : Nat) : Int)) = false := by simp
  go_wp2_with fail
  rw [← HT.out]
  refine (specRun_rowV t _ n _ F _ (HV1.out.below HB4.out) (by omega)).mono ?_
  rintro e w5 ⟨v5, rfl, hv5, hb5⟩
  rw [← HN.out] at hv5
  obtain ⟨p5, c5, e5⟩ := hv5.slice
  subst e5
  have HB5 : Hid (Below W1.heap.size W1 w5) := hid (HB4.out.trans (hb5.mono HB4.out.size))
  have HV45 : Hid (RowV W1.heap.size w5 (.slice p4 N c4) 9 N (fun i j => saidCell (saidAt t F i) j)) := hid (HV4.out.below hb5)
  have HV35 : Hid (RowV W1.heap.size w5 (.slice p3 m c3) 3 m (fun i j => waitCell (waitAt t F n i) j)) := hid (HV34.out.below hb5)
  have HV25 : Hid (RowV W1.heap.size w5 (.slice p2 m c2) 3 m (fun i j => waitCell (waitAt t F n i) j)) := hid (HV24.out.below hb5)
  clear hv5 hb5 t0 t1 t2 t3 HV4 HV34 HV24
  go_upto_region 10 with (at_make; refine wpList_make_full _ rfl _ _ 48 rfl w5.heap.size 4 i0 _ 1 Try.underlying48 hi hz0 hz1 _ _ _ _ N rfl rfl rfl rfl (by rw [hz2]; omega) (by unfold maxLen; omega) (Nat.le_refl _) ?_; intro w6 hown hgrow)
  obtain ⟨R, hR⟩ : ∃ R, R = w5.heap.size := ⟨_, rfl⟩
  rw [← hR] at hown ⊢
  have HRL : Hid (R < w6.heap.size) := hid (hown.lt R rfl).2
  have HRR : Hid (Row w6 R 1 N (fun _ _ => .bool false)) := hid ((row_made (z := 1) rfl hown HRL.out).congr (fun i j _ hj => by
    have : j = 0 := by omega
    subst this; rfl))
  have HB6 : Hid (Below R w5 w6) := hid (by rw [hR]; exact (Below.refl _ _).grown hgrow (Nat.le_refl _) (fun k e => by cases e))
  have HSR : Hid (R = w5.heap.size) := hR
  clear hown hgrow hR
  obtain ⟨L, hL⟩ : ∃ L, L = waitsOf t F n := ⟨_, rfl⟩
  have HL : Hid (L = waitsOf t F n) := hL
  have HLM : Hid (m = L.length) := hid (by rw [HM.out, hL]; rfl)
  clear hL
  go_upto_block 0 with fail
  go_cut [] (fun wd => Row wd R 1 N (fun i _ => .bool (markL N L i)) ∧ Below R w6 wd)
  case first =>
    rcases Nat.eq_zero_or_pos m with hm0 | hmp
    · subst hm0
      go_wp2_with fail
      refine wp_loop_rounds 1 ?_
      rw [rounds_succ]
      go_wp2
      go_meet
      case rel =>
        have e : L = [] := List.eq_nil_of_length_eq_zero HLM.out.symm
        exact ⟨by rw [e]; exact HRR.out, Below.refl _ _⟩
    · obtain ⟨g2, d2, e2, hg2, hr2⟩ := HV25.out.formS hmp
      obtain ⟨g3, d3, e3, hg3, hr3⟩ := HV35.out.formS hmp
      injection e2 with e2a e2b e2c
      injection e3 with e3a e3b e3c
      subst e2a e3a
      have HR2 : Hid (Row w6 g2 3 m (fun i j => waitCell (waitAt t F n i) j)) := hid (hr2.below HB6.out (by rw [HSR.out]; exact hr2.lt))
      have HR3 : Hid (Row w6 g3 3 m (fun i j => waitCell (waitAt t F n i) j)) := hid (hr3.below HB6.out (by rw [HSR.out]; exact hr3.lt))
      have HLT : Hid (g2 < R ∧ g3 < R) := hid (by rw [HSR.out]; exact ⟨hr2.lt, hr3.lt⟩)
      clear hr2 hr3 hg2 hg3 e2b e2c e3b e3c
      go_wp2_with fail
      go_loopw [51] (fun i wq => ∃ q : Nat, q ≤ m ∧ i = .int .i64 q ∧ Row wq R 1 N (fun i _ => .bool (markL N (L.take q) i)) ∧ Below R w6 wq) (fun i _ => m - (intOf i).toNat)
      case atStart => exact ⟨0, Nat.zero_le _, rfl, HRR.out, Below.refl _ _⟩
      case round =>
        obtain ⟨q, hq, rfl, hrow, hbel⟩ := hrel
        obtain ⟨wo, ewo⟩ : ∃ y, y = wr := ⟨wr, rfl⟩
        subst ewo
        have HROW : Hid (Row wo R 1 N (fun i _ => .bool (markL N (L.take q) i))) := hrow
        have HBEL : Hid (Below R w6 wo) := hbel
        clear hrow hbel
        by_cases hlt : q < m
        · obtain ⟨d, hd⟩ : ∃ d, d = waitAt t F n q := ⟨_, rfl⟩
          obtain ⟨a0, a1, a2⟩ := waitCell_at (HR2.out.below HBEL.out HLT.out.1) hlt
          obtain ⟨b0, b1, b2⟩ := waitCell_at (HR3.out.below HBEL.out HLT.out.2) hlt
          rw [← hd] at a0 a1 a2 b0 b1 b2
          have HDL : Hid (L.take (q + 1) = L.take q ++ [d]) := hid (by
            have hql : q < L.length := by rw [← HLM.out]; exact hlt
            rw [List.take_add_one, hd]
            unfold waitAt
            rw [← HL.out]
            simp [List.getD, hql])
          have HDF : Hid (0 ≤ d.fr ∧ d.fr < (N : Int)) := hid (by
            rw [HN.out, hd]
            refine wait_from t F n ?_
            unfold waitAt
            have hql : q < (waitsOf t F n).length := by rw [← HL.out, ← HLM.out]; exact hlt
            simp [List.getD, hql])
          clear hd
          obtain ⟨f0, hf0⟩ := Int.eq_ofNat_of_zero_le HDF.out.1
          have hl1 : g2 < wo.heap.size := Nat.lt_of_lt_of_le HLT.out.1 (Nat.le_trans (Nat.le_of_lt HRL.out) HBEL.out.size)
          have hl2 : g3 < wo.heap.size := Nat.lt_of_lt_of_le HLT.out.2 (Nat.le_trans (Nat.le_of_lt HRL.out) HBEL.out.size)
          go_upto_region 13 with fail
          obtain ⟨X, hX⟩ : ∃ X, X = wo.alloc (.cells #[.int .i64 (f0 : Int), .int .i64 d.tt, .bool d.us] 50) := ⟨_, rfl⟩
          rw [← hX]
          rw [hf0] at b0
          have HXB : Hid (Below wo.heap.size wo X) := hid (by rw [hX]; exact (Below.refl _ _).alloc (Nat.le_refl _) _)
          have x0 : X.cell? ⟨wo.heap.size, 0, none⟩ = some (.int .i64 (f0 : Int)) := by rw [hX]; simp [go_sem]
          have x1 : X.cell? ⟨wo.heap.size, 1, none⟩ = some (.int .i64 d.tt) := by rw [hX]; simp [go_sem]
          have x2 : X.cell? ⟨wo.heap.size, 2, none⟩ = some (.bool d.us) := by rw [hX]; simp [go_sem]
          have y0 := (HXB.out.cell (p := ⟨g3, q * 3, none⟩) hl2).trans b0
          have y1 := (HXB.out.cell (p := ⟨g3, q * 3 + 1, none⟩) hl2).trans b1
          have y2 := (HXB.out.cell (p := ⟨g3, q * 3 + 2, none⟩) hl2).trans b2
          have hn1 : ¬ (f0 : Int) < 0 := by omega
          have hn2 : ¬ (N : Int) ≤ (f0 : Int) := by have := HDF.out.2; omega
          clear hX a0 a1 a2 b0 b1 b2
          go_quiet (fail)
          obtain ⟨X2, hX2⟩ : ∃ X2, X2 = X.drewN nq := ⟨_, rfl⟩
          have z0 : X2.cell? ⟨wo.heap.size, 0, none⟩ = some (.int .i64 (f0 : Int)) := by rw [hX2]; exact x0
          have z1 : X2.cell? ⟨wo.heap.size, 1, none⟩ = some (.int .i64 d.tt) := by rw [hX2]; exact x1
          have HX2 : Hid (Below wo.heap.size wo X2) := hid (by rw [hX2]; exact ⟨HXB.out.os, HXB.out.tape, HXB.out.output, HXB.out.size, HXB.out.block⟩)
          rw [← hX2]
          clear hX2 x0 x1 x2 y0 y1 y2
          obtain ⟨pt, hpt⟩ : ∃ pt, pt = decide (d.tt < 0) := ⟨_, rfl⟩
          go_upto_if 77 with fail
          rw [← hpt]
          have HPT : Hid (pt = decide (d.tt < 0)) := hpt
          clear hpt
          go_cut [11] (fun v11 wd => v11 = .int .i64 (toOf N d) ∧ wd = X2)
          case first =>
            cases pt
            · go_wp2
              go_meet
              case rel =>
                refine ⟨?_, rfl⟩
                have h' : ¬ d.tt < 0 := of_decide_eq_false HPT.out.symm
                rw [toOf_pos (by omega)]
            · go_wp2
              go_meet
              case rel =>
                refine ⟨?_, rfl⟩
                have h' : d.tt < 0 := of_decide_eq_true HPT.out.symm
                rw [toOf_neg h']
          case rest =>
            obtain ⟨rfl, hwc⟩ := hcut
            replace hwc := hwc.symm
            subst hwc
            obtain ⟨te, hte⟩ : ∃ te, te = toOf N d := ⟨_, rfl⟩
            rw [← hte]
            have HTO : Hid (te = toOf N d) := hte
            have HFR : Hid (d.fr = (f0 : Int)) := hf0
            have hfN : f0 < N := by have := HDF.out.2; omega
            clear hte hf0
            have HRX : Hid (Row X2 R 1 N (fun i _ => .bool (markL N (L.take q) i || (decide (f0 ≤ i) && decide (i < f0))))) := hid ((HROW.out.below HX2.out HROW.out.lt).congr (fun i j _ _ => by
              have : (decide (f0 ≤ i) && decide (i < f0)) = false := by rw [Bool.and_eq_false_iff]; by_cases h : f0 ≤ i <;> simp [h]
              rw [this, Bool.or_false]))
            have HBX : Hid (Below R w6 X2) := hid (HBEL.out.trans (HX2.out.mono (Nat.le_trans (Nat.le_of_lt HRL.out) HBEL.out.size)))
            go_wp2_with fail
            go_loopw [12] (fun v12 wq => ∃ kk : Nat, f0 ≤ kk ∧ v12 = .int .i64 kk ∧ kk ≤ N ∧ ((kk : Int) ≤ te ∨ kk = f0) ∧ Row wq R 1 N (fun i _ => .bool (markL N (L.take q) i || (decide (f0 ≤ i) && decide (i < kk)))) ∧ Below R w6 wq) (fun v12 _ => N - (intOf v12).toNat)
            case atStart => exact ⟨f0, Nat.le_refl _, rfl, by omega, .inr rfl, HRX.out, HBX.out⟩
            case round =>
              obtain ⟨kk, hfk, rfl, hkN, hkt, hrow2, hbel2⟩ := hrel
              have HROW2 : Hid (Row wr R 1 N (fun i _ => .bool (markL N (L.take q) i || (decide (f0 ≤ i) && decide (i < kk))))) := hrow2
              have HBEL2 : Hid (Below R w6 wr) := hbel2
              have HEND : Hid (¬ ((kk : Int) < te ∧ (kk : Int) < (N : Int)) → Row wr R 1 N (fun i _ => .bool (markL N (L.take (q + 1)) i))) := hid (fun hno => hrow2.congr (fun i j hi _ => by
                rw [HDL.out]
                unfold markL
                rw [List.any_append]
                congr 2
                rw [Bool.eq_iff_iff]
                simp only [List.any_cons, List.any_nil, Bool.or_false, Bool.and_eq_true, decide_eq_true_eq]
                rw [markB_iff, HFR.out, ← HTO.out]
                omega))
              clear hrow2 hbel2
              by_cases h1 : (kk : Int) < te
              · by_cases h2 : (kk : Int) < (N : Int)
                · have r0 := HROW2.out.cells kk 0 (by omega) (by omega)
                  have rf := HROW2.out.free
                  simp only [Nat.mul_one, Nat.add_zero] at r0
                  go_wp2
                  go_roundw
                  case rel =>
                    refine ⟨kk + 1, by omega, by go_num, by omega, .inl (by omega), ?_, HBEL2.out.setCell (by simp) _⟩
                    have := HROW2.out.set kk 0 (by omega) (by omega) (.bool true)
                    simp only [Nat.mul_one, Nat.add_zero] at this
                    refine this.congr (fun i j hi' hj' => ?_)
                    have hj0 : j = 0 := by omega
                    subst hj0
                    by_cases e : i = kk
                    · subst e
                      rw [if_pos ⟨rfl, rfl⟩]
                      simp [hfk]
                    · rw [if_neg (fun h => e h.1)]
                      have : decide (i < kk + 1) = decide (i < kk) := by simp; omega
                      rw [this]
                  case measure => simp [intOf]; omega
                · have HROW3 : Hid (Row wr R 1 N (fun i _ => .bool (markL N (L.take (q + 1)) i))) := hid (HEND.out (fun h => h2 h.2))
                  clear HEND HROW2
                  go_wp2
                  go_roundw
                  case rel => exact ⟨q + 1, by omega, by go_num, HROW3.out, HBEL2.out⟩
                  case measure => simp [intOf]; omega
              · have HROW3 : Hid (Row wr R 1 N (fun i _ => .bool (markL N (L.take (q + 1)) i))) := hid (HEND.out (fun h => h1 h.1))
                clear HEND HROW2
                go_wp2
                go_roundw
                case rel => exact ⟨q + 1, by omega, by go_num, HROW3.out, HBEL2.out⟩
                case measure => simp [intOf]; omega
        · have eq : q = m := by omega
          subst eq
          have HEN : Hid (L.take q = L) := hid (by rw [HLM.out]; exact List.take_length)
          go_wp2
          go_meet
          case rel => exact ⟨by have := HROW.out; rw [HEN.out] at this; exact this, HBEL.out⟩
  case rest =>
    obtain ⟨hrow, hbel⟩ := hcut
    have HROW : Hid (Row wc R 1 N (fun i _ => .bool (markL N L i))) := hrow
    have HFIN : Hid (Below w.heap.size w wc) := hid (HB1.out.trans (((HB5.out.trans (HB6.out.mono (by have := HSR.out; have := HB5.out.size; omega))).trans (hbel.mono (by have := HSR.out; have := HB5.out.size; omega))).mono HB1.out.size))
    obtain ⟨y, ey⟩ : ∃ y, y = wc := ⟨wc, rfl⟩
    subst ey
    rcases Nat.eq_zero_or_pos N with hN0 | hNp
    · subst hN0
      go_wp2_with fail
      refine wp_loop_rounds 1 ?_
      rw [rounds_succ]
      go_wp2
      go_ret
      exact ⟨rfl, HFIN.out⟩
    · obtain ⟨g4, d4, e4, hg4, hr4⟩ := HV45.out.formS hNp
      injection e4 with e4a e4b e4c
      subst e4a
      have HR4 : Hid (Row y g4 9 N (fun i j => saidCell (saidAt t F i) j)) := hid ((hr4.below HB6.out (by rw [HSR.out]; exact hr4.lt)).below hbel (by rw [HSR.out]; exact hr4.lt))
      clear hr4 hg4 e4b e4c hrow hbel
      go_wp2_with fail
      go_loopw [99] (fun i wq => ∃ q : Nat, q ≤ N ∧ i = .int .i64 q ∧ Below y.heap.size y wq) (fun i _ => N - (intOf i).toNat)
      case atStart => exact ⟨0, Nat.zero_le _, rfl, Below.refl _ _⟩
      case round =>
        obtain ⟨q, hq, rfl, hb⟩ := hrel
        have HBQ : Hid (Below y.heap.size y wr) := hb
        clear hb
        by_cases hlt : q < N
        · have HR4q := HR4.out.below HBQ.out HR4.out.lt
          have c0 := HR4q.cells q 0 hlt (by omega)
          have c1 := HR4q.cells q 1 hlt (by omega)
          have c2' := HR4q.cells q 2 hlt (by omega)
          have c3' := HR4q.cells q 3 hlt (by omega)
          have c4' := HR4q.cells q 4 hlt (by omega)
          have c5 := HR4q.cells q 5 hlt (by omega)
          have c6 := HR4q.cells q 6 hlt (by omega)
          have c7 := HR4q.cells q 7 hlt (by omega)
          have c8 := HR4q.cells q 8 hlt (by omega)
          have r0 := (HROW.out.below HBQ.out HROW.out.lt).cells q 0 hlt (by omega)
          have hred : markL N L q = (saidAt t F q).red := by rw [HN.out, HL.out]; exact (red_marks t F n q (by rw [← HN.out]; exact hlt)).symm
          rw [hred] at r0
          obtain ⟨sd, hsd⟩ : ∃ sd, sd = saidAt t F q := ⟨_, rfl⟩
          rw [← hsd] at c0 c1 c2' c3' c4' c5 c6 c7 c8 r0
          simp only [saidCell, Nat.mul_one, Nat.add_zero, if_true, reduceIte, Nat.one_ne_zero, Nat.reduceEqDiff] at c0 c1 c2' c3' c4' c5 c6 c7 c8 r0
          clear hsd hred HR4q
          have hlR : R < wr.heap.size := Nat.lt_of_lt_of_le HROW.out.lt HBQ.out.size
          go_upto_region 26 with fail
          obtain ⟨X, hX⟩ : ∃ X, X = wr.alloc (.cells #[.bool sd.ok, .int .i64 sd.g.s, .int .i64 sd.g.i, .int .i64 sd.g.u, .bool sd.g.f, .bool sd.may, .bool sd.red, .bool sd.down, .bool sd.long] 33) := ⟨_, rfl⟩
          rw [← hX]
          have HXB : Hid (Below wr.heap.size wr X) := hid (by rw [hX]; exact (Below.refl _ _).alloc (Nat.le_refl _) _)
          have x6 : X.cell? ⟨wr.heap.size, 6, none⟩ = some (.bool sd.red) := by rw [hX]; simp [go_sem]
          have xr := (HXB.out.cell (p := ⟨R, q, none⟩) hlR).trans r0
          have hne : (sd.red != sd.red) = false := by simp
          clear hX c0 c1 c2' c3' c4' c5 c6 c7 c8 r0
          go_quiet (fail)
          go_wp2
          go_roundw
          case rel => exact ⟨q + 1, by omega, by go_num, HBQ.out.trans (Below.mono ⟨HXB.out.os, HXB.out.tape, HXB.out.output, HXB.out.size, HXB.out.block⟩ HBQ.out.size)⟩
          case measure => simp [intOf]; omega
        · go_wp2
          go_ret
          exact ⟨rfl, HFIN.out.trans (HBQ.out.mono HFIN.out.size)⟩

end Go.Proofs.Ytcidikmbngflcaa
