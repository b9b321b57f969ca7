/-
  FnExactWaits: the law's walk out of the contracts.
-/
import Derived.Test.YtcidikmbngflcabSpecWaits
import Derived.Test.YtcidikmbngflcabFeltS
import Derived.Test.YtcidikmbngflcabSlFelt
import Derived.Test.YtcidikmbngflcabSlWait
namespace Go.Proofs.Ytcidikmbngflcab
open Go.ChangeShapes Go.WideShapes Go.ChangeAt Go.RowKit
set_option maxRecDepth 100000
set_option linter.unusedSimpArgs false

/-- What the law asks of impl.Waits. -/
structure ImplWaits : Prop where
  some : ∀ (t : TD) (b o len cap : Nat) (F : Nat → FD) (w : World), 0 < len → len ≤ 1048576 → b < w.heap.size → (∀ i, i < len → FCell w b o i (F i)) →
    Calls Try.prog 10 #[t.v, .slice (some ⟨b, o, none⟩) len cap] w fun e w' => ∃ v, e = .returned v ∧ RowV w.heap.size w' v 3 (waitLen t F len) (fun i j => waitCell (waitAt t F len i) j) ∧ Below w.heap.size w w'
  none : ∀ (t : TD) (ao : Option Addr) (cap : Nat) (w : World),
    Calls Try.prog 10 #[t.v, .slice ao 0 cap] w fun e w' => ∃ ao' cap', e = .returned (.slice ao' 0 cap') ∧ Below w.heap.size w w'

theorem fcell_row {w : World} {g n i : Nat} {F : Nat → FD} (h : Row w g 5 n (feltC F)) (hi : i < n) : FCell w g 0 i (F i) := by
  have h0 := h.cells i 0 hi (by omega)
  have h1 := h.cells i 1 hi (by omega)
  have h2 := h.cells i 2 hi (by omega)
  have h3 := h.cells i 3 hi (by omega)
  have h4 := h.cells i 4 hi (by omega)
  simp only [FCell, Nat.zero_add]
  exact ⟨h0, h1, h2, h3, h4⟩

set_option maxHeartbeats 400000 in
theorem waits_walk_long (t : TD) (ao : Option Addr) (len cap : Nat) (w : World) (hm : len ≤ maxLen) (hlen : 1048576 < len) :
    Calls Try.prog 3 #[t.v, .slice ao len cap] w fun e w' => e = .returned (.bool true) ∧ Below w.heap.size w w' := by
  unfold TD.v tV
  have HS : Hid ((if (1048576 : Int) < (len : Int) then (-1 : Int) else 1048576 - (len : Int)) = -1) := hid (if_pos (by omega))
  go_enter Try.func3, Try.ntmps3
  go_wp2_with fail
  refine (szFeltS_any ao len cap 1048576 _ (by omega) (by omega) hm).mono ?_
  rintro e w1 ⟨rfl, rfl⟩
  rw [HS.out]
  go_wp2
  go_ret
  exact ⟨rfl, (Below.refl _ _).alloc (Nat.le_refl _) _⟩

set_option maxHeartbeats 4000000 in
theorem waits_walk_some (IR : ImplWaits) (t : TD) (b o len cap : Nat) (F : Nat → FD) (w : World) (hpos : 0 < len) (hlen : len ≤ 1048576) (hb : b < w.heap.size) (hc : ∀ i, i < len → FCell w b o i (F i)) (hn : 0 < waitLen t F len) :
    Calls Try.prog 3 #[t.v, .slice (some ⟨b, o, none⟩) len cap] w fun e w' => e = .returned (.bool true) ∧ Below w.heap.size w w' := by
  have HT : Hid (t.v = .agg #[.int .i64 t.a, .int .i64 t.b, .int .i64 t.c, .int .i64 t.d]) := rfl
  have HTT : Hid (tV t.a t.b t.c t.d = t.v) := rfl
  have HS : Hid ((if (1048576 : Int) < (len : Int) then (-1 : Int) else 1048576 - (len : Int)) = 1048576 - (len : Int)) := hid (if_neg (by omega))
  have HC : Hid (∀ i, i < len → FCell w b o i (F i)) := hc
  have HBB : Hid (b < w.heap.size) := hb
  have HPOS : Hid (0 < len) := hpos
  have hm : len ≤ maxLen := by unfold maxLen; omega
  have HM : Hid (len ≤ maxLen) := hm
  obtain ⟨N, hN⟩ : ∃ N, N = waitLen t F len := ⟨_, rfl⟩
  have HN : Hid (N = waitLen t F len) := hN
  have hN2 : N ≤ 1048576 := by rw [hN]; exact Nat.le_trans (waitLen_le t F len) hlen
  have hNp : 0 < N := by rw [hN]; exact hn
  clear hc hb hpos hm hN hn
  rw [HT.out]
  go_enter Try.func3, Try.ntmps3
  go_wp2_with fail
  refine (szFeltS_any (some ⟨b, o, none⟩) len cap 1048576 _ (by omega) (by omega) HM.out).mono ?_
  rintro e w0 ⟨rfl, hw0⟩
  rw [HS.out]
  have HX0 : Hid (Below w.heap.size w w0) := hid (by rw [hw0]; exact (Below.refl _ _).alloc (Nat.le_refl _) _)
  have HZ0 : Hid (w0.heap.size = w.heap.size + 1) := hid (by rw [hw0]; simp)
  have HTC : Hid (TCell w0 w.heap.size t) := hid (by rw [hw0]; exact ⟨by simp [go_sem], by simp [go_sem], by simp [go_sem], by simp [go_sem]⟩)
  clear hw0
  -- w0 := spec.Waits
  obtain ⟨t0, t1, t2, t3⟩ := HTC.out
  go_wp2_with fail
  rw [← HT.out]
  refine (toTimes_any t.a t.b t.c t.d _).mono ?_
  rintro e w1 ⟨rfl, hb1⟩
  rw [HTT.out]
  have HB1 : Hid (Below w0.heap.size w0 w1) := hb1
  clear hb1 t0 t1 t2 t3
  go_wp2_with fail
  refine (toFeltS_some b o len cap F _ HPOS.out hlen (Nat.lt_of_lt_of_le HBB.out (HX0.out.trans (HB1.out.mono HX0.out.size)).size) (fun i hi => (HC.out i hi).below (HX0.out.trans (HB1.out.mono HX0.out.size)) HBB.out)).mono ?_
  rintro e w2 ⟨rfl, hr2, hb2⟩
  have HR2 : Hid (Row w2 w1.heap.size 5 len (feltC F)) := hr2
  have HB2 : Hid (Below w0.heap.size w0 w2) := hid (HB1.out.trans (hb2.mono HB1.out.size))
  clear hr2 hb2
  go_wp2_with fail
  refine (specWaits_some t w1.heap.size 0 len len F _ HPOS.out hlen HR2.out.lt (fun i hi => fcell_row HR2.out hi)).mono ?_
  rintro e w3 ⟨v0, rfl, hv0, hb3⟩
  rw [← HN.out] at hv0
  obtain ⟨gs, cs, rfl, hgs, hrs⟩ := hv0.formS hNp
  have HB3 : Hid (Below w0.heap.size w0 w3) := hid (HB2.out.trans (hb3.mono HB2.out.size))
  have HRS : Hid (Row w3 gs 3 N (fun i j => waitCell (waitAt t F len i) j)) := hrs
  have HGS : Hid (w0.heap.size ≤ gs) := hid (Nat.le_trans HB2.out.size hgs)
  clear hv0 hgs hrs hb3 HR2
  -- x1 := toFeltS
  go_wp2_with fail
  refine (toFeltS_some b o len cap F _ HPOS.out hlen (Nat.lt_of_lt_of_le HBB.out (HX0.out.trans (HB3.out.mono HX0.out.size)).size) (fun i hi => (HC.out i hi).below (HX0.out.trans (HB3.out.mono HX0.out.size)) HBB.out)).mono ?_
  rintro e w4 ⟨rfl, hr4, hb4⟩
  obtain ⟨gx, hgx⟩ : ∃ gx, gx = w3.heap.size := ⟨_, rfl⟩
  rw [← hgx] at hr4 ⊢
  have HB4 : Hid (Below w0.heap.size w0 w4) := hid (HB3.out.trans (hb4.mono HB3.out.size))
  have HRS4 : Hid (Row w4 gs 3 N (fun i j => waitCell (waitAt t F len i) j)) := hid (HRS.out.below hb4 HRS.out.lt)
  have HRX4 : Hid (Row w4 gx 5 len (feltC F)) := hr4
  have HSX : Hid (gs < gx) := hid (by rw [hgx]; exact HRS.out.lt)
  clear hgx hr4 hb4 HRS
  -- g0 := impl.Waits
  obtain ⟨t0, t1, t2, t3⟩ := HTC.out.below HB4.out (by have := HZ0.out; omega)
  go_wp2_with fail
  rw [← HT.out]
  refine (toTimes_any t.a t.b t.c t.d _).mono ?_
  rintro e w5 ⟨rfl, hb5⟩
  rw [HTT.out]
  have HB5 : Hid (Below w0.heap.size w0 w5) := hid (HB4.out.trans (hb5.mono HB4.out.size))
  have HRS5 : Hid (Row w5 gs 3 N (fun i j => waitCell (waitAt t F len i) j)) := hid (HRS4.out.below hb5 HRS4.out.lt)
  have HRX5 : Hid (Row w5 gx 5 len (feltC F)) := hid (HRX4.out.below hb5 HRX4.out.lt)
  clear hb5 t0 t1 t2 t3
  clear HRS4 HRX4
  go_wp2_with fail
  refine (IR.some t gx 0 len len F _ HPOS.out hlen HRX5.out.lt (fun i hi => fcell_row HRX5.out hi)).mono ?_
  rintro e w6 ⟨v1, rfl, hv1, hb6⟩
  rw [← HN.out] at hv1
  obtain ⟨gi, ci, rfl, hgi, hri⟩ := hv1.formS hNp
  have HB6 : Hid (Below w0.heap.size w0 w6) := hid (HB5.out.trans (hb6.mono HB5.out.size))
  have HRI6 : Hid (Row w6 gi 3 N (fun i j => waitCell (waitAt t F len i) j)) := hri
  have HRS6 : Hid (Row w6 gs 3 N (fun i j => waitCell (waitAt t F len i) j)) := hid (HRS5.out.below hb6 HRS5.out.lt)
  have HRX6 : Hid (Row w6 gx 5 len (feltC F)) := hid (HRX5.out.below hb6 HRX5.out.lt)
  have HXI : Hid (gx < gi) := hid (Nat.lt_of_lt_of_le HRX5.out.lt hgi)
  clear hv1 hgi hri hb6 HRS5 HRX5
  -- eqWaitS
  go_wp2_with fail
  refine (eqWaitS_same gi gs N ci cs (fun i => waitAt t F len i) _ hN2 HRI6.out HRS6.out).mono ?_
  rintro e w7 ⟨rfl, hb7⟩
  have HB7 : Hid (Below w0.heap.size w0 w7) := hid (HB6.out.trans (hb7.mono HB6.out.size))
  have HRI7 : Hid (Row w7 gi 3 N (fun i j => waitCell (waitAt t F len i) j)) := hid (HRI6.out.below hb7 HRI6.out.lt)
  have HRS7 : Hid (Row w7 gs 3 N (fun i j => waitCell (waitAt t F len i) j)) := hid (HRS6.out.below hb7 HRS6.out.lt)
  have HRX7 : Hid (Row w7 gx 5 len (feltC F)) := hid (HRX6.out.below hb7 HRX6.out.lt)
  clear hb7 HRI6 HRS6 HRX6
  -- eqFeltS(x1, toFeltS(aTicks))
  go_wp2_with fail
  refine (toFeltS_some b o len cap F _ HPOS.out hlen (Nat.lt_of_lt_of_le HBB.out (HX0.out.trans (HB7.out.mono HX0.out.size)).size) (fun i hi => (HC.out i hi).below (HX0.out.trans (HB7.out.mono HX0.out.size)) HBB.out)).mono ?_
  rintro e w8 ⟨rfl, hr8, hb8⟩
  have HB8 : Hid (Below w0.heap.size w0 w8) := hid (HB7.out.trans (hb8.mono HB7.out.size))
  have HR8 : Hid (Row w8 w7.heap.size 5 len (feltC F)) := hr8
  have HRI8 : Hid (Row w8 gi 3 N (fun i j => waitCell (waitAt t F len i) j)) := hid (HRI7.out.below hb8 HRI7.out.lt)
  have HRS8 : Hid (Row w8 gs 3 N (fun i j => waitCell (waitAt t F len i) j)) := hid (HRS7.out.below hb8 HRS7.out.lt)
  have HRX8 : Hid (Row w8 gx 5 len (feltC F)) := hid (HRX7.out.below hb8 HRX7.out.lt)
  clear hr8 hb8 HRI7 HRS7 HRX7
  go_wp2_with fail
  refine (eqFeltS_same gx w7.heap.size len len len F _ hlen HRX8.out HR8.out).mono ?_
  rintro e w9 ⟨rfl, hb9⟩
  have HB9 : Hid (Below w0.heap.size w0 w9) := hid (HB8.out.trans (hb9.mono HB8.out.size))
  have HRI9 : Hid (Row w9 gi 3 N (fun i j => waitCell (waitAt t F len i) j)) := hid (HRI8.out.below hb9 HRI8.out.lt)
  have HRS9 : Hid (Row w9 gs 3 N (fun i j => waitCell (waitAt t F len i) j)) := hid (HRS8.out.below hb9 HRS8.out.lt)
  have HRX9 : Hid (Row w9 gx 5 len (feltC F)) := hid (HRX8.out.below hb9 HRX8.out.lt)
  clear hb9 HRI8 HRS8 HRX8 HR8
  -- markFeltS(x1, 1)
  go_wp2_with fail
  refine (markFeltS_any gx len len F 1 _ hlen (by omega) (by omega) HRX9.out).mono ?_
  rintro e w10 ⟨rfl, hr10, ho10⟩
  have HB10 : Hid (Below w0.heap.size w0 w10) := hid (HB9.out.trans (ho10.below (by have := HGS.out; have := HSX.out; omega)))
  have HRI10 : Hid (Row w10 gi 3 N (fun i j => waitCell (waitAt t F len i) j)) := hid (ho10.row (by have := HXI.out; omega) HRI9.out)
  have HRS10 : Hid (Row w10 gs 3 N (fun i j => waitCell (waitAt t F len i) j)) := hid (ho10.row (by have := HSX.out; omega) HRS9.out)
  clear hr10 ho10 HRI9 HRS9 HRX9
  have hkk : ¬ (1 : Int) + (len : Int) * 5 < 0 := by omega
  go_wp2_with fail
  refine (eqWaitS_same gi gs N ci cs (fun i => waitAt t F len i) _ hN2 HRI10.out HRS10.out).mono ?_
  rintro e w11 ⟨rfl, hb11⟩
  have HB11 : Hid (Below w0.heap.size w0 w11) := hid (HB10.out.trans (hb11.mono HB10.out.size))
  have HRI11 : Hid (Row w11 gi 3 N (fun i j => waitCell (waitAt t F len i) j)) := hid (HRI10.out.below hb11 HRI10.out.lt)
  have HRS11 : Hid (Row w11 gs 3 N (fun i j => waitCell (waitAt t F len i) j)) := hid (HRS10.out.below hb11 HRS10.out.lt)
  clear hb11 HRI10 HRS10
  -- markWaitS(g0, 1), heldWaitS(g0, 1)
  go_wp2_with fail
  refine (markWaitS_any gi N ci (fun i => waitAt t F len i) 1 _ hN2 (by omega) (by omega) HRI11.out).mono ?_
  rintro e w12 ⟨rfl, hr12, ho12⟩
  have HB12 : Hid (Below w0.heap.size w0 w12) := hid (HB11.out.trans (ho12.below (by have := HGS.out; have := HSX.out; have := HXI.out; omega)))
  have HRM12 : Hid (Row w12 gi 3 N (fun i j => waitCell (markWait 1 i) j)) := hr12
  have HRS12 : Hid (Row w12 gs 3 N (fun i j => waitCell (waitAt t F len i) j)) := hid (ho12.row (by have := HSX.out; have := HXI.out; omega) HRS11.out)
  clear hr12 ho12 HRI11 HRS11
  go_wp2_with fail
  refine (heldWaitS_any gi N ci 1 _ hN2 (by omega) (by omega) HRM12.out).mono ?_
  rintro e w13 ⟨rfl, rfl⟩
  have hq1 : ¬ (1 : Int) + (N : Int) * 3 < 0 := by omega
  have hq2 : ((1 : Int) + (N : Int) * 3 != (1 : Int) + (N : Int) * 3) = false := by simp
  -- h0 := impl.Waits again
  obtain ⟨t0, t1, t2, t3⟩ := HTC.out.below HB12.out (by have := HZ0.out; omega)
  go_wp2_with fail
  rw [← HT.out]
  refine (toTimes_any t.a t.b t.c t.d _).mono ?_
  rintro e w14 ⟨rfl, hb14⟩
  rw [HTT.out]
  have HB14 : Hid (Below w0.heap.size w0 w14) := hid (HB12.out.trans (hb14.mono HB12.out.size))
  have HRM14 : Hid (Row w14 gi 3 N (fun i j => waitCell (markWait 1 i) j)) := hid (HRM12.out.below hb14 HRM12.out.lt)
  have HRS14 : Hid (Row w14 gs 3 N (fun i j => waitCell (waitAt t F len i) j)) := hid (HRS12.out.below hb14 HRS12.out.lt)
  clear hb14 t0 t1 t2 t3
  clear HRM12 HRS12
  go_wp2_with fail
  refine (toFeltS_some b o len cap F _ HPOS.out hlen (Nat.lt_of_lt_of_le HBB.out (HX0.out.trans (HB14.out.mono HX0.out.size)).size) (fun i hi => (HC.out i hi).below (HX0.out.trans (HB14.out.mono HX0.out.size)) HBB.out)).mono ?_
  rintro e w15 ⟨rfl, hr15, hb15⟩
  have HB15 : Hid (Below w0.heap.size w0 w15) := hid (HB14.out.trans (hb15.mono HB14.out.size))
  have HR15 : Hid (Row w15 w14.heap.size 5 len (feltC F)) := hr15
  have HRM15 : Hid (Row w15 gi 3 N (fun i j => waitCell (markWait 1 i) j)) := hid (HRM14.out.below hb15 HRM14.out.lt)
  have HRS15 : Hid (Row w15 gs 3 N (fun i j => waitCell (waitAt t F len i) j)) := hid (HRS14.out.below hb15 HRS14.out.lt)
  clear hr15 hb15 HRM14 HRS14
  go_wp2_with fail
  refine (IR.some t w14.heap.size 0 len len F _ HPOS.out hlen HR15.out.lt (fun i hi => fcell_row HR15.out hi)).mono ?_
  rintro e w16 ⟨v2, rfl, hv2, hb16⟩
  rw [← HN.out] at hv2
  obtain ⟨gh, ch, rfl, hgh, hrh⟩ := hv2.formS hNp
  have HB16 : Hid (Below w0.heap.size w0 w16) := hid (HB15.out.trans (hb16.mono HB15.out.size))
  have HRH16 : Hid (Row w16 gh 3 N (fun i j => waitCell (waitAt t F len i) j)) := hrh
  have HRM16 : Hid (Row w16 gi 3 N (fun i j => waitCell (markWait 1 i) j)) := hid (HRM15.out.below hb16 HRM15.out.lt)
  have HRS16 : Hid (Row w16 gs 3 N (fun i j => waitCell (waitAt t F len i) j)) := hid (HRS15.out.below hb16 HRS15.out.lt)
  clear hv2 hgh hrh hb16 HR15 HRM15 HRS15
  go_wp2_with fail
  refine (eqWaitS_same gh gs N ch cs (fun i => waitAt t F len i) _ hN2 HRH16.out HRS16.out).mono ?_
  rintro e w17 ⟨rfl, hb17⟩
  have HB17 : Hid (Below w0.heap.size w0 w17) := hid (HB16.out.trans (hb17.mono HB16.out.size))
  have HRM17 : Hid (Row w17 gi 3 N (fun i j => waitCell (markWait 1 i) j)) := hid (HRM16.out.below hb17 HRM16.out.lt)
  clear hb17 HRH16 HRM16 HRS16
  go_wp2_with fail
  refine (heldWaitS_any gi N ci 1 _ hN2 (by omega) (by omega) HRM17.out).mono ?_
  rintro e w18 ⟨rfl, rfl⟩
  go_wp2
  go_ret
  exact ⟨rfl, HX0.out.trans (HB17.out.mono HX0.out.size)⟩

set_option maxHeartbeats 4000000 in
theorem waits_walk_zero (IR : ImplWaits) (t : TD) (b o len cap : Nat) (F : Nat → FD) (w : World) (hpos : 0 < len) (hlen : len ≤ 1048576) (hb : b < w.heap.size) (hc : ∀ i, i < len → FCell w b o i (F i)) (hn : waitLen t F len = 0) :
    Calls Try.prog 3 #[t.v, .slice (some ⟨b, o, none⟩) len cap] w fun e w' => e = .returned (.bool true) ∧ Below w.heap.size w w' := by
  have HT : Hid (t.v = .agg #[.int .i64 t.a, .int .i64 t.b, .int .i64 t.c, .int .i64 t.d]) := rfl
  have HTT : Hid (tV t.a t.b t.c t.d = t.v) := rfl
  have HS : Hid ((if (1048576 : Int) < (len : Int) then (-1 : Int) else 1048576 - (len : Int)) = 1048576 - (len : Int)) := hid (if_neg (by omega))
  have HC : Hid (∀ i, i < len → FCell w b o i (F i)) := hc
  have HBB : Hid (b < w.heap.size) := hb
  have HPOS : Hid (0 < len) := hpos
  have hm : len ≤ maxLen := by unfold maxLen; omega
  have HM : Hid (len ≤ maxLen) := hm
  have HN : Hid (waitLen t F len = 0) := hn
  clear hc hb hpos hm hn
  rw [HT.out]
  go_enter Try.func3, Try.ntmps3
  go_wp2_with fail
  refine (szFeltS_any (some ⟨b, o, none⟩) len cap 1048576 _ (by omega) (by omega) HM.out).mono ?_
  rintro e w0 ⟨rfl, hw0⟩
  rw [HS.out]
  have HX0 : Hid (Below w.heap.size w w0) := hid (by rw [hw0]; exact (Below.refl _ _).alloc (Nat.le_refl _) _)
  have HZ0 : Hid (w0.heap.size = w.heap.size + 1) := hid (by rw [hw0]; simp)
  have HTC : Hid (TCell w0 w.heap.size t) := hid (by rw [hw0]; exact ⟨by simp [go_sem], by simp [go_sem], by simp [go_sem], by simp [go_sem]⟩)
  have HB0 : Hid (Below w0.heap.size w0 w0) := hid (Below.refl _ _)
  clear hw0
  obtain ⟨t0, t1, t2, t3⟩ := HTC.out.below HB0.out (by have := HZ0.out; omega)
  go_wp2_with fail
  rw [← HT.out]
  refine (toTimes_any t.a t.b t.c t.d _).mono ?_
  rintro e w1 ⟨rfl, hb1⟩
  rw [HTT.out]
  have HB1 : Hid (Below w0.heap.size w0 w1) := hid (HB0.out.trans (hb1.mono HB0.out.size))
  clear hb1 t0 t1 t2 t3
  go_wp2_with fail
  refine (toFeltS_some b o len cap F _ HPOS.out hlen (Nat.lt_of_lt_of_le HBB.out (HX0.out.trans (HB1.out.mono HX0.out.size)).size) (fun i hi => (HC.out i hi).below (HX0.out.trans (HB1.out.mono HX0.out.size)) HBB.out)).mono ?_
  rintro e w2 ⟨rfl, hr2, hb2⟩
  have HR2 : Hid (Row w2 w1.heap.size 5 len (feltC F)) := hr2
  have HB2 : Hid (Below w0.heap.size w0 w2) := hid (HB1.out.trans (hb2.mono HB1.out.size))
  clear hr2 hb2
  go_wp2_with fail
  refine (specWaits_some t w1.heap.size 0 len len F _ HPOS.out hlen HR2.out.lt (fun i hi => fcell_row HR2.out hi)).mono ?_
  rintro e w3 ⟨v3, rfl, hv3, hb3⟩
  rw [HN.out] at hv3
  obtain ⟨a3, c3, rfl⟩ := hv3.form0
  clear hv3
  have HB3 : Hid (Below w0.heap.size w0 w3) := hid (HB2.out.trans (hb3.mono HB2.out.size))
  clear hb3
  clear HR2
  go_wp2_with fail
  refine (toFeltS_some b o len cap F _ HPOS.out hlen (Nat.lt_of_lt_of_le HBB.out (HX0.out.trans (HB3.out.mono HX0.out.size)).size) (fun i hi => (HC.out i hi).below (HX0.out.trans (HB3.out.mono HX0.out.size)) HBB.out)).mono ?_
  rintro e w4 ⟨rfl, hr4, hb4⟩
  obtain ⟨gx, hgx⟩ : ∃ gx, gx = w3.heap.size := ⟨_, rfl⟩
  rw [← hgx] at hr4 ⊢
  have HXG : Hid (w0.heap.size ≤ gx) := hid (by rw [hgx]; exact HB3.out.size)
  clear hgx
  have HB4 : Hid (Below w0.heap.size w0 w4) := hid (HB3.out.trans (hb4.mono HB3.out.size))
  have HRX4 : Hid (Row w4 gx 5 len (feltC F)) := hr4
  clear hr4 hb4
  obtain ⟨t0, t1, t2, t3⟩ := HTC.out.below HB4.out (by have := HZ0.out; omega)
  go_wp2_with fail
  rw [← HT.out]
  refine (toTimes_any t.a t.b t.c t.d _).mono ?_
  rintro e w5 ⟨rfl, hb5⟩
  rw [HTT.out]
  have HB5 : Hid (Below w0.heap.size w0 w5) := hid (HB4.out.trans (hb5.mono HB4.out.size))
  have HRX5 : Hid (Row w5 gx 5 len (feltC F)) := hid (HRX4.out.below hb5 HRX4.out.lt)
  clear HRX4
  clear hb5 t0 t1 t2 t3
  go_wp2_with fail
  refine (IR.some t gx 0 len len F _ HPOS.out hlen HRX5.out.lt (fun i hi => fcell_row HRX5.out hi)).mono ?_
  rintro e w6 ⟨v6, rfl, hv6, hb6⟩
  rw [HN.out] at hv6
  obtain ⟨a6, c6, rfl⟩ := hv6.form0
  clear hv6
  have HB6 : Hid (Below w0.heap.size w0 w6) := hid (HB5.out.trans (hb6.mono HB5.out.size))
  have HRX6 : Hid (Row w6 gx 5 len (feltC F)) := hid (HRX5.out.below hb6 HRX5.out.lt)
  clear HRX5
  clear hb6
  go_wp2_with fail
  refine (eqWaitS_none _ _ _ _ _).mono ?_
  rintro e w7 ⟨rfl, hw7⟩
  replace hw7 := hw7.symm
  subst hw7
  go_wp2_with fail
  refine (toFeltS_some b o len cap F _ HPOS.out hlen (Nat.lt_of_lt_of_le HBB.out (HX0.out.trans (HB6.out.mono HX0.out.size)).size) (fun i hi => (HC.out i hi).below (HX0.out.trans (HB6.out.mono HX0.out.size)) HBB.out)).mono ?_
  rintro e w8 ⟨rfl, hr8, hb8⟩
  have HR8 : Hid (Row w8 w6.heap.size 5 len (feltC F)) := hr8
  have HB8 : Hid (Below w0.heap.size w0 w8) := hid (HB6.out.trans (hb8.mono HB6.out.size))
  have HRX8 : Hid (Row w8 gx 5 len (feltC F)) := hid (HRX6.out.below hb8 HRX6.out.lt)
  clear HRX6
  clear hr8 hb8
  go_wp2_with fail
  refine (eqFeltS_same gx w6.heap.size len len len F _ hlen HRX8.out HR8.out).mono ?_
  rintro e w9 ⟨rfl, hb9⟩
  have HB9 : Hid (Below w0.heap.size w0 w9) := hid (HB8.out.trans (hb9.mono HB8.out.size))
  have HRX9 : Hid (Row w9 gx 5 len (feltC F)) := hid (HRX8.out.below hb9 HRX8.out.lt)
  clear HRX8
  clear hb9 HR8
  go_wp2_with fail
  refine (markFeltS_any gx len len F 1 _ hlen (by omega) (by omega) HRX9.out).mono ?_
  rintro e w10 ⟨rfl, hr10, ho10⟩
  have HB10 : Hid (Below w0.heap.size w0 w10) := hid (HB9.out.trans (ho10.below HXG.out))
  clear hr10 ho10 HRX9
  have hkk : ¬ (1 : Int) + (len : Int) * 5 < 0 := by omega
  go_wp2_with fail
  refine (eqWaitS_none _ _ _ _ _).mono ?_
  rintro e w11 ⟨rfl, hw11⟩
  replace hw11 := hw11.symm
  subst hw11
  go_wp2_with fail
  refine (markWaitS_none _ _ _ _).mono ?_
  rintro e w12 ⟨rfl, hw12⟩
  replace hw12 := hw12.symm
  subst hw12
  go_wp2_with fail
  refine (heldWaitS_none _ _ _ _).mono ?_
  rintro e w13 ⟨rfl, hw13⟩
  replace hw13 := hw13.symm
  subst hw13
  obtain ⟨t0, t1, t2, t3⟩ := HTC.out.below HB10.out (by have := HZ0.out; omega)
  go_wp2_with fail
  rw [← HT.out]
  refine (toTimes_any t.a t.b t.c t.d _).mono ?_
  rintro e w14 ⟨rfl, hb14⟩
  rw [HTT.out]
  have HB14 : Hid (Below w0.heap.size w0 w14) := hid (HB10.out.trans (hb14.mono HB10.out.size))
  clear hb14 t0 t1 t2 t3
  go_wp2_with fail
  refine (toFeltS_some b o len cap F _ HPOS.out hlen (Nat.lt_of_lt_of_le HBB.out (HX0.out.trans (HB14.out.mono HX0.out.size)).size) (fun i hi => (HC.out i hi).below (HX0.out.trans (HB14.out.mono HX0.out.size)) HBB.out)).mono ?_
  rintro e w15 ⟨rfl, hr15, hb15⟩
  have HR15 : Hid (Row w15 w14.heap.size 5 len (feltC F)) := hr15
  have HB15 : Hid (Below w0.heap.size w0 w15) := hid (HB14.out.trans (hb15.mono HB14.out.size))
  clear hr15 hb15
  go_wp2_with fail
  refine (IR.some t w14.heap.size 0 len len F _ HPOS.out hlen HR15.out.lt (fun i hi => fcell_row HR15.out hi)).mono ?_
  rintro e w16 ⟨v16, rfl, hv16, hb16⟩
  rw [HN.out] at hv16
  obtain ⟨a16, c16, rfl⟩ := hv16.form0
  clear hv16
  have HB16 : Hid (Below w0.heap.size w0 w16) := hid (HB15.out.trans (hb16.mono HB15.out.size))
  clear hb16
  go_wp2_with fail
  refine (eqWaitS_none _ _ _ _ _).mono ?_
  rintro e w17 ⟨rfl, hw17⟩
  replace hw17 := hw17.symm
  subst hw17
  go_wp2_with fail
  refine (heldWaitS_none _ _ _ _).mono ?_
  rintro e w18 ⟨rfl, hw18⟩
  replace hw18 := hw18.symm
  subst hw18
  go_wp2
  go_ret
  exact ⟨rfl, HX0.out.trans (HB16.out.mono HX0.out.size)⟩

set_option maxHeartbeats 4000000 in
theorem waits_walk_none (IR : ImplWaits) (t : TD) (ao : Option Addr) (cap : Nat) (w : World) :
    Calls Try.prog 3 #[t.v, .slice ao 0 cap] w fun e w' => e = .returned (.bool true) ∧ Below w.heap.size w w' := by
  have HT : Hid (t.v = .agg #[.int .i64 t.a, .int .i64 t.b, .int .i64 t.c, .int .i64 t.d]) := rfl
  have HTT : Hid (tV t.a t.b t.c t.d = t.v) := rfl
  have HS : Hid ((if (1048576 : Int) < ((0 : Nat) : Int) then (-1 : Int) else 1048576 - ((0 : Nat) : Int)) = 1048576) := hid (by rw [if_neg (by omega)]; omega)
  rw [HT.out]
  go_enter Try.func3, Try.ntmps3
  go_wp2_with fail
  refine (szFeltS_any ao 0 cap 1048576 _ (by omega) (by omega) (by unfold maxLen; omega)).mono ?_
  rintro e w0 ⟨rfl, hw0⟩
  rw [HS.out]
  have HX0 : Hid (Below w.heap.size w w0) := hid (by rw [hw0]; exact (Below.refl _ _).alloc (Nat.le_refl _) _)
  have HZ0 : Hid (w0.heap.size = w.heap.size + 1) := hid (by rw [hw0]; simp)
  have HTC : Hid (TCell w0 w.heap.size t) := hid (by rw [hw0]; exact ⟨by simp [go_sem], by simp [go_sem], by simp [go_sem], by simp [go_sem]⟩)
  have HB0 : Hid (Below w0.heap.size w0 w0) := hid (Below.refl _ _)
  clear hw0
  obtain ⟨t0, t1, t2, t3⟩ := HTC.out.below HB0.out (by have := HZ0.out; omega)
  go_wp2_with fail
  rw [← HT.out]
  refine (toTimes_any t.a t.b t.c t.d _).mono ?_
  rintro e w1 ⟨rfl, hb1⟩
  rw [HTT.out]
  have HB1 : Hid (Below w0.heap.size w0 w1) := hid (HB0.out.trans (hb1.mono HB0.out.size))
  clear hb1 t0 t1 t2 t3
  go_wp2_with fail
  refine (toFeltS_none ao cap _).mono ?_
  rintro e w2 ⟨rfl, hb2⟩
  have HB2 : Hid (Below w0.heap.size w0 w2) := hid (HB1.out.trans (hb2.mono HB1.out.size))
  clear hb2
  go_wp2_with fail
  refine (specWaits_none t _ _ _).mono ?_
  rintro e w3 ⟨rfl, hb3⟩
  have HB3 : Hid (Below w0.heap.size w0 w3) := hid (HB2.out.trans (hb3.mono HB2.out.size))
  clear hb3
  go_wp2_with fail
  refine (toFeltS_none ao cap _).mono ?_
  rintro e w4 ⟨rfl, hb4⟩
  have HB4 : Hid (Below w0.heap.size w0 w4) := hid (HB3.out.trans (hb4.mono HB3.out.size))
  clear hb4
  obtain ⟨t0, t1, t2, t3⟩ := HTC.out.below HB4.out (by have := HZ0.out; omega)
  go_wp2_with fail
  rw [← HT.out]
  refine (toTimes_any t.a t.b t.c t.d _).mono ?_
  rintro e w5 ⟨rfl, hb5⟩
  rw [HTT.out]
  have HB5 : Hid (Below w0.heap.size w0 w5) := hid (HB4.out.trans (hb5.mono HB4.out.size))
  clear hb5 t0 t1 t2 t3
  go_wp2_with fail
  refine (IR.none t _ _ _).mono ?_
  rintro e w6 ⟨a6, c6, rfl, hb6⟩
  have HB6 : Hid (Below w0.heap.size w0 w6) := hid (HB5.out.trans (hb6.mono HB5.out.size))
  clear hb6
  go_wp2_with fail
  refine (eqWaitS_none _ _ _ _ _).mono ?_
  rintro e w7 ⟨rfl, hw7⟩
  replace hw7 := hw7.symm
  subst hw7
  go_wp2_with fail
  refine (toFeltS_none ao cap _).mono ?_
  rintro e w8 ⟨rfl, hb8⟩
  have HB8 : Hid (Below w0.heap.size w0 w8) := hid (HB6.out.trans (hb8.mono HB6.out.size))
  clear hb8
  go_wp2_with fail
  refine (eqFeltS_none _ _ _ _ _).mono ?_
  rintro e w9 ⟨rfl, hw9⟩
  replace hw9 := hw9.symm
  subst hw9
  go_wp2_with fail
  refine (markFeltS_none _ _ _ _).mono ?_
  rintro e w10 ⟨rfl, hw10⟩
  replace hw10 := hw10.symm
  subst hw10
  go_wp2_with fail
  refine (eqWaitS_none _ _ _ _ _).mono ?_
  rintro e w11 ⟨rfl, hw11⟩
  replace hw11 := hw11.symm
  subst hw11
  go_wp2_with fail
  refine (markWaitS_none _ _ _ _).mono ?_
  rintro e w12 ⟨rfl, hw12⟩
  replace hw12 := hw12.symm
  subst hw12
  go_wp2_with fail
  refine (heldWaitS_none _ _ _ _).mono ?_
  rintro e w13 ⟨rfl, hw13⟩
  replace hw13 := hw13.symm
  subst hw13
  obtain ⟨t0, t1, t2, t3⟩ := HTC.out.below HB8.out (by have := HZ0.out; omega)
  go_wp2_with fail
  rw [← HT.out]
  refine (toTimes_any t.a t.b t.c t.d _).mono ?_
  rintro e w14 ⟨rfl, hb14⟩
  rw [HTT.out]
  have HB14 : Hid (Below w0.heap.size w0 w14) := hid (HB8.out.trans (hb14.mono HB8.out.size))
  clear hb14 t0 t1 t2 t3
  go_wp2_with fail
  refine (toFeltS_none ao cap _).mono ?_
  rintro e w15 ⟨rfl, hb15⟩
  have HB15 : Hid (Below w0.heap.size w0 w15) := hid (HB14.out.trans (hb15.mono HB14.out.size))
  clear hb15
  go_wp2_with fail
  refine (IR.none t _ _ _).mono ?_
  rintro e w16 ⟨a16, c16, rfl, hb16⟩
  have HB16 : Hid (Below w0.heap.size w0 w16) := hid (HB15.out.trans (hb16.mono HB15.out.size))
  clear hb16
  go_wp2_with fail
  refine (eqWaitS_none _ _ _ _ _).mono ?_
  rintro e w17 ⟨rfl, hw17⟩
  replace hw17 := hw17.symm
  subst hw17
  go_wp2_with fail
  refine (heldWaitS_none _ _ _ _).mono ?_
  rintro e w18 ⟨rfl, hw18⟩
  replace hw18 := hw18.symm
  subst hw18
  go_wp2
  go_ret
  exact ⟨rfl, HX0.out.trans (HB16.out.mono HX0.out.size)⟩

end Go.Proofs.Ytcidikmbngflcab
