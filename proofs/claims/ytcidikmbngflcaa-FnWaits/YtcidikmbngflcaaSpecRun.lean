/-
  spec.Run.
-/
import Derived.Test.YtcidikmbngflcaaSpecTick
import Derived.Test.YtcidikmbngflcaaRuns
import Derived.Deep.DeepCutAuto
namespace Go.Proofs.Ytcidikmbngflcaa
open Go.ChangeShapes Go.WideShapes Go.ChangeAt Go.RowKit
set_option maxRecDepth 100000
set_option linter.unusedSimpArgs false

theorem Try.infoS : (Try.prog.info? 33).map (fun i => (i.zero, i.size, i.bytes)) = some (some (.agg #[.bool false, .int .i64 0, .int .i64 0, .int .i64 0, .bool false, .bool false, .bool false, .bool false, .bool false]), 9, 48) := by kernel_rfl

/-- The five cells of record i, from offset o on. -/
def FCell (w : World) (b o i : Nat) (f : FD) : Prop :=
  w.cell? ⟨b, o + i * 5, none⟩ = some (.bool f.x) ∧ w.cell? ⟨b, o + i * 5 + 1, none⟩ = some (.bool f.n) ∧ w.cell? ⟨b, o + i * 5 + 2, none⟩ = some (.bool f.o) ∧
    w.cell? ⟨b, o + i * 5 + 3, none⟩ = some (.int .i64 f.b) ∧ w.cell? ⟨b, o + i * 5 + 4, none⟩ = some (.bool f.m)
theorem FCell.below {w w' : World} {b o i B : Nat} {f : FD} (h : FCell w b o i f) (hb : Below B w w') (hB : b < B) : FCell w' b o i f :=
  ⟨(hb.cell hB).trans h.1, (hb.cell hB).trans h.2.1, (hb.cell hB).trans h.2.2.1, (hb.cell hB).trans h.2.2.2.1, (hb.cell hB).trans h.2.2.2.2⟩

/-- The four cells of the times. -/
def TCell (w : World) (g : Nat) (t : TD) : Prop :=
  w.cell? ⟨g, 0, none⟩ = some (.int .i64 t.a) ∧ w.cell? ⟨g, 1, none⟩ = some (.int .i64 t.b) ∧ w.cell? ⟨g, 2, none⟩ = some (.int .i64 t.c) ∧ w.cell? ⟨g, 3, none⟩ = some (.int .i64 t.d)
theorem TCell.below {w w' : World} {g B : Nat} {t : TD} (h : TCell w g t) (hb : Below B w w') (hB : g < B) : TCell w' g t :=
  ⟨(hb.cell hB).trans h.1, (hb.cell hB).trans h.2.1, (hb.cell hB).trans h.2.2.1, (hb.cell hB).trans h.2.2.2⟩

/-- The four cells of a gate, and that they may be written. -/
def GCell (w : World) (g : Nat) (d : GD) : Prop :=
  w.cell? ⟨g, 0, none⟩ = some (.int .i64 d.s) ∧ w.cell? ⟨g, 1, none⟩ = some (.int .i64 d.i) ∧ w.cell? ⟨g, 2, none⟩ = some (.int .i64 d.u) ∧ w.cell? ⟨g, 3, none⟩ = some (.bool d.f) ∧ ∀ j, w.frozen? ⟨g, j, none⟩ = false
theorem GCell.below {w w' : World} {g B : Nat} {d : GD} (h : GCell w g d) (hb : Below B w w') (hB : g < B) : GCell w' g d :=
  ⟨(hb.cell hB).trans h.1, (hb.cell hB).trans h.2.1, (hb.cell hB).trans h.2.2.1, (hb.cell hB).trans h.2.2.2.1, fun j => (hb.frozen (p := ⟨g, j, none⟩) hB).trans (h.2.2.2.2 j)⟩

theorem gcell_set {w : World} {g : Nat} {d : GD} (h : GCell w g d) (d' : GD) : GCell ((((w.setCell ⟨g, 0, none⟩ (.int .i64 d'.s)).setCell ⟨g, 1, none⟩ (.int .i64 d'.i)).setCell ⟨g, 2, none⟩ (.int .i64 d'.u)).setCell ⟨g, 3, none⟩ (.bool d'.f)) g d' := by
  obtain ⟨h0, h1, h2, h3, hz⟩ := h
  exact ⟨by simp [go_sem, h0, h1, h2, h3], by simp [go_sem, h0, h1, h2, h3], by simp [go_sem, h0, h1, h2, h3], by simp [go_sem, h0, h1, h2, h3], fun j => by simp [go_sem, hz]⟩

set_option maxHeartbeats 1000000 in
theorem specRun_some (t : TD) (b o len cap : Nat) (F : Nat → FD) (w : World) (hpos : 0 < len) (hlen : len ≤ 1048576) (hb : b < w.heap.size) (hc : ∀ i, i < len → FCell w b o i (F i)) :
    Calls Try.prog 23 #[t.v, .slice (some ⟨b, o, none⟩) len cap] w fun e w' => ∃ v, e = .returned v ∧ RowV w.heap.size w' v 9 (runLen t F len) (fun i j => saidCell (saidAt t F i) j) ∧ Below w.heap.size w w' := by
  obtain ⟨i0, hi, hz0, hz1, hz2⟩ := info_parts Try.infoS
  have HT : Hid (tV t.a t.b t.c t.d = .agg #[.int .i64 t.a, .int .i64 t.b, .int .i64 t.c, .int .i64 t.d]) := rfl
  unfold TD.v
  rw [HT.out]
  have HC : Hid (∀ i, i < len → FCell w b o i (F i)) := hc
  have HB : Hid (b < w.heap.size) := hb
  clear hc hb
  generalize hN : runLen t F len = N
  have HN : Hid (runLen t F len = N) := hN
  clear hN
  go_enter Try.func23, Try.ntmps23
  go_wp2_with fail
  rw [← HT.out]
  refine (spec_TimesOk t.a t.b t.c t.d _).mono ?_
  rintro e w1 ⟨rfl, hb1⟩
  obtain ⟨W1, hW1⟩ : ∃ W1, W1 = w.alloc (.cells #[.int .i64 t.a, .int .i64 t.b, .int .i64 t.c, .int .i64 t.d] 24) := ⟨_, rfl⟩
  have hz : W1.heap.size = w.heap.size + 1 := by rw [hW1]; simp
  have HX : Hid (Below (w.heap.size + 1) W1 w1) := by rw [← hW1] at hb1; rw [← hz]; exact hb1
  have HW : Hid (Below w.heap.size w W1) := by rw [hW1]; exact (Below.refl _ _).alloc (Nat.le_refl _) _
  have HTC : Hid (TCell W1 w.heap.size t) := by rw [hW1]; exact ⟨by simp [go_sem], by simp [go_sem], by simp [go_sem], by simp [go_sem]⟩
  have HZ : Hid (W1.heap.size = w.heap.size + 1) := hz
  clear hb1 hW1 hz
  cases hk : tOk t.a t.b t.c t.d
  · have HN0 : Hid (N = 0) := hid (by rw [← HN.out]; simp [runLen, runOk, TD.ok, hk])
    go_wp2
    go_ret
    exact ⟨_, rfl, .inl ⟨HN0.out, none, 0, rfl⟩, HW.out.trans (HX.out.mono (by omega))⟩
  by_cases hl : (2000 : Int) < (len : Int)
  · have HN0 : Hid (N = 0) := hid (by rw [← HN.out]; have : ¬ len ≤ 2000 := by omega
                                      simp [runLen, runOk, this])
    go_wp2
    go_ret
    exact ⟨_, rfl, .inl ⟨HN0.out, none, 0, rfl⟩, HW.out.trans (HX.out.mono (by omega))⟩
  go_wp2_with fail
  go_loopw [22] (fun i wr => ∃ k : Nat, k ≤ len ∧ i = .int .i64 k ∧ (∀ j, j < k → inB (F j).b 0 2 = true) ∧ Below (w.heap.size + 1) W1 wr) (fun i _ => len - (intOf i).toNat)
  case atStart => exact ⟨0, Nat.zero_le _, rfl, fun j h => absurd h (by omega), HX.out⟩
  case round =>
    obtain ⟨k, hkl, rfl, hok, hbel⟩ := hrel
    have HOK : Hid (∀ j, j < k → inB (F j).b 0 2 = true) := hok
    have HBEL : Hid (Below (w.heap.size + 1) W1 wr) := hbel
    clear hok hbel
    by_cases hlt : k < len
    · have hBW : Below w.heap.size w wr := HW.out.trans (HBEL.out.mono (by omega))
      obtain ⟨c0, c1, c2, c3, c4⟩ := (HC.out k hlt).below hBW HB.out
      clear hBW
      have HV : Hid (fV (F k).x (F k).n (F k).o (F k).b (F k).m = .agg #[.bool (F k).x, .bool (F k).n, .bool (F k).o, .int .i64 (F k).b, .bool (F k).m]) := rfl
      go_wp2_with fail
      rw [← HV.out]
      refine (spec_FeltOk (F k).x (F k).n (F k).o (F k).b (F k).m _).mono ?_
      rintro e w2 ⟨rfl, hb2⟩
      have HB2 : Hid (Below (w.heap.size + 1) W1 w2) := hid ((HBEL.out.alloc (by have := HBEL.out.size; rw [HZ.out] at this; exact this) _).trans (hb2.mono (by have := HBEL.out.size; rw [HZ.out] at this; simp; omega)))
      clear hb2 c0 c1 c2 c3 c4
      cases hin : inB (F k).b 0 2
      · have HN0 : Hid (N = 0) := hid (by rw [← HN.out]; simp [runLen, runOk, feltsOk_not hlt hin])
        go_wp2
        go_ret
        exact ⟨_, rfl, .inl ⟨HN0.out, none, 0, rfl⟩, HW.out.trans (HB2.out.mono (by omega))⟩
      · go_wp2
        go_roundw
        case rel =>
          refine ⟨k + 1, by omega, by go_num, fun j hj => ?_, HB2.out⟩
          by_cases e : j = k
          · subst e; exact hin
          · exact HOK.out j (by omega)
        case measure => simp [intOf]; omega
    · have ek : k = len := by omega
      subst ek
      have HNN : Hid (N = k) := hid (by rw [← HN.out]; have h2 : k ≤ 2000 := by omega
                                        simp [runLen, runOk, TD.ok, hk, h2, feltsOk_all HOK.out])
      obtain ⟨wp, ewp⟩ : ∃ y, y = wr := ⟨wr, rfl⟩
      subst ewp
      obtain ⟨G, hG⟩ : ∃ G, G = wp.heap.size := ⟨_, rfl⟩
      have HGE : Hid (G = wp.heap.size) := hG
      have HGL : Hid (w.heap.size + 1 ≤ G) := hid (by rw [hG]; have := HBEL.out.size; rw [HZ.out] at this; exact this)
      go_wp2_with fail
      rw [← hG]
      clear hG
      go_loopw [8, 32] (fun v i wq => ∃ q : Nat, q ≤ k ∧ i = .int .i64 q ∧ wq.ownsRow (G + 1) 33 9 v q (flat 9 (fun i j => saidCell (saidAt t F i) j) q) ∧ GCell wq G (gateAt t F q) ∧ Below G wp wq ∧ G < wq.heap.size) (fun _ i _ => k - (intOf i).toNat)
      case atStart =>
        refine ⟨0, Nat.zero_le _, rfl, World.ownsRow_nil _ _ _ _, ?_, ?_, ?_⟩
        · rw [HGE.out]; exact ⟨by simp [go_sem, gateAt, gate0], by simp [go_sem, gateAt, gate0], by simp [go_sem, gateAt, gate0], by simp [go_sem, gateAt, gate0], fun j => by simp [go_sem]⟩
        · rw [HGE.out]; exact (Below.refl _ _).alloc (Nat.le_refl _) _
        · rw [HGE.out]; simp
      case round =>
        obtain ⟨q, hql, rfl, hown, hgc, hbq, hGq⟩ := hrel
        have HOWN : Hid (wr.ownsRow (G + 1) 33 9 u8 q (flat 9 (fun i j => saidCell (saidAt t F i) j) q)) := hown
        have HGC : Hid (GCell wr G (gateAt t F q)) := hgc
        have HBQ : Hid (Below G wp wr) := hbq
        have HGQ : Hid (G < wr.heap.size) := hGq
        have HBW : Hid (Below w.heap.size w wr) := hid ((HW.out.trans (HBEL.out.mono (by omega))).trans (HBQ.out.mono (by have := HGL.out; omega)))
        clear hown hgc hbq hGq
        by_cases hlt2 : q < k
        · obtain ⟨c0, c1, c2, c3, c4⟩ := (HC.out q hlt2).below HBW.out HB.out
          obtain ⟨t0, t1, t2, t3⟩ := (HTC.out.below HBEL.out (by omega)).below HBQ.out (by have := HGL.out; omega)
          obtain ⟨g0, g1, g2, g3, gz⟩ := HGC.out
          have o0 := old_cell (wc := wr) (g := w.heap.size) (by have := HGL.out; have := HGQ.out; omega)
          have o1 := old_cell (wc := wr) (g := G) HGQ.out
          have HV : Hid (fV (F q).x (F q).n (F q).o (F q).b (F q).m = .agg #[.bool (F q).x, .bool (F q).n, .bool (F q).o, .int .i64 (F q).b, .bool (F q).m]) := rfl
          have HG : Hid (gV (gateAt t F q).s (gateAt t F q).i (gateAt t F q).u (gateAt t F q).f = .agg #[.int .i64 (gateAt t F q).s, .int .i64 (gateAt t F q).i, .int .i64 (gateAt t F q).u, .bool (gateAt t F q).f]) := rfl
          obtain ⟨sd, hsd⟩ : ∃ sd, sd = saidAt t F q := ⟨_, rfl⟩
          have HSD : Hid (sd = saidAt t F q) := hsd
          have HE : Hid (tickV t.a t.b t.c t.d (gateAt t F q).s (gateAt t F q).i (gateAt t F q).u (gateAt t F q).f (F q).x (F q).n (F q).o (F q).b (F q).m = .agg #[.bool sd.ok, .int .i64 sd.g.s, .int .i64 sd.g.i, .int .i64 sd.g.u, .bool sd.g.f, .bool sd.may, .bool sd.red, .bool sd.down, .bool sd.long]) := hid (by rw [← tickS_v, hsd]; rfl)
          clear hsd
          go_wp2_with fail
          rw [← HT.out, ← HG.out, ← HV.out]
          refine (spec_Tick t.a t.b t.c t.d (gateAt t F q).s (gateAt t F q).i (gateAt t F q).u (gateAt t F q).f (F q).x (F q).n (F q).o (F q).b (F q).m _).mono ?_
          rintro e w2 ⟨rfl, hb2⟩
          rw [HE.out]
          have HB2 : Hid (Below wr.heap.size wr w2) := hid (((Below.refl _ _).alloc (Nat.le_refl _) _).trans (hb2.mono (by simp)))
          clear hb2 c0 c1 c2 c3 c4 t0 t1 t2 t3 g0 g1 g2 g3 gz o0 o1
          obtain ⟨g0, g1, g2, g3, gz⟩ := HGC.out.below HB2.out HGQ.out
          have hG2 : G < w2.heap.size := Nat.lt_of_lt_of_le HGQ.out HB2.out.size
          have o1 := old_cell (wc := w2) (g := G) hG2
          have o2 := old_frozen (wc := w2) (g := G) hG2
          have n1 : ¬ G = w2.heap.size := by omega
          have n2 : ¬ w2.heap.size = G := by omega
          go_upto_region 16 with fail
          obtain ⟨w3, hw3⟩ : ∃ w3, w3 = ((((w2.setCell ⟨G, 0, none⟩ (.int .i64 sd.g.s)).setCell ⟨G, 1, none⟩ (.int .i64 sd.g.i)).setCell ⟨G, 2, none⟩ (.int .i64 sd.g.u)).setCell ⟨G, 3, none⟩ (.bool sd.g.f)) := ⟨_, rfl⟩
          have hz3 : w2.heap.size = w3.heap.size := by rw [hw3]; simp [World.setCell]
          rw [← hw3, hz3]
          have HG3 : Hid (GCell w3 G sd.g) := hid (by rw [hw3]; exact gcell_set ⟨g0, g1, g2, g3, gz⟩ sd.g)
          have HO3 : Hid (w3.ownsRow (G + 1) 33 9 u8 q (flat 9 (fun i j => saidCell (saidAt t F i) j) q)) := hid (by
            rw [hw3]
            exact ownsRow_setCell_below (ownsRow_setCell_below (ownsRow_setCell_below (ownsRow_setCell_below (own_below HOWN.out HB2.out) (by simp) _) (by simp) _) (by simp) _) (by simp) _)
          have HB3 : Hid (Below G wp w3) := hid (by
            rw [hw3]
            exact ((((HBQ.out.trans (HB2.out.mono (by have := HGQ.out; omega))).setCell (Nat.le_refl _) _).setCell (Nat.le_refl _) _).setCell (Nat.le_refl _) _).setCell (Nat.le_refl _) _)
          have HL3 : Hid (G < w3.heap.size) := hid (by rw [← hz3]; exact hG2)
          have HLEN : Hid (flat 9 (fun i j => saidCell (saidAt t F i) j) (q + 1) = flat 9 (fun i j => saidCell (saidAt t F i) j) q ++ saidL sd) := hid (by rw [flat_succ, HSD.out]; rfl)
          clear hw3 hz3 g0 g1 g2 g3 gz o1 o2 n1 n2 hG2 HOWN HGC HBQ HB2 HGQ
          have hmax : q + 1 ≤ maxLen := by unfold maxLen; omega
          have hby : (q + 1) * 48 ≤ 140737488355328 := by omega
          go_wp2_with (at_builtin; refine wpList_append_own _ rfl _ _ 46 rfl (G + 1) 33 i0 _ 9 48 Try.underlying46 hi hz0 hz1 hz2 rfl (by decide) u8 q (flat 9 (fun i j => saidCell (saidAt t F i) j) q) rfl ((HO3.out.alloc _).alloc _) ⟨w3.heap.size + 1, 0, none⟩ 1 1 (saidL sd) rfl rfl (news9 sd _ _ _ (by simp)) (said_one sd) hmax hby (by have := HL3.out; simp; omega) ?_; intro v' w4 hown' hgrow hnil)
          have HO4 : Hid (w4.ownsRow (G + 1) 33 9 v' (q + 1) (flat 9 (fun i j => saidCell (saidAt t F i) j) (q + 1))) := hid (by rw [HLEN.out]; exact hown')
          have HA : Hid (Below (G + 1) w3 w4) := hid ((((Below.refl _ _).alloc (by have := HL3.out; omega) _).alloc (by have := HL3.out; simp; omega) _).grown hgrow (by have := HL3.out; simp; omega) (fun kk e => (HO3.out.lt kk e).1))
          clear hown' hgrow hnil
          refine ⟨⟨q + 1, by omega, by go_num, HO4.out, ?_, HB3.out.trans (HA.out.mono (by omega)), Nat.lt_of_lt_of_le HL3.out HA.out.size⟩, by simp [intOf]; omega⟩
          rw [gateAt_succ, ← HSD.out]
          exact HG3.out.below HA.out (by omega)
        · have eq : q = k := by omega
          subst eq
          go_wp2
          go_ret
          refine ⟨_, rfl, ?_, HBW.out⟩
          rw [HNN.out]
          exact rowV_own HOWN.out (by have := HGL.out; omega)

set_option maxHeartbeats 1000000 in
theorem specRun_none (t : TD) (ao : Option Addr) (cap : Nat) (w : World) :
    Calls Try.prog 23 #[t.v, .slice ao 0 cap] w fun e w' => e = .returned (.slice none 0 0) ∧ Below w.heap.size w w' := by
  have HT : Hid (tV t.a t.b t.c t.d = .agg #[.int .i64 t.a, .int .i64 t.b, .int .i64 t.c, .int .i64 t.d]) := rfl
  unfold TD.v
  rw [HT.out]
  go_enter Try.func23, Try.ntmps23
  go_wp2_with fail
  rw [← HT.out]
  refine (spec_TimesOk t.a t.b t.c t.d _).mono ?_
  rintro e w1 ⟨rfl, hb1⟩
  have HX : Hid (Below w.heap.size w w1) := hid (((Below.refl _ _).alloc (Nat.le_refl _) _).trans (hb1.mono (by simp)))
  clear hb1
  cases hk : tOk t.a t.b t.c t.d
  · go_wp2
    go_ret
    exact ⟨rfl, HX.out⟩
  go_wp2_with fail
  refine wp_loop_rounds 1 ?_
  rw [rounds_succ]
  go_wp2_with fail
  refine wp_loop_rounds 1 ?_
  rw [rounds_succ]
  go_wp2
  go_ret
  exact ⟨rfl, HX.out.alloc HX.out.size _⟩

end Go.Proofs.Ytcidikmbngflcaa
