/-
  impl.Run.
-/
import Derived.Test.YtcidikmbngflcabSpecRun
import Derived.Test.YtcidikmbngflcabImplTick
import Derived.Test.YtcidikmbngflcabGood
import Derived.OneCell
namespace Go.Proofs.Ytcidikmbngflcab
open Go.ChangeShapes Go.WideShapes Go.ChangeAt Go.RowKit
set_option maxRecDepth 100000
set_option linter.unusedSimpArgs false

/-- A row that is owned hangs on its own block alone. -/
theorem own_block {w w' : World} {base e z n g cap : Nat} {xs : List Value} (h : w.ownsRow base e z (.slice (some ⟨g, 0, none⟩) n cap) n xs) (hb : w'.heap[g]? = w.heap[g]?) : w'.ownsRow base e z (.slice (some ⟨g, 0, none⟩) n cap) n xs := by
  refine ⟨h.1, h.2.elim .inl fun ⟨g', cap', cur, hv, hg, hh, r⟩ => .inr ⟨g', cap', cur, hv, hg, ?_, r⟩⟩
  have e : g' = g := by injection hv with h1; injection h1 with h2; injection h2 with h3; exact h3.symm
  subst e
  rw [hb]; exact hh
theorem below_block {B : Nat} {w w' : World} (h : Below B w w') {k : Nat} (hk : k < B) : w'.heap[k]? = w.heap[k]? := h.block k hk

theorem GCell.block {w w' : World} {g : Nat} {d : GD} (h : GCell w g d) (hb : w'.heap[g]? = w.heap[g]?) : GCell w' g d := by
  obtain ⟨c0, c1, c2, c3, z⟩ := h
  exact ⟨(World.cell?_of_block (w := w) (a := ⟨g, 0, none⟩) hb).trans c0, (World.cell?_of_block (w := w) (a := ⟨g, 1, none⟩) hb).trans c1, (World.cell?_of_block (w := w) (a := ⟨g, 2, none⟩) hb).trans c2,
    (World.cell?_of_block (w := w) (a := ⟨g, 3, none⟩) hb).trans c3, fun j => (World.frozen?_of_block (w := w) (a := ⟨g, j, none⟩) hb).trans (z j)⟩

set_option maxHeartbeats 2000000 in
theorem implRun_some (t : TD) (b o len cap : Nat) (F : Nat → FD) (w : World) (hpos : 0 < len) (hlen : len ≤ 1048576) (hb : b < w.heap.size) (hc : ∀ i, i < len → FCell w b o i (F i)) :
    Calls Try.prog 30 #[t.v, .slice (some ⟨b, o, none⟩) len cap] w fun e w' => ∃ v, e = .returned v ∧ RowV w.heap.size w' v 9 (runLen t F len) (fun i j => saidCell (saidAt t F i) j) ∧ Below w.heap.size w w' := by
  obtain ⟨i0, hi, hz0, hz1, hz2⟩ := info_parts Try.infoS
  have HT : Hid (tV t.a t.b t.c t.d = .agg #[.int .i64 t.a, .int .i64 t.b, .int .i64 t.c, .int .i64 t.d]) := rfl
  unfold TD.v
  rw [HT.out]
  have HC : Hid (∀ i, i < len → FCell w b o i (F i)) := hc
  have HB : Hid (b < w.heap.size) := hb
  have HPOS : Hid (0 < len) := hpos
  clear hc hb
  generalize hN : runLen t F len = N
  have HN : Hid (runLen t F len = N) := hN
  clear hN
  by_cases hl : (2000 : Int) < (len : Int)
  · have HN0 : Hid (N = 0) := hid (by rw [← HN.out]; have : ¬ len ≤ 2000 := by omega
                                      simp [runLen, runOk, this])
    go_enter Try.func30, Try.ntmps30
    go_wp2
    go_ret
    exact ⟨_, rfl, .inl ⟨HN0.out, none, 0, rfl⟩, (Below.refl _ _).alloc (Nat.le_refl _) _⟩
  go_enter Try.func30, Try.ntmps30
  go_upto_region 4 with (at_make; refine wpList_make_own _ rfl _ _ 50 rfl (w.heap.size + 1) 55 i0 _ 9 Try.underlying50 hi hz0 hz1 _ _ _ len rfl rfl rfl (by rw [hz2]; omega) (by unfold maxLen; omega) (by simp) ?_; intro w1 hown hgrow)
  obtain ⟨W1, hW1⟩ : ∃ W1, W1 = w.alloc (.cells #[.int .i64 t.a, .int .i64 t.b, .int .i64 t.c, .int .i64 t.d] 28) := ⟨_, rfl⟩
  have hz : W1.heap.size = w.heap.size + 1 := by rw [hW1]; simp
  have HW : Hid (Below w.heap.size w W1) := by rw [hW1]; exact (Below.refl _ _).alloc (Nat.le_refl _) _
  have HTC : Hid (TCell W1 w.heap.size t) := by rw [hW1]; exact ⟨by simp [go_sem], by simp [go_sem], by simp [go_sem], by simp [go_sem]⟩
  have HX : Hid (Below (w.heap.size + 1) W1 w1) := hid (by rw [← hW1] at hgrow; exact (Below.refl _ _).grown hgrow (by omega) (fun k e => by cases e))
  have HO : Hid (w1.ownsRow (w.heap.size + 1) 55 9 (.slice (some ⟨w.heap.size + 1, 0, none⟩) 0 len) 0 []) := hid (by simpa using hown)
  have HLT : Hid (w.heap.size + 1 < w1.heap.size) := hid (HO.out.lt _ rfl).2
  clear hown hgrow hW1 hz
  obtain ⟨G, hG⟩ : ∃ G, G = w1.heap.size := ⟨_, rfl⟩
  have HGE : Hid (G = w1.heap.size) := hG
  go_wp2_with fail
  rw [← hG]
  clear hG
  go_loopw [5, 19] (fun v i wq => ∃ q : Nat, q ≤ len ∧ i = .int .i64 q ∧ v = .slice (some ⟨w.heap.size + 1, 0, none⟩) q len ∧ wq.ownsRow (w.heap.size + 1) 55 9 (.slice (some ⟨w.heap.size + 1, 0, none⟩) q len) q (flat 9 (fun i j => saidCell (saidAt t F i) j) q) ∧ GCell wq G (gateAt t F q) ∧
    (∀ j, j < q → (saidAt t F j).ok = true) ∧ Below (w.heap.size + 1) W1 wq ∧ G < wq.heap.size) (fun _ i _ => len - (intOf i).toNat)
  case atStart =>
    refine ⟨0, Nat.zero_le _, rfl, rfl, ?_, ?_, fun j h => absurd h (by omega), ?_, ?_⟩
    · exact own_block HO.out (Below.heap_alloc _ _ _ HLT.out)
    · rw [HGE.out]; exact ⟨by simp [go_sem, gateAt, gate0], by simp [go_sem, gateAt, gate0], by simp [go_sem, gateAt, gate0], by simp [go_sem, gateAt, gate0], fun j => by simp [go_sem]⟩
    · exact HX.out.alloc (by have := HLT.out; omega) _
    · rw [HGE.out]; simp
  case round =>
    obtain ⟨q, hql, rfl, rfl, hown, hgc, hok, hbq, hGq⟩ := hrel
    have HOWN : Hid (wr.ownsRow (w.heap.size + 1) 55 9 (.slice (some ⟨w.heap.size + 1, 0, none⟩) q len) q (flat 9 (fun i j => saidCell (saidAt t F i) j) q)) := hown
    have HGC : Hid (GCell wr G (gateAt t F q)) := hgc
    have HBQ : Hid (Below (w.heap.size + 1) W1 wr) := hbq
    have HGQ : Hid (G < wr.heap.size) := hGq
    have HOK : Hid (∀ j, j < q → (saidAt t F j).ok = true) := hok
    have HBW : Hid (Below w.heap.size w wr) := hid (HW.out.trans (HBQ.out.mono (by omega)))
    have HGL : Hid (w.heap.size + 1 < G) := hid (by rw [HGE.out]; exact HLT.out)
    clear hown hgc hbq hGq hok
    by_cases hlt2 : q < len
    · obtain ⟨c0, c1, c2, c3, c4⟩ := (HC.out q hlt2).below HBW.out HB.out
      obtain ⟨t0, t1, t2, t3⟩ := HTC.out.below HBQ.out (by omega)
      obtain ⟨g0, g1, g2, g3, gz⟩ := HGC.out
      have o0 := old_cell (wc := wr) (g := w.heap.size) (by have := HGL.out; have := HGQ.out; omega)
      have o1 := old_cell (wc := wr) (g := G) HGQ.out
      have HV : Hid (fV (F q).x (F q).n (F q).o (F q).b (F q).m = .agg #[.bool (F q).x, .bool (F q).n, .bool (F q).o, .int .i64 (F q).b, .bool (F q).m]) := rfl
      have HG : Hid (gV (gateAt t F q).s (gateAt t F q).i (gateAt t F q).u (gateAt t F q).f = .agg #[.int .i64 (gateAt t F q).s, .int .i64 (gateAt t F q).i, .int .i64 (gateAt t F q).u, .bool (gateAt t F q).f]) := rfl
      obtain ⟨sd, hsd⟩ : ∃ sd, sd = saidAt t F q := ⟨_, rfl⟩
      obtain ⟨okb, hokb⟩ : ∃ okb, okb = sd.ok := ⟨_, rfl⟩
      have HSD : Hid (sd = saidAt t F q) := hsd
      have HOB : Hid (okb = sd.ok) := hokb
      have HE : Hid (tickV t.a t.b t.c t.d (gateAt t F q).s (gateAt t F q).i (gateAt t F q).u (gateAt t F q).f (F q).x (F q).n (F q).o (F q).b (F q).m = .agg #[.bool okb, .int .i64 sd.g.s, .int .i64 sd.g.i, .int .i64 sd.g.u, .bool sd.g.f, .bool sd.may, .bool sd.red, .bool sd.down, .bool sd.long]) := hid (by rw [← tickS_v, hokb, hsd]; rfl)
      clear hsd hokb
      go_wp2_with fail
      rw [← HT.out, ← HG.out, ← HV.out]
      refine (impl_Tick t.a t.b t.c t.d (gateAt t F q).s (gateAt t F q).i (gateAt t F q).u (gateAt t F q).f (F q).x (F q).n (F q).o (F q).b (F q).m _).mono ?_
      rintro e w2 ⟨rfl, hb2⟩
      rw [HE.out, HT.out]
      have HB2 : Hid (Below wr.heap.size wr w2) := hid (((Below.refl _ _).alloc (Nat.le_refl _) _).trans (hb2.mono (by simp)))
      clear hb2 c0 c1 c2 c3 c4 t0 t1 t2 t3 g0 g1 g2 g3 gz o0 o1
      cases okb
      · have HN0 : Hid (N = 0) := hid (by rw [← HN.out]; exact run_bad hlt2 (by rw [← HSD.out, ← HOB.out]))
        go_wp2
        go_ret
        exact ⟨_, rfl, .inl ⟨HN0.out, none, 0, rfl⟩, (HBW.out.trans (HB2.out.mono HBW.out.size)).alloc (Nat.le_trans HBW.out.size HB2.out.size) _⟩
      · have HO2 : Hid (w2.ownsRow (w.heap.size + 1) 55 9 (.slice (some ⟨w.heap.size + 1, 0, none⟩) q len) q (flat 9 (fun i j => saidCell (saidAt t F i) j) q)) := hid (own_below HOWN.out HB2.out)
        have HG2 : Hid (GCell w2 G (gateAt t F q)) := hid (HGC.out.below HB2.out HGQ.out)
        have HX2 : Hid (Below (w.heap.size + 1) W1 w2) := hid (HBQ.out.trans (HB2.out.mono (by have := HGL.out; have := HGQ.out; omega)))
        have HL2 : Hid (G < w2.heap.size) := hid (Nat.lt_of_lt_of_le HGQ.out HB2.out.size)
        have HLEN : Hid (flat 9 (fun i j => saidCell (saidAt t F i) j) (q + 1) = flat 9 (fun i j => saidCell (saidAt t F i) j) q ++ saidL ⟨true, sd.g, sd.may, sd.red, sd.down, sd.long⟩) := hid (by rw [flat_succ]; congr 1; show _ = saidL _; rw [HOB.out, HSD.out]; rfl)
        clear HOWN HGC HBQ HB2 HGQ HE HV HG
        go_upto_region 12 with (at_builtin; refine wpList_append_fits _ rfl _ _ 50 rfl (w.heap.size + 1) 55 i0 9 Try.underlying50 hi hz1 (w.heap.size + 1) q len (flat 9 (fun i j => saidCell (saidAt t F i) j) q) rfl ((HO2.out.alloc _).alloc _) ⟨w2.heap.size + 1, 0, none⟩ 1 1 (saidL ⟨true, sd.g, sd.may, sd.red, sd.down, sd.long⟩) rfl rfl (news9 ⟨true, sd.g, sd.may, sd.red, sd.down, sd.long⟩ _ _ _ (by simp)) (said_one _) (by omega) ?_; intro w4 hown' hgrow)
        obtain ⟨x, hx⟩ : ∃ x, x = ((w2.alloc (.cells #[.bool true, .int .i64 sd.g.s, .int .i64 sd.g.i, .int .i64 sd.g.u, .bool sd.g.f, .bool sd.may, .bool sd.red, .bool sd.down, .bool sd.long] 55)).alloc (.cells #[.bool true, .int .i64 sd.g.s, .int .i64 sd.g.i, .int .i64 sd.g.u, .bool sd.g.f, .bool sd.may, .bool sd.red, .bool sd.down, .bool sd.long] 55)) := ⟨_, rfl⟩
        rw [← hx] at hgrow
        have hxs : x.heap.size = w2.heap.size + 2 := by rw [hx]; simp
        have hw2x : Below w2.heap.size w2 x := by rw [hx]; exact ((Below.refl _ _).alloc (Nat.le_refl _) _).alloc (by simp) _
        have hbs : w4.heap[w2.heap.size]? = x.heap[w2.heap.size]? := hgrow.block _ (by omega) (by have := HGL.out; have := HL2.out; simp; omega)
        have s1 : w4.cell? ⟨w2.heap.size, 1, none⟩ = some (.int .i64 sd.g.s) := (World.cell?_of_block (w := x) (a := ⟨w2.heap.size, 1, none⟩) hbs).trans (by rw [hx]; simp [go_sem])
        have s2 : w4.cell? ⟨w2.heap.size, 2, none⟩ = some (.int .i64 sd.g.i) := (World.cell?_of_block (w := x) (a := ⟨w2.heap.size, 2, none⟩) hbs).trans (by rw [hx]; simp [go_sem])
        have s3 : w4.cell? ⟨w2.heap.size, 3, none⟩ = some (.int .i64 sd.g.u) := (World.cell?_of_block (w := x) (a := ⟨w2.heap.size, 3, none⟩) hbs).trans (by rw [hx]; simp [go_sem])
        have s4 : w4.cell? ⟨w2.heap.size, 4, none⟩ = some (.bool sd.g.f) := (World.cell?_of_block (w := x) (a := ⟨w2.heap.size, 4, none⟩) hbs).trans (by rw [hx]; simp [go_sem])
        have HG4 : Hid (GCell w4 G (gateAt t F q)) := hid ((HG2.out.below hw2x HL2.out).block (hgrow.block G (by have := HL2.out; omega) (by have := HGL.out; simp; omega)))
        have HX4 : Hid (Below (w.heap.size + 1) W1 w4) := hid ((HX2.out.trans (hw2x.mono (by have := HGL.out; have := HL2.out; omega))).grown hgrow (by have := HGL.out; have := HL2.out; omega) (fun k e => by cases e; exact Nat.le_refl _))
        have HL4 : Hid (G < w4.heap.size) := hid (Nat.lt_of_lt_of_le (by have := HL2.out; omega) hgrow.size)
        have HO4 : Hid (w4.ownsRow (w.heap.size + 1) 55 9 (.slice (some ⟨w.heap.size + 1, 0, none⟩) (q + 1) len) (q + 1) (flat 9 (fun i j => saidCell (saidAt t F i) j) (q + 1))) := hid (by rw [HLEN.out]; exact hown')
        clear hown' hgrow hx hxs hw2x hbs HO2 HG2 HX2 HLEN
        obtain ⟨g0, g1, g2, g3, gz⟩ := HG4.out
        go_wp2
        go_roundw
        case rel =>
          refine ⟨q + 1, by omega, by go_num, rfl, ?_, ?_, ?_, ?_, ?_⟩
          · exact own_block HO4.out (((((Below.heap_setCell _ _ _ _ (by have := HGL.out; simp; omega)).trans (Below.heap_setCell _ _ _ _ (by have := HGL.out; simp; omega))).trans (Below.heap_setCell _ _ _ _ (by have := HGL.out; simp; omega))).trans (Below.heap_setCell _ _ _ _ (by have := HGL.out; simp; omega))))
          · rw [gateAt_succ, ← HSD.out]
            exact gcell_set ⟨g0, g1, g2, g3, gz⟩ sd.g
          · intro j hj
            by_cases e : j = q
            · subst e; rw [← HSD.out, ← HOB.out]
            · exact HOK.out j (by omega)
          · have := HGL.out
            exact (((HX4.out.setCell (by simp; omega) _).setCell (by simp; omega) _).setCell (by simp; omega) _).setCell (by simp; omega) _
          · have := HL4.out; simpa [World.setCell] using this
        case measure => simp [intOf]; omega
    · have eq : q = len := by omega
      subst eq
      have HNN : Hid (N = q) := hid (by rw [← HN.out]; exact run_all HOK.out HPOS.out (by omega))
      go_wp2
      go_ret
      refine ⟨_, rfl, ?_, HBW.out⟩
      rw [HNN.out]
      exact rowV_own HOWN.out (by omega)

set_option maxHeartbeats 1000000 in
theorem implRun_none (t : TD) (ao : Option Addr) (cap : Nat) (w : World) :
    Calls Try.prog 30 #[t.v, .slice ao 0 cap] w fun e w' => ∃ ao' cap', e = .returned (.slice ao' 0 cap') ∧ Below w.heap.size w w' := by
  obtain ⟨i0, hi, hz0, hz1, hz2⟩ := info_parts Try.infoS
  unfold TD.v tV
  go_enter Try.func30, Try.ntmps30
  go_upto_region 4 with (at_make; refine wpList_make_own _ rfl _ _ 50 rfl (w.heap.size + 1) 55 i0 _ 9 Try.underlying50 hi hz0 hz1 _ _ _ 0 rfl rfl rfl (by omega) (by unfold maxLen; omega) (by simp) ?_; intro w1 hown hgrow)
  have HB1 : Hid (Below w.heap.size w w1) := hid (((Below.refl _ _).alloc (Nat.le_refl _) _).grown hgrow (by simp) (fun k e => by cases e))
  clear hown hgrow
  go_wp2_with fail
  refine wp_loop_rounds 1 ?_
  rw [rounds_succ]
  go_wp2
  go_ret
  exact ⟨_, _, rfl, HB1.out.alloc HB1.out.size _⟩

end Go.Proofs.Ytcidikmbngflcab
