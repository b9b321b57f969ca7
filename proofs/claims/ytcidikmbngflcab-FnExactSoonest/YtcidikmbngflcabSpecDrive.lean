/-
  spec.Drive.
-/
import Derived.Test.YtcidikmbngflcabSpecRun
import Derived.Test.YtcidikmbngflcabDrives
import Derived.Test.YtcidikmbngflcabCells
namespace Go.Proofs.Ytcidikmbngflcab
open Go.ChangeShapes Go.WideShapes Go.ChangeAt Go.RowKit
set_option maxRecDepth 100000
set_option linter.unusedSimpArgs false

theorem Try.infoU : (Try.prog.info? 71).map (fun i => (i.zero, i.size, i.bytes)) = some (some (.agg #[.int .i64 0, .bool false, .int .i64 0, .int .i64 0, .int .i64 0, .bool false, .bool false, .bool false, .bool false, .bool false]), 10, 56) := by kernel_rfl

/-- The five cells of record i of acts, from offset o on. -/
def ACell (w : World) (b o i : Nat) (f : AD) : Prop :=
  w.cell? ⟨b, o + i * 5, none⟩ = some (.bool f.x) ∧ w.cell? ⟨b, o + i * 5 + 1, none⟩ = some (.bool f.n) ∧ w.cell? ⟨b, o + i * 5 + 2, none⟩ = some (.bool f.o) ∧
    w.cell? ⟨b, o + i * 5 + 3, none⟩ = some (.bool f.k) ∧ w.cell? ⟨b, o + i * 5 + 4, none⟩ = some (.bool f.m)
theorem ACell.below {w w' : World} {b o i B : Nat} {f : AD} (h : ACell w b o i f) (hb : Below B w w') (hB : b < B) : ACell w' b o i f :=
  ⟨(hb.cell hB).trans h.1, (hb.cell hB).trans h.2.1, (hb.cell hB).trans h.2.2.1, (hb.cell hB).trans h.2.2.2.1, (hb.cell hB).trans h.2.2.2.2⟩

def act0 : AD := ⟨false, false, false, false, false⟩
def actCl (a : AD) (j : Nat) : Value := if j = 0 then .bool a.x else if j = 1 then .bool a.n else if j = 2 then .bool a.o else if j = 3 then .bool a.k else .bool a.m
theorem acell_row {w : World} {g n i : Nat} {R : Nat → AD} (h : Row w g 5 n (fun i j => actCl (R i) j)) (hi : i < n) : ACell w g 0 i (R i) := by
  have h0 := h.cells i 0 hi (by omega)
  have h1 := h.cells i 1 hi (by omega)
  have h2 := h.cells i 2 hi (by omega)
  have h3 := h.cells i 3 hi (by omega)
  have h4 := h.cells i 4 hi (by omega)
  simp only [ACell, Nat.zero_add]
  exact ⟨h0, h1, h2, h3, h4⟩

set_option maxHeartbeats 400000 in
theorem l3bars_any (bar steps : Int) (w : World) : Calls Try.prog 40 #[.int .i64 bar, .int .i64 steps] w fun e w' => e = .returned (.int .i64 (barsOf bar steps)) ∧ w' = w := by
  by_cases h0 : bar = 0
  · have h0b : (bar == 0) = true := by simp [h0]
    have HV : Hid (0 = barsOf bar steps) := hid (by simp [barsOf, h0])
    clear h0
    go_enter Try.func40, Try.ntmps40
    go_wp2
    go_ret
    exact ⟨ret_int HV.out, rfl⟩
  · have h0b : (bar == 0) = false := by simp [h0]
    by_cases h1 : bar = steps
    · have h1b : (bar == steps) = true := by simp [h1]
      have HV : Hid (2 = barsOf bar steps) := hid (by unfold barsOf; rw [if_neg h0, if_pos h1])
      clear h0 h1
      go_enter Try.func40, Try.ntmps40
      go_wp2
      go_ret
      exact ⟨ret_int HV.out, rfl⟩
    · have h1b : (bar == steps) = false := by simp [h1]
      have HV : Hid (1 = barsOf bar steps) := hid (by simp [barsOf, h0, h1])
      clear h0 h1
      go_enter Try.func40, Try.ntmps40
      go_wp2
      go_ret
      exact ⟨ret_int HV.out, rfl⟩

/-- What is held while a tick of Drive goes. -/
theorem heldD {w w' W : World} {G H : Nat} {t : TD} {gd : GD} {ad : AD} (ht : TCell W w.heap.size t) (hg : GCell W G gd)
    (ha : W.cell? ⟨H, 0, none⟩ = some (.bool ad.x) ∧ W.cell? ⟨H, 1, none⟩ = some (.bool ad.n) ∧ W.cell? ⟨H, 2, none⟩ = some (.bool ad.o) ∧ W.cell? ⟨H, 3, none⟩ = some (.bool ad.k) ∧ W.cell? ⟨H, 4, none⟩ = some (.bool ad.m))
    (h : Below W.heap.size W w') : Below W.heap.size W w' ∧ w'.cell? ⟨w.heap.size, 0, none⟩ = some (.int .i64 t.a) ∧ w'.cell? ⟨w.heap.size, 1, none⟩ = some (.int .i64 t.b) ∧ w'.cell? ⟨w.heap.size, 2, none⟩ = some (.int .i64 t.c) ∧ w'.cell? ⟨w.heap.size, 3, none⟩ = some (.int .i64 t.d) ∧ w'.cell? ⟨G, 0, none⟩ = some (.int .i64 gd.s) ∧ w'.cell? ⟨G, 1, none⟩ = some (.int .i64 gd.i) ∧ w'.cell? ⟨G, 2, none⟩ = some (.int .i64 gd.u) ∧ w'.cell? ⟨G, 3, none⟩ = some (.bool gd.f) ∧ w'.cell? ⟨H, 0, none⟩ = some (.bool ad.x) ∧ w'.cell? ⟨H, 1, none⟩ = some (.bool ad.n) ∧ w'.cell? ⟨H, 2, none⟩ = some (.bool ad.o) ∧ w'.cell? ⟨H, 3, none⟩ = some (.bool ad.k) ∧ w'.cell? ⟨H, 4, none⟩ = some (.bool ad.m) :=
  by
    have l0 : w.heap.size < W.heap.size := World.block_lt_of_cell? _ _ ht.1
    have l1 : G < W.heap.size := World.block_lt_of_cell? _ _ hg.1
    have l2 : H < W.heap.size := World.block_lt_of_cell? _ _ ha.1
    obtain ⟨a0, a1, a2, a3⟩ := ht.below h l0
    obtain ⟨b0, b1, b2, b3, _⟩ := hg.below h l1
    obtain ⟨d0, d1, d2, d3, d4⟩ := ha
    exact ⟨h, a0, a1, a2, a3, b0, b1, b2, b3, (h.cell l2).trans d0, (h.cell l2).trans d1, (h.cell l2).trans d2, (h.cell l2).trans d3, (h.cell l2).trans d4⟩

set_option maxHeartbeats 4000000 in
theorem specDrive_some (t : TD) (steps : Int) (b o len cap : Nat) (A : Nat → AD) (w : World) (hpos : 0 < len) (hlen : len ≤ 1048576) (hb : b < w.heap.size) (hc : ∀ i, i < len → ACell w b o i (A i)) :
    Calls Try.prog 19 #[t.v, .int .i64 steps, .slice (some ⟨b, o, none⟩) len cap] w fun e w' => ∃ v, e = .returned v ∧ RowV w.heap.size w' v 10 (driveLen t steps len) (fun i j => trueCell (trueAt t steps A i) j) ∧ Below w.heap.size w w' := by
  obtain ⟨i0, hi, hz0, hz1, hz2⟩ := info_parts Try.infoU
  have HT : Hid (tV t.a t.b t.c t.d = .agg #[.int .i64 t.a, .int .i64 t.b, .int .i64 t.c, .int .i64 t.d]) := rfl
  unfold TD.v
  rw [HT.out]
  have HC : Hid (∀ i, i < len → ACell w b o i (A i)) := hc
  have HB : Hid (b < w.heap.size) := hb
  clear hc hb
  generalize hN : driveLen t steps len = N
  have HN : Hid (driveLen t steps len = N) := hN
  clear hN
  go_enter Try.func19, Try.ntmps19
  go_wp2_with fail
  rw [← HT.out]
  refine (spec_TimesOk t.a t.b t.c t.d _).mono ?_
  rintro e w1 ⟨rfl, hb1⟩
  obtain ⟨W1, hW1⟩ : ∃ W1, W1 = w.alloc (.cells #[.int .i64 t.a, .int .i64 t.b, .int .i64 t.c, .int .i64 t.d] 28) := ⟨_, rfl⟩
  have hz : W1.heap.size = w.heap.size + 1 := by rw [hW1]; simp
  have HX : Hid (Below (w.heap.size + 1) W1 w1) := by rw [← hW1] at hb1; rw [← hz]; exact hb1
  have HW : Hid (Below w.heap.size w W1) := by rw [hW1]; exact (Below.refl _ _).alloc (Nat.le_refl _) _
  have HTC : Hid (TCell W1 w.heap.size t) := by rw [hW1]; exact ⟨by simp [go_sem], by simp [go_sem], by simp [go_sem], by simp [go_sem]⟩
  have HZ : Hid (W1.heap.size = w.heap.size + 1) := hz
  clear hb1 hW1 hz
  cases hk : tOk t.a t.b t.c t.d
  · have HN0 : Hid (N = 0) := hid (by rw [← HN.out]; simp [driveLen, driveOk, TD.ok, hk])
    go_wp2
    go_ret
    exact ⟨_, rfl, .inl ⟨HN0.out, none, 0, rfl⟩, HW.out.trans (HX.out.mono (by omega))⟩
  cases hst : inB steps 1 1000
  · have HN0 : Hid (N = 0) := hid (by rw [← HN.out]; simp [driveLen, driveOk, hst])
    go_wp2_with (go_at_call 34; refine (l1in_any _ _ _ _).mono ?_; rintro e w' ⟨rfl, rfl⟩)
    go_ret
    exact ⟨_, rfl, .inl ⟨HN0.out, none, 0, rfl⟩, HW.out.trans (HX.out.mono (by omega))⟩
  by_cases hl : (2000 : Int) < (len : Int)
  · have HN0 : Hid (N = 0) := hid (by rw [← HN.out]; have : ¬ len ≤ 2000 := by omega
                                      simp [driveLen, driveOk, this])
    go_wp2_with (go_at_call 34; refine (l1in_any _ _ _ _).mono ?_; rintro e w' ⟨rfl, rfl⟩)
    go_ret
    exact ⟨_, rfl, .inl ⟨HN0.out, none, 0, rfl⟩, HW.out.trans (HX.out.mono (by omega))⟩
  have HNN : Hid (N = len) := hid (by rw [← HN.out]; have h2 : len ≤ 2000 := by omega
                                      simp [driveLen, driveOk, TD.ok, hk, h2, hst])
  obtain ⟨st1, st2⟩ := inB_true hst
  obtain ⟨G, hG⟩ : ∃ G, G = w1.heap.size := ⟨_, rfl⟩
  have HGE : Hid (G = w1.heap.size) := hG
  have HGL : Hid (w.heap.size + 1 ≤ G) := hid (by rw [hG]; have := HX.out.size; rw [HZ.out] at this; exact this)
  go_wp2_with fail
  refine (l1in_any _ _ _ _).mono ?_
  rintro e w1' ⟨rfl, hw1⟩
  replace hw1 := hw1.symm
  subst hw1
  go_wp2_with fail
  rw [← hG]
  clear hG
  go_loopw [8, 9, 28] (fun c v i wq => ∃ q : Nat, q ≤ len ∧ i = .int .i64 q ∧ c = .int .i64 (dAt t steps A q).2 ∧ wq.ownsRow (G + 1) 71 10 v q (flat 10 (fun i j => trueCell (trueAt t steps A i) j) q) ∧ GCell wq G (dAt t steps A q).1 ∧ Below G w1 wq ∧ G < wq.heap.size) (fun _ _ i _ => len - (intOf i).toNat)
  case atStart =>
    refine ⟨0, Nat.zero_le _, rfl, rfl, World.ownsRow_nil _ _ _ _, ?_, ?_, ?_⟩
    · rw [HGE.out]; exact ⟨by simp [go_sem, dAt, gate0], by simp [go_sem, dAt, gate0], by simp [go_sem, dAt, gate0], by simp [go_sem, dAt, gate0], fun j => by simp [go_sem]⟩
    · rw [HGE.out]; exact (Below.refl _ _).alloc (Nat.le_refl _) _
    · rw [HGE.out]; simp
  case round =>
    obtain ⟨q, hql, rfl, rfl, hown, hgc, hbq, hGq⟩ := hrel
    have HOWN : Hid (wr.ownsRow (G + 1) 71 10 u9 q (flat 10 (fun i j => trueCell (trueAt t steps A i) j) q)) := hown
    have HGC : Hid (GCell wr G (dAt t steps A q).1) := hgc
    have HBQ : Hid (Below G w1 wr) := hbq
    have HGQ : Hid (G < wr.heap.size) := hGq
    have HBW : Hid (Below w.heap.size w wr) := hid ((HW.out.trans (HX.out.mono (by omega))).trans (HBQ.out.mono (by have := HGL.out; omega)))
    obtain ⟨hba, hbb⟩ := dAt_bar t steps A st1 q
    clear hown hgc hbq hGq
    by_cases hlt2 : q < len
    · obtain ⟨c0, c1, c2, c3, c4⟩ := (HC.out q hlt2).below HBW.out HB.out
      obtain ⟨ad, had⟩ : ∃ ad, ad = A q := ⟨_, rfl⟩
      obtain ⟨gd, hgd⟩ : ∃ gd, gd = (dAt t steps A q).1 := ⟨_, rfl⟩
      obtain ⟨bar, hbar⟩ : ∃ bar, bar = (dAt t steps A q).2 := ⟨_, rfl⟩
      obtain ⟨sd, hsd⟩ : ∃ sd, sd = dSaid t steps A q := ⟨_, rfl⟩
      rw [← had] at c0 c1 c2 c3 c4
      rw [← hbar] at hba hbb ⊢
      have HNX : Hid (dAt t steps A (q + 1) = (sd.g, nextBar ad.k sd.down bar steps)) := hid (by rw [dAt_succ, had, hbar, hsd])
      have HTA : Hid (trueAt t steps A q = ⟨bar, sd⟩) := hid (by rw [hbar, hsd]; rfl)
      have HE : Hid (tickV t.a t.b t.c t.d gd.s gd.i gd.u gd.f ad.x ad.n ad.o (barsOf bar steps) ad.m = .agg #[.bool sd.ok, .int .i64 sd.g.s, .int .i64 sd.g.i, .int .i64 sd.g.u, .bool sd.g.f, .bool sd.may, .bool sd.red, .bool sd.down, .bool sd.long]) := hid (by
        have := tickS_v t gd (feltOf ad bar steps)
        rw [hsd]; unfold dSaid; rw [← hgd, ← had, ← hbar]; exact this.symm)
      have HGC2 : Hid (GCell wr G gd) := hid (by rw [hgd]; exact HGC.out)
      clear had hgd hbar hsd HGC
      go_upto_region 9 with fail
      obtain ⟨W, hW⟩ : ∃ W, W = wr.alloc (.cells #[.bool ad.x, .bool ad.n, .bool ad.o, .bool ad.k, .bool ad.m] 77) := ⟨_, rfl⟩
      obtain ⟨H, hH⟩ : ∃ H, H = wr.heap.size := ⟨_, rfl⟩
      rw [← hW, ← hH]
      have HWB : Hid (Below wr.heap.size wr W) := hid (by rw [hW]; exact (Below.refl _ _).alloc (Nat.le_refl _) _)
      have HWT : Hid (TCell W w.heap.size t) := hid (((HTC.out.below HX.out (by omega)).below HBQ.out (by have := HGL.out; omega)).below HWB.out (by have := HGL.out; have := HGQ.out; omega))
      have HWG : Hid (GCell W G gd) := hid (HGC2.out.below HWB.out HGQ.out)
      have HWA : Hid (W.cell? ⟨H, 0, none⟩ = some (.bool ad.x) ∧ W.cell? ⟨H, 1, none⟩ = some (.bool ad.n) ∧ W.cell? ⟨H, 2, none⟩ = some (.bool ad.o) ∧ W.cell? ⟨H, 3, none⟩ = some (.bool ad.k) ∧ W.cell? ⟨H, 4, none⟩ = some (.bool ad.m)) := hid (by rw [hW, hH]; exact ⟨by simp [go_sem], by simp [go_sem], by simp [go_sem], by simp [go_sem], by simp [go_sem]⟩)
      have HHE : Hid (H = wr.heap.size) := hH
      have HWS : Hid (W.heap.size = wr.heap.size + 1) := hid (by rw [hW]; simp)
      clear hW hH c0 c1 c2 c3 c4
      have hs0 : W.heap.size ≤ W.heap.size := Nat.le_refl _
      have HV : Hid (fV ad.x ad.n ad.o (barsOf bar steps) ad.m = .agg #[.bool ad.x, .bool ad.n, .bool ad.o, .int .i64 (barsOf bar steps), .bool ad.m]) := rfl
      have HGV : Hid (gV gd.s gd.i gd.u gd.f = .agg #[.int .i64 gd.s, .int .i64 gd.i, .int .i64 gd.u, .bool gd.f]) := rfl
      go_cut [12] (fun v12 wd => Out9 W sd.ok sd.g.s sd.g.i sd.g.u sd.g.f sd.may sd.red sd.down sd.long v12 wd)
      case first =>
        go_region_held3 (fun w' => Below W.heap.size W w' ∧ w'.cell? ⟨w.heap.size, 0, none⟩ = some (.int .i64 t.a) ∧ w'.cell? ⟨w.heap.size, 1, none⟩ = some (.int .i64 t.b) ∧ w'.cell? ⟨w.heap.size, 2, none⟩ = some (.int .i64 t.c) ∧ w'.cell? ⟨w.heap.size, 3, none⟩ = some (.int .i64 t.d) ∧ w'.cell? ⟨G, 0, none⟩ = some (.int .i64 gd.s) ∧ w'.cell? ⟨G, 1, none⟩ = some (.int .i64 gd.i) ∧ w'.cell? ⟨G, 2, none⟩ = some (.int .i64 gd.u) ∧ w'.cell? ⟨G, 3, none⟩ = some (.bool gd.f) ∧ w'.cell? ⟨H, 0, none⟩ = some (.bool ad.x) ∧ w'.cell? ⟨H, 1, none⟩ = some (.bool ad.n) ∧ w'.cell? ⟨H, 2, none⟩ = some (.bool ad.o) ∧ w'.cell? ⟨H, 3, none⟩ = some (.bool ad.k) ∧ w'.cell? ⟨H, 4, none⟩ = some (.bool ad.m))
          ((refine heldD HWT.out HWG.out HWA.out ?_; first | (with_reducible exact Below.drew (Below.refl _ _)) | (with_reducible exact Below.drew (Below.alloc (Below.refl _ _) (Nat.le_refl _) _)) | (with_reducible exact held_on (by assumption) (by assumption)) | (with_reducible exact Below.alloc (And.left (by assumption)) (Below.size (And.left (by assumption))) _) | (with_reducible exact re_alloc (And.left (by assumption)) (by assumption) (by assumption) _) | (with_reducible exact below9 (And.left (by assumption)) (by assumption) _ _ _ _ _ _ _ _ _) | (with_reducible exact And.left (by assumption))))
          (first | (go_at_call 40; refine (l3bars_any bar steps _).mono ?_; rintro e w1 ⟨rfl, rfl⟩) | (go_at_call 39; refine (spec_Tick t.a t.b t.c t.d gd.s gd.i gd.u gd.f ad.x ad.n ad.o (barsOf bar steps) ad.m _).mono ?_; rintro e w1 ⟨rfl, hb1⟩; have hs1 := held_size (by assumption) hb1; rw [HE.out]; (first | (with_reducible have hz9 := zero_here hb1) | (with_reducible have hz9 := zero_drew hb1) | (with_reducible have hz9 := zero_carry (by assumption) hb1) | skip)))
        all_goals (go_wp2; go_meet; case rel => first | (with_reducible exact met_new (by assumption) (by assumption)) | (with_reducible exact met_old (by assumption) (by assumption) (by assumption)))
      case rest =>
        obtain ⟨g12, rfl, hg12, hl12, hbw, p0, p1, p2, p3, p4, p5, p6, p7, p8⟩ := hcut
        obtain ⟨g0, g1, g2, g3, gz⟩ := HWG.out.below hbw (World.block_lt_of_cell? _ _ HWG.out.1)
        have nG : ¬ G = g12 := by have := HGQ.out; have := HWS.out; omega
        have nG2 : ¬ g12 = G := fun e => nG e.symm
        have HRB : Hid (Below wr.heap.size wr wc) := hid (HWB.out.trans (hbw.mono (by have := HWS.out; omega)))
        have HSK : Hid (wc.cell? ⟨H, 3, none⟩ = some (.bool ad.k)) := hid ((hbw.cell (World.block_lt_of_cell? _ _ HWA.out.2.2.2.1)).trans HWA.out.2.2.2.1)
        have HP7 : Hid (wc.cell? ⟨g12, 7, none⟩ = some (.bool sd.down)) := p7
        have HG12 : Hid (wr.heap.size < g12 ∧ g12 < wc.heap.size) := hid ⟨by have := HWS.out; omega, hl12⟩
        have HHW : Hid (H < wc.heap.size) := hid (World.block_lt_of_cell? _ _ HSK.out)
        clear hg12 hl12 hbw hs0
        go_upto_region 11 with fail
        obtain ⟨w3, hw3⟩ : ∃ w3, w3 = ((((wc.setCell ⟨G, 0, none⟩ (.int .i64 sd.g.s)).setCell ⟨G, 1, none⟩ (.int .i64 sd.g.i)).setCell ⟨G, 2, none⟩ (.int .i64 sd.g.u)).setCell ⟨G, 3, none⟩ (.bool sd.g.f)) := ⟨_, rfl⟩
        have hz3 : w3.heap.size = wc.heap.size := by rw [hw3]; simp [World.setCell]
        rw [← hw3]
        have hoff : ∀ (x j : Nat), ¬ x = G → w3.cell? ⟨x, j, none⟩ = wc.cell? ⟨x, j, none⟩ := fun x j hx => by
          rw [hw3]
          rw [World.cell?_setCell_other (h := by simp only [ne_eq, Addr.mk.injEq]; exact fun e => hx e.1.symm), World.cell?_setCell_other (h := by simp only [ne_eq, Addr.mk.injEq]; exact fun e => hx e.1.symm), World.cell?_setCell_other (h := by simp only [ne_eq, Addr.mk.injEq]; exact fun e => hx e.1.symm), World.cell?_setCell_other (h := by simp only [ne_eq, Addr.mk.injEq]; exact fun e => hx e.1.symm)]
        have HG3 : Hid (GCell w3 G sd.g) := hid (by rw [hw3]; exact gcell_set ⟨g0, g1, g2, g3, gz⟩ sd.g)
        have HO3 : Hid (w3.ownsRow (G + 1) 71 10 u9 q (flat 10 (fun i j => trueCell (trueAt t steps A i) j) q)) := hid (by
          rw [hw3]
          exact ownsRow_setCell_below (ownsRow_setCell_below (ownsRow_setCell_below (ownsRow_setCell_below (own_below HOWN.out HRB.out) (by simp) _) (by simp) _) (by simp) _) (by simp) _)
        have HB3 : Hid (Below G w1 w3) := hid (by
          rw [hw3]
          exact ((((HBQ.out.trans (HRB.out.mono (by have := HGQ.out; omega))).setCell (Nat.le_refl _) _).setCell (Nat.le_refl _) _).setCell (Nat.le_refl _) _).setCell (Nat.le_refl _) _)
        have HL3 : Hid (G < w3.heap.size) := hid (by rw [hz3]; have := HGQ.out; have := HRB.out.size; omega)
        have HSK3 : Hid (w3.cell? ⟨H, 3, none⟩ = some (.bool ad.k)) := hid ((hoff H 3 (by have := HHE.out; have := HGQ.out; omega)).trans HSK.out)
        have HP73 : Hid (w3.cell? ⟨g12, 7, none⟩ = some (.bool sd.down)) := hid ((hoff g12 7 nG2).trans HP7.out)
        have s0 := (hoff g12 0 nG2).trans p0
        have s1 := (hoff g12 1 nG2).trans p1
        have s2 := (hoff g12 2 nG2).trans p2
        have s3 := (hoff g12 3 nG2).trans p3
        have s4 := (hoff g12 4 nG2).trans p4
        have s5 := (hoff g12 5 nG2).trans p5
        have s6 := (hoff g12 6 nG2).trans p6
        have s7 := (hoff g12 7 nG2).trans p7
        have s8 := (hoff g12 8 nG2).trans p8
        have HLEN : Hid (flat 10 (fun i j => trueCell (trueAt t steps A i) j) (q + 1) = flat 10 (fun i j => trueCell (trueAt t steps A i) j) q ++ trueL ⟨bar, sd⟩) := hid (by rw [flat_succ, HTA.out]; rfl)
        have HLT : Hid (∀ kk, u9.ownBlock = some kk → G + 1 ≤ kk ∧ kk < wr.heap.size) := hid (fun kk e => HOWN.out.lt kk e)
        have HZ3 : Hid (w3.heap.size = wc.heap.size) := hz3
        clear hw3 hz3 hoff g0 g1 g2 g3 gz nG nG2 p0 p1 p2 p3 p4 p5 p6 p7 p8 HOWN
        have hmax : q + 1 ≤ maxLen := by unfold maxLen; omega
        have hby : (q + 1) * 56 ≤ 140737488355328 := by omega
        go_cut [9] (fun v9 wd => wd.ownsRow (G + 1) 71 10 v9 (q + 1) (flat 10 (fun i j => trueCell (trueAt t steps A i) j) (q + 1)) ∧ GCell wd G sd.g ∧ Below G w1 wd ∧ G < wd.heap.size ∧ wd.cell? ⟨H, 3, none⟩ = some (.bool ad.k) ∧ wd.cell? ⟨g12, 7, none⟩ = some (.bool sd.down))
        case first =>
          go_wp2_with (at_builtin; refine wpList_append_own _ rfl _ _ 41 rfl (G + 1) 71 i0 _ 10 56 Try.underlying41 hi hz0 hz1 hz2 rfl (by decide) u9 q (flat 10 (fun i j => trueCell (trueAt t steps A i) j) q) rfl (HO3.out.alloc _) ⟨w3.heap.size, 0, none⟩ 1 1 (trueL ⟨bar, sd⟩) rfl rfl (news10 ⟨bar, sd⟩ _ _ _ rfl) (true_one _) hmax hby (by have := HL3.out; simp; omega) ?_; intro v' w4 hown' hgrow hnil)
          have HA : Hid (Below (G + 1) w3 w4) := hid (((Below.refl _ _).alloc (by have := HL3.out; omega) _).grown hgrow (by have := HL3.out; simp; omega) (fun kk e => (HLT.out kk e).1))
          have HAT : Hid (∀ x j : Nat, x < w3.heap.size → wr.heap.size ≤ x → w4.cell? ⟨x, j, none⟩ = w3.cell? ⟨x, j, none⟩) := hid (fun x j hx hx2 => by
            refine (World.cell?_of_block (a := ⟨x, j, none⟩) (hgrow.block x (by simp; omega) (fun e => by have := (HLT.out _ e.symm).2; omega))).trans ?_
            exact old_cell hx _ j)
          have HM4 : Hid (w4.ownsRow (G + 1) 71 10 v' (q + 1) (flat 10 (fun i j => trueCell (trueAt t steps A i) j) (q + 1)) ∧ GCell w4 G sd.g ∧ Below G w1 w4 ∧ G < w4.heap.size ∧ w4.cell? ⟨H, 3, none⟩ = some (.bool ad.k) ∧ w4.cell? ⟨g12, 7, none⟩ = some (.bool sd.down)) := hid (by
            refine ⟨by rw [HLEN.out]; exact hown', HG3.out.below HA.out (by omega), HB3.out.trans (HA.out.mono (by omega)), Nat.lt_of_lt_of_le HL3.out HA.out.size, ?_, ?_⟩
            · rw [HAT.out H 3 (by rw [HZ3.out]; exact HHW.out) (by have := HHE.out; omega)]; exact HSK3.out
            · rw [HAT.out g12 7 (by rw [HZ3.out]; exact HG12.out.2) (by have := HG12.out.1; omega)]; exact HP73.out)
          clear hown' hgrow hnil
          go_wp2
          go_meet
          case rel => exact HM4.out
        case rest =>
          obtain ⟨ho5, hg5, hb5, hl5, k3, k7⟩ := hcut
          have HO5 : Hid (wc.ownsRow (G + 1) 71 10 u9 (q + 1) (flat 10 (fun i j => trueCell (trueAt t steps A i) j) (q + 1))) := ho5
          have HG5 : Hid (GCell wc G sd.g) := hg5
          have HB5 : Hid (Below G w1 wc) := hb5
          have HL5 : Hid (G < wc.heap.size) := hl5
          clear ho5 hg5 hb5 hl5 s0 s1 s2 s3 s4 s5 s6 s7 s8
          cases hk5 : ad.k
          · cases hd5 : sd.down
            · by_cases hb0 : 0 < bar
              · have HNB : Hid (nextBar ad.k sd.down bar steps = bar - 1) := hid (by simp [nextBar, hk5, hd5, hb0])
                go_wp2
                go_roundw
                case rel => exact ⟨q + 1, by omega, by go_num, by rw [HNX.out, HNB.out], HO5.out, by rw [HNX.out]; exact HG5.out, HB5.out, HL5.out⟩
                case measure => simp [intOf]; omega
              · have HNB : Hid (nextBar ad.k sd.down bar steps = bar) := hid (by simp [nextBar, hk5, hd5, hb0])
                go_wp2
                go_roundw
                case rel => exact ⟨q + 1, by omega, by go_num, by rw [HNX.out, HNB.out], HO5.out, by rw [HNX.out]; exact HG5.out, HB5.out, HL5.out⟩
                case measure => simp [intOf]; omega
            · by_cases hb0 : bar < steps
              · have HNB : Hid (nextBar ad.k sd.down bar steps = bar + 1) := hid (by simp [nextBar, hk5, hd5, hb0])
                go_wp2
                go_roundw
                case rel => exact ⟨q + 1, by omega, by go_num, by rw [HNX.out, HNB.out], HO5.out, by rw [HNX.out]; exact HG5.out, HB5.out, HL5.out⟩
                case measure => simp [intOf]; omega
              · have HNB : Hid (nextBar ad.k sd.down bar steps = bar) := hid (by simp [nextBar, hk5, hd5, hb0])
                go_wp2
                go_roundw
                case rel => exact ⟨q + 1, by omega, by go_num, by rw [HNX.out, HNB.out], HO5.out, by rw [HNX.out]; exact HG5.out, HB5.out, HL5.out⟩
                case measure => simp [intOf]; omega
          · have HNB : Hid (nextBar ad.k sd.down bar steps = bar) := hid (by simp [nextBar, hk5])
            go_wp2
            go_roundw
            case rel => exact ⟨q + 1, by omega, by go_num, by rw [HNX.out, HNB.out], HO5.out, by rw [HNX.out]; exact HG5.out, HB5.out, HL5.out⟩
            case measure => simp [intOf]; omega
    · have eq : q = len := by omega
      subst eq
      go_wp2
      go_ret
      refine ⟨_, rfl, ?_, HBW.out⟩
      rw [HNN.out]
      exact rowV_own HOWN.out (by have := HGL.out; omega)

set_option maxHeartbeats 1000000 in
theorem specDrive_none (t : TD) (steps : Int) (ao : Option Addr) (cap : Nat) (w : World) :
    Calls Try.prog 19 #[t.v, .int .i64 steps, .slice ao 0 cap] w fun e w' => e = .returned (.slice none 0 0) ∧ Below w.heap.size w w' := by
  have HT : Hid (tV t.a t.b t.c t.d = .agg #[.int .i64 t.a, .int .i64 t.b, .int .i64 t.c, .int .i64 t.d]) := rfl
  unfold TD.v
  rw [HT.out]
  go_enter Try.func19, Try.ntmps19
  go_wp2_with fail
  rw [← HT.out]
  refine (spec_TimesOk t.a t.b t.c t.d _).mono ?_
  rintro e w1 ⟨rfl, hb1⟩
  have HX : Hid (Below w.heap.size w w1) := hid (((Below.refl _ _).alloc (Nat.le_refl _) _).trans (hb1.mono (by simp)))
  clear hb1
  cases hk : tOk t.a t.b t.c t.d
  · go_wp2
    go_ret
    exact ⟨rfl, HX.out⟩
  cases hst : inB steps 1 1000
  · go_wp2_with (go_at_call 34; refine (l1in_any _ _ _ _).mono ?_; rintro e w' ⟨rfl, rfl⟩)
    go_ret
    exact ⟨rfl, HX.out⟩
  go_wp2_with fail
  refine (l1in_any _ _ _ _).mono ?_
  rintro e w1' ⟨rfl, hw1⟩
  replace hw1 := hw1.symm
  subst hw1
  go_wp2_with fail
  refine wp_loop_rounds 1 ?_
  rw [rounds_succ]
  go_wp2
  go_ret
  exact ⟨rfl, HX.out.alloc HX.out.size _⟩

end Go.Proofs.Ytcidikmbngflcab
