/-
  The iterator that impl.eachAsked makes.
-/
import Derived.Test.YtcidikmbngflcabSoonParts
import Derived.Test.YtcidikmbngflcabRf
import Derived.Test.YtcidikmbngflcabImplRun
import Derived.Test.YtcidikmbngflcabEachWait
namespace Go.Proofs.Ytcidikmbngflcab
open Go.ChangeShapes Go.WideShapes Go.ChangeAt Go.RowKit
set_option maxRecDepth 100000
set_option linter.unusedSimpArgs false

theorem heldA {W w' : World} {G bt bs : Nat} {t : TD} {g : GD} {steps : Int} (ht : TCell W bt t) (hg : GCell W G g) (hs : W.cell? ⟨bs, 0, none⟩ = some (.int .i64 steps)) (h : Below W.heap.size W w') :
    Below W.heap.size W w' ∧ w'.cell? ⟨bt, 0, none⟩ = some (.int .i64 t.a) ∧ w'.cell? ⟨bt, 1, none⟩ = some (.int .i64 t.b) ∧ w'.cell? ⟨bt, 2, none⟩ = some (.int .i64 t.c) ∧ w'.cell? ⟨bt, 3, none⟩ = some (.int .i64 t.d) ∧
      w'.cell? ⟨G, 0, none⟩ = some (.int .i64 g.s) ∧ w'.cell? ⟨G, 1, none⟩ = some (.int .i64 g.i) ∧ w'.cell? ⟨G, 2, none⟩ = some (.int .i64 g.u) ∧ w'.cell? ⟨G, 3, none⟩ = some (.bool g.f) ∧ w'.cell? ⟨bs, 0, none⟩ = some (.int .i64 steps) := by
  obtain ⟨a0, a1, a2, a3⟩ := ht.below h (World.block_lt_of_cell? _ _ ht.1)
  obtain ⟨b0, b1, b2, b3, _⟩ := hg.below h (World.block_lt_of_cell? _ _ hg.1)
  exact ⟨h, a0, a1, a2, a3, b0, b1, b2, b3, (h.cell (World.block_lt_of_cell? _ _ hs)).trans hs⟩

theorem below_gate {M : Nat} (W : World) (a b c d : Value) : Below M W (((((W.setCell ⟨M, 0, none⟩ a).setCell ⟨M, 1, none⟩ b).setCell ⟨M, 2, none⟩ c).setCell ⟨M, 3, none⟩ d).drew) := by
  have h0 : Below M W (W.setCell ⟨M, 0, none⟩ a) := (Below.refl M W).setCell (p := ⟨M, 0, none⟩) (Nat.le_refl M) a
  have h1 := h0.setCell (p := ⟨M, 1, none⟩) (Nat.le_refl M) b
  have h2 := h1.setCell (p := ⟨M, 2, none⟩) (Nat.le_refl M) c
  have h3 := h2.setCell (p := ⟨M, 3, none⟩) (Nat.le_refl M) d
  exact h3.drew
theorem gcell_drew {w : World} {g : Nat} {d : GD} (h : GCell w g d) : GCell w.drew g d := h

set_option maxHeartbeats 4000000 in
theorem eachAsked1_in {J : World → Prop} {Jx : Nat → World → Prop} (l B0 bt bs : Nat) (t : TD) (steps : Int) (W : World) (ht : t.ok = true) (hst : inB steps 1 1000 = true)
    (hbt : TCell W bt t) (hbs : W.cell? ⟨bs, 0, none⟩ = some (.int .i64 steps)) (n1 : bt ≠ B0) (n2 : bs ≠ B0) (hB : B0 < W.heap.size)
    (hJ0 : J W) (hJm : ∀ W1 W2, J W1 → Below W.heap.size W1 W2 → J W2)
    (hY : ∀ (q : Nat) (sd : SD) W1, J W1 → W.heap.size ≤ W1.heap.size → YieldAt Fence.wide 0 Try.prog l #[.int .i64 (q : Int), sd.v] W1 fun e W' =>
      (sd.may = false ∧ e = .returned (.bool true) ∧ J W' ∧ Keeps B0 W1.heap.size W1 W') ∨ (sd.may = true ∧ e = .returned (.bool false) ∧ Jx q W')) :
    Calls Try.prog 54 #[.func (.yield l) #[] #[], .pointer (some ⟨bt, 0, none⟩), .pointer (some ⟨bs, 0, none⟩)] W fun e W' => (∃ v, e = .returned v) ∧
      ((soonestOf t steps = -1 ∧ J W') ∨ ∃ q : Nat, soonestOf t steps = (q : Int) ∧ Jx q W') := by
  obtain ⟨M, hM⟩ : ∃ M, M = W.heap.size := ⟨_, rfl⟩
  rw [← hM] at hJm hY hB
  have hsr := inB_true hst
  have HT : Hid (tV t.a t.b t.c t.d = .agg #[.int .i64 t.a, .int .i64 t.b, .int .i64 t.c, .int .i64 t.d]) := rfl
  have HJ : Hid (∀ W1 W2, J W1 → Below M W1 W2 → J W2) := hJm
  have HY : Hid (∀ (q : Nat) (sd : SD) W1, J W1 → M ≤ W1.heap.size → YieldAt Fence.wide 0 Try.prog l #[.int .i64 (q : Int), sd.v] W1 fun e W' =>
      (sd.may = false ∧ e = .returned (.bool true) ∧ J W' ∧ Keeps B0 W1.heap.size W1 W') ∨ (sd.may = true ∧ e = .returned (.bool false) ∧ Jx q W')) := hY
  have HOK : Hid (t.ok = true) := ht
  have HIN : Hid (inB steps 1 1000 = true) := hst
  have HMW : Hid (M = W.heap.size) := hM
  have HJ0 : Hid (J W) := hJ0
  have HBT : Hid (TCell W bt t) := hbt
  have HBS : Hid (W.cell? ⟨bs, 0, none⟩ = some (.int .i64 steps)) := hbs
  have HLT : Hid (bt < M ∧ bs < M ∧ B0 < M) := hid ⟨by rw [hM]; exact World.block_lt_of_cell? _ _ hbt.1, by rw [hM]; exact World.block_lt_of_cell? _ _ hbs, hB⟩
  have HNE : Hid (bt ≠ B0 ∧ bs ≠ B0) := ⟨n1, n2⟩
  go_enter Try.func54, Try.ntmps54
  clear hJm hY hJ0 hbt hbs n1 n2 hB ht hst
  go_wp2_with fail
  rw [← hM]
  clear hM
  go_loopw [5, 6] (fun v5 v6 wq => ∃ q : Nat, v6 = .int .i64 q ∧ v5 = .int .i64 (dAt t steps askedA q).2 ∧ GCell wq M (dAt t steps askedA q).1 ∧ J wq ∧ Keeps B0 M W wq ∧ M < wq.heap.size ∧
    (∀ j, j < q → mayAt t steps j = false) ∧ (AskInv t steps q (dAt t steps askedA q).1 (dAt t steps askedA q).2 ∨ (dAt t steps askedA q).1.f = true) ∧ q ≤ 301) (fun _ v6 _ => 1000 - (intOf v6).toNat)
  case atStart =>
    refine ⟨0, rfl, rfl, ?_, ?_, ?_, ?_, fun j h => absurd h (by omega), .inl (.inl ⟨rfl, rfl, rfl⟩), by omega⟩
    · rw [HMW.out]; exact ⟨by simp [go_sem, dAt, gate0], by simp [go_sem, dAt, gate0], by simp [go_sem, dAt, gate0], by simp [go_sem, dAt, gate0], fun j => by simp [go_sem]⟩
    · exact HJ.out _ _ HJ0.out (by rw [HMW.out]; exact (Below.refl _ _).alloc (Nat.le_refl _) _)
    · exact ⟨by simp, fun k hk _ => Below.heap_alloc _ _ _ (by rw [← HMW.out]; exact hk)⟩
    · rw [HMW.out]; simp
  case round =>
    obtain ⟨q, rfl, rfl, hg, hj, hk, hl, hno, hinv, hq⟩ := hrel
    obtain ⟨gd, hgd⟩ : ∃ gd, gd = (dAt t steps askedA q).1 := ⟨_, rfl⟩
    obtain ⟨bar, hbar⟩ : ∃ bar, bar = (dAt t steps askedA q).2 := ⟨_, rfl⟩
    rw [← hgd] at hg
    rw [← hbar]
    obtain ⟨fl, hfl⟩ : ∃ fl, fl = gd.f := ⟨_, rfl⟩
    have g3 := hg.2.2.2.1
    rw [← hfl] at g3
    have HG : Hid (GCell wr M gd) := hg
    have HJq : Hid (J wr) := hj
    have HK : Hid (Keeps B0 M W wr) := hk
    have HL : Hid (M < wr.heap.size) := hl
    have HNO : Hid (∀ j, j < q → mayAt t steps j = false) := hno
    have HGD : Hid (gd = (dAt t steps askedA q).1) := hgd
    have HBAR : Hid (bar = (dAt t steps askedA q).2) := hbar
    have HFL : Hid (fl = gd.f) := hfl
    have HINV : Hid (AskInv t steps q gd bar ∨ gd.f = true) := hid (by rw [hgd, hbar]; exact hinv)
    clear hg hj hk hl hno hgd hbar hfl hinv
    cases fl
    · have HI : Hid (AskInv t steps q gd bar) := hid (HINV.out.resolve_right (by rw [← HFL.out]; simp))
      obtain ⟨sd, hsd⟩ : ∃ sd, sd = tickS t gd ⟨true, false, false, barsOf bar steps, false⟩ := ⟨_, rfl⟩
      have HSD : Hid (sd = dSaid t steps askedA q) := hid (by rw [hsd, HGD.out, HBAR.out]; rfl)
      have HE : Hid (tickV t.a t.b t.c t.d gd.s gd.i gd.u gd.f true false false (barsOf bar steps) false = .agg #[.bool sd.ok, .int .i64 sd.g.s, .int .i64 sd.g.i, .int .i64 sd.g.u, .bool sd.g.f, .bool sd.may, .bool sd.red, .bool sd.down, .bool sd.long]) := hid (by
        have := tickS_v t gd ⟨true, false, false, barsOf bar steps, false⟩
        dsimp only at this
        rw [← this, hsd]; rfl)
      have HTC : Hid (TCell wr bt t) := hid (by
        have hb := HK.out.block bt HLT.out.1 HNE.out.1
        exact ⟨(World.cell?_of_block (w := W) (a := ⟨bt, 0, none⟩) hb).trans HBT.out.1, (World.cell?_of_block (w := W) (a := ⟨bt, 1, none⟩) hb).trans HBT.out.2.1, (World.cell?_of_block (w := W) (a := ⟨bt, 2, none⟩) hb).trans HBT.out.2.2.1, (World.cell?_of_block (w := W) (a := ⟨bt, 3, none⟩) hb).trans HBT.out.2.2.2⟩)
      have HSC : Hid (wr.cell? ⟨bs, 0, none⟩ = some (.int .i64 steps)) := hid ((World.cell?_of_block (w := W) (a := ⟨bs, 0, none⟩) (HK.out.block bs HLT.out.2.1 HNE.out.2)).trans HBS.out)
      clear hsd
      go_upto_region 4 with fail
      clear g3
      have hs0 : wr.heap.size ≤ wr.heap.size := Nat.le_refl _
      go_cut [7] (fun v7 wd => Out9 wr sd.ok sd.g.s sd.g.i sd.g.u sd.g.f sd.may sd.red sd.down sd.long v7 wd)
      case first =>
        go_region_held3 (fun w' => Below wr.heap.size wr w' ∧ w'.cell? ⟨bt, 0, none⟩ = some (.int .i64 t.a) ∧ w'.cell? ⟨bt, 1, none⟩ = some (.int .i64 t.b) ∧ w'.cell? ⟨bt, 2, none⟩ = some (.int .i64 t.c) ∧ w'.cell? ⟨bt, 3, none⟩ = some (.int .i64 t.d) ∧ w'.cell? ⟨M, 0, none⟩ = some (.int .i64 gd.s) ∧ w'.cell? ⟨M, 1, none⟩ = some (.int .i64 gd.i) ∧ w'.cell? ⟨M, 2, none⟩ = some (.int .i64 gd.u) ∧ w'.cell? ⟨M, 3, none⟩ = some (.bool gd.f) ∧ w'.cell? ⟨bs, 0, none⟩ = some (.int .i64 steps))
          ((refine heldA HTC.out HG.out HSC.out ?_; first | (with_reducible exact Below.drew (Below.refl _ _)) | (with_reducible exact Below.drew (Below.alloc (Below.refl _ _) (Nat.le_refl _) _)) | (with_reducible exact held_on (by assumption) (by assumption)) | (with_reducible exact Below.alloc (And.left (by assumption)) (Below.size (And.left (by assumption))) _) | (with_reducible exact re_alloc (And.left (by assumption)) (by assumption) (by assumption) _) | (with_reducible exact below9 (And.left (by assumption)) (by assumption) _ _ _ _ _ _ _ _ _) | (with_reducible exact And.left (by assumption))))
          (first | (go_at_call 55; refine (feltAt_any bar steps _).mono ?_; rintro e w1 ⟨rfl, rfl⟩) | (go_at_call 45; refine (impl_Tick t.a t.b t.c t.d gd.s gd.i gd.u gd.f true false false (barsOf bar steps) false _).mono ?_; rintro e w1 ⟨rfl, hb1⟩; have hs1 := held_size (by assumption) hb1; rw [HE.out]; (first | (with_reducible have hz9 := zero_here hb1) | (with_reducible have hz9 := zero_drew hb1) | (with_reducible have hz9 := zero_carry (by assumption) hb1) | skip)))
        all_goals (go_wp2; go_meet; case rel => first | (with_reducible exact met_new (by assumption) (by assumption)) | (with_reducible exact met_old (by assumption) (by assumption) (by assumption)))
      case rest =>
        obtain ⟨g7, rfl, hg7, hl7, hbw, p0, p1, p2, p3, p4, p5, p6, p7, p8⟩ := hcut
        have HC : Hid (Below wr.heap.size wr wc) := hbw
        have HG7 : Hid (wr.heap.size ≤ g7 ∧ g7 < wc.heap.size) := ⟨hg7, hl7⟩
        have HJc : Hid (J wc) := hid (HJ.out _ _ HJq.out (hbw.mono (Nat.le_of_lt HL.out)))
        have HASK : Hid (sd = askS t gd bar steps) := hid (by rw [HSD.out, dSaid_ask steps HOK.out, ← HGD.out, ← HBAR.out])
        obtain ⟨fn, tmps, assign, body, hy, hR⟩ := HY.out q sd wc HJc.out (Nat.le_trans (Nat.le_of_lt HL.out) hbw.size)
        unfold SD.v saidV saidC at hy
        clear hbw hg7 hl7 hs0
        go_upto_region 5 with fail
        refine (wpIn_wide (n := 0)).1 ?_
        gi_wp2
        refine ⟨rfl, hR.mono ?_⟩
        rintro e W3 (⟨hm, rfl, hj3, hk3⟩ | ⟨hm, rfl, hjx⟩)
        · have kb : ∀ {g j : Nat} {v : Value}, g < wc.heap.size → g ≠ B0 → wc.cell? ⟨g, j, none⟩ = some v → W3.cell? ⟨g, j, none⟩ = some v := fun h1 h2 h3 => (World.cell?_of_block (w := wc) (hk3.block _ h1 h2)).trans h3
          have ng : g7 ≠ B0 := by have := HG7.out.1; have := HL.out; have := HLT.out.2.2; omega
          have nM : ¬ M = g7 := by have := HG7.out.1; have := HL.out; omega
          have nM2 : ¬ g7 = M := fun e => nM e.symm
          have nS : ¬ M = bs := by have := HLT.out.2.1; omega
          have nS2 : ¬ bs = M := fun e => nS e.symm
          have e1 := kb HG7.out.2 ng p1
          have e2 := kb HG7.out.2 ng p2
          have e3 := kb HG7.out.2 ng p3
          have e4 := kb HG7.out.2 ng p4
          have e7 := kb HG7.out.2 ng p7
          have e9 := kb (Nat.lt_of_lt_of_le (World.block_lt_of_cell? _ _ HSC.out) HC.out.size) HNE.out.2 ((HC.out.cell (World.block_lt_of_cell? _ _ HSC.out)).trans HSC.out)
          have HG3 : Hid (GCell W3 M gd) := hid ((HG.out.below HC.out HL.out).block (hk3.block M (Nat.lt_of_lt_of_le HL.out HC.out.size) (by have := HLT.out.2.2; omega)))
          have HJ3 : Hid (J W3) := hj3
          have HK3 : Hid (Keeps B0 M W W3) := hid ⟨Nat.le_trans HK.out.size (Nat.le_trans HC.out.size hk3.size), fun k h1 h2 => (hk3.block k (by have := HL.out; have := HC.out.size; omega) h2).trans ((HC.out.block k (by have := HL.out; omega)).trans (HK.out.block k h1 h2))⟩
          have HL3 : Hid (M < W3.heap.size) := hid (Nat.lt_of_lt_of_le HL.out (Nat.le_trans HC.out.size hk3.size))
          have HM : Hid (sd.may = false) := hm
          clear hk3 hj3 hm hy hR p0 p1 p2 p3 p4 p5 p6 p7 p8
          gi_wp2
          obtain ⟨z0, z1, z2, z3, zf⟩ := HG3.out
          have hb0 : 0 ≤ bar ∧ bar ≤ steps := by rw [HBAR.out]; exact dAt_bar t steps askedA hsr.1 q
          go_upto_region 6 with fail
          have HNX : Hid (AskInv t steps (q + 1) sd.g (nextBar false sd.down bar steps) ∨ sd.g.f = true) := hid (by
            have h1 := ask_step HOK.out hsr HI.out
            rw [← HASK.out] at h1
            rcases h1 with ⟨h', _⟩ | ⟨_, h'⟩ | ⟨_, h'⟩
            · rw [HM.out] at h'; cases h'
            · exact .inr h'
            · exact .inl h')
          have HDN : Hid (dAt t steps askedA (q + 1) = (sd.g, nextBar false sd.down bar steps)) := hid (by rw [dAt_succ, ← HSD.out, ← HBAR.out]; rfl)
          have HQ : Hid (q ≤ 300) := hid (ask_bound HOK.out HI.out).1
          have HNM : Hid (∀ j, j < q + 1 → mayAt t steps j = false) := hid (fun j hj => by
            by_cases e : j = q
            · subst e; unfold mayAt; rw [← HSD.out]; exact HM.out
            · exact HNO.out j (by omega))
          go_region_held3 (fun w' => w'.cell? ⟨g7, 1, none⟩ = some (.int .i64 sd.g.s) ∧ w'.cell? ⟨g7, 2, none⟩ = some (.int .i64 sd.g.i) ∧ w'.cell? ⟨g7, 3, none⟩ = some (.int .i64 sd.g.u) ∧ w'.cell? ⟨g7, 4, none⟩ = some (.bool sd.g.f) ∧ w'.cell? ⟨g7, 7, none⟩ = some (.bool sd.down) ∧ w'.cell? ⟨bs, 0, none⟩ = some (.int .i64 steps))
            (go_keep)
            (first | (go_at_call 56; refine (moved_any bar steps sd.down _ hb0.1 hb0.2 hsr.2).mono ?_; rintro e w1 ⟨rfl, rfl⟩))
          go_wp2
          have HBW : Hid (Below M W3 (((((W3.setCell ⟨M, 0, none⟩ (.int .i64 sd.g.s)).setCell ⟨M, 1, none⟩ (.int .i64 sd.g.i)).setCell ⟨M, 2, none⟩ (.int .i64 sd.g.u)).setCell ⟨M, 3, none⟩ (.bool sd.g.f)).drew)) :=
            hid (below_gate W3 _ _ _ _)
          refine ⟨⟨q + 1, by go_num, by rw [HDN.out], ?_, HJ.out _ _ HJ3.out HBW.out, ?_, Nat.lt_of_lt_of_le HL3.out HBW.out.size, HNM.out, by rw [HDN.out]; exact HNX.out, by have := HQ.out; omega⟩, by have := HQ.out; simp [intOf]; omega⟩
          · rw [HDN.out]
            exact gcell_drew (gcell_set ⟨z0, z1, z2, z3, zf⟩ sd.g)
          · exact ⟨Nat.le_trans HK3.out.size HBW.out.size, fun k h1 h2 => (HBW.out.block k h1).trans (HK3.out.block k h1 h2)⟩
        · have HM : Hid (sd.may = true) := hm
          have HJX : Hid (Jx q W3) := hjx
          have HU : Hid (soonestOf t steps = (q : Int)) := hid (by
            have h1 := ask_step HOK.out hsr HI.out
            rw [← HASK.out] at h1
            rcases h1 with ⟨_, hu⟩ | ⟨h', _⟩ | ⟨h', _⟩
            · exact soon_may HOK.out HIN.out (ask_bound HOK.out HI.out).1 HNO.out (by unfold mayAt; rw [← HSD.out]; exact hm) (by rw [← HSD.out]; exact hu)
            · rw [hm] at h'; cases h'
            · rw [hm] at h'; cases h')
          clear hm hjx hy hR p0 p1 p2 p3 p4 p5 p6 p7 p8
          gi_wp2
          go_wp2
          refine bodyPost_ret (results_none rfl _ _ _) rfl ?_
          exact ⟨⟨_, rfl⟩, .inr ⟨q, HU.out, HJX.out⟩⟩
    · go_wp2
      go_end0
      exact ⟨⟨_, rfl⟩, .inl ⟨soon_fault HOK.out HNO.out (by rw [← HGD.out, ← HFL.out]), HJq.out⟩⟩

end Go.Proofs.Ytcidikmbngflcab
