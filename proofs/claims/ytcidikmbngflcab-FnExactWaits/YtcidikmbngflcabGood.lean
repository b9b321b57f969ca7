/-
  A tick leaves a gate that is right: where a run of ticks ends.
-/
import Derived.Test.YtcidikmbngflcabRuns
namespace Go.Proofs.Ytcidikmbngflcab
open Go.RowKit
set_option maxRecDepth 100000

theorem tickS_ok (t : TD) (g : GD) (f : FD) : (tickS t g f).ok = tickOk t.a t.b t.c t.d g.s g.i g.u f.b := by
  unfold tickS
  by_cases h : tickOk t.a t.b t.c t.d g.s g.i g.u f.b = true
  · rw [if_pos h, h]
  · rw [if_neg h]; simp only [Bool.not_eq_true] at h; rw [h]; rfl

theorem gOk_next (t : TD) (g : GD) (f : FD) (h : tickOk t.a t.b t.c t.d g.s g.i g.u f.b = true) :
    gOk t.a t.b t.c t.d (tickS t g f).g.s (tickS t g f).g.i (tickS t g f).g.u = true := by
  unfold tickS
  rw [if_pos h]
  dsimp only
  unfold tickOk at h
  rw [Bool.and_eq_true] at h
  obtain ⟨hs, hi, hu, ha, hb, hc, hd, hx, hy⟩ := gOk_facts h.1
  have ht : tOk t.a t.b t.c t.d = true := by
    have := h.1; unfold gOk at this; simp only [Bool.and_eq_true] at this; exact this.1.1.1.1
  have hmi := more_bd hi.1
  have hmu := more_bd hu.1
  generalize hk : nextS g.s t.a t.c (more g.i) (f.x || f.n || f.o) f.b = k
  have hkk : 0 ≤ k ∧ k ≤ 4 := hk ▸ nextS_in _ _ _ _ _ _
  have h1 : g.s = 1 → k = 1 → more g.i ≤ t.a := by
    intro e e1
    rw [e] at hk
    unfold nextS at hk
    rw [if_neg (by omega), if_pos rfl] at hk
    by_cases h' : t.a ≤ more g.i
    · rw [if_pos h'] at hk; omega
    · omega
  unfold gOk
  simp only [Bool.and_eq_true]
  refine ⟨⟨⟨⟨ht, inB_mk hkk⟩, inB_mk ?_⟩, inB_mk ?_⟩, ?_⟩
  · unfold sinceOf; split <;> omega
  · unfold shutOf; repeat' split
    all_goals omega
  · by_cases e0 : k = 0
    · rw [if_pos e0]; simp [shutOf, e0]
    · rw [if_neg e0]
      by_cases e1 : k = 1
      · rw [if_pos e1]
        refine decide_eq_true ?_
        unfold sinceOf
        split
        · next e => exact h1 (e.trans e1) e1
        · omega
      · rw [if_neg e1]

theorem gOk_gate0 {t : TD} (h : t.ok = true) : gOk t.a t.b t.c t.d gate0.s gate0.i gate0.u = true := by
  unfold TD.ok at h
  unfold gOk
  rw [h]
  rfl

theorem gate_good {t : TD} {F : Nat → FD} (ht : t.ok = true) : ∀ k, (∀ j, j < k → inB (F j).b 0 2 = true) → gOk t.a t.b t.c t.d (gateAt t F k).s (gateAt t F k).i (gateAt t F k).u = true
  | 0, _ => gOk_gate0 ht
  | k + 1, h => by
    have ih := gate_good ht k (fun j hj => h j (by omega))
    exact gOk_next t (gateAt t F k) (F k) (by unfold tickOk; rw [ih, h k (by omega)]; rfl)

theorem run_all {t : TD} {F : Nat → FD} {n : Nat} (h : ∀ j, j < n → (saidAt t F j).ok = true) (hn : 0 < n) (hl : n ≤ 2000) : runLen t F n = n := by
  have e : ∀ j, j < n → t.ok = true ∧ inB (F j).b 0 2 = true := by
    intro j hj
    have := h j hj
    unfold saidAt at this
    rw [tickS_ok] at this
    unfold tickOk at this
    rw [Bool.and_eq_true] at this
    refine ⟨?_, this.2⟩
    have h2 := this.1
    unfold gOk at h2
    simp only [Bool.and_eq_true] at h2
    exact h2.1.1.1.1
  have hf : feltsOk F n = true := feltsOk_all (fun i hi => (e i hi).2)
  simp [runLen, runOk, (e 0 hn).1, hl, hf]

theorem run_bad {t : TD} {F : Nat → FD} {n k : Nat} (hk : k < n) (h : (saidAt t F k).ok = false) : runLen t F n = 0 := by
  unfold runLen
  by_cases hr : runOk t F n = true
  · exfalso
    unfold runOk at hr
    simp only [Bool.and_eq_true] at hr
    have hf : ∀ j, j < n → inB (F j).b 0 2 = true := by
      intro j hj
      have := hr.2
      unfold feltsOk at this
      rw [List.all_eq_true] at this
      exact this j (by simpa using hj)
    have hg := gate_good hr.1.1 k (fun j hj => hf j (by omega))
    unfold saidAt at h
    rw [tickS_ok] at h
    unfold tickOk at h
    rw [hg, hf k hk] at h
    cases h
  · rw [if_neg hr]

end Go.Proofs.Ytcidikmbngflcab
