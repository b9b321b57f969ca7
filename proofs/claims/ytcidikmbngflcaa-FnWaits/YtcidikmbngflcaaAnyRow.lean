/-
  Run and Waits over whatever list of what is felt.
-/
import Derived.Test.YtcidikmbngflcaaImplWaits
import Derived.Test.YtcidikmbngflcaaDrawFS
import Derived.Test.YtcidikmbngflcaaRedP
namespace Go.Proofs.Ytcidikmbngflcaa
open Go.RowKit
set_option maxRecDepth 100000

theorem fcell_rows {w : World} {g n i : Nat} {F : Nat → FD} (h : Row w g 5 n (feltC F)) (hi : i < n) : FCell w g 0 i (F i) := by
  have h0 := h.cells i 0 hi (by omega)
  have h1 := h.cells i 1 hi (by omega)
  have h2 := h.cells i 2 hi (by omega)
  have h3 := h.cells i 3 hi (by omega)
  have h4 := h.cells i 4 hi (by omega)
  simp only [FCell, Nat.zero_add]
  exact ⟨h0, h1, h2, h3, h4⟩
theorem runLen_zero (t : TD) (F : Nat → FD) : runLen t F 0 = 0 := Nat.le_zero.1 (runLen_le t F 0)
theorem waitLen_zero (t : TD) (F : Nat → FD) : waitLen t F 0 = 0 := Nat.le_zero.1 (waitLen_le t F 0)

theorem implRun_rowV (t : TD) (v : Value) (n Bv : Nat) (F : Nat → FD) (w : World) (hv : RowV Bv w v 5 n (feltC F)) (hn : n ≤ 1048576) :
    Calls Try.prog 22 #[t.v, v] w fun e w' => ∃ v', e = .returned v' ∧ RowV w.heap.size w' v' 9 (runLen t F n) (fun i j => saidCell (saidAt t F i) j) ∧ Below w.heap.size w w' := by
  rcases Nat.eq_zero_or_pos n with e | e
  · subst e
    obtain ⟨ao, cap, rfl⟩ := hv.form0
    refine (implRun_none t ao cap w).mono ?_
    rintro e w' ⟨a, c, rfl, hb⟩
    exact ⟨_, rfl, .inl ⟨runLen_zero t F, a, c, rfl⟩, hb⟩
  · obtain ⟨g, cap, rfl, _, hr⟩ := hv.formS e
    exact implRun_some t g 0 n cap F w e hn hr.lt (fun i hi => fcell_rows hr hi)
theorem specRun_rowV (t : TD) (v : Value) (n Bv : Nat) (F : Nat → FD) (w : World) (hv : RowV Bv w v 5 n (feltC F)) (hn : n ≤ 1048576) :
    Calls Try.prog 23 #[t.v, v] w fun e w' => ∃ v', e = .returned v' ∧ RowV w.heap.size w' v' 9 (runLen t F n) (fun i j => saidCell (saidAt t F i) j) ∧ Below w.heap.size w w' := by
  rcases Nat.eq_zero_or_pos n with e | e
  · subst e
    obtain ⟨ao, cap, rfl⟩ := hv.form0
    refine (specRun_none t ao cap w).mono ?_
    rintro e w' ⟨rfl, hb⟩
    exact ⟨_, rfl, .inl ⟨runLen_zero t F, _, _, rfl⟩, hb⟩
  · obtain ⟨g, cap, rfl, _, hr⟩ := hv.formS e
    exact specRun_some t g 0 n cap F w e hn hr.lt (fun i hi => fcell_rows hr hi)
theorem implWaits_rowV (t : TD) (v : Value) (n Bv : Nat) (F : Nat → FD) (w : World) (hv : RowV Bv w v 5 n (feltC F)) (hn : n ≤ 1048576) :
    Calls Try.prog 20 #[t.v, v] w fun e w' => ∃ v', e = .returned v' ∧ RowV w.heap.size w' v' 3 (waitLen t F n) (fun i j => waitCell (waitAt t F n i) j) ∧ Below w.heap.size w w' := by
  rcases Nat.eq_zero_or_pos n with e | e
  · subst e
    obtain ⟨ao, cap, rfl⟩ := hv.form0
    refine (implWaits_none t ao cap w).mono ?_
    rintro e w' ⟨a, c, rfl, hb⟩
    exact ⟨_, rfl, .inl ⟨waitLen_zero t F, a, c, rfl⟩, hb⟩
  · obtain ⟨g, cap, rfl, _, hr⟩ := hv.formS e
    exact implWaits_some t g 0 n cap F w e hn hr.lt (fun i hi => fcell_rows hr hi)
theorem specWaits_rowV (t : TD) (v : Value) (n Bv : Nat) (F : Nat → FD) (w : World) (hv : RowV Bv w v 5 n (feltC F)) (hn : n ≤ 1048576) :
    Calls Try.prog 21 #[t.v, v] w fun e w' => ∃ v', e = .returned v' ∧ RowV w.heap.size w' v' 3 (waitLen t F n) (fun i j => waitCell (waitAt t F n i) j) ∧ Below w.heap.size w w' := by
  rcases Nat.eq_zero_or_pos n with e | e
  · subst e
    obtain ⟨ao, cap, rfl⟩ := hv.form0
    refine (specWaits_none t ao cap w).mono ?_
    rintro e w' ⟨rfl, hb⟩
    exact ⟨_, rfl, .inl ⟨waitLen_zero t F, _, _, rfl⟩, hb⟩
  · obtain ⟨g, cap, rfl, _, hr⟩ := hv.formS e
    exact specWaits_some t g 0 n cap F w e hn hr.lt (fun i hi => fcell_rows hr hi)

end Go.Proofs.Ytcidikmbngflcaa
