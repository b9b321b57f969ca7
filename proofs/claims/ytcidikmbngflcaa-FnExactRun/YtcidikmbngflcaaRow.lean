/-
  Rows of records in memory: what lies in a block, record by record, field by field.
-/
import Derived.Test.YtcidikmbngflcaaBase
namespace Go.Proofs.Ytcidikmbngflcaa
open Go.ChangeShapes Go.WideShapes Go.ChangeAt Go.RowKit
set_option maxRecDepth 100000

/-- Block g is a row of n records of z cells each; record i, field j holds C i j. -/
structure Row (w : World) (g z n : Nat) (C : Nat → Nat → Value) : Prop where
  cells : ∀ i j, i < n → j < z → w.cell? ⟨g, i * z + j, none⟩ = some (C i j)
  free : ∀ k, w.frozen? ⟨g, k, none⟩ = false
  lt : g < w.heap.size

theorem Row.below {w w' : World} {g z n : Nat} {C : Nat → Nat → Value} (h : Row w g z n C) {B : Nat} (hb : Below B w w') (hg : g < B) : Row w' g z n C :=
  ⟨fun i j hi hj => (hb.cell (p := ⟨g, i * z + j, none⟩) hg).trans (h.cells i j hi hj), fun k => (hb.frozen (p := ⟨g, k, none⟩) hg).trans (h.free k), Nat.lt_of_lt_of_le h.lt hb.size⟩

theorem Row.congr {w : World} {g z n : Nat} {C C' : Nat → Nat → Value} (h : Row w g z n C) (e : ∀ i j, i < n → j < z → C i j = C' i j) : Row w g z n C' :=
  ⟨fun i j hi hj => by rw [h.cells i j hi hj, e i j hi hj], h.free, h.lt⟩

/-- One cell of a row is stored. -/
theorem Row.set {w : World} {g z n : Nat} {C : Nat → Nat → Value} (h : Row w g z n C) (i0 j0 : Nat) (hi : i0 < n) (hj : j0 < z) (v : Value) :
    Row (w.setCell ⟨g, i0 * z + j0, none⟩ v) g z n (fun i j => if i = i0 ∧ j = j0 then v else C i j) := by
  refine ⟨fun i j hi' hj' => ?_, fun k => (World.frozen?_setCell _ _ _ _).trans (h.free k), by simpa [World.setCell] using h.lt⟩
  by_cases e : i = i0 ∧ j = j0
  · obtain ⟨rfl, rfl⟩ := e
    rw [if_pos ⟨rfl, rfl⟩]
    exact World.cell?_setCell_same _ _ _ (h.cells i j hi hj)
  · rw [if_neg e]
    have hne : i * z + j ≠ i0 * z + j0 := by
      intro heq
      apply e
      have h1 : (i * z + j) % z = (i0 * z + j0) % z := by rw [heq]
      rw [Nat.mul_comm i z, Nat.mul_comm i0 z, Nat.mul_add_mod, Nat.mul_add_mod, Nat.mod_eq_of_lt hj', Nat.mod_eq_of_lt hj] at h1
      subst h1
      have h2 : i * z = i0 * z := by omega
      exact ⟨Nat.eq_of_mul_eq_mul_right (by omega) h2, rfl⟩
    rw [World.cell?_setCell_other (h := by simp only [ne_eq, Addr.mk.injEq, true_and, and_true]; exact fun e' => hne e'.symm)]
    exact h.cells i j hi' hj'

/-- A row that 'make' has laid. -/
theorem row_made {w : World} {base e g z n : Nat} {zc : Array Value} (hz : zc.size = z) (h : w.ownsRow base e z (.slice (some ⟨g, 0, none⟩) n n) n (madeCells zc (n * z)).toList) (hlt : g < w.heap.size) :
    Row w g z n (fun _ j => zc[j]!) := by
  refine ⟨fun i j hi hj => ?_, fun k => h.frozenAt k, hlt⟩
  have hk : i * z + j < n * z := by
    have : (i + 1) * z ≤ n * z := Nat.mul_le_mul_right z hi
    rw [Nat.add_mul] at this
    omega
  rw [h.cellAt _ hk]
  have hm : (i * z + j) % z = j := by rw [Nat.mul_comm, Nat.mul_add_mod, Nat.mod_eq_of_lt hj]
  simp [madeCells, hk, hz, hm]

/-- Five cells of a record are stored, one behind the other. -/
theorem Row.set5 {w : World} {g n : Nat} {C : Nat → Nat → Value} (h : Row w g 5 n C) (k : Nat) (hk : k < n) (v0 v1 v2 v3 v4 : Value) :
    Row (((((w.setCell ⟨g, k * 5, none⟩ v0).setCell ⟨g, k * 5 + 1, none⟩ v1).setCell ⟨g, k * 5 + 2, none⟩ v2).setCell ⟨g, k * 5 + 3, none⟩ v3).setCell ⟨g, k * 5 + 4, none⟩ v4) g 5 n
      (fun i j => if i = k then (if j = 0 then v0 else if j = 1 then v1 else if j = 2 then v2 else if j = 3 then v3 else v4) else C i j) := by
  have h0 := h.set k 0 hk (by omega) v0
  have h1 := h0.set k 1 hk (by omega) v1
  have h2 := h1.set k 2 hk (by omega) v2
  have h3 := h2.set k 3 hk (by omega) v3
  have h4 := h3.set k 4 hk (by omega) v4
  refine h4.congr fun i j hi hj => ?_
  by_cases e : i = k
  · subst e
    simp only [true_and, if_true]
    have : j = 0 ∨ j = 1 ∨ j = 2 ∨ j = 3 ∨ j = 4 := by omega
    rcases this with rfl | rfl | rfl | rfl | rfl <;> simp
  · simp [e]
theorem below5 {B : Nat} {w W : World} (h : Below B w W) {g : Nat} (hg : B ≤ g) (a0 a1 a2 a3 a4 : Nat) (v0 v1 v2 v3 v4 : Value) :
    Below B w (((((W.setCell ⟨g, a0, none⟩ v0).setCell ⟨g, a1, none⟩ v1).setCell ⟨g, a2, none⟩ v2).setCell ⟨g, a3, none⟩ v3).setCell ⟨g, a4, none⟩ v4) :=
  ((((h.setCell hg v0).setCell hg v1).setCell hg v2).setCell hg v3).setCell hg v4

/-- The cells of the first n records, one behind the other. -/
def flat (z : Nat) (C : Nat → Nat → Value) (n : Nat) : List Value := (List.range n).flatMap fun i => (List.range z).map (C i)
theorem flat_length (z : Nat) (C : Nat → Nat → Value) (n : Nat) : (flat z C n).length = n * z := by
  induction n with
  | zero => simp [flat]
  | succ n ih =>
    unfold flat at ih ⊢
    rw [List.range_succ, List.flatMap_append, List.length_append, ih]
    simp [Nat.add_mul]
theorem flat_succ (z : Nat) (C : Nat → Nat → Value) (n : Nat) : flat z C (n + 1) = flat z C n ++ (List.range z).map (C n) := by
  unfold flat; rw [List.range_succ, List.flatMap_append]; simp
theorem flat_get (z : Nat) (C : Nat → Nat → Value) (n i j : Nat) (hi : i < n) (hj : j < z) : (flat z C n)[i * z + j]? = some (C i j) := by
  induction n with
  | zero => omega
  | succ n ih =>
    rw [flat_succ]
    by_cases h : i < n
    · have hk : i * z + j < (flat z C n).length := by
        rw [flat_length]
        have : (i + 1) * z ≤ n * z := Nat.mul_le_mul_right z h
        rw [Nat.add_mul] at this
        omega
      rw [List.getElem?_append_left hk]
      exact ih h
    · have e : i = n := by omega
      subst e
      rw [List.getElem?_append_right (by rw [flat_length]; omega), flat_length]
      have : i * z + j - i * z = j := by omega
      rw [this]
      simp [hj]

/-- What the call owns as a row, record by record. -/
theorem row_own {w : World} {base e g z n cap : Nat} {C : Nat → Nat → Value} (h : w.ownsRow base e z (.slice (some ⟨g, 0, none⟩) n cap) n (flat z C n)) : Row w g z n C := by
  refine ⟨fun i j hi hj => ?_, fun k => h.frozenAt k, (h.lt g rfl).2⟩
  have hk : i * z + j < n * z := by
    have : (i + 1) * z ≤ n * z := Nat.mul_le_mul_right z hi
    rw [Nat.add_mul] at this
    omega
  rw [h.cellAt _ hk]
  exact flat_get z C n i j hi hj

theorem flat_index {z n k : Nat} (h : k < n * z) : ∃ i j, i < n ∧ j < z ∧ k = i * z + j := by
  have hz : 0 < z := by
    rcases Nat.eq_zero_or_pos z with e | e
    · rw [e] at h; omega
    · exact e
  refine ⟨k / z, k % z, (Nat.div_lt_iff_lt_mul hz).2 h, Nat.mod_lt _ hz, ?_⟩
  rw [Nat.mul_comm]; exact (Nat.div_add_mod k z).symm
theorem flat_ext {z n : Nat} {C : Nat → Nat → Value} {xs : List Value} (hl : xs.length = n * z) (h : ∀ i j, i < n → j < z → xs[i * z + j]? = some (C i j)) : xs = flat z C n := by
  apply List.ext_getElem?
  intro k
  by_cases hk : k < n * z
  · obtain ⟨i, j, hi, hj, rfl⟩ := flat_index hk
    rw [h i j hi hj, flat_get z C n i j hi hj]
  · rw [List.getElem?_eq_none (by rw [hl]; omega), List.getElem?_eq_none (by rw [flat_length]; omega)]
theorem flat_congr {z n : Nat} {C C' : Nat → Nat → Value} (h : ∀ i j, i < n → j < z → C i j = C' i j) : flat z C n = flat z C' n :=
  flat_ext (flat_length z C n) (fun i j hi hj => by rw [flat_get z C n i j hi hj, h i j hi hj])
theorem flat_set (z : Nat) (C : Nat → Nat → Value) (n i0 j0 : Nat) (hi : i0 < n) (hj : j0 < z) (v : Value) :
    (flat z C n).set (i0 * z + j0) v = flat z (fun i j => if i = i0 ∧ j = j0 then v else C i j) n := by
  refine flat_ext (by rw [List.length_set, flat_length]) fun i j hi' hj' => ?_
  rw [List.getElem?_set]
  by_cases e : i0 * z + j0 = i * z + j
  · have e2 : i = i0 ∧ j = j0 := by
      have h1 : (i * z + j) % z = (i0 * z + j0) % z := by rw [e]
      rw [Nat.mul_comm i z, Nat.mul_comm i0 z, Nat.mul_add_mod, Nat.mul_add_mod, Nat.mod_eq_of_lt hj', Nat.mod_eq_of_lt hj] at h1
      subst h1
      have h2 : i * z = i0 * z := by omega
      exact ⟨Nat.eq_of_mul_eq_mul_right (by omega) h2, rfl⟩
    have hlt : i0 * z + j0 < (flat z C n).length := by
      rw [flat_length]
      have : (i0 + 1) * z ≤ n * z := Nat.mul_le_mul_right z hi
      rw [Nat.add_mul] at this
      omega
    rw [if_pos e, if_pos e2, if_pos hlt]
  · have e2 : ¬ (i = i0 ∧ j = j0) := fun h => e (by rw [h.1, h.2])
    rw [if_neg e, if_neg e2]
    exact flat_get z C n i j hi' hj'
theorem own_set {w : World} {base e g z n cap : Nat} {C : Nat → Nat → Value} (h : w.ownsRow base e z (.slice (some ⟨g, 0, none⟩) n cap) n (flat z C n)) (i0 j0 : Nat) (hi : i0 < n) (hj : j0 < z) (v : Value) :
    (w.setCell ⟨g, i0 * z + j0, none⟩ v).ownsRow base e z (.slice (some ⟨g, 0, none⟩) n cap) n (flat z (fun i j => if i = i0 ∧ j = j0 then v else C i j) n) := by
  rw [← flat_set z C n i0 j0 hi hj v]
  exact (h.stored _ v).1

/-- What is owned stays owned where every old block stands. -/
theorem own_below {w w' : World} {base e z n : Nat} {v : Value} {xs : List Value} (h : w.ownsRow base e z v n xs) (hb : Below w.heap.size w w') : w'.ownsRow base e z v n xs := by
  refine ⟨h.1, h.2.elim .inl fun ⟨g, cap, cur, hv, hg, hh, r⟩ => .inr ⟨g, cap, cur, hv, hg, ?_, r⟩⟩
  have hlt : g < w.heap.size := by
    rcases Nat.lt_or_ge g w.heap.size with h' | h'
    · exact h'
    · rw [Array.getElem?_eq_none h'] at hh; cases hh
  rw [hb.block g hlt]; exact hh

/-- What was felt, as a record. -/
structure FD where
  x : Bool
  n : Bool
  o : Bool
  b : Int
  m : Bool
def FD.v (f : FD) : Value := fV f.x f.n f.o f.b f.m
def feltC (F : Nat → FD) (i j : Nat) : Value :=
  if j = 0 then .bool (F i).x else if j = 1 then .bool (F i).n else if j = 2 then .bool (F i).o else if j = 3 then .int .i64 (F i).b else .bool (F i).m
def felt0 : FD := ⟨false, false, false, 0, false⟩

/-- A slice that came in (or was made): nil, or n records from an address on. -/
def FIn (w : World) (ao : Option Addr) (n : Nat) (F : Nat → FD) : Prop :=
  (ao = none ∧ n = 0) ∨ n = 0 ∨ ∃ b o, ao = some ⟨b, o, none⟩ ∧ b < w.heap.size ∧ ∀ i, i < n →
    w.cell? ⟨b, o + i * 5, none⟩ = some (.bool (F i).x) ∧ w.cell? ⟨b, o + i * 5 + 1, none⟩ = some (.bool (F i).n) ∧ w.cell? ⟨b, o + i * 5 + 2, none⟩ = some (.bool (F i).o) ∧
    w.cell? ⟨b, o + i * 5 + 3, none⟩ = some (.int .i64 (F i).b) ∧ w.cell? ⟨b, o + i * 5 + 4, none⟩ = some (.bool (F i).m)

end Go.Proofs.Ytcidikmbngflcaa
