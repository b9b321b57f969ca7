/-
  impl.watch and the closure that it makes.
-/
import Derived.Test.YtcidikmbngflcaaCells
namespace Go.Proofs.Ytcidikmbngflcaa
open Go.ChangeShapes Go.WideShapes Go.ChangeAt Go.RowKit
set_option maxRecDepth 100000
set_option linter.unusedSimpArgs false

/-- Blocks from M up to N alone have turned, and new ones have come. -/
structure Mine (M N : Nat) (w w' : World) : Prop where
  os : w'.os = w.os
  tape : w'.tape = w.tape
  output : w'.output = w.output
  size : w.heap.size ≤ w'.heap.size
  block : ∀ k, k < w.heap.size → (k < M ∨ N ≤ k) → w'.heap[k]? = w.heap[k]?
theorem Mine.refl (M N : Nat) (w : World) : Mine M N w w := ⟨rfl, rfl, rfl, Nat.le_refl _, fun _ _ _ => rfl⟩
theorem Mine.trans {M N : Nat} {a b c : World} (h : Mine M N a b) (k : Mine M N b c) : Mine M N a c :=
  ⟨k.os.trans h.os, k.tape.trans h.tape, k.output.trans h.output, Nat.le_trans h.size k.size, fun i hi hn => (k.block i (Nat.lt_of_lt_of_le hi h.size) hn).trans (h.block i hi hn)⟩
theorem Mine.set {M N : Nat} {a b : World} (h : Mine M N a b) {g : Nat} (h1 : M ≤ g) (h2 : g < N) (j : Nat) (v : Value) : Mine M N a (b.setCell ⟨g, j, none⟩ v) :=
  ⟨h.os, h.tape, h.output, by simpa [World.setCell] using h.size, fun k hk hn => (Below.heap_setCell _ _ _ _ (by simp; omega)).trans (h.block k hk hn)⟩
theorem Mine.fresh {M N : Nat} {a b : World} (h : Mine M N a b) {g : Nat} (h1 : a.heap.size ≤ g) (j : Nat) (v : Value) : Mine M N a (b.setCell ⟨g, j, none⟩ v) :=
  ⟨h.os, h.tape, h.output, by simpa [World.setCell] using h.size, fun k hk hn => (Below.heap_setCell _ _ _ _ (by simp; omega)).trans (h.block k hk hn)⟩
theorem Mine.alloc {M N : Nat} {a b : World} (h : Mine M N a b) (o : Obj) : Mine M N a (b.alloc o) :=
  ⟨h.os, h.tape, h.output, by have := h.size; simp; omega, fun k hk hn => (Below.heap_alloc _ _ _ (Nat.lt_of_lt_of_le hk h.size)).trans (h.block k hk hn)⟩
theorem mine_below {M N : Nat} {a b : World} (h : Below a.heap.size a b) : Mine M N a b := ⟨h.os, h.tape, h.output, h.size, fun k hk _ => h.block k hk⟩
theorem Mine.below {M N : Nat} {a b : World} (h : Mine M N a b) (hM : M ≤ a.heap.size) : Below M a b := ⟨h.os, h.tape, h.output, h.size, fun k hk => h.block k (by omega) (.inl hk)⟩

/-- What the closure holds: whether a wait is open, and the wait. -/
def See (w : World) (b : Nat) (op : Bool) (d : WD) : Prop :=
  w.cell? ⟨b, 0, none⟩ = some (.bool op) ∧ w.cell? ⟨b + 1, 0, none⟩ = some (.int .i64 d.fr) ∧ w.cell? ⟨b + 1, 1, none⟩ = some (.int .i64 d.tt) ∧ w.cell? ⟨b + 1, 2, none⟩ = some (.bool d.us) ∧
    (∀ j, w.frozen? ⟨b, j, none⟩ = false) ∧ (∀ j, w.frozen? ⟨b + 1, j, none⟩ = false) ∧ b + 1 < w.heap.size
theorem See.blocks {w w' : World} {b : Nat} {op : Bool} {d : WD} (h : See w b op d) (h0 : w'.heap[b]? = w.heap[b]?) (h1 : w'.heap[b + 1]? = w.heap[b + 1]?) (hs : w.heap.size ≤ w'.heap.size) : See w' b op d := by
  obtain ⟨c0, c1, c2, c3, f0, f1, hl⟩ := h
  exact ⟨(World.cell?_of_block (w := w) (a := ⟨b, 0, none⟩) h0).trans c0, (World.cell?_of_block (w := w) (a := ⟨b + 1, 0, none⟩) h1).trans c1, (World.cell?_of_block (w := w) (a := ⟨b + 1, 1, none⟩) h1).trans c2,
    (World.cell?_of_block (w := w) (a := ⟨b + 1, 2, none⟩) h1).trans c3, fun j => (World.frozen?_of_block (w := w) (a := ⟨b, j, none⟩) h0).trans (f0 j), fun j => (World.frozen?_of_block (w := w) (a := ⟨b + 1, j, none⟩) h1).trans (f1 j), Nat.lt_of_lt_of_le hl hs⟩
def wait00 : WD := ⟨0, 0, false⟩
def seeW (k : Int) (red on op : Bool) (d : WD) : WD :=
  if red then (if op then ⟨d.fr, d.tt, d.us || on⟩ else ⟨k, 0, on⟩) else ⟨d.fr, k, d.us⟩
def waitV (d : WD) : Value := .agg #[.int .i64 d.fr, .int .i64 d.tt, .bool d.us]

set_option maxHeartbeats 400000 in
theorem watch_any (w : World) :
    Calls Try.prog 77 #[] w fun e w' => e = .returned (.func (.func 105) #[] #[.pointer (some ⟨w.heap.size, 0, none⟩), .pointer (some ⟨w.heap.size + 1, 0, none⟩)]) ∧
      Below w.heap.size w w' ∧ w'.heap.size = w.heap.size + 2 ∧ See w' w.heap.size false wait00 := by
  go_enter Try.func77, Try.ntmps77
  go_wp2
  go_ret
  refine ⟨rfl, ?_, ?_, ?_⟩
  · exact ((Below.refl _ _).alloc (Nat.le_refl _) _).alloc (by simp) _
  · simp
  · exact ⟨by simp [go_sem, wait00], by simp [go_sem, wait00], by simp [go_sem, wait00], by simp [go_sem, wait00], fun j => by simp [go_sem], fun j => by simp [go_sem], by simp⟩

set_option maxHeartbeats 2000000 in
theorem watch1_any (k : Int) (red on op : Bool) (d : WD) (b : Nat) (w : World) (h : See w b op d) :
    Calls Try.prog 105 #[.int .i64 k, .bool red, .bool on, .pointer (some ⟨b, 0, none⟩), .pointer (some ⟨b + 1, 0, none⟩)] w
      fun e w' => e = .returned (.tuple #[waitV (seeW k red on op d), .bool (!red && op)]) ∧ See w' b red (seeW k red on op d) ∧ Mine b (b + 2) w w' := by
  obtain ⟨fr, tt, us⟩ := d
  obtain ⟨c0, c1, c2, c3, f0, f1, hl⟩ := h
  dsimp only at c1 c2 c3
  have n0 : ¬ b = w.heap.size := by omega
  have n1 : ¬ b + 1 = w.heap.size := by omega
  have n2 : ¬ w.heap.size = b := by omega
  have n3 : ¬ w.heap.size = b + 1 := by omega
  have o0 := old_cell (wc := w) (g := b) (by omega)
  have o1 := old_cell (wc := w) (g := b + 1) hl
  have q0 := old_frozen (wc := w) (g := b) (by omega)
  have q1 := old_frozen (wc := w) (g := b + 1) hl
  cases red
  · go_enter Try.func105, Try.ntmps105
    go_wp2
    exact bodyPost_ret (v := .tuple #[.agg #[.int .i64 fr, .int .i64 k, .bool us], .bool op]) (by simp [results, Try.results105, go_sem, n0, n1, n2, n3]) rfl
      ⟨rfl, ⟨by simp [go_sem, o0, c0], by simp [go_sem, o1, c1, seeW], by simp [go_sem, o1, c2, seeW], by simp [go_sem, o1, c3, seeW], fun j => by simp [go_sem, q0, f0], fun j => by simp [go_sem, q1, f1], by simp [World.setCell]; omega⟩,
        (((((((Mine.refl _ _ w).alloc _).set (Nat.le_refl _) (by omega) _ _).set (by omega) (by omega) _ _).fresh (Nat.le_refl _) _ _).fresh (Nat.le_refl _) _ _).fresh (Nat.le_refl _) _ _)⟩
  · cases op
    · go_enter Try.func105, Try.ntmps105
      go_upto_region 8 with fail
      obtain ⟨x, hx⟩ : ∃ x, x = (((((w.alloc (.cells #[.int .i64 0, .int .i64 0, .bool false] 50)).setCell ⟨b, 0, none⟩ (.bool true)).setCell ⟨b + 1, 0, none⟩ (.int .i64 k)).setCell ⟨b + 1, 1, none⟩ (.int .i64 0)).setCell ⟨b + 1, 2, none⟩ (.bool false)) := ⟨_, rfl⟩
      have x0 : x.cell? ⟨b, 0, none⟩ = some (.bool true) := by rw [hx]; simp [go_sem, o0, o1, c0, c1, c2, c3]
      have x1 : x.cell? ⟨b + 1, 0, none⟩ = some (.int .i64 k) := by rw [hx]; simp [go_sem, o0, o1, c0, c1, c2, c3]
      have x2 : x.cell? ⟨b + 1, 1, none⟩ = some (.int .i64 0) := by rw [hx]; simp [go_sem, o0, o1, c0, c1, c2, c3]
      have x3 : x.cell? ⟨b + 1, 2, none⟩ = some (.bool false) := by rw [hx]; simp [go_sem, o0, o1, c0, c1, c2, c3]
      have x4 : ∀ j, x.frozen? ⟨b, j, none⟩ = false := fun j => by rw [hx]; simp [go_sem, q0, q1, f0, f1]
      have x5 : ∀ j, x.frozen? ⟨b + 1, j, none⟩ = false := fun j => by rw [hx]; simp [go_sem, q0, q1, f0, f1]
      have x6 : x.cell? ⟨w.heap.size, 0, none⟩ = some (.int .i64 0) := by rw [hx]; simp [go_sem, n0, n1, n2, n3]
      have x7 : x.cell? ⟨w.heap.size, 1, none⟩ = some (.int .i64 0) := by rw [hx]; simp [go_sem, n0, n1, n2, n3]
      have x8 : x.cell? ⟨w.heap.size, 2, none⟩ = some (.bool false) := by rw [hx]; simp [go_sem, n0, n1, n2, n3]
      have x9 : ∀ j, x.frozen? ⟨w.heap.size, j, none⟩ = false := fun j => by rw [hx]; simp [go_sem, n0, n1, n2, n3]
      have HX : Hid (Mine b (b + 2) w x) := hid (by rw [hx]; exact ((((((Mine.refl _ _ w).alloc _).set (Nat.le_refl _) (by omega) _ _).set (by omega) (by omega) _ _).set (by omega) (by omega) _ _).set (by omega) (by omega) _ _))
      have HS : Hid (b + 1 < x.heap.size) := hid (Nat.lt_of_lt_of_le hl HX.out.size)
      rw [← hx]
      clear hx o0 o1 q0 q1 c0 c1 c2 c3 f0 f1
      go_wp2
      exact bodyPost_ret (v := .tuple #[.agg #[.int .i64 k, .int .i64 0, .bool on], .bool false]) (by simp [results, Try.results105, go_sem, n0, n1, n2, n3, x0, x1, x2, x3, x4, x5, x6, x7, x8, x9]) rfl
        ⟨by simp [waitV, seeW], ⟨by simp [go_sem, x0], by simp [go_sem, x1, seeW, n3], by simp [go_sem, x2, seeW, n3], by simp [go_sem, x3, seeW, n3], fun j => by simp [go_sem, x4], fun j => by simp [go_sem, x5], by have := HS.out; simp [World.setCell]; omega⟩,
          (((HX.out.set (by omega) (by omega) _ _).fresh (Nat.le_refl _) _ _).fresh (Nat.le_refl _) _ _).fresh (Nat.le_refl _) _ _⟩
    · cases us
      · go_enter Try.func105, Try.ntmps105
        go_upto_region 8 with fail
        obtain ⟨x, hx⟩ : ∃ x, x = w.alloc (.cells #[.int .i64 0, .int .i64 0, .bool false] 50) := ⟨_, rfl⟩
        have x0 : x.cell? ⟨b, 0, none⟩ = some (.bool true) := by rw [hx]; simp [go_sem, o0, o1, c0, c1, c2, c3]
        have x1 : x.cell? ⟨b + 1, 0, none⟩ = some (.int .i64 fr) := by rw [hx]; simp [go_sem, o0, o1, c0, c1, c2, c3]
        have x2 : x.cell? ⟨b + 1, 1, none⟩ = some (.int .i64 tt) := by rw [hx]; simp [go_sem, o0, o1, c0, c1, c2, c3]
        have x3 : x.cell? ⟨b + 1, 2, none⟩ = some (.bool false) := by rw [hx]; simp [go_sem, o0, o1, c0, c1, c2, c3]
        have x4 : ∀ j, x.frozen? ⟨b, j, none⟩ = false := fun j => by rw [hx]; simp [go_sem, q0, q1, f0, f1]
        have x5 : ∀ j, x.frozen? ⟨b + 1, j, none⟩ = false := fun j => by rw [hx]; simp [go_sem, q0, q1, f0, f1]
        have x6 : x.cell? ⟨w.heap.size, 0, none⟩ = some (.int .i64 0) := by rw [hx]; simp [go_sem, n0, n1, n2, n3]
        have x7 : x.cell? ⟨w.heap.size, 1, none⟩ = some (.int .i64 0) := by rw [hx]; simp [go_sem, n0, n1, n2, n3]
        have x8 : x.cell? ⟨w.heap.size, 2, none⟩ = some (.bool false) := by rw [hx]; simp [go_sem, n0, n1, n2, n3]
        have x9 : ∀ j, x.frozen? ⟨w.heap.size, j, none⟩ = false := fun j => by rw [hx]; simp [go_sem, n0, n1, n2, n3]
        have HX : Hid (Mine b (b + 2) w x) := hid (by rw [hx]; exact (Mine.refl _ _ w).alloc _)
        have HS : Hid (b + 1 < x.heap.size) := hid (Nat.lt_of_lt_of_le hl HX.out.size)
        rw [← hx]
        clear hx o0 o1 q0 q1 c0 c1 c2 c3 f0 f1
        go_wp2
        exact bodyPost_ret (v := .tuple #[.agg #[.int .i64 fr, .int .i64 tt, .bool on], .bool false]) (by simp [results, Try.results105, go_sem, n0, n1, n2, n3, x0, x1, x2, x3, x4, x5, x6, x7, x8, x9]) rfl
          ⟨by simp [waitV, seeW], ⟨by simp [go_sem, x0], by simp [go_sem, x1, seeW, n3], by simp [go_sem, x2, seeW, n3], by simp [go_sem, x3, seeW, n3], fun j => by simp [go_sem, x4], fun j => by simp [go_sem, x5], by have := HS.out; simp [World.setCell]; omega⟩,
            (((HX.out.set (by omega) (by omega) _ _).fresh (Nat.le_refl _) _ _).fresh (Nat.le_refl _) _ _).fresh (Nat.le_refl _) _ _⟩
      · go_enter Try.func105, Try.ntmps105
        go_upto_region 8 with fail
        obtain ⟨x, hx⟩ : ∃ x, x = w.alloc (.cells #[.int .i64 0, .int .i64 0, .bool false] 50) := ⟨_, rfl⟩
        have x0 : x.cell? ⟨b, 0, none⟩ = some (.bool true) := by rw [hx]; simp [go_sem, o0, o1, c0, c1, c2, c3]
        have x1 : x.cell? ⟨b + 1, 0, none⟩ = some (.int .i64 fr) := by rw [hx]; simp [go_sem, o0, o1, c0, c1, c2, c3]
        have x2 : x.cell? ⟨b + 1, 1, none⟩ = some (.int .i64 tt) := by rw [hx]; simp [go_sem, o0, o1, c0, c1, c2, c3]
        have x3 : x.cell? ⟨b + 1, 2, none⟩ = some (.bool true) := by rw [hx]; simp [go_sem, o0, o1, c0, c1, c2, c3]
        have x4 : ∀ j, x.frozen? ⟨b, j, none⟩ = false := fun j => by rw [hx]; simp [go_sem, q0, q1, f0, f1]
        have x5 : ∀ j, x.frozen? ⟨b + 1, j, none⟩ = false := fun j => by rw [hx]; simp [go_sem, q0, q1, f0, f1]
        have x6 : x.cell? ⟨w.heap.size, 0, none⟩ = some (.int .i64 0) := by rw [hx]; simp [go_sem, n0, n1, n2, n3]
        have x7 : x.cell? ⟨w.heap.size, 1, none⟩ = some (.int .i64 0) := by rw [hx]; simp [go_sem, n0, n1, n2, n3]
        have x8 : x.cell? ⟨w.heap.size, 2, none⟩ = some (.bool false) := by rw [hx]; simp [go_sem, n0, n1, n2, n3]
        have x9 : ∀ j, x.frozen? ⟨w.heap.size, j, none⟩ = false := fun j => by rw [hx]; simp [go_sem, n0, n1, n2, n3]
        have HX : Hid (Mine b (b + 2) w x) := hid (by rw [hx]; exact (Mine.refl _ _ w).alloc _)
        have HS : Hid (b + 1 < x.heap.size) := hid (Nat.lt_of_lt_of_le hl HX.out.size)
        rw [← hx]
        clear hx o0 o1 q0 q1 c0 c1 c2 c3 f0 f1
        go_wp2
        exact bodyPost_ret (v := .tuple #[.agg #[.int .i64 fr, .int .i64 tt, .bool true], .bool false]) (by simp [results, Try.results105, go_sem, n0, n1, n2, n3, x0, x1, x2, x3, x4, x5, x6, x7, x8, x9]) rfl
          ⟨by simp [waitV, seeW], ⟨by simp [go_sem, x0], by simp [go_sem, x1, seeW, n3], by simp [go_sem, x2, seeW, n3], by simp [go_sem, x3, seeW, n3], fun j => by simp [go_sem, x4], fun j => by simp [go_sem, x5], by have := HS.out; simp [World.setCell]; omega⟩,
            (((HX.out.set (by omega) (by omega) _ _).fresh (Nat.le_refl _) _ _).fresh (Nat.le_refl _) _ _).fresh (Nat.le_refl _) _ _⟩

end Go.Proofs.Ytcidikmbngflcaa
