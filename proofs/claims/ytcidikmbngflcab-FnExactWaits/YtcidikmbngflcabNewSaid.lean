/-
  A Said that a drawn region makes and fills: in whatever order.
-/
import Derived.Test.YtcidikmbngflcabBox
namespace Go.Proofs.Ytcidikmbngflcab
open Go.ChangeShapes Go.WideShapes Go.ChangeAt Go.RowKit
set_option maxRecDepth 100000

theorem held_on {W x w1 : World} {R : Prop} (h : Below W.heap.size W x ∧ R) (hb : Below x.heap.size x w1) : Below W.heap.size W w1 := h.1.trans (hb.mono h.1.size)
theorem held_size {W x w1 : World} {R : Prop} (h : Below W.heap.size W x ∧ R) (hb : Below x.heap.size x w1) : W.heap.size ≤ w1.heap.size := Nat.le_trans h.1.size hb.size
theorem re_alloc {B : Nat} {W x : World} {o : Obj} (h : Below B W (x.alloc o)) (hx : W.heap.size ≤ x.heap.size) (hB : B ≤ x.heap.size) (o' : Obj) : Below B W (x.alloc o') :=
  ⟨h.os, h.tape, h.output, by simp; omega, fun k hk => by rw [Below.heap_alloc _ _ _ (by omega), ← Below.heap_alloc x o _ (by omega)]; exact h.block k hk⟩
/-- A new Said, all zero, behind a contract that has left it alone. -/
theorem zero_here {x w1 : World} (hb : Below (x.alloc (.cells #[.bool false, .int .i64 0, .int .i64 0, .int .i64 0, .bool false, .bool false, .bool false, .bool false, .bool false] 55)).heap.size (x.alloc (.cells #[.bool false, .int .i64 0, .int .i64 0, .int .i64 0, .bool false, .bool false, .bool false, .bool false, .bool false] 55)) w1) : w1.cell? ⟨x.heap.size, 0, none⟩ = some (.bool false) ∧ w1.cell? ⟨x.heap.size, 1, none⟩ = some (.int .i64 0) ∧ w1.cell? ⟨x.heap.size, 2, none⟩ = some (.int .i64 0) ∧ w1.cell? ⟨x.heap.size, 3, none⟩ = some (.int .i64 0) ∧ w1.cell? ⟨x.heap.size, 4, none⟩ = some (.bool false) ∧ w1.cell? ⟨x.heap.size, 5, none⟩ = some (.bool false) ∧ w1.cell? ⟨x.heap.size, 6, none⟩ = some (.bool false) ∧ w1.cell? ⟨x.heap.size, 7, none⟩ = some (.bool false) ∧ w1.cell? ⟨x.heap.size, 8, none⟩ = some (.bool false) ∧ (∀ j, w1.frozen? ⟨x.heap.size, j, none⟩ = false) ∧ x.heap.size < w1.heap.size := by
  refine ⟨?_, ?_, ?_, ?_, ?_, ?_, ?_, ?_, ?_, fun j => ?_, ?_⟩
  case refine_11 => have := hb.size; simp at this; omega
  case refine_10 => rw [hb.frozen (p := ⟨x.heap.size, j, none⟩) (by simp)]; simp [go_sem]
  all_goals (rw [hb.cell (by simp)]; simp [go_sem])
theorem zero_drew {x w1 : World} (hb : Below (x.alloc (.cells #[.bool false, .int .i64 0, .int .i64 0, .int .i64 0, .bool false, .bool false, .bool false, .bool false, .bool false] 55)).drew.heap.size (x.alloc (.cells #[.bool false, .int .i64 0, .int .i64 0, .int .i64 0, .bool false, .bool false, .bool false, .bool false, .bool false] 55)).drew w1) : w1.cell? ⟨x.heap.size, 0, none⟩ = some (.bool false) ∧ w1.cell? ⟨x.heap.size, 1, none⟩ = some (.int .i64 0) ∧ w1.cell? ⟨x.heap.size, 2, none⟩ = some (.int .i64 0) ∧ w1.cell? ⟨x.heap.size, 3, none⟩ = some (.int .i64 0) ∧ w1.cell? ⟨x.heap.size, 4, none⟩ = some (.bool false) ∧ w1.cell? ⟨x.heap.size, 5, none⟩ = some (.bool false) ∧ w1.cell? ⟨x.heap.size, 6, none⟩ = some (.bool false) ∧ w1.cell? ⟨x.heap.size, 7, none⟩ = some (.bool false) ∧ w1.cell? ⟨x.heap.size, 8, none⟩ = some (.bool false) ∧ (∀ j, w1.frozen? ⟨x.heap.size, j, none⟩ = false) ∧ x.heap.size < w1.heap.size := by
  refine ⟨?_, ?_, ?_, ?_, ?_, ?_, ?_, ?_, ?_, fun j => ?_, ?_⟩
  case refine_11 => have := hb.size; simp at this; omega
  case refine_10 => rw [hb.frozen (p := ⟨x.heap.size, j, none⟩) (by simp)]; simp [go_sem]
  all_goals (rw [hb.cell (by simp)]; simp [go_sem])
theorem zero_carry {x w1 : World} {g : Nat} (h : x.cell? ⟨g, 0, none⟩ = some (.bool false) ∧ x.cell? ⟨g, 1, none⟩ = some (.int .i64 0) ∧ x.cell? ⟨g, 2, none⟩ = some (.int .i64 0) ∧ x.cell? ⟨g, 3, none⟩ = some (.int .i64 0) ∧ x.cell? ⟨g, 4, none⟩ = some (.bool false) ∧ x.cell? ⟨g, 5, none⟩ = some (.bool false) ∧ x.cell? ⟨g, 6, none⟩ = some (.bool false) ∧ x.cell? ⟨g, 7, none⟩ = some (.bool false) ∧ x.cell? ⟨g, 8, none⟩ = some (.bool false) ∧ (∀ j, x.frozen? ⟨g, j, none⟩ = false) ∧ g < x.heap.size) (hb : Below x.heap.size x w1) : w1.cell? ⟨g, 0, none⟩ = some (.bool false) ∧ w1.cell? ⟨g, 1, none⟩ = some (.int .i64 0) ∧ w1.cell? ⟨g, 2, none⟩ = some (.int .i64 0) ∧ w1.cell? ⟨g, 3, none⟩ = some (.int .i64 0) ∧ w1.cell? ⟨g, 4, none⟩ = some (.bool false) ∧ w1.cell? ⟨g, 5, none⟩ = some (.bool false) ∧ w1.cell? ⟨g, 6, none⟩ = some (.bool false) ∧ w1.cell? ⟨g, 7, none⟩ = some (.bool false) ∧ w1.cell? ⟨g, 8, none⟩ = some (.bool false) ∧ (∀ j, w1.frozen? ⟨g, j, none⟩ = false) ∧ g < w1.heap.size := by
  obtain ⟨h0, h1, h2, h3, h4, h5, h6, h7, h8, hz, hg⟩ := h
  exact ⟨(hb.cell hg).trans h0, (hb.cell hg).trans h1, (hb.cell hg).trans h2, (hb.cell hg).trans h3, (hb.cell hg).trans h4, (hb.cell hg).trans h5, (hb.cell hg).trans h6, (hb.cell hg).trans h7, (hb.cell hg).trans h8, fun j => (hb.frozen (p := ⟨g, j, none⟩) hg).trans (hz j), Nat.lt_of_lt_of_le hg hb.size⟩

/-- A Said that was made and filled behind W, and where it lies. -/
def Out9 (W : World) (p0 : Bool) (p1 p2 p3 : Int) (p4 p5 p6 p7 p8 : Bool) (v : Value) (wd : World) : Prop :=
  ∃ g, v = .pointer (some ⟨g, 0, none⟩) ∧ W.heap.size ≤ g ∧ g < wd.heap.size ∧ Below W.heap.size W wd ∧ wd.cell? ⟨g, 0, none⟩ = some (.bool p0) ∧ wd.cell? ⟨g, 1, none⟩ = some (.int .i64 p1) ∧ wd.cell? ⟨g, 2, none⟩ = some (.int .i64 p2) ∧ wd.cell? ⟨g, 3, none⟩ = some (.int .i64 p3) ∧ wd.cell? ⟨g, 4, none⟩ = some (.bool p4) ∧ wd.cell? ⟨g, 5, none⟩ = some (.bool p5) ∧ wd.cell? ⟨g, 6, none⟩ = some (.bool p6) ∧ wd.cell? ⟨g, 7, none⟩ = some (.bool p7) ∧ wd.cell? ⟨g, 8, none⟩ = some (.bool p8)
theorem met_new {W x : World} {R : Prop} {p0 : Bool} {p1 p2 p3 : Int} {p4 p5 p6 p7 p8 : Bool} (h : Below W.heap.size W (x.alloc (.cells #[.bool p0, .int .i64 p1, .int .i64 p2, .int .i64 p3, .bool p4, .bool p5, .bool p6, .bool p7, .bool p8] 55)) ∧ R) (hs : W.heap.size ≤ x.heap.size) :
    Out9 W p0 p1 p2 p3 p4 p5 p6 p7 p8 (.pointer (some ⟨x.heap.size, 0, none⟩)) (x.alloc (.cells #[.bool p0, .int .i64 p1, .int .i64 p2, .int .i64 p3, .bool p4, .bool p5, .bool p6, .bool p7, .bool p8] 55)) := by
  refine ⟨x.heap.size, rfl, hs, by simp, h.1, ?_, ?_, ?_, ?_, ?_, ?_, ?_, ?_, ?_⟩
  all_goals simp [go_sem]
theorem met_old {W w1 : World} {g : Nat} {R : Prop} {p0 : Bool} {p1 p2 p3 : Int} {p4 p5 p6 p7 p8 : Bool} (h : Below W.heap.size W (((((((((w1.setCell ⟨g, 0, none⟩ (.bool p0)).setCell ⟨g, 1, none⟩ (.int .i64 p1)).setCell ⟨g, 2, none⟩ (.int .i64 p2)).setCell ⟨g, 3, none⟩ (.int .i64 p3)).setCell ⟨g, 4, none⟩ (.bool p4)).setCell ⟨g, 5, none⟩ (.bool p5)).setCell ⟨g, 6, none⟩ (.bool p6)).setCell ⟨g, 7, none⟩ (.bool p7)).setCell ⟨g, 8, none⟩ (.bool p8)) ∧ R) (hs : W.heap.size ≤ g)
    (z : w1.cell? ⟨g, 0, none⟩ = some (.bool false) ∧ w1.cell? ⟨g, 1, none⟩ = some (.int .i64 0) ∧ w1.cell? ⟨g, 2, none⟩ = some (.int .i64 0) ∧ w1.cell? ⟨g, 3, none⟩ = some (.int .i64 0) ∧ w1.cell? ⟨g, 4, none⟩ = some (.bool false) ∧ w1.cell? ⟨g, 5, none⟩ = some (.bool false) ∧ w1.cell? ⟨g, 6, none⟩ = some (.bool false) ∧ w1.cell? ⟨g, 7, none⟩ = some (.bool false) ∧ w1.cell? ⟨g, 8, none⟩ = some (.bool false) ∧ (∀ j, w1.frozen? ⟨g, j, none⟩ = false) ∧ g < w1.heap.size) : Out9 W p0 p1 p2 p3 p4 p5 p6 p7 p8 (.pointer (some ⟨g, 0, none⟩)) (((((((((w1.setCell ⟨g, 0, none⟩ (.bool p0)).setCell ⟨g, 1, none⟩ (.int .i64 p1)).setCell ⟨g, 2, none⟩ (.int .i64 p2)).setCell ⟨g, 3, none⟩ (.int .i64 p3)).setCell ⟨g, 4, none⟩ (.bool p4)).setCell ⟨g, 5, none⟩ (.bool p5)).setCell ⟨g, 6, none⟩ (.bool p6)).setCell ⟨g, 7, none⟩ (.bool p7)).setCell ⟨g, 8, none⟩ (.bool p8)) := by
  obtain ⟨h0, h1, h2, h3, h4, h5, h6, h7, h8, _, hg⟩ := z
  refine ⟨g, rfl, hs, by simpa [World.setCell] using hg, h.1, ?_, ?_, ?_, ?_, ?_, ?_, ?_, ?_, ?_⟩
  all_goals simp [go_sem, h0, h1, h2, h3, h4, h5, h6, h7, h8]

end Go.Proofs.Ytcidikmbngflcab
