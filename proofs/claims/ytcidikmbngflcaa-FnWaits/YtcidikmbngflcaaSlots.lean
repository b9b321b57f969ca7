/-
  One block alone has turned; records of waits, acts and the true bars.
-/
import Derived.Test.YtcidikmbngflcaaRuns
import Derived.Test.YtcidikmbngflcaaNewSaid
import Derived.Deep.DeepCutAuto
namespace Go.Proofs.Ytcidikmbngflcaa
open Go.ChangeShapes Go.WideShapes Go.ChangeAt Go.RowKit
set_option maxRecDepth 100000

structure WD where
  fr : Int
  tt : Int
  us : Bool
structure AD where
  x : Bool
  n : Bool
  o : Bool
  k : Bool
  m : Bool
structure UD where
  bar : Int
  s : SD

/-- Block g alone has turned. -/
structure Only (g : Nat) (w w' : World) : Prop where
  os : w'.os = w.os
  tape : w'.tape = w.tape
  output : w'.output = w.output
  size : w'.heap.size = w.heap.size
  block : ∀ k, k ≠ g → w'.heap[k]? = w.heap[k]?
theorem Only.refl (g : Nat) (w : World) : Only g w w := ⟨rfl, rfl, rfl, rfl, fun _ _ => rfl⟩
theorem Only.set {g : Nat} {w w' : World} (h : Only g w w') (j : Nat) (v : Value) : Only g w (w'.setCell ⟨g, j, none⟩ v) :=
  ⟨h.os, h.tape, h.output, by simpa [World.setCell] using h.size, fun k hk => (Below.heap_setCell _ _ _ _ (by simpa using hk)).trans (h.block k hk)⟩
theorem Only.below {g B : Nat} {w w' : World} (h : Only g w w') (hB : B ≤ g) : Below B w w' :=
  ⟨h.os, h.tape, h.output, Nat.le_of_eq h.size.symm, fun k hk => h.block k (by omega)⟩
theorem Only.row {g g' z n : Nat} {w w' : World} {C : Nat → Nat → Value} (h : Only g w w') (hne : g' ≠ g) (hr : Row w g' z n C) : Row w' g' z n C :=
  ⟨fun i j hi hj => (World.cell?_of_block (w := w) (a := ⟨g', i * z + j, none⟩) (h.block g' hne)).trans (hr.cells i j hi hj),
   fun k => (World.frozen?_of_block (w := w) (a := ⟨g', k, none⟩) (h.block g' hne)).trans (hr.free k), by rw [h.size]; exact hr.lt⟩
end Go.Proofs.Ytcidikmbngflcaa
