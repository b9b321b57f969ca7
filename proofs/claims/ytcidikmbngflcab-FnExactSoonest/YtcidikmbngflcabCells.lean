/-
  The cells of a record of a wait, and of the true bars.
-/
import Derived.Test.YtcidikmbngflcabSlots
import Derived.Deep.RegionHeld3
namespace Go.Proofs.Ytcidikmbngflcab
open Go.ChangeShapes Go.WideShapes Go.ChangeAt Go.RowKit
set_option maxRecDepth 100000

def waitCell (d : WD) (j : Nat) : Value :=
  if j = 0 then .int .i64 d.fr else if j = 1 then .int .i64 d.tt else .bool d.us
theorem waitCell_at {w : World} {g n : Nat} {R : Nat → WD} (h : Row w g 3 n (fun i j => waitCell (R i) j)) {i : Nat} (hi : i < n) :
    w.cell? ⟨g, i * 3, none⟩ = some (.int .i64 (R i).fr) ∧ w.cell? ⟨g, i * 3 + 1, none⟩ = some (.int .i64 (R i).tt) ∧ w.cell? ⟨g, i * 3 + 2, none⟩ = some (.bool (R i).us) :=
  ⟨h.cells i 0 hi (by omega), h.cells i 1 hi (by omega), h.cells i 2 hi (by omega)⟩

def trueCell (d : UD) (j : Nat) : Value :=
  if j = 0 then .int .i64 d.bar else if j = 1 then .bool d.s.ok else if j = 2 then .int .i64 d.s.g.s else if j = 3 then .int .i64 d.s.g.i else if j = 4 then .int .i64 d.s.g.u else if j = 5 then .bool d.s.g.f else if j = 6 then .bool d.s.may else if j = 7 then .bool d.s.red else if j = 8 then .bool d.s.down else .bool d.s.long
theorem trueCell_at {w : World} {g n : Nat} {R : Nat → UD} (h : Row w g 10 n (fun i j => trueCell (R i) j)) {i : Nat} (hi : i < n) :
    w.cell? ⟨g, i * 10, none⟩ = some (.int .i64 (R i).bar) ∧ w.cell? ⟨g, i * 10 + 1, none⟩ = some (.bool (R i).s.ok) ∧ w.cell? ⟨g, i * 10 + 2, none⟩ = some (.int .i64 (R i).s.g.s) ∧ w.cell? ⟨g, i * 10 + 3, none⟩ = some (.int .i64 (R i).s.g.i) ∧ w.cell? ⟨g, i * 10 + 4, none⟩ = some (.int .i64 (R i).s.g.u) ∧ w.cell? ⟨g, i * 10 + 5, none⟩ = some (.bool (R i).s.g.f) ∧ w.cell? ⟨g, i * 10 + 6, none⟩ = some (.bool (R i).s.may) ∧ w.cell? ⟨g, i * 10 + 7, none⟩ = some (.bool (R i).s.red) ∧ w.cell? ⟨g, i * 10 + 8, none⟩ = some (.bool (R i).s.down) ∧ w.cell? ⟨g, i * 10 + 9, none⟩ = some (.bool (R i).s.long) :=
  ⟨h.cells i 0 hi (by omega), h.cells i 1 hi (by omega), h.cells i 2 hi (by omega), h.cells i 3 hi (by omega), h.cells i 4 hi (by omega), h.cells i 5 hi (by omega), h.cells i 6 hi (by omega), h.cells i 7 hi (by omega), h.cells i 8 hi (by omega), h.cells i 9 hi (by omega)⟩

end Go.Proofs.Ytcidikmbngflcab
