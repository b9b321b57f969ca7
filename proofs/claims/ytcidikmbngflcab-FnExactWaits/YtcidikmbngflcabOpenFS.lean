/-
  Opening an argument of type []Felt.
-/
import Derived.Test.YtcidikmbngflcabSpecRun
import Derived.Test.YtcidikmbngflcabOpenT
import Derived.Deep.Slices
namespace Go.Proofs.Ytcidikmbngflcab
open Go.ChangeShapes Go.WideShapes Go.ChangeAt Go.RowKit Go.Deep
set_option maxRecDepth 100000

theorem Try.cellsFb : Try.prog.cellsOf 4 = 1 := by kernel_rfl
theorem Try.cellsFl : Try.prog.cellsOf 61 = 5 := by kernel_rfl

theorem list5 {α : Type} {xs : List α} (h : xs.length = 5) : ∃ y0 y1 y2 y3 y4, xs = [y0, y1, y2, y3, y4] := by
  match xs, h with
  | [y0, y1, y2, y3, y4], _ => exact ⟨y0, y1, y2, y3, y4, rfl⟩

/-- The five cells of a Felt, off its reading. -/
theorem felt_cells {H : Type} {enc : TypeId × Value → H} {w : World} {base : Nat} {spare : Nat → Bool} {held : Bool} {n : Nat} {cs : List Value} {x : DataW H × List MemPlace} (hl : cs.length = 5)
    (h : DataW.trod enc Try.prog w base spare held n 61 cs = some x) : ∃ f : FD, cs = [.bool f.x, .bool f.n, .bool f.o, .int .i64 f.b, .bool f.m] := by
  obtain ⟨c0, c1, c2, c3, c4, rfl⟩ := list5 hl
  obtain ⟨xs, m, _, _, _, hx, hall⟩ := DataW.trod_struct Try.underlying61 h
  obtain ⟨y0, y1, y2, y3, y4, rfl⟩ := list5 hx
  have h0 := hall 0 _ rfl
  have h1 := hall 1 _ rfl
  have h2 := hall 2 _ rfl
  have h3 := hall 3 _ rfl
  have h4 := hall 4 _ rfl
  simp [Try.cells3, Try.cellsFb] at h0 h1 h2 h3 h4
  obtain ⟨a, e0, _⟩ := DataW.trod_bool Try.underlying4 h0
  obtain ⟨b, e1, _⟩ := DataW.trod_bool Try.underlying4 h1
  obtain ⟨c, e2, _⟩ := DataW.trod_bool Try.underlying4 h2
  obtain ⟨e, e3, _, _⟩ := DataW.trod_int Try.underlying3 h3
  obtain ⟨m', e4, _⟩ := DataW.trod_bool Try.underlying4 h4
  simp at e0 e1 e2 e3 e4
  subst e0 e1 e2 e3 e4
  exact ⟨⟨a, b, c, e, m'⟩, rfl⟩

theorem open_felts {H : Type} {enc : TypeId × Value → H} {w : World} {base : Nat} {spare : Nat → Bool} {held : Bool} {r : Reach} {b0 : Nat} {v : Value} {d : DataW H} {p : List MemPlace}
    (hv : Value.okWide Try.prog w r b0 24 v) (h : DataW.Trod enc Try.prog w base spare held 24 v d p) :
    ∃ ao len cap, v = .slice ao len cap ∧ len ≤ maxLen ∧ (len = 0 ∨ ∃ (b o : Nat) (F : Nat → FD), ao = some ⟨b, o, none⟩ ∧ b < w.heap.size ∧ ∀ i, i < len → FCell w b o i (F i)) := by
  obtain ⟨a0, len, cap, rfl⟩ := okWide_slice Try.underlying24 hv
  obtain ⟨fuel, hf⟩ := h
  have hf' : DataW.trod enc Try.prog w base spare held fuel 24 [.slice a0 len cap] = some (d, p) := by simpa [Value.cells] using hf
  rcases open_slice Try.underlying24 hf' with ⟨hcs, _⟩ | ⟨a, len', cap', m, n, D, Pl, hcs, _, hl, hm, hmm, _, hel⟩
  · simp at hcs
    obtain ⟨rfl, rfl, rfl⟩ := hcs
    exact ⟨none, 0, 0, rfl, Nat.zero_le _, .inl rfl⟩
  · simp at hcs
    obtain ⟨rfl, rfl, rfl⟩ := hcs
    refine ⟨_, _, _, rfl, Nat.le_trans hl hm, ?_⟩
    by_cases h0 : len = 0
    · exact .inl h0
    right
    have hlm : len ≤ m := by rw [hmm]; split <;> omega
    rw [Try.cellsFl] at hel
    have hone : ∀ i, i < len → ∃ f : FD, ∀ j, j < 5 → w.cell? ((a.add (i * 5)).add j) = [Value.bool f.x, .bool f.n, .bool f.o, .int .i64 f.b, .bool f.m][j]? := fun i hi => by
      obtain ⟨cs', h1, h2⟩ := hel i (by omega)
      obtain ⟨_, hlen5, hcell⟩ := World.cells?_some h1
      obtain ⟨f, hf5⟩ := felt_cells hlen5 h2
      exact ⟨f, fun j hj => by rw [hcell j hj, hf5]⟩
    haveI : Inhabited FD := ⟨felt0⟩
    obtain ⟨F, hF⟩ := choose_lt hone
    obtain ⟨b, o, spot⟩ := a
    have hspot : spot = none := by
      have h00 : w.cell? (((⟨b, o, spot⟩ : Addr).add (0 * 5)).add 0) = some (.bool (F 0).x) := hF 0 (by omega) 0 (by omega)
      simpa [Addr.add] using World.cell?_spot h00
    subst hspot
    have hcell : ∀ i, i < len → FCell w b o i (F i) := fun i hi => by
      have k0 := hF i hi 0 (by omega)
      have k1 := hF i hi 1 (by omega)
      have k2 := hF i hi 2 (by omega)
      have k3 := hF i hi 3 (by omega)
      have k4 := hF i hi 4 (by omega)
      rw [Go.WideShapes.add_plain, Go.WideShapes.add_plain] at k0 k1 k2 k3 k4
      exact ⟨by simpa using k0, by simpa using k1, by simpa using k2, by simpa using k3, by simpa using k4⟩
    exact ⟨b, o, F, rfl, World.block_lt_of_cell? _ _ (hcell 0 (by omega)).1, hcell⟩

end Go.Proofs.Ytcidikmbngflcab
