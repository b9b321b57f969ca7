/-
  Opening an argument of type []byte.
-/
import Derived.Test.YtcidikmbngflcaaOpenT
import Derived.Deep.Slices
import Derived.OpenShut
namespace Go.Proofs.Ytcidikmbngflcaa
open Go.ChangeShapes Go.WideShapes Go.ChangeAt Go.RowKit Go.Deep
set_option maxRecDepth 100000

theorem Try.cellsU8 : Try.prog.cellsOf 5 = 1 := by kernel_rfl

theorem open_bytes {H : Type} {enc : TypeId × Value → H} {w : World} {base : Nat} {spare : Nat → Bool} {held : Bool} {r : Reach} {b0 : Nat} {v : Value} {d : DataW H} {p : List MemPlace}
    (hv : Value.okWide Try.prog w r b0 22 v) (h : DataW.Trod enc Try.prog w base spare held 22 v d p) :
    ∃ (ao : Option Addr) (len cap : Nat) (B : Nat → Int), v = .slice ao len cap ∧ len ≤ maxLen ∧ (∀ i : Nat, 0 ≤ B i ∧ B i ≤ 255) ∧ (len = 0 ∨ ∃ (b o : Nat), ao = some ⟨b, o, none⟩ ∧ b < w.heap.size ∧ ∀ i, i < len → w.cell? ⟨b, o + i, none⟩ = some (.int .u8 (B i))) := by
  obtain ⟨a0, len, cap, rfl⟩ := okWide_slice Try.underlying22 hv
  obtain ⟨fuel, hf⟩ := h
  have hf' : DataW.trod enc Try.prog w base spare held fuel 22 [.slice a0 len cap] = some (d, p) := by simpa [Value.cells] using hf
  rcases open_ints Try.underlying22 Try.underlying5 Try.cellsU8 hf' with ⟨hcs, _⟩ | ⟨a, len', cap', zs, hcs, _, hl, hm, hz, _, hcell, hwf⟩
  · simp at hcs
    obtain ⟨rfl, rfl, rfl⟩ := hcs
    exact ⟨none, 0, 0, fun _ => 0, rfl, Nat.zero_le _, fun _ => ⟨by simp, by simp⟩, .inl rfl⟩
  · simp at hcs
    obtain ⟨rfl, rfl, rfl⟩ := hcs
    refine ⟨_, _, _, fun i => zs.getD i 0, rfl, Nat.le_trans hl hm, fun i => ?_, ?_⟩
    · by_cases hi : i < zs.length
      · have := hwf (zs.getD i 0) (by simp [List.getD, hi])
        have h2 : 0 ≤ zs.getD i 0 ∧ zs.getD i 0 ≤ 255 := bounds_u8 this
        exact h2
      · have : zs.getD i 0 = 0 := by simp [List.getD, Nat.le_of_not_lt hi]
        show 0 ≤ zs.getD i 0 ∧ zs.getD i 0 ≤ 255
        rw [this]; omega
    · by_cases h0 : len = 0
      · exact .inl h0
      right
      have hlm : len ≤ zs.length := by rw [hz]; split <;> omega
      obtain ⟨b, o, spot⟩ := a
      have hspot : spot = none := by
        have h00 := hcell 0 (by omega)
        simpa [Addr.add] using World.cell?_spot h00
      subst hspot
      have hc : ∀ i, i < len → w.cell? ⟨b, o + i, none⟩ = some (.int .u8 (zs.getD i 0)) := fun i hi => by
        have := hcell i (by omega)
        rw [Go.WideShapes.add_plain] at this
        exact this
      exact ⟨b, o, rfl, World.block_lt_of_cell? _ _ (hc 0 (by omega)), hc⟩

end Go.Proofs.Ytcidikmbngflcaa
