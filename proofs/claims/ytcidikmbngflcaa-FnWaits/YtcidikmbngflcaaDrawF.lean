/-
  What is drawn: a record of what is felt.
-/
import Derived.Test.YtcidikmbngflcaaDraws
namespace Go.Proofs.Ytcidikmbngflcaa
open Go.ChangeShapes Go.WideShapes Go.ChangeAt Go.RowKit
set_option maxRecDepth 100000
set_option linter.unusedSimpArgs false

/-- The five cells of one record of what is felt, and that they may be written. -/
def GF (w : World) (g : Nat) (f : FD) : Prop :=
  w.cell? ⟨g, 0, none⟩ = some (.bool f.x) ∧ w.cell? ⟨g, 1, none⟩ = some (.bool f.n) ∧ w.cell? ⟨g, 2, none⟩ = some (.bool f.o) ∧ w.cell? ⟨g, 3, none⟩ = some (.int .i64 f.b) ∧ w.cell? ⟨g, 4, none⟩ = some (.bool f.m) ∧ ∀ j, w.frozen? ⟨g, j, none⟩ = false
theorem gf_mod {C g : Nat} {w w' : World} {f : FD} (h : GF w g f) (hm : Mod C w w') (hne : g ≠ C) : GF w' g f :=
  have l : g < w.heap.size := World.block_lt_of_cell? _ _ h.1
  ⟨(hm.cell l hne 0).trans h.1, (hm.cell l hne 1).trans h.2.1, (hm.cell l hne 2).trans h.2.2.1, (hm.cell l hne 3).trans h.2.2.2.1, (hm.cell l hne 4).trans h.2.2.2.2.1, fun j => (hm.frozen l hne j).trans (h.2.2.2.2.2 j)⟩
theorem mod_set5 {C g : Nat} {w W : World} (h : Mod C w W) (hg : w.heap.size ≤ g) (v0 v1 v2 v3 v4 : Value) :
    Mod C w (((((W.setCell ⟨g, 0, none⟩ v0).setCell ⟨g, 1, none⟩ v1).setCell ⟨g, 2, none⟩ v2).setCell ⟨g, 3, none⟩ v3).setCell ⟨g, 4, none⟩ v4) := by
  have h4 := mod_set4 h hg v0 v1 v2 v3
  exact ⟨h4.os, h4.tape, h4.output, by simpa [World.setCell] using h4.size, fun k hk hne => (Below.heap_setCell _ _ _ _ (by simp; omega)).trans (h4.block k hk hne)⟩
theorem mod_set1 {C g j : Nat} {w W : World} (h : Mod C w W) (hg : w.heap.size ≤ g) (v : Value) : Mod C w (W.setCell ⟨g, j, none⟩ v) :=
  ⟨h.os, h.tape, h.output, by simpa [World.setCell] using h.size, fun k hk hne => (Below.heap_setCell _ _ _ _ (by simp; omega)).trans (h.block k hk hne)⟩
theorem below_set5 {M g : Nat} {w W : World} (h : Below M w W) (hg : M ≤ g) (v0 v1 v2 v3 v4 : Value) :
    Below M w (((((W.setCell ⟨g, 0, none⟩ v0).setCell ⟨g, 1, none⟩ v1).setCell ⟨g, 2, none⟩ v2).setCell ⟨g, 3, none⟩ v3).setCell ⟨g, 4, none⟩ v4) :=
  (below_set4 h hg v0 v1 v2 v3).setCell hg v4

set_option maxHeartbeats 2000000 in
theorem feltE (C len cap : Nat) (ao : Option Addr) (B : Nat → Int) (K : Nat) (w : World) (hK : K ≤ 800000000) (h : DrawE w C ao len cap B K) :
    Calls Try.prog 75 #[.pointer (some ⟨C, 0, none⟩)] w fun e w' => ∃ f : FD, e = .returned f.v ∧ DrawE w' C ao len cap B (K + 14) ∧ Mod C w w' := by
  have HC : Hid (C < w.heap.size) := h.lt
  have HD : Hid (DrawE w C ao len cap B K) := h
  clear h
  go_enter Try.func75, Try.ntmps75
  obtain ⟨W, hW⟩ : ∃ W, W = w.alloc (.cells #[.bool false, .bool false, .bool false, .int .i64 0, .bool false] 62) := ⟨_, rfl⟩
  have HWB : Hid (Below w.heap.size w W) := hid (by rw [hW]; exact (Below.refl _ _).alloc (Nat.le_refl _) _)
  have HW : Hid (Mod C w W) := hid (.of_below HWB.out)
  have HDW : Hid (DrawE W C ao len cap B K) := hid (HD.out.below HWB.out HC.out)
  have HZ : Hid (w.heap.size < W.heap.size) := hid (by rw [hW]; simp)
  have HR : Hid (GF W w.heap.size felt0) := hid (by rw [hW]; exact ⟨by simp [go_sem, felt0], by simp [go_sem, felt0], by simp [go_sem, felt0], by simp [go_sem, felt0], by simp [go_sem, felt0], fun j => by simp [go_sem]⟩)
  go_wp2_with fail
  rw [← hW]
  clear hW
  refine (pickE C len cap ao B K 2 _ (by omega) (by omega) (by omega) HDW.out).mono ?_
  rintro e w1 ⟨v1, rfl, _, hd1, hm1⟩
  have HD1 : Hid (DrawE w1 C ao len cap B (K + 2)) := hd1
  have HM1 : Hid (Mod C W w1) := hm1
  clear hd1 hm1
  go_wp2_with fail
  refine (pickE C len cap ao B (K + 2) 4 _ (by omega) (by omega) (by omega) HD1.out).mono ?_
  rintro e w2 ⟨v2, rfl, _, hd2, hm2⟩
  have HD2 : Hid (DrawE w2 C ao len cap B (K + 4)) := hd2
  have HM2 : Hid (Mod C W w2) := hid (HM1.out.trans hm2)
  clear hd2 hm2
  go_wp2_with fail
  refine (pickE C len cap ao B (K + 4) 5 _ (by omega) (by omega) (by omega) HD2.out).mono ?_
  rintro e w3 ⟨v3, rfl, _, hd3, hm3⟩
  have HD3 : Hid (DrawE w3 C ao len cap B (K + 6)) := hd3
  have HM3 : Hid (Mod C W w3) := hid (HM2.out.trans hm3)
  clear hd3 hm3
  go_wp2_with fail
  refine (pickE C len cap ao B (K + 6) 3 _ (by omega) (by omega) (by omega) HD3.out).mono ?_
  rintro e w4 ⟨v4, rfl, _, hd4, hm4⟩
  have HD4 : Hid (DrawE w4 C ao len cap B (K + 8)) := hd4
  have HM4 : Hid (Mod C W w4) := hid (HM3.out.trans hm4)
  clear hd4 hm4
  go_wp2_with fail
  refine (pickE C len cap ao B (K + 8) 7 _ (by omega) (by omega) (by omega) HD4.out).mono ?_
  rintro e w5 ⟨v5, rfl, _, hd5, hm5⟩
  have HD5 : Hid (DrawE w5 C ao len cap B (K + 10)) := hd5
  have HM5 : Hid (Mod C W w5) := hid (HM4.out.trans hm5)
  clear hd5 hm5
  obtain ⟨f, hf⟩ : ∃ f : FD, f = ⟨v1 == 0, v2 == 0, v3 == 0, v4, v5 == 0⟩ := ⟨_, rfl⟩
  have fx : (v1 == 0) = f.x := by rw [hf]
  have fn : (v2 == 0) = f.n := by rw [hf]
  have fo : (v3 == 0) = f.o := by rw [hf]
  have fm : (v5 == 0) = f.m := by rw [hf]
  have fb : v4 = f.b := by rw [hf]
  clear hf
  subst fb
  obtain ⟨W6, hW6⟩ : ∃ W6, W6 = w5.alloc (.cells #[.bool f.x, .bool f.n, .bool f.o, .int .i64 f.b, .bool f.m] 62) := ⟨_, rfl⟩
  have HB6 : Hid (Below w5.heap.size w5 W6) := hid (by rw [hW6]; exact (Below.refl _ _).alloc (Nat.le_refl _) _)
  have HV6 : Hid (GF W6 w5.heap.size f) := hid (by rw [hW6]; exact ⟨by simp [go_sem], by simp [go_sem], by simp [go_sem], by simp [go_sem], by simp [go_sem], fun j => by simp [go_sem]⟩)
  have HM6 : Hid (Mod C W W6) := hid (HM5.out.trans (.of_below HB6.out))
  go_wp2_with fail
  rw [← hW6]
  clear hW6
  refine (pickE C len cap ao B (K + 10) 30 _ (by omega) (by omega) (by omega) (HD5.out.below HB6.out HD5.out.lt)).mono ?_
  rintro e w7 ⟨v7, rfl, _, hd7, hm7⟩
  have HD7 : Hid (DrawE w7 C ao len cap B (K + 12)) := hd7
  have HM7 : Hid (Mod C W w7) := hid (HM6.out.trans hm7)
  have HV7 : Hid (GF w7 w5.heap.size f) := hid (gf_mod HV6.out hm7 (by have := HD5.out.lt; omega))
  have HR7 : Hid (GF w7 w.heap.size felt0) := hid (gf_mod HR.out HM7.out (by have := HC.out; omega))
  have HLT : Hid (w.heap.size < w5.heap.size) := hid (Nat.lt_of_lt_of_le HZ.out HM5.out.size)
  clear hd7 hm7 fx fn fo fm
  by_cases hv : v7 = 0
  · have hvb : (v7 == 0) = true := by simp [hv]
    clear hv
    obtain ⟨W8, hW8⟩ : ∃ W8, W8 = w7.alloc (.cells #[.int .i64 (-1), .int .i64 3] 3) := ⟨_, rfl⟩
    have HB8 : Hid (Below w7.heap.size w7 W8) := hid (by rw [hW8]; exact (Below.refl _ _).alloc (Nat.le_refl _) _)
    have HS8 : Hid (W8.cell? ⟨w7.heap.size, 0, none⟩ = some (.int .i64 (-1)) ∧ W8.cell? ⟨w7.heap.size, 1, none⟩ = some (.int .i64 3)) := hid (by rw [hW8]; exact ⟨by simp [go_sem], by simp [go_sem]⟩)
    have HZ8 : Hid (w7.heap.size < W8.heap.size) := hid (by rw [hW8]; simp)
    go_wp2_with fail
    rw [← hW8]
    clear hW8
    refine (pickE C len cap ao B (K + 12) 2 _ (by omega) (by omega) (by omega) (HD7.out.below HB8.out HD7.out.lt)).mono ?_
    rintro e w9 ⟨v9, rfl, ⟨b0, b1⟩, hd9, hm9⟩
    have HD9 : Hid (DrawE w9 C ao len cap B (K + 14)) := hd9
    have HM89 : Hid (Mod C w7 w9) := hid ((Mod.of_below HB8.out).trans hm9)
    have HM9 : Hid (Mod C W w9) := hid (HM7.out.trans HM89.out)
    have s0 := (hm9.cell HZ8.out (by have := HD7.out.lt; omega) 0).trans HS8.out.1
    have s1 := (hm9.cell HZ8.out (by have := HD7.out.lt; omega) 1).trans HS8.out.2
    have HV9 : Hid (GF w9 w5.heap.size f) := hid (gf_mod HV7.out HM89.out (by have := HD5.out.lt; omega))
    have HR9 : Hid (GF w9 w.heap.size felt0) := hid (gf_mod HR7.out HM89.out (by have := HC.out; omega))
    clear hd9 hm9
    obtain ⟨p0, p1, p2, p3, p4, pz⟩ := HV9.out
    obtain ⟨r0, r1, r2, r3, r4, rz⟩ := HR9.out
    have n1 : ¬ w.heap.size = w5.heap.size := by have := HLT.out; omega
    have n2 : ¬ w5.heap.size = w.heap.size := by have := HLT.out; omega
    rcases (show v9 = 0 ∨ v9 = 1 by omega) with rfl | rfl
    · go_wp2
      exact bodyPost_ret (v := .agg #[.bool f.x, .bool f.n, .bool f.o, .int .i64 (-1), .bool f.m]) (by simp [results, Try.results75, go_sem, r0, r1, r2, r3, r4, n1, n2]) rfl
        ⟨⟨f.x, f.n, f.o, -1, f.m⟩, rfl, HD9.out.below (below_set5 ((Below.refl w.heap.size w9).setCell (p := ⟨w5.heap.size, 3, none⟩) (by have := HLT.out; show w.heap.size ≤ w5.heap.size; omega) _) (Nat.le_refl _) _ _ _ _ _) HC.out, mod_set5 (mod_set1 (HW.out.trans HM9.out) (by have := HLT.out; omega) _) (Nat.le_refl _) _ _ _ _ _⟩
    · go_wp2
      exact bodyPost_ret (v := .agg #[.bool f.x, .bool f.n, .bool f.o, .int .i64 3, .bool f.m]) (by simp [results, Try.results75, go_sem, r0, r1, r2, r3, r4, n1, n2]) rfl
        ⟨⟨f.x, f.n, f.o, 3, f.m⟩, rfl, HD9.out.below (below_set5 ((Below.refl w.heap.size w9).setCell (p := ⟨w5.heap.size, 3, none⟩) (by have := HLT.out; show w.heap.size ≤ w5.heap.size; omega) _) (Nat.le_refl _) _ _ _ _ _) HC.out, mod_set5 (mod_set1 (HW.out.trans HM9.out) (by have := HLT.out; omega) _) (Nat.le_refl _) _ _ _ _ _⟩
  · have hvb : (v7 == 0) = false := by simp [hv]
    clear hv
    obtain ⟨p0, p1, p2, p3, p4, pz⟩ := HV7.out
    obtain ⟨r0, r1, r2, r3, r4, rz⟩ := HR7.out
    go_wp2
    exact bodyPost_ret (v := .agg #[.bool f.x, .bool f.n, .bool f.o, .int .i64 f.b, .bool f.m]) (by simp [results, Try.results75, go_sem, r0, r1, r2, r3, r4]) rfl
      ⟨f, rfl, (DrawE.more HD7.out (by omega)).below (below_set5 (Below.refl w.heap.size w7) (Nat.le_refl _) _ _ _ _ _) HC.out, mod_set5 (HW.out.trans HM7.out) (Nat.le_refl _) _ _ _ _ _⟩

end Go.Proofs.Ytcidikmbngflcaa
