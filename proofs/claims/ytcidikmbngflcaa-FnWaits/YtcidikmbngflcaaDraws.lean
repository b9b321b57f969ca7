/-
  What is drawn: some times, some records: which, the laws do not ask.
-/
import Derived.Test.YtcidikmbngflcaaCur
import Derived.Test.YtcidikmbngflcaaSpecRun
namespace Go.Proofs.Ytcidikmbngflcaa
open Go.ChangeShapes Go.WideShapes Go.ChangeAt Go.RowKit
set_option maxRecDepth 100000
set_option linter.unusedSimpArgs false

/-- Old blocks but C stand. -/
structure Mod (C : Nat) (w w' : World) : Prop where
  os : w'.os = w.os
  tape : w'.tape = w.tape
  output : w'.output = w.output
  size : w.heap.size ≤ w'.heap.size
  block : ∀ k, k < w.heap.size → k ≠ C → w'.heap[k]? = w.heap[k]?
theorem Mod.refl (C : Nat) (w : World) : Mod C w w := ⟨rfl, rfl, rfl, Nat.le_refl _, fun _ _ _ => rfl⟩
theorem Mod.trans {C : Nat} {a b c : World} (h : Mod C a b) (k : Mod C b c) : Mod C a c :=
  ⟨k.os.trans h.os, k.tape.trans h.tape, k.output.trans h.output, Nat.le_trans h.size k.size, fun i hi hne => (k.block i (Nat.lt_of_lt_of_le hi h.size) hne).trans (h.block i hi hne)⟩
theorem Mod.of_only {C : Nat} {a b : World} (h : Only C a b) : Mod C a b := ⟨h.os, h.tape, h.output, Nat.le_of_eq h.size.symm, fun k _ hne => h.block k hne⟩
theorem Mod.of_below {C : Nat} {a b : World} (h : Below a.heap.size a b) : Mod C a b := ⟨h.os, h.tape, h.output, h.size, fun k hk _ => h.block k hk⟩
theorem Mod.cell {C : Nat} {w w' : World} (h : Mod C w w') {g : Nat} (hg : g < w.heap.size) (hne : g ≠ C) (j : Nat) : w'.cell? ⟨g, j, none⟩ = w.cell? ⟨g, j, none⟩ :=
  World.cell?_of_block (w := w) (a := ⟨g, j, none⟩) (h.block g hg hne)
theorem Mod.frozen {C : Nat} {w w' : World} (h : Mod C w w') {g : Nat} (hg : g < w.heap.size) (hne : g ≠ C) (j : Nat) : w'.frozen? ⟨g, j, none⟩ = w.frozen? ⟨g, j, none⟩ :=
  World.frozen?_of_block (w := w) (a := ⟨g, j, none⟩) (h.block g hg hne)
theorem Mod.below {C : Nat} {w w' : World} (h : Mod C w w') {B : Nat} (hB : B ≤ C) (hs : B ≤ w.heap.size) : Below B w w' :=
  ⟨h.os, h.tape, h.output, h.size, fun k hk => h.block k (by omega) (by omega)⟩

/-- The cursor stands somewhere. -/
def DrawE (w : World) (C : Nat) (ao : Option Addr) (len cap : Nat) (B : Nat → Int) (K : Nat) : Prop := ∃ c : CS, c.k ≤ K ∧ Draw w C ao len cap B c.k c.s
theorem DrawE.lt {w : World} {C : Nat} {ao : Option Addr} {len cap : Nat} {B : Nat → Int} {K : Nat} (h : DrawE w C ao len cap B K) : C < w.heap.size := by
  obtain ⟨c, _, hd⟩ := h; exact World.block_lt_of_cell? _ _ hd.cur.1
theorem DrawE.below {w w' : World} {C : Nat} {ao : Option Addr} {len cap : Nat} {B : Nat → Int} {K : Nat} (h : DrawE w C ao len cap B K) {M : Nat} (hb : Below M w w') (hM : C < M) : DrawE w' C ao len cap B K := by
  obtain ⟨c, hk, hd⟩ := h
  obtain ⟨c0, c1, c2, cz, s0, s1⟩ := hd.cur
  refine ⟨c, hk, ⟨(hb.cell (p := ⟨C, 0, none⟩) hM).trans c0, (hb.cell (p := ⟨C, 1, none⟩) hM).trans c1, (hb.cell (p := ⟨C, 2, none⟩) hM).trans c2, fun j => (hb.frozen (p := ⟨C, j, none⟩) hM).trans (cz j), s0, s1⟩, ?_, hd.rng, hd.short⟩
  rcases hd.bytes with e | ⟨b, o, e, hne, hx⟩
  · exact .inl e
  · exact .inr ⟨b, o, e, hne, fun i hi => (hb.cell (p := ⟨b, o + i, none⟩) (by show b < M; omega)).trans (hx i hi)⟩
theorem mod_set4 {C g : Nat} {w W : World} (h : Mod C w W) (hg : w.heap.size ≤ g) (v0 v1 v2 v3 : Value) :
    Mod C w ((((W.setCell ⟨g, 0, none⟩ v0).setCell ⟨g, 1, none⟩ v1).setCell ⟨g, 2, none⟩ v2).setCell ⟨g, 3, none⟩ v3) := by
  refine ⟨h.os, h.tape, h.output, by simpa [World.setCell] using h.size, fun k hk hne => ?_⟩
  rw [Below.heap_setCell _ _ _ _ (by simp; omega), Below.heap_setCell _ _ _ _ (by simp; omega), Below.heap_setCell _ _ _ _ (by simp; omega), Below.heap_setCell _ _ _ _ (by simp; omega)]
  exact h.block k hk hne
theorem below_set4 {M g : Nat} {w W : World} (h : Below M w W) (hg : M ≤ g) (v0 v1 v2 v3 : Value) :
    Below M w ((((W.setCell ⟨g, 0, none⟩ v0).setCell ⟨g, 1, none⟩ v1).setCell ⟨g, 2, none⟩ v2).setCell ⟨g, 3, none⟩ v3) :=
  (((h.setCell hg v0).setCell hg v1).setCell hg v2).setCell hg v3

theorem DrawE.more {w : World} {C : Nat} {ao : Option Addr} {len cap : Nat} {B : Nat → Int} {K K2 : Nat} (h : DrawE w C ao len cap B K) (hk : K ≤ K2) : DrawE w C ao len cap B K2 := by
  obtain ⟨c, h1, h2⟩ := h; exact ⟨c, by omega, h2⟩

theorem pickE (C len cap : Nat) (ao : Option Addr) (B : Nat → Int) (K : Nat) (n : Int) (w : World) (hK : K ≤ 999999999) (h1 : 1 ≤ n) (h2 : n ≤ 1000000) (h : DrawE w C ao len cap B K) :
    Calls Try.prog 44 #[.pointer (some ⟨C, 0, none⟩), .int .i64 n] w fun e w' => ∃ v : Int, e = .returned (.int .i64 v) ∧ (0 ≤ v ∧ v < n) ∧ DrawE w' C ao len cap B (K + 2) ∧ Mod C w w' := by
  obtain ⟨c, hk, hd⟩ := h
  refine (pick_any C len cap ao B c n w (by omega) h1 h2 hd).mono ?_
  rintro e w' ⟨rfl, hd', ho⟩
  exact ⟨_, rfl, pickV_bd len B n c h1, ⟨pickC len B n c, by have := pickC_k len B n c; omega, hd'⟩, .of_only ho⟩

set_option maxHeartbeats 1000000 in
theorem timesE (C len cap : Nat) (ao : Option Addr) (B : Nat → Int) (K : Nat) (w : World) (hK : K ≤ 900000000) (h : DrawE w C ao len cap B K) :
    Calls Try.prog 43 #[.pointer (some ⟨C, 0, none⟩)] w fun e w' => ∃ t : TD, e = .returned t.v ∧ ((0 ≤ t.a ∧ t.a < 6) ∧ (1 ≤ t.b ∧ t.b ≤ 9) ∧ (0 ≤ t.c ∧ t.c < 9) ∧ (1 ≤ t.d ∧ t.d ≤ 60)) ∧ DrawE w' C ao len cap B (K + 8) ∧ Mod C w w' := by
  have HC : Hid (C < w.heap.size) := h.lt
  have HD : Hid (DrawE w C ao len cap B K) := h
  clear h
  go_enter Try.func43, Try.ntmps43
  obtain ⟨W, hW⟩ : ∃ W, W = w.alloc (.cells #[.int .i64 0, .int .i64 0, .int .i64 0, .int .i64 0] 24) := ⟨_, rfl⟩
  have HW : Hid (Mod C w W) := hid (by rw [hW]; exact .of_below ((Below.refl _ _).alloc (Nat.le_refl _) _))
  have HDW : Hid (DrawE W C ao len cap B K) := hid (by rw [hW]; exact HD.out.below ((Below.refl _ _).alloc (Nat.le_refl _) _) HC.out)
  have HZ : Hid (w.heap.size < W.heap.size) := hid (by rw [hW]; simp)
  have HR : Hid (TCell W w.heap.size ⟨0, 0, 0, 0⟩ ∧ ∀ j, W.frozen? ⟨w.heap.size, j, none⟩ = false) := hid (by rw [hW]; exact ⟨⟨by simp [go_sem], by simp [go_sem], by simp [go_sem], by simp [go_sem]⟩, fun j => by simp [go_sem]⟩)
  go_wp2_with fail
  rw [← hW]
  clear hW
  refine (pickE C len cap ao B K 6 _ (by omega) (by omega) (by omega) HDW.out).mono ?_
  rintro e w1 ⟨v1, rfl, ⟨a0, a1⟩, hd1, hm1⟩
  have HD1 : Hid (DrawE w1 C ao len cap B (K + 2)) := hd1
  have HM1 : Hid (Mod C W w1) := hm1
  clear hd1 hm1
  go_wp2_with fail
  refine (pickE C len cap ao B (K + 2) 9 _ (by omega) (by omega) (by omega) HD1.out).mono ?_
  rintro e w2 ⟨v2, rfl, ⟨b0, b1⟩, hd2, hm2⟩
  have HD2 : Hid (DrawE w2 C ao len cap B (K + 4)) := hd2
  have HM2 : Hid (Mod C W w2) := hid (HM1.out.trans hm2)
  clear hd2 hm2
  go_wp2_with fail
  refine (pickE C len cap ao B (K + 4) 9 _ (by omega) (by omega) (by omega) HD2.out).mono ?_
  rintro e w3 ⟨v3, rfl, ⟨c0, c1⟩, hd3, hm3⟩
  have HD3 : Hid (DrawE w3 C ao len cap B (K + 6)) := hd3
  have HM3 : Hid (Mod C W w3) := hid (HM2.out.trans hm3)
  clear hd3 hm3
  go_wp2_with fail
  refine (pickE C len cap ao B (K + 6) 60 _ (by omega) (by omega) (by omega) HD3.out).mono ?_
  rintro e w4 ⟨v4, rfl, ⟨d0, d1⟩, hd4, hm4⟩
  have HD4 : Hid (DrawE w4 C ao len cap B (K + 8)) := hd4
  have HM4 : Hid (Mod C W w4) := hid (HM3.out.trans hm4)
  clear hd4 hm4
  have r0 := (HM4.out.cell HZ.out (by have := HC.out; omega) 0).trans HR.out.1.1
  have r1 := (HM4.out.cell HZ.out (by have := HC.out; omega) 1).trans HR.out.1.2.1
  have r2 := (HM4.out.cell HZ.out (by have := HC.out; omega) 2).trans HR.out.1.2.2.1
  have r3 := (HM4.out.cell HZ.out (by have := HC.out; omega) 3).trans HR.out.1.2.2.2
  have rz : ∀ j, w4.frozen? ⟨w.heap.size, j, none⟩ = false := fun j => (HM4.out.frozen HZ.out (by have := HC.out; omega) j).trans (HR.out.2 j)
  go_wp2
  exact bodyPost_ret (v := .agg #[.int .i64 v1, .int .i64 (1 + v2), .int .i64 v3, .int .i64 (1 + v4)]) (by simp [results, Try.results43, go_sem, r0, r1, r2, r3]) rfl
    ⟨⟨v1, 1 + v2, v3, 1 + v4⟩, rfl, ⟨⟨a0, a1⟩, ⟨by show 1 ≤ 1 + v2; omega, by show 1 + v2 ≤ 9; omega⟩, ⟨c0, c1⟩, ⟨by show 1 ≤ 1 + v4; omega, by show 1 + v4 ≤ 60; omega⟩⟩, HD4.out.below (below_set4 (Below.refl _ _) (Nat.le_refl _) _ _ _ _) HC.out, mod_set4 (HW.out.trans HM4.out) (Nat.le_refl _) _ _ _ _⟩

/-- The stores of oddtimes: one into its own copy, four into its result. -/
theorem odd_below {w : World} (W : World) (j : Nat) (v0 v1 v2 v3 v4 : Value) :
    Below w.heap.size W (((((W.setCell ⟨w.heap.size, j, none⟩ v0).setCell ⟨w.heap.size + 1, 0, none⟩ v1).setCell ⟨w.heap.size + 1, 1, none⟩ v2).setCell ⟨w.heap.size + 1, 2, none⟩ v3).setCell ⟨w.heap.size + 1, 3, none⟩ v4) :=
  have h1 : Below w.heap.size W (W.setCell ⟨w.heap.size, j, none⟩ v0) := (Below.refl _ _).setCell (p := ⟨w.heap.size, j, none⟩) (Nat.le_refl _) v0
  below_set4 h1 (Nat.le_succ _) v1 v2 v3 v4
theorem odd_mod {C : Nat} {w W : World} (h : Mod C w W) (j : Nat) (v0 v1 v2 v3 v4 : Value) :
    Mod C w (((((W.setCell ⟨w.heap.size, j, none⟩ v0).setCell ⟨w.heap.size + 1, 0, none⟩ v1).setCell ⟨w.heap.size + 1, 1, none⟩ v2).setCell ⟨w.heap.size + 1, 2, none⟩ v3).setCell ⟨w.heap.size + 1, 3, none⟩ v4) :=
  have h1 : Mod C w (W.setCell ⟨w.heap.size, j, none⟩ v0) := ⟨h.os, h.tape, h.output, by simpa [World.setCell] using h.size, fun k hk hne => (Below.heap_setCell W ⟨w.heap.size, j, none⟩ v0 k (by simp; omega)).trans (h.block k hk hne)⟩
  mod_set4 h1 (Nat.le_succ _) v1 v2 v3 v4

set_option maxHeartbeats 4000000 in
theorem oddtimesE (C len cap : Nat) (ao : Option Addr) (B : Nat → Int) (K : Nat) (t : TD) (w : World) (hK : K ≤ 900000000) (h : DrawE w C ao len cap B K) :
    Calls Try.prog 104 #[.pointer (some ⟨C, 0, none⟩), t.v] w fun e w' => ∃ t' : TD, e = .returned t'.v ∧ DrawE w' C ao len cap B (K + 4) ∧ Mod C w w' := by
  have HC : Hid (C < w.heap.size) := h.lt
  have HD : Hid (DrawE w C ao len cap B K) := h
  clear h
  have HT : Hid (t.v = .agg #[.int .i64 t.a, .int .i64 t.b, .int .i64 t.c, .int .i64 t.d]) := rfl
  rw [HT.out]
  go_enter Try.func104, Try.ntmps104
  obtain ⟨W, hW⟩ : ∃ W, W = (w.alloc (.cells #[.int .i64 t.a, .int .i64 t.b, .int .i64 t.c, .int .i64 t.d] 24)).alloc (.cells #[.int .i64 0, .int .i64 0, .int .i64 0, .int .i64 0] 24) := ⟨_, rfl⟩
  have HWB : Hid (Below w.heap.size w W) := hid (by rw [hW]; exact ((Below.refl _ _).alloc (Nat.le_refl _) _).alloc (by simp) _)
  have HW : Hid (Mod C w W) := hid (.of_below HWB.out)
  have HDW : Hid (DrawE W C ao len cap B K) := hid (HD.out.below HWB.out HC.out)
  have HZ : Hid (w.heap.size + 1 < W.heap.size) := hid (by rw [hW]; simp)
  have HR : Hid (TCell W w.heap.size t ∧ (∀ j, W.frozen? ⟨w.heap.size, j, none⟩ = false) ∧ TCell W (w.heap.size + 1) ⟨0, 0, 0, 0⟩ ∧ ∀ j, W.frozen? ⟨w.heap.size + 1, j, none⟩ = false) := hid (by
    rw [hW]; exact ⟨⟨by simp [go_sem], by simp [go_sem], by simp [go_sem], by simp [go_sem]⟩, fun j => by simp [go_sem], ⟨by simp [go_sem], by simp [go_sem], by simp [go_sem], by simp [go_sem]⟩, fun j => by simp [go_sem]⟩)
  go_wp2_with fail
  rw [← hW]
  clear hW
  refine (pickE C len cap ao B K 4 _ (by omega) (by omega) (by omega) HDW.out).mono ?_
  rintro e w1 ⟨v, rfl, ⟨a0, a1⟩, hd1, hm1⟩
  have HD1 : Hid (DrawE w1 C ao len cap B (K + 2)) := hd1
  have HM1 : Hid (Mod C W w1) := hm1
  clear hd1 hm1
  rcases (show v = 0 ∨ v = 1 ∨ v = 2 ∨ v = 3 by omega) with e0 | e1 | e2 | e3
  · subst e0
    go_wp2_with fail
    obtain ⟨W2, hW2⟩ : ∃ W2, W2 = w1.alloc (.cells #[.int .i64 (-1), .int .i64 100, .int .i64 101] 3) := ⟨_, rfl⟩
    have HB2 : Hid (Below w1.heap.size w1 W2) := hid (by rw [hW2]; exact (Below.refl _ _).alloc (Nat.le_refl _) _)
    have HS2 : Hid (W2.cell? ⟨w1.heap.size, 0, none⟩ = some (.int .i64 (-1)) ∧ W2.cell? ⟨w1.heap.size, 1, none⟩ = some (.int .i64 100) ∧ W2.cell? ⟨w1.heap.size, 2, none⟩ = some (.int .i64 101)) := hid (by rw [hW2]; exact ⟨by simp [go_sem], by simp [go_sem], by simp [go_sem]⟩)
    have HZ2 : Hid (w1.heap.size < W2.heap.size) := hid (by rw [hW2]; simp)
    rw [← hW2]
    clear hW2
    refine (pickE C len cap ao B (K + 2) 3 _ (by omega) (by omega) (by omega) (HD1.out.below HB2.out HD1.out.lt)).mono ?_
    rintro e w3 ⟨u, rfl, ⟨u0, u1⟩, hd3, hm3⟩
    have HD3 : Hid (DrawE w3 C ao len cap B (K + 4)) := hd3
    have HM3 : Hid (Mod C W w3) := hid (HM1.out.trans ((Mod.of_below HB2.out).trans hm3))
    have s0 := (hm3.cell HZ2.out (by have := HD1.out.lt; omega) 0).trans HS2.out.1
    have s1 := (hm3.cell HZ2.out (by have := HD1.out.lt; omega) 1).trans HS2.out.2.1
    have s2 := (hm3.cell HZ2.out (by have := HD1.out.lt; omega) 2).trans HS2.out.2.2
    clear hd3 hm3
    have r0 := (HM3.out.cell (g := w.heap.size) (by have := HZ.out; omega) (by have := HC.out; omega) 0).trans HR.out.1.1
    have r1 := (HM3.out.cell (g := w.heap.size) (by have := HZ.out; omega) (by have := HC.out; omega) 1).trans HR.out.1.2.1
    have r2 := (HM3.out.cell (g := w.heap.size) (by have := HZ.out; omega) (by have := HC.out; omega) 2).trans HR.out.1.2.2.1
    have r3 := (HM3.out.cell (g := w.heap.size) (by have := HZ.out; omega) (by have := HC.out; omega) 3).trans HR.out.1.2.2.2
    have rz : ∀ j, w3.frozen? ⟨w.heap.size, j, none⟩ = false := fun j => (HM3.out.frozen (g := w.heap.size) (by have := HZ.out; omega) (by have := HC.out; omega) j).trans (HR.out.2.1 j)
    have q0 := (HM3.out.cell (g := w.heap.size + 1) (by have := HZ.out; omega) (by have := HC.out; omega) 0).trans HR.out.2.2.1.1
    have q1 := (HM3.out.cell (g := w.heap.size + 1) (by have := HZ.out; omega) (by have := HC.out; omega) 1).trans HR.out.2.2.1.2.1
    have q2 := (HM3.out.cell (g := w.heap.size + 1) (by have := HZ.out; omega) (by have := HC.out; omega) 2).trans HR.out.2.2.1.2.2.1
    have q3 := (HM3.out.cell (g := w.heap.size + 1) (by have := HZ.out; omega) (by have := HC.out; omega) 3).trans HR.out.2.2.1.2.2.2
    have qz : ∀ j, w3.frozen? ⟨w.heap.size + 1, j, none⟩ = false := fun j => (HM3.out.frozen (g := w.heap.size + 1) (by have := HZ.out; omega) (by have := HC.out; omega) j).trans (HR.out.2.2.2 j)
    rcases (show u = 0 ∨ u = 1 ∨ u = 2 by omega) with rfl | rfl | rfl
    · go_wp2
      exact bodyPost_ret (v := .agg #[.int .i64 (-1), .int .i64 t.b, .int .i64 t.c, .int .i64 t.d]) (by simp [results, Try.results104, go_sem, r0, r1, r2, r3, q0, q1, q2, q3]) rfl
        ⟨⟨(-1), t.b, t.c, t.d⟩, rfl, HD3.out.below (odd_below _ _ _ _ _ _ _) (by have := HC.out; omega), odd_mod (HW.out.trans HM3.out) _ _ _ _ _ _⟩
    · go_wp2
      exact bodyPost_ret (v := .agg #[.int .i64 100, .int .i64 t.b, .int .i64 t.c, .int .i64 t.d]) (by simp [results, Try.results104, go_sem, r0, r1, r2, r3, q0, q1, q2, q3]) rfl
        ⟨⟨100, t.b, t.c, t.d⟩, rfl, HD3.out.below (odd_below _ _ _ _ _ _ _) (by have := HC.out; omega), odd_mod (HW.out.trans HM3.out) _ _ _ _ _ _⟩
    · go_wp2
      exact bodyPost_ret (v := .agg #[.int .i64 101, .int .i64 t.b, .int .i64 t.c, .int .i64 t.d]) (by simp [results, Try.results104, go_sem, r0, r1, r2, r3, q0, q1, q2, q3]) rfl
        ⟨⟨101, t.b, t.c, t.d⟩, rfl, HD3.out.below (odd_below _ _ _ _ _ _ _) (by have := HC.out; omega), odd_mod (HW.out.trans HM3.out) _ _ _ _ _ _⟩
  · subst e1
    go_wp2_with fail
    obtain ⟨W2, hW2⟩ : ∃ W2, W2 = w1.alloc (.cells #[.int .i64 0, .int .i64 100, .int .i64 101] 3) := ⟨_, rfl⟩
    have HB2 : Hid (Below w1.heap.size w1 W2) := hid (by rw [hW2]; exact (Below.refl _ _).alloc (Nat.le_refl _) _)
    have HS2 : Hid (W2.cell? ⟨w1.heap.size, 0, none⟩ = some (.int .i64 0) ∧ W2.cell? ⟨w1.heap.size, 1, none⟩ = some (.int .i64 100) ∧ W2.cell? ⟨w1.heap.size, 2, none⟩ = some (.int .i64 101)) := hid (by rw [hW2]; exact ⟨by simp [go_sem], by simp [go_sem], by simp [go_sem]⟩)
    have HZ2 : Hid (w1.heap.size < W2.heap.size) := hid (by rw [hW2]; simp)
    rw [← hW2]
    clear hW2
    refine (pickE C len cap ao B (K + 2) 3 _ (by omega) (by omega) (by omega) (HD1.out.below HB2.out HD1.out.lt)).mono ?_
    rintro e w3 ⟨u, rfl, ⟨u0, u1⟩, hd3, hm3⟩
    have HD3 : Hid (DrawE w3 C ao len cap B (K + 4)) := hd3
    have HM3 : Hid (Mod C W w3) := hid (HM1.out.trans ((Mod.of_below HB2.out).trans hm3))
    have s0 := (hm3.cell HZ2.out (by have := HD1.out.lt; omega) 0).trans HS2.out.1
    have s1 := (hm3.cell HZ2.out (by have := HD1.out.lt; omega) 1).trans HS2.out.2.1
    have s2 := (hm3.cell HZ2.out (by have := HD1.out.lt; omega) 2).trans HS2.out.2.2
    clear hd3 hm3
    have r0 := (HM3.out.cell (g := w.heap.size) (by have := HZ.out; omega) (by have := HC.out; omega) 0).trans HR.out.1.1
    have r1 := (HM3.out.cell (g := w.heap.size) (by have := HZ.out; omega) (by have := HC.out; omega) 1).trans HR.out.1.2.1
    have r2 := (HM3.out.cell (g := w.heap.size) (by have := HZ.out; omega) (by have := HC.out; omega) 2).trans HR.out.1.2.2.1
    have r3 := (HM3.out.cell (g := w.heap.size) (by have := HZ.out; omega) (by have := HC.out; omega) 3).trans HR.out.1.2.2.2
    have rz : ∀ j, w3.frozen? ⟨w.heap.size, j, none⟩ = false := fun j => (HM3.out.frozen (g := w.heap.size) (by have := HZ.out; omega) (by have := HC.out; omega) j).trans (HR.out.2.1 j)
    have q0 := (HM3.out.cell (g := w.heap.size + 1) (by have := HZ.out; omega) (by have := HC.out; omega) 0).trans HR.out.2.2.1.1
    have q1 := (HM3.out.cell (g := w.heap.size + 1) (by have := HZ.out; omega) (by have := HC.out; omega) 1).trans HR.out.2.2.1.2.1
    have q2 := (HM3.out.cell (g := w.heap.size + 1) (by have := HZ.out; omega) (by have := HC.out; omega) 2).trans HR.out.2.2.1.2.2.1
    have q3 := (HM3.out.cell (g := w.heap.size + 1) (by have := HZ.out; omega) (by have := HC.out; omega) 3).trans HR.out.2.2.1.2.2.2
    have qz : ∀ j, w3.frozen? ⟨w.heap.size + 1, j, none⟩ = false := fun j => (HM3.out.frozen (g := w.heap.size + 1) (by have := HZ.out; omega) (by have := HC.out; omega) j).trans (HR.out.2.2.2 j)
    rcases (show u = 0 ∨ u = 1 ∨ u = 2 by omega) with rfl | rfl | rfl
    · go_wp2
      exact bodyPost_ret (v := .agg #[.int .i64 t.a, .int .i64 0, .int .i64 t.c, .int .i64 t.d]) (by simp [results, Try.results104, go_sem, r0, r1, r2, r3, q0, q1, q2, q3]) rfl
        ⟨⟨t.a, 0, t.c, t.d⟩, rfl, HD3.out.below (odd_below _ _ _ _ _ _ _) (by have := HC.out; omega), odd_mod (HW.out.trans HM3.out) _ _ _ _ _ _⟩
    · go_wp2
      exact bodyPost_ret (v := .agg #[.int .i64 t.a, .int .i64 100, .int .i64 t.c, .int .i64 t.d]) (by simp [results, Try.results104, go_sem, r0, r1, r2, r3, q0, q1, q2, q3]) rfl
        ⟨⟨t.a, 100, t.c, t.d⟩, rfl, HD3.out.below (odd_below _ _ _ _ _ _ _) (by have := HC.out; omega), odd_mod (HW.out.trans HM3.out) _ _ _ _ _ _⟩
    · go_wp2
      exact bodyPost_ret (v := .agg #[.int .i64 t.a, .int .i64 101, .int .i64 t.c, .int .i64 t.d]) (by simp [results, Try.results104, go_sem, r0, r1, r2, r3, q0, q1, q2, q3]) rfl
        ⟨⟨t.a, 101, t.c, t.d⟩, rfl, HD3.out.below (odd_below _ _ _ _ _ _ _) (by have := HC.out; omega), odd_mod (HW.out.trans HM3.out) _ _ _ _ _ _⟩
  · subst e2
    go_wp2_with fail
    obtain ⟨W2, hW2⟩ : ∃ W2, W2 = w1.alloc (.cells #[.int .i64 (-1), .int .i64 1000, .int .i64 1001] 3) := ⟨_, rfl⟩
    have HB2 : Hid (Below w1.heap.size w1 W2) := hid (by rw [hW2]; exact (Below.refl _ _).alloc (Nat.le_refl _) _)
    have HS2 : Hid (W2.cell? ⟨w1.heap.size, 0, none⟩ = some (.int .i64 (-1)) ∧ W2.cell? ⟨w1.heap.size, 1, none⟩ = some (.int .i64 1000) ∧ W2.cell? ⟨w1.heap.size, 2, none⟩ = some (.int .i64 1001)) := hid (by rw [hW2]; exact ⟨by simp [go_sem], by simp [go_sem], by simp [go_sem]⟩)
    have HZ2 : Hid (w1.heap.size < W2.heap.size) := hid (by rw [hW2]; simp)
    rw [← hW2]
    clear hW2
    refine (pickE C len cap ao B (K + 2) 3 _ (by omega) (by omega) (by omega) (HD1.out.below HB2.out HD1.out.lt)).mono ?_
    rintro e w3 ⟨u, rfl, ⟨u0, u1⟩, hd3, hm3⟩
    have HD3 : Hid (DrawE w3 C ao len cap B (K + 4)) := hd3
    have HM3 : Hid (Mod C W w3) := hid (HM1.out.trans ((Mod.of_below HB2.out).trans hm3))
    have s0 := (hm3.cell HZ2.out (by have := HD1.out.lt; omega) 0).trans HS2.out.1
    have s1 := (hm3.cell HZ2.out (by have := HD1.out.lt; omega) 1).trans HS2.out.2.1
    have s2 := (hm3.cell HZ2.out (by have := HD1.out.lt; omega) 2).trans HS2.out.2.2
    clear hd3 hm3
    have r0 := (HM3.out.cell (g := w.heap.size) (by have := HZ.out; omega) (by have := HC.out; omega) 0).trans HR.out.1.1
    have r1 := (HM3.out.cell (g := w.heap.size) (by have := HZ.out; omega) (by have := HC.out; omega) 1).trans HR.out.1.2.1
    have r2 := (HM3.out.cell (g := w.heap.size) (by have := HZ.out; omega) (by have := HC.out; omega) 2).trans HR.out.1.2.2.1
    have r3 := (HM3.out.cell (g := w.heap.size) (by have := HZ.out; omega) (by have := HC.out; omega) 3).trans HR.out.1.2.2.2
    have rz : ∀ j, w3.frozen? ⟨w.heap.size, j, none⟩ = false := fun j => (HM3.out.frozen (g := w.heap.size) (by have := HZ.out; omega) (by have := HC.out; omega) j).trans (HR.out.2.1 j)
    have q0 := (HM3.out.cell (g := w.heap.size + 1) (by have := HZ.out; omega) (by have := HC.out; omega) 0).trans HR.out.2.2.1.1
    have q1 := (HM3.out.cell (g := w.heap.size + 1) (by have := HZ.out; omega) (by have := HC.out; omega) 1).trans HR.out.2.2.1.2.1
    have q2 := (HM3.out.cell (g := w.heap.size + 1) (by have := HZ.out; omega) (by have := HC.out; omega) 2).trans HR.out.2.2.1.2.2.1
    have q3 := (HM3.out.cell (g := w.heap.size + 1) (by have := HZ.out; omega) (by have := HC.out; omega) 3).trans HR.out.2.2.1.2.2.2
    have qz : ∀ j, w3.frozen? ⟨w.heap.size + 1, j, none⟩ = false := fun j => (HM3.out.frozen (g := w.heap.size + 1) (by have := HZ.out; omega) (by have := HC.out; omega) j).trans (HR.out.2.2.2 j)
    rcases (show u = 0 ∨ u = 1 ∨ u = 2 by omega) with rfl | rfl | rfl
    · go_wp2
      exact bodyPost_ret (v := .agg #[.int .i64 t.a, .int .i64 t.b, .int .i64 (-1), .int .i64 t.d]) (by simp [results, Try.results104, go_sem, r0, r1, r2, r3, q0, q1, q2, q3]) rfl
        ⟨⟨t.a, t.b, (-1), t.d⟩, rfl, HD3.out.below (odd_below _ _ _ _ _ _ _) (by have := HC.out; omega), odd_mod (HW.out.trans HM3.out) _ _ _ _ _ _⟩
    · go_wp2
      exact bodyPost_ret (v := .agg #[.int .i64 t.a, .int .i64 t.b, .int .i64 1000, .int .i64 t.d]) (by simp [results, Try.results104, go_sem, r0, r1, r2, r3, q0, q1, q2, q3]) rfl
        ⟨⟨t.a, t.b, 1000, t.d⟩, rfl, HD3.out.below (odd_below _ _ _ _ _ _ _) (by have := HC.out; omega), odd_mod (HW.out.trans HM3.out) _ _ _ _ _ _⟩
    · go_wp2
      exact bodyPost_ret (v := .agg #[.int .i64 t.a, .int .i64 t.b, .int .i64 1001, .int .i64 t.d]) (by simp [results, Try.results104, go_sem, r0, r1, r2, r3, q0, q1, q2, q3]) rfl
        ⟨⟨t.a, t.b, 1001, t.d⟩, rfl, HD3.out.below (odd_below _ _ _ _ _ _ _) (by have := HC.out; omega), odd_mod (HW.out.trans HM3.out) _ _ _ _ _ _⟩
  · subst e3
    go_wp2_with fail
    obtain ⟨W2, hW2⟩ : ∃ W2, W2 = w1.alloc (.cells #[.int .i64 0, .int .i64 100000, .int .i64 100001] 3) := ⟨_, rfl⟩
    have HB2 : Hid (Below w1.heap.size w1 W2) := hid (by rw [hW2]; exact (Below.refl _ _).alloc (Nat.le_refl _) _)
    have HS2 : Hid (W2.cell? ⟨w1.heap.size, 0, none⟩ = some (.int .i64 0) ∧ W2.cell? ⟨w1.heap.size, 1, none⟩ = some (.int .i64 100000) ∧ W2.cell? ⟨w1.heap.size, 2, none⟩ = some (.int .i64 100001)) := hid (by rw [hW2]; exact ⟨by simp [go_sem], by simp [go_sem], by simp [go_sem]⟩)
    have HZ2 : Hid (w1.heap.size < W2.heap.size) := hid (by rw [hW2]; simp)
    rw [← hW2]
    clear hW2
    refine (pickE C len cap ao B (K + 2) 3 _ (by omega) (by omega) (by omega) (HD1.out.below HB2.out HD1.out.lt)).mono ?_
    rintro e w3 ⟨u, rfl, ⟨u0, u1⟩, hd3, hm3⟩
    have HD3 : Hid (DrawE w3 C ao len cap B (K + 4)) := hd3
    have HM3 : Hid (Mod C W w3) := hid (HM1.out.trans ((Mod.of_below HB2.out).trans hm3))
    have s0 := (hm3.cell HZ2.out (by have := HD1.out.lt; omega) 0).trans HS2.out.1
    have s1 := (hm3.cell HZ2.out (by have := HD1.out.lt; omega) 1).trans HS2.out.2.1
    have s2 := (hm3.cell HZ2.out (by have := HD1.out.lt; omega) 2).trans HS2.out.2.2
    clear hd3 hm3
    have r0 := (HM3.out.cell (g := w.heap.size) (by have := HZ.out; omega) (by have := HC.out; omega) 0).trans HR.out.1.1
    have r1 := (HM3.out.cell (g := w.heap.size) (by have := HZ.out; omega) (by have := HC.out; omega) 1).trans HR.out.1.2.1
    have r2 := (HM3.out.cell (g := w.heap.size) (by have := HZ.out; omega) (by have := HC.out; omega) 2).trans HR.out.1.2.2.1
    have r3 := (HM3.out.cell (g := w.heap.size) (by have := HZ.out; omega) (by have := HC.out; omega) 3).trans HR.out.1.2.2.2
    have rz : ∀ j, w3.frozen? ⟨w.heap.size, j, none⟩ = false := fun j => (HM3.out.frozen (g := w.heap.size) (by have := HZ.out; omega) (by have := HC.out; omega) j).trans (HR.out.2.1 j)
    have q0 := (HM3.out.cell (g := w.heap.size + 1) (by have := HZ.out; omega) (by have := HC.out; omega) 0).trans HR.out.2.2.1.1
    have q1 := (HM3.out.cell (g := w.heap.size + 1) (by have := HZ.out; omega) (by have := HC.out; omega) 1).trans HR.out.2.2.1.2.1
    have q2 := (HM3.out.cell (g := w.heap.size + 1) (by have := HZ.out; omega) (by have := HC.out; omega) 2).trans HR.out.2.2.1.2.2.1
    have q3 := (HM3.out.cell (g := w.heap.size + 1) (by have := HZ.out; omega) (by have := HC.out; omega) 3).trans HR.out.2.2.1.2.2.2
    have qz : ∀ j, w3.frozen? ⟨w.heap.size + 1, j, none⟩ = false := fun j => (HM3.out.frozen (g := w.heap.size + 1) (by have := HZ.out; omega) (by have := HC.out; omega) j).trans (HR.out.2.2.2 j)
    rcases (show u = 0 ∨ u = 1 ∨ u = 2 by omega) with rfl | rfl | rfl
    · go_wp2
      exact bodyPost_ret (v := .agg #[.int .i64 t.a, .int .i64 t.b, .int .i64 t.c, .int .i64 0]) (by simp [results, Try.results104, go_sem, r0, r1, r2, r3, q0, q1, q2, q3]) rfl
        ⟨⟨t.a, t.b, t.c, 0⟩, rfl, HD3.out.below (odd_below _ _ _ _ _ _ _) (by have := HC.out; omega), odd_mod (HW.out.trans HM3.out) _ _ _ _ _ _⟩
    · go_wp2
      exact bodyPost_ret (v := .agg #[.int .i64 t.a, .int .i64 t.b, .int .i64 t.c, .int .i64 100000]) (by simp [results, Try.results104, go_sem, r0, r1, r2, r3, q0, q1, q2, q3]) rfl
        ⟨⟨t.a, t.b, t.c, 100000⟩, rfl, HD3.out.below (odd_below _ _ _ _ _ _ _) (by have := HC.out; omega), odd_mod (HW.out.trans HM3.out) _ _ _ _ _ _⟩
    · go_wp2
      exact bodyPost_ret (v := .agg #[.int .i64 t.a, .int .i64 t.b, .int .i64 t.c, .int .i64 100001]) (by simp [results, Try.results104, go_sem, r0, r1, r2, r3, q0, q1, q2, q3]) rfl
        ⟨⟨t.a, t.b, t.c, 100001⟩, rfl, HD3.out.below (odd_below _ _ _ _ _ _ _) (by have := HC.out; omega), odd_mod (HW.out.trans HM3.out) _ _ _ _ _ _⟩


/-- A variable of the times that was laid as block g lies on. -/
theorem tcell_mod {C g : Nat} {w w' : World} {t : TD} (h : TCell w g t) (hm : Mod C w w') (hne : g ≠ C) : TCell w' g t :=
  have l : g < w.heap.size := World.block_lt_of_cell? _ _ h.1
  ⟨(hm.cell l hne 0).trans h.1, (hm.cell l hne 1).trans h.2.1, (hm.cell l hne 2).trans h.2.2.1, (hm.cell l hne 3).trans h.2.2.2⟩
theorem tcell_set {w : World} {g : Nat} {t : TD} (h : TCell w g t) (t' : TD) : TCell ((((w.setCell ⟨g, 0, none⟩ (.int .i64 t'.a)).setCell ⟨g, 1, none⟩ (.int .i64 t'.b)).setCell ⟨g, 2, none⟩ (.int .i64 t'.c)).setCell ⟨g, 3, none⟩ (.int .i64 t'.d)) g t' := by
  obtain ⟨h0, h1, h2, h3⟩ := h
  exact ⟨by simp [go_sem, h0, h1, h2, h3], by simp [go_sem, h0, h1, h2, h3], by simp [go_sem, h0, h1, h2, h3], by simp [go_sem, h0, h1, h2, h3]⟩
theorem set4_cell (w : World) (g x j : Nat) (v0 v1 v2 v3 : Value) (hx : ¬ x = g) : ((((w.setCell ⟨g, 0, none⟩ v0).setCell ⟨g, 1, none⟩ v1).setCell ⟨g, 2, none⟩ v2).setCell ⟨g, 3, none⟩ v3).cell? ⟨x, j, none⟩ = w.cell? ⟨x, j, none⟩ := by
  rw [World.cell?_setCell_other (h := by simp only [ne_eq, Addr.mk.injEq]; exact fun e => hx e.1.symm), World.cell?_setCell_other (h := by simp only [ne_eq, Addr.mk.injEq]; exact fun e => hx e.1.symm), World.cell?_setCell_other (h := by simp only [ne_eq, Addr.mk.injEq]; exact fun e => hx e.1.symm), World.cell?_setCell_other (h := by simp only [ne_eq, Addr.mk.injEq]; exact fun e => hx e.1.symm)]
theorem set4_frozen (w : World) (g : Nat) (a : Addr) (v0 v1 v2 v3 : Value) : ((((w.setCell ⟨g, 0, none⟩ v0).setCell ⟨g, 1, none⟩ v1).setCell ⟨g, 2, none⟩ v2).setCell ⟨g, 3, none⟩ v3).frozen? a = w.frozen? a := by
  simp [World.frozen?_setCell]

set_option maxHeartbeats 2000000 in
theorem l4timesE (C len cap : Nat) (ao : Option Addr) (B : Nat → Int) (K : Nat) (w : World) (hK : K ≤ 800000000) (h : DrawE w C ao len cap B K) :
    Calls Try.prog 74 #[.pointer (some ⟨C, 0, none⟩)] w fun e w' => ∃ t : TD, e = .returned t.v ∧ DrawE w' C ao len cap B (K + 14) ∧ Mod C w w' := by
  have HC : Hid (C < w.heap.size) := h.lt
  have HD : Hid (DrawE w C ao len cap B K) := h
  clear h
  go_enter Try.func74, Try.ntmps74
  obtain ⟨W, hW⟩ : ∃ W, W = w.alloc (.cells #[.int .i64 0, .int .i64 0, .int .i64 0, .int .i64 0] 24) := ⟨_, rfl⟩
  have HWB : Hid (Below w.heap.size w W) := hid (by rw [hW]; exact (Below.refl _ _).alloc (Nat.le_refl _) _)
  have HW : Hid (Mod C w W) := hid (.of_below HWB.out)
  have HDW : Hid (DrawE W C ao len cap B K) := hid (HD.out.below HWB.out HC.out)
  have HZ : Hid (w.heap.size < W.heap.size) := hid (by rw [hW]; simp)
  have HR : Hid (TCell W w.heap.size ⟨0, 0, 0, 0⟩ ∧ ∀ j, W.frozen? ⟨w.heap.size, j, none⟩ = false) := hid (by rw [hW]; exact ⟨⟨by simp [go_sem], by simp [go_sem], by simp [go_sem], by simp [go_sem]⟩, fun j => by simp [go_sem]⟩)
  go_wp2_with fail
  rw [← hW]
  clear hW
  refine (timesE C len cap ao B K _ (by omega) HDW.out).mono ?_
  rintro e w1 ⟨t, rfl, _, hd1, hm1⟩
  have HD1 : Hid (DrawE w1 C ao len cap B (K + 8)) := hd1
  have HM1 : Hid (Mod C W w1) := hm1
  have HT : Hid (t.v = .agg #[.int .i64 t.a, .int .i64 t.b, .int .i64 t.c, .int .i64 t.d]) := rfl
  rw [HT.out]
  clear hd1 hm1
  obtain ⟨W2, hW2⟩ : ∃ W2, W2 = w1.alloc (.cells #[.int .i64 t.a, .int .i64 t.b, .int .i64 t.c, .int .i64 t.d] 24) := ⟨_, rfl⟩
  have HB2 : Hid (Below w1.heap.size w1 W2) := hid (by rw [hW2]; exact (Below.refl _ _).alloc (Nat.le_refl _) _)
  have HT2 : Hid (TCell W2 w1.heap.size t ∧ ∀ j, W2.frozen? ⟨w1.heap.size, j, none⟩ = false) := hid (by rw [hW2]; exact ⟨⟨by simp [go_sem], by simp [go_sem], by simp [go_sem], by simp [go_sem]⟩, fun j => by simp [go_sem]⟩)
  have HZ2 : Hid (w1.heap.size < W2.heap.size) := hid (by rw [hW2]; simp)
  have HM2 : Hid (Mod C W W2) := hid (HM1.out.trans (.of_below HB2.out))
  go_wp2_with fail
  rw [← hW2]
  clear hW2
  refine (pickE C len cap ao B (K + 8) 16 _ (by omega) (by omega) (by omega) (HD1.out.below HB2.out HD1.out.lt)).mono ?_
  rintro e w3 ⟨v, rfl, ⟨a0, a1⟩, hd3, hm3⟩
  have HD3 : Hid (DrawE w3 C ao len cap B (K + 10)) := hd3
  have HM3 : Hid (Mod C W w3) := hid (HM2.out.trans hm3)
  have HT3 : Hid (TCell w3 w1.heap.size t ∧ ∀ j, w3.frozen? ⟨w1.heap.size, j, none⟩ = false) := hid ⟨tcell_mod HT2.out.1 hm3 (by have := HD1.out.lt; omega), fun j => (hm3.frozen HZ2.out (by have := HD1.out.lt; omega) j).trans (HT2.out.2 j)⟩
  have HR3 : Hid (TCell w3 w.heap.size ⟨0, 0, 0, 0⟩ ∧ ∀ j, w3.frozen? ⟨w.heap.size, j, none⟩ = false) := hid ⟨tcell_mod HR.out.1 HM3.out (by have := HC.out; omega), fun j => (HM3.out.frozen HZ.out (by have := HC.out; omega) j).trans (HR.out.2 j)⟩
  clear hd3 hm3
  have HLT : Hid (w.heap.size < w1.heap.size) := hid (Nat.lt_of_lt_of_le HZ.out HM1.out.size)
  obtain ⟨r0, r1, r2, r3⟩ := HR3.out.1
  have rz := HR3.out.2
  obtain ⟨s0, s1, s2, s3⟩ := HT3.out.1
  have sz := HT3.out.2
  by_cases hv : v = 0
  · have hvb : (v == 0) = true := by simp [hv]
    clear hv
    go_wp2_with fail
    rw [← HT.out]
    refine (oddtimesE C len cap ao B (K + 10) t _ (by omega) HD3.out).mono ?_
    rintro e w4 ⟨t', rfl, hd4, hm4⟩
    have HD4 : Hid (DrawE w4 C ao len cap B (K + 14)) := hd4
    have HM4 : Hid (Mod C W w4) := hid (HM3.out.trans hm4)
    have HT4 : Hid (TCell w4 w1.heap.size t ∧ ∀ j, w4.frozen? ⟨w1.heap.size, j, none⟩ = false) := hid ⟨tcell_mod HT3.out.1 hm4 (by have := HD1.out.lt; omega), fun j => (hm4.frozen (g := w1.heap.size) (World.block_lt_of_cell? _ _ HT3.out.1.1) (by have := HD1.out.lt; omega) j).trans (HT3.out.2 j)⟩
    have HR4 : Hid (TCell w4 w.heap.size ⟨0, 0, 0, 0⟩ ∧ ∀ j, w4.frozen? ⟨w.heap.size, j, none⟩ = false) := hid ⟨tcell_mod HR3.out.1 hm4 (by have := HC.out; omega), fun j => (hm4.frozen (g := w.heap.size) (World.block_lt_of_cell? _ _ HR3.out.1.1) (by have := HC.out; omega) j).trans (HR3.out.2 j)⟩
    clear hd4 hm4 r0 r1 r2 r3 rz s0 s1 s2 s3 sz
    obtain ⟨r0, r1, r2, r3⟩ := HR4.out.1
    have rz := HR4.out.2
    obtain ⟨s0, s1, s2, s3⟩ := HT4.out.1
    have sz := HT4.out.2
    have HT' : Hid (t'.v = .agg #[.int .i64 t'.a, .int .i64 t'.b, .int .i64 t'.c, .int .i64 t'.d]) := rfl
    have n1 : ¬ w.heap.size = w1.heap.size := by have := HLT.out; omega
    have n2 : ¬ w1.heap.size = w.heap.size := by have := HLT.out; omega
    rw [HT'.out]
    go_wp2
    exact bodyPost_ret (v := .agg #[.int .i64 t'.a, .int .i64 t'.b, .int .i64 t'.c, .int .i64 t'.d]) (by simp [results, Try.results74, go_sem, r0, r1, r2, r3, n1, n2]) rfl
      ⟨t', rfl, HD4.out.below (below_set4 (below_set4 (Below.refl w.heap.size w4) (by have := HLT.out; omega) _ _ _ _) (Nat.le_refl _) _ _ _ _) HC.out, mod_set4 (mod_set4 (HW.out.trans HM4.out) (by have := HLT.out; omega) _ _ _ _) (Nat.le_refl _) _ _ _ _⟩
  · have hvb : (v == 0) = false := by simp [hv]
    clear hv
    go_wp2
    exact bodyPost_ret (v := .agg #[.int .i64 t.a, .int .i64 t.b, .int .i64 t.c, .int .i64 t.d]) (by simp [results, Try.results74, go_sem, r0, r1, r2, r3]) rfl
      ⟨t, rfl, (DrawE.more HD3.out (by omega)).below (below_set4 (Below.refl w.heap.size w3) (Nat.le_refl _) _ _ _ _) HC.out, mod_set4 (HW.out.trans HM3.out) (Nat.le_refl _) _ _ _ _⟩

end Go.Proofs.Ytcidikmbngflcaa
