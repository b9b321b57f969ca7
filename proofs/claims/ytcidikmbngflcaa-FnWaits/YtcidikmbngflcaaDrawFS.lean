/-
  What is drawn for Run and Waits: times and a list of what is felt.
-/
import Derived.Test.YtcidikmbngflcaaDrawF
import Derived.Test.YtcidikmbngflcaaFeltS
namespace Go.Proofs.Ytcidikmbngflcaa
open Go.ChangeShapes Go.WideShapes Go.ChangeAt Go.RowKit
set_option maxRecDepth 100000
set_option linter.unusedSimpArgs false

theorem own_mod {C : Nat} {w w' : World} {base e z n : Nat} {v : Value} {xs : List Value} (h : w.ownsRow base e z v n xs) (hm : Mod C w w') (hC : C < base) : w'.ownsRow base e z v n xs := by
  refine ⟨h.1, h.2.elim .inl fun ⟨g, cap, cur, hv, hg, hh, r⟩ => .inr ⟨g, cap, cur, hv, hg, ?_, r⟩⟩
  have hlt : g < w.heap.size := by
    rcases Nat.lt_or_ge g w.heap.size with h' | h'
    · exact h'
    · rw [Array.getElem?_eq_none h'] at hh; cases hh
  rw [hm.block g hlt (by omega)]; exact hh
theorem felt_news (f : FD) : (List.range 5).map (feltC (fun _ => f) 0) = [.bool f.x, .bool f.n, .bool f.o, .int .i64 f.b, .bool f.m] := rfl
def feltL (f : FD) : List Value := [.bool f.x, .bool f.n, .bool f.o, .int .i64 f.b, .bool f.m]
theorem news5 (f : FD) (w : World) (t : TypeId) (g : Nat) (hg : g = w.heap.size) (j : Nat) (x : Value) (h : (feltL f)[j]? = some x) : (w.alloc (.cells #[.bool f.x, .bool f.n, .bool f.o, .int .i64 f.b, .bool f.m] t)).cell? ((⟨g, 0, none⟩ : Addr).add j) = some x := by
  subst hg
  have e : ((⟨w.heap.size, 0, none⟩ : Addr).add j) = ⟨w.heap.size, j, none⟩ := by simp [Addr.add]; try exact fun e => e.symm
  rw [e, World.cell?_alloc_new, ← h]
  unfold feltL
  simp
theorem felt_one (f : FD) : ∀ x ∈ feltL f, x.oneCell' = true := by
  intro x hx
  simp only [feltL, List.mem_cons, List.not_mem_nil, or_false] at hx
  rcases hx with rfl | rfl | rfl | rfl | rfl <;> rfl
theorem flat_felt (F : Nat → FD) (f : FD) (k : Nat) : flat 5 (feltC F) k ++ feltL f = flat 5 (feltC (fun i => if i = k then f else F i)) (k + 1) := by
  rw [flat_succ]
  congr 1
  · exact flat_congr (fun i j hi _ => by simp [feltC, show ¬ i = k by omega])
  · have : feltC (fun i => if i = k then f else F i) k = feltC (fun _ => f) 0 := by funext j; simp [feltC]
    rw [this]; rfl

/-- Old blocks but C and G stand. -/
structure Mod2 (C G : Nat) (w w' : World) : Prop where
  os : w'.os = w.os
  tape : w'.tape = w.tape
  output : w'.output = w.output
  size : w.heap.size ≤ w'.heap.size
  block : ∀ k, k < w.heap.size → k ≠ C → k ≠ G → w'.heap[k]? = w.heap[k]?
theorem Mod2.refl (C G : Nat) (w : World) : Mod2 C G w w := ⟨rfl, rfl, rfl, Nat.le_refl _, fun _ _ _ _ => rfl⟩
theorem Mod2.trans {C G : Nat} {a b c : World} (h : Mod2 C G a b) (k : Mod2 C G b c) : Mod2 C G a c :=
  ⟨k.os.trans h.os, k.tape.trans h.tape, k.output.trans h.output, Nat.le_trans h.size k.size, fun i hi h1 h2 => (k.block i (Nat.lt_of_lt_of_le hi h.size) h1 h2).trans (h.block i hi h1 h2)⟩
theorem Mod.two {C : Nat} {a b : World} (h : Mod C a b) (G : Nat) : Mod2 C G a b := ⟨h.os, h.tape, h.output, h.size, fun k hk h1 _ => h.block k hk h1⟩
theorem Mod2.set {C G : Nat} {a b : World} (h : Mod2 C G a b) (j : Nat) (v : Value) : Mod2 C G a (b.setCell ⟨G, j, none⟩ v) :=
  ⟨h.os, h.tape, h.output, by simpa [World.setCell] using h.size, fun k hk h1 h2 => (Below.heap_setCell _ _ _ _ (by simpa using h2)).trans (h.block k hk h1 h2)⟩
theorem Mod2.set5 {C G : Nat} {a b : World} (h : Mod2 C G a b) (v0 v1 v2 v3 v4 : Value) :
    Mod2 C G a (((((b.setCell ⟨G, 0, none⟩ v0).setCell ⟨G, 1, none⟩ v1).setCell ⟨G, 2, none⟩ v2).setCell ⟨G, 3, none⟩ v3).setCell ⟨G, 4, none⟩ v4) :=
  ((((h.set 0 v0).set 1 v1).set 2 v2).set 3 v3).set 4 v4
theorem Mod2.own {C G : Nat} {w w' : World} {base e z n : Nat} {v : Value} {xs : List Value} (hm : Mod2 C G w w') (h : w.ownsRow base e z v n xs) (hC : C < base) (hG : G < base) : w'.ownsRow base e z v n xs := by
  refine ⟨h.1, h.2.elim .inl fun ⟨g, cap, cur, hv, hg, hh, r⟩ => .inr ⟨g, cap, cur, hv, hg, ?_, r⟩⟩
  rw [hm.block g (Array.getElem?_eq_some_iff.1 hh).1 (by omega) (by omega)]; exact hh
theorem Mod2.tcell {C G g : Nat} {w w' : World} {t : TD} (hm : Mod2 C G w w') (h : TCell w g t) (h1 : g ≠ C) (h2 : g ≠ G) : TCell w' g t := by
  have hb := hm.block g (World.block_lt_of_cell? _ _ h.1) h1 h2
  exact ⟨(World.cell?_of_block (w := w) (a := ⟨g, 0, none⟩) hb).trans h.1, (World.cell?_of_block (w := w) (a := ⟨g, 1, none⟩) hb).trans h.2.1, (World.cell?_of_block (w := w) (a := ⟨g, 2, none⟩) hb).trans h.2.2.1, (World.cell?_of_block (w := w) (a := ⟨g, 3, none⟩) hb).trans h.2.2.2⟩
theorem Mod2.mod {C G : Nat} {W w w' : World} (h : Mod C W w) (hm : Mod2 C G w w') (hG : W.heap.size ≤ G) : Mod C W w' :=
  ⟨hm.os.trans h.os, hm.tape.trans h.tape, hm.output.trans h.output, Nat.le_trans h.size hm.size, fun k hk h1 => (hm.block k (Nat.lt_of_lt_of_le hk h.size) h1 (by omega)).trans (h.block k hk h1)⟩
theorem gf_set {w : World} {g : Nat} {f : FD} (h : GF w g f) (f' : FD) : GF (((((w.setCell ⟨g, 0, none⟩ (.bool f'.x)).setCell ⟨g, 1, none⟩ (.bool f'.n)).setCell ⟨g, 2, none⟩ (.bool f'.o)).setCell ⟨g, 3, none⟩ (.int .i64 f'.b)).setCell ⟨g, 4, none⟩ (.bool f'.m)) g f' := by
  obtain ⟨h0, h1, h2, h3, h4, hz⟩ := h
  exact ⟨by simp [go_sem, h0, h1, h2, h3, h4], by simp [go_sem, h0, h1, h2, h3, h4], by simp [go_sem, h0, h1, h2, h3, h4], by simp [go_sem, h0, h1, h2, h3, h4], by simp [go_sem, h0, h1, h2, h3, h4], fun j => by simp [go_sem, hz]⟩
theorem gf_setb {w : World} {g : Nat} {f : FD} (h : GF w g f) (b : Int) : GF (w.setCell ⟨g, 3, none⟩ (.int .i64 b)) g ⟨f.x, f.n, f.o, b, f.m⟩ := by
  obtain ⟨h0, h1, h2, h3, h4, hz⟩ := h
  exact ⟨by simp [go_sem, h0, h1, h2, h3, h4], by simp [go_sem, h0, h1, h2, h3, h4], by simp [go_sem, h0, h1, h2, h3, h4], by simp [go_sem, h0, h1, h2, h3, h4], by simp [go_sem, h0, h1, h2, h3, h4], fun j => by simp [go_sem, hz]⟩

theorem rowV_set4 {g z n : Nat} {W : World} {v : Value} {Cc : Nat → Nat → Value} (h : RowV (g + 1) W v z n Cc) (v0 v1 v2 v3 : Value) :
    RowV g ((((W.setCell ⟨g, 0, none⟩ v0).setCell ⟨g, 1, none⟩ v1).setCell ⟨g, 2, none⟩ v2).setCell ⟨g, 3, none⟩ v3) v z n Cc := by
  rcases h with h | ⟨b, cap, e, hb, hr⟩
  · exact .inl h
  · have hk : ((((W.setCell ⟨g, 0, none⟩ v0).setCell ⟨g, 1, none⟩ v1).setCell ⟨g, 2, none⟩ v2).setCell ⟨g, 3, none⟩ v3).heap[b]? = W.heap[b]? := by
      rw [Below.heap_setCell _ _ _ _ (by simp; omega), Below.heap_setCell _ _ _ _ (by simp; omega), Below.heap_setCell _ _ _ _ (by simp; omega), Below.heap_setCell _ _ _ _ (by simp; omega)]
    exact .inr ⟨b, cap, e, by omega, fun i j hi hj => (World.cell?_of_block (w := W) (a := ⟨b, i * z + j, none⟩) hk).trans (hr.cells i j hi hj), fun k => (World.frozen?_of_block (w := W) (a := ⟨b, k, none⟩) hk).trans (hr.free k), by simpa [World.setCell] using hr.lt⟩

/-- Some times and some list of what is felt, in new memory. -/
def DrawnF (w : World) (e : Ending) (w' : World) : Prop :=
  ∃ (t : TD) (v : Value) (n : Nat) (F : Nat → FD), e = .returned (.tuple #[t.v, v]) ∧ n ≤ 2001 ∧ RowV w.heap.size w' v 5 n (feltC F) ∧ Below w.heap.size w w'

set_option maxHeartbeats 4000000 in
theorem l4feltE (ao : Option Addr) (len cap : Nat) (B : Nat → Int) (w : World) (hl : len ≤ 1048576) (hr : ∀ i, 0 ≤ B i ∧ B i ≤ 255)
    (hb : len = 0 ∨ ∃ b o, ao = some ⟨b, o, none⟩ ∧ b < w.heap.size ∧ ∀ i, i < len → w.cell? ⟨b, o + i, none⟩ = some (.int .u8 (B i))) :
    Calls Try.prog 55 #[.slice ao len cap] w fun e w' => DrawnF w e w' := by
  obtain ⟨i0, hi, hz0, hz1, hz2⟩ := info_parts Try.infoF
  obtain ⟨C, hC⟩ : ∃ C, C = w.heap.size + 1 := ⟨_, rfl⟩
  obtain ⟨W, hW⟩ : ∃ W, W = (w.alloc (.cells #[.int .i64 0, .int .i64 0, .int .i64 0, .int .i64 0] 24)).alloc (.cells #[.slice ao len cap, .int .i64 0, .int .u64 0] 79) := ⟨_, rfl⟩
  have HWB : Hid (Below w.heap.size w W) := hid (by rw [hW]; exact ((Below.refl _ _).alloc (Nat.le_refl _) _).alloc (by simp) _)
  have HDW : Hid (DrawE W C ao len cap B 0) := hid (by
    refine ⟨⟨0, 0⟩, Nat.le_refl _, ⟨?_, ?_, ?_, ?_, by simp, by simp⟩, ?_, hr, hl⟩
    · rw [hW, hC]; simp [go_sem]
    · rw [hW, hC]; simp [go_sem]
    · rw [hW, hC]; simp [go_sem]
    · intro j; rw [hW, hC]; simp [go_sem]
    · rcases hb with e | ⟨b, o, e, hlt, hx⟩
      · exact .inl e
      · exact .inr ⟨b, o, e, by omega, fun i hi => (HWB.out.cell (p := ⟨b, o + i, none⟩) hlt).trans (hx i hi)⟩)
  have HR : Hid (TCell W w.heap.size ⟨0, 0, 0, 0⟩ ∧ ∀ j, W.frozen? ⟨w.heap.size, j, none⟩ = false) := hid (by rw [hW]; exact ⟨⟨by simp [go_sem], by simp [go_sem], by simp [go_sem], by simp [go_sem]⟩, fun j => by simp [go_sem]⟩)
  have HCE : Hid (C = w.heap.size + 1) := hC
  have HZ : Hid (W.heap.size = w.heap.size + 2) := hid (by rw [hW]; simp)
  clear hb hr hl
  go_enter Try.func55, Try.ntmps55
  go_wp2_with fail
  rw [← hW]
  rw [← hC]
  clear hW hC
  refine (l4timesE C len cap ao B 0 _ (by omega) HDW.out).mono ?_
  rintro e w1 ⟨t, rfl, hd1, hm1⟩
  have HD1 : Hid (DrawE w1 C ao len cap B 14) := hd1
  have HM1 : Hid (Mod C W w1) := hm1
  have HT : Hid (t.v = .agg #[.int .i64 t.a, .int .i64 t.b, .int .i64 t.c, .int .i64 t.d]) := rfl
  rw [HT.out]
  clear hd1 hm1
  obtain ⟨TB, hTB⟩ : ∃ TB, TB = w1.heap.size := ⟨_, rfl⟩
  obtain ⟨W2, hW2⟩ : ∃ W2, W2 = (w1.alloc (.cells #[.int .i64 t.a, .int .i64 t.b, .int .i64 t.c, .int .i64 t.d] 24)).alloc (.cells #[.bool false, .bool false, .bool false, .int .i64 0, .bool false] 62) := ⟨_, rfl⟩
  have HB2 : Hid (Below w1.heap.size w1 W2) := hid (by rw [hW2]; exact ((Below.refl _ _).alloc (Nat.le_refl _) _).alloc (by simp) _)
  have HT2 : Hid (TCell W2 TB t) := hid (by rw [hW2, hTB]; exact ⟨by simp [go_sem], by simp [go_sem], by simp [go_sem], by simp [go_sem]⟩)
  have HF2 : Hid (GF W2 (TB + 1) felt0) := hid (by rw [hW2, hTB]; exact ⟨by simp [go_sem, felt0], by simp [go_sem, felt0], by simp [go_sem, felt0], by simp [go_sem, felt0], by simp [go_sem, felt0], fun j => by simp [go_sem]⟩)
  have HM2 : Hid (Mod C W W2) := hid (HM1.out.trans (.of_below HB2.out))
  have HZ2 : Hid (W2.heap.size = TB + 2) := hid (by rw [hW2, hTB]; simp)
  have HTC : Hid (C < TB) := hid (by rw [hTB]; exact HD1.out.lt)
  have HTW : Hid (W.heap.size ≤ TB) := hid (by rw [hTB]; exact HM1.out.size)
  have HD2 : Hid (DrawE W2 C ao len cap B 14) := hid (HD1.out.below HB2.out HD1.out.lt)
  go_wp2_with fail
  rw [← hW2, ← hTB]
  clear hW2 hTB HB2
  refine (pickE C len cap ao B 14 40 _ (by omega) (by omega) (by omega) HD2.out).mono ?_
  rintro e w3 ⟨n0, rfl, ⟨b0, b1⟩, hd3, hm3⟩
  have HD3 : Hid (DrawE w3 C ao len cap B 16) := hd3
  have HM3 : Hid (Mod C W w3) := hid (HM2.out.trans hm3)
  have HT3 : Hid (TCell w3 TB t) := hid (tcell_mod HT2.out hm3 (by have := HTC.out; omega))
  have HF3 : Hid (GF w3 (TB + 1) felt0) := hid (gf_mod HF2.out hm3 (by have := HTC.out; omega))
  have HS3 : Hid (TB + 2 ≤ w3.heap.size) := hid (by rw [← HZ2.out]; exact hm3.size)
  clear hd3 hm3
  obtain ⟨m0, rfl⟩ := Int.eq_ofNat_of_zero_le b0
  clear b0
  go_wp2_with fail
  go_loopw [6, 7, 9] (fun v6 v7 v9 wq => ∃ (k m : Nat) (F : Nat → FD) (br : Int) (f : FD), v9 = .int .i64 (m : Int) ∧ v7 = .int .i64 br ∧ (0 ≤ br ∧ br ≤ 2) ∧ k + m ≤ 40 ∧ wq.ownsRow (TB + 2) 62 5 v6 k (flat 5 (feltC F) k) ∧ GF wq (TB + 1) f ∧ TCell wq TB t ∧
    DrawE wq C ao len cap B (16 + 20 * k) ∧ Mod C W wq ∧ TB + 2 ≤ wq.heap.size) (fun _ _ v9 _ => (intOf v9).toNat)
  case atStart => exact ⟨0, m0, fun _ => felt0, 0, felt0, rfl, rfl, ⟨by omega, by omega⟩, by omega, World.ownsRow_nil _ _ _ _, HF3.out, HT3.out, HD3.out, HM3.out, HS3.out⟩
  case round =>
    obtain ⟨k, m, F, br, f, rfl, rfl, hbr, hkm, hown, hgf, htc, hd, hmod, hsz⟩ := hrel
    have HOWN : Hid (wr.ownsRow (TB + 2) 62 5 u6 k (flat 5 (feltC F) k)) := hown
    have HGF : Hid (GF wr (TB + 1) f) := hgf
    have HTC2 : Hid (TCell wr TB t) := htc
    have HD : Hid (DrawE wr C ao len cap B (16 + 20 * k)) := hd
    have HMD : Hid (Mod C W wr) := hmod
    have HSZ : Hid (TB + 2 ≤ wr.heap.size) := hsz
    clear hown hgf htc hd hmod hsz
    by_cases hm : (0 : Int) < (m : Int)
    · go_wp2_with fail
      refine (pickE C len cap ao B (16 + 20 * k) 4 _ (by omega) (by omega) (by omega) HD.out).mono ?_
      rintro e x1 ⟨v1, rfl, _, hd1, hm1⟩
      have HD1 : Hid (DrawE x1 C ao len cap B (18 + 20 * k)) := hid (hd1.more (by omega))
      have HX1 : Hid (Mod2 C (TB + 1) wr x1) := hid (hm1.two _)
      have HG1 : Hid (GF x1 (TB + 1) f) := hid (gf_mod HGF.out hm1 (by have := HTC.out; omega))
      clear hd1 hm1
      obtain ⟨p1, hp1⟩ : ∃ p, p = (v1 == 0) := ⟨_, rfl⟩
      go_upto_if 23 with fail
      rw [← hp1]
      clear hp1
      go_cut [] (fun wd => ∃ f, GF wd (TB + 1) f ∧ DrawE wd C ao len cap B (32 + 20 * k) ∧ Mod2 C (TB + 1) wr wd)
      case first =>
        cases p1
        · go_wp2
          go_meet
          case rel => exact ⟨f, HG1.out, HD1.out.more (by omega), HX1.out⟩
        · go_wp2_with fail
          refine (feltE C len cap ao B (18 + 20 * k) _ (by omega) HD1.out).mono ?_
          rintro e x2 ⟨f2, rfl, hd2, hm2⟩
          have HFV : Hid (f2.v = .agg #[.bool f2.x, .bool f2.n, .bool f2.o, .int .i64 f2.b, .bool f2.m]) := rfl
          rw [HFV.out]
          have HG2 : Hid (GF x2 (TB + 1) f) := hid (gf_mod HG1.out hm2 (by have := HTC.out; omega))
          obtain ⟨q0, q1, q2, q3, q4, qz⟩ := HG2.out
          have HD2 : Hid (DrawE x2 C ao len cap B (32 + 20 * k)) := hid (hd2.more (by omega))
          have HX2 : Hid (Mod2 C (TB + 1) wr x2) := hid (HX1.out.trans (hm2.two _))
          clear hd2 hm2
          go_wp2
          go_meet
          case rel => exact ⟨f2, gf_set HG2.out f2, HD2.out.below (below_set5 (Below.refl (TB + 1) x2) (Nat.le_refl _) _ _ _ _ _) (by have := HTC.out; omega), HX2.out.set5 _ _ _ _ _⟩
      case rest =>
        obtain ⟨f3, hg3, hd3, hx3⟩ := hcut
        have HG3 : Hid (GF wc (TB + 1) f3) := hg3
        have HD3' : Hid (DrawE wc C ao len cap B (32 + 20 * k)) := hd3
        have HX3 : Hid (Mod2 C (TB + 1) wr wc) := hx3
        clear hg3 hd3 hx3
        obtain ⟨y3, ey3⟩ : ∃ y, y = wc := ⟨wc, rfl⟩
        subst ey3
        go_wp2_with fail
        refine (pickE C len cap ao B (32 + 20 * k) 3 _ (by omega) (by omega) (by omega) HD3'.out).mono ?_
        rintro e x4 ⟨v4, rfl, ⟨c0, c1⟩, hd4, hm4⟩
        have HD4 : Hid (DrawE x4 C ao len cap B (34 + 20 * k)) := hid (hd4.more (by omega))
        have HX4 : Hid (Mod2 C (TB + 1) wr x4) := hid (HX3.out.trans (hm4.two _))
        have HG4 : Hid (GF x4 (TB + 1) f3) := hid (gf_mod HG3.out hm4 (by have := HTC.out; omega))
        clear hd4 hm4
        obtain ⟨p4, hp4⟩ : ∃ p, p = decide ((0 : Int) < v4) := ⟨_, rfl⟩
        go_upto_if 28 with fail
        rw [← hp4]
        clear hp4
        go_cut [7] (fun v7 wd => ∃ br', v7 = .int .i64 br' ∧ (0 ≤ br' ∧ br' ≤ 2) ∧ GF wd (TB + 1) f3 ∧ DrawE wd C ao len cap B (36 + 20 * k) ∧ Mod2 C (TB + 1) wr wd)
        case first =>
          cases p4
          · go_wp2
            go_meet
            case rel => exact ⟨br, rfl, hbr, HG4.out, HD4.out.more (by omega), HX4.out⟩
          · go_wp2_with fail
            refine (pickE C len cap ao B (34 + 20 * k) 2 _ (by omega) (by omega) (by omega) HD4.out).mono ?_
            rintro e x5 ⟨v5, rfl, ⟨d0, d1⟩, hd5, hm5⟩
            have HG5 : Hid (GF x5 (TB + 1) f3) := hid (gf_mod HG4.out hm5 (by have := HTC.out; omega))
            have HD5 : Hid (DrawE x5 C ao len cap B (36 + 20 * k)) := hid (hd5.more (by omega))
            have HX5 : Hid (Mod2 C (TB + 1) wr x5) := hid (HX4.out.trans (hm5.two _))
            clear hd5 hm5
            have hb0 := hbr.1
            have hb2 := hbr.2
            go_wp2
            go_meet
            case rel =>
              exact ⟨_, rfl, ⟨Int.emod_nonneg _ (by omega), by omega⟩, HG5.out, HD5.out, HX5.out⟩
        case rest =>
          obtain ⟨br6, rfl, hbr6, hg6, hd6, hx6⟩ := hcut
          have HG6 : Hid (GF wc (TB + 1) f3) := hg6
          have HD6 : Hid (DrawE wc C ao len cap B (36 + 20 * k)) := hd6
          have HX6 : Hid (Mod2 C (TB + 1) wr wc) := hx6
          obtain ⟨y6, ey6⟩ : ∃ y, y = wc := ⟨wc, rfl⟩
          subst ey6
          obtain ⟨q0, q1, q2, q3, q4, qz⟩ := HG6.out
          clear hg6 hd6 hx6
          go_wp2_with fail
          refine (l1in_any f3.b 0 2 _).mono ?_
          rintro e x7 ⟨rfl, hx7⟩
          replace hx7 := hx7.symm
          subst hx7
          obtain ⟨p7, hp7⟩ : ∃ p, p = inB f3.b 0 2 := ⟨_, rfl⟩
          rw [← hp7]
          clear hp7
          go_upto_if 36 with fail
          go_cut [] (fun wd => ∃ f, GF wd (TB + 1) f ∧ DrawE wd C ao len cap B (36 + 20 * k) ∧ Mod2 C (TB + 1) wr wd)
          case first =>
            cases p7
            · go_wp2
              go_meet
              case rel => exact ⟨f3, HG6.out, HD6.out, HX6.out⟩
            · go_wp2
              go_meet
              case rel => exact ⟨⟨f3.x, f3.n, f3.o, br6, f3.m⟩, gf_setb HG6.out br6, HD6.out.below ((Below.refl (TB + 1) _).setCell (p := ⟨TB + 1, 3, none⟩) (Nat.le_refl _) _) (by have := HTC.out; omega), HX6.out.set _ _⟩
          case rest =>
            obtain ⟨f8, hg8, hd8, hx8⟩ := hcut
            have HO8 : Hid (wc.ownsRow (TB + 2) 62 5 u6 k (flat 5 (feltC F) k)) := hid (hx8.own HOWN.out (by have := HTC.out; omega) (by omega))
            have HG8 : Hid (GF wc (TB + 1) f8) := hg8
            have HD8 : Hid (DrawE wc C ao len cap B (36 + 20 * k)) := hd8
            have HT8 : Hid (TCell wc TB t) := hid (hx8.tcell HTC2.out (by have := HTC.out; omega) (by omega))
            have HM8 : Hid (Mod C W wc) := hid (Mod2.mod HMD.out hx8 (by have := HTW.out; omega))
            have HS8 : Hid (TB + 2 ≤ wc.heap.size) := hid (Nat.le_trans HSZ.out hx8.size)
            clear hg8 hd8 hx8 q0 q1 q2 q3 q4 qz
            obtain ⟨q0, q1, q2, q3, q4, qz⟩ := HG8.out
            go_wp2_with (at_builtin; refine wpList_append_own _ rfl _ _ 41 rfl (TB + 2) 62 i0 _ 5 24 Try.underlying41 hi hz0 hz1 hz2 rfl (by decide) u6 k (flat 5 (feltC F) k) rfl (HO8.out.alloc _) ⟨wc.heap.size, 0, none⟩ 1 1 (feltL f8) rfl rfl (news5 f8 _ _ _ (by simp)) (felt_one f8) (by unfold maxLen; omega) (by omega) (by have := HS8.out; simp; omega) ?_; intro v' w9 hown' hgrow hnil)
            have HA : Hid (Below (TB + 2) wc w9) := hid (((Below.refl _ _).alloc (by have := HS8.out; omega) _).grown hgrow (by have := HS8.out; simp; omega) (fun kk e => (HO8.out.lt kk e).1))
            rw [flat_felt] at hown'
            have HG9 : Hid (GF w9 (TB + 1) f8) := hid (by
              obtain ⟨q0, q1, q2, q3, q4, qz⟩ := HG8.out
              exact ⟨(HA.out.cell (by simp)).trans q0, (HA.out.cell (by simp)).trans q1, (HA.out.cell (by simp)).trans q2, (HA.out.cell (by simp)).trans q3, (HA.out.cell (by simp)).trans q4, fun j => (HA.out.frozen (p := ⟨TB + 1, j, none⟩) (by simp)).trans (qz j)⟩)
            refine ⟨⟨k + 1, m - 1, _, br6, f8, by congr 1; omega, rfl, hbr6, by omega, hown', HG9.out, HT8.out.below HA.out (by omega), (HD8.out.more (by omega)).below HA.out (by have := HTC.out; omega), ?_, Nat.le_trans HS8.out HA.out.size⟩, by simp [intOf]; omega⟩
            exact ⟨HA.out.os.trans HM8.out.os, HA.out.tape.trans HM8.out.tape, HA.out.output.trans HM8.out.output, Nat.le_trans HM8.out.size HA.out.size, fun i hi hne => (HA.out.block i (by have := HTW.out; omega)).trans (HM8.out.block i hi hne)⟩
    · have hRZ : ∀ j, wr.frozen? ⟨w.heap.size, j, none⟩ = false := fun j => (HMD.out.frozen (by have := HZ.out; omega) (by have := HCE.out; omega) j).trans (HR.out.2 j)
      have HRW : Hid (TCell wr w.heap.size ⟨0, 0, 0, 0⟩ ∧ ∀ j, wr.frozen? ⟨w.heap.size, j, none⟩ = false) := hid ⟨tcell_mod HR.out.1 HMD.out (by have := HCE.out; omega), hRZ⟩
      clear hRZ
      go_wp2_with fail
      refine (pickE C len cap ao B (16 + 20 * k) 80 _ (by omega) (by omega) (by omega) HD.out).mono ?_
      rintro e x1 ⟨v1, rfl, _, hd1, hm1⟩
      have HD1 : Hid (DrawE x1 C ao len cap B (18 + 20 * k)) := hid (hd1.more (by omega))
      have HX1 : Hid (Mod C wr x1) := hm1
      clear hd1 hm1
      obtain ⟨p1, hp1⟩ : ∃ p, p = (v1 == 0) := ⟨_, rfl⟩
      go_upto_if 45 with fail
      rw [← hp1]
      clear hp1
      go_cut [6] (fun v6 wd => ∃ n F, n ≤ 2001 ∧ RowV (w.heap.size + 1) wd v6 5 n (feltC F) ∧ Mod C wr wd)
      case first =>
        cases p1
        · go_wp2
          go_meet
          case rel => exact ⟨k, F, by omega, rowV_own (own_mod HOWN.out HX1.out (by have := HTC.out; omega)) (by have := HTW.out; have := HZ.out; omega), HX1.out⟩
        · go_wp2_with fail
          refine (pickE C len cap ao B (18 + 20 * k) 2 _ (by omega) (by omega) (by omega) HD1.out).mono ?_
          rintro e x2 ⟨v2, rfl, ⟨c0, c1⟩, hd2, hm2⟩
          have HX2 : Hid (Mod C wr x2) := hid (HX1.out.trans hm2)
          clear hd2 hm2
          obtain ⟨n2, rfl⟩ := Int.eq_ofNat_of_zero_le c0
          have HNN : Hid ((2000 : Int) + (n2 : Int) = ((2000 + n2 : Nat) : Int)) := hid (by omega)
          go_wp2_with (at_make; refine wpList_make_full _ rfl _ _ 41 rfl x2.heap.size 62 i0 _ 5 Try.underlying41 hi hz0 hz1 _ _ _ _ (2000 + n2) rfl rfl HNN.out HNN.out (by rw [hz2]; omega) (by unfold maxLen; omega) (Nat.le_refl _) ?_; intro x3 hown hgrow)
          have HLT3 : Hid (x2.heap.size < x3.heap.size) := hid (hown.lt x2.heap.size rfl).2
          have HR3 : Hid (Row x3 x2.heap.size 5 (2000 + n2) (feltC (fun _ => felt0))) := hid ((row_made (z := 5) rfl hown HLT3.out).congr (fun i j _ hj => by
            have : j = 0 ∨ j = 1 ∨ j = 2 ∨ j = 3 ∨ j = 4 := by omega
            rcases this with rfl | rfl | rfl | rfl | rfl <;> rfl))
          have HX3 : Hid (Mod C wr x3) := hid (HX2.out.trans (Mod.of_below ((Below.refl _ _).grown hgrow (Nat.le_refl _) (fun k e => by cases e))))
          clear hown hgrow
          go_meet
          case rel => exact ⟨2000 + n2, fun _ => felt0, by omega, .inr ⟨x2.heap.size, 2000 + n2, rfl, by have := HX2.out.size; have := HSZ.out; have := HTW.out; have := HZ.out; omega, HR3.out⟩, HX3.out⟩
      case rest =>
        obtain ⟨n, F, hn, hv, hx⟩ := hcut
        obtain ⟨t0, t1, t2, t3⟩ := tcell_mod HTC2.out hx (by have := HTC.out; omega)
        have hlw : w.heap.size < wr.heap.size := by have := HSZ.out; have := HTW.out; have := HZ.out; omega
        obtain ⟨r0, r1, r2, r3⟩ := tcell_mod HRW.out.1 hx (by have := HCE.out; omega)
        have rz : ∀ j, wc.frozen? ⟨w.heap.size, j, none⟩ = false := fun j => (hx.frozen hlw (by have := HCE.out; omega) j).trans (HRW.out.2 j)
        have HV : Hid (RowV (w.heap.size + 1) wc u6 5 n (feltC F)) := hv
        have HWC : Hid (Mod C w wc) := hid (((Mod.of_below HWB.out).trans HMD.out).trans hx)
        clear hv hx
        have nT : ¬ w.heap.size = TB := by have := HTW.out; have := HZ.out; omega
        have nT2 : ¬ TB = w.heap.size := fun e => nT e.symm
        go_wp2
        exact bodyPost_ret (v := .tuple #[.agg #[.int .i64 t.a, .int .i64 t.b, .int .i64 t.c, .int .i64 t.d], u6]) (by simp [results, Try.results55, go_sem, r0, r1, r2, r3]) rfl
          ⟨t, u6, n, F, rfl, hn, rowV_set4 HV.out _ _ _ _, (HWC.out.below (by have := HCE.out; omega) (Nat.le_refl _)).trans (below_set4 (Below.refl w.heap.size wc) (Nat.le_refl _) _ _ _ _)⟩

set_option maxHeartbeats 1000000 in
theorem drawWaitsE (ao : Option Addr) (len cap : Nat) (B : Nat → Int) (w : World) (hl : len ≤ 1048576) (hr : ∀ i, 0 ≤ B i ∧ B i ≤ 255)
    (hb : len = 0 ∨ ∃ b o, ao = some ⟨b, o, none⟩ ∧ b < w.heap.size ∧ ∀ i, i < len → w.cell? ⟨b, o + i, none⟩ = some (.int .u8 (B i))) :
    Calls Try.prog 19 #[.slice ao len cap] w fun e w' => DrawnF w e w' := by
  obtain ⟨W, hW⟩ : ∃ W, W = w.alloc (.cells #[.int .i64 0, .int .i64 0, .int .i64 0, .int .i64 0] 24) := ⟨_, rfl⟩
  have HWB : Hid (Below w.heap.size w W) := hid (by rw [hW]; exact (Below.refl _ _).alloc (Nat.le_refl _) _)
  have HZ : Hid (W.heap.size = w.heap.size + 1) := hid (by rw [hW]; simp)
  have HR : Hid (TCell W w.heap.size ⟨0, 0, 0, 0⟩ ∧ ∀ j, W.frozen? ⟨w.heap.size, j, none⟩ = false) := hid (by rw [hW]; exact ⟨⟨by simp [go_sem], by simp [go_sem], by simp [go_sem], by simp [go_sem]⟩, fun j => by simp [go_sem]⟩)
  have HBB : Hid (len = 0 ∨ ∃ b o, ao = some ⟨b, o, none⟩ ∧ b < W.heap.size ∧ ∀ i, i < len → W.cell? ⟨b, o + i, none⟩ = some (.int .u8 (B i))) := hid (by
    rcases hb with e | ⟨b, o, e, hlt, hx⟩
    · exact .inl e
    · exact .inr ⟨b, o, e, by have := HZ.out; omega, fun i hi => (HWB.out.cell (p := ⟨b, o + i, none⟩) hlt).trans (hx i hi)⟩)
  have HRG : Hid (∀ i, 0 ≤ B i ∧ B i ≤ 255) := hr
  clear hb hr
  go_enter Try.func19, Try.ntmps19
  go_wp2_with fail
  rw [← hW]
  clear hW
  refine (l4feltE ao len cap B W hl HRG.out HBB.out).mono ?_
  rintro e w1 ⟨t, v, n, F, rfl, hn, hv, hb⟩
  have HT : Hid (t.v = .agg #[.int .i64 t.a, .int .i64 t.b, .int .i64 t.c, .int .i64 t.d]) := rfl
  rw [HT.out]
  have HV : Hid (RowV (w.heap.size + 1) w1 v 5 n (feltC F)) := hid (by rw [← HZ.out]; exact hv)
  have HB : Hid (Below w.heap.size w w1) := hid (HWB.out.trans (hb.mono HWB.out.size))
  obtain ⟨r0, r1, r2, r3⟩ := HR.out.1.below hb (by have := HZ.out; omega)
  have rz : ∀ j, w1.frozen? ⟨w.heap.size, j, none⟩ = false := fun j => (hb.frozen (p := ⟨w.heap.size, j, none⟩) (by have := HZ.out; show w.heap.size < W.heap.size; omega)).trans (HR.out.2 j)
  clear hv hb
  go_wp2
  exact bodyPost_ret (v := .tuple #[.agg #[.int .i64 t.a, .int .i64 t.b, .int .i64 t.c, .int .i64 t.d], v]) (by simp [results, Try.results19, go_sem, r0, r1, r2, r3]) rfl
    ⟨t, v, n, F, rfl, hn, rowV_set4 HV.out _ _ _ _, HB.out.trans (below_set4 (Below.refl w.heap.size w1) (Nat.le_refl _) _ _ _ _)⟩

end Go.Proofs.Ytcidikmbngflcaa
