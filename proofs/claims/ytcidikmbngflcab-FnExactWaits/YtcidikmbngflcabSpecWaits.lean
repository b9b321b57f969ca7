/-
  spec.Waits.
-/
import Derived.Test.YtcidikmbngflcabSpecRun
import Derived.Test.YtcidikmbngflcabWaitsP
import Derived.Test.YtcidikmbngflcabCells
namespace Go.Proofs.Ytcidikmbngflcab
open Go.ChangeShapes Go.WideShapes Go.ChangeAt Go.RowKit
set_option maxRecDepth 100000
set_option linter.unusedSimpArgs false

theorem Try.infoW : (Try.prog.info? 57).map (fun i => (i.zero, i.size, i.bytes)) = some (some (.agg #[.int .i64 0, .int .i64 0, .bool false]), 3, 24) := by kernel_rfl

/-- The cells of a list of waits. -/
def wC (l : List WD) (i j : Nat) : Value := waitCell (l.getD i wait0) j
theorem wC_last (f : WD → WD) (l : List WD) (i j : Nat) (hi : i < l.length) : wC (lastBy f l) i j = waitCell (if i = l.length - 1 then f (l.getD (l.length - 1) wait0) else l.getD i wait0) j := by
  unfold wC lastBy
  by_cases e : i = l.length - 1
  · subst e
    rw [if_pos rfl]
    congr 1
    rw [List.getD_eq_getElem?_getD, List.getElem?_set_self hi]
    rfl
  · rw [if_neg e]
    congr 1
    rw [List.getD_eq_getElem?_getD, List.getElem?_set_ne (fun h => e h.symm), ← List.getD_eq_getElem?_getD]
theorem wC_snoc (l : List WD) (d : WD) (i j : Nat) (hi : i < l.length + 1) : wC (l ++ [d]) i j = if i = l.length then waitCell d j else wC l i j := by
  unfold wC
  by_cases e : i = l.length
  · subst e; simp
  · rw [if_neg e]
    congr 1
    simp [List.getD_eq_getElem?_getD, List.getElem?_append_left (show i < l.length by omega)]
theorem flat_snoc (l : List WD) (d : WD) : flat 3 (wC (l ++ [d])) (l.length + 1) = flat 3 (wC l) l.length ++ [.int .i64 d.fr, .int .i64 d.tt, .bool d.us] := by
  rw [flat_succ]
  congr 1
  · exact flat_congr (fun i j hi _ => by rw [wC_snoc l d i j (by omega), if_neg (by omega)])
  · have : wC (l ++ [d]) l.length = waitCell d := funext fun j => by rw [wC_snoc l d _ _ (by omega), if_pos rfl]
    rw [this]
    rfl
theorem own_slice {w : World} {base e z n : Nat} {v : Value} {xs : List Value} (h : w.ownsRow base e z v n xs) : ∃ ao cap, v = .slice ao n cap := by
  rcases h.2 with ⟨rfl, rfl⟩ | ⟨g, cap, _, hv, _⟩
  · exact ⟨_, _, rfl⟩
  · exact ⟨_, _, hv⟩
theorem flat_lastT (l : List WD) (m : Nat) (q : Int) (hm : l.length = m + 1) : flat 3 (fun i j => if i = m ∧ j = 1 then .int .i64 q else wC l i j) (m + 1) = flat 3 (wC (lastBy (fun d => ⟨d.fr, q, d.us⟩) l)) (m + 1) :=
  flat_congr fun i j hi hj => by
    rw [wC_last _ l i j (by omega), hm]
    by_cases e : i = m
    · subst e
      have : j = 0 ∨ j = 1 ∨ j = 2 := by omega
      rcases this with rfl | rfl | rfl <;> simp [waitCell, wC]
    · simp [e, wC]
theorem flat_lastU (l : List WD) (m : Nat) (hm : l.length = m + 1) : flat 3 (fun i j => if i = m ∧ j = 2 then .bool true else wC l i j) (m + 1) = flat 3 (wC (lastBy (fun d => ⟨d.fr, d.tt, true⟩) l)) (m + 1) :=
  flat_congr fun i j hi hj => by
    rw [wC_last _ l i j (by omega), hm]
    by_cases e : i = m
    · subst e
      have : j = 0 ∨ j = 1 ∨ j = 2 := by omega
      rcases this with rfl | rfl | rfl <;> simp [waitCell, wC]
    · simp [e, wC]
theorem own_form {w : World} {base e z n : Nat} {v : Value} {xs : List Value} (h : w.ownsRow base e z v n xs) (hn : 0 < n) : ∃ g cap, v = .slice (some ⟨g, 0, none⟩) n cap := by
  rcases h.2 with ⟨_, h0⟩ | ⟨g, cap, _, hv, _⟩
  · omega
  · exact ⟨g, cap, hv⟩
theorem news3 (d : WD) (w : World) (t : TypeId) (g : Nat) (hg : g = w.heap.size) (j : Nat) (x : Value) (h : [Value.int .i64 d.fr, .int .i64 d.tt, .bool d.us][j]? = some x) : (w.alloc (.cells #[.int .i64 d.fr, .int .i64 d.tt, .bool d.us] t)).cell? ((⟨g, 0, none⟩ : Addr).add j) = some x := by
  subst hg
  have e : ((⟨w.heap.size, 0, none⟩ : Addr).add j) = ⟨w.heap.size, j, none⟩ := by simp [Addr.add]; try exact fun e => e.symm
  rw [e, World.cell?_alloc_new, ← h]
  simp

set_option maxHeartbeats 2000000 in
theorem specWaits_some (t : TD) (b o len cap : Nat) (F : Nat → FD) (w : World) (hpos : 0 < len) (hlen : len ≤ 1048576) (hb : b < w.heap.size) (hc : ∀ i, i < len → FCell w b o i (F i)) :
    Calls Try.prog 7 #[t.v, .slice (some ⟨b, o, none⟩) len cap] w fun e w' => ∃ v, e = .returned v ∧ RowV w.heap.size w' v 3 (waitLen t F len) (fun i j => waitCell (waitAt t F len i) j) ∧ Below w.heap.size w w' := by
  obtain ⟨i0, hi, hz0, hz1, hz2⟩ := info_parts Try.infoW
  have HT : Hid (t.v = .agg #[.int .i64 t.a, .int .i64 t.b, .int .i64 t.c, .int .i64 t.d]) := rfl
  rw [HT.out]
  have HC : Hid (∀ i, i < len → FCell w b o i (F i)) := hc
  have HBB : Hid (b < w.heap.size) := hb
  have HPOS : Hid (0 < len) := hpos
  clear hc hb hpos
  obtain ⟨N, hN⟩ : ∃ N, N = runLen t F len := ⟨_, rfl⟩
  have HN : Hid (N = runLen t F len) := hN
  have hNl : N ≤ len := by rw [hN]; exact runLen_le t F len
  have HWL : Hid (waitLen t F len = (wSt t F N).1.length) := hid (by rw [hN]; rfl)
  have HWA : Hid (∀ i, waitAt t F len i = (wSt t F N).1.getD i wait0) := hid (by rw [hN]; intro i; rfl)
  clear hN
  go_enter Try.func7, Try.ntmps7
  go_wp2_with fail
  rw [← HT.out]
  refine (specRun_some t b o len cap F _ HPOS.out hlen (by have := HBB.out; simp; omega) (fun i hi => (HC.out i hi).below ((Below.refl _ _).alloc (Nat.le_refl _) _) HBB.out)).mono ?_
  rintro e w3 ⟨v0, rfl, hv0, hb3⟩
  have HX : Hid (Below w.heap.size w w3) := hid (((Below.refl _ _).alloc (Nat.le_refl _) _).trans (hb3.mono (by simp)))
  rw [← HN.out] at hv0
  clear hb3
  by_cases hN0 : N = 0
  · subst hN0
    obtain ⟨ar, cr, rfl⟩ := hv0.form0
    clear hv0
    go_wp2_with fail
    refine wp_loop_rounds 1 ?_
    rw [rounds_succ]
    go_wp2
    go_ret
    exact ⟨_, rfl, .inl ⟨HWL.out, none, 0, rfl⟩, HX.out⟩
  obtain ⟨gr, cr, rfl, _, hrr⟩ := hv0.formS (by omega)
  have HRR : Hid (Row w3 gr 9 N (fun i j => saidCell (saidAt t F i) j)) := hrr
  clear hv0 hrr
  obtain ⟨B, hB⟩ : ∃ B, B = w3.heap.size := ⟨_, rfl⟩
  have HBE : Hid (B = w3.heap.size) := hB
  clear hB
  go_wp2_with fail
  go_loopw [5, 6, 14] (fun v5 v6 i wr => ∃ q : Nat, q ≤ N ∧ i = .int .i64 q ∧ v6 = .bool (wSt t F q).2 ∧ wr.ownsRow B 57 3 v5 (wSt t F q).1.length (flat 3 (wC (wSt t F q).1) (wSt t F q).1.length) ∧ Below B w3 wr) (fun _ _ i _ => N - (intOf i).toNat)
  case atStart => exact ⟨0, Nat.zero_le _, rfl, rfl, World.ownsRow_nil _ _ _ _, Below.refl _ _⟩
  case round =>
    obtain ⟨q, hqN, rfl, rfl, hown, hbel⟩ := hrel
    obtain ⟨st, hst⟩ : ∃ st, st = wSt t F q := ⟨_, rfl⟩
    obtain ⟨L, p⟩ := st
    have HINV : Hid (p = false → 0 < L.length) := hid (by have := (wSt_inv t F q).1; rw [← hst] at this; exact this)
    have hLq : L.length ≤ q := by have := (wSt_inv t F q).2; rw [← hst] at this; exact this
    rw [← hst] at hown ⊢
    have HST : Hid ((L, p) = wSt t F q) := hst
    have HOWN : Hid (wr.ownsRow B 57 3 u5 L.length (flat 3 (wC L) L.length)) := hown
    have HBEL : Hid (Below B w3 wr) := hbel
    clear hst hown hbel
    by_cases hlt : q < N
    · have HBW : Hid (Below w.heap.size w wr) := hid (HX.out.trans (HBEL.out.mono (by rw [HBE.out]; exact HX.out.size)))
      obtain ⟨_, _, con, _, _⟩ := (HC.out q (by omega)).below HBW.out HBB.out
      have hrow := HRR.out.below HBEL.out (by rw [HBE.out]; exact HRR.out.lt)
      have r0 := hrow.cells q 0 hlt (by omega)
      have r1 := hrow.cells q 1 hlt (by omega)
      have r2 := hrow.cells q 2 hlt (by omega)
      have r3 := hrow.cells q 3 hlt (by omega)
      have r4 := hrow.cells q 4 hlt (by omega)
      have r5 := hrow.cells q 5 hlt (by omega)
      have r6 := hrow.cells q 6 hlt (by omega)
      have r7 := hrow.cells q 7 hlt (by omega)
      have r8 := hrow.cells q 8 hlt (by omega)
      have hbl : b < wr.heap.size := Nat.lt_of_lt_of_le HBB.out HBW.out.size
      have ob := old_cell (wc := wr) (g := b) hbl
      simp only [saidCell, Nat.add_zero] at r0 r1 r2 r3 r4 r5 r6 r7 r8
      obtain ⟨sd, hsd⟩ : ∃ sd, sd = saidAt t F q := ⟨_, rfl⟩
      have HSD : Hid (wSt t F (q + 1) = wStep q sd.red (F q).o (L, p)) := hid (by rw [HST.out, hsd]; rfl)
      rw [← hsd] at r0 r1 r2 r3 r4 r5 r6 r7 r8
      clear hsd hrow
      simp at r0 r1 r2 r3 r4 r5 r6 r7 r8
      cases hred : sd.red <;> cases p
      · -- not red, red before: the wait ends
        have HS2 : Hid (wSt t F (q + 1) = (lastBy (fun d => ⟨d.fr, (q : Int), d.us⟩) L, true)) := hid (by rw [HSD.out, hred, wStep_ff])
        obtain ⟨m, hm⟩ : ∃ m, L.length = m + 1 := ⟨L.length - 1, by have := HINV.out rfl; omega⟩
        have hmb : m + 1 ≤ 1048576 := by omega
        have HO := HOWN.out
        rw [hm] at HO
        obtain ⟨g, cu, hu5⟩ := own_form HO (by omega)
        subst hu5
        have hrw := row_own HO
        have hglt := hrw.lt
        have og := old_cell (wc := wr) (g := g) hglt
        have og2 := old_frozen (wc := wr) (g := g) hglt
        have k1 := hrw.cells m 1 (by omega) (by omega)
        have k2 := hrw.cells m 2 (by omega) (by omega)
        have kz := hrw.free
        have HOW2 : Hid (wr.ownsRow B 57 3 (.slice (some ⟨g, 0, none⟩) (m + 1) cu) (m + 1) (flat 3 (wC L) (m + 1))) := HO
        have HM : Hid (L.length = m + 1) := hm
        have ng : ¬ g = wr.heap.size := by omega
        have ng2 : ¬ wr.heap.size = g := by omega
        have HGB : Hid (B ≤ g) := (HO.lt g rfl).1
        have HBS : Hid (B ≤ wr.heap.size) := hid (by have := HBEL.out.size; rw [HBE.out]; exact this)
        clear HO hrw hm HOWN
        go_wp2
        go_roundw
        case rel =>
          refine ⟨q + 1, by omega, by go_num, ?_, ?_, ?_⟩
          · rw [HS2.out]
          · rw [HS2.out, lastBy_length, HM.out, ← flat_lastT L m q HM.out]; exact (own_set HOW2.out m 1 (by omega) (by omega) _).alloc _
          · exact (HBEL.out.setCell HGB.out _).alloc (by have := HBS.out; simpa [World.setCell] using this) _
        case measure => simp [intOf]; omega
      · -- not red, nor before
        have HS2 : Hid (wSt t F (q + 1) = (L, true)) := hid (by rw [HSD.out, hred, wStep_ft])
        obtain ⟨au, cu, hu5⟩ := own_slice HOWN.out
        subst hu5
        go_wp2
        go_roundw
        case rel =>
          refine ⟨q + 1, by omega, by go_num, ?_, ?_, ?_⟩
          · rw [HS2.out]
          · rw [HS2.out]; exact HOWN.out.alloc _
          · exact HBEL.out.alloc (by have := HBEL.out.size; rw [HBE.out]; exact this) _
        case measure => simp [intOf]; omega
      · -- red, and before
        obtain ⟨m, hm⟩ : ∃ m, L.length = m + 1 := ⟨L.length - 1, by have := HINV.out rfl; omega⟩
        have hmb : m + 1 ≤ 1048576 := by omega
        have HO := HOWN.out
        rw [hm] at HO
        obtain ⟨g, cu, hu5⟩ := own_form HO (by omega)
        subst hu5
        have hrw := row_own HO
        have hglt := hrw.lt
        have og := old_cell (wc := wr) (g := g) hglt
        have og2 := old_frozen (wc := wr) (g := g) hglt
        have k1 := hrw.cells m 1 (by omega) (by omega)
        have k2 := hrw.cells m 2 (by omega) (by omega)
        have kz := hrw.free
        have HOW2 : Hid (wr.ownsRow B 57 3 (.slice (some ⟨g, 0, none⟩) (m + 1) cu) (m + 1) (flat 3 (wC L) (m + 1))) := HO
        have HM : Hid (L.length = m + 1) := hm
        have ng : ¬ g = wr.heap.size := by omega
        have ng2 : ¬ wr.heap.size = g := by omega
        have HGB : Hid (B ≤ g) := (HO.lt g rfl).1
        have HBS : Hid (B ≤ wr.heap.size) := hid (by have := HBEL.out.size; rw [HBE.out]; exact this)
        clear HO hrw hm HOWN
        cases hon : (F q).o
        · have HS2 : Hid (wSt t F (q + 1) = (L, false)) := hid (by rw [HSD.out, hred, hon, wStep_tf]; rfl)
          go_wp2
          go_roundw
          case rel =>
            refine ⟨q + 1, by omega, by go_num, ?_, ?_, ?_⟩
            · rw [HS2.out]
            · rw [HS2.out, HM.out]; exact HOW2.out.alloc _
            · exact HBEL.out.alloc HBS.out _
          case measure => simp [intOf]; omega
        · have HS2 : Hid (wSt t F (q + 1) = (lastBy (fun d => ⟨d.fr, d.tt, true⟩) L, false)) := hid (by rw [HSD.out, hred, hon, wStep_tf]; rfl)
          go_wp2
          go_roundw
          case rel =>
            refine ⟨q + 1, by omega, by go_num, ?_, ?_, ?_⟩
            · rw [HS2.out]
            · rw [HS2.out, lastBy_length, HM.out, ← flat_lastU L m HM.out]; exact (own_set HOW2.out m 2 (by omega) (by omega) _).alloc _
            · exact (HBEL.out.setCell HGB.out _).alloc (by have := HBS.out; simpa [World.setCell] using this) _
          case measure => simp [intOf]; omega
      · -- red, not before: a wait begins
        obtain ⟨nd, hnd⟩ : ∃ nd : WD, nd = ⟨(q : Int), -1, false⟩ := ⟨_, rfl⟩
        have HND : Hid (nd = ⟨(q : Int), -1, false⟩) := hnd
        clear hnd
        obtain ⟨au, cu, hu5⟩ := own_slice HOWN.out
        subst hu5
        have hmax : L.length + 1 ≤ maxLen := by unfold maxLen; omega
        have hby : (L.length + 1) * 24 ≤ 140737488355328 := by omega
        have HBS : Hid (B ≤ wr.heap.size) := hid (by have := HBEL.out.size; rw [HBE.out]; exact this)
        have HOA : Hid (((wr.alloc (.cells #[.bool sd.ok, .int .i64 sd.g.s, .int .i64 sd.g.i, .int .i64 sd.g.u, .bool sd.g.f, .bool sd.may, .bool true, .bool sd.down, .bool sd.long] 55)).alloc (.cells #[.int .i64 (q : Int), .int .i64 (-1), .bool false] 57)).ownsRow B 57 3 (.slice au L.length cu) L.length (flat 3 (wC L) L.length)) := hid ((HOWN.out.alloc _).alloc _)
        have HLT : Hid (∀ kk, (Value.slice au L.length cu).ownBlock = some kk → B ≤ kk ∧ kk < wr.heap.size) := hid (fun kk e => HOWN.out.lt kk e)
        have HFL : Hid (flat 3 (wC L) L.length ++ [.int .i64 (q : Int), .int .i64 (-1), .bool false] = flat 3 (wC (L ++ [nd])) (L.length + 1)) := hid (by rw [flat_snoc, HND.out])
        go_upto_if 23 with fail
        go_cut [5] (fun v5 wd => ∃ g cp, v5 = .slice (some ⟨g, 0, none⟩) (L.length + 1) cp ∧ wd.ownsRow B 57 3 v5 (L.length + 1) (flat 3 (wC (L ++ [nd])) (L.length + 1)) ∧ Below B w3 wd ∧ wd.cell? ⟨wr.heap.size, 6, none⟩ = some (.bool true) ∧ wr.heap.size < wd.heap.size ∧ ¬ g = wr.heap.size)
        case first =>
          go_wp2_with (at_builtin; refine wpList_append_own _ rfl _ _ 26 rfl B 57 i0 _ 3 24 Try.underlying26 hi hz0 hz1 hz2 rfl (by decide) (.slice au L.length cu) L.length (flat 3 (wC L) L.length) rfl HOA.out ⟨wr.heap.size + 1, 0, none⟩ 1 1 [.int .i64 (q : Int), .int .i64 (-1), .bool false] rfl rfl (news3 ⟨(q : Int), -1, false⟩ _ _ _ (by simp)) (by intro x hx; simp at hx; rcases hx with rfl | rfl | rfl <;> rfl) hmax hby (by have := HBS.out; simp; omega) ?_; intro v' w4 hown' hgrow hnil)
          rw [HFL.out] at hown'
          obtain ⟨g, cp, hv'⟩ := own_form hown' (by omega)
          subst hv'
          have hs4 : w4.heap[wr.heap.size]? = some (.cells #[.bool sd.ok, .int .i64 sd.g.s, .int .i64 sd.g.i, .int .i64 sd.g.u, .bool sd.g.f, .bool sd.may, .bool true, .bool sd.down, .bool sd.long] 55) := by
            rw [hgrow.block wr.heap.size (by simp; omega) (fun e => by have := (HLT.out _ e.symm).2; omega)]
            rw [Below.heap_alloc _ _ _ (by simp)]
            exact heap_alloc_new _ _
          have HM4 : Hid (∃ g' cp', (Value.slice (some ⟨g, 0, none⟩) (L.length + 1) cp) = .slice (some ⟨g', 0, none⟩) (L.length + 1) cp' ∧ w4.ownsRow B 57 3 (.slice (some ⟨g, 0, none⟩) (L.length + 1) cp) (L.length + 1) (flat 3 (wC (L ++ [nd])) (L.length + 1)) ∧ Below B w3 w4 ∧ w4.cell? ⟨wr.heap.size, 6, none⟩ = some (.bool true) ∧ wr.heap.size < w4.heap.size ∧ ¬ g' = wr.heap.size) := hid (by
            refine ⟨g, cp, rfl, hown', ?_, ?_, ?_, ?_⟩
            · exact ((HBEL.out.alloc HBS.out _).alloc (by have := HBS.out; simp; omega) _).grown hgrow (by have := HBS.out; simp; omega) (fun kk e => (HLT.out kk e).1)
            · simp [World.cell?, hs4]
            · have := hgrow.size; simp at this; omega
            · intro e
              rcases hown'.2 with ⟨h', _⟩ | ⟨g', cap', cur, h', _, hh, _⟩
              · simp at h'
              · simp only [Value.slice.injEq, Option.some.injEq, Addr.mk.injEq, and_true, true_and] at h'
                obtain ⟨rfl, _⟩ := h'
                rw [e, hs4] at hh
                simp at hh)
          clear hown' hgrow hnil hs4
          go_wp2
          go_meet
          case rel => exact HM4.out
        case rest =>
          obtain ⟨g, cp, rfl, hown4, hb4, cs6, hlt4, hng⟩ := hcut
          have HBW4 : Hid (Below w.heap.size w wc) := hid (HX.out.trans (hb4.mono (by rw [HBE.out]; exact HX.out.size)))
          obtain ⟨_, _, con4, _, _⟩ := (HC.out q (by omega)).below HBW4.out HBB.out
          have hrw := row_own hown4
          have k2 := hrw.cells L.length 2 (by omega) (by omega)
          have kz := hrw.free
          have HOW4 : Hid (wc.ownsRow B 57 3 (.slice (some ⟨g, 0, none⟩) (L.length + 1) cp) (L.length + 1) (flat 3 (wC (L ++ [nd])) (L.length + 1))) := hown4
          have HB4 : Hid (Below B w3 wc) := hb4
          have HGB : Hid (B ≤ g) := (hown4.lt g rfl).1
          have HLN : Hid ((L ++ [nd]).length = L.length + 1) := hid (by simp)
          have hng2 : ¬ wr.heap.size = g := fun e => hng e.symm
          have hLb : L.length ≤ 1048576 := by omega
          clear hown4 hb4 hrw con ob r0 r1 r2 r3 r4 r5 r6 r7 r8 hbl
          cases hon : (F q).o
          · have HS2 : Hid (wSt t F (q + 1) = (L ++ [nd], false)) := hid (by rw [HSD.out, hred, hon, wStep_tt, HND.out]; rfl)
            go_wp2
            go_roundw
            case rel =>
              refine ⟨q + 1, by omega, by go_num, ?_, ?_, ?_⟩
              · rw [HS2.out]
              · rw [HS2.out, HLN.out]; exact HOW4.out
              · exact HB4.out
            case measure => simp [intOf]; omega
          · have HS2 : Hid (wSt t F (q + 1) = (lastBy (fun d => ⟨d.fr, d.tt, true⟩) (L ++ [nd]), false)) := hid (by rw [HSD.out, hred, hon, wStep_tt, HND.out]; rfl)
            go_wp2
            go_roundw
            case rel =>
              refine ⟨q + 1, by omega, by go_num, ?_, ?_, ?_⟩
              · rw [HS2.out]
              · rw [HS2.out, lastBy_length, HLN.out, ← flat_lastU (L ++ [nd]) L.length HLN.out]; exact own_set HOW4.out L.length 2 (by omega) (by omega) _
              · exact HB4.out.setCell HGB.out _
            case measure => simp [intOf]; omega
    · have eq : q = N := by omega
      subst eq
      obtain ⟨au, cu, hu5⟩ := own_slice HOWN.out
      have HU5 : Hid (u5 = .slice au L.length cu) := hu5
      clear hu5
      go_wp2
      go_ret
      refine ⟨_, rfl, ?_, HX.out.trans (HBEL.out.mono (by rw [HBE.out]; exact HX.out.size))⟩
      have hl : waitLen t F len = L.length := by rw [HWL.out, ← HST.out]
      rw [hl]
      have := rowV_own (B := w.heap.size) HOWN.out (by rw [HBE.out]; exact HX.out.size)
      have hC : (fun i j => waitCell (waitAt t F len i) j) = wC L := by
        funext i j
        unfold wC
        rw [HWA.out, ← HST.out]
      rw [hC]
      exact this

set_option maxHeartbeats 1000000 in
theorem specWaits_none (t : TD) (ao : Option Addr) (cap : Nat) (w : World) :
    Calls Try.prog 7 #[t.v, .slice ao 0 cap] w fun e w' => e = .returned (.slice none 0 0) ∧ Below w.heap.size w w' := by
  have HT : Hid (t.v = .agg #[.int .i64 t.a, .int .i64 t.b, .int .i64 t.c, .int .i64 t.d]) := rfl
  rw [HT.out]
  go_enter Try.func7, Try.ntmps7
  go_wp2_with fail
  rw [← HT.out]
  refine (specRun_none t ao cap _).mono ?_
  rintro e w1 ⟨rfl, hb1⟩
  have HX : Hid (Below w.heap.size w w1) := hid (((Below.refl _ _).alloc (Nat.le_refl _) _).trans (hb1.mono (by simp)))
  clear hb1
  go_wp2_with fail
  refine wp_loop_rounds 1 ?_
  rw [rounds_succ]
  go_wp2
  go_ret
  exact ⟨rfl, HX.out⟩

end Go.Proofs.Ytcidikmbngflcab
