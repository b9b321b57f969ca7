/-
  The iterator that impl.eachWait makes.
-/
import Derived.Test.YtcidikmbngflcabWaitsV
import Derived.Test.YtcidikmbngflcabRf
import Derived.Test.YtcidikmbngflcabSpecRun
namespace Go.Proofs.Ytcidikmbngflcab
open Go.ChangeShapes Go.WideShapes Go.ChangeAt Go.RowKit
set_option maxRecDepth 100000
set_option linter.unusedSimpArgs false

theorem Mine.drew {M N : Nat} {a b : World} (h : Mine M N a b) : Mine M N a b.drew := ⟨h.os, h.tape, h.output, h.size, h.block⟩
theorem Mine.cell {M N : Nat} {a b : World} (h : Mine M N a b) {g : Nat} (hg : g < a.heap.size) (hn : g < M ∨ N ≤ g) (j : Nat) : b.cell? ⟨g, j, none⟩ = a.cell? ⟨g, j, none⟩ := World.cell?_of_block (w := a) (a := ⟨g, j, none⟩) (h.block g hg hn)
theorem Mine.frozen {M N : Nat} {a b : World} (h : Mine M N a b) {g : Nat} (hg : g < a.heap.size) (hn : g < M ∨ N ≤ g) (j : Nat) : b.frozen? ⟨g, j, none⟩ = a.frozen? ⟨g, j, none⟩ := World.frozen?_of_block (w := a) (a := ⟨g, j, none⟩) (h.block g hg hn)
theorem See.drew {w : World} {b : Nat} {op : Bool} {d : WD} (h : See w b op d) : See w.drew b op d := h
theorem See.alloc {w : World} {b : Nat} {op : Bool} {d : WD} (h : See w b op d) (o : Obj) : See (w.alloc o) b op d :=
  h.blocks (Below.heap_alloc _ _ _ (by have := h.2.2.2.2.2.2; omega)) (Below.heap_alloc _ _ _ h.2.2.2.2.2.2) (by simp)

/-- What a round of the caller's keeps. -/
structure Keeps (B N : Nat) (w w' : World) : Prop where
  size : w.heap.size ≤ w'.heap.size
  block : ∀ k, k < N → k ≠ B → w'.heap[k]? = w.heap[k]?

theorem heldW {W w' : World} {M sb bt b off : Nat} {red on : Bool} {sl : Value} (hs : W.cell? ⟨sb, 6, none⟩ = some (.bool red)) (ht : W.cell? ⟨bt, 0, none⟩ = some sl) (hb : W.cell? ⟨b, off, none⟩ = some (.bool on))
    (ns : M + 2 ≤ sb) (nt : bt < M) (nb : b < M) (h : Mine M (M + 2) W w') :
    Mine M (M + 2) W w' ∧ w'.cell? ⟨sb, 6, none⟩ = some (.bool red) ∧ w'.cell? ⟨bt, 0, none⟩ = some sl ∧ w'.cell? ⟨b, off, none⟩ = some (.bool on) :=
  ⟨h, (h.cell (World.block_lt_of_cell? _ _ hs) (.inr ns) _).trans hs, (h.cell (World.block_lt_of_cell? _ _ ht) (.inl nt) _).trans ht, (h.cell (World.block_lt_of_cell? _ _ hb) (.inl nb) _).trans hb⟩
theorem mine_on {M N : Nat} {W x w1 : World} {R : Prop} (h : Mine M N W x ∧ R) (hb : Mine M N x w1) : Mine M N W w1 := h.1.trans hb
theorem mine_size {M N : Nat} {W x w1 : World} {R : Prop} (h : Mine M N W x ∧ R) (hb : Mine M N x w1) : W.heap.size ≤ w1.heap.size := Nat.le_trans h.1.size hb.size

theorem mine3 {M N : Nat} {a b : World} (h : Mine M N a b) {g : Nat} (h1 : a.heap.size ≤ g) (v0 v1 v2 : Value) : Mine M N a (((b.setCell ⟨g, 0, none⟩ v0).setCell ⟨g, 1, none⟩ v1).setCell ⟨g, 2, none⟩ v2) :=
  ((h.fresh h1 _ _).fresh h1 _ _).fresh h1 _ _
theorem mine_re {M N : Nat} {W x : World} {o : Obj} (h : Mine M N W (x.alloc o)) (hx : W.heap.size ≤ x.heap.size) (o' : Obj) : Mine M N W (x.alloc o') :=
  ⟨h.os, h.tape, h.output, by simp; omega, fun k hk hn => by rw [Below.heap_alloc _ _ _ (by omega), ← Below.heap_alloc x o _ (by omega)]; exact h.block k hk hn⟩
/-- A new box of a wait, all zero, behind a call that has left it alone. -/
def Zero3 (w1 : World) (g : Nat) : Prop :=
  w1.cell? ⟨g, 0, none⟩ = some (.int .i64 0) ∧ w1.cell? ⟨g, 1, none⟩ = some (.int .i64 0) ∧ w1.cell? ⟨g, 2, none⟩ = some (.bool false) ∧ (∀ j, w1.frozen? ⟨g, j, none⟩ = false) ∧ g < w1.heap.size
theorem zeroW {M : Nat} {x w1 : World} (hM : M + 2 ≤ x.heap.size) (hb : Mine M (M + 2) (x.alloc (.cells #[.int .i64 0, .int .i64 0, .bool false] 57)) w1) : Zero3 w1 x.heap.size := by
  have hl : x.heap.size < (x.alloc (.cells #[.int .i64 0, .int .i64 0, .bool false] 57)).heap.size := by simp
  refine ⟨?_, ?_, ?_, fun j => ?_, ?_⟩
  · rw [hb.cell hl (.inr hM)]; simp [go_sem]
  · rw [hb.cell hl (.inr hM)]; simp [go_sem]
  · rw [hb.cell hl (.inr hM)]; simp [go_sem]
  · rw [hb.frozen hl (.inr hM)]; simp [go_sem]
  · exact Nat.lt_of_lt_of_le hl hb.size
theorem zeroW_drew {M : Nat} {x w1 : World} (hM : M + 2 ≤ x.heap.size) (hb : Mine M (M + 2) (x.alloc (.cells #[.int .i64 0, .int .i64 0, .bool false] 57)).drew w1) : Zero3 w1 x.heap.size :=
  zeroW hM ⟨hb.os, hb.tape, hb.output, hb.size, hb.block⟩

/-- What is seen: the wait in a new box, whether it has ended; what the closure holds. -/
def OutW (W : World) (M : Nat) (red en : Bool) (d : WD) (v7 v8 : Value) (wd : World) : Prop :=
  ∃ g, v7 = .pointer (some ⟨g, 0, none⟩) ∧ v8 = .bool en ∧ W.heap.size ≤ g ∧ g < wd.heap.size ∧ Mine M (M + 2) W wd ∧ See wd M red d ∧ wd.cell? ⟨g, 0, none⟩ = some (.int .i64 d.fr) ∧ wd.cell? ⟨g, 1, none⟩ = some (.int .i64 d.tt) ∧ wd.cell? ⟨g, 2, none⟩ = some (.bool d.us)

theorem metW_new {W x : World} {M : Nat} {red en : Bool} {d : WD} {R : Prop} (h : Mine M (M + 2) W (x.alloc (.cells #[.int .i64 d.fr, .int .i64 d.tt, .bool d.us] 57)) ∧ R) (hs : W.heap.size ≤ x.heap.size) (hse : See x M red d) :
    OutW W M red en d (.pointer (some ⟨x.heap.size, 0, none⟩)) (.bool en) (x.alloc (.cells #[.int .i64 d.fr, .int .i64 d.tt, .bool d.us] 57)) := by
  refine ⟨x.heap.size, rfl, rfl, hs, by simp, h.1, hse.alloc _, ?_, ?_, ?_⟩
  all_goals simp [go_sem]
theorem metW_old {W w1 : World} {M g : Nat} {red en : Bool} {d : WD} {R : Prop} (h : Mine M (M + 2) W (((w1.setCell ⟨g, 0, none⟩ (.int .i64 d.fr)).setCell ⟨g, 1, none⟩ (.int .i64 d.tt)).setCell ⟨g, 2, none⟩ (.bool d.us)) ∧ R) (hs : W.heap.size ≤ g) (hM : M + 2 ≤ g)
    (z0 : w1.cell? ⟨g, 0, none⟩ = some (.int .i64 0)) (z1 : w1.cell? ⟨g, 1, none⟩ = some (.int .i64 0)) (z2 : w1.cell? ⟨g, 2, none⟩ = some (.bool false)) (z4 : g < w1.heap.size) (hse : See w1 M red d) :
    OutW W M red en d (.pointer (some ⟨g, 0, none⟩)) (.bool en) (((w1.setCell ⟨g, 0, none⟩ (.int .i64 d.fr)).setCell ⟨g, 1, none⟩ (.int .i64 d.tt)).setCell ⟨g, 2, none⟩ (.bool d.us)) := by
  refine ⟨g, rfl, rfl, hs, by simpa [World.setCell] using z4, h.1, ?_, ?_, ?_, ?_⟩
  · refine hse.blocks ?_ ?_ (by simp [World.setCell])
    · rw [Below.heap_setCell _ _ _ _ (by simp; omega), Below.heap_setCell _ _ _ _ (by simp; omega), Below.heap_setCell _ _ _ _ (by simp; omega)]
    · rw [Below.heap_setCell _ _ _ _ (by simp; omega), Below.heap_setCell _ _ _ _ (by simp; omega), Below.heap_setCell _ _ _ _ (by simp; omega)]
  all_goals simp [go_sem, z0, z1, z2]

set_option maxHeartbeats 4000000 in
theorem eachWait1_in {J : Nat → List WD → World → Prop} (l B0 bs bt gs cs b o len cap n : Nat) (t : TD) (F : Nat → FD) (W : World)
    (hbs : W.cell? ⟨bs, 0, none⟩ = some (.slice (some ⟨gs, 0, none⟩) n cs)) (hbt : W.cell? ⟨bt, 0, none⟩ = some (.slice (some ⟨b, o, none⟩) len cap))
    (hrow : Row W gs 9 n (fun i j => saidCell (saidAt t F i) j)) (hF : ∀ i, i < len → FCell W b o i (F i)) (hn : n ≤ len) (hlen : len ≤ 1048576)
    (n1 : bs ≠ B0) (n2 : bt ≠ B0) (n3 : gs ≠ B0) (n4 : b ≠ B0) (hb : b < W.heap.size) (hB : B0 < W.heap.size)
    (hJ0 : ∀ N, W.heap.size ≤ N → J N [] W) (hJm : ∀ N pre W1 W2, J N pre W1 → Mine W.heap.size N W1 W2 → J N pre W2)
    (hY : ∀ N pre x W1, W.heap.size ≤ N → N ≤ W1.heap.size → J N pre W1 → pre.length ≤ 1048576 → YieldAt Fence.wide 0 Try.prog l #[waitV x] W1 fun e W' => e = .returned (.bool true) ∧ J N (pre ++ [x]) W' ∧ Keeps B0 N W1 W') :
    Calls Try.prog 51 #[.func (.yield l) #[] #[], .pointer (some ⟨bs, 0, none⟩), .pointer (some ⟨bt, 0, none⟩)] W fun e W' => (∃ v, e = .returned v) ∧ ∃ N, J N (vEnd (vSt t F n)) W' := by
  obtain ⟨M, hM⟩ : ∃ M, M = W.heap.size := ⟨_, rfl⟩
  rw [← hM] at hJ0 hJm hY hb hB
  go_enter Try.func51, Try.ntmps51
  go_wp2_with fail
  refine (watch_any _).mono ?_
  rintro e w0 ⟨rfl, hb0, hs0, hsee⟩
  rw [← hM] at hb0 hs0 hsee ⊢
  have HJ : Hid (∀ N pre W1 W2, J N pre W1 → Mine M N W1 W2 → J N pre W2) := hJm
  have HY : Hid (∀ N pre x W1, M ≤ N → N ≤ W1.heap.size → J N pre W1 → pre.length ≤ 1048576 → YieldAt Fence.wide 0 Try.prog l #[waitV x] W1 fun e W' => e = .returned (.bool true) ∧ J N (pre ++ [x]) W' ∧ Keeps B0 N W1 W') := hY
  have HJ0 : Hid (J (M + 2) [] w0) := hid (hJm _ _ _ _ (hJ0 _ (by omega)) (mine_below (by rw [← hM]; exact hb0)))
  have HK0 : Hid (Keeps B0 M W w0) := hid ⟨hb0.size, fun k hk _ => hb0.block k hk⟩
  have HSEE0 : Hid (See w0 M false wait00) := hsee
  have HF : Hid (∀ i, i < len → FCell W b o i (F i)) := hF
  have HROW : Hid (Row W gs 9 n (fun i j => saidCell (saidAt t F i) j)) := hrow
  have HLT : Hid (bs < M ∧ bt < M ∧ gs < M ∧ b < M) := hid ⟨by rw [hM]; exact World.block_lt_of_cell? _ _ hbs, by rw [hM]; exact World.block_lt_of_cell? _ _ hbt, by rw [hM]; exact hrow.lt, hb⟩
  have HBS : Hid (W.cell? ⟨bs, 0, none⟩ = some (.slice (some ⟨gs, 0, none⟩) n cs)) := hbs
  have HBT : Hid (W.cell? ⟨bt, 0, none⟩ = some (.slice (some ⟨b, o, none⟩) len cap)) := hbt
  have HNE : Hid (bs ≠ B0 ∧ bt ≠ B0 ∧ gs ≠ B0 ∧ b ≠ B0) := ⟨n1, n2, n3, n4⟩
  have kcell : ∀ {w' : World} {g j : Nat} {v : Value}, Keeps B0 M W w' → g < M → g ≠ B0 → W.cell? ⟨g, j, none⟩ = some v → w'.cell? ⟨g, j, none⟩ = some v := fun hk hg hne hv => (World.cell?_of_block (w := W) (hk.block _ hg hne)).trans hv
  have s0 := kcell HK0.out HLT.out.1 n1 hbs
  have HMW : Hid (M = W.heap.size) := hM
  have HB0 : Hid (B0 < M) := hB
  clear hB
  clear hJm hY hJ0 hsee hF hrow hbs hbt hb n1 n2 n3 n4 hb0 hM
  go_wp2_with fail
  go_loopw [14] (fun i wq => ∃ q : Nat, q ≤ n ∧ i = .int .i64 q ∧ J (M + 2) (vSt t F q).1 wq ∧ See wq M (vSt t F q).2.1 (vSt t F q).2.2 ∧ Keeps B0 M W wq) (fun i _ => n - (intOf i).toNat)
  case atStart => exact ⟨0, Nat.zero_le _, rfl, HJ0.out, HSEE0.out, HK0.out⟩
  case round =>
    obtain ⟨q, hq, rfl, hj, hsee, hk⟩ := hrel
    by_cases hlt : q < n
    · have c0 := kcell hk HLT.out.2.2.1 HNE.out.2.2.1 (HROW.out.cells q 0 hlt (by omega))
      have c1 := kcell hk HLT.out.2.2.1 HNE.out.2.2.1 (HROW.out.cells q 1 hlt (by omega))
      have c2 := kcell hk HLT.out.2.2.1 HNE.out.2.2.1 (HROW.out.cells q 2 hlt (by omega))
      have c3 := kcell hk HLT.out.2.2.1 HNE.out.2.2.1 (HROW.out.cells q 3 hlt (by omega))
      have c4 := kcell hk HLT.out.2.2.1 HNE.out.2.2.1 (HROW.out.cells q 4 hlt (by omega))
      have c5 := kcell hk HLT.out.2.2.1 HNE.out.2.2.1 (HROW.out.cells q 5 hlt (by omega))
      have c6 := kcell hk HLT.out.2.2.1 HNE.out.2.2.1 (HROW.out.cells q 6 hlt (by omega))
      have c7 := kcell hk HLT.out.2.2.1 HNE.out.2.2.1 (HROW.out.cells q 7 hlt (by omega))
      have c8 := kcell hk HLT.out.2.2.1 HNE.out.2.2.1 (HROW.out.cells q 8 hlt (by omega))
      have f2 := kcell hk HLT.out.2.2.2 HNE.out.2.2.2 (HF.out q (by omega)).2.2.1
      have b0 := kcell hk HLT.out.2.1 HNE.out.2.1 HBT.out
      obtain ⟨sd, hsd⟩ : ∃ sd, sd = saidAt t F q := ⟨_, rfl⟩
      rw [← hsd] at c0 c1 c2 c3 c4 c5 c6 c7 c8
      simp only [saidCell, Nat.add_zero, if_true, reduceIte, Nat.one_ne_zero, Nat.reduceEqDiff] at c0 c1 c2 c3 c4 c5 c6 c7 c8
      obtain ⟨on, hon⟩ : ∃ on, on = (F q).o := ⟨_, rfl⟩
      rw [← hon] at f2
      obtain ⟨red, hred⟩ : ∃ red, red = sd.red := ⟨_, rfl⟩
      obtain ⟨op, hop⟩ : ∃ op, op = (vSt t F q).2.1 := ⟨_, rfl⟩
      obtain ⟨d, hd⟩ : ∃ d, d = (vSt t F q).2.2 := ⟨_, rfl⟩
      rw [← hop, ← hd] at hsee
      obtain ⟨d1, hd1⟩ : ∃ d1, d1 = seeW (q : Int) red on op d := ⟨_, rfl⟩
      rw [← hred] at c6
      have HVN : Hid (vSt t F (q + 1) = ((if (!red && op) = true then (vSt t F q).1 ++ [d1] else (vSt t F q).1), red, d1)) := hid (by rw [vSt_succ, hd1, hop, hd, hred, hon, hsd]; rfl)
      have HDD : Hid (d1 = seeW (q : Int) red on op d) := hd1
      have HDV : Hid (waitV (seeW (q : Int) red on op d) = .agg #[.int .i64 d1.fr, .int .i64 d1.tt, .bool d1.us]) := hid (by rw [hd1]; rfl)
      clear hsd hon hred hop hd hd1
      go_upto_region 4 with fail
      obtain ⟨W2, hW2⟩ : ∃ W2, W2 = wr.alloc (.cells #[.bool sd.ok, .int .i64 sd.g.s, .int .i64 sd.g.i, .int .i64 sd.g.u, .bool sd.g.f, .bool sd.may, .bool red, .bool sd.down, .bool sd.long] 55) := ⟨_, rfl⟩
      rw [← hW2]
      have HB2 : Hid (Below wr.heap.size wr W2) := hid (by rw [hW2]; exact (Below.refl _ _).alloc (Nat.le_refl _) _)
      have HS2 : Hid (See W2 M op d) := hid (by rw [hW2]; exact hsee.alloc _)
      have HR2 : Hid (W2.cell? ⟨wr.heap.size, 6, none⟩ = some (.bool red)) := hid (by rw [hW2]; simp [go_sem])
      have HF2 : Hid (W2.cell? ⟨b, o + q * 5 + 2, none⟩ = some (.bool on)) := hid ((HB2.out.cell (World.block_lt_of_cell? _ _ f2)).trans f2)
      have HT2 : Hid (W2.cell? ⟨bt, 0, none⟩ = some (.slice (some ⟨b, o, none⟩) len cap)) := hid ((HB2.out.cell (World.block_lt_of_cell? _ _ b0)).trans b0)
      have HSZ : Hid (M + 2 ≤ wr.heap.size) := hid (by have := hsee.2.2.2.2.2.2; omega)
      have HSW : Hid (M + 2 ≤ W2.heap.size) := hid (by have := HB2.out.size; have := hsee.2.2.2.2.2.2; omega)
      have HJq : Hid (J (M + 2) (vSt t F q).1 W2) := hid (HJ.out _ _ _ _ hj (by rw [hW2]; exact (Mine.refl _ _ _).alloc _))
      have HKq : Hid (Keeps B0 M W W2) := hid ⟨Nat.le_trans hk.size HB2.out.size, fun k h1 h2 => (HB2.out.block k (by have := HSZ.out; omega)).trans (hk.block k h1 h2)⟩
      clear hW2 c0 c1 c2 c3 c4 c5 c6 c7 c8 f2 b0 hj hsee hk
      have hlq : q < len := by omega
      have hs2 : W2.heap.size ≤ W2.heap.size := Nat.le_refl _
      go_cut [7, 8] (fun v7 v8 wd => OutW W2 M red (!red && op) d1 v7 v8 wd)
      case first =>
        go_region_held3 (fun w' => Mine M (M + 2) W2 w' ∧ w'.cell? ⟨wr.heap.size, 6, none⟩ = some (.bool red) ∧ w'.cell? ⟨bt, 0, none⟩ = some (.slice (some ⟨b, o, none⟩) len cap) ∧ w'.cell? ⟨b, o + q * 5 + 2, none⟩ = some (.bool on))
          ((refine heldW HR2.out HT2.out HF2.out HSZ.out HLT.out.2.1 HLT.out.2.2.2 ?_; first | (with_reducible exact Mine.drew (Mine.refl _ _ _)) | (with_reducible exact Mine.drew (Mine.alloc (Mine.refl _ _ _) _)) | (with_reducible exact mine_on (by assumption) (by assumption)) | (with_reducible exact Mine.alloc (And.left (by assumption)) _) | (with_reducible exact mine_re (And.left (by assumption)) (by assumption) _) | (with_reducible exact mine3 (And.left (by assumption)) (by assumption) _ _ _) | (with_reducible exact And.left (by assumption))))
          (first | (go_at_call 70; refine (watch1_any (q : Int) red on op d M _ (by first | (with_reducible exact See.drew HS2.out) | (with_reducible exact See.alloc (See.drew HS2.out) _) | (with_reducible exact See.drew (See.alloc HS2.out _)))).mono ?_; rintro e w1 ⟨rfl, hse1, hmi1⟩; have hsz1 := mine_size (by assumption) hmi1; rw [← HDD.out] at hse1; rw [HDV.out]; (first | (with_reducible have hzz := zeroW HSW.out hmi1) | (with_reducible have hzz := zeroW_drew HSW.out hmi1) | skip); (first | (obtain ⟨z0, z1, z2, z3, z4⟩ := hzz) | skip)))
        all_goals (go_wp2; go_meet; case rel => first | (with_reducible exact metW_new (by assumption) (by assumption) (by assumption)) | (with_reducible exact metW_old (by assumption) hs2 HSW.out (by assumption) (by assumption) (by assumption) (by assumption) (by assumption)))
      case rest =>
        obtain ⟨g, rfl, rfl, hg, hgl, hmi, hse, p0, p1, p2⟩ := hcut
        have HSE : Hid (See wc M red d1) := hse
        have HMI : Hid (Mine M (M + 2) W2 wc) := hmi
        have HJc : Hid (J (M + 2) (vSt t F q).1 wc) := hid (HJ.out _ _ _ _ HJq.out hmi)
        have HKc : Hid (Keeps B0 M W wc) := hid ⟨Nat.le_trans HKq.out.size hmi.size, fun k h1 h2 => (hmi.block k (by have := HSW.out; omega) (.inl h1)).trans (HKq.out.block k h1 h2)⟩
        clear hse hmi hg hgl
        cases hen : (!red && op)
        · have HVN2 : Hid (vSt t F (q + 1) = ((vSt t F q).1, red, d1)) := hid (by rw [HVN.out, if_neg (by rw [hen]; simp)])
          go_wp2
          go_roundw
          case rel => exact ⟨q + 1, by omega, by go_num, by rw [HVN2.out]; exact HJc.out, by rw [HVN2.out]; exact HSE.out, HKc.out⟩
          case measure => simp [intOf]; omega
        · have HVN2 : Hid (vSt t F (q + 1) = ((vSt t F q).1 ++ [d1], red, d1)) := hid (by rw [HVN.out, if_pos hen])
          obtain ⟨fn, tmps, assign, body, hy, hR⟩ := HY.out (M + 2) (vSt t F q).1 d1 wc (by omega) (Nat.le_trans HSW.out HMI.out.size) HJc.out (Nat.le_trans (vSt_len t F q) (by omega))
          unfold waitV at hy
          go_upto_region 5 with fail
          refine (wpIn_wide (n := 0)).1 ?_
          gi_wp2
          refine ⟨rfl, hR.mono ?_⟩
          rintro e W3 ⟨rfl, hj3, hk3⟩
          have HJ3 : Hid (J (M + 2) ((vSt t F q).1 ++ [d1]) W3) := hj3
          have HS3 : Hid (See W3 M red d1) := hid (HSE.out.blocks (hk3.block _ (by omega) (by have := HB0.out; omega)) (hk3.block _ (by omega) (by have := HB0.out; omega)) hk3.size)
          have HK3 : Hid (Keeps B0 M W W3) := hid ⟨Nat.le_trans HKc.out.size hk3.size, fun k h1 h2 => (hk3.block k (by omega) h2).trans (HKc.out.block k h1 h2)⟩
          clear hj3 hk3 hy hR
          gi_wp2
          go_wp2
          go_roundw
          case rel => exact ⟨q + 1, by omega, by go_num, by rw [HVN2.out]; exact HJ3.out, by rw [HVN2.out]; exact HS3.out, HK3.out⟩
          case measure => simp [intOf]; omega
    · have eq : q = n := by omega
      subst eq
      obtain ⟨op, hop⟩ : ∃ op, op = (vSt t F q).2.1 := ⟨_, rfl⟩
      obtain ⟨d, hd⟩ : ∃ d, d = (vSt t F q).2.2 := ⟨_, rfl⟩
      rw [← hop, ← hd] at hsee
      obtain ⟨d1, hd1⟩ : ∃ d1, d1 = seeW (-1) false false op d := ⟨_, rfl⟩
      have HVE : Hid (vEnd (vSt t F q) = if op = true then (vSt t F q).1 ++ [d1] else (vSt t F q).1) := hid (by rw [hd1, hop, hd]; rfl)
      have HDD : Hid (d1 = seeW (-1) false false op d) := hd1
      have HDV : Hid (waitV (seeW (-1) false false op d) = .agg #[.int .i64 d1.fr, .int .i64 d1.tt, .bool d1.us]) := hid (by rw [hd1]; rfl)
      obtain ⟨W2, hW2⟩ : ∃ y, y = wr := ⟨wr, rfl⟩
      subst hW2
      have HS2 : Hid (See W2 M op d) := hsee
      have HSW : Hid (M + 2 ≤ W2.heap.size) := hid (by have := hsee.2.2.2.2.2.2; omega)
      have HJq : Hid (J (M + 2) (vSt t F q).1 W2) := hj
      have hs2 : W2.heap.size ≤ W2.heap.size := Nat.le_refl _
      clear hop hd hd1 hsee hk hj
      go_upto_region 7 with fail
      go_cut [9, 10] (fun v9 v10 wd => OutW W2 M false (!false && op) d1 v9 v10 wd)
      case first =>
        go_wp2_with fail
        refine (watch1_any (-1) false false op d M _ HS2.out).mono ?_
        rintro e w1 ⟨rfl, hse1, hmi1⟩
        rw [← HDD.out] at hse1
        rw [HDV.out]
        go_wp2
        go_meet
        case rel => exact metW_new ⟨hmi1.alloc _, True.intro⟩ hmi1.size hse1
      case rest =>
        obtain ⟨g, rfl, rfl, hg, hgl, hmi, hse, p0, p1, p2⟩ := hcut
        have HMI : Hid (Mine M (M + 2) W2 wc) := hmi
        have HJc : Hid (J (M + 2) (vSt t F q).1 wc) := hid (HJ.out _ _ _ _ HJq.out hmi)
        clear hse hmi hg hgl
        cases op
        · have HVE2 : Hid (vEnd (vSt t F q) = (vSt t F q).1) := hid (by rw [HVE.out]; rfl)
          go_wp2
          go_end0
          exact ⟨⟨_, rfl⟩, M + 2, by rw [HVE2.out]; exact HJc.out⟩
        · have HVE2 : Hid (vEnd (vSt t F q) = (vSt t F q).1 ++ [d1]) := hid (by rw [HVE.out]; rfl)
          obtain ⟨fn, tmps, assign, body, hy, hR⟩ := HY.out (M + 2) (vSt t F q).1 d1 wc (by omega) (Nat.le_trans HSW.out HMI.out.size) HJc.out (Nat.le_trans (vSt_len t F q) (by omega))
          unfold waitV at hy
          go_upto_region 9 with fail
          refine (wpIn_wide (n := 0)).1 ?_
          gi_wp2
          refine ⟨rfl, hR.mono ?_⟩
          rintro e W3 ⟨rfl, hj3, hk3⟩
          have HJ3 : Hid (J (M + 2) ((vSt t F q).1 ++ [d1]) W3) := hj3
          clear hj3 hk3 hy hR
          gi_wp2
          go_wp2
          go_end0
          exact ⟨⟨_, rfl⟩, M + 2, by rw [HVE2.out]; exact HJ3.out⟩

end Go.Proofs.Ytcidikmbngflcab
