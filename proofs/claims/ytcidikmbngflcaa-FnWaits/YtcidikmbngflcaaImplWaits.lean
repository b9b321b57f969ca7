/-
  impl.Waits.
-/
import Derived.Test.YtcidikmbngflcaaEachWait
import Derived.Test.YtcidikmbngflcaaImplRun
import Derived.Test.YtcidikmbngflcaaSpecWaits
import Derived.RangeFuncBox
import Derived.Maps.AppendAt
namespace Go.Proofs.Ytcidikmbngflcaa
open Go.ChangeShapes Go.WideShapes Go.ChangeAt Go.RowKit
set_option maxRecDepth 100000
set_option linter.unusedSimpArgs false

set_option maxHeartbeats 4000000 in
theorem eachWait1_none {J : Nat → List WD → World → Prop} (l bs bt cs : Nat) (ao : Option Addr) (W : World) (hbs : W.cell? ⟨bs, 0, none⟩ = some (.slice ao 0 cs))
    (hJ0 : ∀ N, W.heap.size ≤ N → J N [] W) (hJm : ∀ N pre W1 W2, J N pre W1 → Mine W.heap.size N W1 W2 → J N pre W2) :
    Calls Try.prog 76 #[.func (.yield l) #[] #[], .pointer (some ⟨bs, 0, none⟩), .pointer (some ⟨bt, 0, none⟩)] W fun e W' => (∃ v, e = .returned v) ∧ ∃ N, J N [] W' := by
  obtain ⟨M, hM⟩ : ∃ M, M = W.heap.size := ⟨_, rfl⟩
  rw [← hM] at hJ0 hJm
  go_enter Try.func76, Try.ntmps76
  go_wp2_with fail
  refine (watch_any _).mono ?_
  rintro e w0 ⟨rfl, hb0, hs0, hsee⟩
  have s0 : w0.cell? ⟨bs, 0, none⟩ = some (.slice ao 0 cs) := (hb0.cell (World.block_lt_of_cell? _ _ hbs)).trans hbs
  rw [← hM] at hb0 hs0 hsee ⊢
  have HJ : Hid (∀ N pre W1 W2, J N pre W1 → Mine M N W1 W2 → J N pre W2) := hJm
  have HJ0 : Hid (J (M + 2) [] w0) := hid (hJm _ _ _ _ (hJ0 _ (by omega)) (mine_below (by rw [← hM]; exact hb0)))
  have HSEE0 : Hid (See w0 M false wait00) := hsee
  have HDV : Hid (waitV (seeW (-1) false false false wait00) = .agg #[.int .i64 0, .int .i64 (-1), .bool false]) := hid rfl
  clear hJm hJ0 hsee hbs hb0 hM hs0
  go_wp2_with fail
  refine wp_loop_rounds 1 ?_
  rw [rounds_succ]
  go_wp2_with fail
  refine (watch1_any (-1) false false false wait00 M _ HSEE0.out).mono ?_
  rintro e w1 ⟨rfl, hse1, hmi1⟩
  have HJ1 : Hid (J (M + 2) [] w1) := hid (HJ.out _ _ _ _ HJ0.out hmi1)
  clear hse1 hmi1
  rw [HDV.out]
  go_wp2
  go_end0
  exact ⟨⟨_, rfl⟩, M + 2, HJ.out _ _ _ _ HJ1.out ((Mine.refl _ _ _).alloc _)⟩

set_option maxHeartbeats 400000 in
theorem eachWait_any (vs vt : Value) (ps pt : Option Addr) (n cs len cap : Nat) (w : World) (hs : vs = .slice ps n cs) (ht : vt = .slice pt len cap) :
    Calls Try.prog 56 #[vs, vt] w fun e w' => e = .returned (.func (.func 76) #[] #[.pointer (some ⟨w.heap.size, 0, none⟩), .pointer (some ⟨w.heap.size + 1, 0, none⟩)]) ∧
      Below w.heap.size w w' ∧ w'.heap.size = w.heap.size + 2 ∧ w'.cell? ⟨w.heap.size, 0, none⟩ = some vs ∧ w'.cell? ⟨w.heap.size + 1, 0, none⟩ = some vt := by
  subst hs ht
  go_enter Try.func56, Try.ntmps56
  go_wp2
  go_ret
  exact ⟨rfl, ((Below.refl _ _).alloc (Nat.le_refl _) _).alloc (by simp) _, by simp, by simp [go_sem], by simp [go_sem]⟩

theorem RowV.slice {B : Nat} {w : World} {v : Value} {z n : Nat} {C : Nat → Nat → Value} (h : RowV B w v z n C) : ∃ ps cs, v = .slice ps n cs := by
  rcases h with ⟨rfl, ao, cap, e⟩ | ⟨g, cap, e, _⟩
  · exact ⟨_, _, e⟩
  · exact ⟨_, _, e⟩

theorem eachWait1_rowV {J : Nat → List WD → World → Prop} (l B0 bs bt b o len cap n Bv : Nat) (v : Value) (t : TD) (F : Nat → FD) (W : World)
    (hbs : W.cell? ⟨bs, 0, none⟩ = some v) (hbt : W.cell? ⟨bt, 0, none⟩ = some (.slice (some ⟨b, o, none⟩) len cap))
    (hv : RowV Bv W v 9 n (fun i j => saidCell (saidAt t F i) j)) (hF : ∀ i, i < len → FCell W b o i (F i)) (hn : n ≤ len) (hlen : len ≤ 1048576)
    (n1 : bs ≠ B0) (n2 : bt ≠ B0) (n3 : B0 < Bv) (n4 : b ≠ B0) (hb : b < W.heap.size) (hB : B0 < W.heap.size)
    (hJ0 : ∀ N, W.heap.size ≤ N → J N [] W) (hJm : ∀ N pre W1 W2, J N pre W1 → Mine W.heap.size N W1 W2 → J N pre W2)
    (hY : ∀ N pre x W1, W.heap.size ≤ N → N ≤ W1.heap.size → J N pre W1 → pre.length ≤ 1048576 → YieldAt Fence.wide 0 Try.prog l #[waitV x] W1 fun e W' => e = .returned (.bool true) ∧ J N (pre ++ [x]) W' ∧ Keeps B0 N W1 W') :
    Calls Try.prog 76 #[.func (.yield l) #[] #[], .pointer (some ⟨bs, 0, none⟩), .pointer (some ⟨bt, 0, none⟩)] W fun e W' => (∃ v, e = .returned v) ∧ ∃ N, J N (vEnd (vSt t F n)) W' := by
  rcases Nat.eq_zero_or_pos n with e | e
  · subst e
    obtain ⟨ao, cs, rfl⟩ := hv.form0
    exact eachWait1_none l bs bt cs ao W hbs hJ0 hJm
  · obtain ⟨g, cs, rfl, hg, hr⟩ := hv.formS e
    exact eachWait1_in l B0 bs bt g cs b o len cap n t F W hbs hbt hr hF hn hlen n1 n2 (by omega) n4 hb hB hJ0 hJm hY

/-- Between two rounds: the loop's record, the block for its deferred calls, what was collected. -/
def JW (w : World) (D B0 : Nat) (rec : Obj) (N : Nat) (pre : List WD) (W : World) : Prop :=
  W.heap[D + 1]? = some rec ∧ W.heap[D]? = some (.deferred (some [])) ∧ (∃ v, Go.Boxed W B0 44 v ∧ W.ownsRow N 50 3 v pre.length (flat 3 (fun i j => waitCell (pre.getD i wait0) j) pre.length)) ∧ Below w.heap.size w W ∧ w.heap.size ≤ N

theorem JW.mine {w W1 W2 : World} {D B0 N : Nat} {rec : Obj} {pre : List WD} (h : JW w D B0 rec N pre W1) (hB : B0 < D + 2) (hw : w.heap.size ≤ D) (hm : Mine (D + 2) N W1 W2) : JW w D B0 rec N pre W2 := by
  obtain ⟨h1, h2, ⟨v, hv, hr⟩, h3, h4⟩ := h
  have l1 : D + 1 < W1.heap.size := (Array.getElem?_eq_some_iff.1 h1).1
  refine ⟨(hm.block _ l1 (.inl (by omega))).trans h1, (hm.block _ (by omega) (.inl (by omega))).trans h2, ⟨v, (hm.block _ hv.lt (.inl hB)).trans hv, ?_⟩, h3.trans ((hm.below (by omega)).mono (by omega)), h4⟩
  refine ⟨hr.1, hr.2.elim .inl fun ⟨g, cap, cur, e, hg, hh, r⟩ => .inr ⟨g, cap, cur, e, hg, ?_, r⟩⟩
  rw [hm.block g (Array.getElem?_eq_some_iff.1 hh).1 (.inr hg)]; exact hh

theorem waits_iter (Rr : Obj) (w w3 : World) (B0 bs bt b o len cap n Bv : Nat) (v : Value) (t : TD) (F : Nat → FD)
    (hbs : w3.cell? ⟨bs, 0, none⟩ = some v) (hbt : w3.cell? ⟨bt, 0, none⟩ = some (.slice (some ⟨b, o, none⟩) len cap)) (hv : RowV Bv w3 v 9 n (fun i j => saidCell (saidAt t F i) j))
    (hF : ∀ i, i < len → FCell w3 b o i (F i)) (hn : n ≤ len) (hlen : len ≤ 1048576) (n1 : bs ≠ B0) (n2 : bt ≠ B0) (n3 : B0 < Bv) (n4 : b ≠ B0) (hb : b < w3.heap.size)
    (hB : Go.Boxed w3 B0 44 (.slice none 0 0)) (hw : Below w.heap.size w w3)
    (hY : ∀ N pre x W1, w3.heap.size + 2 ≤ N → N ≤ W1.heap.size → JW w w3.heap.size B0 Rr N pre W1 → pre.length ≤ 1048576 →
      YieldAt Fence.wide 0 Try.prog (w3.heap.size + 1) #[waitV x] W1 fun e W' => e = .returned (.bool true) ∧ JW w w3.heap.size B0 Rr N (pre ++ [x]) W' ∧ Keeps B0 N W1 W') :
    Calls Try.prog 76 #[.func (.yield (w3.heap.size + 1)) #[] #[], .pointer (some ⟨bs, 0, none⟩), .pointer (some ⟨bt, 0, none⟩)]
      ((w3.alloc (.deferred (some []))).alloc Rr)
      fun e W' => (∃ v, e = .returned v) ∧ ∃ N, JW w w3.heap.size B0 Rr N (vEnd (vSt t F n)) W' := by
  obtain ⟨W, hW⟩ : ∃ W, W = (w3.alloc (.deferred (some []))).alloc Rr := ⟨_, rfl⟩
  have hz : W.heap.size = w3.heap.size + 2 := by rw [hW]; simp
  have hb3 : Below w3.heap.size w3 W := by rw [hW]; exact ((Below.refl _ _).alloc (Nat.le_refl _) _).alloc (by simp) _
  have h1 : W.heap[w3.heap.size + 1]? = some Rr := by
    rw [hW]; have := World.alloc_heap_new (w3.alloc (.deferred (some []))) Rr; rwa [World.size_alloc] at this
  have h2 : W.heap[w3.heap.size]? = some (.deferred (some [])) := by
    rw [hW]; exact (Below.heap_alloc _ _ _ (by simp)).trans (World.alloc_heap_new w3 _)
  rw [← hW]
  refine eachWait1_rowV (w3.heap.size + 1) B0 bs bt b o len cap n Bv v t F W ((hb3.cell (World.block_lt_of_cell? _ _ hbs)).trans hbs) ((hb3.cell (World.block_lt_of_cell? _ _ hbt)).trans hbt) (hv.below hb3) (fun i hi => (hF i hi).below hb3 hb) hn hlen n1 n2 n3 n4 (by omega) (by have := hB.lt; omega) ?_ ?_ ?_
  · exact fun N hN => ⟨h1, h2, ⟨_, (hb3.block _ hB.lt).trans hB, World.ownsRow_nil _ _ _ _⟩, hw.trans (hb3.mono hw.size), by have := hw.size; omega⟩
  · intro N pre W1 W2 hj hm
    rw [hz] at hm
    exact hj.mine (by have := hB.lt; omega) hw.size hm
  · intro N pre x W1 h1 h2 h3 h4
    exact hY N pre x W1 (by omega) h2 h3 h4

theorem waits_iter0 (Rr : Obj) (w w3 : World) (B0 bs bt cs : Nat) (ao : Option Addr) (hbs : w3.cell? ⟨bs, 0, none⟩ = some (.slice ao 0 cs))
    (hB : Go.Boxed w3 B0 44 (.slice none 0 0)) (hw : Below w.heap.size w w3) :
    Calls Try.prog 76 #[.func (.yield (w3.heap.size + 1)) #[] #[], .pointer (some ⟨bs, 0, none⟩), .pointer (some ⟨bt, 0, none⟩)]
      ((w3.alloc (.deferred (some []))).alloc Rr) fun e W' => (∃ v, e = .returned v) ∧ ∃ N, JW w w3.heap.size B0 Rr N [] W' := by
  obtain ⟨W, hW⟩ : ∃ W, W = (w3.alloc (.deferred (some []))).alloc Rr := ⟨_, rfl⟩
  have hz : W.heap.size = w3.heap.size + 2 := by rw [hW]; simp
  have hb3 : Below w3.heap.size w3 W := by rw [hW]; exact ((Below.refl _ _).alloc (Nat.le_refl _) _).alloc (by simp) _
  have h1 : W.heap[w3.heap.size + 1]? = some Rr := by
    rw [hW]; have := World.alloc_heap_new (w3.alloc (.deferred (some []))) Rr; rwa [World.size_alloc] at this
  have h2 : W.heap[w3.heap.size]? = some (.deferred (some [])) := by
    rw [hW]; exact (Below.heap_alloc _ _ _ (by simp)).trans (World.alloc_heap_new w3 _)
  rw [← hW]
  refine eachWait1_none (w3.heap.size + 1) bs bt cs ao W ((hb3.cell (World.block_lt_of_cell? _ _ hbs)).trans hbs) ?_ ?_
  · exact fun N hN => ⟨h1, h2, ⟨_, (hb3.block _ hB.lt).trans hB, World.ownsRow_nil _ _ _ _⟩, hw.trans (hb3.mono hw.size), by have := hw.size; omega⟩
  · intro N pre W1 W2 hj hm
    rw [hz] at hm
    exact hj.mine (by have := hB.lt; omega) hw.size hm

theorem flatW_snoc (pre : List WD) (x : WD) : flat 3 (fun i j => waitCell ((pre ++ [x]).getD i wait0) j) (pre.length + 1) = flat 3 (fun i j => waitCell (pre.getD i wait0) j) pre.length ++ [.int .i64 x.fr, .int .i64 x.tt, .bool x.us] := by
  rw [flat_succ]
  congr 1
  · exact flat_congr (fun i j hi _ => by simp [List.getD, List.getElem?_append_left hi])
  · simp [List.range_succ, waitCell, List.getD]

set_option maxHeartbeats 4000000 in
theorem implWaits_some (t : TD) (b o len cap : Nat) (F : Nat → FD) (w : World) (hpos : 0 < len) (hlen : len ≤ 1048576) (hb : b < w.heap.size) (hc : ∀ i, i < len → FCell w b o i (F i)) :
    Calls Try.prog 20 #[t.v, .slice (some ⟨b, o, none⟩) len cap] w fun e w' => ∃ v, e = .returned v ∧ RowV w.heap.size w' v 3 (waitLen t F len) (fun i j => waitCell (waitAt t F len i) j) ∧ Below w.heap.size w w' := by
  have HT : Hid (t.v = .agg #[.int .i64 t.a, .int .i64 t.b, .int .i64 t.c, .int .i64 t.d]) := rfl
  rw [HT.out]
  have HC : Hid (∀ i, i < len → FCell w b o i (F i)) := hc
  have HB : Hid (b < w.heap.size) := hb
  have HPOS : Hid (0 < len) := hpos
  clear hc hb hpos
  refine calls_marks Try.func20 rfl ?_
  simp only [Try.ntmps20, List.size_toArray, List.length_cons, List.length_nil, Nat.reduceAdd, Nat.reduceSub, Array.replicate_succ, Array.replicate_zero, List.push_toArray, List.append_toArray, List.nil_append, List.cons_append]
  go_wp2_with fail
  rw [← HT.out]
  obtain ⟨W1, hW1⟩ : ∃ W1, W1 = (w.alloc (.cells #[.int .i64 t.a, .int .i64 t.b, .int .i64 t.c, .int .i64 t.d] 24)).alloc (.cells #[.slice none 0 0] 44) := ⟨_, rfl⟩
  have HZ1 : Hid (W1.heap.size = w.heap.size + 2) := hid (by rw [hW1]; simp)
  have HW1 : Hid (Below w.heap.size w W1) := hid (by rw [hW1]; exact ((Below.refl _ _).alloc (Nat.le_refl _) _).alloc (by simp) _)
  have HBX1 : Hid (Go.Boxed W1 (w.heap.size + 1) 44 (.slice none 0 0)) := hid (by rw [hW1]; have := Go.Boxed.new (w.alloc (.cells #[.int .i64 t.a, .int .i64 t.b, .int .i64 t.c, .int .i64 t.d] 24)) 44 (.slice none 0 0); simpa using this)
  rw [← hW1]
  clear hW1
  refine (implRun_some t b o len cap F W1 HPOS.out hlen (Nat.lt_of_lt_of_le HB.out HW1.out.size) (fun i hi => (HC.out i hi).below HW1.out HB.out)).mono ?_
  rintro e w2 ⟨v, rfl, hv, hb2⟩
  obtain ⟨ps, cs, hvs⟩ := hv.slice
  have HV2 : Hid (RowV W1.heap.size w2 v 9 (runLen t F len) (fun i j => saidCell (saidAt t F i) j)) := hv
  have HB2 : Hid (Below W1.heap.size W1 w2) := hb2
  have HVS : Hid (v = .slice ps (runLen t F len) cs) := hvs
  clear hv hb2 hvs
  go_wp2_with fail
  refine (eachWait_any v (.slice (some ⟨b, o, none⟩) len cap) ps (some ⟨b, o, none⟩) _ cs len cap w2 HVS.out rfl).mono ?_
  rintro e w3 ⟨rfl, hb3, hs3, x0, x1⟩
  have HB3 : Hid (Below w2.heap.size w2 w3) := hb3
  have HX0 : Hid (w3.cell? ⟨w2.heap.size, 0, none⟩ = some v) := x0
  have HX1 : Hid (w3.cell? ⟨w2.heap.size + 1, 0, none⟩ = some (.slice (some ⟨b, o, none⟩) len cap)) := x1
  have HS3 : Hid (w3.heap.size = w2.heap.size + 2) := hs3
  have HBX3 : Hid (Go.Boxed w3 (w.heap.size + 1) 44 (.slice none 0 0)) := hid ((hb3.block _ (by have := HZ1.out; have := HB2.out.size; omega)).trans ((HB2.out.block _ (by have := HZ1.out; omega)).trans HBX1.out))
  have HW3 : Hid (Below w.heap.size w w3) := hid ((HW1.out.trans (HB2.out.mono HW1.out.size)).trans (hb3.mono (Nat.le_trans HW1.out.size HB2.out.size)))
  clear hb3 x0 x1 hs3
  go_wp2_with fail
  have HRL : Hid (runLen t F len ≤ len) := hid (runLen_le t F len)
  refine rf_loop (gf := 76) (lb := #[.pointer (some ⟨w2.heap.size, 0, none⟩), .pointer (some ⟨w2.heap.size + 1, 0, none⟩)]) rfl (enters_of Try.func76 (by kernel_rfl) rfl) ?_
  intro fn
  generalize hRr : Obj.loop (loopOf fn _ _ _ _ _ .ready none) = Rr
  refine callsIn_wide.2 ((waits_iter Rr w w3 (w.heap.size + 1) w2.heap.size (w2.heap.size + 1) b o len cap (runLen t F len) W1.heap.size v t F HX0.out HX1.out (HV2.out.below HB3.out)
    (fun i hi => (HC.out i hi).below HW3.out HB.out) HRL.out hlen (by have := HZ1.out; have := HB2.out.size; omega) (by have := HZ1.out; have := HB2.out.size; omega) (by have := HZ1.out; omega) (by have := HB.out; omega) (Nat.lt_of_lt_of_le HB.out HW3.out.size) HBX3.out HW3.out ?round).mono ?done)
  case round =>
    have hsem := @Oper.semAt_some
    intro N pre x Wa hN hNs hj hpl
    obtain ⟨i0, hi, hz0, hz1, hz2⟩ := info_parts Try.infoW
    refine rf_rounds hRr rfl hj.1 rfl ?_
    generalize Obj.loop (loopOf fn _ _ _ _ _ .done _) = Rd
    intro Rb hRb
    have HRR : Hid (Wa.heap[w3.heap.size + 1]? = some Rr) := hj.1
    clear hRr
    unfold waitV
    gi_wp2
    have HZW : Hid (w.heap.size + 2 ≤ w2.heap.size) := hid (by have := HZ1.out; have := HB2.out.size; omega)
    have HZ3 : Hid (w3.heap.size = w2.heap.size + 2) := HS3
    obtain ⟨_, hdef, ⟨vv, hbx, hrow⟩, hbw, hwN⟩ := hj
    have hD1 : w3.heap.size + 1 < Wa.heap.size := by omega
    refine ⟨(Below.heap_alloc _ _ _ hD1).trans HRR.out, ?_⟩
    obtain ⟨X, hX⟩ : ∃ X, X = (Wa.alloc (.cells #[.int .i64 x.fr, .int .i64 x.tt, .bool x.us] 50)).putObj (w3.heap.size + 1) Rb := ⟨_, rfl⟩
    rw [← hX]
    have hXs : X.heap.size = Wa.heap.size + 1 := by rw [hX]; simp
    have hXb : ∀ k, k < Wa.heap.size → k ≠ w3.heap.size + 1 → X.heap[k]? = Wa.heap[k]? := fun k h1 h2 => by rw [hX]; exact (World.putObj_heap_other h2).trans (Below.heap_alloc _ _ _ h1)
    have hXl : X.heap[w3.heap.size + 1]? = some Rb := by rw [hX]; exact World.putObj_heap_same (by simp; omega)
    have hXn : X.heap[Wa.heap.size]? = (Wa.alloc (.cells #[.int .i64 x.fr, .int .i64 x.tt, .bool x.us] 50)).heap[Wa.heap.size]? := by rw [hX]; exact World.putObj_heap_other (by omega)
    have x0 : X.cell? ⟨Wa.heap.size, 0, none⟩ = some (.int .i64 x.fr) := (World.cell?_of_block (w := Wa.alloc (.cells #[.int .i64 x.fr, .int .i64 x.tt, .bool x.us] 50)) hXn).trans (by simp [go_sem])
    have x1 : X.cell? ⟨Wa.heap.size, 1, none⟩ = some (.int .i64 x.tt) := (World.cell?_of_block (w := Wa.alloc (.cells #[.int .i64 x.fr, .int .i64 x.tt, .bool x.us] 50)) hXn).trans (by simp [go_sem])
    have x2 : X.cell? ⟨Wa.heap.size, 2, none⟩ = some (.bool x.us) := (World.cell?_of_block (w := Wa.alloc (.cells #[.int .i64 x.fr, .int .i64 x.tt, .bool x.us] 50)) hXn).trans (by simp [go_sem])
    have HBX : Hid (Go.Boxed X (w.heap.size + 1) 44 vv) := hid ((hXb _ hbx.lt (by have := HZW.out; have := HZ3.out; omega)).trans hbx)
    have HRW : Hid (X.ownsRow N 50 3 vv pre.length (flat 3 (fun i j => waitCell (pre.getD i wait0) j) pre.length)) := hid (by
      refine ⟨hrow.1, hrow.2.elim .inl fun ⟨g, cap, cur, e, hg, hh, r⟩ => .inr ⟨g, cap, cur, e, hg, ?_, r⟩⟩
      rw [hXb g (Array.getElem?_eq_some_iff.1 hh).1 (by omega)]; exact hh)
    have HNO : Hid (∀ k, k < N → some k ≠ vv.ownBlock) := hid (by
      intro k hk e'
      rcases hrow.2 with ⟨rfl, _⟩ | ⟨g, cap, cur, rfl, hg, _⟩
      · simp [Value.ownBlock] at e'
      · simp [Value.ownBlock] at e'; omega)
    have HXD : Hid (X.heap[w3.heap.size]? = some (.deferred (some []))) := hid ((hXb _ (by omega) (by omega)).trans hdef)
    have HBXW : Hid (Below w.heap.size Wa X) := hid (by rw [hX]; exact ((Below.refl _ _).alloc (by have := HZW.out; have := HZ3.out; omega) _).grown (grownBy_putObj' _ _ _) (by have := HZW.out; have := HZ3.out; simp; omega) (fun k e => by cases e; have := HZW.out; have := HZ3.out; omega))
    have HKX : Hid (∀ k, k < Wa.heap.size → k ≠ w3.heap.size + 1 → X.heap[k]? = Wa.heap[k]?) := hXb
    have HXL : Hid (X.heap[w3.heap.size + 1]? = some Rb) := hXl
    have HBW : Hid (Below w.heap.size w Wa) := hbw
    have HRB : Hid (Rb.isCells = false) := hRb
    have xb := HBX.out.cell
    have HXS : Hid (X.heap.size = Wa.heap.size + 1) := hXs
    clear hXs hX hXb hXl hXn hdef hbx hrow hbw hRb
    gi_wp2_with (gi_at_builtin; refine wpListIn_append_own _ rfl _ _ 44 rfl N 50 i0 _ 3 24 Try.underlying44 hi hz0 hz1 hz2 rfl (by decide) vv pre.length (flat 3 (fun i j => waitCell (pre.getD i wait0) j) pre.length) rfl (HRW.out.alloc _) ⟨X.heap.size, 0, none⟩ 1 1 [.int .i64 x.fr, .int .i64 x.tt, .bool x.us] rfl rfl (news3 x _ _ _ (by simp)) (by intro x hx; simp at hx; rcases hx with rfl | rfl | rfl <;> rfl) (by unfold maxLen; omega) (by omega) (by have := HXS.out; simp; omega) ?_; intro v' w4 hown' hgrow hnil; obtain ⟨g', cap', rfl⟩ := ownsRow_succ hown'; have HB4 : Hid (Go.Boxed w4 (w.heap.size + 1) 44 vv) := hid ((HBX.out.alloc _).kept hgrow (HBX.out.not_row (by decide) HRW.out)); have hc4 := HB4.out.cell; have hf4 := HB4.out.frozen)
    have HXK : Hid (∀ k, k < N → w4.heap[k]? = X.heap[k]?) := hid (fun k hk => (hgrow.block k (by have := HXS.out; simp; omega) (HNO.out k hk)).trans (Below.heap_alloc _ _ _ (by have := HXS.out; omega)))
    have hw4s : Wa.heap.size < w4.heap.size := by have := hgrow.size; have := HXS.out; simp at *; omega
    have nB : w.heap.size + 1 ≠ w3.heap.size + 1 := by have := HZW.out; have := HZ3.out; omega
    have hN3 : w3.heap.size + 1 < N := by omega
    have hNB : w.heap.size + 1 < N := by have := HZW.out; have := HZ3.out; omega
    obtain ⟨Y, hY⟩ : ∃ Y, Y = w4.setCell ⟨w.heap.size + 1, 0, none⟩ (.slice (some ⟨g', 0, none⟩) (pre.length + 1) cap') := ⟨_, rfl⟩
    rw [← hY]
    have hYb : ∀ k, k < N → k ≠ w.heap.size + 1 → Y.heap[k]? = X.heap[k]? := fun k h1 h2 => by rw [hY]; exact (Below.heap_setCell _ _ _ _ (by simpa using h2)).trans (HXK.out k h1)
    have hYl : Y.heap[w3.heap.size + 1]? = some Rb := (hYb _ hN3 (fun e => nB e.symm)).trans HXL.out
    have hYs : Y.heap.size = w4.heap.size := by rw [hY]; simp [World.setCell]
    have hYB : Go.Boxed Y (w.heap.size + 1) 44 (.slice (some ⟨g', 0, none⟩) (pre.length + 1) cap') := by rw [hY]; exact HB4.out.set _
    have hYo : Y.ownsRow N 50 3 (.slice (some ⟨g', 0, none⟩) (pre.length + 1) cap') (pre.length + 1) (flat 3 (fun i j => waitCell (pre.getD i wait0) j) pre.length ++ [.int .i64 x.fr, .int .i64 x.tt, .bool x.us]) := by
      rw [hY]; exact hown'.kept (grownBy_setCell' w4 (w.heap.size + 1) _) (.inr (HB4.out.not_row (by decide) hown').symm)
    have hYw : Below w.heap.size Wa Y := by
      rw [hY]
      exact ((HBXW.out.alloc (Nat.le_trans (by have := HZW.out; have := HZ3.out; omega) HBXW.out.size) _).grown hgrow (by have := HXS.out; have := HZW.out; have := HZ3.out; simp; omega) (fun k e => by
        have := HNO.out k; have hk : ¬ k < N := fun h => this h e.symm
        omega)).setCell (by simp) _
    refine ⟨hYl, rfl, ⟨World.putObj_heap_same (by omega), ?_, ⟨_, (World.putObj_heap_other nB).trans hYB, ?_⟩, ?_, hwN⟩, ?_, ?_⟩
    · exact (World.putObj_heap_other (by omega)).trans ((hYb _ (by omega) (by have := HZW.out; have := HZ3.out; omega)).trans HXD.out)
    · have := ownsRow_putObj hYo Rr hYl HRB.out
      rw [← flatW_snoc] at this
      simpa using this
    · exact HBW.out.trans (hYw.grown (grownBy_putObj' _ _ _) (Nat.le_trans (by have := HZW.out; have := HZ3.out; omega) hYw.size) (fun k e => by cases e; have := HZW.out; have := HZ3.out; omega))
    · simp; omega
    · intro k h1 h2
      by_cases e : k = w3.heap.size + 1
      · subst e; rw [World.putObj_heap_same (by omega)]; exact HRR.out.symm
      · rw [World.putObj_heap_other e, hYb k h1 h2]; exact HKX.out k (by omega) e
  case done =>
    rintro e W ⟨hv, N, hj⟩
    refine ⟨hv, .inl ⟨hj.1.trans (by rw [← hRr]), ?_⟩⟩
    generalize Obj.loop _ = Rx
    have hRc : Rr.isCells = false := by rw [← hRr]; rfl
    clear hRr
    dsimp only
    obtain ⟨h1, h2, ⟨vv, hbx, hrow⟩, hbw, hwN⟩ := hj
    have HZW : Hid (w.heap.size + 2 ≤ w2.heap.size) := hid (by have := HZ1.out; have := HB2.out.size; omega)
    have HZ3 : Hid (w3.heap.size = w2.heap.size + 2) := HS3
    obtain ⟨Z, hZ⟩ : ∃ Z, Z = W.putObj (w3.heap.size + 1) Rx := ⟨_, rfl⟩
    rw [← hZ]
    have hbz : Go.Boxed Z (w.heap.size + 1) 44 vv := by rw [hZ]; exact (World.putObj_heap_other (by have := HZW.out; have := HZ3.out; omega)).trans hbx
    have hzb := hbz.cell
    have HZD : Hid (Z.heap[w3.heap.size]? = some (.deferred (some []))) := hid (by rw [hZ]; exact (World.putObj_heap_other (by omega)).trans h2)
    have hro := ownsRow_putObj hrow Rx h1 hRc
    rw [← hZ] at hro
    have hro2 := ownsRow_putObj hro (.deferred none) HZD.out rfl
    have HWL : Hid (vEnd (vSt t F (runLen t F len)) = waitsOf t F len) := hid (vEnd_waits t F len)
    rw [HWL.out] at hro2
    have HFIN : Hid (RowV w.heap.size (Z.putObj w3.heap.size (.deferred none)) vv 3 (waitLen t F len) (fun i j => waitCell (waitAt t F len i) j)) := hid (rowV_own hro2 hwN)
    have HBZ : Hid (Below w.heap.size w (Z.putObj w3.heap.size (.deferred none))) := hid (by
      rw [hZ]
      exact (hbw.grown (grownBy_putObj' _ _ _) hbw.size (fun k e => by cases e; have := HZW.out; have := HZ3.out; omega)).grown (grownBy_putObj' _ _ _) (by simpa using hbw.size) (fun k e => by cases e; have := HZW.out; have := HZ3.out; omega))
    clear hZ hro hro2 hrow hbx hbz h1 h2 hbw hRc
    go_wp2
    refine ⟨by simp, .inl ⟨_, _, rfl, run_takeDeferred HZD.out, ?_⟩⟩
    exact ⟨_, results_tmp (t := 4) rfl _ _ _, vv, rfl, HFIN.out, HBZ.out⟩

set_option maxHeartbeats 4000000 in
theorem implWaits_none (t : TD) (ao : Option Addr) (cap : Nat) (w : World) :
    Calls Try.prog 20 #[t.v, .slice ao 0 cap] w fun e w' => ∃ ao' cap', e = .returned (.slice ao' 0 cap') ∧ Below w.heap.size w w' := by
  have HT : Hid (t.v = .agg #[.int .i64 t.a, .int .i64 t.b, .int .i64 t.c, .int .i64 t.d]) := rfl
  rw [HT.out]
  refine calls_marks Try.func20 rfl ?_
  simp only [Try.ntmps20, List.size_toArray, List.length_cons, List.length_nil, Nat.reduceAdd, Nat.reduceSub, Array.replicate_succ, Array.replicate_zero, List.push_toArray, List.append_toArray, List.nil_append, List.cons_append]
  go_wp2_with fail
  rw [← HT.out]
  obtain ⟨W1, hW1⟩ : ∃ W1, W1 = (w.alloc (.cells #[.int .i64 t.a, .int .i64 t.b, .int .i64 t.c, .int .i64 t.d] 24)).alloc (.cells #[.slice none 0 0] 44) := ⟨_, rfl⟩
  have HZ1 : Hid (W1.heap.size = w.heap.size + 2) := hid (by rw [hW1]; simp)
  have HW1 : Hid (Below w.heap.size w W1) := hid (by rw [hW1]; exact ((Below.refl _ _).alloc (Nat.le_refl _) _).alloc (by simp) _)
  have HBX1 : Hid (Go.Boxed W1 (w.heap.size + 1) 44 (.slice none 0 0)) := hid (by rw [hW1]; have := Go.Boxed.new (w.alloc (.cells #[.int .i64 t.a, .int .i64 t.b, .int .i64 t.c, .int .i64 t.d] 24)) 44 (.slice none 0 0); simpa using this)
  rw [← hW1]
  clear hW1
  refine (implRun_none t ao cap W1).mono ?_
  rintro e w2 ⟨ao2, cap2, rfl, hb2⟩
  have HB2 : Hid (Below W1.heap.size W1 w2) := hb2
  clear hb2
  go_wp2_with fail
  refine (eachWait_any (.slice ao2 0 cap2) (.slice ao 0 cap) ao2 ao 0 cap2 0 cap w2 rfl rfl).mono ?_
  rintro e w3 ⟨rfl, hb3, hs3, x0, x1⟩
  have HX0 : Hid (w3.cell? ⟨w2.heap.size, 0, none⟩ = some (.slice ao2 0 cap2)) := x0
  have HS3 : Hid (w3.heap.size = w2.heap.size + 2) := hs3
  have HBX3 : Hid (Go.Boxed w3 (w.heap.size + 1) 44 (.slice none 0 0)) := hid ((hb3.block _ (by have := HZ1.out; have := HB2.out.size; omega)).trans ((HB2.out.block _ (by have := HZ1.out; omega)).trans HBX1.out))
  have HW3 : Hid (Below w.heap.size w w3) := hid ((HW1.out.trans (HB2.out.mono HW1.out.size)).trans (hb3.mono (Nat.le_trans HW1.out.size HB2.out.size)))
  clear hb3 x0 x1 hs3
  go_wp2_with fail
  refine rf_loop (gf := 76) (lb := #[.pointer (some ⟨w2.heap.size, 0, none⟩), .pointer (some ⟨w2.heap.size + 1, 0, none⟩)]) rfl (enters_of Try.func76 (by kernel_rfl) rfl) ?_
  intro fn
  generalize hRr : Obj.loop (loopOf fn _ _ _ _ _ .ready none) = Rr
  refine callsIn_wide.2 ((waits_iter0 Rr w w3 (w.heap.size + 1) w2.heap.size (w2.heap.size + 1) cap2 ao2 HX0.out HBX3.out HW3.out).mono ?done)
  case done =>
    rintro e W ⟨hv, N, hj⟩
    refine ⟨hv, .inl ⟨hj.1.trans (by rw [← hRr]), ?_⟩⟩
    generalize Obj.loop _ = Rx
    clear hRr
    dsimp only
    obtain ⟨h1, h2, ⟨vv, hbx, hrow⟩, hbw, hwN⟩ := hj
    have HZW : Hid (w.heap.size + 2 ≤ w2.heap.size) := hid (by have := HZ1.out; have := HB2.out.size; omega)
    have HZ3 : Hid (w3.heap.size = w2.heap.size + 2) := HS3
    obtain ⟨Z, hZ⟩ : ∃ Z, Z = W.putObj (w3.heap.size + 1) Rx := ⟨_, rfl⟩
    rw [← hZ]
    have hbz : Go.Boxed Z (w.heap.size + 1) 44 vv := by rw [hZ]; exact (World.putObj_heap_other (by have := HZW.out; have := HZ3.out; omega)).trans hbx
    have hzb := hbz.cell
    have HZD : Hid (Z.heap[w3.heap.size]? = some (.deferred (some []))) := hid (by rw [hZ]; exact (World.putObj_heap_other (by omega)).trans h2)
    have HVV : Hid (∃ p c, vv = .slice p 0 c) := hid (by
      rcases hrow.2 with ⟨rfl, _⟩ | ⟨g, c, cur, rfl, _⟩
      · exact ⟨_, _, rfl⟩
      · exact ⟨_, _, rfl⟩)
    have HBZ : Hid (Below w.heap.size w (Z.putObj w3.heap.size (.deferred none))) := hid (by
      rw [hZ]
      exact (hbw.grown (grownBy_putObj' _ _ _) hbw.size (fun k e => by cases e; have := HZW.out; have := HZ3.out; omega)).grown (grownBy_putObj' _ _ _) (by simpa using hbw.size) (fun k e => by cases e; have := HZW.out; have := HZ3.out; omega))
    clear hZ hrow hbx hbz h1 h2 hbw
    obtain ⟨p, c, rfl⟩ := HVV.out
    go_wp2
    refine ⟨by simp, .inl ⟨_, _, rfl, run_takeDeferred HZD.out, ?_⟩⟩
    exact ⟨_, results_tmp (t := 4) rfl _ _ _, p, c, rfl, HBZ.out⟩

end Go.Proofs.Ytcidikmbngflcaa
