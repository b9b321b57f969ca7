/-
  The cursor that draws choices: next, pick.
-/
import Derived.Test.YtcidikmbngflcaaSlots
import Derived.BigQuiet
import Derived.OpenShut
import Derived.Deep.QuietTactic
namespace Go.Proofs.Ytcidikmbngflcaa
open Go.ChangeShapes Go.WideShapes Go.ChangeAt Go.RowKit
set_option maxRecDepth 100000
set_option linter.unusedSimpArgs false

/-- The bytes of the code, from an address on. -/
def Bytes (w : World) (ao : Option Addr) (len : Nat) (B : Nat → Int) : Prop :=
  len = 0 ∨ ∃ b o, ao = some ⟨b, o, none⟩ ∧ b < w.heap.size ∧ ∀ i, i < len → w.cell? ⟨b, o + i, none⟩ = some (.int .u8 (B i)) ∧ 0 ≤ B i ∧ B i ≤ 255
/-- The cursor's three cells. -/
def CurAt (w : World) (C : Nat) (ao : Option Addr) (len cap k : Nat) (s : Int) : Prop :=
  w.cell? ⟨C, 0, none⟩ = some (.slice ao len cap) ∧ w.cell? ⟨C, 1, none⟩ = some (.int .i64 k) ∧ w.cell? ⟨C, 2, none⟩ = some (.int .u64 s) ∧ (∀ j, w.frozen? ⟨C, j, none⟩ = false) ∧ 0 ≤ s ∧ s ≤ 18446744073709551615

/-- What the cursor says next, and its seed behind it. -/
def seedIn (s b : Int) : Int := IntKind.u64.wrap (IntKind.u64.wrap (IntKind.u64.wrap (s * 6364136223846793005) + b) + 1442695040888963407)
def seedOut (s : Int) : Int := IntKind.u64.wrap (IntKind.u64.wrap (s * 6364136223846793005) + 1442695040888963407)
theorem u64_bd (x : Int) : 0 ≤ IntKind.u64.wrap x ∧ IntKind.u64.wrap x ≤ 18446744073709551615 := bounds_u64 (wf_wrap .u64 x)
theorem seedIn_bd (s b : Int) : 0 ≤ seedIn s b ∧ seedIn s b ≤ 18446744073709551615 := u64_bd _
theorem seedOut_bd (s : Int) : 0 ≤ seedOut s ∧ seedOut s ≤ 18446744073709551615 := u64_bd _

theorem cur_set {w : World} {C : Nat} {ao : Option Addr} {len cap k : Nat} {s : Int} (h : CurAt w C ao len cap k s) (n : Nat) (s' : Int) (h0 : 0 ≤ s') (h1 : s' ≤ 18446744073709551615) :
    CurAt (((w.drewN n).setCell ⟨C, 1, none⟩ (.int .i64 ((k : Int) + 1))).setCell ⟨C, 2, none⟩ (.int .u64 s')) C ao len cap (k + 1) s' := by
  obtain ⟨c0, c1, c2, cz, _⟩ := h
  have e : ((k + 1 : Nat) : Int) = (k : Int) + 1 := by omega
  refine ⟨by simp [go_sem, c0, c1, c2], by rw [e]; simp [go_sem, c0, c1, c2], by simp [go_sem, c0, c1, c2], fun j => by simp [go_sem, cz], h0, h1⟩
theorem only_cur {w : World} {C : Nat} (n : Nat) (v1 v2 : Value) : Only C w (((w.drewN n).setCell ⟨C, 1, none⟩ v1).setCell ⟨C, 2, none⟩ v2) :=
  have base : Only C w (w.drewN n) := ⟨rfl, rfl, rfl, rfl, fun _ _ => rfl⟩
  (base.set _ _).set _ _
theorem only_cur2 {w : World} {C : Nat} (n : Nat) (v1 v2 : Value) : Only C w (((w.drewN n).setCell ⟨C, 2, none⟩ v1).setCell ⟨C, 1, none⟩ v2) :=
  have base : Only C w (w.drewN n) := ⟨rfl, rfl, rfl, rfl, fun _ _ => rfl⟩
  (base.set _ _).set _ _
theorem cur_set2 {w : World} {C : Nat} {ao : Option Addr} {len cap k : Nat} {s : Int} (h : CurAt w C ao len cap k s) (n : Nat) (s' : Int) (h0 : 0 ≤ s') (h1 : s' ≤ 18446744073709551615) :
    CurAt (((w.drewN n).setCell ⟨C, 2, none⟩ (.int .u64 s')).setCell ⟨C, 1, none⟩ (.int .i64 ((k : Int) + 1))) C ao len cap (k + 1) s' := by
  obtain ⟨c0, c1, c2, cz, _⟩ := h
  have e : ((k + 1 : Nat) : Int) = (k : Int) + 1 := by omega
  refine ⟨by simp [go_sem, c0, c1, c2], by rw [e]; simp [go_sem, c0, c1, c2], by simp [go_sem, c0, c1, c2], fun j => by simp [go_sem, cz], h0, h1⟩
def valOut (s : Int) : Int := wrap64 (bits BinOp.and IntKind.u64 (seedOut s / 1099511627776) 255)
theorem valOut_bd (s : Int) : 0 ≤ valOut s ∧ valOut s ≤ 255 := by
  have hs := seedOut_bd s
  have h := bits_mask .u64 63 (by decide) (fun n h0 h1 => by rw [IntKind.wrap_u64]; omega) 8 (by decide) (seedOut s / 1099511627776) (by omega) (by omega)
  have e : ((2 : Int) ^ 8 - 1) = 255 := by decide
  have e2 : ((2 : Int) ^ 8) = 256 := by decide
  rw [e, e2] at h
  unfold valOut
  rw [h]
  unfold wrap64
  omega

set_option maxHeartbeats 1000000 in
theorem next_in (C b o len cap k : Nat) (s : Int) (B : Nat → Int) (w : World) (hk : k < len) (hl : len ≤ 1048576) (h : CurAt w C (some ⟨b, o, none⟩) len cap k s) (hB : w.cell? ⟨b, o + k, none⟩ = some (.int .u8 (B k))) (h0 : 0 ≤ B k) (h1 : B k ≤ 255) :
    Calls Try.prog 66 #[.pointer (some ⟨C, 0, none⟩)] w fun e w' => e = .returned (.int .i64 (B k)) ∧ CurAt w' C (some ⟨b, o, none⟩) len cap (k + 1) (seedIn s (B k)) ∧ Only C w w' := by
  have HC : Hid (CurAt w C (some ⟨b, o, none⟩) len cap k s) := h
  obtain ⟨c0, c1, c2, cz, s0, s1⟩ := h
  have b0 : (0 : Int) ≤ (k : Int) := by omega
  have b1 : (k : Int) < (len : Int) := by omega
  go_enter Try.func66, Try.ntmps66
  go_wp2
  go_quiet (fail)
  go_wp2
  go_quiet (fail)
  go_wp2
  go_ret
  exact ⟨rfl, cur_set HC.out _ _ (seedIn_bd _ _).1 (seedIn_bd _ _).2, only_cur _ _ _⟩

set_option maxHeartbeats 1000000 in
theorem next_out (C len cap k : Nat) (ao : Option Addr) (s : Int) (w : World) (hk : len ≤ k) (hk2 : k ≤ 1000000000) (h : CurAt w C ao len cap k s) :
    Calls Try.prog 66 #[.pointer (some ⟨C, 0, none⟩)] w fun e w' => e = .returned (.int .i64 (valOut s)) ∧ CurAt w' C ao len cap (k + 1) (seedOut s) ∧ Only C w w' := by
  have HC : Hid (CurAt w C ao len cap k s) := h
  obtain ⟨c0, c1, c2, cz, s0, s1⟩ := h
  have b1 : ¬ (k : Int) < (len : Int) := by omega
  go_enter Try.func66, Try.ntmps66
  go_wp2
  go_quiet (fail)
  go_wp2
  go_ret
  exact ⟨rfl, cur_set2 HC.out _ _ (seedOut_bd _).1 (seedOut_bd _).2, only_cur2 _ _ _⟩

/-- The next choice and the seed behind it. -/
def nextV (len : Nat) (B : Nat → Int) (k : Nat) (s : Int) : Int := if k < len then B k else valOut s
def nextSd (len : Nat) (B : Nat → Int) (k : Nat) (s : Int) : Int := if k < len then seedIn s (B k) else seedOut s

/-- The code and the cursor over it. -/
structure Draw (w : World) (C : Nat) (ao : Option Addr) (len cap : Nat) (B : Nat → Int) (k : Nat) (s : Int) : Prop where
  cur : CurAt w C ao len cap k s
  bytes : len = 0 ∨ ∃ b o, ao = some ⟨b, o, none⟩ ∧ b < C ∧ ∀ i, i < len → w.cell? ⟨b, o + i, none⟩ = some (.int .u8 (B i))
  rng : ∀ i, 0 ≤ B i ∧ B i ≤ 255
  short : len ≤ 1048576
theorem Draw.only {w w' : World} {C : Nat} {ao : Option Addr} {len cap : Nat} {B : Nat → Int} {k k' : Nat} {s s' : Int} (h : Draw w C ao len cap B k s) (ho : Only C w w') (hc : CurAt w' C ao len cap k' s') : Draw w' C ao len cap B k' s' :=
  ⟨hc, h.bytes.elim .inl fun ⟨b, o, e, hne, hb⟩ => .inr ⟨b, o, e, hne, fun i hi => (World.cell?_of_block (w := w) (a := ⟨b, o + i, none⟩) (ho.block b (by omega))).trans (hb i hi)⟩, h.rng, h.short⟩

theorem next_any (C len cap k : Nat) (ao : Option Addr) (s : Int) (B : Nat → Int) (w : World) (hk : k ≤ 1000000000) (h : Draw w C ao len cap B k s) :
    Calls Try.prog 66 #[.pointer (some ⟨C, 0, none⟩)] w fun e w' => e = .returned (.int .i64 (nextV len B k s)) ∧ Draw w' C ao len cap B (k + 1) (nextSd len B k s) ∧ Only C w w' := by
  unfold nextV nextSd
  by_cases hlt : k < len
  · rw [if_pos hlt, if_pos hlt]
    rcases h.bytes with e | ⟨b, o, rfl, hne, hb⟩
    · omega
    · refine (next_in C b o len cap k s B w hlt h.short h.cur (hb k hlt) (h.rng k).1 (h.rng k).2).mono ?_
      rintro e w' ⟨rfl, hc, ho⟩
      exact ⟨rfl, h.only ho hc, ho⟩
  · rw [if_neg hlt, if_neg hlt]
    refine (next_out C len cap k ao s w (by omega) hk h.cur).mono ?_
    rintro e w' ⟨rfl, hc, ho⟩
    exact ⟨rfl, h.only ho hc, ho⟩
theorem nextV_bd {len : Nat} {B : Nat → Int} (h : ∀ i, 0 ≤ B i ∧ B i ≤ 255) (k : Nat) (s : Int) : 0 ≤ nextV len B k s ∧ nextV len B k s ≤ 255 := by
  unfold nextV; split
  · exact h k
  · exact valOut_bd s

theorem Only.trans {g : Nat} {a b c : World} (h : Only g a b) (k : Only g b c) : Only g a c :=
  ⟨k.os.trans h.os, k.tape.trans h.tape, k.output.trans h.output, k.size.trans h.size, fun i hi => (k.block i hi).trans (h.block i hi)⟩

/-- A cursor's state: how far, and the seed. -/
structure CS where
  k : Nat
  s : Int
def CS.next (len : Nat) (B : Nat → Int) (c : CS) : CS := ⟨c.k + 1, nextSd len B c.k c.s⟩
def CS.val (len : Nat) (B : Nat → Int) (c : CS) : Int := nextV len B c.k c.s
/-- pick n. -/
def pickV (len : Nat) (B : Nat → Int) (n : Int) (c : CS) : Int :=
  if n ≤ 1 then 0 else if 200 < n then (c.val len B * 256 + (c.next len B).val len B) % n else c.val len B % n
def pickC (len : Nat) (B : Nat → Int) (n : Int) (c : CS) : CS :=
  if n ≤ 1 then c else if 200 < n then (c.next len B).next len B else c.next len B
theorem pickV_bd (len : Nat) (B : Nat → Int) (n : Int) (c : CS) (hn : 1 ≤ n) : 0 ≤ pickV len B n c ∧ pickV len B n c < n := by
  unfold pickV
  split
  · omega
  · split
    · exact ⟨Int.emod_nonneg _ (by omega), Int.emod_lt_of_pos _ (by omega)⟩
    · exact ⟨Int.emod_nonneg _ (by omega), Int.emod_lt_of_pos _ (by omega)⟩
theorem pickC_k (len : Nat) (B : Nat → Int) (n : Int) (c : CS) : (pickC len B n c).k ≤ c.k + 2 := by
  unfold pickC CS.next
  split
  · omega
  · split <;> simp

set_option maxHeartbeats 1000000 in
theorem pick_any (C len cap : Nat) (ao : Option Addr) (B : Nat → Int) (c : CS) (n : Int) (w : World) (hk : c.k ≤ 999999999) (h1 : 1 ≤ n) (h2 : n ≤ 1000000) (h : Draw w C ao len cap B c.k c.s) :
    Calls Try.prog 44 #[.pointer (some ⟨C, 0, none⟩), .int .i64 n] w fun e w' => e = .returned (.int .i64 (pickV len B n c)) ∧ Draw w' C ao len cap B (pickC len B n c).k (pickC len B n c).s ∧ Only C w w' := by
  have HD : Hid (Draw w C ao len cap B c.k c.s) := h
  clear h
  by_cases h0 : n ≤ 1
  · have HV : Hid (0 = pickV len B n c) := hid (by unfold pickV; rw [if_pos h0])
    have HCC : Hid (pickC len B n c = c) := hid (by unfold pickC; rw [if_pos h0])
    go_enter Try.func44, Try.ntmps44
    go_wp2
    go_ret
    exact ⟨ret_int HV.out, by rw [HCC.out]; exact HD.out, Only.refl _ _⟩
  by_cases h3 : 200 < n
  · have HV : Hid ((c.val len B * 256 + (c.next len B).val len B) % n = pickV len B n c) := hid (by unfold pickV; rw [if_neg h0, if_pos h3])
    have HCC : Hid (pickC len B n c = (c.next len B).next len B) := hid (by unfold pickC; rw [if_neg h0, if_pos h3])
    obtain ⟨a0, a1⟩ := nextV_bd (len := len) HD.out.rng c.k c.s
    obtain ⟨d0, d1⟩ := nextV_bd (len := len) HD.out.rng (c.k + 1) (nextSd len B c.k c.s)
    obtain ⟨x, hx⟩ : ∃ x, x = nextV len B c.k c.s := ⟨_, rfl⟩
    obtain ⟨y, hy⟩ : ∃ y, y = nextV len B (c.k + 1) (nextSd len B c.k c.s) := ⟨_, rfl⟩
    have HXX : Hid (x = nextV len B c.k c.s) := hx
    have HYY : Hid (y = nextV len B (c.k + 1) (nextSd len B c.k c.s)) := hy
    rw [← hx] at a0 a1
    rw [← hy] at d0 d1
    clear hx hy
    have HV2 : Hid ((x * 256 + y) % n = pickV len B n c) := hid (by rw [HXX.out, HYY.out]; exact HV.out)
    go_enter Try.func44, Try.ntmps44
    go_wp2_with fail
    refine (next_any C len cap c.k ao c.s B _ (by omega) HD.out).mono ?_
    rintro e w1 ⟨rfl, hd1, ho1⟩
    rw [← HXX.out]
    have HD1 : Hid (Draw w1 C ao len cap B (c.k + 1) (nextSd len B c.k c.s)) := hd1
    have HO1 : Hid (Only C w w1) := ho1
    clear hd1 ho1
    go_wp2_with fail
    refine (next_any C len cap (c.k + 1) ao (nextSd len B c.k c.s) B _ (by omega) HD1.out).mono ?_
    rintro e w2 ⟨rfl, hd2, ho2⟩
    rw [← HYY.out]
    have HD2 : Hid (Draw w2 C ao len cap B (pickC len B n c).k (pickC len B n c).s) := hid (by rw [HCC.out]; exact hd2)
    have HO2 : Hid (Only C w w2) := hid (HO1.out.trans ho2)
    clear hd2 ho2
    go_wp2
    go_ret
    exact ⟨ret_int HV2.out, HD2.out, HO2.out⟩
  · have HV : Hid (c.val len B % n = pickV len B n c) := hid (by unfold pickV; rw [if_neg h0, if_neg h3])
    have HCC : Hid (pickC len B n c = c.next len B) := hid (by unfold pickC; rw [if_neg h0, if_neg h3])
    obtain ⟨a0, a1⟩ := nextV_bd (len := len) HD.out.rng c.k c.s
    obtain ⟨x, hx⟩ : ∃ x, x = nextV len B c.k c.s := ⟨_, rfl⟩
    have HXX : Hid (x = nextV len B c.k c.s) := hx
    rw [← hx] at a0 a1
    clear hx
    have HV2 : Hid (x % n = pickV len B n c) := hid (by rw [HXX.out]; exact HV.out)
    go_enter Try.func44, Try.ntmps44
    go_wp2_with fail
    refine (next_any C len cap c.k ao c.s B _ (by omega) HD.out).mono ?_
    rintro e w1 ⟨rfl, hd1, ho1⟩
    rw [← HXX.out]
    have HD1 : Hid (Draw w1 C ao len cap B (pickC len B n c).k (pickC len B n c).s) := hid (by rw [HCC.out]; exact hd1)
    have HO1 : Hid (Only C w w1) := ho1
    clear hd1 ho1
    go_wp2
    go_ret
    exact ⟨ret_int HV2.out, HD1.out, HO1.out⟩

end Go.Proofs.Ytcidikmbngflcaa
