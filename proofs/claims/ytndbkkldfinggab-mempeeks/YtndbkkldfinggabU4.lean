/- Store: what it tells, and the bytes behind it. -/
import Derived.Test.YtndbkkldfinggabU3
namespace Go.Proofs.Ytndbkkldfinggab
open Go.RowKit Go.Shelf
set_option maxHeartbeats 1000000 in
theorem store_err (b r : Nat) (ps : List Pgd) (bt : Nat → Nat → Int) (a v : Int) (n : Nat) (w : World) (h : Mo w b r ps bt) (a0 : 0 ≤ a) (hn : isN n) (h48 : a + n ≤ 281474976710656) (hu : ¬ useE ps a n 2 = 0) : Calls Try.prog 17 #[.pointer (some ⟨b, 0, none⟩), .int .u64 a, .int .i64 n, .int .u64 v] w fun e w' => e = .returned (.int .i64 (useE ps a n 2)) ∧ Below w.heap.size w w' := by
  have HB : Hid (Below w.heap.size w (w.alloc (.cells #[.int .u64 v] 23))) := (Below.refl _ w).alloc (Nat.le_refl _) _
  have HU : Hid (Calls Try.prog 30 #[.pointer (some ⟨b, 0, none⟩), .int .u64 a, .int .i64 n, .int .i64 2] (w.alloc (.cells #[.int .u64 v] 23)) fun e w' => e = .returned (.int .i64 (useE ps a n 2)) ∧ Below (w.alloc (.cells #[.int .u64 v] 23)).heap.size (w.alloc (.cells #[.int .u64 v] 23)) w') := number_any b r ps bt a n 2 (w.alloc (.cells #[.int .u64 v] 23)) (h.mm.below HB.out) a0 hn h48
  generalize useE ps a n 2 = res at *
  clear h
  go_enter Try.func17, Try.ntmps17
  go_wp2_with fail
  refine HU.out.mono ?_
  rintro e w1 ⟨rfl, hb⟩
  have HB1 : Hid (Below w.heap.size w w1) := HB.out.trans (hb.mono (by simp))
  clear hb
  go_wp2
  go_ret
  exact ⟨rfl, HB1.out⟩
/-- The places of n bytes. -/
def plc (ps : List Pgd) (a : Int) (n : Nat) : List (Nat × Nat) := (List.range n).map fun (j : Nat) => (((pg ps (bs (a + (j : Int)))).getD noP).g, (a + (j : Int) - bs (a + (j : Int))).toNat)
theorem plc_add (ps : List Pgd) (a : Int) (n m : Nat) : plc ps a (n + m) = plc ps a n ++ plc ps (a + n) m := by
  unfold plc
  rw [List.range_add, List.map_append, List.map_map]
  congr 1
  apply List.map_congr_left
  intro j _
  simp only [Function.comp]
  rw [show a + ((n + j : Nat) : Int) = a + n + j by omega]
theorem pieces_plc {ps : List Pgd} {a : Int} {n : Nat} (a0 : 0 ≤ a) (n0 : 1 ≤ n) (n1 : n ≤ 8) : ((List.finRange (pM a n)).flatMap fun x => plcs a n (pgX ps a) x.1) = plc ps a n := by
  obtain ⟨f0, f1, f2, f3⟩ := bs_facts a0
  have hp : ∀ i, pl a i < a + n → plcs a n (pgX ps a) i = plc ps (pl a i) (pL a n i) := by
    intro i h
    obtain ⟨q, o, L, k1, k2, k3, k4, k5, k6, k7, k8, k9, k10, k11⟩ := p_facts (n := n) (i := i) a0 h
    unfold plcs plc
    apply List.map_congr_left
    intro j hj
    rw [List.mem_range] at hj
    have e : bs (pl a i + (j : Int)) = q := by unfold bs; omega
    unfold pgX
    rw [e, k1, k3, k2]
    congr 1
    omega
  have e0 : pl a 0 = a := by unfold pl pB; simp only [Int.natCast_zero]; omega
  by_cases h : a + n ≤ bs a + 4096
  · have em : pM a n = 1 := by unfold pM; rw [if_pos h]
    rw [em]
    simp only [List.finRange_succ, List.finRange_zero, List.map_nil, List.flatMap_cons, List.flatMap_nil, List.append_nil]
    rw [show ((0 : Fin 1) : Nat) = 0 from rfl, hp 0 (by omega), e0]
    congr 1
    unfold pL pB
    rw [e0]
    omega
  · have em : pM a n = 2 := by unfold pM; rw [if_neg h]
    rw [em]
    have e1 : pl a 1 = bs a + 4096 := by unfold pl pB; simp only [Int.natCast_one]; omega
    simp only [List.finRange_succ, List.finRange_zero, List.map_nil, List.map_cons, List.flatMap_cons, List.flatMap_nil, List.append_nil]
    rw [show ((0 : Fin 2) : Nat) = 0 from rfl, show ((Fin.succ 0 : Fin 2) : Nat) = 1 from rfl, hp 0 (by omega), hp 1 (by omega), e0, e1]
    have l0 : pL a n 0 = (bs a + 4096 - a).toNat := by unfold pL pB; rw [e0]; omega
    have l1 : pL a n 1 = (a + n - bs a - 4096).toNat := by unfold pL pB; rw [e1]; omega
    rw [l0, l1]
    have t := plc_add ps a (bs a + 4096 - a).toNat (a + n - bs a - 4096).toNat
    rw [show (bs a + 4096 - a).toNat + (a + n - bs a - 4096).toNat = n by omega, show a + ((bs a + 4096 - a).toNat : Int) = bs a + 4096 by omega] at t
    exact t.symm
/-- The bytes behind a Store. -/
def stB (ps : List Pgd) (bt : Nat → Nat → Int) (a : Int) (n : Nat) (v : Int) : Nat → Nat → Int := if useE ps a n 2 = 0 then (wrL bt v (plc ps a n)).1 else bt
theorem store_any (b r : Nat) (ps : List Pgd) (bt : Nat → Nat → Int) (a v : Int) (n : Nat) (w : World) (h : Mo w b r ps bt) (a0 : 0 ≤ a) (hn : isN n) (h48 : a + n ≤ 281474976710656) (v0 : 0 ≤ v) (v1 : v < 18446744073709551616) : Calls Try.prog 17 #[.pointer (some ⟨b, 0, none⟩), .int .u64 a, .int .i64 n, .int .u64 v] w fun e w' => e = .returned (.int .i64 (useE ps a n 2)) ∧ But ps w.heap.size w w' ∧ Mo w' b r ps (stB ps bt a n v) := by
  have n1 : 1 ≤ n ∧ n ≤ 8 := by unfold isN at hn; omega
  unfold stB
  by_cases hu : useE ps a n 2 = 0
  · rw [if_pos hu, hu]
    have t := store_ok b r ps bt a v n (pM a n) (pgX ps a) w h a0 hn h48 v0 v1 hu (pM_iff a0 (by omega) (by omega)) (useE_zero hu)
    rw [pieces_plc a0 n1.1 n1.2] at t
    exact t
  · rw [if_neg hu]
    exact (store_err b r ps bt a v n w h a0 hn h48 hu).mono fun e w' ⟨h1, h2⟩ => ⟨h1, But.of_below h2, h.below h2⟩
end Go.Proofs.Ytndbkkldfinggab
