/- A memory of whatever pages: Load. -/
import Derived.Test.YtndbkkldfinggabR3
namespace Go.Proofs.Ytndbkkldfinggab
open Go.RowKit Go.Shelf
def isN (n : Nat) : Prop := n = 1 ∨ n = 2 ∨ n = 4 ∨ n = 8
set_option maxHeartbeats 1000000 in
theorem number_any (b r : Nat) (ps : List Pgd) (bt : Nat → Nat → Int) (a : Int) (n : Nat) (perm : Int) (w : World) (h : Mm w b r ps bt) (a0 : 0 ≤ a) (hn : isN n) (h1 : a + n ≤ 281474976710656) : Calls Try.prog 30 #[.pointer (some ⟨b, 0, none⟩), .int .u64 a, .int .i64 n, .int .i64 perm] w fun e w' => e = .returned (.int .i64 (useE ps a n perm)) ∧ Below w.heap.size w w' := by
  have HU : Hid (Calls Try.prog 42 #[.pointer (some ⟨b, 0, none⟩), .int .u64 a, .int .i64 n, .int .i64 perm] w fun e w' => e = .returned (.int .i64 (useE ps a n perm)) ∧ Below w.heap.size w w') := usable_any b r ps bt a n perm w h a0 (by unfold isN at hn; omega) (by unfold isN at hn; omega) h1
  generalize useE ps a n perm = res at *
  clear h
  rcases hn with rfl | rfl | rfl | rfl
  all_goals
    go_enter Try.func30, Try.ntmps30
    go_wp2_with fail
    refine HU.out.mono ?_
    rintro e w1 ⟨rfl, hb⟩
    go_wp2
    go_ret
    exact ⟨rfl, hb⟩
theorem useE_zero {ps : List Pgd} {a n perm : Int} (h : useE ps a n perm = 0) (i : Nat) (hi : i < pM a n) : pg ps (pB a i) = some (pgX ps a i) := by
  have key : ∀ k, pg ps k ≠ none → pg ps k = some ((pg ps k).getD noP) := by
    intro k hk
    cases h : pg ps k with
    | none => exact absurd h hk
    | some x => rfl
  refine key _ ?_
  unfold useE at h
  unfold pM at hi
  intro hn
  cases h1 : pg ps (bs a) with
  | none => rw [h1] at h; simp at h
  | some x =>
    rw [h1] at h
    simp only [] at h
    split at hi
    · obtain rfl : i = 0 := by omega
      unfold pB at hn
      rw [show bs a + 4096 * ((0 : Nat) : Int) = bs a by omega, h1] at hn
      cases hn
    · rename_i hle
      rw [if_neg hle] at h
      rcases (by omega : i = 0 ∨ i = 1) with rfl | rfl
      · unfold pB at hn
        rw [show bs a + 4096 * ((0 : Nat) : Int) = bs a by omega, h1] at hn
        cases hn
      · unfold pB at hn
        rw [show bs a + 4096 * ((1 : Nat) : Int) = bs a + 4096 by omega] at hn
        rw [hn] at h
        simp at h
/-- What Load tells. -/
def loadV (ps : List Pgd) (bt : Nat → Nat → Int) (a : Int) (n : Nat) : Int := if useE ps a n 4 = 0 then sumV (byts ps bt a n) else 0
set_option maxHeartbeats 1000000 in
theorem load_any (b r : Nat) (ps : List Pgd) (bt : Nat → Nat → Int) (a : Int) (n : Nat) (w : World) (h : Mm w b r ps bt) (a0 : 0 ≤ a) (hn : isN n) (h1 : a + n ≤ 281474976710656) : Calls Try.prog 11 #[.pointer (some ⟨b, 0, none⟩), .int .u64 a, .int .i64 n] w fun e w' => e = .returned (.tuple #[.int .u64 (loadV ps bt a n), .int .i64 (useE ps a n 4)]) ∧ Below w.heap.size w w' := by
  have n1 : 1 ≤ n ∧ n ≤ 8 := by unfold isN at hn; omega
  have HU := number_any b r ps bt a n 4 w h a0 hn h1
  by_cases hu : useE ps a n 4 = 0
  · have HV : Hid (∀ W, Below w.heap.size w W → Calls Try.prog 31 #[.pointer (some ⟨b, 0, none⟩), .int .u64 a, .int .i64 n] W fun e w' => e = .returned (.int .u64 (sumV (byts ps bt a n))) ∧ Below W.heap.size W w') := fun W hb => by
      have t := value_any b r ps bt a n (pM a n) (pgX ps a) W (h.below hb) a0 (by omega) (by omega) h1 (pM_iff a0 (by omega) (by omega)) (by unfold pM; split <;> omega) (useE_zero hu)
      rw [pieces_byts a0 n1.1 n1.2, accV_sum _ _ rfl (fun x hx => by obtain ⟨j, _, rfl⟩ := List.mem_map.1 hx; exact h.small _ _) (by rw [byts_len]; omega)] at t
      exact t
    unfold loadV
    rw [if_pos hu]
    rw [hu] at HU ⊢
    have HU' : Hid (Calls Try.prog 30 #[.pointer (some ⟨b, 0, none⟩), .int .u64 a, .int .i64 n, .int .i64 4] w fun e w' => e = .returned (.int .i64 0) ∧ Below w.heap.size w w') := HU
    clear HU hu h
    generalize sumV (byts ps bt a n) = v at *
    go_enter Try.func11, Try.ntmps11
    go_wp2_with fail
    refine HU'.out.mono ?_
    rintro e w1 ⟨rfl, hb⟩
    have HB : Hid (Below w.heap.size w w1) := hb
    clear hb
    go_wp2_with fail
    refine (HV.out w1 HB.out).mono ?_
    rintro e w2 ⟨rfl, hb⟩
    have HB2 : Hid (Below w.heap.size w w2) := HB.out.trans (hb.mono HB.out.size)
    clear hb
    go_wp2
    go_ret2
    exact ⟨rfl, HB2.out⟩
  · unfold loadV
    rw [if_neg hu]
    generalize useE ps a n 4 = res at *
    have HU' : Hid (Calls Try.prog 30 #[.pointer (some ⟨b, 0, none⟩), .int .u64 a, .int .i64 n, .int .i64 4] w fun e w' => e = .returned (.int .i64 res) ∧ Below w.heap.size w w') := HU
    clear HU h
    go_enter Try.func11, Try.ntmps11
    go_wp2_with fail
    refine HU'.out.mono ?_
    rintro e w1 ⟨rfl, hb⟩
    have HB : Hid (Below w.heap.size w w1) := hb
    clear hb
    go_wp2
    go_ret2
    exact ⟨rfl, HB.out⟩
end Go.Proofs.Ytndbkkldfinggab
