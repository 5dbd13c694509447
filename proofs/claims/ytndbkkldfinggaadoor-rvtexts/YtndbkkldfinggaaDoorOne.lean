/- Plain arithmetic: a word is of one operation at most; nothing of the program. -/
import Derived.Test.YtndbkkldfinggaaDoorRead
namespace Go.Proofs.YtndbkkldfinggaaDoor
theorem mt_1 (n : Int) : mt 1 n = true ↔ n % 128 = 55 := by
  show (((n % 128) == (55 : Int)) = true) ↔ _
  exact beq_iff_eq
theorem mt_2 (n : Int) : mt 2 n = true ↔ n % 128 = 23 := by
  show (((n % 128) == (23 : Int)) = true) ↔ _
  exact beq_iff_eq
theorem mt_3 (n : Int) : mt 3 n = true ↔ n % 128 = 111 := by
  show (((n % 128) == (111 : Int)) = true) ↔ _
  exact beq_iff_eq
theorem mt_4 (n : Int) : mt 4 n = true ↔ n % 128 + n / 4096 % 8 * 4096 = 103 := by
  show (((n % 128 + n / 4096 % 8 * 4096) == (103 : Int)) = true) ↔ _
  exact beq_iff_eq
theorem mt_5 (n : Int) : mt 5 n = true ↔ n % 128 + n / 4096 % 8 * 4096 = 99 := by
  show (((n % 128 + n / 4096 % 8 * 4096) == (99 : Int)) = true) ↔ _
  exact beq_iff_eq
theorem mt_6 (n : Int) : mt 6 n = true ↔ n % 128 + n / 4096 % 8 * 4096 = 4195 := by
  show (((n % 128 + n / 4096 % 8 * 4096) == (4195 : Int)) = true) ↔ _
  exact beq_iff_eq
theorem mt_7 (n : Int) : mt 7 n = true ↔ n % 128 + n / 4096 % 8 * 4096 = 16483 := by
  show (((n % 128 + n / 4096 % 8 * 4096) == (16483 : Int)) = true) ↔ _
  exact beq_iff_eq
theorem mt_8 (n : Int) : mt 8 n = true ↔ n % 128 + n / 4096 % 8 * 4096 = 20579 := by
  show (((n % 128 + n / 4096 % 8 * 4096) == (20579 : Int)) = true) ↔ _
  exact beq_iff_eq
theorem mt_9 (n : Int) : mt 9 n = true ↔ n % 128 + n / 4096 % 8 * 4096 = 24675 := by
  show (((n % 128 + n / 4096 % 8 * 4096) == (24675 : Int)) = true) ↔ _
  exact beq_iff_eq
theorem mt_10 (n : Int) : mt 10 n = true ↔ n % 128 + n / 4096 % 8 * 4096 = 28771 := by
  show (((n % 128 + n / 4096 % 8 * 4096) == (28771 : Int)) = true) ↔ _
  exact beq_iff_eq
theorem mt_11 (n : Int) : mt 11 n = true ↔ n % 128 + n / 4096 % 8 * 4096 = 3 := by
  show (((n % 128 + n / 4096 % 8 * 4096) == (3 : Int)) = true) ↔ _
  exact beq_iff_eq
theorem mt_12 (n : Int) : mt 12 n = true ↔ n % 128 + n / 4096 % 8 * 4096 = 4099 := by
  show (((n % 128 + n / 4096 % 8 * 4096) == (4099 : Int)) = true) ↔ _
  exact beq_iff_eq
theorem mt_13 (n : Int) : mt 13 n = true ↔ n % 128 + n / 4096 % 8 * 4096 = 8195 := by
  show (((n % 128 + n / 4096 % 8 * 4096) == (8195 : Int)) = true) ↔ _
  exact beq_iff_eq
theorem mt_14 (n : Int) : mt 14 n = true ↔ n % 128 + n / 4096 % 8 * 4096 = 12291 := by
  show (((n % 128 + n / 4096 % 8 * 4096) == (12291 : Int)) = true) ↔ _
  exact beq_iff_eq
theorem mt_15 (n : Int) : mt 15 n = true ↔ n % 128 + n / 4096 % 8 * 4096 = 16387 := by
  show (((n % 128 + n / 4096 % 8 * 4096) == (16387 : Int)) = true) ↔ _
  exact beq_iff_eq
theorem mt_16 (n : Int) : mt 16 n = true ↔ n % 128 + n / 4096 % 8 * 4096 = 20483 := by
  show (((n % 128 + n / 4096 % 8 * 4096) == (20483 : Int)) = true) ↔ _
  exact beq_iff_eq
theorem mt_17 (n : Int) : mt 17 n = true ↔ n % 128 + n / 4096 % 8 * 4096 = 24579 := by
  show (((n % 128 + n / 4096 % 8 * 4096) == (24579 : Int)) = true) ↔ _
  exact beq_iff_eq
theorem mt_18 (n : Int) : mt 18 n = true ↔ n % 128 + n / 4096 % 8 * 4096 = 35 := by
  show (((n % 128 + n / 4096 % 8 * 4096) == (35 : Int)) = true) ↔ _
  exact beq_iff_eq
theorem mt_19 (n : Int) : mt 19 n = true ↔ n % 128 + n / 4096 % 8 * 4096 = 4131 := by
  show (((n % 128 + n / 4096 % 8 * 4096) == (4131 : Int)) = true) ↔ _
  exact beq_iff_eq
theorem mt_20 (n : Int) : mt 20 n = true ↔ n % 128 + n / 4096 % 8 * 4096 = 8227 := by
  show (((n % 128 + n / 4096 % 8 * 4096) == (8227 : Int)) = true) ↔ _
  exact beq_iff_eq
theorem mt_21 (n : Int) : mt 21 n = true ↔ n % 128 + n / 4096 % 8 * 4096 = 12323 := by
  show (((n % 128 + n / 4096 % 8 * 4096) == (12323 : Int)) = true) ↔ _
  exact beq_iff_eq
theorem mt_22 (n : Int) : mt 22 n = true ↔ n % 128 + n / 4096 % 8 * 4096 = 19 := by
  show (((n % 128 + n / 4096 % 8 * 4096) == (19 : Int)) = true) ↔ _
  exact beq_iff_eq
theorem mt_23 (n : Int) : mt 23 n = true ↔ n % 128 + n / 4096 % 8 * 4096 = 8211 := by
  show (((n % 128 + n / 4096 % 8 * 4096) == (8211 : Int)) = true) ↔ _
  exact beq_iff_eq
theorem mt_24 (n : Int) : mt 24 n = true ↔ n % 128 + n / 4096 % 8 * 4096 = 12307 := by
  show (((n % 128 + n / 4096 % 8 * 4096) == (12307 : Int)) = true) ↔ _
  exact beq_iff_eq
theorem mt_25 (n : Int) : mt 25 n = true ↔ n % 128 + n / 4096 % 8 * 4096 = 16403 := by
  show (((n % 128 + n / 4096 % 8 * 4096) == (16403 : Int)) = true) ↔ _
  exact beq_iff_eq
theorem mt_26 (n : Int) : mt 26 n = true ↔ n % 128 + n / 4096 % 8 * 4096 = 24595 := by
  show (((n % 128 + n / 4096 % 8 * 4096) == (24595 : Int)) = true) ↔ _
  exact beq_iff_eq
theorem mt_27 (n : Int) : mt 27 n = true ↔ n % 128 + n / 4096 % 8 * 4096 = 28691 := by
  show (((n % 128 + n / 4096 % 8 * 4096) == (28691 : Int)) = true) ↔ _
  exact beq_iff_eq
theorem mt_28 (n : Int) : mt 28 n = true ↔ n % 128 + n / 4096 % 8 * 4096 + n / 67108864 * 67108864 = 4115 := by
  show (((n % 128 + n / 4096 % 8 * 4096 + n / 67108864 * 67108864) == (4115 : Int)) = true) ↔ _
  exact beq_iff_eq
theorem mt_29 (n : Int) : mt 29 n = true ↔ n % 128 + n / 4096 % 8 * 4096 + n / 67108864 * 67108864 = 20499 := by
  show (((n % 128 + n / 4096 % 8 * 4096 + n / 67108864 * 67108864) == (20499 : Int)) = true) ↔ _
  exact beq_iff_eq
theorem mt_30 (n : Int) : mt 30 n = true ↔ n % 128 + n / 4096 % 8 * 4096 + n / 67108864 * 67108864 = 1073762323 := by
  show (((n % 128 + n / 4096 % 8 * 4096 + n / 67108864 * 67108864) == (1073762323 : Int)) = true) ↔ _
  exact beq_iff_eq
theorem mt_31 (n : Int) : mt 31 n = true ↔ n % 128 + n / 4096 % 8 * 4096 = 27 := by
  show (((n % 128 + n / 4096 % 8 * 4096) == (27 : Int)) = true) ↔ _
  exact beq_iff_eq
theorem mt_32 (n : Int) : mt 32 n = true ↔ n % 128 + n / 4096 % 8 * 4096 + n / 33554432 * 33554432 = 4123 := by
  show (((n % 128 + n / 4096 % 8 * 4096 + n / 33554432 * 33554432) == (4123 : Int)) = true) ↔ _
  exact beq_iff_eq
theorem mt_33 (n : Int) : mt 33 n = true ↔ n % 128 + n / 4096 % 8 * 4096 + n / 33554432 * 33554432 = 20507 := by
  show (((n % 128 + n / 4096 % 8 * 4096 + n / 33554432 * 33554432) == (20507 : Int)) = true) ↔ _
  exact beq_iff_eq
theorem mt_34 (n : Int) : mt 34 n = true ↔ n % 128 + n / 4096 % 8 * 4096 + n / 33554432 * 33554432 = 1073762331 := by
  show (((n % 128 + n / 4096 % 8 * 4096 + n / 33554432 * 33554432) == (1073762331 : Int)) = true) ↔ _
  exact beq_iff_eq
theorem mt_35 (n : Int) : mt 35 n = true ↔ n % 128 + n / 4096 % 8 * 4096 + n / 33554432 * 33554432 = 51 := by
  show (((n % 128 + n / 4096 % 8 * 4096 + n / 33554432 * 33554432) == (51 : Int)) = true) ↔ _
  exact beq_iff_eq
theorem mt_36 (n : Int) : mt 36 n = true ↔ n % 128 + n / 4096 % 8 * 4096 + n / 33554432 * 33554432 = 1073741875 := by
  show (((n % 128 + n / 4096 % 8 * 4096 + n / 33554432 * 33554432) == (1073741875 : Int)) = true) ↔ _
  exact beq_iff_eq
theorem mt_37 (n : Int) : mt 37 n = true ↔ n % 128 + n / 4096 % 8 * 4096 + n / 33554432 * 33554432 = 4147 := by
  show (((n % 128 + n / 4096 % 8 * 4096 + n / 33554432 * 33554432) == (4147 : Int)) = true) ↔ _
  exact beq_iff_eq
theorem mt_38 (n : Int) : mt 38 n = true ↔ n % 128 + n / 4096 % 8 * 4096 + n / 33554432 * 33554432 = 8243 := by
  show (((n % 128 + n / 4096 % 8 * 4096 + n / 33554432 * 33554432) == (8243 : Int)) = true) ↔ _
  exact beq_iff_eq
theorem mt_39 (n : Int) : mt 39 n = true ↔ n % 128 + n / 4096 % 8 * 4096 + n / 33554432 * 33554432 = 12339 := by
  show (((n % 128 + n / 4096 % 8 * 4096 + n / 33554432 * 33554432) == (12339 : Int)) = true) ↔ _
  exact beq_iff_eq
theorem mt_40 (n : Int) : mt 40 n = true ↔ n % 128 + n / 4096 % 8 * 4096 + n / 33554432 * 33554432 = 16435 := by
  show (((n % 128 + n / 4096 % 8 * 4096 + n / 33554432 * 33554432) == (16435 : Int)) = true) ↔ _
  exact beq_iff_eq
theorem mt_41 (n : Int) : mt 41 n = true ↔ n % 128 + n / 4096 % 8 * 4096 + n / 33554432 * 33554432 = 20531 := by
  show (((n % 128 + n / 4096 % 8 * 4096 + n / 33554432 * 33554432) == (20531 : Int)) = true) ↔ _
  exact beq_iff_eq
theorem mt_42 (n : Int) : mt 42 n = true ↔ n % 128 + n / 4096 % 8 * 4096 + n / 33554432 * 33554432 = 1073762355 := by
  show (((n % 128 + n / 4096 % 8 * 4096 + n / 33554432 * 33554432) == (1073762355 : Int)) = true) ↔ _
  exact beq_iff_eq
theorem mt_43 (n : Int) : mt 43 n = true ↔ n % 128 + n / 4096 % 8 * 4096 + n / 33554432 * 33554432 = 24627 := by
  show (((n % 128 + n / 4096 % 8 * 4096 + n / 33554432 * 33554432) == (24627 : Int)) = true) ↔ _
  exact beq_iff_eq
theorem mt_44 (n : Int) : mt 44 n = true ↔ n % 128 + n / 4096 % 8 * 4096 + n / 33554432 * 33554432 = 28723 := by
  show (((n % 128 + n / 4096 % 8 * 4096 + n / 33554432 * 33554432) == (28723 : Int)) = true) ↔ _
  exact beq_iff_eq
theorem mt_45 (n : Int) : mt 45 n = true ↔ n % 128 + n / 4096 % 8 * 4096 + n / 33554432 * 33554432 = 59 := by
  show (((n % 128 + n / 4096 % 8 * 4096 + n / 33554432 * 33554432) == (59 : Int)) = true) ↔ _
  exact beq_iff_eq
theorem mt_46 (n : Int) : mt 46 n = true ↔ n % 128 + n / 4096 % 8 * 4096 + n / 33554432 * 33554432 = 1073741883 := by
  show (((n % 128 + n / 4096 % 8 * 4096 + n / 33554432 * 33554432) == (1073741883 : Int)) = true) ↔ _
  exact beq_iff_eq
theorem mt_47 (n : Int) : mt 47 n = true ↔ n % 128 + n / 4096 % 8 * 4096 + n / 33554432 * 33554432 = 4155 := by
  show (((n % 128 + n / 4096 % 8 * 4096 + n / 33554432 * 33554432) == (4155 : Int)) = true) ↔ _
  exact beq_iff_eq
theorem mt_48 (n : Int) : mt 48 n = true ↔ n % 128 + n / 4096 % 8 * 4096 + n / 33554432 * 33554432 = 20539 := by
  show (((n % 128 + n / 4096 % 8 * 4096 + n / 33554432 * 33554432) == (20539 : Int)) = true) ↔ _
  exact beq_iff_eq
theorem mt_49 (n : Int) : mt 49 n = true ↔ n % 128 + n / 4096 % 8 * 4096 + n / 33554432 * 33554432 = 1073762363 := by
  show (((n % 128 + n / 4096 % 8 * 4096 + n / 33554432 * 33554432) == (1073762363 : Int)) = true) ↔ _
  exact beq_iff_eq
theorem mt_50 (n : Int) : mt 50 n = true ↔ n % 128 + n / 4096 % 8 * 4096 + n / 33554432 * 33554432 = 33554483 := by
  show (((n % 128 + n / 4096 % 8 * 4096 + n / 33554432 * 33554432) == (33554483 : Int)) = true) ↔ _
  exact beq_iff_eq
theorem mt_51 (n : Int) : mt 51 n = true ↔ n % 128 + n / 4096 % 8 * 4096 + n / 33554432 * 33554432 = 33558579 := by
  show (((n % 128 + n / 4096 % 8 * 4096 + n / 33554432 * 33554432) == (33558579 : Int)) = true) ↔ _
  exact beq_iff_eq
theorem mt_52 (n : Int) : mt 52 n = true ↔ n % 128 + n / 4096 % 8 * 4096 + n / 33554432 * 33554432 = 33562675 := by
  show (((n % 128 + n / 4096 % 8 * 4096 + n / 33554432 * 33554432) == (33562675 : Int)) = true) ↔ _
  exact beq_iff_eq
theorem mt_53 (n : Int) : mt 53 n = true ↔ n % 128 + n / 4096 % 8 * 4096 + n / 33554432 * 33554432 = 33566771 := by
  show (((n % 128 + n / 4096 % 8 * 4096 + n / 33554432 * 33554432) == (33566771 : Int)) = true) ↔ _
  exact beq_iff_eq
theorem mt_54 (n : Int) : mt 54 n = true ↔ n % 128 + n / 4096 % 8 * 4096 + n / 33554432 * 33554432 = 33570867 := by
  show (((n % 128 + n / 4096 % 8 * 4096 + n / 33554432 * 33554432) == (33570867 : Int)) = true) ↔ _
  exact beq_iff_eq
theorem mt_55 (n : Int) : mt 55 n = true ↔ n % 128 + n / 4096 % 8 * 4096 + n / 33554432 * 33554432 = 33574963 := by
  show (((n % 128 + n / 4096 % 8 * 4096 + n / 33554432 * 33554432) == (33574963 : Int)) = true) ↔ _
  exact beq_iff_eq
theorem mt_56 (n : Int) : mt 56 n = true ↔ n % 128 + n / 4096 % 8 * 4096 + n / 33554432 * 33554432 = 33579059 := by
  show (((n % 128 + n / 4096 % 8 * 4096 + n / 33554432 * 33554432) == (33579059 : Int)) = true) ↔ _
  exact beq_iff_eq
theorem mt_57 (n : Int) : mt 57 n = true ↔ n % 128 + n / 4096 % 8 * 4096 + n / 33554432 * 33554432 = 33583155 := by
  show (((n % 128 + n / 4096 % 8 * 4096 + n / 33554432 * 33554432) == (33583155 : Int)) = true) ↔ _
  exact beq_iff_eq
theorem mt_58 (n : Int) : mt 58 n = true ↔ n % 128 + n / 4096 % 8 * 4096 + n / 33554432 * 33554432 = 33554491 := by
  show (((n % 128 + n / 4096 % 8 * 4096 + n / 33554432 * 33554432) == (33554491 : Int)) = true) ↔ _
  exact beq_iff_eq
theorem mt_59 (n : Int) : mt 59 n = true ↔ n % 128 + n / 4096 % 8 * 4096 + n / 33554432 * 33554432 = 33570875 := by
  show (((n % 128 + n / 4096 % 8 * 4096 + n / 33554432 * 33554432) == (33570875 : Int)) = true) ↔ _
  exact beq_iff_eq
theorem mt_60 (n : Int) : mt 60 n = true ↔ n % 128 + n / 4096 % 8 * 4096 + n / 33554432 * 33554432 = 33574971 := by
  show (((n % 128 + n / 4096 % 8 * 4096 + n / 33554432 * 33554432) == (33574971 : Int)) = true) ↔ _
  exact beq_iff_eq
theorem mt_61 (n : Int) : mt 61 n = true ↔ n % 128 + n / 4096 % 8 * 4096 + n / 33554432 * 33554432 = 33579067 := by
  show (((n % 128 + n / 4096 % 8 * 4096 + n / 33554432 * 33554432) == (33579067 : Int)) = true) ↔ _
  exact beq_iff_eq
theorem mt_62 (n : Int) : mt 62 n = true ↔ n % 128 + n / 4096 % 8 * 4096 + n / 33554432 * 33554432 = 33583163 := by
  show (((n % 128 + n / 4096 % 8 * 4096 + n / 33554432 * 33554432) == (33583163 : Int)) = true) ↔ _
  exact beq_iff_eq
theorem mt_63 (n : Int) : mt 63 n = true ↔ n = 15 := by
  show (((n) == (15 : Int)) = true) ↔ _
  exact beq_iff_eq
theorem mt_64 (n : Int) : mt 64 n = true ↔ n = 115 := by
  show (((n) == (115 : Int)) = true) ↔ _
  exact beq_iff_eq
theorem mt_65 (n : Int) : mt 65 n = true ↔ n = 1048691 := by
  show (((n) == (1048691 : Int)) = true) ↔ _
  exact beq_iff_eq
theorem grp_1 {n : Int} (_h0 : 0 ≤ n) (_h1 : n < 4294967296) (h : mt 1 n = true) : cF n = 1 ∧ cL n = 2 ∧ ∀ j, 1 ≤ j → j < 1 → mt j n = false := by
  rw [mt_1] at h
  have hc : n % 128 = 55 := by omega
  exact ⟨by simp [cF, hc], by simp [cL, hc], fun j p q => by omega⟩
theorem grp_2 {n : Int} (_h0 : 0 ≤ n) (_h1 : n < 4294967296) (h : mt 2 n = true) : cF n = 1 ∧ cL n = 2 ∧ ∀ j, 1 ≤ j → j < 2 → mt j n = false := by
  rw [mt_2] at h
  have hc : n % 128 = 23 := by omega
  refine ⟨by simp [cF, hc], by simp [cL, hc], fun j p q => ?_⟩
  have e : j = 1 := by omega
  subst e
  exact Bool.eq_false_iff.2 (fun g => by rw [mt_1] at g; omega)
theorem grp_3 {n : Int} (_h0 : 0 ≤ n) (_h1 : n < 4294967296) (h : mt 3 n = true) : cF n = 3 ∧ cL n = 3 ∧ ∀ j, 3 ≤ j → j < 3 → mt j n = false := by
  rw [mt_3] at h
  have hc : n % 128 = 111 := by omega
  exact ⟨by simp [cF, hc], by simp [cL, hc], fun j p q => by omega⟩
theorem grp_4 {n : Int} (_h0 : 0 ≤ n) (_h1 : n < 4294967296) (h : mt 4 n = true) : cF n = 4 ∧ cL n = 4 ∧ ∀ j, 4 ≤ j → j < 4 → mt j n = false := by
  rw [mt_4] at h
  have hc : n % 128 = 103 := by omega
  exact ⟨by simp [cF, hc], by simp [cL, hc], fun j p q => by omega⟩
theorem grp_5 {n : Int} (_h0 : 0 ≤ n) (_h1 : n < 4294967296) (h : mt 5 n = true) : cF n = 5 ∧ cL n = 10 ∧ ∀ j, 5 ≤ j → j < 5 → mt j n = false := by
  rw [mt_5] at h
  have hc : n % 128 = 99 := by omega
  exact ⟨by simp [cF, hc], by simp [cL, hc], fun j p q => by omega⟩
theorem grp_6 {n : Int} (_h0 : 0 ≤ n) (_h1 : n < 4294967296) (h : mt 6 n = true) : cF n = 5 ∧ cL n = 10 ∧ ∀ j, 5 ≤ j → j < 6 → mt j n = false := by
  rw [mt_6] at h
  have hc : n % 128 = 99 := by omega
  refine ⟨by simp [cF, hc], by simp [cL, hc], fun j p q => ?_⟩
  have e : j = 5 := by omega
  subst e
  exact Bool.eq_false_iff.2 (fun g => by rw [mt_5] at g; omega)
theorem grp_7 {n : Int} (_h0 : 0 ≤ n) (_h1 : n < 4294967296) (h : mt 7 n = true) : cF n = 5 ∧ cL n = 10 ∧ ∀ j, 5 ≤ j → j < 7 → mt j n = false := by
  rw [mt_7] at h
  have hc : n % 128 = 99 := by omega
  refine ⟨by simp [cF, hc], by simp [cL, hc], fun j p q => ?_⟩
  have e : j = 5 ∨ j = 6 := by omega
  rcases e with rfl | rfl
  · exact Bool.eq_false_iff.2 (fun g => by rw [mt_5] at g; omega)
  · exact Bool.eq_false_iff.2 (fun g => by rw [mt_6] at g; omega)
theorem grp_8 {n : Int} (_h0 : 0 ≤ n) (_h1 : n < 4294967296) (h : mt 8 n = true) : cF n = 5 ∧ cL n = 10 ∧ ∀ j, 5 ≤ j → j < 8 → mt j n = false := by
  rw [mt_8] at h
  have hc : n % 128 = 99 := by omega
  refine ⟨by simp [cF, hc], by simp [cL, hc], fun j p q => ?_⟩
  have e : j = 5 ∨ j = 6 ∨ j = 7 := by omega
  rcases e with rfl | rfl | rfl
  · exact Bool.eq_false_iff.2 (fun g => by rw [mt_5] at g; omega)
  · exact Bool.eq_false_iff.2 (fun g => by rw [mt_6] at g; omega)
  · exact Bool.eq_false_iff.2 (fun g => by rw [mt_7] at g; omega)
theorem grp_9 {n : Int} (_h0 : 0 ≤ n) (_h1 : n < 4294967296) (h : mt 9 n = true) : cF n = 5 ∧ cL n = 10 ∧ ∀ j, 5 ≤ j → j < 9 → mt j n = false := by
  rw [mt_9] at h
  have hc : n % 128 = 99 := by omega
  refine ⟨by simp [cF, hc], by simp [cL, hc], fun j p q => ?_⟩
  have e : j = 5 ∨ j = 6 ∨ j = 7 ∨ j = 8 := by omega
  rcases e with rfl | rfl | rfl | rfl
  · exact Bool.eq_false_iff.2 (fun g => by rw [mt_5] at g; omega)
  · exact Bool.eq_false_iff.2 (fun g => by rw [mt_6] at g; omega)
  · exact Bool.eq_false_iff.2 (fun g => by rw [mt_7] at g; omega)
  · exact Bool.eq_false_iff.2 (fun g => by rw [mt_8] at g; omega)
theorem grp_10 {n : Int} (_h0 : 0 ≤ n) (_h1 : n < 4294967296) (h : mt 10 n = true) : cF n = 5 ∧ cL n = 10 ∧ ∀ j, 5 ≤ j → j < 10 → mt j n = false := by
  rw [mt_10] at h
  have hc : n % 128 = 99 := by omega
  refine ⟨by simp [cF, hc], by simp [cL, hc], fun j p q => ?_⟩
  have e : j = 5 ∨ j = 6 ∨ j = 7 ∨ j = 8 ∨ j = 9 := by omega
  rcases e with rfl | rfl | rfl | rfl | rfl
  · exact Bool.eq_false_iff.2 (fun g => by rw [mt_5] at g; omega)
  · exact Bool.eq_false_iff.2 (fun g => by rw [mt_6] at g; omega)
  · exact Bool.eq_false_iff.2 (fun g => by rw [mt_7] at g; omega)
  · exact Bool.eq_false_iff.2 (fun g => by rw [mt_8] at g; omega)
  · exact Bool.eq_false_iff.2 (fun g => by rw [mt_9] at g; omega)
theorem grp_11 {n : Int} (_h0 : 0 ≤ n) (_h1 : n < 4294967296) (h : mt 11 n = true) : cF n = 11 ∧ cL n = 17 ∧ ∀ j, 11 ≤ j → j < 11 → mt j n = false := by
  rw [mt_11] at h
  have hc : n % 128 = 3 := by omega
  exact ⟨by simp [cF, hc], by simp [cL, hc], fun j p q => by omega⟩
theorem grp_12 {n : Int} (_h0 : 0 ≤ n) (_h1 : n < 4294967296) (h : mt 12 n = true) : cF n = 11 ∧ cL n = 17 ∧ ∀ j, 11 ≤ j → j < 12 → mt j n = false := by
  rw [mt_12] at h
  have hc : n % 128 = 3 := by omega
  refine ⟨by simp [cF, hc], by simp [cL, hc], fun j p q => ?_⟩
  have e : j = 11 := by omega
  subst e
  exact Bool.eq_false_iff.2 (fun g => by rw [mt_11] at g; omega)
theorem grp_13 {n : Int} (_h0 : 0 ≤ n) (_h1 : n < 4294967296) (h : mt 13 n = true) : cF n = 11 ∧ cL n = 17 ∧ ∀ j, 11 ≤ j → j < 13 → mt j n = false := by
  rw [mt_13] at h
  have hc : n % 128 = 3 := by omega
  refine ⟨by simp [cF, hc], by simp [cL, hc], fun j p q => ?_⟩
  have e : j = 11 ∨ j = 12 := by omega
  rcases e with rfl | rfl
  · exact Bool.eq_false_iff.2 (fun g => by rw [mt_11] at g; omega)
  · exact Bool.eq_false_iff.2 (fun g => by rw [mt_12] at g; omega)
theorem grp_14 {n : Int} (_h0 : 0 ≤ n) (_h1 : n < 4294967296) (h : mt 14 n = true) : cF n = 11 ∧ cL n = 17 ∧ ∀ j, 11 ≤ j → j < 14 → mt j n = false := by
  rw [mt_14] at h
  have hc : n % 128 = 3 := by omega
  refine ⟨by simp [cF, hc], by simp [cL, hc], fun j p q => ?_⟩
  have e : j = 11 ∨ j = 12 ∨ j = 13 := by omega
  rcases e with rfl | rfl | rfl
  · exact Bool.eq_false_iff.2 (fun g => by rw [mt_11] at g; omega)
  · exact Bool.eq_false_iff.2 (fun g => by rw [mt_12] at g; omega)
  · exact Bool.eq_false_iff.2 (fun g => by rw [mt_13] at g; omega)
theorem grp_15 {n : Int} (_h0 : 0 ≤ n) (_h1 : n < 4294967296) (h : mt 15 n = true) : cF n = 11 ∧ cL n = 17 ∧ ∀ j, 11 ≤ j → j < 15 → mt j n = false := by
  rw [mt_15] at h
  have hc : n % 128 = 3 := by omega
  refine ⟨by simp [cF, hc], by simp [cL, hc], fun j p q => ?_⟩
  have e : j = 11 ∨ j = 12 ∨ j = 13 ∨ j = 14 := by omega
  rcases e with rfl | rfl | rfl | rfl
  · exact Bool.eq_false_iff.2 (fun g => by rw [mt_11] at g; omega)
  · exact Bool.eq_false_iff.2 (fun g => by rw [mt_12] at g; omega)
  · exact Bool.eq_false_iff.2 (fun g => by rw [mt_13] at g; omega)
  · exact Bool.eq_false_iff.2 (fun g => by rw [mt_14] at g; omega)
theorem grp_16 {n : Int} (_h0 : 0 ≤ n) (_h1 : n < 4294967296) (h : mt 16 n = true) : cF n = 11 ∧ cL n = 17 ∧ ∀ j, 11 ≤ j → j < 16 → mt j n = false := by
  rw [mt_16] at h
  have hc : n % 128 = 3 := by omega
  refine ⟨by simp [cF, hc], by simp [cL, hc], fun j p q => ?_⟩
  have e : j = 11 ∨ j = 12 ∨ j = 13 ∨ j = 14 ∨ j = 15 := by omega
  rcases e with rfl | rfl | rfl | rfl | rfl
  · exact Bool.eq_false_iff.2 (fun g => by rw [mt_11] at g; omega)
  · exact Bool.eq_false_iff.2 (fun g => by rw [mt_12] at g; omega)
  · exact Bool.eq_false_iff.2 (fun g => by rw [mt_13] at g; omega)
  · exact Bool.eq_false_iff.2 (fun g => by rw [mt_14] at g; omega)
  · exact Bool.eq_false_iff.2 (fun g => by rw [mt_15] at g; omega)
theorem grp_17 {n : Int} (_h0 : 0 ≤ n) (_h1 : n < 4294967296) (h : mt 17 n = true) : cF n = 11 ∧ cL n = 17 ∧ ∀ j, 11 ≤ j → j < 17 → mt j n = false := by
  rw [mt_17] at h
  have hc : n % 128 = 3 := by omega
  refine ⟨by simp [cF, hc], by simp [cL, hc], fun j p q => ?_⟩
  have e : j = 11 ∨ j = 12 ∨ j = 13 ∨ j = 14 ∨ j = 15 ∨ j = 16 := by omega
  rcases e with rfl | rfl | rfl | rfl | rfl | rfl
  · exact Bool.eq_false_iff.2 (fun g => by rw [mt_11] at g; omega)
  · exact Bool.eq_false_iff.2 (fun g => by rw [mt_12] at g; omega)
  · exact Bool.eq_false_iff.2 (fun g => by rw [mt_13] at g; omega)
  · exact Bool.eq_false_iff.2 (fun g => by rw [mt_14] at g; omega)
  · exact Bool.eq_false_iff.2 (fun g => by rw [mt_15] at g; omega)
  · exact Bool.eq_false_iff.2 (fun g => by rw [mt_16] at g; omega)
theorem grp_18 {n : Int} (_h0 : 0 ≤ n) (_h1 : n < 4294967296) (h : mt 18 n = true) : cF n = 18 ∧ cL n = 21 ∧ ∀ j, 18 ≤ j → j < 18 → mt j n = false := by
  rw [mt_18] at h
  have hc : n % 128 = 35 := by omega
  exact ⟨by simp [cF, hc], by simp [cL, hc], fun j p q => by omega⟩
theorem grp_19 {n : Int} (_h0 : 0 ≤ n) (_h1 : n < 4294967296) (h : mt 19 n = true) : cF n = 18 ∧ cL n = 21 ∧ ∀ j, 18 ≤ j → j < 19 → mt j n = false := by
  rw [mt_19] at h
  have hc : n % 128 = 35 := by omega
  refine ⟨by simp [cF, hc], by simp [cL, hc], fun j p q => ?_⟩
  have e : j = 18 := by omega
  subst e
  exact Bool.eq_false_iff.2 (fun g => by rw [mt_18] at g; omega)
theorem grp_20 {n : Int} (_h0 : 0 ≤ n) (_h1 : n < 4294967296) (h : mt 20 n = true) : cF n = 18 ∧ cL n = 21 ∧ ∀ j, 18 ≤ j → j < 20 → mt j n = false := by
  rw [mt_20] at h
  have hc : n % 128 = 35 := by omega
  refine ⟨by simp [cF, hc], by simp [cL, hc], fun j p q => ?_⟩
  have e : j = 18 ∨ j = 19 := by omega
  rcases e with rfl | rfl
  · exact Bool.eq_false_iff.2 (fun g => by rw [mt_18] at g; omega)
  · exact Bool.eq_false_iff.2 (fun g => by rw [mt_19] at g; omega)
theorem grp_21 {n : Int} (_h0 : 0 ≤ n) (_h1 : n < 4294967296) (h : mt 21 n = true) : cF n = 18 ∧ cL n = 21 ∧ ∀ j, 18 ≤ j → j < 21 → mt j n = false := by
  rw [mt_21] at h
  have hc : n % 128 = 35 := by omega
  refine ⟨by simp [cF, hc], by simp [cL, hc], fun j p q => ?_⟩
  have e : j = 18 ∨ j = 19 ∨ j = 20 := by omega
  rcases e with rfl | rfl | rfl
  · exact Bool.eq_false_iff.2 (fun g => by rw [mt_18] at g; omega)
  · exact Bool.eq_false_iff.2 (fun g => by rw [mt_19] at g; omega)
  · exact Bool.eq_false_iff.2 (fun g => by rw [mt_20] at g; omega)
theorem grp_22 {n : Int} (_h0 : 0 ≤ n) (_h1 : n < 4294967296) (h : mt 22 n = true) : cF n = 22 ∧ cL n = 27 ∧ ∀ j, 22 ≤ j → j < 22 → mt j n = false := by
  rw [mt_22] at h
  have hc : n % 128 = 19 := by omega
  have h4 : n / 4096 % 4 = 0 := by omega
  exact ⟨by simp [cF, hc, h4], by simp [cL, hc, h4], fun j p q => by omega⟩
theorem grp_23 {n : Int} (_h0 : 0 ≤ n) (_h1 : n < 4294967296) (h : mt 23 n = true) : cF n = 22 ∧ cL n = 27 ∧ ∀ j, 22 ≤ j → j < 23 → mt j n = false := by
  rw [mt_23] at h
  have hc : n % 128 = 19 := by omega
  have h4 : n / 4096 % 4 = 2 := by omega
  refine ⟨by simp [cF, hc, h4], by simp [cL, hc, h4], fun j p q => ?_⟩
  have e : j = 22 := by omega
  subst e
  exact Bool.eq_false_iff.2 (fun g => by rw [mt_22] at g; omega)
theorem grp_24 {n : Int} (_h0 : 0 ≤ n) (_h1 : n < 4294967296) (h : mt 24 n = true) : cF n = 22 ∧ cL n = 27 ∧ ∀ j, 22 ≤ j → j < 24 → mt j n = false := by
  rw [mt_24] at h
  have hc : n % 128 = 19 := by omega
  have h4 : n / 4096 % 4 = 3 := by omega
  refine ⟨by simp [cF, hc, h4], by simp [cL, hc, h4], fun j p q => ?_⟩
  have e : j = 22 ∨ j = 23 := by omega
  rcases e with rfl | rfl
  · exact Bool.eq_false_iff.2 (fun g => by rw [mt_22] at g; omega)
  · exact Bool.eq_false_iff.2 (fun g => by rw [mt_23] at g; omega)
theorem grp_25 {n : Int} (_h0 : 0 ≤ n) (_h1 : n < 4294967296) (h : mt 25 n = true) : cF n = 22 ∧ cL n = 27 ∧ ∀ j, 22 ≤ j → j < 25 → mt j n = false := by
  rw [mt_25] at h
  have hc : n % 128 = 19 := by omega
  have h4 : n / 4096 % 4 = 0 := by omega
  refine ⟨by simp [cF, hc, h4], by simp [cL, hc, h4], fun j p q => ?_⟩
  have e : j = 22 ∨ j = 23 ∨ j = 24 := by omega
  rcases e with rfl | rfl | rfl
  · exact Bool.eq_false_iff.2 (fun g => by rw [mt_22] at g; omega)
  · exact Bool.eq_false_iff.2 (fun g => by rw [mt_23] at g; omega)
  · exact Bool.eq_false_iff.2 (fun g => by rw [mt_24] at g; omega)
theorem grp_26 {n : Int} (_h0 : 0 ≤ n) (_h1 : n < 4294967296) (h : mt 26 n = true) : cF n = 22 ∧ cL n = 27 ∧ ∀ j, 22 ≤ j → j < 26 → mt j n = false := by
  rw [mt_26] at h
  have hc : n % 128 = 19 := by omega
  have h4 : n / 4096 % 4 = 2 := by omega
  refine ⟨by simp [cF, hc, h4], by simp [cL, hc, h4], fun j p q => ?_⟩
  have e : j = 22 ∨ j = 23 ∨ j = 24 ∨ j = 25 := by omega
  rcases e with rfl | rfl | rfl | rfl
  · exact Bool.eq_false_iff.2 (fun g => by rw [mt_22] at g; omega)
  · exact Bool.eq_false_iff.2 (fun g => by rw [mt_23] at g; omega)
  · exact Bool.eq_false_iff.2 (fun g => by rw [mt_24] at g; omega)
  · exact Bool.eq_false_iff.2 (fun g => by rw [mt_25] at g; omega)
theorem grp_27 {n : Int} (_h0 : 0 ≤ n) (_h1 : n < 4294967296) (h : mt 27 n = true) : cF n = 22 ∧ cL n = 27 ∧ ∀ j, 22 ≤ j → j < 27 → mt j n = false := by
  rw [mt_27] at h
  have hc : n % 128 = 19 := by omega
  have h4 : n / 4096 % 4 = 3 := by omega
  refine ⟨by simp [cF, hc, h4], by simp [cL, hc, h4], fun j p q => ?_⟩
  have e : j = 22 ∨ j = 23 ∨ j = 24 ∨ j = 25 ∨ j = 26 := by omega
  rcases e with rfl | rfl | rfl | rfl | rfl
  · exact Bool.eq_false_iff.2 (fun g => by rw [mt_22] at g; omega)
  · exact Bool.eq_false_iff.2 (fun g => by rw [mt_23] at g; omega)
  · exact Bool.eq_false_iff.2 (fun g => by rw [mt_24] at g; omega)
  · exact Bool.eq_false_iff.2 (fun g => by rw [mt_25] at g; omega)
  · exact Bool.eq_false_iff.2 (fun g => by rw [mt_26] at g; omega)
theorem grp_28 {n : Int} (_h0 : 0 ≤ n) (_h1 : n < 4294967296) (h : mt 28 n = true) : cF n = 28 ∧ cL n = 30 ∧ ∀ j, 28 ≤ j → j < 28 → mt j n = false := by
  rw [mt_28] at h
  have hc : n % 128 = 19 := by omega
  have h4 : n / 4096 % 4 = 1 := by omega
  exact ⟨by simp [cF, hc, h4], by simp [cL, hc, h4], fun j p q => by omega⟩
theorem grp_29 {n : Int} (_h0 : 0 ≤ n) (_h1 : n < 4294967296) (h : mt 29 n = true) : cF n = 28 ∧ cL n = 30 ∧ ∀ j, 28 ≤ j → j < 29 → mt j n = false := by
  rw [mt_29] at h
  have hc : n % 128 = 19 := by omega
  have h4 : n / 4096 % 4 = 1 := by omega
  refine ⟨by simp [cF, hc, h4], by simp [cL, hc, h4], fun j p q => ?_⟩
  have e : j = 28 := by omega
  subst e
  exact Bool.eq_false_iff.2 (fun g => by rw [mt_28] at g; omega)
theorem grp_30 {n : Int} (_h0 : 0 ≤ n) (_h1 : n < 4294967296) (h : mt 30 n = true) : cF n = 28 ∧ cL n = 30 ∧ ∀ j, 28 ≤ j → j < 30 → mt j n = false := by
  rw [mt_30] at h
  have hc : n % 128 = 19 := by omega
  have h4 : n / 4096 % 4 = 1 := by omega
  refine ⟨by simp [cF, hc, h4], by simp [cL, hc, h4], fun j p q => ?_⟩
  have e : j = 28 ∨ j = 29 := by omega
  rcases e with rfl | rfl
  · exact Bool.eq_false_iff.2 (fun g => by rw [mt_28] at g; omega)
  · exact Bool.eq_false_iff.2 (fun g => by rw [mt_29] at g; omega)
theorem grp_31 {n : Int} (_h0 : 0 ≤ n) (_h1 : n < 4294967296) (h : mt 31 n = true) : cF n = 31 ∧ cL n = 34 ∧ ∀ j, 31 ≤ j → j < 31 → mt j n = false := by
  rw [mt_31] at h
  have hc : n % 128 = 27 := by omega
  exact ⟨by simp [cF, hc], by simp [cL, hc], fun j p q => by omega⟩
theorem grp_32 {n : Int} (_h0 : 0 ≤ n) (_h1 : n < 4294967296) (h : mt 32 n = true) : cF n = 31 ∧ cL n = 34 ∧ ∀ j, 31 ≤ j → j < 32 → mt j n = false := by
  rw [mt_32] at h
  have hc : n % 128 = 27 := by omega
  refine ⟨by simp [cF, hc], by simp [cL, hc], fun j p q => ?_⟩
  have e : j = 31 := by omega
  subst e
  exact Bool.eq_false_iff.2 (fun g => by rw [mt_31] at g; omega)
theorem grp_33 {n : Int} (_h0 : 0 ≤ n) (_h1 : n < 4294967296) (h : mt 33 n = true) : cF n = 31 ∧ cL n = 34 ∧ ∀ j, 31 ≤ j → j < 33 → mt j n = false := by
  rw [mt_33] at h
  have hc : n % 128 = 27 := by omega
  refine ⟨by simp [cF, hc], by simp [cL, hc], fun j p q => ?_⟩
  have e : j = 31 ∨ j = 32 := by omega
  rcases e with rfl | rfl
  · exact Bool.eq_false_iff.2 (fun g => by rw [mt_31] at g; omega)
  · exact Bool.eq_false_iff.2 (fun g => by rw [mt_32] at g; omega)
theorem grp_34 {n : Int} (_h0 : 0 ≤ n) (_h1 : n < 4294967296) (h : mt 34 n = true) : cF n = 31 ∧ cL n = 34 ∧ ∀ j, 31 ≤ j → j < 34 → mt j n = false := by
  rw [mt_34] at h
  have hc : n % 128 = 27 := by omega
  refine ⟨by simp [cF, hc], by simp [cL, hc], fun j p q => ?_⟩
  have e : j = 31 ∨ j = 32 ∨ j = 33 := by omega
  rcases e with rfl | rfl | rfl
  · exact Bool.eq_false_iff.2 (fun g => by rw [mt_31] at g; omega)
  · exact Bool.eq_false_iff.2 (fun g => by rw [mt_32] at g; omega)
  · exact Bool.eq_false_iff.2 (fun g => by rw [mt_33] at g; omega)
theorem grp_35 {n : Int} (_h0 : 0 ≤ n) (_h1 : n < 4294967296) (h : mt 35 n = true) : cF n = 35 ∧ cL n = 44 ∧ ∀ j, 35 ≤ j → j < 35 → mt j n = false := by
  rw [mt_35] at h
  have hc : n % 128 = 51 := by omega
  have h7 : n / 33554432 % 128 = 0 := by omega
  exact ⟨by simp [cF, hc, h7], by simp [cL, hc, h7], fun j p q => by omega⟩
theorem grp_36 {n : Int} (_h0 : 0 ≤ n) (_h1 : n < 4294967296) (h : mt 36 n = true) : cF n = 35 ∧ cL n = 44 ∧ ∀ j, 35 ≤ j → j < 36 → mt j n = false := by
  rw [mt_36] at h
  have hc : n % 128 = 51 := by omega
  have h7 : n / 33554432 % 128 = 32 := by omega
  refine ⟨by simp [cF, hc, h7], by simp [cL, hc, h7], fun j p q => ?_⟩
  have e : j = 35 := by omega
  subst e
  exact Bool.eq_false_iff.2 (fun g => by rw [mt_35] at g; omega)
theorem grp_37 {n : Int} (_h0 : 0 ≤ n) (_h1 : n < 4294967296) (h : mt 37 n = true) : cF n = 35 ∧ cL n = 44 ∧ ∀ j, 35 ≤ j → j < 37 → mt j n = false := by
  rw [mt_37] at h
  have hc : n % 128 = 51 := by omega
  have h7 : n / 33554432 % 128 = 0 := by omega
  refine ⟨by simp [cF, hc, h7], by simp [cL, hc, h7], fun j p q => ?_⟩
  have e : j = 35 ∨ j = 36 := by omega
  rcases e with rfl | rfl
  · exact Bool.eq_false_iff.2 (fun g => by rw [mt_35] at g; omega)
  · exact Bool.eq_false_iff.2 (fun g => by rw [mt_36] at g; omega)
theorem grp_38 {n : Int} (_h0 : 0 ≤ n) (_h1 : n < 4294967296) (h : mt 38 n = true) : cF n = 35 ∧ cL n = 44 ∧ ∀ j, 35 ≤ j → j < 38 → mt j n = false := by
  rw [mt_38] at h
  have hc : n % 128 = 51 := by omega
  have h7 : n / 33554432 % 128 = 0 := by omega
  refine ⟨by simp [cF, hc, h7], by simp [cL, hc, h7], fun j p q => ?_⟩
  have e : j = 35 ∨ j = 36 ∨ j = 37 := by omega
  rcases e with rfl | rfl | rfl
  · exact Bool.eq_false_iff.2 (fun g => by rw [mt_35] at g; omega)
  · exact Bool.eq_false_iff.2 (fun g => by rw [mt_36] at g; omega)
  · exact Bool.eq_false_iff.2 (fun g => by rw [mt_37] at g; omega)
theorem grp_39 {n : Int} (_h0 : 0 ≤ n) (_h1 : n < 4294967296) (h : mt 39 n = true) : cF n = 35 ∧ cL n = 44 ∧ ∀ j, 35 ≤ j → j < 39 → mt j n = false := by
  rw [mt_39] at h
  have hc : n % 128 = 51 := by omega
  have h7 : n / 33554432 % 128 = 0 := by omega
  refine ⟨by simp [cF, hc, h7], by simp [cL, hc, h7], fun j p q => ?_⟩
  have e : j = 35 ∨ j = 36 ∨ j = 37 ∨ j = 38 := by omega
  rcases e with rfl | rfl | rfl | rfl
  · exact Bool.eq_false_iff.2 (fun g => by rw [mt_35] at g; omega)
  · exact Bool.eq_false_iff.2 (fun g => by rw [mt_36] at g; omega)
  · exact Bool.eq_false_iff.2 (fun g => by rw [mt_37] at g; omega)
  · exact Bool.eq_false_iff.2 (fun g => by rw [mt_38] at g; omega)
theorem grp_40 {n : Int} (_h0 : 0 ≤ n) (_h1 : n < 4294967296) (h : mt 40 n = true) : cF n = 35 ∧ cL n = 44 ∧ ∀ j, 35 ≤ j → j < 40 → mt j n = false := by
  rw [mt_40] at h
  have hc : n % 128 = 51 := by omega
  have h7 : n / 33554432 % 128 = 0 := by omega
  refine ⟨by simp [cF, hc, h7], by simp [cL, hc, h7], fun j p q => ?_⟩
  have e : j = 35 ∨ j = 36 ∨ j = 37 ∨ j = 38 ∨ j = 39 := by omega
  rcases e with rfl | rfl | rfl | rfl | rfl
  · exact Bool.eq_false_iff.2 (fun g => by rw [mt_35] at g; omega)
  · exact Bool.eq_false_iff.2 (fun g => by rw [mt_36] at g; omega)
  · exact Bool.eq_false_iff.2 (fun g => by rw [mt_37] at g; omega)
  · exact Bool.eq_false_iff.2 (fun g => by rw [mt_38] at g; omega)
  · exact Bool.eq_false_iff.2 (fun g => by rw [mt_39] at g; omega)
theorem grp_41 {n : Int} (_h0 : 0 ≤ n) (_h1 : n < 4294967296) (h : mt 41 n = true) : cF n = 35 ∧ cL n = 44 ∧ ∀ j, 35 ≤ j → j < 41 → mt j n = false := by
  rw [mt_41] at h
  have hc : n % 128 = 51 := by omega
  have h7 : n / 33554432 % 128 = 0 := by omega
  refine ⟨by simp [cF, hc, h7], by simp [cL, hc, h7], fun j p q => ?_⟩
  have e : j = 35 ∨ j = 36 ∨ j = 37 ∨ j = 38 ∨ j = 39 ∨ j = 40 := by omega
  rcases e with rfl | rfl | rfl | rfl | rfl | rfl
  · exact Bool.eq_false_iff.2 (fun g => by rw [mt_35] at g; omega)
  · exact Bool.eq_false_iff.2 (fun g => by rw [mt_36] at g; omega)
  · exact Bool.eq_false_iff.2 (fun g => by rw [mt_37] at g; omega)
  · exact Bool.eq_false_iff.2 (fun g => by rw [mt_38] at g; omega)
  · exact Bool.eq_false_iff.2 (fun g => by rw [mt_39] at g; omega)
  · exact Bool.eq_false_iff.2 (fun g => by rw [mt_40] at g; omega)
theorem grp_42 {n : Int} (_h0 : 0 ≤ n) (_h1 : n < 4294967296) (h : mt 42 n = true) : cF n = 35 ∧ cL n = 44 ∧ ∀ j, 35 ≤ j → j < 42 → mt j n = false := by
  rw [mt_42] at h
  have hc : n % 128 = 51 := by omega
  have h7 : n / 33554432 % 128 = 32 := by omega
  refine ⟨by simp [cF, hc, h7], by simp [cL, hc, h7], fun j p q => ?_⟩
  have e : j = 35 ∨ j = 36 ∨ j = 37 ∨ j = 38 ∨ j = 39 ∨ j = 40 ∨ j = 41 := by omega
  rcases e with rfl | rfl | rfl | rfl | rfl | rfl | rfl
  · exact Bool.eq_false_iff.2 (fun g => by rw [mt_35] at g; omega)
  · exact Bool.eq_false_iff.2 (fun g => by rw [mt_36] at g; omega)
  · exact Bool.eq_false_iff.2 (fun g => by rw [mt_37] at g; omega)
  · exact Bool.eq_false_iff.2 (fun g => by rw [mt_38] at g; omega)
  · exact Bool.eq_false_iff.2 (fun g => by rw [mt_39] at g; omega)
  · exact Bool.eq_false_iff.2 (fun g => by rw [mt_40] at g; omega)
  · exact Bool.eq_false_iff.2 (fun g => by rw [mt_41] at g; omega)
theorem grp_43 {n : Int} (_h0 : 0 ≤ n) (_h1 : n < 4294967296) (h : mt 43 n = true) : cF n = 35 ∧ cL n = 44 ∧ ∀ j, 35 ≤ j → j < 43 → mt j n = false := by
  rw [mt_43] at h
  have hc : n % 128 = 51 := by omega
  have h7 : n / 33554432 % 128 = 0 := by omega
  refine ⟨by simp [cF, hc, h7], by simp [cL, hc, h7], fun j p q => ?_⟩
  have e : j = 35 ∨ j = 36 ∨ j = 37 ∨ j = 38 ∨ j = 39 ∨ j = 40 ∨ j = 41 ∨ j = 42 := by omega
  rcases e with rfl | rfl | rfl | rfl | rfl | rfl | rfl | rfl
  · exact Bool.eq_false_iff.2 (fun g => by rw [mt_35] at g; omega)
  · exact Bool.eq_false_iff.2 (fun g => by rw [mt_36] at g; omega)
  · exact Bool.eq_false_iff.2 (fun g => by rw [mt_37] at g; omega)
  · exact Bool.eq_false_iff.2 (fun g => by rw [mt_38] at g; omega)
  · exact Bool.eq_false_iff.2 (fun g => by rw [mt_39] at g; omega)
  · exact Bool.eq_false_iff.2 (fun g => by rw [mt_40] at g; omega)
  · exact Bool.eq_false_iff.2 (fun g => by rw [mt_41] at g; omega)
  · exact Bool.eq_false_iff.2 (fun g => by rw [mt_42] at g; omega)
theorem grp_44 {n : Int} (_h0 : 0 ≤ n) (_h1 : n < 4294967296) (h : mt 44 n = true) : cF n = 35 ∧ cL n = 44 ∧ ∀ j, 35 ≤ j → j < 44 → mt j n = false := by
  rw [mt_44] at h
  have hc : n % 128 = 51 := by omega
  have h7 : n / 33554432 % 128 = 0 := by omega
  refine ⟨by simp [cF, hc, h7], by simp [cL, hc, h7], fun j p q => ?_⟩
  have e : j = 35 ∨ j = 36 ∨ j = 37 ∨ j = 38 ∨ j = 39 ∨ j = 40 ∨ j = 41 ∨ j = 42 ∨ j = 43 := by omega
  rcases e with rfl | rfl | rfl | rfl | rfl | rfl | rfl | rfl | rfl
  · exact Bool.eq_false_iff.2 (fun g => by rw [mt_35] at g; omega)
  · exact Bool.eq_false_iff.2 (fun g => by rw [mt_36] at g; omega)
  · exact Bool.eq_false_iff.2 (fun g => by rw [mt_37] at g; omega)
  · exact Bool.eq_false_iff.2 (fun g => by rw [mt_38] at g; omega)
  · exact Bool.eq_false_iff.2 (fun g => by rw [mt_39] at g; omega)
  · exact Bool.eq_false_iff.2 (fun g => by rw [mt_40] at g; omega)
  · exact Bool.eq_false_iff.2 (fun g => by rw [mt_41] at g; omega)
  · exact Bool.eq_false_iff.2 (fun g => by rw [mt_42] at g; omega)
  · exact Bool.eq_false_iff.2 (fun g => by rw [mt_43] at g; omega)
theorem grp_45 {n : Int} (_h0 : 0 ≤ n) (_h1 : n < 4294967296) (h : mt 45 n = true) : cF n = 45 ∧ cL n = 49 ∧ ∀ j, 45 ≤ j → j < 45 → mt j n = false := by
  rw [mt_45] at h
  have hc : n % 128 = 59 := by omega
  have h7 : n / 33554432 % 128 = 0 := by omega
  exact ⟨by simp [cF, hc, h7], by simp [cL, hc, h7], fun j p q => by omega⟩
theorem grp_46 {n : Int} (_h0 : 0 ≤ n) (_h1 : n < 4294967296) (h : mt 46 n = true) : cF n = 45 ∧ cL n = 49 ∧ ∀ j, 45 ≤ j → j < 46 → mt j n = false := by
  rw [mt_46] at h
  have hc : n % 128 = 59 := by omega
  have h7 : n / 33554432 % 128 = 32 := by omega
  refine ⟨by simp [cF, hc, h7], by simp [cL, hc, h7], fun j p q => ?_⟩
  have e : j = 45 := by omega
  subst e
  exact Bool.eq_false_iff.2 (fun g => by rw [mt_45] at g; omega)
theorem grp_47 {n : Int} (_h0 : 0 ≤ n) (_h1 : n < 4294967296) (h : mt 47 n = true) : cF n = 45 ∧ cL n = 49 ∧ ∀ j, 45 ≤ j → j < 47 → mt j n = false := by
  rw [mt_47] at h
  have hc : n % 128 = 59 := by omega
  have h7 : n / 33554432 % 128 = 0 := by omega
  refine ⟨by simp [cF, hc, h7], by simp [cL, hc, h7], fun j p q => ?_⟩
  have e : j = 45 ∨ j = 46 := by omega
  rcases e with rfl | rfl
  · exact Bool.eq_false_iff.2 (fun g => by rw [mt_45] at g; omega)
  · exact Bool.eq_false_iff.2 (fun g => by rw [mt_46] at g; omega)
theorem grp_48 {n : Int} (_h0 : 0 ≤ n) (_h1 : n < 4294967296) (h : mt 48 n = true) : cF n = 45 ∧ cL n = 49 ∧ ∀ j, 45 ≤ j → j < 48 → mt j n = false := by
  rw [mt_48] at h
  have hc : n % 128 = 59 := by omega
  have h7 : n / 33554432 % 128 = 0 := by omega
  refine ⟨by simp [cF, hc, h7], by simp [cL, hc, h7], fun j p q => ?_⟩
  have e : j = 45 ∨ j = 46 ∨ j = 47 := by omega
  rcases e with rfl | rfl | rfl
  · exact Bool.eq_false_iff.2 (fun g => by rw [mt_45] at g; omega)
  · exact Bool.eq_false_iff.2 (fun g => by rw [mt_46] at g; omega)
  · exact Bool.eq_false_iff.2 (fun g => by rw [mt_47] at g; omega)
theorem grp_49 {n : Int} (_h0 : 0 ≤ n) (_h1 : n < 4294967296) (h : mt 49 n = true) : cF n = 45 ∧ cL n = 49 ∧ ∀ j, 45 ≤ j → j < 49 → mt j n = false := by
  rw [mt_49] at h
  have hc : n % 128 = 59 := by omega
  have h7 : n / 33554432 % 128 = 32 := by omega
  refine ⟨by simp [cF, hc, h7], by simp [cL, hc, h7], fun j p q => ?_⟩
  have e : j = 45 ∨ j = 46 ∨ j = 47 ∨ j = 48 := by omega
  rcases e with rfl | rfl | rfl | rfl
  · exact Bool.eq_false_iff.2 (fun g => by rw [mt_45] at g; omega)
  · exact Bool.eq_false_iff.2 (fun g => by rw [mt_46] at g; omega)
  · exact Bool.eq_false_iff.2 (fun g => by rw [mt_47] at g; omega)
  · exact Bool.eq_false_iff.2 (fun g => by rw [mt_48] at g; omega)
theorem grp_50 {n : Int} (_h0 : 0 ≤ n) (_h1 : n < 4294967296) (h : mt 50 n = true) : cF n = 50 ∧ cL n = 57 ∧ ∀ j, 50 ≤ j → j < 50 → mt j n = false := by
  rw [mt_50] at h
  have hc : n % 128 = 51 := by omega
  have h7 : n / 33554432 % 128 = 1 := by omega
  exact ⟨by simp [cF, hc, h7], by simp [cL, hc, h7], fun j p q => by omega⟩
theorem grp_51 {n : Int} (_h0 : 0 ≤ n) (_h1 : n < 4294967296) (h : mt 51 n = true) : cF n = 50 ∧ cL n = 57 ∧ ∀ j, 50 ≤ j → j < 51 → mt j n = false := by
  rw [mt_51] at h
  have hc : n % 128 = 51 := by omega
  have h7 : n / 33554432 % 128 = 1 := by omega
  refine ⟨by simp [cF, hc, h7], by simp [cL, hc, h7], fun j p q => ?_⟩
  have e : j = 50 := by omega
  subst e
  exact Bool.eq_false_iff.2 (fun g => by rw [mt_50] at g; omega)
theorem grp_52 {n : Int} (_h0 : 0 ≤ n) (_h1 : n < 4294967296) (h : mt 52 n = true) : cF n = 50 ∧ cL n = 57 ∧ ∀ j, 50 ≤ j → j < 52 → mt j n = false := by
  rw [mt_52] at h
  have hc : n % 128 = 51 := by omega
  have h7 : n / 33554432 % 128 = 1 := by omega
  refine ⟨by simp [cF, hc, h7], by simp [cL, hc, h7], fun j p q => ?_⟩
  have e : j = 50 ∨ j = 51 := by omega
  rcases e with rfl | rfl
  · exact Bool.eq_false_iff.2 (fun g => by rw [mt_50] at g; omega)
  · exact Bool.eq_false_iff.2 (fun g => by rw [mt_51] at g; omega)
theorem grp_53 {n : Int} (_h0 : 0 ≤ n) (_h1 : n < 4294967296) (h : mt 53 n = true) : cF n = 50 ∧ cL n = 57 ∧ ∀ j, 50 ≤ j → j < 53 → mt j n = false := by
  rw [mt_53] at h
  have hc : n % 128 = 51 := by omega
  have h7 : n / 33554432 % 128 = 1 := by omega
  refine ⟨by simp [cF, hc, h7], by simp [cL, hc, h7], fun j p q => ?_⟩
  have e : j = 50 ∨ j = 51 ∨ j = 52 := by omega
  rcases e with rfl | rfl | rfl
  · exact Bool.eq_false_iff.2 (fun g => by rw [mt_50] at g; omega)
  · exact Bool.eq_false_iff.2 (fun g => by rw [mt_51] at g; omega)
  · exact Bool.eq_false_iff.2 (fun g => by rw [mt_52] at g; omega)
theorem grp_54 {n : Int} (_h0 : 0 ≤ n) (_h1 : n < 4294967296) (h : mt 54 n = true) : cF n = 50 ∧ cL n = 57 ∧ ∀ j, 50 ≤ j → j < 54 → mt j n = false := by
  rw [mt_54] at h
  have hc : n % 128 = 51 := by omega
  have h7 : n / 33554432 % 128 = 1 := by omega
  refine ⟨by simp [cF, hc, h7], by simp [cL, hc, h7], fun j p q => ?_⟩
  have e : j = 50 ∨ j = 51 ∨ j = 52 ∨ j = 53 := by omega
  rcases e with rfl | rfl | rfl | rfl
  · exact Bool.eq_false_iff.2 (fun g => by rw [mt_50] at g; omega)
  · exact Bool.eq_false_iff.2 (fun g => by rw [mt_51] at g; omega)
  · exact Bool.eq_false_iff.2 (fun g => by rw [mt_52] at g; omega)
  · exact Bool.eq_false_iff.2 (fun g => by rw [mt_53] at g; omega)
theorem grp_55 {n : Int} (_h0 : 0 ≤ n) (_h1 : n < 4294967296) (h : mt 55 n = true) : cF n = 50 ∧ cL n = 57 ∧ ∀ j, 50 ≤ j → j < 55 → mt j n = false := by
  rw [mt_55] at h
  have hc : n % 128 = 51 := by omega
  have h7 : n / 33554432 % 128 = 1 := by omega
  refine ⟨by simp [cF, hc, h7], by simp [cL, hc, h7], fun j p q => ?_⟩
  have e : j = 50 ∨ j = 51 ∨ j = 52 ∨ j = 53 ∨ j = 54 := by omega
  rcases e with rfl | rfl | rfl | rfl | rfl
  · exact Bool.eq_false_iff.2 (fun g => by rw [mt_50] at g; omega)
  · exact Bool.eq_false_iff.2 (fun g => by rw [mt_51] at g; omega)
  · exact Bool.eq_false_iff.2 (fun g => by rw [mt_52] at g; omega)
  · exact Bool.eq_false_iff.2 (fun g => by rw [mt_53] at g; omega)
  · exact Bool.eq_false_iff.2 (fun g => by rw [mt_54] at g; omega)
theorem grp_56 {n : Int} (_h0 : 0 ≤ n) (_h1 : n < 4294967296) (h : mt 56 n = true) : cF n = 50 ∧ cL n = 57 ∧ ∀ j, 50 ≤ j → j < 56 → mt j n = false := by
  rw [mt_56] at h
  have hc : n % 128 = 51 := by omega
  have h7 : n / 33554432 % 128 = 1 := by omega
  refine ⟨by simp [cF, hc, h7], by simp [cL, hc, h7], fun j p q => ?_⟩
  have e : j = 50 ∨ j = 51 ∨ j = 52 ∨ j = 53 ∨ j = 54 ∨ j = 55 := by omega
  rcases e with rfl | rfl | rfl | rfl | rfl | rfl
  · exact Bool.eq_false_iff.2 (fun g => by rw [mt_50] at g; omega)
  · exact Bool.eq_false_iff.2 (fun g => by rw [mt_51] at g; omega)
  · exact Bool.eq_false_iff.2 (fun g => by rw [mt_52] at g; omega)
  · exact Bool.eq_false_iff.2 (fun g => by rw [mt_53] at g; omega)
  · exact Bool.eq_false_iff.2 (fun g => by rw [mt_54] at g; omega)
  · exact Bool.eq_false_iff.2 (fun g => by rw [mt_55] at g; omega)
theorem grp_57 {n : Int} (_h0 : 0 ≤ n) (_h1 : n < 4294967296) (h : mt 57 n = true) : cF n = 50 ∧ cL n = 57 ∧ ∀ j, 50 ≤ j → j < 57 → mt j n = false := by
  rw [mt_57] at h
  have hc : n % 128 = 51 := by omega
  have h7 : n / 33554432 % 128 = 1 := by omega
  refine ⟨by simp [cF, hc, h7], by simp [cL, hc, h7], fun j p q => ?_⟩
  have e : j = 50 ∨ j = 51 ∨ j = 52 ∨ j = 53 ∨ j = 54 ∨ j = 55 ∨ j = 56 := by omega
  rcases e with rfl | rfl | rfl | rfl | rfl | rfl | rfl
  · exact Bool.eq_false_iff.2 (fun g => by rw [mt_50] at g; omega)
  · exact Bool.eq_false_iff.2 (fun g => by rw [mt_51] at g; omega)
  · exact Bool.eq_false_iff.2 (fun g => by rw [mt_52] at g; omega)
  · exact Bool.eq_false_iff.2 (fun g => by rw [mt_53] at g; omega)
  · exact Bool.eq_false_iff.2 (fun g => by rw [mt_54] at g; omega)
  · exact Bool.eq_false_iff.2 (fun g => by rw [mt_55] at g; omega)
  · exact Bool.eq_false_iff.2 (fun g => by rw [mt_56] at g; omega)
theorem grp_58 {n : Int} (_h0 : 0 ≤ n) (_h1 : n < 4294967296) (h : mt 58 n = true) : cF n = 58 ∧ cL n = 62 ∧ ∀ j, 58 ≤ j → j < 58 → mt j n = false := by
  rw [mt_58] at h
  have hc : n % 128 = 59 := by omega
  have h7 : n / 33554432 % 128 = 1 := by omega
  exact ⟨by simp [cF, hc, h7], by simp [cL, hc, h7], fun j p q => by omega⟩
theorem grp_59 {n : Int} (_h0 : 0 ≤ n) (_h1 : n < 4294967296) (h : mt 59 n = true) : cF n = 58 ∧ cL n = 62 ∧ ∀ j, 58 ≤ j → j < 59 → mt j n = false := by
  rw [mt_59] at h
  have hc : n % 128 = 59 := by omega
  have h7 : n / 33554432 % 128 = 1 := by omega
  refine ⟨by simp [cF, hc, h7], by simp [cL, hc, h7], fun j p q => ?_⟩
  have e : j = 58 := by omega
  subst e
  exact Bool.eq_false_iff.2 (fun g => by rw [mt_58] at g; omega)
theorem grp_60 {n : Int} (_h0 : 0 ≤ n) (_h1 : n < 4294967296) (h : mt 60 n = true) : cF n = 58 ∧ cL n = 62 ∧ ∀ j, 58 ≤ j → j < 60 → mt j n = false := by
  rw [mt_60] at h
  have hc : n % 128 = 59 := by omega
  have h7 : n / 33554432 % 128 = 1 := by omega
  refine ⟨by simp [cF, hc, h7], by simp [cL, hc, h7], fun j p q => ?_⟩
  have e : j = 58 ∨ j = 59 := by omega
  rcases e with rfl | rfl
  · exact Bool.eq_false_iff.2 (fun g => by rw [mt_58] at g; omega)
  · exact Bool.eq_false_iff.2 (fun g => by rw [mt_59] at g; omega)
theorem grp_61 {n : Int} (_h0 : 0 ≤ n) (_h1 : n < 4294967296) (h : mt 61 n = true) : cF n = 58 ∧ cL n = 62 ∧ ∀ j, 58 ≤ j → j < 61 → mt j n = false := by
  rw [mt_61] at h
  have hc : n % 128 = 59 := by omega
  have h7 : n / 33554432 % 128 = 1 := by omega
  refine ⟨by simp [cF, hc, h7], by simp [cL, hc, h7], fun j p q => ?_⟩
  have e : j = 58 ∨ j = 59 ∨ j = 60 := by omega
  rcases e with rfl | rfl | rfl
  · exact Bool.eq_false_iff.2 (fun g => by rw [mt_58] at g; omega)
  · exact Bool.eq_false_iff.2 (fun g => by rw [mt_59] at g; omega)
  · exact Bool.eq_false_iff.2 (fun g => by rw [mt_60] at g; omega)
theorem grp_62 {n : Int} (_h0 : 0 ≤ n) (_h1 : n < 4294967296) (h : mt 62 n = true) : cF n = 58 ∧ cL n = 62 ∧ ∀ j, 58 ≤ j → j < 62 → mt j n = false := by
  rw [mt_62] at h
  have hc : n % 128 = 59 := by omega
  have h7 : n / 33554432 % 128 = 1 := by omega
  refine ⟨by simp [cF, hc, h7], by simp [cL, hc, h7], fun j p q => ?_⟩
  have e : j = 58 ∨ j = 59 ∨ j = 60 ∨ j = 61 := by omega
  rcases e with rfl | rfl | rfl | rfl
  · exact Bool.eq_false_iff.2 (fun g => by rw [mt_58] at g; omega)
  · exact Bool.eq_false_iff.2 (fun g => by rw [mt_59] at g; omega)
  · exact Bool.eq_false_iff.2 (fun g => by rw [mt_60] at g; omega)
  · exact Bool.eq_false_iff.2 (fun g => by rw [mt_61] at g; omega)
theorem grp_63 {n : Int} (_h0 : 0 ≤ n) (_h1 : n < 4294967296) (h : mt 63 n = true) : cF n = 63 ∧ cL n = 65 ∧ ∀ j, 63 ≤ j → j < 63 → mt j n = false := by
  rw [mt_63] at h
  have hc : n % 128 = 15 := by omega
  exact ⟨by simp [cF, hc], by simp [cL, hc], fun j p q => by omega⟩
theorem grp_64 {n : Int} (_h0 : 0 ≤ n) (_h1 : n < 4294967296) (h : mt 64 n = true) : cF n = 63 ∧ cL n = 65 ∧ ∀ j, 63 ≤ j → j < 64 → mt j n = false := by
  rw [mt_64] at h
  have hc : n % 128 = 115 := by omega
  refine ⟨by simp [cF, hc], by simp [cL, hc], fun j p q => ?_⟩
  have e : j = 63 := by omega
  subst e
  exact Bool.eq_false_iff.2 (fun g => by rw [mt_63] at g; omega)
theorem grp_65 {n : Int} (_h0 : 0 ≤ n) (_h1 : n < 4294967296) (h : mt 65 n = true) : cF n = 63 ∧ cL n = 65 ∧ ∀ j, 63 ≤ j → j < 65 → mt j n = false := by
  rw [mt_65] at h
  have hc : n % 128 = 115 := by omega
  refine ⟨by simp [cF, hc], by simp [cL, hc], fun j p q => ?_⟩
  have e : j = 63 ∨ j = 64 := by omega
  rcases e with rfl | rfl
  · exact Bool.eq_false_iff.2 (fun g => by rw [mt_63] at g; omega)
  · exact Bool.eq_false_iff.2 (fun g => by rw [mt_64] at g; omega)
theorem grp {k n : Int} (k1 : 1 ≤ k) (k2 : k ≤ 65) (h0 : 0 ≤ n) (h1 : n < 4294967296) (h : mt k n = true) : cF n ≤ k ∧ k ≤ cL n ∧ ∀ j, cF n ≤ j → j < k → mt j n = false := by
  rcases ops_all k1 k2 with rfl | rfl | rfl | rfl | rfl | rfl | rfl | rfl | rfl | rfl | rfl | rfl | rfl | rfl | rfl | rfl | rfl | rfl | rfl | rfl | rfl | rfl | rfl | rfl | rfl | rfl | rfl | rfl | rfl | rfl | rfl | rfl | rfl | rfl | rfl | rfl | rfl | rfl | rfl | rfl | rfl | rfl | rfl | rfl | rfl | rfl | rfl | rfl | rfl | rfl | rfl | rfl | rfl | rfl | rfl | rfl | rfl | rfl | rfl | rfl | rfl | rfl | rfl | rfl | rfl
  · obtain ⟨a, b, c⟩ := grp_1 h0 h1 h; rw [a, b]; exact ⟨by omega, by omega, c⟩
  · obtain ⟨a, b, c⟩ := grp_2 h0 h1 h; rw [a, b]; exact ⟨by omega, by omega, c⟩
  · obtain ⟨a, b, c⟩ := grp_3 h0 h1 h; rw [a, b]; exact ⟨by omega, by omega, c⟩
  · obtain ⟨a, b, c⟩ := grp_4 h0 h1 h; rw [a, b]; exact ⟨by omega, by omega, c⟩
  · obtain ⟨a, b, c⟩ := grp_5 h0 h1 h; rw [a, b]; exact ⟨by omega, by omega, c⟩
  · obtain ⟨a, b, c⟩ := grp_6 h0 h1 h; rw [a, b]; exact ⟨by omega, by omega, c⟩
  · obtain ⟨a, b, c⟩ := grp_7 h0 h1 h; rw [a, b]; exact ⟨by omega, by omega, c⟩
  · obtain ⟨a, b, c⟩ := grp_8 h0 h1 h; rw [a, b]; exact ⟨by omega, by omega, c⟩
  · obtain ⟨a, b, c⟩ := grp_9 h0 h1 h; rw [a, b]; exact ⟨by omega, by omega, c⟩
  · obtain ⟨a, b, c⟩ := grp_10 h0 h1 h; rw [a, b]; exact ⟨by omega, by omega, c⟩
  · obtain ⟨a, b, c⟩ := grp_11 h0 h1 h; rw [a, b]; exact ⟨by omega, by omega, c⟩
  · obtain ⟨a, b, c⟩ := grp_12 h0 h1 h; rw [a, b]; exact ⟨by omega, by omega, c⟩
  · obtain ⟨a, b, c⟩ := grp_13 h0 h1 h; rw [a, b]; exact ⟨by omega, by omega, c⟩
  · obtain ⟨a, b, c⟩ := grp_14 h0 h1 h; rw [a, b]; exact ⟨by omega, by omega, c⟩
  · obtain ⟨a, b, c⟩ := grp_15 h0 h1 h; rw [a, b]; exact ⟨by omega, by omega, c⟩
  · obtain ⟨a, b, c⟩ := grp_16 h0 h1 h; rw [a, b]; exact ⟨by omega, by omega, c⟩
  · obtain ⟨a, b, c⟩ := grp_17 h0 h1 h; rw [a, b]; exact ⟨by omega, by omega, c⟩
  · obtain ⟨a, b, c⟩ := grp_18 h0 h1 h; rw [a, b]; exact ⟨by omega, by omega, c⟩
  · obtain ⟨a, b, c⟩ := grp_19 h0 h1 h; rw [a, b]; exact ⟨by omega, by omega, c⟩
  · obtain ⟨a, b, c⟩ := grp_20 h0 h1 h; rw [a, b]; exact ⟨by omega, by omega, c⟩
  · obtain ⟨a, b, c⟩ := grp_21 h0 h1 h; rw [a, b]; exact ⟨by omega, by omega, c⟩
  · obtain ⟨a, b, c⟩ := grp_22 h0 h1 h; rw [a, b]; exact ⟨by omega, by omega, c⟩
  · obtain ⟨a, b, c⟩ := grp_23 h0 h1 h; rw [a, b]; exact ⟨by omega, by omega, c⟩
  · obtain ⟨a, b, c⟩ := grp_24 h0 h1 h; rw [a, b]; exact ⟨by omega, by omega, c⟩
  · obtain ⟨a, b, c⟩ := grp_25 h0 h1 h; rw [a, b]; exact ⟨by omega, by omega, c⟩
  · obtain ⟨a, b, c⟩ := grp_26 h0 h1 h; rw [a, b]; exact ⟨by omega, by omega, c⟩
  · obtain ⟨a, b, c⟩ := grp_27 h0 h1 h; rw [a, b]; exact ⟨by omega, by omega, c⟩
  · obtain ⟨a, b, c⟩ := grp_28 h0 h1 h; rw [a, b]; exact ⟨by omega, by omega, c⟩
  · obtain ⟨a, b, c⟩ := grp_29 h0 h1 h; rw [a, b]; exact ⟨by omega, by omega, c⟩
  · obtain ⟨a, b, c⟩ := grp_30 h0 h1 h; rw [a, b]; exact ⟨by omega, by omega, c⟩
  · obtain ⟨a, b, c⟩ := grp_31 h0 h1 h; rw [a, b]; exact ⟨by omega, by omega, c⟩
  · obtain ⟨a, b, c⟩ := grp_32 h0 h1 h; rw [a, b]; exact ⟨by omega, by omega, c⟩
  · obtain ⟨a, b, c⟩ := grp_33 h0 h1 h; rw [a, b]; exact ⟨by omega, by omega, c⟩
  · obtain ⟨a, b, c⟩ := grp_34 h0 h1 h; rw [a, b]; exact ⟨by omega, by omega, c⟩
  · obtain ⟨a, b, c⟩ := grp_35 h0 h1 h; rw [a, b]; exact ⟨by omega, by omega, c⟩
  · obtain ⟨a, b, c⟩ := grp_36 h0 h1 h; rw [a, b]; exact ⟨by omega, by omega, c⟩
  · obtain ⟨a, b, c⟩ := grp_37 h0 h1 h; rw [a, b]; exact ⟨by omega, by omega, c⟩
  · obtain ⟨a, b, c⟩ := grp_38 h0 h1 h; rw [a, b]; exact ⟨by omega, by omega, c⟩
  · obtain ⟨a, b, c⟩ := grp_39 h0 h1 h; rw [a, b]; exact ⟨by omega, by omega, c⟩
  · obtain ⟨a, b, c⟩ := grp_40 h0 h1 h; rw [a, b]; exact ⟨by omega, by omega, c⟩
  · obtain ⟨a, b, c⟩ := grp_41 h0 h1 h; rw [a, b]; exact ⟨by omega, by omega, c⟩
  · obtain ⟨a, b, c⟩ := grp_42 h0 h1 h; rw [a, b]; exact ⟨by omega, by omega, c⟩
  · obtain ⟨a, b, c⟩ := grp_43 h0 h1 h; rw [a, b]; exact ⟨by omega, by omega, c⟩
  · obtain ⟨a, b, c⟩ := grp_44 h0 h1 h; rw [a, b]; exact ⟨by omega, by omega, c⟩
  · obtain ⟨a, b, c⟩ := grp_45 h0 h1 h; rw [a, b]; exact ⟨by omega, by omega, c⟩
  · obtain ⟨a, b, c⟩ := grp_46 h0 h1 h; rw [a, b]; exact ⟨by omega, by omega, c⟩
  · obtain ⟨a, b, c⟩ := grp_47 h0 h1 h; rw [a, b]; exact ⟨by omega, by omega, c⟩
  · obtain ⟨a, b, c⟩ := grp_48 h0 h1 h; rw [a, b]; exact ⟨by omega, by omega, c⟩
  · obtain ⟨a, b, c⟩ := grp_49 h0 h1 h; rw [a, b]; exact ⟨by omega, by omega, c⟩
  · obtain ⟨a, b, c⟩ := grp_50 h0 h1 h; rw [a, b]; exact ⟨by omega, by omega, c⟩
  · obtain ⟨a, b, c⟩ := grp_51 h0 h1 h; rw [a, b]; exact ⟨by omega, by omega, c⟩
  · obtain ⟨a, b, c⟩ := grp_52 h0 h1 h; rw [a, b]; exact ⟨by omega, by omega, c⟩
  · obtain ⟨a, b, c⟩ := grp_53 h0 h1 h; rw [a, b]; exact ⟨by omega, by omega, c⟩
  · obtain ⟨a, b, c⟩ := grp_54 h0 h1 h; rw [a, b]; exact ⟨by omega, by omega, c⟩
  · obtain ⟨a, b, c⟩ := grp_55 h0 h1 h; rw [a, b]; exact ⟨by omega, by omega, c⟩
  · obtain ⟨a, b, c⟩ := grp_56 h0 h1 h; rw [a, b]; exact ⟨by omega, by omega, c⟩
  · obtain ⟨a, b, c⟩ := grp_57 h0 h1 h; rw [a, b]; exact ⟨by omega, by omega, c⟩
  · obtain ⟨a, b, c⟩ := grp_58 h0 h1 h; rw [a, b]; exact ⟨by omega, by omega, c⟩
  · obtain ⟨a, b, c⟩ := grp_59 h0 h1 h; rw [a, b]; exact ⟨by omega, by omega, c⟩
  · obtain ⟨a, b, c⟩ := grp_60 h0 h1 h; rw [a, b]; exact ⟨by omega, by omega, c⟩
  · obtain ⟨a, b, c⟩ := grp_61 h0 h1 h; rw [a, b]; exact ⟨by omega, by omega, c⟩
  · obtain ⟨a, b, c⟩ := grp_62 h0 h1 h; rw [a, b]; exact ⟨by omega, by omega, c⟩
  · obtain ⟨a, b, c⟩ := grp_63 h0 h1 h; rw [a, b]; exact ⟨by omega, by omega, c⟩
  · obtain ⟨a, b, c⟩ := grp_64 h0 h1 h; rw [a, b]; exact ⟨by omega, by omega, c⟩
  · obtain ⟨a, b, c⟩ := grp_65 h0 h1 h; rw [a, b]; exact ⟨by omega, by omega, c⟩
/-- A word is of one operation at most. -/
theorem mt_one {j k n : Int} (j1 : 1 ≤ j) (j2 : j ≤ 65) (k1 : 1 ≤ k) (k2 : k ≤ 65) (h0 : 0 ≤ n) (h1 : n < 4294967296) (hj : mt j n = true) (hk : mt k n = true) : j = k := by
  obtain ⟨a1, a2, a3⟩ := grp j1 j2 h0 h1 hj
  obtain ⟨b1, b2, b3⟩ := grp k1 k2 h0 h1 hk
  rcases Int.lt_trichotomy j k with h | h | h
  · rw [b3 j a1 h] at hj; cases hj
  · exact h
  · rw [a3 k b1 h] at hk; cases hk
end Go.Proofs.YtndbkkldfinggaaDoor
