/- Plain arithmetic: a right instruction's word is the sum of its fields; nothing of the program. -/
import Derived.Test.YtndbkkldfinggaaDoorBits
namespace Go.Proofs.YtndbkkldfinggaaDoor

theorem reg_range {b : Bool} {r : Int} (h : regB b r = true) : 0 ≤ r ∧ r ≤ 31 := by
  cases b <;> simp [regB] at h <;> omega
theorem num_range {l n : Int} (hl : IsL l) (h : numB l n = true) : -1048576 ≤ n ∧ n ≤ 1048574 := by
  rcases hl with rfl | rfl | rfl | rfl | rfl | rfl | rfl | rfl | rfl | rfl <;> simp [numB, loN, hiN, stN] at h <;> omega
theorem right_parts {op rd r1 r2 n : Int} (h : rightB op rd r1 r2 n = true) : (nth plL op == 0) = false ∧ (regB (nRd (nth plL op)) rd && regB (nR1 (nth plL op)) r1 && regB (nR2 (nth plL op)) r2) = true ∧ numB (nth plL op) n = true := by
  simp only [rightB, Bool.and_eq_true] at h
  obtain ⟨⟨h0, h1⟩, h2⟩ := h
  refine ⟨by simpa [bne] using h0, by simpa only [Bool.and_eq_true] using h1, h2⟩
theorem right_ranges {op rd r1 r2 n : Int} (h : rightB op rd r1 r2 n = true) : (0 ≤ rd ∧ rd ≤ 31) ∧ (0 ≤ r1 ∧ r1 ≤ 31) ∧ (0 ≤ r2 ∧ r2 ≤ 31) ∧ (-1048576 ≤ n ∧ n ≤ 1048574) := by
  obtain ⟨o1, o2⟩ := ops_of_right h
  obtain ⟨-, hr, hn⟩ := right_parts h
  simp only [Bool.and_eq_true] at hr
  exact ⟨reg_range hr.1.1, reg_range hr.1.2, reg_range hr.2, num_range (isL_of o1 o2) hn⟩

/-- The word of a right instruction. -/
def wordI (op rd r1 r2 n : Int) : Int := nth fxL op + rd * 128 + r1 * 32768 + r2 * 1048576 + spr (nth plL op) (n % 4294967296)

/-- What is told of a fixed word by its form's letter. -/
def FxP (l f : Int) : Prop := 0 ≤ f ∧ f < 4294967296 ∧ (l = 85 ∨ l = 74 → f < 128) ∧ (l = 73 ∨ l = 76 ∨ l = 83 ∨ l = 66 → f % 128 + f / 4096 % 8 * 4096 = f) ∧
  (l = 72 → f % 128 + f / 4096 % 8 * 4096 + f / 67108864 * 67108864 = f) ∧ (l = 87 ∨ l = 82 → f % 128 + f / 4096 % 8 * 4096 + f / 33554432 * 33554432 = f)
theorem fxP_of {op : Int} (h1 : 1 ≤ op) (h2 : op ≤ 65) : FxP (nth plL op) (nth fxL op) := by
  rcases ops_all h1 h2 with rfl | rfl | rfl | rfl | rfl | rfl | rfl | rfl | rfl | rfl | rfl | rfl | rfl | rfl | rfl | rfl | rfl | rfl | rfl | rfl | rfl | rfl | rfl | rfl | rfl | rfl | rfl | rfl | rfl | rfl | rfl | rfl | rfl | rfl | rfl | rfl | rfl | rfl | rfl | rfl | rfl | rfl | rfl | rfl | rfl | rfl | rfl | rfl | rfl | rfl | rfl | rfl | rfl | rfl | rfl | rfl | rfl | rfl | rfl | rfl | rfl | rfl | rfl | rfl | rfl <;> (unfold FxP; decide)

theorem regs_or {rd r1 r2 : Int} (d0 : 0 ≤ rd) (d1 : rd ≤ 31) (a0 : 0 ≤ r1) (a1 : r1 ≤ 31) (b0 : 0 ≤ r2) (b1 : r2 ≤ 31) :
    bits .or .u32 (bits .or .u32 (rd * 128) (r1 * 32768)) (r2 * 1048576) = rd * 128 + r1 * 32768 + r2 * 1048576 := by
  rw [or_disj (rd * 128) (r1 * 32768) (by omega) (by omega) (by omega) (by omega) (by omega) (by omega) (by omega) (by omega) (by omega) (by omega) (by omega),
    or_disj (rd * 128 + r1 * 32768) (r2 * 1048576) (by omega) (by omega) (by omega) (by omega) (by omega) (by omega) (by omega) (by omega) (by omega) (by omega) (by omega)]

/-- Two ors: of a fixed word with registers, and of that with a number's bits. -/
theorem two_or {f g s : Int} (h1 : bits .or .u32 f g = f + g) (h2 : bits .or .u32 (f + g) s = f + g + s) : bits .or .u32 (bits .or .u32 f g) s = f + g + s := by rw [h1, h2]

set_option maxHeartbeats 4000000 in
theorem word_sum {l f rd r1 r2 n : Int} (hl : IsL l) (hf : FxP l f) (hr : (regB (nRd l) rd && regB (nR1 l) r1 && regB (nR2 l) r2) = true) (hn : numB l n = true) :
    bits .or .u32 (bits .or .u32 f (rd * 128 + r1 * 32768 + r2 * 1048576)) (spr l (n % 4294967296)) = f + (rd * 128 + r1 * 32768 + r2 * 1048576) + spr l (n % 4294967296) := by
  obtain ⟨f0, f1, fa, fb, fc, fd⟩ := hf
  by_cases hB : l = 66
  · subst hB
    simp [regB, nRd, nR1, nR2] at hr
    simp at fb
    clear fa fc fd hl hn
    have e : spr 66 (n % 4294967296) = (n % 4294967296 / 2 % 16 * 2 + n % 4294967296 / 2048 % 2) * 128 + (n % 4294967296 / 32 % 64 + n % 4294967296 / 4096 % 2 * 64) * 33554432 := rfl
    have g1 : 0 ≤ n % 4294967296 / 2 % 16 * 2 + n % 4294967296 / 2048 % 2 ∧ n % 4294967296 / 2 % 16 * 2 + n % 4294967296 / 2048 % 2 < 32 := by omega
    have g2 : 0 ≤ n % 4294967296 / 32 % 64 + n % 4294967296 / 4096 % 2 * 64 ∧ n % 4294967296 / 32 % 64 + n % 4294967296 / 4096 % 2 * 64 < 128 := by omega
    rw [e]
    clear e
    generalize n % 4294967296 / 2 % 16 * 2 + n % 4294967296 / 2048 % 2 = x at *
    generalize n % 4294967296 / 32 % 64 + n % 4294967296 / 4096 % 2 * 64 = y at *
    apply two_or
    · apply or_disj <;> omega
    · apply or_disj <;> omega
  · rcases hl with rfl | rfl | rfl | rfl | rfl | rfl | rfl | rfl | rfl | rfl <;> simp [numB, loN, hiN, stN] at hn <;> simp [regB, nRd, nR1, nR2] at hr <;> simp only [spr] <;> simp at fa fb fc fd hB
    all_goals
      apply two_or
      · apply or_disj <;> omega
      · apply or_disj <;> omega

theorem word_or {op rd r1 r2 n : Int} (h : rightB op rd r1 r2 n = true) :
    bits .or .u32 (bits .or .u32 (nth fxL op) (bits .or .u32 (bits .or .u32 (rd * 128) (r1 * 32768)) (r2 * 1048576))) (spr (nth plL op) (n % 4294967296)) = wordI op rd r1 r2 n := by
  obtain ⟨o1, o2⟩ := ops_of_right h
  obtain ⟨-, hr, hn⟩ := right_parts h
  obtain ⟨⟨d0, d1⟩, ⟨a0, a1⟩, ⟨b0, b1⟩, -⟩ := right_ranges h
  rw [regs_or d0 d1 a0 a1 b0 b1, word_sum (isL_of o1 o2) (fxP_of o1 o2) hr hn]
  unfold wordI
  omega
end Go.Proofs.YtndbkkldfinggaaDoor
