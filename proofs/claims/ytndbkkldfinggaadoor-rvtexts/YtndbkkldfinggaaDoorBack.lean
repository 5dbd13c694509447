/- Plain arithmetic: there and back: a word of an operation is that of the right instruction that is read from it, and a right instruction is read from its word; nothing of the program. -/
import Derived.Test.YtndbkkldfinggaaDoorOne
namespace Go.Proofs.YtndbkkldfinggaaDoor
/-- The registers that a word has for a form. -/
def gRd (l n : Int) : Int := if nRd l then n / 128 % 32 else 0
def gR1 (l n : Int) : Int := if nR1 l then n / 32768 % 32 else 0
def gR2 (l n : Int) : Int := if nR2 l then n / 1048576 % 32 else 0

theorem back_regs (l n : Int) : (regB (nRd l) (gRd l n) && regB (nR1 l) (gR1 l n) && regB (nR2 l) (gR2 l n)) = true := by
  simp only [gRd, gR1, gR2]
  cases nRd l <;> cases nR1 l <;> cases nR2 l <;> simp [regB] <;> omega

theorem sg_emod12 {x : Int} (h0 : 0 ≤ x) (h1 : x < 4096) : (sg 12 x = x ∧ x < 2048) ∨ (sg 12 x = x - 4096 ∧ 2048 ≤ x) := by rw [sg_12]; split <;> omega
theorem sg_emod13 {x : Int} (h0 : 0 ≤ x) (h1 : x < 8192) : (sg 13 x = x ∧ x < 4096) ∨ (sg 13 x = x - 8192 ∧ 4096 ≤ x) := by rw [sg_13]; split <;> omega
theorem sg_emod20 {x : Int} (h0 : 0 ≤ x) (h1 : x < 1048576) : (sg 20 x = x ∧ x < 524288) ∨ (sg 20 x = x - 1048576 ∧ 524288 ≤ x) := by rw [sg_20]; split <;> omega
theorem sg_emod21 {x : Int} (h0 : 0 ≤ x) (h1 : x < 2097152) : (sg 21 x = x ∧ x < 1048576) ∨ (sg 21 x = x - 2097152 ∧ 1048576 ≤ x) := by rw [sg_21]; split <;> omega

theorem back_num (l n : Int) (hl : IsL l) : numB l (gth l n) = true := by
  rcases hl with rfl | rfl | rfl | rfl | rfl | rfl | rfl | rfl | rfl | rfl
  · have e : gth 85 n = sg 20 (n / 4096 % 1048576) := rfl
    rw [e]; rcases sg_emod20 (x := n / 4096 % 1048576) (by omega) (by omega) with h | h <;> simp [numB, loN, hiN, stN, h.1] <;> omega
  · have e : gth 74 n = sg 21 (n / 4096 % 256 * 4096 + n / 1048576 % 2 * 2048 + n / 2097152 % 1024 * 2 + n / 2147483648 % 2 * 1048576) := rfl
    rw [e]; rcases sg_emod21 (x := n / 4096 % 256 * 4096 + n / 1048576 % 2 * 2048 + n / 2097152 % 1024 * 2 + n / 2147483648 % 2 * 1048576) (by omega) (by omega) with h | h <;> simp [numB, loN, hiN, stN, h.1] <;> omega
  · have e : gth 73 n = sg 12 (n / 1048576 % 4096) := rfl
    rw [e]; rcases sg_emod12 (x := n / 1048576 % 4096) (by omega) (by omega) with h | h <;> simp [numB, loN, hiN, stN, h.1] <;> omega
  · have e : gth 76 n = sg 12 (n / 1048576 % 4096) := rfl
    rw [e]; rcases sg_emod12 (x := n / 1048576 % 4096) (by omega) (by omega) with h | h <;> simp [numB, loN, hiN, stN, h.1] <;> omega
  · have e : gth 72 n = n / 1048576 % 64 := rfl
    rw [e]; simp [numB, loN, hiN, stN]; omega
  · have e : gth 87 n = n / 1048576 % 32 := rfl
    rw [e]; simp [numB, loN, hiN, stN]; omega
  · have e : gth 83 n = sg 12 (n / 128 % 32 + n / 33554432 % 128 * 32) := rfl
    rw [e]; rcases sg_emod12 (x := n / 128 % 32 + n / 33554432 % 128 * 32) (by omega) (by omega) with h | h <;> simp [numB, loN, hiN, stN, h.1] <;> omega
  · have e : gth 66 n = sg 13 (n / 256 % 16 * 2 + n / 33554432 % 64 * 32 + n / 128 % 2 * 2048 + n / 2147483648 % 2 * 4096) := rfl
    rw [e]; rcases sg_emod13 (x := n / 256 % 16 * 2 + n / 33554432 % 64 * 32 + n / 128 % 2 * 2048 + n / 2147483648 % 2 * 4096) (by omega) (by omega) with h | h <;> simp [numB, loN, hiN, stN, h.1] <;> omega
  · rfl
  · rfl

/-- The number's bits, put back where they were. -/
def bitsOf (l n : Int) : Int :=
  if l = 85 then n / 4096 * 4096
  else if l = 74 then n / 4096 * 4096
  else if l = 73 ∨ l = 76 then n / 1048576 * 1048576
  else if l = 72 then n / 1048576 % 64 * 1048576
  else if l = 87 then n / 1048576 % 32 * 1048576
  else if l = 83 ∨ l = 66 then n / 128 % 32 * 128 + n / 33554432 * 33554432
  else 0

theorem spr_gth (l n : Int) (hl : IsL l) (h0 : 0 ≤ n) (h1 : n < 4294967296) : spr l (gth l n % 4294967296) = bitsOf l n := by
  rcases hl with rfl | rfl | rfl | rfl | rfl | rfl | rfl | rfl | rfl | rfl
  · have e : gth 85 n = sg 20 (n / 4096 % 1048576) := rfl
    rw [e]; show sg 20 (n / 4096 % 1048576) % 4294967296 % 1048576 * 4096 = n / 4096 * 4096
    rcases sg_emod20 (x := n / 4096 % 1048576) (by omega) (by omega) with h | h <;> rw [h.1] <;> omega
  · have e : gth 74 n = sg 21 (n / 4096 % 256 * 4096 + n / 1048576 % 2 * 2048 + n / 2097152 % 1024 * 2 + n / 2147483648 % 2 * 1048576) := rfl
    rw [e]
    have q : n / 4096 * 4096 = n / 4096 % 256 * 4096 + n / 1048576 % 2 * 1048576 + n / 2097152 % 1024 * 2097152 + n / 2147483648 % 2 * 2147483648 := by omega
    show _ = n / 4096 * 4096
    rw [q]
    have c1 : 0 ≤ n / 4096 % 256 ∧ n / 4096 % 256 < 256 := by omega
    have c2 : 0 ≤ n / 1048576 % 2 ∧ n / 1048576 % 2 < 2 := by omega
    have c3 : 0 ≤ n / 2097152 % 1024 ∧ n / 2097152 % 1024 < 1024 := by omega
    have c4 : 0 ≤ n / 2147483648 % 2 ∧ n / 2147483648 % 2 < 2 := by omega
    clear e q h0 h1
    generalize n / 4096 % 256 = x at *
    generalize n / 1048576 % 2 = y at *
    generalize n / 2097152 % 1024 = z at *
    generalize n / 2147483648 % 2 = t at *
    have hm : ∃ m, sg 21 (x * 4096 + y * 2048 + z * 2 + t * 1048576) % 4294967296 = m ∧ (m = x * 4096 + y * 2048 + z * 2 + t * 1048576 ∨ m = x * 4096 + y * 2048 + z * 2 + t * 1048576 + 4292870144) := by
      rcases sg_emod21 (x := x * 4096 + y * 2048 + z * 2 + t * 1048576) (by omega) (by omega) with h | h <;> exact ⟨_, rfl, by rw [h.1]; omega⟩
    obtain ⟨m, hm, hx⟩ := hm
    rw [hm]
    show m / 4096 % 256 * 4096 + m / 2048 % 2 * 1048576 + m / 2 % 1024 * 2097152 + m / 1048576 % 2 * 2147483648 = _
    have d1 : m / 4096 % 256 = x := by omega
    have d2 : m / 2048 % 2 = y := by omega
    have d3 : m / 2 % 1024 = z := by omega
    have d4 : m / 1048576 % 2 = t := by omega
    rw [d1, d2, d3, d4]
  · have e : gth 73 n = sg 12 (n / 1048576 % 4096) := rfl
    rw [e]; show sg 12 (n / 1048576 % 4096) % 4294967296 % 4096 * 1048576 = n / 1048576 * 1048576
    rcases sg_emod12 (x := n / 1048576 % 4096) (by omega) (by omega) with h | h <;> rw [h.1] <;> omega
  · have e : gth 76 n = sg 12 (n / 1048576 % 4096) := rfl
    rw [e]; show sg 12 (n / 1048576 % 4096) % 4294967296 % 4096 * 1048576 = n / 1048576 * 1048576
    rcases sg_emod12 (x := n / 1048576 % 4096) (by omega) (by omega) with h | h <;> rw [h.1] <;> omega
  · show n / 1048576 % 64 % 4294967296 % 4096 * 1048576 = n / 1048576 % 64 * 1048576; omega
  · show n / 1048576 % 32 % 4294967296 % 4096 * 1048576 = n / 1048576 % 32 * 1048576; omega
  · have e : gth 83 n = sg 12 (n / 128 % 32 + n / 33554432 % 128 * 32) := rfl
    rw [e]
    show _ = n / 128 % 32 * 128 + n / 33554432 * 33554432
    have q : n / 33554432 = n / 33554432 % 128 := by omega
    rw [q]
    have c1 : 0 ≤ n / 128 % 32 ∧ n / 128 % 32 < 32 := by omega
    have c2 : 0 ≤ n / 33554432 % 128 % 128 ∧ n / 33554432 % 128 % 128 < 128 := by omega
    have q' : n / 33554432 % 128 % 128 = n / 33554432 % 128 := by omega
    rw [q'] at c2 ⊢
    clear e q q' h0 h1
    generalize n / 128 % 32 = x at *
    generalize n / 33554432 % 128 = y at *
    have hm : ∃ m, sg 12 (x + y * 32) % 4294967296 = m ∧ (m = x + y * 32 ∨ m = x + y * 32 + 4294963200) := by
      rcases sg_emod12 (x := x + y * 32) (by omega) (by omega) with h | h <;> exact ⟨_, rfl, by rw [h.1]; omega⟩
    obtain ⟨m, hm, hx⟩ := hm
    rw [hm]
    show m % 32 * 128 + m / 32 % 128 * 33554432 = _
    have d1 : m % 32 = x := by omega
    have d2 : m / 32 % 128 = y := by omega
    rw [d1, d2]
  · have e : gth 66 n = sg 13 (n / 256 % 16 * 2 + n / 33554432 % 64 * 32 + n / 128 % 2 * 2048 + n / 2147483648 % 2 * 4096) := rfl
    rw [e]
    show _ = n / 128 % 32 * 128 + n / 33554432 * 33554432
    have q : n / 128 % 32 * 128 + n / 33554432 * 33554432 = (n / 256 % 16 * 2 + n / 128 % 2) * 128 + (n / 33554432 % 64 + n / 2147483648 % 2 * 64) * 33554432 := by omega
    rw [q]
    have c1 : 0 ≤ n / 256 % 16 ∧ n / 256 % 16 < 16 := by omega
    have c2 : 0 ≤ n / 33554432 % 64 ∧ n / 33554432 % 64 < 64 := by omega
    have c3 : 0 ≤ n / 128 % 2 ∧ n / 128 % 2 < 2 := by omega
    have c4 : 0 ≤ n / 2147483648 % 2 ∧ n / 2147483648 % 2 < 2 := by omega
    clear e q h0 h1
    generalize n / 256 % 16 = x at *
    generalize n / 33554432 % 64 = y at *
    generalize n / 128 % 2 = z at *
    generalize n / 2147483648 % 2 = t at *
    have hm : ∃ m, sg 13 (x * 2 + y * 32 + z * 2048 + t * 4096) % 4294967296 = m ∧ (m = x * 2 + y * 32 + z * 2048 + t * 4096 ∨ m = x * 2 + y * 32 + z * 2048 + t * 4096 + 4294959104) := by
      rcases sg_emod13 (x := x * 2 + y * 32 + z * 2048 + t * 4096) (by omega) (by omega) with h | h <;> exact ⟨_, rfl, by rw [h.1]; omega⟩
    obtain ⟨m, hm, hx⟩ := hm
    rw [hm]
    show (m / 2 % 16 * 2 + m / 2048 % 2) * 128 + (m / 32 % 64 + m / 4096 % 2 * 64) * 33554432 = _
    have d1 : m / 2 % 16 = x := by omega
    have d2 : m / 2048 % 2 = z := by omega
    have d3 : m / 32 % 64 = y := by omega
    have d4 : m / 4096 % 2 = t := by omega
    rw [d1, d2, d3, d4]
  · rfl
  · rfl

theorem back_word {l f n : Int} (hl : IsL l) (hf : FxP l f) (h0 : 0 ≤ n) (h1 : n < 4294967296) (h : andM l n = f) :
    f + gRd l n * 128 + gR1 l n * 32768 + gR2 l n * 1048576 + spr l (gth l n % 4294967296) = n := by
  rw [spr_gth l n hl h0 h1, ← h]
  obtain ⟨-, -, fa, fb, fc, fd⟩ := hf
  rcases hl with rfl | rfl | rfl | rfl | rfl | rfl | rfl | rfl | rfl | rfl
  · show n % 128 + n / 128 % 32 * 128 + 0 * 32768 + 0 * 1048576 + n / 4096 * 4096 = n; omega
  · show n % 128 + n / 128 % 32 * 128 + 0 * 32768 + 0 * 1048576 + n / 4096 * 4096 = n; omega
  · show n % 128 + n / 4096 % 8 * 4096 + n / 128 % 32 * 128 + n / 32768 % 32 * 32768 + 0 * 1048576 + n / 1048576 * 1048576 = n; omega
  · show n % 128 + n / 4096 % 8 * 4096 + n / 128 % 32 * 128 + n / 32768 % 32 * 32768 + 0 * 1048576 + n / 1048576 * 1048576 = n; omega
  · show n % 128 + n / 4096 % 8 * 4096 + n / 67108864 * 67108864 + n / 128 % 32 * 128 + n / 32768 % 32 * 32768 + 0 * 1048576 + n / 1048576 % 64 * 1048576 = n; omega
  · show n % 128 + n / 4096 % 8 * 4096 + n / 33554432 * 33554432 + n / 128 % 32 * 128 + n / 32768 % 32 * 32768 + 0 * 1048576 + n / 1048576 % 32 * 1048576 = n; omega
  · show n % 128 + n / 4096 % 8 * 4096 + 0 * 128 + n / 32768 % 32 * 32768 + n / 1048576 % 32 * 1048576 + (n / 128 % 32 * 128 + n / 33554432 * 33554432) = n; omega
  · show n % 128 + n / 4096 % 8 * 4096 + 0 * 128 + n / 32768 % 32 * 32768 + n / 1048576 % 32 * 1048576 + (n / 128 % 32 * 128 + n / 33554432 * 33554432) = n; omega
  · show n % 128 + n / 4096 % 8 * 4096 + n / 33554432 * 33554432 + n / 128 % 32 * 128 + n / 32768 % 32 * 32768 + n / 1048576 % 32 * 1048576 + 0 = n; omega
  · show n + 0 * 128 + 0 * 32768 + 0 * 1048576 + 0 = n; omega

/-- What is read from a word of an operation is right, and has that word. -/
theorem read_right {k n : Int} (k1 : 1 ≤ k) (k2 : k ≤ 65) (h0 : 0 ≤ n) (h1 : n < 4294967296) (h : mt k n = true) :
    rightB k (gRd (nth plL k) n) (gR1 (nth plL k) n) (gR2 (nth plL k) n) (gth (nth plL k) n) = true ∧ wordI k (gRd (nth plL k) n) (gR1 (nth plL k) n) (gR2 (nth plL k) n) (gth (nth plL k) n) = n := by
  have hl := isL_of k1 k2
  have hf := fxP_of k1 k2
  have hm : andM (nth plL k) n = nth fxL k := by simpa [mt] using h
  constructor
  · unfold rightB
    rw [back_regs, back_num _ _ hl]
    simpa using isL_ne hl
  · unfold wordI
    exact back_word hl hf h0 h1 hm
end Go.Proofs.YtndbkkldfinggaaDoor
