/- Plain arithmetic: a right instruction is read from its word; nothing of the program. -/
import Derived.Test.YtndbkkldfinggaaDoorBack
namespace Go.Proofs.YtndbkkldfinggaaDoor
theorem sgn12 {n : Int} (h0 : -2048 ≤ n) (h1 : n ≤ 2047) : sg 12 (n % 4096) = n := by rw [sg_12]; split <;> omega
theorem sgn13 {n : Int} (h0 : -4096 ≤ n) (h1 : n ≤ 4095) : sg 13 (n % 8192) = n := by rw [sg_13]; split <;> omega
theorem sgn20 {n : Int} (h0 : -524288 ≤ n) (h1 : n ≤ 524287) : sg 20 (n % 1048576) = n := by rw [sg_20]; split <;> omega
theorem sgn21 {n : Int} (h0 : -1048576 ≤ n) (h1 : n ≤ 1048575) : sg 21 (n % 2097152) = n := by rw [sg_21]; split <;> omega

/-- What is read from a word, where it is read as it was written. -/
def Reads (l f rd r1 r2 n x : Int) : Prop := 0 ≤ x ∧ x < 4294967296 ∧ andM l x = f ∧ gRd l x = rd ∧ gR1 l x = r1 ∧ gR2 l x = r2 ∧ gth l x = n

theorem fwd {l f rd r1 r2 n : Int} (hl : IsL l) (hf : FxP l f) (hr : (regB (nRd l) rd && regB (nR1 l) r1 && regB (nR2 l) r2) = true) (hn : numB l n = true) :
    Reads l f rd r1 r2 n (f + rd * 128 + r1 * 32768 + r2 * 1048576 + spr l (n % 4294967296)) := by
  obtain ⟨f0, f1, fa, fb, fc, fd⟩ := hf
  rcases hl with rfl | rfl | rfl | rfl | rfl | rfl | rfl | rfl | rfl | rfl <;> simp [numB, loN, hiN, stN] at hn <;> simp [regB, nRd, nR1, nR2] at hr <;> simp at fa fb fc fd
  · obtain ⟨⟨hd, rfl⟩, rfl⟩ := hr
    have e : spr 85 (n % 4294967296) = n % 4294967296 % 1048576 * 4096 := rfl
    have q : n % 4294967296 % 1048576 = n % 1048576 := by omega
    rw [e, q]
    have s := sgn20 (n := n) (by omega) (by omega)
    have b : 0 ≤ n % 1048576 ∧ n % 1048576 < 1048576 := by omega
    refine ⟨by omega, by omega, ?_, ?_, rfl, rfl, ?_⟩
    · show (f + rd * 128 + 0 * 32768 + 0 * 1048576 + n % 1048576 * 4096) % 128 = f; omega
    · show (f + rd * 128 + 0 * 32768 + 0 * 1048576 + n % 1048576 * 4096) / 128 % 32 = rd; omega
    · show sg 20 ((f + rd * 128 + 0 * 32768 + 0 * 1048576 + n % 1048576 * 4096) / 4096 % 1048576) = n
      rw [show (f + rd * 128 + 0 * 32768 + 0 * 1048576 + n % 1048576 * 4096) / 4096 % 1048576 = n % 1048576 by omega, s]
  · obtain ⟨⟨hd, rfl⟩, rfl⟩ := hr
    have e : spr 74 (n % 4294967296) = n % 4294967296 / 4096 % 256 * 4096 + n % 4294967296 / 2048 % 2 * 1048576 + n % 4294967296 / 2 % 1024 * 2097152 + n % 4294967296 / 1048576 % 2 * 2147483648 := rfl
    have q1 : n % 4294967296 / 4096 % 256 = n / 4096 % 256 := by omega
    have q2 : n % 4294967296 / 2048 % 2 = n / 2048 % 2 := by omega
    have q3 : n % 4294967296 / 2 % 1024 = n / 2 % 1024 := by omega
    have q4 : n % 4294967296 / 1048576 % 2 = n / 1048576 % 2 := by omega
    have s := sgn21 (n := n) (by omega) (by omega)
    have q5 : n % 2097152 = n / 4096 % 256 * 4096 + n / 2048 % 2 * 2048 + n / 2 % 1024 * 2 + n / 1048576 % 2 * 1048576 := by omega
    rw [q5] at s
    rw [e, q1, q2, q3, q4]
    have c1 : 0 ≤ n / 4096 % 256 ∧ n / 4096 % 256 < 256 := by omega
    have c2 : 0 ≤ n / 2048 % 2 ∧ n / 2048 % 2 < 2 := by omega
    have c3 : 0 ≤ n / 2 % 1024 ∧ n / 2 % 1024 < 1024 := by omega
    have c4 : 0 ≤ n / 1048576 % 2 ∧ n / 1048576 % 2 < 2 := by omega
    clear e q1 q2 q3 q4 q5 hn
    generalize n / 4096 % 256 = x at *
    generalize n / 2048 % 2 = y at *
    generalize n / 2 % 1024 = z at *
    generalize n / 1048576 % 2 = t at *
    have g : ∃ W, f + rd * 128 + 0 * 32768 + 0 * 1048576 + (x * 4096 + y * 1048576 + z * 2097152 + t * 2147483648) = W := ⟨_, rfl⟩
    obtain ⟨W, g⟩ := g
    rw [g]
    refine ⟨by omega, by omega, ?_, ?_, rfl, rfl, ?_⟩
    · show W % 128 = f; omega
    · show W / 128 % 32 = rd; omega
    · show sg 21 (W / 4096 % 256 * 4096 + W / 1048576 % 2 * 2048 + W / 2097152 % 1024 * 2 + W / 2147483648 % 2 * 1048576) = n
      rw [show W / 4096 % 256 = x by omega, show W / 1048576 % 2 = y by omega, show W / 2097152 % 1024 = z by omega, show W / 2147483648 % 2 = t by omega, s]
  · obtain ⟨⟨hd, ha⟩, rfl⟩ := hr
    have e : spr 73 (n % 4294967296) = n % 4294967296 % 4096 * 1048576 := rfl
    have q : n % 4294967296 % 4096 = n % 4096 := by omega
    rw [e, q]
    have s := sgn12 (n := n) (by omega) (by omega)
    have b : 0 ≤ n % 4096 ∧ n % 4096 < 4096 := by omega
    have g : ∃ W, f + rd * 128 + r1 * 32768 + 0 * 1048576 + n % 4096 * 1048576 = W := ⟨_, rfl⟩
    obtain ⟨W, g⟩ := g
    rw [g]
    refine ⟨by omega, by omega, ?_, ?_, ?_, rfl, ?_⟩
    · show W % 128 + W / 4096 % 8 * 4096 = f; omega
    · show W / 128 % 32 = rd; omega
    · show W / 32768 % 32 = r1; omega
    · show sg 12 (W / 1048576 % 4096) = n
      rw [show W / 1048576 % 4096 = n % 4096 by omega, s]
  · obtain ⟨⟨hd, ha⟩, rfl⟩ := hr
    have e : spr 76 (n % 4294967296) = n % 4294967296 % 4096 * 1048576 := rfl
    have q : n % 4294967296 % 4096 = n % 4096 := by omega
    rw [e, q]
    have s := sgn12 (n := n) (by omega) (by omega)
    have b : 0 ≤ n % 4096 ∧ n % 4096 < 4096 := by omega
    have g : ∃ W, f + rd * 128 + r1 * 32768 + 0 * 1048576 + n % 4096 * 1048576 = W := ⟨_, rfl⟩
    obtain ⟨W, g⟩ := g
    rw [g]
    refine ⟨by omega, by omega, ?_, ?_, ?_, rfl, ?_⟩
    · show W % 128 + W / 4096 % 8 * 4096 = f; omega
    · show W / 128 % 32 = rd; omega
    · show W / 32768 % 32 = r1; omega
    · show sg 12 (W / 1048576 % 4096) = n
      rw [show W / 1048576 % 4096 = n % 4096 by omega, s]
  · obtain ⟨⟨hd, ha⟩, rfl⟩ := hr
    have e : spr 72 (n % 4294967296) = n % 4294967296 % 4096 * 1048576 := rfl
    have q : n % 4294967296 % 4096 = n := by omega
    rw [e, q]
    have g : ∃ W, f + rd * 128 + r1 * 32768 + 0 * 1048576 + n * 1048576 = W := ⟨_, rfl⟩
    obtain ⟨W, g⟩ := g
    rw [g]
    refine ⟨by omega, by omega, ?_, ?_, ?_, rfl, ?_⟩
    · show W % 128 + W / 4096 % 8 * 4096 + W / 67108864 * 67108864 = f; omega
    · show W / 128 % 32 = rd; omega
    · show W / 32768 % 32 = r1; omega
    · show W / 1048576 % 64 = n; omega
  · obtain ⟨⟨hd, ha⟩, rfl⟩ := hr
    have e : spr 87 (n % 4294967296) = n % 4294967296 % 4096 * 1048576 := rfl
    have q : n % 4294967296 % 4096 = n := by omega
    rw [e, q]
    have g : ∃ W, f + rd * 128 + r1 * 32768 + 0 * 1048576 + n * 1048576 = W := ⟨_, rfl⟩
    obtain ⟨W, g⟩ := g
    rw [g]
    refine ⟨by omega, by omega, ?_, ?_, ?_, rfl, ?_⟩
    · show W % 128 + W / 4096 % 8 * 4096 + W / 33554432 * 33554432 = f; omega
    · show W / 128 % 32 = rd; omega
    · show W / 32768 % 32 = r1; omega
    · show W / 1048576 % 32 = n; omega
  · obtain ⟨⟨rfl, ha⟩, hb⟩ := hr
    have e : spr 83 (n % 4294967296) = n % 4294967296 % 32 * 128 + n % 4294967296 / 32 % 128 * 33554432 := rfl
    have q1 : n % 4294967296 % 32 = n % 32 := by omega
    have q2 : n % 4294967296 / 32 % 128 = n / 32 % 128 := by omega
    have s := sgn12 (n := n) (by omega) (by omega)
    have q5 : n % 4096 = n % 32 + n / 32 % 128 * 32 := by omega
    rw [q5] at s
    rw [e, q1, q2]
    have c1 : 0 ≤ n % 32 ∧ n % 32 < 32 := by omega
    have c2 : 0 ≤ n / 32 % 128 ∧ n / 32 % 128 < 128 := by omega
    clear e q1 q2 q5 hn
    generalize n % 32 = x at *
    generalize n / 32 % 128 = y at *
    have g : ∃ W, f + 0 * 128 + r1 * 32768 + r2 * 1048576 + (x * 128 + y * 33554432) = W := ⟨_, rfl⟩
    obtain ⟨W, g⟩ := g
    rw [g]
    refine ⟨by omega, by omega, ?_, rfl, ?_, ?_, ?_⟩
    · show W % 128 + W / 4096 % 8 * 4096 = f; omega
    · show W / 32768 % 32 = r1; omega
    · show W / 1048576 % 32 = r2; omega
    · show sg 12 (W / 128 % 32 + W / 33554432 % 128 * 32) = n
      rw [show W / 128 % 32 = x by omega, show W / 33554432 % 128 = y by omega, s]
  · obtain ⟨⟨rfl, ha⟩, hb⟩ := hr
    have e : spr 66 (n % 4294967296) = (n % 4294967296 / 2 % 16 * 2 + n % 4294967296 / 2048 % 2) * 128 + (n % 4294967296 / 32 % 64 + n % 4294967296 / 4096 % 2 * 64) * 33554432 := rfl
    have q1 : n % 4294967296 / 2 % 16 = n / 2 % 16 := by omega
    have q2 : n % 4294967296 / 2048 % 2 = n / 2048 % 2 := by omega
    have q3 : n % 4294967296 / 32 % 64 = n / 32 % 64 := by omega
    have q4 : n % 4294967296 / 4096 % 2 = n / 4096 % 2 := by omega
    have s := sgn13 (n := n) (by omega) (by omega)
    have q5 : n % 8192 = n / 2 % 16 * 2 + n / 32 % 64 * 32 + n / 2048 % 2 * 2048 + n / 4096 % 2 * 4096 := by omega
    rw [q5] at s
    rw [e, q1, q2, q3, q4]
    have c1 : 0 ≤ n / 2 % 16 ∧ n / 2 % 16 < 16 := by omega
    have c2 : 0 ≤ n / 2048 % 2 ∧ n / 2048 % 2 < 2 := by omega
    have c3 : 0 ≤ n / 32 % 64 ∧ n / 32 % 64 < 64 := by omega
    have c4 : 0 ≤ n / 4096 % 2 ∧ n / 4096 % 2 < 2 := by omega
    clear e q1 q2 q3 q4 q5 hn
    generalize n / 2 % 16 = x at *
    generalize n / 2048 % 2 = y at *
    generalize n / 32 % 64 = z at *
    generalize n / 4096 % 2 = t at *
    have g : ∃ W, f + 0 * 128 + r1 * 32768 + r2 * 1048576 + ((x * 2 + y) * 128 + (z + t * 64) * 33554432) = W := ⟨_, rfl⟩
    obtain ⟨W, g⟩ := g
    rw [g]
    refine ⟨by omega, by omega, ?_, rfl, ?_, ?_, ?_⟩
    · show W % 128 + W / 4096 % 8 * 4096 = f; omega
    · show W / 32768 % 32 = r1; omega
    · show W / 1048576 % 32 = r2; omega
    · show sg 13 (W / 256 % 16 * 2 + W / 33554432 % 64 * 32 + W / 128 % 2 * 2048 + W / 2147483648 % 2 * 4096) = n
      rw [show W / 256 % 16 = x by omega, show W / 33554432 % 64 = z by omega, show W / 128 % 2 = y by omega, show W / 2147483648 % 2 = t by omega, s]
  · obtain ⟨⟨hd, ha⟩, hb⟩ := hr
    have e : spr 82 (n % 4294967296) = 0 := rfl
    rw [e]
    have g : ∃ W, f + rd * 128 + r1 * 32768 + r2 * 1048576 + 0 = W := ⟨_, rfl⟩
    obtain ⟨W, g⟩ := g
    rw [g]
    refine ⟨by omega, by omega, ?_, ?_, ?_, ?_, ?_⟩
    · show W % 128 + W / 4096 % 8 * 4096 + W / 33554432 * 33554432 = f; omega
    · show W / 128 % 32 = rd; omega
    · show W / 32768 % 32 = r1; omega
    · show W / 1048576 % 32 = r2; omega
    · show 0 = n; omega
  · obtain ⟨⟨rfl, rfl⟩, rfl⟩ := hr
    have e : spr 78 (n % 4294967296) = 0 := rfl
    rw [e]
    refine ⟨by omega, by omega, ?_, rfl, rfl, rfl, ?_⟩
    · show f + 0 * 128 + 0 * 32768 + 0 * 1048576 + 0 = f; omega
    · show 0 = n; omega

/-- A right instruction is read from its word. -/
theorem write_read {op rd r1 r2 n : Int} (h : rightB op rd r1 r2 n = true) : Reads (nth plL op) (nth fxL op) rd r1 r2 n (wordI op rd r1 r2 n) := by
  obtain ⟨o1, o2⟩ := ops_of_right h
  obtain ⟨-, hr, hn⟩ := right_parts h
  exact fwd (isL_of o1 o2) (fxP_of o1 o2) hr hn
theorem mt_word {op rd r1 r2 n : Int} (h : rightB op rd r1 r2 n = true) : mt op (wordI op rd r1 r2 n) = true := by
  have t := (write_read h).2.2.1
  simp [mt, t]
end Go.Proofs.YtndbkkldfinggaaDoor
