/- How many bytes a letter has, by the document; the first byte that is no letter. -/
import Derived.Test.YtgdbfedagdlgkaaDoorC5
namespace Go.Proofs.YtgdbfedagdlgkaaDoor
open Go.RowKit Go.Shelf
def conB (c : Nat) : Bool := decide (128 ≤ c) && decide (c ≤ 191)
def tl2 (n b1 lo hi : Nat) : Nat := if 2 ≤ n ∧ lo ≤ b1 ∧ b1 ≤ hi then 2 else 0
def tl3 (n b1 b2 lo hi : Nat) : Nat := if 3 ≤ n ∧ (lo ≤ b1 ∧ b1 ≤ hi) ∧ (128 ≤ b2 ∧ b2 ≤ 191) then 3 else 0
def tl4 (n b1 b2 b3 lo hi : Nat) : Nat := if 4 ≤ n ∧ (lo ≤ b1 ∧ b1 ≤ hi) ∧ (128 ≤ b2 ∧ b2 ≤ 191) ∧ (128 ≤ b3 ∧ b3 ≤ 191) then 4 else 0
def szN (n b0 b1 b2 b3 : Nat) : Nat :=
  if b0 < 128 then 1
  else if b0 < 194 then 0
  else if b0 ≤ 223 then tl2 n b1 128 191
  else if b0 = 224 then tl3 n b1 b2 160 191
  else if b0 = 237 then tl3 n b1 b2 128 159
  else if b0 ≤ 239 then tl3 n b1 b2 128 191
  else if b0 = 240 then tl4 n b1 b2 b3 144 191
  else if b0 = 244 then tl4 n b1 b2 b3 128 143
  else if b0 ≤ 243 then tl4 n b1 b2 b3 128 191
  else 0
theorem dec2 (n b0 b1 b2 b3 : Nat) (h : 192 ≤ b0) (h' : b0 ≤ 223) : Lib.decodeN n b0 b1 b2 b3 = if (1 < n ∧ b1 / 64 = 2) ∧ b0 % 32 * 64 + b1 % 64 ≥ 128 then (b0 % 32 * 64 + b1 % 64, 2) else (65533, 1) := by
  unfold Lib.decodeN
  rw [if_neg (by omega)]
  by_cases c1 : 1 < n ∧ b1 / 64 = 2
  · rw [if_pos ⟨by omega, c1⟩]
    by_cases c2 : b0 % 32 * 64 + b1 % 64 ≥ 128
    · rw [if_pos c2, if_pos ⟨c1, c2⟩]
    · rw [if_neg c2, if_neg (fun h => c2 h.2)]
  · rw [if_neg (fun h => c1 h.2), if_neg (by omega), if_neg (by omega), if_neg (fun h => c1 h.1)]
theorem dec3 (n b0 b1 b2 b3 : Nat) (h : 224 ≤ b0) (h' : b0 ≤ 239) : Lib.decodeN n b0 b1 b2 b3 = if ((1 < n ∧ b1 / 64 = 2) ∧ (2 < n ∧ b2 / 64 = 2)) ∧ (b0 % 16 * 4096 + b1 % 64 * 64 + b2 % 64 ≥ 2048 ∧ (b0 % 16 * 4096 + b1 % 64 * 64 + b2 % 64 < 55296 ∨ (57344 ≤ b0 % 16 * 4096 + b1 % 64 * 64 + b2 % 64 ∧ b0 % 16 * 4096 + b1 % 64 * 64 + b2 % 64 ≤ 1114111))) then (b0 % 16 * 4096 + b1 % 64 * 64 + b2 % 64, 3) else (65533, 1) := by
  unfold Lib.decodeN
  rw [if_neg (by omega), if_neg (by omega)]
  by_cases c1 : (1 < n ∧ b1 / 64 = 2) ∧ (2 < n ∧ b2 / 64 = 2)
  · rw [if_pos ⟨by omega, c1⟩]
    by_cases c2 : b0 % 16 * 4096 + b1 % 64 * 64 + b2 % 64 ≥ 2048 ∧ (b0 % 16 * 4096 + b1 % 64 * 64 + b2 % 64 < 55296 ∨ (57344 ≤ b0 % 16 * 4096 + b1 % 64 * 64 + b2 % 64 ∧ b0 % 16 * 4096 + b1 % 64 * 64 + b2 % 64 ≤ 1114111))
    · rw [if_pos c2, if_pos ⟨c1, c2⟩]
    · rw [if_neg c2, if_neg (fun h => c2 h.2)]
  · rw [if_neg (fun h => c1 h.2), if_neg (by omega), if_neg (fun h => c1 h.1)]
theorem dec4 (n b0 b1 b2 b3 : Nat) (h : 240 ≤ b0) (h' : b0 < 256) : Lib.decodeN n b0 b1 b2 b3 = if (b0 ≤ 247 ∧ (1 < n ∧ b1 / 64 = 2) ∧ (2 < n ∧ b2 / 64 = 2) ∧ (3 < n ∧ b3 / 64 = 2)) ∧ (b0 % 8 * 262144 + b1 % 64 * 4096 + b2 % 64 * 64 + b3 % 64 ≥ 65536 ∧ (b0 % 8 * 262144 + b1 % 64 * 4096 + b2 % 64 * 64 + b3 % 64 < 55296 ∨ (57344 ≤ b0 % 8 * 262144 + b1 % 64 * 4096 + b2 % 64 * 64 + b3 % 64 ∧ b0 % 8 * 262144 + b1 % 64 * 4096 + b2 % 64 * 64 + b3 % 64 ≤ 1114111))) then (b0 % 8 * 262144 + b1 % 64 * 4096 + b2 % 64 * 64 + b3 % 64, 4) else (65533, 1) := by
  unfold Lib.decodeN
  rw [if_neg (by omega), if_neg (by omega), if_neg (by omega)]
  by_cases c1 : b0 ≤ 247 ∧ (1 < n ∧ b1 / 64 = 2) ∧ (2 < n ∧ b2 / 64 = 2) ∧ (3 < n ∧ b3 / 64 = 2)
  · rw [if_pos ⟨by omega, c1.2⟩]
    by_cases c2 : b0 % 8 * 262144 + b1 % 64 * 4096 + b2 % 64 * 64 + b3 % 64 ≥ 65536 ∧ (b0 % 8 * 262144 + b1 % 64 * 4096 + b2 % 64 * 64 + b3 % 64 < 55296 ∨ (57344 ≤ b0 % 8 * 262144 + b1 % 64 * 4096 + b2 % 64 * 64 + b3 % 64 ∧ b0 % 8 * 262144 + b1 % 64 * 4096 + b2 % 64 * 64 + b3 % 64 ≤ 1114111))
    · rw [if_pos c2, if_pos ⟨c1, c2⟩]
    · rw [if_neg c2, if_neg (fun h => c2 h.2)]
  · rw [if_neg (fun h => c1 ⟨by omega, h.2⟩), if_neg (fun h => c1 h.1)]
theorem dec0 (n b0 b1 b2 b3 : Nat) (h : 128 ≤ b0) (h' : b0 < 192) : Lib.decodeN n b0 b1 b2 b3 = (65533, 1) := by
  unfold Lib.decodeN
  rw [if_neg (by omega), if_neg (by omega), if_neg (by omega), if_neg (by omega)]
theorem pick_eq {A B : Prop} [Decidable A] [Decidable B] {x k m : Nat} (hAB : A ↔ B) (hx : ¬ k = 1) (h : x = if A then k else 0) : x = if (if B then (m, k) else (65533, 1)).1 = 65533 ∧ (if B then (m, k) else (65533, 1)).2 = 1 then 0 else (if B then (m, k) else (65533, 1)).2 := by
  rw [h]
  by_cases hb : B
  · rw [if_pos (hAB.2 hb), if_pos hb]
    simp only
    rw [if_neg (fun e => hx e.2)]
  · rw [if_neg (fun ha => hb (hAB.1 ha)), if_neg hb]
    simp
theorem szN_eq (n b0 b1 b2 b3 : Nat) (h0 : b0 < 256) (h1 : b1 < 256) (h2 : b2 < 256) (h3 : b3 < 256) : szN n b0 b1 b2 b3 = if (Lib.decodeN n b0 b1 b2 b3).1 = 65533 ∧ (Lib.decodeN n b0 b1 b2 b3).2 = 1 then 0 else (Lib.decodeN n b0 b1 b2 b3).2 := by
  by_cases a1 : b0 < 128
  · unfold szN Lib.decodeN
    rw [if_pos a1, if_pos a1]
    simp only
    rw [if_neg (by omega)]
  · by_cases a2 : b0 < 192
    · rw [dec0 _ _ _ _ _ (by omega) a2]
      unfold szN
      rw [if_neg a1, if_pos (by omega)]
      rfl
    · by_cases a3 : b0 ≤ 223
      · rw [dec2 _ _ _ _ _ (by omega) a3]
        by_cases a4 : b0 < 194
        · unfold szN
          rw [if_neg a1, if_pos a4]
          exact pick_eq (A := False) (k := 2) (by constructor; exact False.elim; intro h; omega) (by omega) (by simp)
        · unfold szN tl2
          rw [if_neg a1, if_neg a4, if_pos a3]
          exact pick_eq (by constructor <;> intro h <;> omega) (by omega) rfl
      · by_cases a4 : b0 ≤ 239
        · rw [dec3 _ _ _ _ _ (by omega) a4]
          unfold szN tl3
          rw [if_neg a1, if_neg (by omega), if_neg a3]
          by_cases e1 : b0 = 224
          · rw [if_pos e1]
            subst e1
            exact pick_eq (by constructor <;> intro h <;> omega) (by omega) rfl
          · by_cases e2 : b0 = 237
            · rw [if_neg e1, if_pos e2]
              subst e2
              exact pick_eq (by constructor <;> intro h <;> omega) (by omega) rfl
            · rw [if_neg e1, if_neg e2, if_pos a4]
              exact pick_eq (by constructor <;> intro h <;> omega) (by omega) rfl
        · rw [dec4 _ _ _ _ _ (by omega) h0]
          unfold szN tl4
          rw [if_neg a1, if_neg (by omega), if_neg a3, if_neg (by omega), if_neg (by omega), if_neg a4]
          by_cases e1 : b0 = 240
          · rw [if_pos e1]
            subst e1
            exact pick_eq (by constructor <;> intro h <;> omega) (by omega) rfl
          · by_cases e2 : b0 = 244
            · rw [if_neg e1, if_pos e2]
              subst e2
              exact pick_eq (by constructor <;> intro h <;> omega) (by omega) rfl
            · rw [if_neg e1, if_neg e2]
              by_cases e3 : b0 ≤ 243
              · rw [if_pos e3]
                exact pick_eq (by constructor <;> intro h <;> omega) (by omega) rfl
              · rw [if_neg e3]
                exact pick_eq (A := False) (k := 4) (by constructor; exact False.elim; intro h; omega) (by omega) (by simp)
end Go.Proofs.YtgdbfedagdlgkaaDoor
