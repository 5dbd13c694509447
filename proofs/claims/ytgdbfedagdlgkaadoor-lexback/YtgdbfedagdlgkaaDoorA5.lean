/- Signs, the program's. -/
import Derived.Test.YtgdbfedagdlgkaaDoorA4
namespace Go.Proofs.YtgdbfedagdlgkaaDoor
open Go.RowKit Go.Shelf
def oneB (b : Nat) : Bool := b == 40 || b == 41 || b == 123 || b == 125 || b == 44 || b == 59 || b == 43 || b == 42 || b == 47 || b == 37 || b == 46
def sg (b c : Nat) : Nat :=
  if b = 124 then (if c = 124 then 2 else 0)
  else if b = 58 ∨ b = 38 then (if c = b then 2 else 1)
  else if b = 45 then (if c = 62 then 2 else 1)
  else if b = 61 then (if c = 62 ∨ c = 61 then 2 else 1)
  else if b = 33 ∨ b = 60 ∨ b = 62 then (if c = 61 then 2 else 1)
  else if oneB b then 1 else 0
def sgz (l : List UInt8) : Nat := if l = [] then 0 else sg (bt l 0) (bt l 1)
theorem sg_none {b c : Nat} (h124 : ¬ b = 124) (h58 : ¬ b = 58) (h38 : ¬ b = 38) (h45 : ¬ b = 45) (h61 : ¬ b = 61) (h33 : ¬ b = 33) (h60 : ¬ b = 60) (h62 : ¬ b = 62) (h40 : ¬ b = 40) (h41 : ¬ b = 41) (h123 : ¬ b = 123) (h125 : ¬ b = 125) (h44 : ¬ b = 44) (h59 : ¬ b = 59) (h43 : ¬ b = 43) (h42 : ¬ b = 42) (h47 : ¬ b = 47) (h37 : ¬ b = 37) (h46 : ¬ b = 46) : sg b c = 0 := by
  unfold sg oneB
  simp [h124, h58, h38, h45, h61, h33, h60, h62, h40, h41, h123, h125, h44, h59, h43, h42, h47, h37, h46]
set_option maxHeartbeats 4000000 in
theorem signSize63_one (s : ByteArray) (b : Nat) (w : World) (hs : s.size = 1) (h0 : s[0].toNat = b) : Calls Tryd.prog 63 #[.string s] w fun e w' => e = .returned (.int .i64 (sg b 0)) ∧ w' = w := by
  by_cases k124 : b = 124
  · subst k124
    rw [show sg 124 0 = if 0 = 124 then 2 else 0 from rfl]
    go_enter Tryd.func63, Tryd.ntmps63
    go_wp2
    all_goals go_ret
    all_goals exact ⟨ret_int (by first | rfl | (simp only [beq_iff_eq, beq_eq_false_iff_ne, ne_eq] at *; omega)), rfl⟩
  by_cases k58 : b = 58
  · subst k58
    rw [show sg 58 0 = if 0 = 58 then 2 else 1 from rfl]
    go_enter Tryd.func63, Tryd.ntmps63
    go_wp2
    all_goals go_ret
    all_goals exact ⟨ret_int (by first | rfl | (simp only [beq_iff_eq, beq_eq_false_iff_ne, ne_eq] at *; omega)), rfl⟩
  by_cases k38 : b = 38
  · subst k38
    rw [show sg 38 0 = if 0 = 38 then 2 else 1 from rfl]
    go_enter Tryd.func63, Tryd.ntmps63
    go_wp2
    all_goals go_ret
    all_goals exact ⟨ret_int (by first | rfl | (simp only [beq_iff_eq, beq_eq_false_iff_ne, ne_eq] at *; omega)), rfl⟩
  by_cases k45 : b = 45
  · subst k45
    rw [show sg 45 0 = if 0 = 62 then 2 else 1 from rfl]
    go_enter Tryd.func63, Tryd.ntmps63
    go_wp2
    all_goals go_ret
    all_goals exact ⟨ret_int (by first | rfl | (simp only [beq_iff_eq, beq_eq_false_iff_ne, ne_eq] at *; omega)), rfl⟩
  by_cases k61 : b = 61
  · subst k61
    rw [show sg 61 0 = if 0 = 62 ∨ 0 = 61 then 2 else 1 from rfl]
    go_enter Tryd.func63, Tryd.ntmps63
    go_wp2
    all_goals go_ret
    all_goals exact ⟨ret_int (by first | rfl | (simp only [beq_iff_eq, beq_eq_false_iff_ne, ne_eq] at *; omega)), rfl⟩
  by_cases k33 : b = 33
  · subst k33
    rw [show sg 33 0 = if 0 = 61 then 2 else 1 from rfl]
    go_enter Tryd.func63, Tryd.ntmps63
    go_wp2
    all_goals go_ret
    all_goals exact ⟨ret_int (by first | rfl | (simp only [beq_iff_eq, beq_eq_false_iff_ne, ne_eq] at *; omega)), rfl⟩
  by_cases k60 : b = 60
  · subst k60
    rw [show sg 60 0 = if 0 = 61 then 2 else 1 from rfl]
    go_enter Tryd.func63, Tryd.ntmps63
    go_wp2
    all_goals go_ret
    all_goals exact ⟨ret_int (by first | rfl | (simp only [beq_iff_eq, beq_eq_false_iff_ne, ne_eq] at *; omega)), rfl⟩
  by_cases k62 : b = 62
  · subst k62
    rw [show sg 62 0 = if 0 = 61 then 2 else 1 from rfl]
    go_enter Tryd.func63, Tryd.ntmps63
    go_wp2
    all_goals go_ret
    all_goals exact ⟨ret_int (by first | rfl | (simp only [beq_iff_eq, beq_eq_false_iff_ne, ne_eq] at *; omega)), rfl⟩
  by_cases k40 : b = 40
  · subst k40
    rw [show sg 40 0 = 1 from rfl]
    go_enter Tryd.func63, Tryd.ntmps63
    go_wp2
    all_goals go_ret
    all_goals exact ⟨rfl, rfl⟩
  by_cases k41 : b = 41
  · subst k41
    rw [show sg 41 0 = 1 from rfl]
    go_enter Tryd.func63, Tryd.ntmps63
    go_wp2
    all_goals go_ret
    all_goals exact ⟨rfl, rfl⟩
  by_cases k123 : b = 123
  · subst k123
    rw [show sg 123 0 = 1 from rfl]
    go_enter Tryd.func63, Tryd.ntmps63
    go_wp2
    all_goals go_ret
    all_goals exact ⟨rfl, rfl⟩
  by_cases k125 : b = 125
  · subst k125
    rw [show sg 125 0 = 1 from rfl]
    go_enter Tryd.func63, Tryd.ntmps63
    go_wp2
    all_goals go_ret
    all_goals exact ⟨rfl, rfl⟩
  by_cases k44 : b = 44
  · subst k44
    rw [show sg 44 0 = 1 from rfl]
    go_enter Tryd.func63, Tryd.ntmps63
    go_wp2
    all_goals go_ret
    all_goals exact ⟨rfl, rfl⟩
  by_cases k59 : b = 59
  · subst k59
    rw [show sg 59 0 = 1 from rfl]
    go_enter Tryd.func63, Tryd.ntmps63
    go_wp2
    all_goals go_ret
    all_goals exact ⟨rfl, rfl⟩
  by_cases k43 : b = 43
  · subst k43
    rw [show sg 43 0 = 1 from rfl]
    go_enter Tryd.func63, Tryd.ntmps63
    go_wp2
    all_goals go_ret
    all_goals exact ⟨rfl, rfl⟩
  by_cases k42 : b = 42
  · subst k42
    rw [show sg 42 0 = 1 from rfl]
    go_enter Tryd.func63, Tryd.ntmps63
    go_wp2
    all_goals go_ret
    all_goals exact ⟨rfl, rfl⟩
  by_cases k47 : b = 47
  · subst k47
    rw [show sg 47 0 = 1 from rfl]
    go_enter Tryd.func63, Tryd.ntmps63
    go_wp2
    all_goals go_ret
    all_goals exact ⟨rfl, rfl⟩
  by_cases k37 : b = 37
  · subst k37
    rw [show sg 37 0 = 1 from rfl]
    go_enter Tryd.func63, Tryd.ntmps63
    go_wp2
    all_goals go_ret
    all_goals exact ⟨rfl, rfl⟩
  by_cases k46 : b = 46
  · subst k46
    rw [show sg 46 0 = 1 from rfl]
    go_enter Tryd.func63, Tryd.ntmps63
    go_wp2
    all_goals go_ret
    all_goals exact ⟨rfl, rfl⟩
  rw [sg_none k124 k58 k38 k45 k61 k33 k60 k62 k40 k41 k123 k125 k44 k59 k43 k42 k47 k37 k46]
  have j124 : ¬ (b : Int) = 124 := by omega
  have j58 : ¬ (b : Int) = 58 := by omega
  have j38 : ¬ (b : Int) = 38 := by omega
  have j45 : ¬ (b : Int) = 45 := by omega
  have j61 : ¬ (b : Int) = 61 := by omega
  have j33 : ¬ (b : Int) = 33 := by omega
  have j60 : ¬ (b : Int) = 60 := by omega
  have j62 : ¬ (b : Int) = 62 := by omega
  have j40 : ¬ (b : Int) = 40 := by omega
  have j41 : ¬ (b : Int) = 41 := by omega
  have j123 : ¬ (b : Int) = 123 := by omega
  have j125 : ¬ (b : Int) = 125 := by omega
  have j44 : ¬ (b : Int) = 44 := by omega
  have j59 : ¬ (b : Int) = 59 := by omega
  have j43 : ¬ (b : Int) = 43 := by omega
  have j42 : ¬ (b : Int) = 42 := by omega
  have j47 : ¬ (b : Int) = 47 := by omega
  have j37 : ¬ (b : Int) = 37 := by omega
  have j46 : ¬ (b : Int) = 46 := by omega
  clear k124 k58 k38 k45 k61 k33 k60 k62 k40 k41 k123 k125 k44 k59 k43 k42 k47 k37 k46
  go_enter Tryd.func63, Tryd.ntmps63
  go_wp2
  go_ret
  exact ⟨rfl, rfl⟩
set_option maxHeartbeats 4000000 in
theorem signSize63_more (s : ByteArray) (b c : Nat) (w : World) (hs : 1 < s.size) (hm : s.size ≤ 9223372036854775807) (h0 : s[0].toNat = b) (h1 : s[1].toNat = c) : Calls Tryd.prog 63 #[.string s] w fun e w' => e = .returned (.int .i64 (sg b c)) ∧ w' = w := by
  by_cases k124 : b = 124
  · subst k124
    rw [show sg 124 c = if c = 124 then 2 else 0 from rfl]
    go_enter Tryd.func63, Tryd.ntmps63
    go_wp2
    all_goals go_ret
    all_goals exact ⟨ret_int (by first | rfl | (simp only [beq_iff_eq, beq_eq_false_iff_ne, ne_eq] at *; omega)), rfl⟩
  by_cases k58 : b = 58
  · subst k58
    rw [show sg 58 c = if c = 58 then 2 else 1 from rfl]
    go_enter Tryd.func63, Tryd.ntmps63
    go_wp2
    all_goals go_ret
    all_goals exact ⟨ret_int (by first | rfl | (simp only [beq_iff_eq, beq_eq_false_iff_ne, ne_eq] at *; omega)), rfl⟩
  by_cases k38 : b = 38
  · subst k38
    rw [show sg 38 c = if c = 38 then 2 else 1 from rfl]
    go_enter Tryd.func63, Tryd.ntmps63
    go_wp2
    all_goals go_ret
    all_goals exact ⟨ret_int (by first | rfl | (simp only [beq_iff_eq, beq_eq_false_iff_ne, ne_eq] at *; omega)), rfl⟩
  by_cases k45 : b = 45
  · subst k45
    rw [show sg 45 c = if c = 62 then 2 else 1 from rfl]
    go_enter Tryd.func63, Tryd.ntmps63
    go_wp2
    all_goals go_ret
    all_goals exact ⟨ret_int (by first | rfl | (simp only [beq_iff_eq, beq_eq_false_iff_ne, ne_eq] at *; omega)), rfl⟩
  by_cases k61 : b = 61
  · subst k61
    rw [show sg 61 c = if c = 62 ∨ c = 61 then 2 else 1 from rfl]
    go_enter Tryd.func63, Tryd.ntmps63
    go_wp2
    all_goals go_ret
    all_goals exact ⟨ret_int (by first | rfl | (simp only [beq_iff_eq, beq_eq_false_iff_ne, ne_eq] at *; omega)), rfl⟩
  by_cases k33 : b = 33
  · subst k33
    rw [show sg 33 c = if c = 61 then 2 else 1 from rfl]
    go_enter Tryd.func63, Tryd.ntmps63
    go_wp2
    all_goals go_ret
    all_goals exact ⟨ret_int (by first | rfl | (simp only [beq_iff_eq, beq_eq_false_iff_ne, ne_eq] at *; omega)), rfl⟩
  by_cases k60 : b = 60
  · subst k60
    rw [show sg 60 c = if c = 61 then 2 else 1 from rfl]
    go_enter Tryd.func63, Tryd.ntmps63
    go_wp2
    all_goals go_ret
    all_goals exact ⟨ret_int (by first | rfl | (simp only [beq_iff_eq, beq_eq_false_iff_ne, ne_eq] at *; omega)), rfl⟩
  by_cases k62 : b = 62
  · subst k62
    rw [show sg 62 c = if c = 61 then 2 else 1 from rfl]
    go_enter Tryd.func63, Tryd.ntmps63
    go_wp2
    all_goals go_ret
    all_goals exact ⟨ret_int (by first | rfl | (simp only [beq_iff_eq, beq_eq_false_iff_ne, ne_eq] at *; omega)), rfl⟩
  by_cases k40 : b = 40
  · subst k40
    rw [show sg 40 c = 1 from rfl]
    go_enter Tryd.func63, Tryd.ntmps63
    go_wp2
    all_goals go_ret
    all_goals exact ⟨rfl, rfl⟩
  by_cases k41 : b = 41
  · subst k41
    rw [show sg 41 c = 1 from rfl]
    go_enter Tryd.func63, Tryd.ntmps63
    go_wp2
    all_goals go_ret
    all_goals exact ⟨rfl, rfl⟩
  by_cases k123 : b = 123
  · subst k123
    rw [show sg 123 c = 1 from rfl]
    go_enter Tryd.func63, Tryd.ntmps63
    go_wp2
    all_goals go_ret
    all_goals exact ⟨rfl, rfl⟩
  by_cases k125 : b = 125
  · subst k125
    rw [show sg 125 c = 1 from rfl]
    go_enter Tryd.func63, Tryd.ntmps63
    go_wp2
    all_goals go_ret
    all_goals exact ⟨rfl, rfl⟩
  by_cases k44 : b = 44
  · subst k44
    rw [show sg 44 c = 1 from rfl]
    go_enter Tryd.func63, Tryd.ntmps63
    go_wp2
    all_goals go_ret
    all_goals exact ⟨rfl, rfl⟩
  by_cases k59 : b = 59
  · subst k59
    rw [show sg 59 c = 1 from rfl]
    go_enter Tryd.func63, Tryd.ntmps63
    go_wp2
    all_goals go_ret
    all_goals exact ⟨rfl, rfl⟩
  by_cases k43 : b = 43
  · subst k43
    rw [show sg 43 c = 1 from rfl]
    go_enter Tryd.func63, Tryd.ntmps63
    go_wp2
    all_goals go_ret
    all_goals exact ⟨rfl, rfl⟩
  by_cases k42 : b = 42
  · subst k42
    rw [show sg 42 c = 1 from rfl]
    go_enter Tryd.func63, Tryd.ntmps63
    go_wp2
    all_goals go_ret
    all_goals exact ⟨rfl, rfl⟩
  by_cases k47 : b = 47
  · subst k47
    rw [show sg 47 c = 1 from rfl]
    go_enter Tryd.func63, Tryd.ntmps63
    go_wp2
    all_goals go_ret
    all_goals exact ⟨rfl, rfl⟩
  by_cases k37 : b = 37
  · subst k37
    rw [show sg 37 c = 1 from rfl]
    go_enter Tryd.func63, Tryd.ntmps63
    go_wp2
    all_goals go_ret
    all_goals exact ⟨rfl, rfl⟩
  by_cases k46 : b = 46
  · subst k46
    rw [show sg 46 c = 1 from rfl]
    go_enter Tryd.func63, Tryd.ntmps63
    go_wp2
    all_goals go_ret
    all_goals exact ⟨rfl, rfl⟩
  rw [sg_none k124 k58 k38 k45 k61 k33 k60 k62 k40 k41 k123 k125 k44 k59 k43 k42 k47 k37 k46]
  have j124 : ¬ (b : Int) = 124 := by omega
  have j58 : ¬ (b : Int) = 58 := by omega
  have j38 : ¬ (b : Int) = 38 := by omega
  have j45 : ¬ (b : Int) = 45 := by omega
  have j61 : ¬ (b : Int) = 61 := by omega
  have j33 : ¬ (b : Int) = 33 := by omega
  have j60 : ¬ (b : Int) = 60 := by omega
  have j62 : ¬ (b : Int) = 62 := by omega
  have j40 : ¬ (b : Int) = 40 := by omega
  have j41 : ¬ (b : Int) = 41 := by omega
  have j123 : ¬ (b : Int) = 123 := by omega
  have j125 : ¬ (b : Int) = 125 := by omega
  have j44 : ¬ (b : Int) = 44 := by omega
  have j59 : ¬ (b : Int) = 59 := by omega
  have j43 : ¬ (b : Int) = 43 := by omega
  have j42 : ¬ (b : Int) = 42 := by omega
  have j47 : ¬ (b : Int) = 47 := by omega
  have j37 : ¬ (b : Int) = 37 := by omega
  have j46 : ¬ (b : Int) = 46 := by omega
  clear k124 k58 k38 k45 k61 k33 k60 k62 k40 k41 k123 k125 k44 k59 k43 k42 k47 k37 k46
  go_enter Tryd.func63, Tryd.ntmps63
  go_wp2
  go_ret
  exact ⟨rfl, rfl⟩
theorem signSize63 (s : ByteArray) (w : World) (hs : s.size ≤ maxLen) : Calls Tryd.prog 63 #[.string s] w fun e w' => e = .returned (.int .i64 (sgz s.data.toList)) ∧ w' = w := by
  unfold maxLen at hs
  have hL := len_of s
  unfold sgz
  rcases Nat.eq_zero_or_pos s.size with h | h
  · have e : s.data.toList = [] := List.eq_nil_of_length_eq_zero (by omega)
    rw [if_pos e]
    go_enter Tryd.func63, Tryd.ntmps63
    go_wp2
    go_ret
    exact ⟨rfl, rfl⟩
  · rw [if_neg (fun e => by rw [e] at hL; simp at hL; omega)]
    by_cases h1 : 1 < s.size
    · exact signSize63_more s _ _ w h1 (by omega) (at_bt s 0 h) (at_bt s 1 h1)
    · have e : bt s.data.toList 1 = 0 := by
        unfold bt List.getD
        rw [List.getElem?_eq_none (by omega)]
        rfl
      rw [e]
      exact signSize63_one s _ w (by omega) (at_bt s 0 h)
end Go.Proofs.YtgdbfedagdlgkaaDoor
