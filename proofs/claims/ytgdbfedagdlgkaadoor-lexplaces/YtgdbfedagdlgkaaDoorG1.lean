/- Lines and columns: the law of places. -/
import Derived.Test.YtgdbfedagdlgkaaDoorD1
namespace Go.Proofs.YtgdbfedagdlgkaaDoor
open Go.RowKit Go.Shelf
def col (l : List UInt8) : Nat → Int
  | 0 => 1
  | i + 1 => if bt l i = 10 then 1 else col l i + 1
def lin (l : List UInt8) : Nat → Nat
  | 0 => 0
  | i + 1 => if bt l i = 10 then lin l i + 1 else lin l i
theorem col_range (l : List UInt8) (i : Nat) : 1 ≤ col l i ∧ col l i ≤ i + 1 := by
  induction i with
  | zero => simp [col]
  | succ i ih =>
    unfold col
    split <;> omega
theorem lin_le (l : List UInt8) (i : Nat) : lin l i ≤ i := by
  induction i with
  | zero => simp [lin]
  | succ i ih =>
    unfold lin
    split <;> omega
theorem lin_count (l : List UInt8) (i : Nat) (hi : i ≤ l.length) : Lib.countByte (l.take i) 10 = lin l i := by
  unfold Lib.countByte
  induction i with
  | zero => simp [lin]
  | succ i ih =>
    rw [List.take_succ_eq_append_getElem (by omega), List.count_append, ih (by omega), show lin l (i + 1) = if bt l i = 10 then lin l i + 1 else lin l i from rfl]
    have e : bt l i = (l[i]'(by omega)).toNat := by
      unfold bt List.getD
      rw [List.getElem?_eq_getElem (by omega)]
      rfl
    rw [e]
    by_cases h : l[i]'(by omega) = 10
    · simp [h]
    · have h' : ¬ (l[i]'(by omega)).toNat = 10 := fun hh => h (UInt8.toNat_inj.1 hh)
      rw [if_neg h']
      simp [h]
theorem data_bt (s : ByteArray) (k : Nat) (h : k < s.size) : (s.data[k]!).toNat = bt s.data.toList k := by
  rw [← at_bt s k h]
  have h' : k < s.data.size := h
  rw [getElem!_pos s.data k h']
  rfl
theorem col_last (s : ByteArray) (a k : Nat) (ha : a ≤ s.size) (hk : k ≤ a) : (k : Int) - Lib.lastIdx (s.extract 0 a) 10 k = col s.data.toList k := by
  have hz : (s.extract 0 a).size = a := by simp; omega
  induction k with
  | zero => simp [Lib.lastIdx, col]
  | succ k ih =>
    have e := data_bt (s.extract 0 a) k (by omega)
    rw [toList_upto, bt_take _ (by omega)] at e
    have t := ih (by omega)
    unfold col
    by_cases h : bt s.data.toList k = 10
    · rw [if_pos h, Lib.lastIdx_hit _ _ _ (by rw [e]; omega)]
      omega
    · rw [if_neg h, Lib.lastIdx_miss _ _ _ (by rw [e]; omega)]
      omega
theorem ret_int3 {a b c a' b' c' : Int} (h1 : a = a') (h2 : b = b') (h3 : c = c') : Ending.returned (.tuple #[.int .i64 a, .int .i64 b, .int .i64 c]) = .returned (.tuple #[.int .i64 a', .int .i64 b', .int .i64 c']) := by rw [h1, h2, h3]
def plA (n : Nat) (l : List UInt8) (a : Int) : Int := if 65536 < n then 0 else if a < 0 ∨ n < a then 0 else 1 + lin l a.toNat
def plB (n : Nat) (l : List UInt8) (a : Int) : Int := if 65536 < n then 0 else if a < 0 ∨ n < a then 0 else col l a.toNat
def plE (n : Nat) (a : Int) : Int := if 65536 < n then 2 else if a < 0 ∨ n < a then 1 else 0
set_option maxHeartbeats 2000000 in
theorem place19 (s : ByteArray) (a : Int) (w : World) (hs : s.size ≤ 140737488355328) : Calls Tryd.prog 19 #[.string s, .int .i64 a] w fun e w' => e = .returned (.tuple #[.int .i64 (plA s.size s.data.toList a), .int .i64 (plB s.size s.data.toList a), .int .i64 (plE s.size a)]) ∧ w' = w := by
  unfold plA plB plE
  by_cases h1 : 65536 < s.size
  · rw [if_pos h1, if_pos h1, if_pos h1]
    go_enter Tryd.func19, Tryd.ntmps19
    go_wp2
    go_ret3
    exact ⟨rfl, rfl⟩
  · rw [if_neg h1, if_neg h1, if_neg h1]
    by_cases h2 : a < 0
    · rw [if_pos (.inl h2), if_pos (.inl h2), if_pos (.inl h2)]
      go_enter Tryd.func19, Tryd.ntmps19
      go_wp2
      go_ret3
      exact ⟨rfl, rfl⟩
    · by_cases h3 : (s.size : Int) < a
      · rw [if_pos (.inr h3), if_pos (.inr h3), if_pos (.inr h3)]
        go_enter Tryd.func19, Tryd.ntmps19
        go_wp2
        go_ret3
        exact ⟨rfl, rfl⟩
      · rw [if_neg (by omega), if_neg (by omega), if_neg (by omega)]
        obtain ⟨n, rfl⟩ : ∃ n : Nat, a = n := ⟨a.toNat, by omega⟩
        rw [Int.toNat_natCast]
        have hL := len_of s
        have hc := lin_count s.data.toList n (by omega)
        have hl := col_last s n n (by omega) (Nat.le_refl _)
        have hr := col_range s.data.toList n
        have hn := lin_le s.data.toList n
        have hz : (s.extract 0 n).size = n := by simp; omega
        have HC : Hid (∀ W, Calls Tryd.prog 42 #[.string (s.extract 0 n), .string ⟨#[10]⟩] W fun e w' => e = .returned (.int .i64 (lin s.data.toList n)) ∧ w' = W) := fun W => by
          have t := Tryd.strings_Count_one (s.extract 0 n) 10 W
          rw [toList_upto, hc] at t
          exact t
        have HD : Hid (∀ W, Calls Tryd.prog 43 #[.string (s.extract 0 n), .string ⟨#[10]⟩] W fun e w' => e = .returned (.int .i64 ((n : Int) - col s.data.toList n)) ∧ w' = W) := fun W => by
          have t := Tryd.strings_LastIndex_one (s.extract 0 n) ⟨#[10]⟩ rfl (by omega) W
          have e : Lib.lastIndexByte (s.extract 0 n) (((⟨#[10]⟩ : ByteArray)[0]'(by decide)).toNat : Int) = (n : Int) - col s.data.toList n := by
            unfold Lib.lastIndexByte
            rw [hz, ← hl]
            show Lib.lastIdx (s.extract 0 n) 10 n = _
            omega
          rw [e] at t
          exact t
        clear hc hl hL hz
        generalize col s.data.toList n = c at *
        generalize lin s.data.toList n = m at *
        go_enter Tryd.func19, Tryd.ntmps19
        go_wp2_with (first | (go_at_call 42; refine (HC.out _).mono ?_; rintro e w' ⟨rfl, rfl⟩) | (go_at_call 43; refine (HD.out _).mono ?_; rintro e w' ⟨rfl, rfl⟩))
        go_ret3
        exact ⟨ret_int3 rfl (by omega) rfl, rfl⟩
set_option maxHeartbeats 2000000 in
theorem place20 (s : ByteArray) (a : Int) (w : World) (hs : s.size ≤ 140737488355328) : Calls Tryd.prog 20 #[.string s, .int .i64 a] w fun e w' => e = .returned (.tuple #[.int .i64 (plA s.size s.data.toList a), .int .i64 (plB s.size s.data.toList a), .int .i64 (plE s.size a)]) ∧ w' = w := by
  unfold plA plB plE
  by_cases h1 : 65536 < s.size
  · rw [if_pos h1, if_pos h1, if_pos h1]
    go_enter Tryd.func20, Tryd.ntmps20
    go_wp2
    go_ret3
    exact ⟨rfl, rfl⟩
  · rw [if_neg h1, if_neg h1, if_neg h1]
    by_cases h2 : a < 0
    · rw [if_pos (.inl h2), if_pos (.inl h2), if_pos (.inl h2)]
      go_enter Tryd.func20, Tryd.ntmps20
      go_wp2
      go_ret3
      exact ⟨rfl, rfl⟩
    · by_cases h3 : (s.size : Int) < a
      · rw [if_pos (.inr h3), if_pos (.inr h3), if_pos (.inr h3)]
        go_enter Tryd.func20, Tryd.ntmps20
        go_wp2
        go_ret3
        exact ⟨rfl, rfl⟩
      · rw [if_neg (by omega), if_neg (by omega), if_neg (by omega)]
        obtain ⟨n, rfl⟩ : ∃ n : Nat, a = n := ⟨a.toNat, by omega⟩
        rw [Int.toNat_natCast]
        have hat := at_bt s
        generalize s.data.toList = l at *
        have HA : Hid (∀ k (h : k < s.size), s[k].toNat = bt l k) := hat
        clear hat
        go_enter Tryd.func20, Tryd.ntmps20
        go_wp2
        go_loop [7, 8, 9] (fun x y i => ∃ k : Nat, k ≤ n ∧ i = .int .i64 k ∧ x = .int .i64 (1 + (lin l k : Int)) ∧ y = .int .i64 (col l k)) (fun _ _ i => n - (intOf i).toNat)
        case atStart => exact ⟨0, Nat.zero_le _, rfl, rfl, rfl⟩
        case round =>
          obtain ⟨k, hk, rfl, rfl, rfl⟩ := hrel
          have hr := col_range l k
          have hn := lin_le l k
          by_cases hlt : k < n
          · have hb := HA.out k (by omega)
            have HC : Hid (col l (k + 1) = if bt l k = 10 then 1 else col l k + 1) := rfl
            have HN : Hid (lin l (k + 1) = if bt l k = 10 then lin l k + 1 else lin l k) := rfl
            by_cases h10 : bt l k = 10
            · have hb2 : s[k].toNat = 10 := by rw [hb, h10]
              clear hb
              go_wp2
              go_round
              case rel => exact ⟨k + 1, by omega, by go_num, by rw [HN.out, if_pos h10]; go_num, by rw [HC.out, if_pos h10]⟩
              case measure => simp [intOf]; omega
            · have h10' : ¬ (bt l k : Int) = 10 := by omega
              go_wp2
              go_round
              case rel => exact ⟨k + 1, by omega, by go_num, by rw [HN.out, if_neg h10], by rw [HC.out, if_neg h10]⟩
              case measure => simp [intOf]; omega
          · obtain rfl : k = n := by omega
            go_wp2
            go_ret3
            exact ⟨rfl, rfl⟩
set_option maxHeartbeats 2000000 in
theorem law6 (s : ByteArray) (a : Int) (w : World) (hT : Tb w) (hs : s.size ≤ 140737488355328) : Calls Tryd.prog 6 #[.string s, .int .i64 a] w fun e w' => e = .returned (.bool true) ∧ Below w.heap.size w w' := by
  have H19 : Hid (∀ W, Calls Tryd.prog 19 #[.string s, .int .i64 a] W _) := fun W => place19 s a W hs
  have H20 : Hid (∀ W, Calls Tryd.prog 20 #[.string s, .int .i64 a] W _) := fun W => place20 s a W hs
  have H12 : Hid (Calls Tryd.prog 12 #[] w fun e w' => e = .returned (.bool true) ∧ Below w.heap.size w w') := small12 w hT
  generalize plA s.size s.data.toList a = x at *
  generalize plB s.size s.data.toList a = y at *
  generalize plE s.size a = z at *
  clear hT
  go_enter Tryd.func6, Tryd.ntmps6
  go_wp2_with (first | (go_at_call 19; refine (H19.out _).mono ?_; rintro e w' ⟨rfl, rfl⟩) | (go_at_call 20; refine (H20.out _).mono ?_; rintro e w' ⟨rfl, rfl⟩) | fail)
  refine H12.out.mono ?_
  rintro e w1 ⟨rfl, hb⟩
  have HB : Hid (Below _ _ w1) := hb
  clear hb
  go_wp2
  go_ret
  exact ⟨rfl, HB.out⟩
end Go.Proofs.YtgdbfedagdlgkaaDoor
