/- Letters and digits, the program's and the document's. How many of a name's letters and digits a text begins with. Keywords, the program's and the document's; names by the document. Names by the document; a word's token by the program. Signs, the program's. -/
import Derived.Test.YtkkmeogehapjoaaGreatDoorProg
import Derived.WalkKit
import Derived.WalkSpells
import Derived.WalkLawsBesides
import Derived.LoopTactic
import Derived.Deep.QuietTactic
import Derived.WalkSmall
import Derived.Shelf.Abstract
import Derived.Shelf.RegionOpen
import Derived.Deep.RegionWith
import Derived.RegionTactic
import Derived.Laws.OwnMore
import Derived.Lib.SliceRun
import Derived.BigQuiet
namespace Go.Proofs.YtkkmeogehapjoaaGreatDoor
section
open Go.RowKit Go.Shelf
def dgB (c : Nat) : Bool := decide (48 ≤ c) && decide (c ≤ 57)
def ltB (c : Nat) : Bool := (decide (97 ≤ c) && decide (c ≤ 122)) || ((decide (65 ≤ c) && decide (c ≤ 90)) || decide (c = 95))
def nmB (c : Nat) : Bool := dgB c || ltB c
theorem dgB_iff (c : Nat) : dgB c = true ↔ 48 ≤ c ∧ c ≤ 57 := by simp [dgB]
theorem ltB_iff (c : Nat) : ltB c = true ↔ (97 ≤ c ∧ c ≤ 122) ∨ (65 ≤ c ∧ c ≤ 90) ∨ c = 95 := by simp [ltB]
theorem nmB_iff (c : Nat) : nmB c = true ↔ (48 ≤ c ∧ c ≤ 57) ∨ (97 ≤ c ∧ c ≤ 122) ∨ (65 ≤ c ∧ c ≤ 90) ∨ c = 95 := by simp [nmB, dgB_iff, ltB_iff]
theorem ret_bool {a b : Bool} (h : a = b) : Ending.returned (.bool a) = .returned (.bool b) := by rw [h]
theorem ret_int {k : IntKind} {a b : Int} (h : a = b) : Ending.returned (.int k a) = .returned (.int k b) := by rw [h]
theorem dg_eq {c : Nat} {b : Bool} (h : b = true ↔ 48 ≤ c ∧ c ≤ 57) : b = dgB c := by rw [Bool.eq_iff_iff, h, dgB_iff]
theorem lt_eq {c : Nat} {b : Bool} (h : b = true ↔ (97 ≤ c ∧ c ≤ 122) ∨ (65 ≤ c ∧ c ≤ 90) ∨ c = 95) : b = ltB c := by rw [Bool.eq_iff_iff, h, ltB_iff]
set_option maxHeartbeats 1000000 in
theorem isDigit60 (c : Nat) (w : World) : Calls Tryz.prog 131 #[.int .u8 (c : Int)] w fun e w' => e = .returned (.bool (dgB c)) ∧ w' = w := by
  go_enter Tryz.func131, Tryz.ntmps131
  go_wp2
  all_goals go_ret
  all_goals exact ⟨ret_bool (dg_eq (by simp; omega)), rfl⟩
set_option maxHeartbeats 1000000 in
theorem digit28 (c : Nat) (w : World) : Calls Tryz.prog 124 #[.int .u8 (c : Int)] w fun e w' => e = .returned (.bool (dgB c)) ∧ w' = w := by
  go_enter Tryz.func124, Tryz.ntmps124
  go_wp2
  all_goals go_ret
  all_goals exact ⟨ret_bool (dg_eq (by simp; omega)), rfl⟩
set_option maxHeartbeats 1000000 in
theorem isLetter71 (c : Nat) (w : World) : Calls Tryz.prog 142 #[.int .u8 (c : Int)] w fun e w' => e = .returned (.bool (ltB c)) ∧ w' = w := by
  go_enter Tryz.func142, Tryz.ntmps142
  go_wp2
  all_goals go_ret
  all_goals exact ⟨ret_bool (lt_eq (by simp; omega)), rfl⟩
set_option maxHeartbeats 1000000 in
theorem letter30 (c : Nat) (w : World) : Calls Tryz.prog 123 #[.int .u8 (c : Int)] w fun e w' => e = .returned (.bool (ltB c)) ∧ w' = w := by
  go_enter Tryz.func123, Tryz.ntmps123
  go_wp2
  all_goals go_ret
  all_goals exact ⟨ret_bool (lt_eq (by simp; omega)), rfl⟩
end
section
open Go.RowKit Go.Shelf
def bt (l : List UInt8) (j : Nat) : Nat := (l.getD j 0).toNat
theorem bt_lt (l : List UInt8) (j : Nat) : bt l j < 256 := UInt8.toNat_lt _
theorem bt_drop (l : List UInt8) (a j : Nat) : bt (l.drop a) j = bt l (a + j) := by simp [bt, List.getD, List.getElem?_drop]
theorem bt_take (l : List UInt8) {n j : Nat} (h : j < n) : bt (l.take n) j = bt l j := by simp [bt, List.getD, h]
theorem at_bt (s : ByteArray) (k : Nat) (h : k < s.size) : s[k].toNat = bt s.data.toList k := by
  have h' : k < s.data.toList.length := by simpa using h
  unfold bt List.getD
  rw [List.getElem?_eq_getElem h']
  rfl
theorem len_of (s : ByteArray) : s.data.toList.length = s.size := by simp
theorem toList_from (s : ByteArray) (a : Nat) : (s.extract a s.size).data.toList = s.data.toList.drop a := by
  simp [ByteArray.data_extract, Array.toList_extract, List.extract_eq_take_drop]
  rw [List.take_of_length_le]
  simp
theorem toList_upto (s : ByteArray) (k : Nat) : (s.extract 0 k).data.toList = s.data.toList.take k := by
  simp [ByteArray.data_extract, Array.toList_extract, List.extract_eq_take_drop]
theorem toList_cut (s : ByteArray) (a b : Nat) : (s.extract a b).data.toList = (s.data.toList.drop a).take (b - a) := by
  simp [ByteArray.data_extract, Array.toList_extract, List.extract_eq_take_drop]
theorem bytes_ext {s t : ByteArray} (h : s.data.toList = t.data.toList) : s = t := by
  obtain ⟨⟨a⟩⟩ := s
  obtain ⟨⟨b⟩⟩ := t
  simp at h
  subst h
  rfl
def nsz (l : List UInt8) : Nat := (l.takeWhile fun c => nmB c.toNat).length
theorem nsz_eq {l : List UInt8} {k : Nat} (hk : k ≤ l.length) (h1 : ∀ j, j < k → nmB (bt l j) = true) (h2 : k < l.length → nmB (bt l k) = false) : nsz l = k := by
  induction l generalizing k with
  | nil => simp at hk; subst hk; rfl
  | cons c r ih =>
    unfold nsz
    cases k with
    | zero =>
      have := h2 (by simp)
      simp [bt] at this
      simp [this]
    | succ k =>
      have t0 := h1 0 (by omega)
      simp [bt] at t0
      simp only [List.takeWhile_cons, t0, if_true, List.length_cons]
      congr 1
      exact ih (by simpa using hk) (fun j hj => by have := h1 (j + 1) (by omega); simpa [bt] using this) (fun h => by have := h2 (by simpa using h); simpa [bt] using this)
theorem nsz_le (l : List UInt8) : nsz l ≤ l.length := by
  induction l with
  | nil => simp [nsz]
  | cons c r ih =>
    unfold nsz at *
    simp only [List.takeWhile_cons]
    split <;> simp <;> omega
theorem nsz_nm (l : List UInt8) {j : Nat} (h : j < nsz l) : nmB (bt l j) = true := by
  induction l generalizing j with
  | nil => simp [nsz] at h
  | cons c r ih =>
    unfold nsz at h
    simp only [List.takeWhile_cons] at h
    split at h
    · rename_i hc
      cases j with
      | zero => simpa [bt] using hc
      | succ j => simp at h; exact ih h
    · simp at h
theorem nsz_end (l : List UInt8) (h : nsz l < l.length) : nmB (bt l (nsz l)) = false := by
  induction l with
  | nil => simp [nsz] at h
  | cons c r ih =>
    cases hc : nmB c.toNat
    · have e : nsz (c :: r) = 0 := by simp [nsz, hc]
      rw [e]
      simpa [bt] using hc
    · have e : nsz (c :: r) = nsz r + 1 := by simp [nsz, hc]
      rw [e] at h ⊢
      have := ih (by simpa using h)
      simpa [bt] using this
theorem nm_split {c : Nat} : nmB c = (dgB c || ltB c) := rfl
set_option maxHeartbeats 1000000 in
theorem nameSize59 (s : ByteArray) (w : World) (hs : s.size ≤ maxLen) : Calls Tryz.prog 130 #[.string s] w fun e w' => e = .returned (.int .i64 (nsz s.data.toList)) ∧ w' = w := by
  unfold maxLen at hs
  have hL := len_of s
  generalize hl : s.data.toList = l at *
  have HL : Hid (s.data.toList = l) := hl
  have HL2 : Hid (l.length = s.size) := hL
  clear hl hL
  go_enter Tryz.func130, Tryz.ntmps130
  go_wp2
  go_loop [6] (fun i => ∃ k : Nat, k ≤ s.size ∧ i = .int .i64 k ∧ ∀ j, j < k → nmB (bt l j) = true) (fun i => s.size - (intOf i).toNat)
  case atStart => exact ⟨0, Nat.zero_le _, rfl, fun j hj => absurd hj (by omega)⟩
  case round =>
    obtain ⟨k, hk, rfl, hpre⟩ := hrel
    have HP : Hid (∀ j, j < k → nmB (bt l j) = true) := hpre
    clear hpre
    by_cases hlt : k < s.size
    · have hb : s[k].toNat = bt l k := by rw [at_bt s k hlt, HL.out]
      cases hd : dgB (bt l k)
      · cases ht : ltB (bt l k)
        · go_wp2_with (first | (go_at_call 131; refine (isDigit60 _ _).mono ?_; rintro e w' ⟨rfl, rfl⟩) | (go_at_call 142; refine (isLetter71 _ _).mono ?_; rintro e w' ⟨rfl, rfl⟩))
          go_ret
          exact ⟨ret_int (by rw [nsz_eq (by have := HL2.out; omega) HP.out (fun _ => by rw [nm_split, hd, ht]; rfl)]), rfl⟩
        · go_wp2_with (first | (go_at_call 131; refine (isDigit60 _ _).mono ?_; rintro e w' ⟨rfl, rfl⟩) | (go_at_call 142; refine (isLetter71 _ _).mono ?_; rintro e w' ⟨rfl, rfl⟩))
          go_round
          case rel => exact ⟨k + 1, by omega, by go_num, fun j hj => by
            rcases Nat.lt_or_ge j k with h | h
            · exact HP.out j h
            · obtain rfl : j = k := by omega
              rw [nm_split, hd, ht]; rfl⟩
          case measure => simp [intOf]; omega
      · go_wp2_with (first | (go_at_call 131; refine (isDigit60 _ _).mono ?_; rintro e w' ⟨rfl, rfl⟩) | (go_at_call 142; refine (isLetter71 _ _).mono ?_; rintro e w' ⟨rfl, rfl⟩))
        go_round
        case rel => exact ⟨k + 1, by omega, by go_num, fun j hj => by
            rcases Nat.lt_or_ge j k with h | h
            · exact HP.out j h
            · obtain rfl : j = k := by omega
              rw [nm_split, hd]; rfl⟩
        case measure => simp [intOf]; omega
    · go_wp2
      go_ret
      exact ⟨ret_int (by rw [nsz_eq (by have := HL2.out; omega) HP.out (fun h => by have := HL2.out; omega)]; omega), rfl⟩
end
section
open Go.RowKit Go.Shelf
def wdB (l : List UInt8) : Bool := (l == [102, 110]) || (l == [115, 116, 114, 117, 99, 116]) || (l == [101, 110, 117, 109]) || (l == [108, 101, 116]) || (l == [109, 117, 116]) || (l == [119, 104, 105, 108, 101]) || (l == [105, 102]) || (l == [101, 108, 115, 101]) || (l == [109, 97, 116, 99, 104]) || (l == [114, 101, 116, 117, 114, 110]) || (l == [98, 114, 101, 97, 107]) || (l == [99, 111, 110, 116, 105, 110, 117, 101]) || (l == [116, 114, 117, 101]) || (l == [102, 97, 108, 115, 101]) || (l == [105, 54, 52]) || (l == [98, 111, 111, 108]) || (l == [66, 111, 120])
def wdAt (k : Nat) : List UInt8 := [[102, 110], [115, 116, 114, 117, 99, 116], [101, 110, 117, 109], [108, 101, 116], [109, 117, 116], [119, 104, 105, 108, 101], [105, 102], [101, 108, 115, 101], [109, 97, 116, 99, 104], [114, 101, 116, 117, 114, 110], [98, 114, 101, 97, 107], [99, 111, 110, 116, 105, 110, 117, 101], [116, 114, 117, 101], [102, 97, 108, 115, 101], [105, 54, 52], [98, 111, 111, 108], [66, 111, 120]].getD k []
theorem wdB_none {l : List UInt8} (h : ∀ j, j < 17 → (l == wdAt j) = false) : wdB l = false := by
  have h0 := h 0 (by omega)
  have h1 := h 1 (by omega)
  have h2 := h 2 (by omega)
  have h3 := h 3 (by omega)
  have h4 := h 4 (by omega)
  have h5 := h 5 (by omega)
  have h6 := h 6 (by omega)
  have h7 := h 7 (by omega)
  have h8 := h 8 (by omega)
  have h9 := h 9 (by omega)
  have h10 := h 10 (by omega)
  have h11 := h 11 (by omega)
  have h12 := h 12 (by omega)
  have h13 := h 13 (by omega)
  have h14 := h 14 (by omega)
  have h15 := h 15 (by omega)
  have h16 := h 16 (by omega)
  simp only [wdAt, List.getD_cons_zero, List.getD_cons_succ] at h0 h1 h2 h3 h4 h5 h6 h7 h8 h9 h10 h11 h12 h13 h14 h15 h16
  simp only [wdB, h0, h1, h2, h3, h4, h5, h6, h7, h8, h9, h10, h11, h12, h13, h14, h15, h16, Bool.or_false]
theorem wdB_some {l : List UInt8} {k : Nat} (hk : k < 17) (h : (l == wdAt k) = true) : wdB l = true := by
  rcases (by omega : k = 0 ∨ k = 1 ∨ k = 2 ∨ k = 3 ∨ k = 4 ∨ k = 5 ∨ k = 6 ∨ k = 7 ∨ k = 8 ∨ k = 9 ∨ k = 10 ∨ k = 11 ∨ k = 12 ∨ k = 13 ∨ k = 14 ∨ k = 15 ∨ k = 16) with rfl | rfl | rfl | rfl | rfl | rfl | rfl | rfl | rfl | rfl | rfl | rfl | rfl | rfl | rfl | rfl | rfl
  all_goals
    simp only [wdAt, List.getD_cons_zero, List.getD_cons_succ] at h
    simp only [wdB, h, Bool.or_true, Bool.true_or]
set_option maxHeartbeats 2000000 in
theorem word13 (s : ByteArray) (w : World) : Calls Tryz.prog 144 #[.string s] w fun e w' => e = .returned (.bool (wdB s.data.toList)) ∧ w' = w := by
  have hl := ByteArray.toList_eq s
  generalize s.data.toList = l at *
  go_enter Tryz.func144, Tryz.ntmps144
  go_wp2
  all_goals go_ret
  all_goals exact ⟨ret_bool (by simp_all [wdB]), rfl⟩
theorem below_cells (w : World) (C : Array Value) (t : TypeId) : Below w.heap.size w (w.alloc (.cells C t)) := (Below.refl _ w).alloc (Nat.le_refl _) _
set_option maxHeartbeats 4000000 in
theorem word14 (s : ByteArray) (w : World) : Calls Tryz.prog 114 #[.string s] w fun e w' => e = .returned (.bool (wdB s.data.toList)) ∧ Below w.heap.size w w' := by
  have hl := ByteArray.toList_eq s
  generalize s.data.toList = l at *
  go_enter Tryz.func114, Tryz.ntmps114
  go_wp2
  go_loop [7] (fun i => ∃ k : Nat, k ≤ 17 ∧ i = .int .i64 k ∧ ∀ j, j < k → (l == wdAt j) = false) (fun i => 17 - (intOf i).toNat)
  case atStart => exact ⟨0, Nat.zero_le _, rfl, fun j hj => absurd hj (by omega)⟩
  case round =>
    obtain ⟨k, hk, rfl, hpre⟩ := hrel
    have HP : Hid (∀ j, j < k → (l == wdAt j) = false) := hpre
    clear hpre
    by_cases h17 : k = 17
    · subst h17
      go_wp2
      go_ret
      exact ⟨ret_bool (wdB_none HP.out).symm, below_cells _ _ _⟩
    · cases hc : (l == wdAt k)
      · have HC : Hid ((l == wdAt k) = false) := hc
        have HN : Hid (∀ j, j < k + 1 → (l == wdAt j) = false) := fun j hj => by
          rcases Nat.lt_or_ge j k with h | h
          · exact HP.out j h
          · obtain rfl : j = k := by omega
            exact HC.out
        clear HC
        rcases (by omega : k = 0 ∨ k = 1 ∨ k = 2 ∨ k = 3 ∨ k = 4 ∨ k = 5 ∨ k = 6 ∨ k = 7 ∨ k = 8 ∨ k = 9 ∨ k = 10 ∨ k = 11 ∨ k = 12 ∨ k = 13 ∨ k = 14 ∨ k = 15 ∨ k = 16) with rfl | rfl | rfl | rfl | rfl | rfl | rfl | rfl | rfl | rfl | rfl | rfl | rfl | rfl | rfl | rfl | rfl
        all_goals
          simp only [wdAt, List.getD_cons_zero, List.getD_cons_succ] at hc
          go_wp2
          go_round
          case rel => exact ⟨_, by omega, by go_num, HN.out⟩
          case measure => simp [intOf]
      · have HC : Hid (wdB l = true) := wdB_some (by omega) hc
        rcases (by omega : k = 0 ∨ k = 1 ∨ k = 2 ∨ k = 3 ∨ k = 4 ∨ k = 5 ∨ k = 6 ∨ k = 7 ∨ k = 8 ∨ k = 9 ∨ k = 10 ∨ k = 11 ∨ k = 12 ∨ k = 13 ∨ k = 14 ∨ k = 15 ∨ k = 16) with rfl | rfl | rfl | rfl | rfl | rfl | rfl | rfl | rfl | rfl | rfl | rfl | rfl | rfl | rfl | rfl | rfl
        all_goals
          simp only [wdAt, List.getD_cons_zero, List.getD_cons_succ] at hc
          go_wp2
          go_ret
          exact ⟨ret_bool HC.out.symm, below_cells _ _ _⟩
end
section
open Go.RowKit Go.Shelf
def spB (l : List UInt8) : Bool := !(l == []) && !(l == [95]) && ltB (bt l 0) && decide (nsz l = l.length)
theorem bcell {W w1 : World} (hb : Below W.heap.size W w1) : (∀ b o, b < W.heap.size → w1.cell? ⟨b, o, none⟩ = W.cell? ⟨b, o, none⟩) ∧ (∀ b o, b < W.heap.size → w1.frozen? ⟨b, o, none⟩ = W.frozen? ⟨b, o, none⟩) :=
  ⟨fun b o h => hb.cell (p := ⟨b, o, none⟩) h, fun b o h => hb.frozen (p := ⟨b, o, none⟩) h⟩
theorem nsz_short {l : List UInt8} {k : Nat} (hk : k < l.length) (h : nmB (bt l k) = false) : ¬ nsz l = l.length := fun e => by
  have := nsz_nm l (j := k) (by omega)
  rw [h] at this
  cases this
set_option maxHeartbeats 2000000 in
theorem spelt35 (s : ByteArray) (w : World) (hs : s.size ≤ maxLen) : Calls Tryz.prog 113 #[.string s] w fun e w' => e = .returned (.bool (spB s.data.toList)) ∧ w' = w := by
  unfold maxLen at hs
  have hl := ByteArray.toList_eq s
  have hL := len_of s
  have hat := at_bt s
  generalize s.data.toList = l at *
  have HL2 : Hid (l.length = s.size) := hL
  have HA : Hid (∀ k (h : k < s.size), s[k].toNat = bt l k) := hat
  clear hL hat
  cases h0 : (l == [])
  · cases h1 : (l == [95])
    · have hz : 0 < s.size := by
        have := HL2.out
        rcases Nat.eq_zero_or_pos l.length with h | h
        · rw [List.eq_nil_of_length_eq_zero h] at h0
          cases h0
        · omega
      have hb0 := HA.out 0 hz
      cases h2 : ltB (bt l 0)
      · go_enter Tryz.func113, Tryz.ntmps113
        go_wp2_with (go_at_call 123; refine (letter30 _ _).mono ?_; rintro e w' ⟨rfl, rfl⟩)
        go_ret
        exact ⟨ret_bool (by simp [spB, h2]), rfl⟩
      · clear hb0
        have hb0 := HA.out 0 hz
        go_enter Tryz.func113, Tryz.ntmps113
        go_wp2_with (go_at_call 123; refine (letter30 _ _).mono ?_; rintro e w' ⟨rfl, rfl⟩)
        clear hb0
        go_loop [3] (fun i => ∃ k : Nat, k ≤ s.size ∧ i = .int .i64 k ∧ ∀ j, j < k → nmB (bt l j) = true) (fun i => s.size - (intOf i).toNat)
        case atStart => exact ⟨0, Nat.zero_le _, rfl, fun j hj => absurd hj (by omega)⟩
        case round =>
          obtain ⟨k, hk, rfl, hpre⟩ := hrel
          have HP : Hid (∀ j, j < k → nmB (bt l j) = true) := hpre
          clear hpre
          by_cases hlt : k < s.size
          · have hb := HA.out k hlt
            cases ht : ltB (bt l k)
            · cases hd : dgB (bt l k)
              · go_wp2_with (first | (go_at_call 124; refine (digit28 _ _).mono ?_; rintro e w' ⟨rfl, rfl⟩) | (go_at_call 123; refine (letter30 _ _).mono ?_; rintro e w' ⟨rfl, rfl⟩))
                go_ret
                exact ⟨ret_bool (by
                  have hn : ¬ nsz l = l.length := nsz_short (k := k) (by have := HL2.out; omega) (by rw [nm_split, hd, ht]; rfl)
                  simp [spB, hn]), rfl⟩
              · go_wp2_with (first | (go_at_call 124; refine (digit28 _ _).mono ?_; rintro e w' ⟨rfl, rfl⟩) | (go_at_call 123; refine (letter30 _ _).mono ?_; rintro e w' ⟨rfl, rfl⟩))
                go_round
                case rel => exact ⟨k + 1, by omega, by go_num, fun j hj => by
                  rcases Nat.lt_or_ge j k with h | h
                  · exact HP.out j h
                  · obtain rfl : j = k := by omega
                    rw [nm_split, hd]; rfl⟩
                case measure => simp [intOf]; omega
            · go_wp2_with (first | (go_at_call 124; refine (digit28 _ _).mono ?_; rintro e w' ⟨rfl, rfl⟩) | (go_at_call 123; refine (letter30 _ _).mono ?_; rintro e w' ⟨rfl, rfl⟩))
              go_round
              case rel => exact ⟨k + 1, by omega, by go_num, fun j hj => by
                rcases Nat.lt_or_ge j k with h | h
                · exact HP.out j h
                · obtain rfl : j = k := by omega
                  rw [nm_split, ht, Bool.or_true]⟩
              case measure => simp [intOf]; omega
          · go_wp2
            go_ret
            exact ⟨ret_bool (by
              have hn : nsz l = l.length := nsz_eq (Nat.le_refl _) (fun j hj => HP.out j (by have := HL2.out; omega)) (fun h => absurd h (by omega))
              simp [spB, h0, h1, h2, hn]), rfl⟩
    · go_enter Tryz.func113, Tryz.ntmps113
      go_wp2
      go_ret
      exact ⟨ret_bool (by simp [spB, h1]), rfl⟩
  · go_enter Tryz.func113, Tryz.ntmps113
    go_wp2
    go_ret
    exact ⟨ret_bool (by simp [spB, h0]), rfl⟩
def nameB (l : List UInt8) : Bool := spB l && decide (l.length ≤ 64) && !wdB l
set_option maxHeartbeats 2000000 in
theorem name16 (s : ByteArray) (w : World) (hs : s.size ≤ maxLen) : Calls Tryz.prog 99 #[.string s] w fun e w' => e = .returned (.bool (nameB s.data.toList)) ∧ Below w.heap.size w w' := by
  have HS : Hid (s.size ≤ maxLen) := hs
  unfold maxLen at hs
  have hL := len_of s
  have HC : Hid (∀ w, Calls Tryz.prog 113 #[.string s] w fun e w' => e = .returned (.bool (spB s.data.toList)) ∧ w' = w) := fun w => spelt35 s w HS.out
  have HW : Hid (∀ w, Calls Tryz.prog 114 #[.string s] w fun e w' => e = .returned (.bool (wdB s.data.toList)) ∧ Below w.heap.size w w') := fun w => word14 s w
  generalize s.data.toList = l at *
  have HL2 : Hid (l.length = s.size) := hL
  clear hL
  cases h1 : spB l
  · go_enter Tryz.func99, Tryz.ntmps99
    go_wp2_with (go_at_call 113; refine (HC.out _).mono ?_; rintro e w' ⟨rfl, rfl⟩)
    go_ret
    exact ⟨ret_bool (by simp [nameB, h1]), Below.refl _ _⟩
  · by_cases h2 : s.size ≤ 64
    · go_enter Tryz.func99, Tryz.ntmps99
      go_wp2_with (first | (go_at_call 113; refine (HC.out _).mono ?_; rintro e w' ⟨rfl, rfl⟩) | (go_at_call 114; refine (HW.out _).mono ?_; rintro e w' ⟨rfl, hb⟩; have HB : Hid (Below _ _ w') := hb; clear hb))
      go_ret
      exact ⟨ret_bool (by simp [nameB, h1, HL2.out, h2]), HB.out⟩
    · go_enter Tryz.func99, Tryz.ntmps99
      go_wp2_with (first | (go_at_call 113; refine (HC.out _).mono ?_; rintro e w' ⟨rfl, rfl⟩) | (go_at_call 114; refine (HW.out _).mono ?_; rintro e w' ⟨rfl, hb⟩; have HB : Hid (Below _ _ w') := hb; clear hb))
      go_ret
      exact ⟨ret_bool (by simp [nameB, HL2.out, h2]), Below.refl _ _⟩
/-- A token. -/
def tkv (k : Int) (t : ByteArray) (n f to : Int) : Value := .agg #[.int .i64 k, .string t, .int .i64 n, .int .i64 f, .int .i64 to]
def wdK (l : List UInt8) : Int := if l = [95] then 4 else if wdB l then 2 else if 64 < l.length then 0 else 1
def wdE (l : List UInt8) : Int := if l = [95] then 0 else if wdB l then 0 else if 64 < l.length then 2 else 0
set_option maxHeartbeats 2000000 in
theorem word62 (s : ByteArray) (w : World) (hs : s.size ≤ maxLen) : Calls Tryz.prog 133 #[.string s] w fun e w' => e = .returned (.tuple #[tkv (wdK s.data.toList) s 0 0 0, .int .i64 (wdE s.data.toList)]) ∧ Below w.heap.size w w' := by
  unfold maxLen at hs
  have hl := ByteArray.toList_eq s
  have hL := len_of s
  have HW : Hid (∀ w, Calls Tryz.prog 144 #[.string s] w fun e w' => e = .returned (.bool (wdB s.data.toList)) ∧ w' = w) := fun w => word13 s w
  generalize s.data.toList = l at *
  have HL2 : Hid (l.length = s.size) := hL
  clear hL
  unfold tkv wdK wdE
  by_cases h1 : l = [95]
  · have HE : Hid (l = [95]) := h1
    have h1b : (l == [95]) = true := by simp [h1]
    rw [if_pos h1, if_pos h1]
    clear h1
    go_enter Tryz.func133, Tryz.ntmps133
    go_wp2
    exact bodyPost_ret (v := .tuple #[.agg #[.int .i64 4, .string s, .int .i64 0, .int .i64 0, .int .i64 0], .int .i64 0]) (by simp [results, Tryz.results133, go_sem]) rfl ⟨rfl, below_cells _ _ _⟩
  · have h1b : (l == [95]) = false := by simp [h1]
    rw [if_neg h1, if_neg h1]
    clear h1
    cases h2 : wdB l
    · simp only [Bool.false_eq_true, if_false]
      by_cases h3 : 64 < s.size
      · rw [if_pos (by rw [HL2.out]; exact h3), if_pos (by rw [HL2.out]; exact h3)]
        go_enter Tryz.func133, Tryz.ntmps133
        go_wp2_with (go_at_call 144; refine (HW.out _).mono ?_; rintro e w' ⟨rfl, rfl⟩)
        exact bodyPost_ret (v := .tuple #[.agg #[.int .i64 0, .string s, .int .i64 0, .int .i64 0, .int .i64 0], .int .i64 2]) (by simp [results, Tryz.results133, go_sem]) rfl ⟨rfl, below_cells _ _ _⟩
      · rw [if_neg (by rw [HL2.out]; exact h3), if_neg (by rw [HL2.out]; exact h3)]
        go_enter Tryz.func133, Tryz.ntmps133
        go_wp2_with (go_at_call 144; refine (HW.out _).mono ?_; rintro e w' ⟨rfl, rfl⟩)
        exact bodyPost_ret (v := .tuple #[.agg #[.int .i64 1, .string s, .int .i64 0, .int .i64 0, .int .i64 0], .int .i64 0]) (by simp [results, Tryz.results133, go_sem]) rfl ⟨rfl, below_cells _ _ _⟩
    · simp only [if_true]
      go_enter Tryz.func133, Tryz.ntmps133
      go_wp2_with (go_at_call 144; refine (HW.out _).mono ?_; rintro e w' ⟨rfl, rfl⟩)
      exact bodyPost_ret (v := .tuple #[.agg #[.int .i64 2, .string s, .int .i64 0, .int .i64 0, .int .i64 0], .int .i64 0]) (by simp [results, Tryz.results133, go_sem]) rfl ⟨rfl, below_cells _ _ _⟩
end
section
open Go.RowKit Go.Shelf
def oneB (b : Nat) : Bool := b == 40 || b == 41 || b == 123 || b == 125 || b == 44 || b == 59 || b == 43 || b == 42 || b == 47 || b == 37 || b == 46
def sg (b c : Nat) : Nat :=
  if b = 124 then (if c = 124 then 2 else 0)
  else if b = 58 ∨ b = 38 then (if c = b then 2 else 1)
  else if b = 45 then (if c = 62 then 2 else 1)
  else if b = 61 then (if c = 62 ∨ c = 61 then 2 else 1)
  else if b = 33 ∨ b = 60 ∨ b = 62 then (if c = 61 then 2 else 1)
  else if oneB b then 1 else 0
def sgz (l : List UInt8) : Nat := if l = [] then 0 else sg (bt l 0) (bt l 1)
theorem sg_none {b c : Nat} (h124 : ¬ b = 124) (h58 : ¬ b = 58) (h38 : ¬ b = 38) (h45 : ¬ b = 45) (h61 : ¬ b = 61) (h33 : ¬ b = 33) (h60 : ¬ b = 60) (h62 : ¬ b = 62) (h40 : ¬ b = 40) (h41 : ¬ b = 41) (h123 : ¬ b = 123) (h125 : ¬ b = 125) (h44 : ¬ b = 44) (h59 : ¬ b = 59) (h43 : ¬ b = 43) (h42 : ¬ b = 42) (h47 : ¬ b = 47) (h37 : ¬ b = 37) (h46 : ¬ b = 46) : sg b c = 0 := by
  unfold sg oneB
  simp [h124, h58, h38, h45, h61, h33, h60, h62, h40, h41, h123, h125, h44, h59, h43, h42, h47, h37, h46]
set_option maxHeartbeats 4000000 in
theorem signSize63_one (s : ByteArray) (b : Nat) (w : World) (hs : s.size = 1) (h0 : s[0].toNat = b) : Calls Tryz.prog 134 #[.string s] w fun e w' => e = .returned (.int .i64 (sg b 0)) ∧ w' = w := by
  by_cases k124 : b = 124
  · subst k124
    rw [show sg 124 0 = if 0 = 124 then 2 else 0 from rfl]
    go_enter Tryz.func134, Tryz.ntmps134
    go_wp2
    all_goals go_ret
    all_goals exact ⟨ret_int (by first | rfl | (simp only [beq_iff_eq, beq_eq_false_iff_ne, ne_eq] at *; omega)), rfl⟩
  by_cases k58 : b = 58
  · subst k58
    rw [show sg 58 0 = if 0 = 58 then 2 else 1 from rfl]
    go_enter Tryz.func134, Tryz.ntmps134
    go_wp2
    all_goals go_ret
    all_goals exact ⟨ret_int (by first | rfl | (simp only [beq_iff_eq, beq_eq_false_iff_ne, ne_eq] at *; omega)), rfl⟩
  by_cases k38 : b = 38
  · subst k38
    rw [show sg 38 0 = if 0 = 38 then 2 else 1 from rfl]
    go_enter Tryz.func134, Tryz.ntmps134
    go_wp2
    all_goals go_ret
    all_goals exact ⟨ret_int (by first | rfl | (simp only [beq_iff_eq, beq_eq_false_iff_ne, ne_eq] at *; omega)), rfl⟩
  by_cases k45 : b = 45
  · subst k45
    rw [show sg 45 0 = if 0 = 62 then 2 else 1 from rfl]
    go_enter Tryz.func134, Tryz.ntmps134
    go_wp2
    all_goals go_ret
    all_goals exact ⟨ret_int (by first | rfl | (simp only [beq_iff_eq, beq_eq_false_iff_ne, ne_eq] at *; omega)), rfl⟩
  by_cases k61 : b = 61
  · subst k61
    rw [show sg 61 0 = if 0 = 62 ∨ 0 = 61 then 2 else 1 from rfl]
    go_enter Tryz.func134, Tryz.ntmps134
    go_wp2
    all_goals go_ret
    all_goals exact ⟨ret_int (by first | rfl | (simp only [beq_iff_eq, beq_eq_false_iff_ne, ne_eq] at *; omega)), rfl⟩
  by_cases k33 : b = 33
  · subst k33
    rw [show sg 33 0 = if 0 = 61 then 2 else 1 from rfl]
    go_enter Tryz.func134, Tryz.ntmps134
    go_wp2
    all_goals go_ret
    all_goals exact ⟨ret_int (by first | rfl | (simp only [beq_iff_eq, beq_eq_false_iff_ne, ne_eq] at *; omega)), rfl⟩
  by_cases k60 : b = 60
  · subst k60
    rw [show sg 60 0 = if 0 = 61 then 2 else 1 from rfl]
    go_enter Tryz.func134, Tryz.ntmps134
    go_wp2
    all_goals go_ret
    all_goals exact ⟨ret_int (by first | rfl | (simp only [beq_iff_eq, beq_eq_false_iff_ne, ne_eq] at *; omega)), rfl⟩
  by_cases k62 : b = 62
  · subst k62
    rw [show sg 62 0 = if 0 = 61 then 2 else 1 from rfl]
    go_enter Tryz.func134, Tryz.ntmps134
    go_wp2
    all_goals go_ret
    all_goals exact ⟨ret_int (by first | rfl | (simp only [beq_iff_eq, beq_eq_false_iff_ne, ne_eq] at *; omega)), rfl⟩
  by_cases k40 : b = 40
  · subst k40
    rw [show sg 40 0 = 1 from rfl]
    go_enter Tryz.func134, Tryz.ntmps134
    go_wp2
    all_goals go_ret
    all_goals exact ⟨rfl, rfl⟩
  by_cases k41 : b = 41
  · subst k41
    rw [show sg 41 0 = 1 from rfl]
    go_enter Tryz.func134, Tryz.ntmps134
    go_wp2
    all_goals go_ret
    all_goals exact ⟨rfl, rfl⟩
  by_cases k123 : b = 123
  · subst k123
    rw [show sg 123 0 = 1 from rfl]
    go_enter Tryz.func134, Tryz.ntmps134
    go_wp2
    all_goals go_ret
    all_goals exact ⟨rfl, rfl⟩
  by_cases k125 : b = 125
  · subst k125
    rw [show sg 125 0 = 1 from rfl]
    go_enter Tryz.func134, Tryz.ntmps134
    go_wp2
    all_goals go_ret
    all_goals exact ⟨rfl, rfl⟩
  by_cases k44 : b = 44
  · subst k44
    rw [show sg 44 0 = 1 from rfl]
    go_enter Tryz.func134, Tryz.ntmps134
    go_wp2
    all_goals go_ret
    all_goals exact ⟨rfl, rfl⟩
  by_cases k59 : b = 59
  · subst k59
    rw [show sg 59 0 = 1 from rfl]
    go_enter Tryz.func134, Tryz.ntmps134
    go_wp2
    all_goals go_ret
    all_goals exact ⟨rfl, rfl⟩
  by_cases k43 : b = 43
  · subst k43
    rw [show sg 43 0 = 1 from rfl]
    go_enter Tryz.func134, Tryz.ntmps134
    go_wp2
    all_goals go_ret
    all_goals exact ⟨rfl, rfl⟩
  by_cases k42 : b = 42
  · subst k42
    rw [show sg 42 0 = 1 from rfl]
    go_enter Tryz.func134, Tryz.ntmps134
    go_wp2
    all_goals go_ret
    all_goals exact ⟨rfl, rfl⟩
  by_cases k47 : b = 47
  · subst k47
    rw [show sg 47 0 = 1 from rfl]
    go_enter Tryz.func134, Tryz.ntmps134
    go_wp2
    all_goals go_ret
    all_goals exact ⟨rfl, rfl⟩
  by_cases k37 : b = 37
  · subst k37
    rw [show sg 37 0 = 1 from rfl]
    go_enter Tryz.func134, Tryz.ntmps134
    go_wp2
    all_goals go_ret
    all_goals exact ⟨rfl, rfl⟩
  by_cases k46 : b = 46
  · subst k46
    rw [show sg 46 0 = 1 from rfl]
    go_enter Tryz.func134, Tryz.ntmps134
    go_wp2
    all_goals go_ret
    all_goals exact ⟨rfl, rfl⟩
  rw [sg_none k124 k58 k38 k45 k61 k33 k60 k62 k40 k41 k123 k125 k44 k59 k43 k42 k47 k37 k46]
  have j124 : ¬ (b : Int) = 124 := by omega
  have j58 : ¬ (b : Int) = 58 := by omega
  have j38 : ¬ (b : Int) = 38 := by omega
  have j45 : ¬ (b : Int) = 45 := by omega
  have j61 : ¬ (b : Int) = 61 := by omega
  have j33 : ¬ (b : Int) = 33 := by omega
  have j60 : ¬ (b : Int) = 60 := by omega
  have j62 : ¬ (b : Int) = 62 := by omega
  have j40 : ¬ (b : Int) = 40 := by omega
  have j41 : ¬ (b : Int) = 41 := by omega
  have j123 : ¬ (b : Int) = 123 := by omega
  have j125 : ¬ (b : Int) = 125 := by omega
  have j44 : ¬ (b : Int) = 44 := by omega
  have j59 : ¬ (b : Int) = 59 := by omega
  have j43 : ¬ (b : Int) = 43 := by omega
  have j42 : ¬ (b : Int) = 42 := by omega
  have j47 : ¬ (b : Int) = 47 := by omega
  have j37 : ¬ (b : Int) = 37 := by omega
  have j46 : ¬ (b : Int) = 46 := by omega
  clear k124 k58 k38 k45 k61 k33 k60 k62 k40 k41 k123 k125 k44 k59 k43 k42 k47 k37 k46
  go_enter Tryz.func134, Tryz.ntmps134
  go_wp2
  go_ret
  exact ⟨rfl, rfl⟩
set_option maxHeartbeats 4000000 in
theorem signSize63_more (s : ByteArray) (b c : Nat) (w : World) (hs : 1 < s.size) (hm : s.size ≤ 9223372036854775807) (h0 : s[0].toNat = b) (h1 : s[1].toNat = c) : Calls Tryz.prog 134 #[.string s] w fun e w' => e = .returned (.int .i64 (sg b c)) ∧ w' = w := by
  by_cases k124 : b = 124
  · subst k124
    rw [show sg 124 c = if c = 124 then 2 else 0 from rfl]
    go_enter Tryz.func134, Tryz.ntmps134
    go_wp2
    all_goals go_ret
    all_goals exact ⟨ret_int (by first | rfl | (simp only [beq_iff_eq, beq_eq_false_iff_ne, ne_eq] at *; omega)), rfl⟩
  by_cases k58 : b = 58
  · subst k58
    rw [show sg 58 c = if c = 58 then 2 else 1 from rfl]
    go_enter Tryz.func134, Tryz.ntmps134
    go_wp2
    all_goals go_ret
    all_goals exact ⟨ret_int (by first | rfl | (simp only [beq_iff_eq, beq_eq_false_iff_ne, ne_eq] at *; omega)), rfl⟩
  by_cases k38 : b = 38
  · subst k38
    rw [show sg 38 c = if c = 38 then 2 else 1 from rfl]
    go_enter Tryz.func134, Tryz.ntmps134
    go_wp2
    all_goals go_ret
    all_goals exact ⟨ret_int (by first | rfl | (simp only [beq_iff_eq, beq_eq_false_iff_ne, ne_eq] at *; omega)), rfl⟩
  by_cases k45 : b = 45
  · subst k45
    rw [show sg 45 c = if c = 62 then 2 else 1 from rfl]
    go_enter Tryz.func134, Tryz.ntmps134
    go_wp2
    all_goals go_ret
    all_goals exact ⟨ret_int (by first | rfl | (simp only [beq_iff_eq, beq_eq_false_iff_ne, ne_eq] at *; omega)), rfl⟩
  by_cases k61 : b = 61
  · subst k61
    rw [show sg 61 c = if c = 62 ∨ c = 61 then 2 else 1 from rfl]
    go_enter Tryz.func134, Tryz.ntmps134
    go_wp2
    all_goals go_ret
    all_goals exact ⟨ret_int (by first | rfl | (simp only [beq_iff_eq, beq_eq_false_iff_ne, ne_eq] at *; omega)), rfl⟩
  by_cases k33 : b = 33
  · subst k33
    rw [show sg 33 c = if c = 61 then 2 else 1 from rfl]
    go_enter Tryz.func134, Tryz.ntmps134
    go_wp2
    all_goals go_ret
    all_goals exact ⟨ret_int (by first | rfl | (simp only [beq_iff_eq, beq_eq_false_iff_ne, ne_eq] at *; omega)), rfl⟩
  by_cases k60 : b = 60
  · subst k60
    rw [show sg 60 c = if c = 61 then 2 else 1 from rfl]
    go_enter Tryz.func134, Tryz.ntmps134
    go_wp2
    all_goals go_ret
    all_goals exact ⟨ret_int (by first | rfl | (simp only [beq_iff_eq, beq_eq_false_iff_ne, ne_eq] at *; omega)), rfl⟩
  by_cases k62 : b = 62
  · subst k62
    rw [show sg 62 c = if c = 61 then 2 else 1 from rfl]
    go_enter Tryz.func134, Tryz.ntmps134
    go_wp2
    all_goals go_ret
    all_goals exact ⟨ret_int (by first | rfl | (simp only [beq_iff_eq, beq_eq_false_iff_ne, ne_eq] at *; omega)), rfl⟩
  by_cases k40 : b = 40
  · subst k40
    rw [show sg 40 c = 1 from rfl]
    go_enter Tryz.func134, Tryz.ntmps134
    go_wp2
    all_goals go_ret
    all_goals exact ⟨rfl, rfl⟩
  by_cases k41 : b = 41
  · subst k41
    rw [show sg 41 c = 1 from rfl]
    go_enter Tryz.func134, Tryz.ntmps134
    go_wp2
    all_goals go_ret
    all_goals exact ⟨rfl, rfl⟩
  by_cases k123 : b = 123
  · subst k123
    rw [show sg 123 c = 1 from rfl]
    go_enter Tryz.func134, Tryz.ntmps134
    go_wp2
    all_goals go_ret
    all_goals exact ⟨rfl, rfl⟩
  by_cases k125 : b = 125
  · subst k125
    rw [show sg 125 c = 1 from rfl]
    go_enter Tryz.func134, Tryz.ntmps134
    go_wp2
    all_goals go_ret
    all_goals exact ⟨rfl, rfl⟩
  by_cases k44 : b = 44
  · subst k44
    rw [show sg 44 c = 1 from rfl]
    go_enter Tryz.func134, Tryz.ntmps134
    go_wp2
    all_goals go_ret
    all_goals exact ⟨rfl, rfl⟩
  by_cases k59 : b = 59
  · subst k59
    rw [show sg 59 c = 1 from rfl]
    go_enter Tryz.func134, Tryz.ntmps134
    go_wp2
    all_goals go_ret
    all_goals exact ⟨rfl, rfl⟩
  by_cases k43 : b = 43
  · subst k43
    rw [show sg 43 c = 1 from rfl]
    go_enter Tryz.func134, Tryz.ntmps134
    go_wp2
    all_goals go_ret
    all_goals exact ⟨rfl, rfl⟩
  by_cases k42 : b = 42
  · subst k42
    rw [show sg 42 c = 1 from rfl]
    go_enter Tryz.func134, Tryz.ntmps134
    go_wp2
    all_goals go_ret
    all_goals exact ⟨rfl, rfl⟩
  by_cases k47 : b = 47
  · subst k47
    rw [show sg 47 c = 1 from rfl]
    go_enter Tryz.func134, Tryz.ntmps134
    go_wp2
    all_goals go_ret
    all_goals exact ⟨rfl, rfl⟩
  by_cases k37 : b = 37
  · subst k37
    rw [show sg 37 c = 1 from rfl]
    go_enter Tryz.func134, Tryz.ntmps134
    go_wp2
    all_goals go_ret
    all_goals exact ⟨rfl, rfl⟩
  by_cases k46 : b = 46
  · subst k46
    rw [show sg 46 c = 1 from rfl]
    go_enter Tryz.func134, Tryz.ntmps134
    go_wp2
    all_goals go_ret
    all_goals exact ⟨rfl, rfl⟩
  rw [sg_none k124 k58 k38 k45 k61 k33 k60 k62 k40 k41 k123 k125 k44 k59 k43 k42 k47 k37 k46]
  have j124 : ¬ (b : Int) = 124 := by omega
  have j58 : ¬ (b : Int) = 58 := by omega
  have j38 : ¬ (b : Int) = 38 := by omega
  have j45 : ¬ (b : Int) = 45 := by omega
  have j61 : ¬ (b : Int) = 61 := by omega
  have j33 : ¬ (b : Int) = 33 := by omega
  have j60 : ¬ (b : Int) = 60 := by omega
  have j62 : ¬ (b : Int) = 62 := by omega
  have j40 : ¬ (b : Int) = 40 := by omega
  have j41 : ¬ (b : Int) = 41 := by omega
  have j123 : ¬ (b : Int) = 123 := by omega
  have j125 : ¬ (b : Int) = 125 := by omega
  have j44 : ¬ (b : Int) = 44 := by omega
  have j59 : ¬ (b : Int) = 59 := by omega
  have j43 : ¬ (b : Int) = 43 := by omega
  have j42 : ¬ (b : Int) = 42 := by omega
  have j47 : ¬ (b : Int) = 47 := by omega
  have j37 : ¬ (b : Int) = 37 := by omega
  have j46 : ¬ (b : Int) = 46 := by omega
  clear k124 k58 k38 k45 k61 k33 k60 k62 k40 k41 k123 k125 k44 k59 k43 k42 k47 k37 k46
  go_enter Tryz.func134, Tryz.ntmps134
  go_wp2
  go_ret
  exact ⟨rfl, rfl⟩
theorem signSize63 (s : ByteArray) (w : World) (hs : s.size ≤ maxLen) : Calls Tryz.prog 134 #[.string s] w fun e w' => e = .returned (.int .i64 (sgz s.data.toList)) ∧ w' = w := by
  unfold maxLen at hs
  have hL := len_of s
  unfold sgz
  rcases Nat.eq_zero_or_pos s.size with h | h
  · have e : s.data.toList = [] := List.eq_nil_of_length_eq_zero (by omega)
    rw [if_pos e]
    go_enter Tryz.func134, Tryz.ntmps134
    go_wp2
    go_ret
    exact ⟨rfl, rfl⟩
  · rw [if_neg (fun e => by rw [e] at hL; simp at hL; omega)]
    by_cases h1 : 1 < s.size
    · exact signSize63_more s _ _ w h1 (by omega) (at_bt s 0 h) (at_bt s 1 h1)
    · have e : bt s.data.toList 1 = 0 := by
        unfold bt List.getD
        rw [List.getElem?_eq_none (by omega)]
        rfl
      rw [e]
      exact signSize63_one s _ w (by omega) (at_bt s 0 h)
end
end Go.Proofs.YtkkmeogehapjoaaGreatDoor
