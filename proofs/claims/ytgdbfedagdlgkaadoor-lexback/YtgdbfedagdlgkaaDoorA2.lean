/- How many of a name's letters and digits a text begins with. -/
import Derived.Test.YtgdbfedagdlgkaaDoorA1
namespace Go.Proofs.YtgdbfedagdlgkaaDoor
open Go.RowKit Go.Shelf
def bt (l : List UInt8) (j : Nat) : Nat := (l.getD j 0).toNat
theorem bt_lt (l : List UInt8) (j : Nat) : bt l j < 256 := UInt8.toNat_lt _
theorem bt_drop (l : List UInt8) (a j : Nat) : bt (l.drop a) j = bt l (a + j) := by simp [bt, List.getD, List.getElem?_drop]
theorem bt_take (l : List UInt8) {n j : Nat} (h : j < n) : bt (l.take n) j = bt l j := by simp [bt, List.getD, h]
theorem at_bt (s : ByteArray) (k : Nat) (h : k < s.size) : s[k].toNat = bt s.data.toList k := by
  have h' : k < s.data.toList.length := by simpa using h
  unfold bt List.getD
  rw [List.getElem?_eq_getElem h']
  rfl
theorem len_of (s : ByteArray) : s.data.toList.length = s.size := by simp
theorem toList_from (s : ByteArray) (a : Nat) : (s.extract a s.size).data.toList = s.data.toList.drop a := by
  simp [ByteArray.data_extract, Array.toList_extract, List.extract_eq_take_drop]
  rw [List.take_of_length_le]
  simp
theorem toList_upto (s : ByteArray) (k : Nat) : (s.extract 0 k).data.toList = s.data.toList.take k := by
  simp [ByteArray.data_extract, Array.toList_extract, List.extract_eq_take_drop]
theorem toList_cut (s : ByteArray) (a b : Nat) : (s.extract a b).data.toList = (s.data.toList.drop a).take (b - a) := by
  simp [ByteArray.data_extract, Array.toList_extract, List.extract_eq_take_drop]
theorem bytes_ext {s t : ByteArray} (h : s.data.toList = t.data.toList) : s = t := by
  obtain ⟨⟨a⟩⟩ := s
  obtain ⟨⟨b⟩⟩ := t
  simp at h
  subst h
  rfl
def nsz (l : List UInt8) : Nat := (l.takeWhile fun c => nmB c.toNat).length
theorem nsz_eq {l : List UInt8} {k : Nat} (hk : k ≤ l.length) (h1 : ∀ j, j < k → nmB (bt l j) = true) (h2 : k < l.length → nmB (bt l k) = false) : nsz l = k := by
  induction l generalizing k with
  | nil => simp at hk; subst hk; rfl
  | cons c r ih =>
    unfold nsz
    cases k with
    | zero =>
      have := h2 (by simp)
      simp [bt] at this
      simp [this]
    | succ k =>
      have t0 := h1 0 (by omega)
      simp [bt] at t0
      simp only [List.takeWhile_cons, t0, if_true, List.length_cons]
      congr 1
      exact ih (by simpa using hk) (fun j hj => by have := h1 (j + 1) (by omega); simpa [bt] using this) (fun h => by have := h2 (by simpa using h); simpa [bt] using this)
theorem nsz_le (l : List UInt8) : nsz l ≤ l.length := by
  induction l with
  | nil => simp [nsz]
  | cons c r ih =>
    unfold nsz at *
    simp only [List.takeWhile_cons]
    split <;> simp <;> omega
theorem nsz_nm (l : List UInt8) {j : Nat} (h : j < nsz l) : nmB (bt l j) = true := by
  induction l generalizing j with
  | nil => simp [nsz] at h
  | cons c r ih =>
    unfold nsz at h
    simp only [List.takeWhile_cons] at h
    split at h
    · rename_i hc
      cases j with
      | zero => simpa [bt] using hc
      | succ j => simp at h; exact ih h
    · simp at h
theorem nsz_end (l : List UInt8) (h : nsz l < l.length) : nmB (bt l (nsz l)) = false := by
  induction l with
  | nil => simp [nsz] at h
  | cons c r ih =>
    cases hc : nmB c.toNat
    · have e : nsz (c :: r) = 0 := by simp [nsz, hc]
      rw [e]
      simpa [bt] using hc
    · have e : nsz (c :: r) = nsz r + 1 := by simp [nsz, hc]
      rw [e] at h ⊢
      have := ih (by simpa using h)
      simpa [bt] using this
theorem nm_split {c : Nat} : nmB c = (dgB c || ltB c) := rfl
set_option maxHeartbeats 1000000 in
theorem nameSize59 (s : ByteArray) (w : World) (hs : s.size ≤ maxLen) : Calls Tryd.prog 59 #[.string s] w fun e w' => e = .returned (.int .i64 (nsz s.data.toList)) ∧ w' = w := by
  unfold maxLen at hs
  have hL := len_of s
  generalize hl : s.data.toList = l at *
  have HL : Hid (s.data.toList = l) := hl
  have HL2 : Hid (l.length = s.size) := hL
  clear hl hL
  go_enter Tryd.func59, Tryd.ntmps59
  go_wp2
  go_loop [6] (fun i => ∃ k : Nat, k ≤ s.size ∧ i = .int .i64 k ∧ ∀ j, j < k → nmB (bt l j) = true) (fun i => s.size - (intOf i).toNat)
  case atStart => exact ⟨0, Nat.zero_le _, rfl, fun j hj => absurd hj (by omega)⟩
  case round =>
    obtain ⟨k, hk, rfl, hpre⟩ := hrel
    have HP : Hid (∀ j, j < k → nmB (bt l j) = true) := hpre
    clear hpre
    by_cases hlt : k < s.size
    · have hb : s[k].toNat = bt l k := by rw [at_bt s k hlt, HL.out]
      cases hd : dgB (bt l k)
      · cases ht : ltB (bt l k)
        · go_wp2_with (first | (go_at_call 60; refine (isDigit60 _ _).mono ?_; rintro e w' ⟨rfl, rfl⟩) | (go_at_call 71; refine (isLetter71 _ _).mono ?_; rintro e w' ⟨rfl, rfl⟩))
          go_ret
          exact ⟨ret_int (by rw [nsz_eq (by have := HL2.out; omega) HP.out (fun _ => by rw [nm_split, hd, ht]; rfl)]), rfl⟩
        · go_wp2_with (first | (go_at_call 60; refine (isDigit60 _ _).mono ?_; rintro e w' ⟨rfl, rfl⟩) | (go_at_call 71; refine (isLetter71 _ _).mono ?_; rintro e w' ⟨rfl, rfl⟩))
          go_round
          case rel => exact ⟨k + 1, by omega, by go_num, fun j hj => by
            rcases Nat.lt_or_ge j k with h | h
            · exact HP.out j h
            · obtain rfl : j = k := by omega
              rw [nm_split, hd, ht]; rfl⟩
          case measure => simp [intOf]; omega
      · go_wp2_with (first | (go_at_call 60; refine (isDigit60 _ _).mono ?_; rintro e w' ⟨rfl, rfl⟩) | (go_at_call 71; refine (isLetter71 _ _).mono ?_; rintro e w' ⟨rfl, rfl⟩))
        go_round
        case rel => exact ⟨k + 1, by omega, by go_num, fun j hj => by
            rcases Nat.lt_or_ge j k with h | h
            · exact HP.out j h
            · obtain rfl : j = k := by omega
              rw [nm_split, hd]; rfl⟩
        case measure => simp [intOf]; omega
    · go_wp2
      go_ret
      exact ⟨ret_int (by rw [nsz_eq (by have := HL2.out; omega) HP.out (fun h => by have := HL2.out; omega)]; omega), rfl⟩
set_option maxHeartbeats 1000000 in
theorem run27 (s : ByteArray) (a : Nat) (w : World) (hs : s.size ≤ maxLen) (ha : a ≤ s.size) : Calls Tryd.prog 27 #[.string s, .int .i64 a] w fun e w' => e = .returned (.int .i64 ((a + nsz (s.data.toList.drop a) : Nat) : Int)) ∧ w' = w := by
  unfold maxLen at hs
  have hL := len_of s
  generalize hl : s.data.toList = l at *
  have HL : Hid (s.data.toList = l) := hl
  have HL2 : Hid (l.length = s.size) := hL
  have hdr : ∀ j, bt (l.drop a) j = bt l (a + j) := fun j => bt_drop l a j
  have HD : Hid (∀ j, bt (l.drop a) j = bt l (a + j)) := hdr
  clear hl hL hdr
  go_enter Tryd.func27, Tryd.ntmps27
  go_wp2
  go_loop [1] (fun i => ∃ k : Nat, a + k ≤ s.size ∧ i = .int .i64 ((a + k : Nat) : Int) ∧ ∀ j, j < k → nmB (bt (l.drop a) j) = true) (fun i => s.size - (intOf i).toNat)
  case atStart => exact ⟨0, ha, rfl, fun j hj => absurd hj (by omega)⟩
  case round =>
    obtain ⟨k, hk, rfl, hpre⟩ := hrel
    have HP : Hid (∀ j, j < k → nmB (bt (l.drop a) j) = true) := hpre
    clear hpre
    by_cases hlt : a + k < s.size
    · have hb : s[a + k].toNat = bt l (a + k) := by rw [at_bt s _ hlt, HL.out]
      cases ht : ltB (bt l (a + k))
      · cases hd : dgB (bt l (a + k))
        · go_wp2_with (first | (go_at_call 28; refine (digit28 _ _).mono ?_; rintro e w' ⟨rfl, rfl⟩) | (go_at_call 30; refine (letter30 _ _).mono ?_; rintro e w' ⟨rfl, rfl⟩))
          go_ret
          exact ⟨ret_int (by rw [nsz_eq (k := k) (by have := HL2.out; simp; omega) HP.out (fun _ => by rw [HD.out, nm_split, hd, ht]; rfl)]; simp), rfl⟩
        · go_wp2_with (first | (go_at_call 28; refine (digit28 _ _).mono ?_; rintro e w' ⟨rfl, rfl⟩) | (go_at_call 30; refine (letter30 _ _).mono ?_; rintro e w' ⟨rfl, rfl⟩))
          go_round
          case rel => exact ⟨k + 1, by omega, by go_num, fun j hj => by
            rcases Nat.lt_or_ge j k with h | h
            · exact HP.out j h
            · obtain rfl : j = k := by omega
              rw [HD.out, nm_split, hd, ht]; rfl⟩
          case measure => simp [intOf]; omega
      · go_wp2_with (first | (go_at_call 28; refine (digit28 _ _).mono ?_; rintro e w' ⟨rfl, rfl⟩) | (go_at_call 30; refine (letter30 _ _).mono ?_; rintro e w' ⟨rfl, rfl⟩))
        go_round
        case rel => exact ⟨k + 1, by omega, by go_num, fun j hj => by
            rcases Nat.lt_or_ge j k with h | h
            · exact HP.out j h
            · obtain rfl : j = k := by omega
              rw [HD.out, nm_split, ht, Bool.or_true]⟩
        case measure => simp [intOf]; omega
    · go_wp2
      go_ret
      exact ⟨ret_int (by rw [nsz_eq (k := k) (by have := HL2.out; simp; omega) HP.out (fun h => by have := HL2.out; simp at h; omega)]), rfl⟩
end Go.Proofs.YtgdbfedagdlgkaaDoor
