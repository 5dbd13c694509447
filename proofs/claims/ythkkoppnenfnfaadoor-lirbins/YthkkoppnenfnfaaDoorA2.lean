/- Names, the runtime's functions, and what a field is asked for. -/
import Derived.Test.YthkkoppnenfnfaaDoorA1
namespace Go.Proofs.YthkkoppnenfnfaaDoor
open Go.RowKit Go.Shelf
def okc (c : UInt8) : Bool := dgB c.toNat || (ltB c.toNat || decide (c.toNat = 95))
/-- May a function have this name? -/
def nmB (l : List UInt8) : Bool := decide (1 ≤ l.length) && (decide (l.length ≤ 64) && (!(dgB (l.getD 0 0).toNat) && l.all okc))
theorem take_snoc (s : ByteArray) (k : Nat) (h : k < s.size) : s.data.toList.take (k + 1) = s.data.toList.take k ++ [s[k]] := by
  rw [List.take_succ_eq_append_getElem (by simpa using h)]; rfl
theorem get_ba (s : ByteArray) (k : Nat) (h : k < s.size) : s.data.toList.getD k 0 = s[k] := by
  rw [List.getD_eq_getElem?_getD, List.getElem?_eq_getElem (by simpa using h)]; rfl
set_option maxHeartbeats 2000000 in
theorem nameRight46 (s : ByteArray) (w : World) (hs : s.size ≤ maxLen) : Calls Tryd.prog 46 #[.string s] w fun e w' => e = .returned (.bool (nmB s.data.toList)) ∧ w' = w := by
  unfold maxLen at hs
  have hL : Hid (s.data.toList.length = s.size) := by show _ = _; simp
  by_cases h1 : 1 ≤ s.size
  · by_cases h2 : s.size ≤ 64
    · have h0 : 0 < s.size := h1
      have HG : Hid (s.data.toList.getD 0 0 = s[0]) := get_ba s 0 h0
      have hw : witB (s.size : Int) 1 64 = true := by simp [witB]; omega
      have hW : ∀ w : World, Calls Tryd.prog 47 #[.int .i64 (s.size : Int), .int .i64 1, .int .i64 64] w fun e w' => e = .returned (.bool true) ∧ w' = w := fun w => by
        have t := within47 (s.size : Int) 1 64 w
        rw [hw] at t
        exact t
      clear hw
      by_cases h3 : dgB (s[0].toNat) = true
      · have hD : ∀ w : World, Calls Tryd.prog 56 #[.int .u8 (s[0].toNat : Int)] w fun e w' => e = .returned (.bool true) ∧ w' = w := fun w => by
          have t := isDigit56 s[0].toNat w
          rw [h3] at t
          exact t
        have HR : Hid (nmB s.data.toList = false) := by show _ = _; simp only [nmB]; rw [HG.out, h3]; simp
        clear h3
        go_enter Tryd.func46, Tryd.ntmps46
        go_wp2_with (first | (go_at_call 47; refine (hW _).mono ?_; rintro e w' ⟨rfl, rfl⟩) | (go_at_call 56; refine (hD _).mono ?_; rintro e w' ⟨rfl, rfl⟩))
        go_ret
        exact ⟨ret_bool HR.out.symm, rfl⟩
      · have h3' : dgB (s[0].toNat) = false := by simpa using h3
        have hD : ∀ w : World, Calls Tryd.prog 56 #[.int .u8 (s[0].toNat : Int)] w fun e w' => e = .returned (.bool false) ∧ w' = w := fun w => by
          have t := isDigit56 s[0].toNat w
          rw [h3'] at t
          exact t
        have HR : Hid (nmB s.data.toList = s.data.toList.all okc) := by
          show _ = _
          simp only [nmB]
          rw [HG.out, h3', hL.out]
          simp [h1, h2]
        clear h3 h3'
        go_enter Tryd.func46, Tryd.ntmps46
        go_wp2_with (first | (go_at_call 47; refine (hW _).mono ?_; rintro e w' ⟨rfl, rfl⟩) | (go_at_call 56; refine (hD _).mono ?_; rintro e w' ⟨rfl, rfl⟩))
        clear hD
        go_loop [16] (fun i => ∃ k : Nat, k ≤ s.size ∧ i = .int .i64 k ∧ (s.data.toList.take k).all okc = true) (fun i => s.size - (intOf i).toNat)
        case atStart => exact ⟨0, Nat.zero_le _, rfl, rfl⟩
        case round =>
          obtain ⟨k, hk, rfl, ha⟩ := hrel
          have HA : Hid ((s.data.toList.take k).all okc = true) := ha
          clear ha
          by_cases hlt : k < s.size
          · have HT : Hid (s.data.toList.take (k + 1) = s.data.toList.take k ++ [s[k]]) := take_snoc s k hlt
            by_cases hd : okc s[k] = true
            · have HK : Hid (okc s[k] = true) := hd
              have ho : dgB s[k].toNat = true ∨ (dgB s[k].toNat = false ∧ ltB s[k].toNat = true) ∨ (dgB s[k].toNat = false ∧ ltB s[k].toNat = false ∧ s[k].toNat = 95) := by
                unfold okc at hd
                cases h : dgB s[k].toNat <;> cases h' : ltB s[k].toNat <;> simp_all
              clear hd
              rcases ho with h | ⟨h, h'⟩ | ⟨h, h', h''⟩
              · have hD : ∀ w : World, Calls Tryd.prog 56 #[.int .u8 (s[k].toNat : Int)] w fun e w' => e = .returned (.bool true) ∧ w' = w := fun w => by
                  have t := isDigit56 s[k].toNat w
                  rw [h] at t
                  exact t
                clear h
                go_wp2_with (first | (go_at_call 56; refine (hD _).mono ?_; rintro e w' ⟨rfl, rfl⟩))
                go_round
                case rel => exact ⟨k + 1, by omega, by go_num, by rw [HT.out, List.all_append, HA.out]; simp [HK.out]⟩
                case measure => simp [intOf]; omega
              · have hD : ∀ w : World, Calls Tryd.prog 56 #[.int .u8 (s[k].toNat : Int)] w fun e w' => e = .returned (.bool false) ∧ w' = w := fun w => by
                  have t := isDigit56 s[k].toNat w
                  rw [h] at t
                  exact t
                have hE : ∀ w : World, Calls Tryd.prog 57 #[.int .u8 (s[k].toNat : Int)] w fun e w' => e = .returned (.bool true) ∧ w' = w := fun w => by
                  have t := isLetter57 s[k].toNat w
                  rw [h'] at t
                  exact t
                clear h h'
                go_wp2_with (first | (go_at_call 56; refine (hD _).mono ?_; rintro e w' ⟨rfl, rfl⟩) | (go_at_call 57; refine (hE _).mono ?_; rintro e w' ⟨rfl, rfl⟩))
                go_round
                case rel => exact ⟨k + 1, by omega, by go_num, by rw [HT.out, List.all_append, HA.out]; simp [HK.out]⟩
                case measure => simp [intOf]; omega
              · have hD : ∀ w : World, Calls Tryd.prog 56 #[.int .u8 (s[k].toNat : Int)] w fun e w' => e = .returned (.bool false) ∧ w' = w := fun w => by
                  have t := isDigit56 s[k].toNat w
                  rw [h] at t
                  exact t
                have hE : ∀ w : World, Calls Tryd.prog 57 #[.int .u8 (s[k].toNat : Int)] w fun e w' => e = .returned (.bool false) ∧ w' = w := fun w => by
                  have t := isLetter57 s[k].toNat w
                  rw [h'] at t
                  exact t
                have hq : ((s[k].toNat : Int) == 95) = true := by simp; omega
                clear h h' h''
                go_wp2_with (first | (go_at_call 56; refine (hD _).mono ?_; rintro e w' ⟨rfl, rfl⟩) | (go_at_call 57; refine (hE _).mono ?_; rintro e w' ⟨rfl, rfl⟩))
                go_round
                case rel => exact ⟨k + 1, by omega, by go_num, by rw [HT.out, List.all_append, HA.out]; simp [HK.out]⟩
                case measure => simp [intOf]; omega
            · have hd' : okc s[k] = false := by simpa using hd
              have HF : Hid (s.data.toList.all okc = false) := by
                show _ = _
                rw [List.all_eq_false]
                exact ⟨s[k], Array.getElem_mem_toList _, by rw [hd']; simp⟩
              have ho : dgB s[k].toNat = false ∧ ltB s[k].toNat = false ∧ ¬ s[k].toNat = 95 := by
                unfold okc at hd'
                cases h : dgB s[k].toNat <;> cases h' : ltB s[k].toNat <;> simp_all
              obtain ⟨h, h', h''⟩ := ho
              have hD : ∀ w : World, Calls Tryd.prog 56 #[.int .u8 (s[k].toNat : Int)] w fun e w' => e = .returned (.bool false) ∧ w' = w := fun w => by
                have t := isDigit56 s[k].toNat w
                rw [h] at t
                exact t
              have hE : ∀ w : World, Calls Tryd.prog 57 #[.int .u8 (s[k].toNat : Int)] w fun e w' => e = .returned (.bool false) ∧ w' = w := fun w => by
                have t := isLetter57 s[k].toNat w
                rw [h'] at t
                exact t
              have hq : ((s[k].toNat : Int) == 95) = false := by simp; omega
              clear h h' h'' hd hd'
              go_wp2_with (first | (go_at_call 56; refine (hD _).mono ?_; rintro e w' ⟨rfl, rfl⟩) | (go_at_call 57; refine (hE _).mono ?_; rintro e w' ⟨rfl, rfl⟩))
              go_ret
              exact ⟨ret_bool (by rw [HR.out, HF.out]), rfl⟩
          · go_wp2
            go_ret
            exact ⟨ret_bool (by rw [HR.out, ← HA.out, List.take_of_length_le (by rw [hL.out]; omega)]), rfl⟩
    · have hw : witB (s.size : Int) 1 64 = false := by simp [witB]; omega
      have hW : ∀ w : World, Calls Tryd.prog 47 #[.int .i64 (s.size : Int), .int .i64 1, .int .i64 64] w fun e w' => e = .returned (.bool false) ∧ w' = w := fun w => by
        have t := within47 (s.size : Int) 1 64 w
        rw [hw] at t
        exact t
      have HR : Hid (nmB s.data.toList = false) := by show _ = _; simp only [nmB]; rw [hL.out]; simp [h2]
      clear hw
      go_enter Tryd.func46, Tryd.ntmps46
      go_wp2_with (first | (go_at_call 47; refine (hW _).mono ?_; rintro e w' ⟨rfl, rfl⟩))
      go_ret
      exact ⟨ret_bool HR.out.symm, rfl⟩
  · have hw : witB (s.size : Int) 1 64 = false := by simp [witB]; omega
    have hW : ∀ w : World, Calls Tryd.prog 47 #[.int .i64 (s.size : Int), .int .i64 1, .int .i64 64] w fun e w' => e = .returned (.bool false) ∧ w' = w := fun w => by
      have t := within47 (s.size : Int) 1 64 w
      rw [hw] at t
      exact t
    have HR : Hid (nmB s.data.toList = false) := by show _ = _; simp only [nmB]; rw [hL.out]; simp [h1]
    clear hw
    go_enter Tryd.func46, Tryd.ntmps46
    go_wp2_with (first | (go_at_call 47; refine (hW _).mono ?_; rintro e w' ⟨rfl, rfl⟩))
    go_ret
    exact ⟨ret_bool HR.out.symm, rfl⟩
end Go.Proofs.YthkkoppnenfnfaaDoor
