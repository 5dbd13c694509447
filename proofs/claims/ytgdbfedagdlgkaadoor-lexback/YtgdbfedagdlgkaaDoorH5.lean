/- Numbers, by the document. -/
import Derived.Test.YtgdbfedagdlgkaaDoorH3
namespace Go.Proofs.YtgdbfedagdlgkaaDoor
open Go.RowKit Go.Shelf
def rnum : Nat → List UInt8 → Option Nat
  | acc, [] => if acc ≤ 9223372036854775807 then some acc else none
  | acc, c :: r => if 922337203685477580 < acc then none else rnum (acc * 10 + (c.toNat - 48)) r
def allD (l : List UInt8) : Prop := ∀ c ∈ l, 48 ≤ c.toNat ∧ c.toNat ≤ 57
theorem parse_mono (M : Nat) (l : List UInt8) (acc u : Nat) (h : Lib.parseUintM M acc l = .ok u) : acc ≤ u := by
  induction l generalizing acc with
  | nil =>
    unfold Lib.parseUintM at h
    cases h
    exact Nat.le_refl _
  | cons c r ih =>
    unfold Lib.parseUintM at h
    split at h
    · split at h
      · cases h
      · split at h
        · cases h
        · have := ih _ h
          omega
    · cases h
def cap63 (x : Lib.NumEnd Nat) : Option Nat := match x with
  | .ok u => if 9223372036854775808 ≤ u then none else some u
  | _ => none
theorem rnum_eq (l : List UInt8) (acc : Nat) (hd : allD l) : cap63 (Lib.parseUintM (2 ^ 64 - 1) acc l) = rnum acc l := by
  induction l generalizing acc with
  | nil =>
    unfold Lib.parseUintM rnum cap63
    simp only
    split <;> split <;> first | rfl | omega
  | cons c r ih =>
    have hc := hd c (List.mem_cons_self ..)
    have hr : allD r := fun x hx => hd x (List.mem_cons_of_mem _ hx)
    unfold Lib.parseUintM rnum
    rw [if_pos hc]
    by_cases h1 : 922337203685477580 < acc
    · rw [if_pos h1]
      split
      · rfl
      · split
        · rfl
        · cases hq : Lib.parseUintM (2 ^ 64 - 1) (acc * 10 + (c.toNat - 48)) r with
          | ok u =>
            have := parse_mono _ _ _ _ hq
            unfold cap63
            simp only
            rw [if_pos (by omega)]
          | _ => rfl
    · rw [if_neg h1, if_neg (by omega), if_neg (by omega)]
      exact ih _ hr
theorem parse_bad (M : Nat) (l : List UInt8) (acc : Nat) (h : ∃ c ∈ l, ¬ (48 ≤ c.toNat ∧ c.toNat ≤ 57)) : cap63 (Lib.parseUintM M acc l) = none := by
  induction l generalizing acc with
  | nil =>
    obtain ⟨c, hc, _⟩ := h
    cases hc
  | cons c r ih =>
    unfold Lib.parseUintM
    by_cases hc : 48 ≤ c.toNat ∧ c.toNat ≤ 57
    · rw [if_pos hc]
      split
      · rfl
      · split
        · rfl
        · apply ih
          obtain ⟨x, hx, hn⟩ := h
          rcases List.mem_cons.1 hx with rfl | hx
          · exact absurd hc hn
          · exact ⟨x, hx, hn⟩
    · rw [if_neg hc]
      rfl
/-- What the library reads of a text that begins with a digit. -/
theorem nuO_cap (l : List UInt8) (hne : l ≠ []) (h0 : dgB (bt l 0) = true) : nuO l = (cap63 (Lib.parseUintM (2 ^ 64 - 1) 0 l)).map (fun n : Nat => (n : Int)) := by
  have hd := (dgB_iff _).1 h0
  match l, hne with
  | c :: r, _ =>
    have hc : bt (c :: r) 0 = c.toNat := rfl
    rw [hc] at hd
    unfold nuO Lib.parseIntB
    simp only
    have n1 : ¬ (c.toNat = 43 ∨ c.toNat = 45) := by omega
    have n2 : ¬ c.toNat = 45 := by omega
    rw [if_neg n1]
    unfold Lib.parseUintB
    rw [if_neg (by simp)]
    cases hq : Lib.parseUintM (2 ^ 64 - 1) 0 (c :: r) with
    | ok u =>
      unfold cap63
      simp only
      by_cases hu : 9223372036854775808 ≤ u
      · rw [if_pos ⟨n2, hu⟩, if_pos hu]
        rfl
      · rw [if_neg (fun h => hu h.2), if_neg (fun h => n2 h.1), if_neg n2, if_neg hu]
        rfl
    | «syntax» => rfl
    | range => rfl
def numR (o : Option Nat) (e : Ending) : Prop := match o with
  | some n => e = .returned (.tuple #[.int .i64 n, .bool true])
  | none => ∃ x : Int, e = .returned (.tuple #[.int .i64 x, .bool false])
theorem allD_bt {l : List UInt8} (h : allD l) {k : Nat} (hk : k < l.length) : 48 ≤ bt l k ∧ bt l k ≤ 57 := by
  unfold bt List.getD
  rw [List.getElem?_eq_getElem hk]
  exact h _ (List.getElem_mem hk)
theorem rnum_step (l : List UInt8) (k acc : Nat) (hk : k < l.length) : rnum acc (l.drop k) = if 922337203685477580 < acc then none else rnum (acc * 10 + (bt l k - 48)) (l.drop (k + 1)) := by
  rw [List.drop_eq_getElem_cons hk]
  unfold rnum
  have : bt l k = (l[k]).toNat := by
    unfold bt List.getD
    rw [List.getElem?_eq_getElem hk]
    rfl
  rw [this]
  cases List.drop (k + 1) l <;> rfl
set_option maxRecDepth 100000 in
set_option maxHeartbeats 2000000 in
theorem number48 (s : ByteArray) (w : World) (hs : s.size ≤ 140737488355328) (hd : allD s.data.toList) : Calls Tryd.prog 48 #[.string s] w fun e w' => numR (rnum 0 s.data.toList) e ∧ w' = w := by
  have hL := len_of s
  have hat := at_bt s
  have hbd : ∀ k, k < s.size → 48 ≤ bt s.data.toList k ∧ bt s.data.toList k ≤ 57 := fun k hk => allD_bt hd (by omega)
  generalize s.data.toList = l at *
  obtain ⟨R, hR⟩ : ∃ R, R = rnum 0 l := ⟨_, rfl⟩
  rw [← hR]
  have HR : Hid (R = rnum 0 l) := hR
  have HL : Hid (l.length = s.size) := hL
  have HA : Hid (∀ k (h : k < s.size), s[k].toNat = bt l k) := hat
  have HB : Hid (∀ k, k < s.size → 48 ≤ bt l k ∧ bt l k ≤ 57) := hbd
  clear hL hat hbd hd hR
  go_enter Tryd.func48, Tryd.ntmps48
  go_wp2
  go_loop [4, 5] (fun x i => ∃ k acc : Nat, k ≤ s.size ∧ i = .int .i64 k ∧ x = .int .u64 acc ∧ acc ≤ 9223372036854775809 ∧ Hid (rnum acc (l.drop k) = R)) (fun _ i => s.size - (intOf i).toNat)
  case atStart => exact ⟨0, 0, Nat.zero_le _, rfl, rfl, by omega, HR.out.symm⟩
  case round =>
    obtain ⟨k, acc, hk, rfl, rfl, hacc, HS⟩ := hrel
    by_cases hlt : k < s.size
    · have hst := HS.out
      rw [rnum_step l k acc (by have := HL.out; omega)] at hst
      have hb := HA.out k hlt
      have hr := HB.out k hlt
      clear HS
      by_cases h1 : 922337203685477580 < acc
      · rw [if_pos h1] at hst
        have HS : Hid (none = R) := hst
        have h1' : (922337203685477580 : Int) < (acc : Int) := by omega
        clear hst
        go_wp2
        go_ret2
        exact ⟨by rw [← HS.out]; exact ⟨0, rfl⟩, rfl⟩
      · rw [if_neg h1] at hst
        have HS : Hid (rnum (acc * 10 + (bt l k - 48)) (l.drop (k + 1)) = R) := hst
        have h1' : ¬ (922337203685477580 : Int) < (acc : Int) := by omega
        clear hst
        generalize bt l k = c at *
        have w1 : IntKind.u8.wrap ((c : Int) - 48) = (c : Int) - 48 := by simp [IntKind.wrap, IntKind.signed, IntKind.bits]; omega
        go_wp2
        go_round
        case rel => exact ⟨k + 1, acc * 10 + (c - 48), by omega, by go_num, by congr 1; omega, by omega, HS.out⟩
        case measure => simp [intOf]; omega
    · obtain rfl : k = s.size := by omega
      have HS2 : Hid ((if acc ≤ 9223372036854775807 then some acc else none) = R) := by
        have h := HS.out
        rw [List.drop_eq_nil_of_le (by have := HL.out; omega)] at h
        exact h
      clear HS
      by_cases h2 : acc ≤ 9223372036854775807
      · have HS : Hid (some acc = R) := by have h := HS2.out; rw [if_pos h2] at h; exact h
        have h2' : (acc : Int) ≤ 9223372036854775807 := by omega
        clear HS2
        go_wp2
        go_ret2
        exact ⟨by rw [← HS.out]; rfl, rfl⟩
      · have HS : Hid (none = R) := by have h := HS2.out; rw [if_neg h2] at h; exact h
        have h2' : ¬ (acc : Int) ≤ 9223372036854775807 := by omega
        clear HS2
        go_wp2
        go_ret2
        exact ⟨by rw [← HS.out]; exact ⟨_, rfl⟩, rfl⟩
end Go.Proofs.YtgdbfedagdlgkaaDoor
