/- The document's first byte that is no letter; blanks and remarks; diagnostics. -/
import Derived.Test.YtgdbfedagdlgkaaDoorH2
namespace Go.Proofs.YtgdbfedagdlgkaaDoor
open Go.RowKit Go.Shelf
def strI (o : Option Nat) : Int := match o with
  | some p => p
  | none => -1
set_option maxRecDepth 100000 in
set_option maxHeartbeats 2000000 in
theorem strange25 (s : ByteArray) (w : World) (hs : s.size ≤ 140737488355328) : Calls Tryd.prog 25 #[.string s] w fun e w' => e = .returned (.int .i64 (strI (stray s s.size 0))) ∧ w' = w := by
  have HC : Hid (∀ W p, p < s.size → Calls Tryd.prog 33 #[.string s, .int .i64 p] W fun e w' => e = .returned (.int .i64 (szP s p)) ∧ w' = W) := fun W p hp => size33 s p W hs hp
  go_enter Tryd.func25, Tryd.ntmps25
  go_wp2
  go_loop [3] (fun i => ∃ p f : Nat, p ≤ s.size ∧ i = .int .i64 p ∧ s.size ≤ p + f ∧ Hid (stray s f p = stray s s.size 0)) (fun i => s.size - (intOf i).toNat)
  case atStart => exact ⟨0, s.size, Nat.zero_le _, rfl, by omega, rfl⟩
  case round =>
    obtain ⟨p, f, hp, rfl, hf, HS⟩ := hrel
    by_cases hlt : p < s.size
    · obtain ⟨f, rfl⟩ : ∃ f', f = f' + 1 := ⟨f - 1, by omega⟩
      have hst := HS.out
      rw [stray_step f hlt] at hst
      have hw := width_le s p hlt
      have hw0 := Lib.width_pos s p
      have hcall := HC.out w p hlt
      clear HS
      unfold szP at hcall
      cases hb : badB s p
      · rw [hb] at hst hcall
        simp only [Bool.false_eq_true, if_false] at hst hcall
        have HC2 : Hid (Calls Tryd.prog 33 #[.string s, .int .i64 p] w fun e w' => e = .returned (.int .i64 ((Utf8.decode s p).2 : Nat)) ∧ w' = w) := hcall
        have HS : Hid (stray s f (p + (Utf8.decode s p).2) = stray s s.size 0) := hst
        clear hcall hst hb
        generalize (Utf8.decode s p).2 = K at *
        have hK : ¬ (K : Int) = 0 := by omega
        go_wp2_with (go_at_call 33; refine HC2.out.mono ?_; rintro e w' ⟨rfl, rfl⟩)
        go_round
        case rel => exact ⟨p + K, f, by omega, by go_num, by omega, HS.out⟩
        case measure => simp [intOf]; omega
      · rw [hb] at hst hcall
        simp only [if_true] at hst hcall
        have HC2 : Hid (Calls Tryd.prog 33 #[.string s, .int .i64 p] w fun e w' => e = .returned (.int .i64 ((0 : Nat) : Int)) ∧ w' = w) := hcall
        have HS : Hid (some p = stray s s.size 0) := hst
        clear hcall hst hb
        go_wp2_with (go_at_call 33; refine HC2.out.mono ?_; rintro e w' ⟨rfl, rfl⟩)
        go_ret
        exact ⟨by rw [← HS.out]; rfl, rfl⟩
    · have HN : Hid (stray s s.size 0 = none) := HS.out.symm.trans (stray_end f hlt)
      clear HS
      go_wp2
      go_ret
      exact ⟨by rw [HN.out]; rfl, rfl⟩
set_option maxHeartbeats 2000000 in
theorem diag24 (c f t : Int) (w : World) : Calls Tryd.prog 24 #[.int .i64 c, .int .i64 f, .int .i64 t] w fun e w' => e = .returned (.agg #[.int .i64 c, .int .i64 f, .int .i64 t]) ∧ Below w.heap.size w w' := by
  go_enter Tryd.func24, Tryd.ntmps24
  go_wp2
  exact bodyPost_ret (v := .agg #[.int .i64 c, .int .i64 f, .int .i64 t]) (by simp [results, Tryd.results24, go_sem]) rfl ⟨rfl, below_cells _ _ _⟩
/-- The place behind blanks and remarks. -/
def blk (s : ByteArray) : Nat → Nat → Nat
  | 0, p => p
  | f + 1, p =>
    if p < s.size then
      (if blB (bt s.data.toList p) then blk s f (p + 1)
       else if 0 < rmk (s.data.toList.drop p) then blk s f (p + rmk (s.data.toList.drop p))
       else p)
    else p
theorem rmk_iff (l : List UInt8) : 0 < rmk l ↔ bt l 0 = 47 ∧ bt l 1 = 47 ∧ 1 < l.length := by
  constructor
  · intro h
    obtain ⟨a, b, c, _⟩ := rmk_pos l h
    exact ⟨a, b, c⟩
  · rintro ⟨a, b, c⟩
    have hp : Lib.hasPrefix l [47, 47] = true := by
      match l, c with
      | x :: y :: r, _ =>
        simp [bt] at a b
        have hx : x = 47 := UInt8.toNat_inj.1 a
        have hy : y = 47 := UInt8.toNat_inj.1 b
        simp [Lib.hasPrefix, List.isPrefixOf, hx, hy]
    unfold rmk
    rw [hp, if_pos rfl]
    rcases index_nat l 10 with ⟨e, h0⟩ | ⟨k, e, h2, h3, h4⟩
    · rw [e, if_neg (by omega)]
      omega
    · rw [e, if_pos (by omega)]
      rcases (by omega : k = 0 ∨ 0 < k) with rfl | h
      · rw [a] at h3
        cases h3
      · omega
set_option maxRecDepth 100000 in
set_option maxHeartbeats 4000000 in
theorem blank26 (s : ByteArray) (a : Nat) (w : World) (hs : s.size ≤ 140737488355328) (ha : a ≤ s.size) : Calls Tryd.prog 26 #[.string s, .int .i64 a] w fun e w' => e = .returned (.int .i64 (blk s (s.size - a) a)) ∧ w' = w := by
  obtain ⟨r, hr⟩ : ∃ r, r = blk s (s.size - a) a := ⟨_, rfl⟩
  rw [← hr]
  have HR : Hid (r = blk s (s.size - a) a) := hr
  clear hr
  have hat := at_bt s
  have hL := len_of s
  have HA : Hid (∀ k (h : k < s.size), s[k].toNat = bt s.data.toList k) := hat
  have HL : Hid (s.data.toList.length = s.size) := hL
  clear hat hL
  go_enter Tryd.func26, Tryd.ntmps26
  go_wp2
  go_loop [1] (fun i => ∃ p f : Nat, p ≤ s.size ∧ i = .int .i64 p ∧ s.size ≤ p + f ∧ Hid (blk s f p = r)) (fun i => s.size - (intOf i).toNat)
  case atStart => exact ⟨a, s.size - a, ha, rfl, by omega, HR.out.symm⟩
  case round =>
    obtain ⟨p, f, hp, rfl, hf, HS⟩ := hrel
    by_cases hlt : p < s.size
    · obtain ⟨f, rfl⟩ : ∃ f', f = f' + 1 := ⟨f - 1, by omega⟩
      have hst : (if p < s.size then (if blB (bt s.data.toList p) then blk s f (p + 1) else if 0 < rmk (s.data.toList.drop p) then blk s f (p + rmk (s.data.toList.drop p)) else p) else p) = r := HS.out
      rw [if_pos hlt] at hst
      have hb1 : s[p].toNat = bt s.data.toList p := HA.out p hlt
      clear HS
      cases hb : blB (bt s.data.toList p)
      · rw [hb] at hst
        simp only [Bool.false_eq_true, if_false] at hst
        obtain ⟨n1, n2, n3, n4⟩ := bl_no hb
        have q1 : ¬ (bt s.data.toList p : Int) = 32 := by omega
        have q2 : ¬ (bt s.data.toList p : Int) = 9 := by omega
        have q3 : ¬ (bt s.data.toList p : Int) = 10 := by omega
        have q4 : ¬ (bt s.data.toList p : Int) = 13 := by omega
        clear hb n1 n2 n3 n4
        by_cases hrm : 0 < rmk (s.data.toList.drop p)
        · obtain ⟨r0, r1, r2, r3, r4, r5, r6⟩ := rmk_pos _ hrm
          rw [List.length_drop] at r2 r3 r5
          rw [bt_drop, Nat.add_zero] at r0
          rw [bt_drop] at r1 r5
          have HS : Hid (blk s f (p + rmk (s.data.toList.drop p)) = r) := by
            rw [if_pos hrm] at hst
            exact hst
          have HJ : Hid (∀ j, j < rmk (s.data.toList.drop p) → ¬ bt s.data.toList (p + j) = 10) := fun j hj => by
            have := r6 j hj
            rwa [bt_drop] at this
          have hL := HL.out
          have hp1 : p + 1 < s.size := by omega
          have HE : Hid (p + rmk (s.data.toList.drop p) = s.size ∨ bt s.data.toList (p + rmk (s.data.toList.drop p)) = 10) := r5.elim (fun h => .inl (by have := HL.out; omega)) .inr
          have hb2 : s[p + 1].toNat = 47 := by rw [HA.out (p + 1) hp1, r1]
          rw [r0] at hb1
          clear r6 r5 hst r0 r1 q1 q2 q3 q4 hrm
          generalize rmk (s.data.toList.drop p) = m at *
          generalize s.data.toList = l at *
          go_wp2
          go_loop [1] (fun i => ∃ j : Nat, j ≤ m ∧ i = .int .i64 ((p + j : Nat) : Int)) (fun i => s.size - (intOf i).toNat)
          case atStart => exact ⟨0, by omega, rfl⟩
          case round =>
            obtain ⟨j, hj, rfl⟩ := hrel
            by_cases hjm : j < m
            · have hbj : s[p + j].toNat = bt l (p + j) := HA.out (p + j) (by omega)
              have hn : ¬ (bt l (p + j) : Int) = 10 := by have := HJ.out j hjm; omega
              clear hb1 hb2
              go_wp2
              go_round
              case rel => exact ⟨j + 1, by omega, by go_num⟩
              case measure => simp [intOf]; omega
            · obtain rfl : j = m := by omega
              clear hb1 hb2
              by_cases hend : p + j < s.size
              · have hbj : s[p + j].toNat = 10 := by
                  rw [HA.out (p + j) hend]
                  rcases HE.out with h | h
                  · omega
                  · exact h
                go_wp2
                go_round
                case rel => exact ⟨p + j, f, by omega, by go_num, by omega, HS.out⟩
                case measure => simp [intOf]; omega
              · go_wp2
                go_round
                case rel => exact ⟨p + j, f, by omega, by go_num, by omega, HS.out⟩
                case measure => simp [intOf]; omega
        · have HS : Hid (p = r) := by
            rw [if_neg hrm] at hst
            exact hst
          have hno : ¬ (bt s.data.toList p = 47 ∧ p + 1 < s.size ∧ bt s.data.toList (p + 1) = 47) := fun ⟨h1, h2, h3⟩ => hrm ((rmk_iff _).2 ⟨by rw [bt_drop]; exact h1, by rw [bt_drop]; exact h3, by rw [List.length_drop]; have := HL.out; omega⟩)
          clear hst hrm
          by_cases h47 : bt s.data.toList p = 47
          · rw [h47] at hb1
            by_cases h1 : p + 1 < s.size
            · have hb2 : s[p + 1].toNat = bt s.data.toList (p + 1) := HA.out (p + 1) h1
              have hn : ¬ (bt s.data.toList (p + 1) : Int) = 47 := fun e => hno ⟨h47, h1, by omega⟩
              have h1' : ¬ (p : Int) + 1 = s.size := by omega
              clear hno h47 q1 q2 q3 q4
              generalize bt s.data.toList (p + 1) = c at *
              have hnb : ((c : Int) != 47) = true := by simpa using hn
              go_wp2
              go_ret
              exact ⟨ret_int (by rw [← HS.out]), rfl⟩
            · have h1' : (p : Int) + 1 = s.size := by omega
              clear hno h47 q1 q2 q3 q4
              go_wp2
              go_ret
              exact ⟨ret_int (by rw [← HS.out]), rfl⟩
          · have h47' : ¬ (bt s.data.toList p : Int) = 47 := by omega
            clear hno h47
            generalize bt s.data.toList p = c at *
            have h47b : ((c : Int) != 47) = true := by simpa using h47'
            have p1 : ((c : Int) == 32) = false := by simpa using q1
            have p2 : ((c : Int) == 9) = false := by simpa using q2
            have p3 : ((c : Int) == 10) = false := by simpa using q3
            have p4 : ((c : Int) == 13) = false := by simpa using q4
            go_wp2
            go_ret
            exact ⟨ret_int (by rw [← HS.out]), rfl⟩
      · rw [hb] at hst
        simp only [if_true] at hst
        have HS : Hid (blk s f (p + 1) = r) := hst
        have hbv := (blB_iff _).1 hb
        clear hst hb
        generalize bt s.data.toList p = c at *
        rcases hbv with rfl | rfl | rfl | rfl
        all_goals
          go_wp2
          go_round
          case rel => exact ⟨p + 1, f, by omega, by go_num, by omega, HS.out⟩
          case measure => simp [intOf]; omega
    · have HN : Hid (p = r) := by
        have h := HS.out
        cases f with
        | zero => exact h
        | succ f =>
          have h' : (if p < s.size then _ else p) = r := h
          rw [if_neg hlt] at h'
          exact h'
      clear HS
      go_wp2
      go_ret
      exact ⟨ret_int (by rw [← HN.out]), rfl⟩
end Go.Proofs.YtgdbfedagdlgkaaDoor
