/- What is wrong with pages, by the document. -/
import Derived.Test.YtndbkkldfinggaaY2
import Derived.BigQuiet
namespace Go.Proofs.Ytndbkkldfinggaa
open Go.RowKit Go.Shelf
theorem fromE_bl {k p : Nat → Int} {bl : Nat → Nat} : ∀ n, fromE k p bl n = 0 → ∀ i, i < n → bl i = 4096
  | 0, _, _, h => by omega
  | n + 1, h, i, hi => by
    have h0 : fromE k p bl n = 0 := by
      by_cases e : fromE k p bl n = 0
      · exact e
      · rw [fromE, if_neg e] at h; exact absurd h e
    by_cases e : i = n
    · subst e
      rw [fromE, if_pos h0] at h
      unfold stepE at h
      split at h
      · cases h
      · rename_i hb
        unfold badB at hb
        by_cases ha : bl i = 4096
        · exact ha
        · simp [ha] at hb
    · exact fromE_bl n h0 i (by omega)
theorem arg_row {W0 w : World} {v : Value} {b r len : Nat} {k p : Nat → Int} {ao : Nat → Option Addr} {bl bc : Nat → Nat} {Y : Nat → Nat → Int} {base : Nat} {ps : List Pgd} (hF : Fr W0 b r len k p Y base ps) (hbl : ∀ i, i < len → bl i = 4096) (hY : ∀ i j, 0 ≤ Y i j ∧ Y i j < 256) (h : PgArg w v len k p ao bl bc Y) :
    ∃ a cap, v = .slice a ps.length cap ∧ (0 < ps.length → ∃ lb lo g o c, a = some ⟨lb, lo, none⟩ ∧ Row w lb lo ps.length (fun i => (ordP ps i).k) (fun i => (ordP ps i).p) (fun i j => btOf W0 (ordP ps i).g j) g o c) := by
  have hl := hF.len
  obtain ⟨⟨x, cap, rfl, _, hs⟩, _⟩ := h
  refine ⟨x, cap, by rw [hl], fun h0 => ?_⟩
  obtain ⟨lb, lo, rfl, hS⟩ := hs (by omega)
  have H : ∀ i, ∃ g : Nat, ∃ o : Nat, i < len → ao i = some ⟨g, o, none⟩ ∧ ∀ j, j < 4096 → w.cell? ⟨g, o + j, none⟩ = some (.int .u8 (Y i j)) := fun i => by
    by_cases hi : i < len
    · obtain ⟨g, o, h1, h2⟩ := hS.cs i hi (hbl i hi)
      exact ⟨g, o, fun _ => ⟨h1, h2⟩⟩
    · exact ⟨0, 0, fun h => absurd h hi⟩
  obtain ⟨g, hg⟩ := Classical.axiomOfChoice H
  obtain ⟨o, ho⟩ := Classical.axiomOfChoice hg
  refine ⟨lb, lo, g, o, bc, rfl, ?_⟩
  have R : Row w lb lo ps.length k p Y g o bc := ⟨fun i hi => hS.c0 i (by omega), fun i hi => hS.c1 i (by omega), fun i hi => by rw [hS.c2 i (by omega), (ho i (by omega)).1, hbl i (by omega)], fun i hi => (ho i (by omega)).2⟩
  refine R.congr (fun i hi => ?_) (fun i hi => ?_) (fun i hi j hj => ?_)
  · rw [hF.ordP i hi, (hF.at_ i _ (List.getElem?_eq_getElem hi)).1]
  · rw [hF.ordP i hi, (hF.at_ i _ (List.getElem?_eq_getElem hi)).2.1]
  · rw [hF.ordP i hi, btOf_at ((hF.data i _ (List.getElem?_eq_getElem hi)).2 j hj) (hY i j)]
set_option maxHeartbeats 1000000 in
theorem perm13 (p : Int) (w : World) : Calls Try.prog 13 #[.int .i64 p] w fun e w' => e = .returned (.bool (permB p)) ∧ w' = w := by
  by_cases h1 : 0 < p
  · have h1' : 1 ≤ p := by omega
    by_cases h2 : p ≤ 7
    · go_enter Try.func13, Try.ntmps13
      go_wp2
      all_goals go_ret
      all_goals exact ⟨ret_bool (by simp [permB, h1, h2]), rfl⟩
    · go_enter Try.func13, Try.ntmps13
      go_wp2
      all_goals go_ret
      all_goals exact ⟨ret_bool (by unfold permB; rw [decide_eq_false (p := p ≤ 7) (by omega)]; simp), rfl⟩
  · have h1' : ¬ 1 ≤ p := by omega
    go_enter Try.func13, Try.ntmps13
    go_wp2
    all_goals go_ret
    all_goals exact ⟨ret_bool (by unfold permB; rw [decide_eq_false (p := 0 < p) (by omega)]; rfl), rfl⟩
set_option maxHeartbeats 1000000 in
theorem wrong_great (ao : Option Addr) (len cap : Nat) (w : World) (hl : 4096 < len) : Calls Try.prog 5 #[.slice ao len cap] w fun e w' => e = .returned (.int .i64 20) ∧ w' = w := by
  go_enter Try.func5, Try.ntmps5
  go_wp2
  go_ret
  exact ⟨rfl, rfl⟩
set_option maxHeartbeats 1000000 in
theorem wrong_zero (ao : Option Addr) (cap : Nat) (w : World) : Calls Try.prog 5 #[.slice ao 0 cap] w fun e w' => e = .returned (.int .i64 0) ∧ w' = w := by
  go_enter Try.func5, Try.ntmps5
  go_wp2
  go_loopw [3] (fun x wr => x = .int .i64 0 ∧ wr = w) (fun _ _ => 0)
  case atStart => exact ⟨rfl, rfl⟩
  case round =>
    obtain ⟨rfl, rfl⟩ := hrel
    go_wp2
    go_ret
    exact ⟨rfl, rfl⟩
set_option maxHeartbeats 2000000 in
set_option maxRecDepth 100000 in
theorem wrong_some (lb lo len cap : Nat) (k p : Nat → Int) (ao : Nat → Option Addr) (bl bc : Nat → Nat) (Y : Nat → Nat → Int) (w : World) (hS : PgSrc w lb lo len k p ao bl bc Y) (hl : len ≤ 4096) (hlc : len ≤ cap) :
    Calls Try.prog 5 #[.slice (some ⟨lb, lo, none⟩) len cap] w fun e w' => e = .returned (.int .i64 (fromE k p bl len)) ∧ Below w.heap.size w w' := by
  have HS : Hid (PgSrc w lb lo len k p ao bl bc Y) := hS
  clear hS
  go_enter Try.func5, Try.ntmps5
  go_wp2
  go_loopw [3] (fun x wr => ∃ i : Nat, i ≤ len ∧ x = .int .i64 i ∧ fromE k p bl i = 0 ∧ Below w.heap.size w wr) (fun x _ => len - (intOf x).toNat)
  case atStart => exact ⟨0, Nat.zero_le _, rfl, rfl, Below.refl _ _⟩
  case round =>
    obtain ⟨i, hi, rfl, h0, hbl⟩ := hrel
    have HB : Hid (Below w.heap.size w wr) := hbl
    have H0 : Hid (fromE k p bl i = 0) := h0
    clear hbl h0
    by_cases hlt : i < len
    · have hSr := HS.out.below HB.out
      have d0 := hSr.c0 i hlt
      have d1 := hSr.c1 i hlt
      have d2 := hSr.c2 i hlt
      have hlb : lb < wr.heap.size := lt_of_cell d0
      have rk := hSr.rk i hlt
      have HE : Hid (stepE k p bl i = if badB k bl i then 20 else if permB (p i) then 0 else 21) := rfl
      have HK1 : Hid (badB k bl i = (decide (¬ k i % 4096 = 0) || (decide (281474976710656 ≤ k i) || ((decide (0 < i) && decide (k i ≤ k (i - 1))) || decide (¬ bl i = 4096))))) := rfl
      have HX : Hid (∀ v, ¬ v = 0 → stepE k p bl i = v → fromE k p bl len = v) := fun v hv he => fromE_bad H0.out hlt he hv
      have HP : Hid (∀ W, Calls Try.prog 13 #[.int .i64 (p i)] W fun e w' => e = .returned (.bool (permB (p i))) ∧ w' = W) := perm13 (p i)
      have HN : Hid (∀ c : Bool, badB k bl i = false → permB (p i) = true → fromE k p bl (i + 1) = 0) := fun _ h1 h2 => by rw [fromE, if_pos H0.out, HE.out, h1, h2]; rfl
      clear hSr
      obtain ⟨rk0, rk1⟩ := rk
      by_cases hk : k i % 4096 = 0
      · have hkb : (k i % 4096 != 0) = false := by simpa using hk
        by_cases hk2 : 281474976710656 ≤ k i
        · have hk2b : decide (281474976710656 ≤ k i) = true := by simpa using hk2
          go_wp2_with fail
          go_quiet (fail)
          go_wp2
          go_ret
          exact ⟨by rw [HX.out 20 (by decide) (by rw [HE.out, HK1.out]; simp [hk2])]; rfl, below_drewN (HB.out.alloc HB.out.size _) _⟩
        · have hk2b : decide (281474976710656 ≤ k i) = false := by simpa using hk2
          by_cases hi0 : 0 < i
          · have hi1 : decide (0 < (i : Int)) = true := by simp; omega
            have dm : wr.cell? ⟨lb, lo + (i - 1) * 3, none⟩ = some (.int .u64 (k (i - 1))) := (HS.out.below HB.out).c0 (i - 1) (by omega)
            by_cases hq : k i ≤ k (i - 1)
            · have hqb : decide (k i ≤ k (i - 1)) = true := by simpa using hq
              go_wp2_with fail
              go_quiet (fail)
              go_wp2
              go_ret
              exact ⟨by rw [HX.out 20 (by decide) (by rw [HE.out, HK1.out]; simp [hq, hi0])]; rfl, below_drewN (HB.out.alloc HB.out.size _) _⟩
            · have hqb : decide (k i ≤ k (i - 1)) = false := by simpa using hq
              by_cases hb : bl i = 4096
              · have hbb : (((bl i : Nat) : Int) != 4096) = false := by simp [hb]
                have HOK : Hid (badB k bl i = false) := (by rw [HK1.out]; simp [hk, hk2, hq, hb] : badB k bl i = false)
                go_wp2_with fail
                go_quiet (fail)
                go_wp2_with fail
                refine (HP.out _).mono ?_
                rintro e w5 ⟨rfl, e5⟩
                have HB5 : Hid (Below w.heap.size w w5) := (by rw [e5]; exact below_drewN (HB.out.alloc HB.out.size _) _ : Below w.heap.size w w5)
                clear e5 d0 d1 d2
                cases hpm : permB (p i)
                · go_wp2
                  go_ret
                  exact ⟨by rw [HX.out 21 (by decide) (by rw [HE.out, HOK.out, hpm]; rfl)]; rfl, HB5.out⟩
                · have HST : Hid (fromE k p bl (i + 1) = 0) := HN.out true HOK.out hpm
                  go_wp2
                  go_roundw
                  case rel => exact ⟨i + 1, by omega, by go_num, HST.out, HB5.out⟩
                  case measure => simp [intOf]; omega
              · have hbb : (((bl i : Nat) : Int) != 4096) = true := by simp; omega
                go_wp2_with fail
                go_quiet (fail)
                go_wp2
                go_ret
                exact ⟨by rw [HX.out 20 (by decide) (by rw [HE.out, HK1.out]; simp [hb])]; rfl, below_drewN (HB.out.alloc HB.out.size _) _⟩
          · have hi1 : decide (0 < (i : Int)) = false := by simp; omega
            by_cases hb : bl i = 4096
            · have hbb : (((bl i : Nat) : Int) != 4096) = false := by simp [hb]
              have HOK : Hid (badB k bl i = false) := (by rw [HK1.out]; simp [hk, hk2, hi0, hb] : badB k bl i = false)
              go_wp2_with fail
              go_quiet (fail)
              go_wp2_with fail
              refine (HP.out _).mono ?_
              rintro e w5 ⟨rfl, e5⟩
              have HB5 : Hid (Below w.heap.size w w5) := (by rw [e5]; exact below_drewN (HB.out.alloc HB.out.size _) _ : Below w.heap.size w w5)
              clear e5 d0 d1 d2
              cases hpm : permB (p i)
              · go_wp2
                go_ret
                exact ⟨by rw [HX.out 21 (by decide) (by rw [HE.out, HOK.out, hpm]; rfl)]; rfl, HB5.out⟩
              · have HST : Hid (fromE k p bl (i + 1) = 0) := HN.out true HOK.out hpm
                go_wp2
                go_roundw
                case rel => exact ⟨i + 1, by omega, by go_num, HST.out, HB5.out⟩
                case measure => simp [intOf]; omega
            · have hbb : (((bl i : Nat) : Int) != 4096) = true := by simp; omega
              go_wp2_with fail
              go_quiet (fail)
              go_wp2
              go_ret
              exact ⟨by rw [HX.out 20 (by decide) (by rw [HE.out, HK1.out]; simp [hb])]; rfl, below_drewN (HB.out.alloc HB.out.size _) _⟩
      · have hkb : (k i % 4096 != 0) = true := by simpa using hk
        go_wp2_with fail
        go_quiet (fail)
        go_wp2
        go_ret
        exact ⟨by rw [HX.out 20 (by decide) (by rw [HE.out, HK1.out]; simp [hk])]; rfl, below_drewN (HB.out.alloc HB.out.size _) _⟩
    · obtain rfl : i = len := by omega
      go_wp2
      go_ret
      exact ⟨by rw [H0.out]; rfl, HB.out⟩
theorem wrong_any {v : Value} {len : Nat} {k p : Nat → Int} {ao : Nat → Option Addr} {bl bc : Nat → Nat} {Y : Nat → Nat → Int} (w : World) (h : PgArg w v len k p ao bl bc Y) : Calls Try.prog 5 #[v] w fun e w' => e = .returned (.int .i64 (errE len k p bl)) ∧ Below w.heap.size w w' := by
  obtain ⟨⟨x, cap, rfl, hc, hs⟩, hy⟩ := h
  unfold errE
  by_cases hg : 4096 < len
  · rw [if_pos hg]
    exact (wrong_great x len cap w hg).mono fun e w' ⟨h1, h2⟩ => ⟨h1, h2 ▸ Below.refl _ _⟩
  · rw [if_neg hg]
    rcases Nat.eq_zero_or_pos len with rfl | h0
    · exact (wrong_zero x cap w).mono fun e w' ⟨h1, h2⟩ => ⟨h1, h2 ▸ Below.refl _ _⟩
    · obtain ⟨lb, lo, rfl, hS⟩ := hs h0
      exact wrong_some lb lo len cap k p ao bl bc Y w hS (by omega) hc
end Go.Proofs.Ytndbkkldfinggaa
