/- Of a memory: its pages in order (S6). -/
import Derived.Test.YtnmpbihpoefeoaaDoorLA
namespace Go.Proofs.YtnmpbihpoefeoaaDoor
open Go.RowKit Go.Shelf Go.Sort
theorem sc_go {d : Array Int} {b i : Nat} (h : i < b) (hp : ltInt d[i]! d[i - 1]! = false) : scanSorted ltInt d b i = scanSorted ltInt d b (i + 1) := by
  rw [scanSorted, if_pos (by rw [hp, decide_eq_true h]; rfl)]
theorem sc_stop {d : Array Int} {b i : Nat} (h : ¬ i < b ∨ ltInt d[i]! d[i - 1]! = true) : scanSorted ltInt d b i = i := by
  rw [scanSorted, if_neg]
  rcases h with h | h
  · rw [decide_eq_false h]; simp
  · rw [h]; simp
theorem sd_stop {j : Nat} {d : Array Int} (h : j = 0 ∨ ltInt d[j]! d[j - 1]! = false) : shiftDown ltInt j d = d := by
  cases j with
  | zero => rfl
  | succ k =>
    rcases h with h | h
    · cases h
    · have h' : ltInt d[k + 1]! d[k]! = false := h
      rw [shiftDown, if_pos (by rw [h']; rfl)]
theorem sd_go {j : Nat} {d : Array Int} (h : 1 ≤ j) (hl : ltInt d[j]! d[j - 1]! = true) : shiftDown ltInt j d = shiftDown ltInt (j - 1) (swp d j (j - 1)) := by
  obtain ⟨k, rfl⟩ : ∃ k, j = k + 1 := ⟨j - 1, by omega⟩
  have h' : ltInt d[k + 1]! d[k]! = true := hl
  rw [shiftDown, if_neg (by rw [h']; decide)]
  rfl
theorem su_stop {b j : Nat} {d : Array Int} (h : ¬ j < b ∨ ltInt d[j]! d[j - 1]! = false) : shiftUp ltInt b j d = d := by
  rw [shiftUp]
  split
  · rename_i hj
    rcases h with h | h
    · exact absurd hj h
    · rw [if_pos (by rw [h]; rfl)]
  · rfl
theorem su_go {b j : Nat} {d : Array Int} (h : j < b) (hl : ltInt d[j]! d[j - 1]! = true) : shiftUp ltInt b j d = shiftUp ltInt b (j + 1) (swp d j (j - 1)) := by
  rw [shiftUp, if_pos h, if_neg (by rw [hl]; decide)]
theorem pi_true {a b s i : Nat} {d : Array Int} (h : scanSorted ltInt d b i = b) : partialIns ltInt a b (s + 1) i d = (d, true) := by
  simp only [partialIns]; rw [h, if_pos rfl]
theorem pi_false {a b s i i2 : Nat} {d : Array Int} (h : scanSorted ltInt d b i = i2) (hne : i2 ≠ b) (h50 : b - a < 50) : partialIns ltInt a b (s + 1) i d = (d, false) := by
  simp only [partialIns]; rw [h, if_neg hne, if_pos h50]
theorem pi_go {a b s i i2 : Nat} {d d2 d3 : Array Int} (h : scanSorted ltInt d b i = i2) (hne : i2 ≠ b) (h50 : ¬ b - a < 50) (h3 : (if i2 - a ≥ 2 then shiftDown ltInt (i2 - 1) (swp d i2 (i2 - 1)) else swp d i2 (i2 - 1)) = d2) (h4 : (if b - i2 ≥ 2 then shiftUp ltInt b (i2 + 1) d2 else d2) = d3) : partialIns ltInt a b (s + 1) i d = partialIns ltInt a b s i2 d3 := by
  simp only [partialIns]; rw [h, if_neg hne, if_neg h50, h3, h4]
set_option maxHeartbeats 16000000 in
set_option maxRecDepth 100000 in
theorem pis66 (blk off len cap a b : Nat) (d : Array Int) (w : World) (hH : Rw w blk off d w) (hsz : d.size = len) (hs : len ≤ 65536) (hab : a < b) (hb : b ≤ len) :
    Calls Tryd.prog 91 #[.slice (some ⟨blk, off, none⟩) len cap, .int .i64 a, .int .i64 b] w fun e w' => e = .returned (.bool (Sort.partialInsertionSort ltInt d a b).2) ∧ Rw w blk off (Sort.partialInsertionSort ltInt d a b).1 w' := by
  obtain ⟨R, hR⟩ : ∃ R, Sort.partialInsertionSort ltInt d a b = R := ⟨_, rfl⟩
  rw [hR]
  have HD : Hid (partialIns ltInt a b 5 (a + 1) d = R) := hR
  clear hR
  go_enter Tryd.func91, Tryd.ntmps91
  go_wp2_with fail
  go_loopw [7, 8] (fun vi vc wr => ∃ (i c s : Nat) (dk : Array Int), vi = .int .i64 i ∧ vc = .int .i64 c ∧ c + s = 5 ∧ a + 1 ≤ i ∧ i ≤ b ∧ dk.size = len ∧ Rw w blk off dk wr ∧ partialIns ltInt a b s i dk = R) (fun _ vc _ => 5 - (intOf vc).toNat)
  case atStart => exact ⟨a + 1, 0, 5, d, by go_num, rfl, rfl, Nat.le_refl _, by omega, hsz, hH, HD.out⟩
  case round =>
    obtain ⟨i, c, s, dk, rfl, rfl, hcs, hi, hib, hsk, hR, hO⟩ := hrel
    have HR : Hid (Rw w blk off dk wr) := hR
    have HO : Hid (partialIns ltInt a b s i dk = R) := hO
    clear hR hO hH
    rcases s with _ | s
    · obtain rfl : c = 5 := by omega
      obtain rfl : (dk, false) = R := HO.out
      go_wp2
      go_ret
      exact ⟨rfl, HR.out⟩
    · have hc5 : c < 5 := by omega
      go_wp2_with fail
      go_loopw [7] (fun vi wr2 => ∃ i2 : Nat, vi = .int .i64 i2 ∧ i ≤ i2 ∧ i2 ≤ b ∧ Rw w blk off dk wr2 ∧ scanSorted ltInt dk b i2 = scanSorted ltInt dk b i) (fun vi _ => b - (intOf vi).toNat)
      case atStart => exact ⟨i, rfl, Nat.le_refl _, hib, HR.out, rfl⟩
      case round =>
        obtain ⟨i2, rfl, hi2, hi3, hR2, hU⟩ := hrel
        obtain ⟨G, hG, hcw, hfw⟩ := hR2.fam
        rw [hsk] at hcw hfw
        have HR2 : Hid (Rw w blk off dk wr) := hR2
        have HG : Hid (∀ t, G t = dk[t]!) := hG
        have HU : Hid (scanSorted ltInt dk b i2 = scanSorted ltInt dk b i) := hU
        clear hR2 hG hU
        by_cases hij : i2 < b
        · cases hl : ltInt (G i2) (G (i2 - 1))
          · go_wp2
            go_quiet (first | (go_at_call 92; refine Calls.quiet_of_same (less67 _ _ _)))
            go_wp2
            go_roundw
            case rel => exact ⟨i2 + 1, by go_num, by omega, by omega, HR2.out.drewN _, by rw [← HU.out, ← sc_go hij (by rw [← HG.out, ← HG.out]; exact hl)]⟩
            case measure => simp [intOf]; omega
          · have HX : Hid (scanSorted ltInt dk b i = i2) := (by rw [← HU.out]; exact sc_stop (.inr (by rw [← HG.out, ← HG.out]; exact hl)) : scanSorted ltInt dk b i = i2)
            by_cases h50 : b - a < 50
            · have h50i : (b : Int) - (a : Int) < 50 := by omega
              have HN : Hid ((dk, false) = R) := (by rw [← HO.out, pi_false HX.out (by omega) h50] : (dk, false) = R)
              go_wp2
              go_quiet (first | (go_at_call 92; refine Calls.quiet_of_same (less67 _ _ _)))
              have HRq7 : Hid (Rw w blk off dk (wr.drewN nq)) := HR2.out.drewN _; have hcq7 : ∀ t, t < len → (wr.drewN nq).cell? ⟨blk, off + t, none⟩ = some (.int .u64 (G t)) := hcw; have hfq7 : ∀ t, t < len → (wr.drewN nq).frozen? ⟨blk, off + t, none⟩ = false := hfw; clear hcw hfw; generalize wr.drewN nq = wq7 at *
              go_wp2
              go_ret
              obtain rfl := HN.out
              exact ⟨rfl, HRq7.out⟩
            · have h50i : (50 : Int) ≤ (b : Int) - (a : Int) := by omega
              by_cases ha2 : 2 ≤ i2 - a
              · have ha2i : (2 : Int) ≤ (i2 : Int) - (a : Int) := by omega
                go_wp2
                go_quiet (first | (go_at_call 92; refine Calls.quiet_of_same (less67 _ _ _)))
                have HRq7 : Hid (Rw w blk off dk (wr.drewN nq)) := HR2.out.drewN _; have hcq7 : ∀ t, t < len → (wr.drewN nq).cell? ⟨blk, off + t, none⟩ = some (.int .u64 (G t)) := hcw; have hfq7 : ∀ t, t < len → (wr.drewN nq).frozen? ⟨blk, off + t, none⟩ = false := hfw; clear hcw hfw; generalize wr.drewN nq = wq7 at *
                have HW1 : Hid (Rw w blk off (swp dk (i2) (i2 - 1)) ((wq7.setCell ⟨blk, off + (i2), none⟩ (.int .u64 (G (i2 - 1)))).setCell ⟨blk, off + (i2 - 1), none⟩ (.int .u64 (G (i2))))) := (by rw [HG.out, HG.out]; exact HRq7.out.swap (i2) (i2 - 1) : Rw w blk off (swp dk (i2) (i2 - 1)) ((wq7.setCell ⟨blk, off + (i2), none⟩ (.int .u64 (G (i2 - 1)))).setCell ⟨blk, off + (i2 - 1), none⟩ (.int .u64 (G (i2)))))
                go_wp2
                go_region
                all_goals go_wp2_with fail
                clear hcq7 hfq7
                go_loopw [9] (fun vj wr3 => ∃ (j : Nat) (dj : Array Int), vj = .int .i64 j ∧ j ≤ i2 - 1 ∧ dj.size = len ∧ Rw w blk off dj wr3 ∧ shiftDown ltInt j dj = shiftDown ltInt (i2 - 1) (swp dk i2 (i2 - 1))) (fun vj _ => (intOf vj).toNat)
                case atStart => exact ⟨i2 - 1, _, by congr 1; omega, Nat.le_refl _, by rw [size_swp]; exact hsk, HW1.out.drew, rfl⟩
                case round =>
                  obtain ⟨j, dj, rfl, hji, hsj, hR3, hS3⟩ := hrel
                  obtain ⟨G, hG, hcw, hfw⟩ := hR3.fam
                  rw [hsj] at hcw hfw
                  have HR3 : Hid (Rw w blk off dj wr) := hR3
                  have HG : Hid (∀ t, G t = dj[t]!) := hG
                  have HS3 : Hid (shiftDown ltInt j dj = shiftDown ltInt (i2 - 1) (swp dk i2 (i2 - 1))) := hS3
                  clear hR3 hG hS3
                  by_cases hj1 : 1 ≤ j
                  · cases hl3 : ltInt (G j) (G (j - 1))
                    · have H3 : Hid ((if i2 - a ≥ 2 then shiftDown ltInt (i2 - 1) (swp dk i2 (i2 - 1)) else swp dk i2 (i2 - 1)) = dj) := (by rw [if_pos (by omega), ← HS3.out]; exact sd_stop (.inr (by rw [← HG.out, ← HG.out]; exact hl3)) : (if i2 - a ≥ 2 then shiftDown ltInt (i2 - 1) (swp dk i2 (i2 - 1)) else swp dk i2 (i2 - 1)) = dj)
                      by_cases hb2 : 2 ≤ b - i2
                      · have hb2i : (2 : Int) ≤ (b : Int) - (i2 : Int) := by omega
                        go_wp2
                        go_quiet (first | (go_at_call 92; refine Calls.quiet_of_same (less67 _ _ _)))
                        have HRq8 : Hid (Rw w blk off dj (wr.drewN nq)) := HR3.out.drewN _; have hcq8 : ∀ t, t < len → (wr.drewN nq).cell? ⟨blk, off + t, none⟩ = some (.int .u64 (G t)) := hcw; have hfq8 : ∀ t, t < len → (wr.drewN nq).frozen? ⟨blk, off + t, none⟩ = false := hfw; clear hcw hfw; generalize wr.drewN nq = wq8 at *
                        go_wp2_with fail
                        clear hcq8 hfq8
                        go_loopw [10] (fun vj wr4 => ∃ (j : Nat) (dm : Array Int), vj = .int .i64 j ∧ i2 + 1 ≤ j ∧ j ≤ b ∧ dm.size = len ∧ Rw w blk off dm wr4 ∧ shiftUp ltInt b j dm = shiftUp ltInt b (i2 + 1) dj) (fun vj _ => b - (intOf vj).toNat)
                        case atStart => exact ⟨i2 + 1, dj, by go_num, Nat.le_refl _, by omega, hsj, HRq8.out, rfl⟩
                        case round =>
                          obtain ⟨j, dm, rfl, hj1, hj2, hsm, hR4, hS4⟩ := hrel
                          obtain ⟨G, hG, hcw, hfw⟩ := hR4.fam
                          rw [hsm] at hcw hfw
                          have HR4 : Hid (Rw w blk off dm wr) := hR4
                          have HG : Hid (∀ t, G t = dm[t]!) := hG
                          have HS4 : Hid (shiftUp ltInt b j dm = shiftUp ltInt b (i2 + 1) dj) := hS4
                          clear hR4 hG hS4
                          by_cases hjb : j < b
                          · cases hl4 : ltInt (G j) (G (j - 1))
                            · have H4 : Hid (shiftUp ltInt b (i2 + 1) dj = dm) := (by rw [← HS4.out]; exact su_stop (.inr (by rw [← HG.out, ← HG.out]; exact hl4)) : shiftUp ltInt b (i2 + 1) dj = dm)
                              go_wp2
                              go_quiet (first | (go_at_call 92; refine Calls.quiet_of_same (less67 _ _ _)))
                              have HRq9 : Hid (Rw w blk off dm (wr.drewN nq)) := HR4.out.drewN _; have hcq9 : ∀ t, t < len → (wr.drewN nq).cell? ⟨blk, off + t, none⟩ = some (.int .u64 (G t)) := hcw; have hfq9 : ∀ t, t < len → (wr.drewN nq).frozen? ⟨blk, off + t, none⟩ = false := hfw; clear hcw hfw; generalize wr.drewN nq = wq9 at *
                              go_wp2
                              go_roundw
                              case rel => exact ⟨i2, c + 1, s, dm, rfl, by go_num, by omega, by omega, by omega, hsm, HRq9.out, by rw [← HO.out, pi_go (d3 := dm) HX.out (by omega) (by omega) H3.out (by rw [if_pos (by omega)]; exact H4.out)]⟩
                              case measure => simp [intOf]; omega
                            · go_wp2
                              go_quiet (first | (go_at_call 92; refine Calls.quiet_of_same (less67 _ _ _)))
                              have HRq9 : Hid (Rw w blk off dm (wr.drewN nq)) := HR4.out.drewN _; have hcq9 : ∀ t, t < len → (wr.drewN nq).cell? ⟨blk, off + t, none⟩ = some (.int .u64 (G t)) := hcw; have hfq9 : ∀ t, t < len → (wr.drewN nq).frozen? ⟨blk, off + t, none⟩ = false := hfw; clear hcw hfw; generalize wr.drewN nq = wq9 at *
                              have HW9 : Hid (Rw w blk off (swp dm (j) (j - 1)) ((wq9.setCell ⟨blk, off + (j), none⟩ (.int .u64 (G (j - 1)))).setCell ⟨blk, off + (j - 1), none⟩ (.int .u64 (G (j))))) := (by rw [HG.out, HG.out]; exact HRq9.out.swap (j) (j - 1) : Rw w blk off (swp dm (j) (j - 1)) ((wq9.setCell ⟨blk, off + (j), none⟩ (.int .u64 (G (j - 1)))).setCell ⟨blk, off + (j - 1), none⟩ (.int .u64 (G (j)))))
                              go_wp2
                              go_region
                              all_goals go_wp2
                              go_roundw
                              case rel => exact ⟨j + 1, swp dm j (j - 1), by go_num, by omega, by omega, by rw [size_swp]; exact hsm, HW9.out.drew, by rw [← HS4.out, su_go hjb (by rw [← HG.out, ← HG.out]; exact hl4)]⟩
                              case measure => simp [intOf]; omega
                          · have H4 : Hid (shiftUp ltInt b (i2 + 1) dj = dm) := (by rw [← HS4.out]; exact su_stop (.inl hjb) : shiftUp ltInt b (i2 + 1) dj = dm)
                            go_wp2
                            go_roundw
                            case rel => exact ⟨i2, c + 1, s, dm, rfl, by go_num, by omega, by omega, by omega, hsm, HR4.out, by rw [← HO.out, pi_go (d3 := dm) HX.out (by omega) (by omega) H3.out (by rw [if_pos (by omega)]; exact H4.out)]⟩
                            case measure => simp [intOf]; omega
                      · have hb2i : (b : Int) - (i2 : Int) < 2 := by omega
                        go_wp2
                        go_quiet (first | (go_at_call 92; refine Calls.quiet_of_same (less67 _ _ _)))
                        have HRq8 : Hid (Rw w blk off dj (wr.drewN nq)) := HR3.out.drewN _; have hcq8 : ∀ t, t < len → (wr.drewN nq).cell? ⟨blk, off + t, none⟩ = some (.int .u64 (G t)) := hcw; have hfq8 : ∀ t, t < len → (wr.drewN nq).frozen? ⟨blk, off + t, none⟩ = false := hfw; clear hcw hfw; generalize wr.drewN nq = wq8 at *
                        go_wp2
                        go_roundw
                        case rel => exact ⟨i2, c + 1, s, dj, rfl, by go_num, by omega, by omega, by omega, hsj, HRq8.out, by rw [← HO.out, pi_go (d3 := dj) HX.out (by omega) (by omega) H3.out (by rw [if_neg (by omega)])]⟩
                        case measure => simp [intOf]; omega
                    · go_wp2
                      go_quiet (first | (go_at_call 92; refine Calls.quiet_of_same (less67 _ _ _)))
                      have HRq8 : Hid (Rw w blk off dj (wr.drewN nq)) := HR3.out.drewN _; have hcq8 : ∀ t, t < len → (wr.drewN nq).cell? ⟨blk, off + t, none⟩ = some (.int .u64 (G t)) := hcw; have hfq8 : ∀ t, t < len → (wr.drewN nq).frozen? ⟨blk, off + t, none⟩ = false := hfw; clear hcw hfw; generalize wr.drewN nq = wq8 at *
                      have HW8 : Hid (Rw w blk off (swp dj (j) (j - 1)) ((wq8.setCell ⟨blk, off + (j), none⟩ (.int .u64 (G (j - 1)))).setCell ⟨blk, off + (j - 1), none⟩ (.int .u64 (G (j))))) := (by rw [HG.out, HG.out]; exact HRq8.out.swap (j) (j - 1) : Rw w blk off (swp dj (j) (j - 1)) ((wq8.setCell ⟨blk, off + (j), none⟩ (.int .u64 (G (j - 1)))).setCell ⟨blk, off + (j - 1), none⟩ (.int .u64 (G (j)))))
                      go_wp2
                      go_region
                      all_goals go_wp2
                      go_roundw
                      case rel => exact ⟨j - 1, swp dj j (j - 1), by congr 1; omega, by omega, by rw [size_swp]; exact hsj, HW8.out.drew, by rw [← HS3.out, sd_go hj1 (by rw [← HG.out, ← HG.out]; exact hl3)]⟩
                      case measure => simp [intOf]; omega
                  · have H3 : Hid ((if i2 - a ≥ 2 then shiftDown ltInt (i2 - 1) (swp dk i2 (i2 - 1)) else swp dk i2 (i2 - 1)) = dj) := (by rw [if_pos (by omega), ← HS3.out]; exact sd_stop (.inl (by omega)) : (if i2 - a ≥ 2 then shiftDown ltInt (i2 - 1) (swp dk i2 (i2 - 1)) else swp dk i2 (i2 - 1)) = dj)
                    by_cases hb2 : 2 ≤ b - i2
                    · have hb2i : (2 : Int) ≤ (b : Int) - (i2 : Int) := by omega
                      go_wp2_with fail
                      clear hcw hfw
                      go_loopw [10] (fun vj wr4 => ∃ (j : Nat) (dm : Array Int), vj = .int .i64 j ∧ i2 + 1 ≤ j ∧ j ≤ b ∧ dm.size = len ∧ Rw w blk off dm wr4 ∧ shiftUp ltInt b j dm = shiftUp ltInt b (i2 + 1) dj) (fun vj _ => b - (intOf vj).toNat)
                      case atStart => exact ⟨i2 + 1, dj, by go_num, Nat.le_refl _, by omega, hsj, HR3.out, rfl⟩
                      case round =>
                        obtain ⟨j, dm, rfl, hj1, hj2, hsm, hR4, hS4⟩ := hrel
                        obtain ⟨G, hG, hcw, hfw⟩ := hR4.fam
                        rw [hsm] at hcw hfw
                        have HR4 : Hid (Rw w blk off dm wr) := hR4
                        have HG : Hid (∀ t, G t = dm[t]!) := hG
                        have HS4 : Hid (shiftUp ltInt b j dm = shiftUp ltInt b (i2 + 1) dj) := hS4
                        clear hR4 hG hS4
                        by_cases hjb : j < b
                        · cases hl4 : ltInt (G j) (G (j - 1))
                          · have H4 : Hid (shiftUp ltInt b (i2 + 1) dj = dm) := (by rw [← HS4.out]; exact su_stop (.inr (by rw [← HG.out, ← HG.out]; exact hl4)) : shiftUp ltInt b (i2 + 1) dj = dm)
                            go_wp2
                            go_quiet (first | (go_at_call 92; refine Calls.quiet_of_same (less67 _ _ _)))
                            have HRq9 : Hid (Rw w blk off dm (wr.drewN nq)) := HR4.out.drewN _; have hcq9 : ∀ t, t < len → (wr.drewN nq).cell? ⟨blk, off + t, none⟩ = some (.int .u64 (G t)) := hcw; have hfq9 : ∀ t, t < len → (wr.drewN nq).frozen? ⟨blk, off + t, none⟩ = false := hfw; clear hcw hfw; generalize wr.drewN nq = wq9 at *
                            go_wp2
                            go_roundw
                            case rel => exact ⟨i2, c + 1, s, dm, rfl, by go_num, by omega, by omega, by omega, hsm, HRq9.out, by rw [← HO.out, pi_go (d3 := dm) HX.out (by omega) (by omega) H3.out (by rw [if_pos (by omega)]; exact H4.out)]⟩
                            case measure => simp [intOf]; omega
                          · go_wp2
                            go_quiet (first | (go_at_call 92; refine Calls.quiet_of_same (less67 _ _ _)))
                            have HRq9 : Hid (Rw w blk off dm (wr.drewN nq)) := HR4.out.drewN _; have hcq9 : ∀ t, t < len → (wr.drewN nq).cell? ⟨blk, off + t, none⟩ = some (.int .u64 (G t)) := hcw; have hfq9 : ∀ t, t < len → (wr.drewN nq).frozen? ⟨blk, off + t, none⟩ = false := hfw; clear hcw hfw; generalize wr.drewN nq = wq9 at *
                            have HW9 : Hid (Rw w blk off (swp dm (j) (j - 1)) ((wq9.setCell ⟨blk, off + (j), none⟩ (.int .u64 (G (j - 1)))).setCell ⟨blk, off + (j - 1), none⟩ (.int .u64 (G (j))))) := (by rw [HG.out, HG.out]; exact HRq9.out.swap (j) (j - 1) : Rw w blk off (swp dm (j) (j - 1)) ((wq9.setCell ⟨blk, off + (j), none⟩ (.int .u64 (G (j - 1)))).setCell ⟨blk, off + (j - 1), none⟩ (.int .u64 (G (j)))))
                            go_wp2
                            go_region
                            all_goals go_wp2
                            go_roundw
                            case rel => exact ⟨j + 1, swp dm j (j - 1), by go_num, by omega, by omega, by rw [size_swp]; exact hsm, HW9.out.drew, by rw [← HS4.out, su_go hjb (by rw [← HG.out, ← HG.out]; exact hl4)]⟩
                            case measure => simp [intOf]; omega
                        · have H4 : Hid (shiftUp ltInt b (i2 + 1) dj = dm) := (by rw [← HS4.out]; exact su_stop (.inl hjb) : shiftUp ltInt b (i2 + 1) dj = dm)
                          go_wp2
                          go_roundw
                          case rel => exact ⟨i2, c + 1, s, dm, rfl, by go_num, by omega, by omega, by omega, hsm, HR4.out, by rw [← HO.out, pi_go (d3 := dm) HX.out (by omega) (by omega) H3.out (by rw [if_pos (by omega)]; exact H4.out)]⟩
                          case measure => simp [intOf]; omega
                    · have hb2i : (b : Int) - (i2 : Int) < 2 := by omega
                      go_wp2
                      go_roundw
                      case rel => exact ⟨i2, c + 1, s, dj, rfl, by go_num, by omega, by omega, by omega, hsj, HR3.out, by rw [← HO.out, pi_go (d3 := dj) HX.out (by omega) (by omega) H3.out (by rw [if_neg (by omega)])]⟩
                      case measure => simp [intOf]; omega
              · have ha2i : (i2 : Int) - (a : Int) < 2 := by omega
                have H3 : Hid ((if i2 - a ≥ 2 then shiftDown ltInt (i2 - 1) (swp dk i2 (i2 - 1)) else swp dk i2 (i2 - 1)) = swp dk i2 (i2 - 1)) := (by rw [if_neg (by omega)] : (if i2 - a ≥ 2 then shiftDown ltInt (i2 - 1) (swp dk i2 (i2 - 1)) else swp dk i2 (i2 - 1)) = swp dk i2 (i2 - 1))
                have hsd : (swp dk i2 (i2 - 1)).size = len := by rw [size_swp]; exact hsk
                by_cases hb2 : 2 ≤ b - i2
                · have hb2i : (2 : Int) ≤ (b : Int) - (i2 : Int) := by omega
                  go_wp2
                  go_quiet (first | (go_at_call 92; refine Calls.quiet_of_same (less67 _ _ _)))
                  have HRq7 : Hid (Rw w blk off dk (wr.drewN nq)) := HR2.out.drewN _; have hcq7 : ∀ t, t < len → (wr.drewN nq).cell? ⟨blk, off + t, none⟩ = some (.int .u64 (G t)) := hcw; have hfq7 : ∀ t, t < len → (wr.drewN nq).frozen? ⟨blk, off + t, none⟩ = false := hfw; clear hcw hfw; generalize wr.drewN nq = wq7 at *
                  have HW1 : Hid (Rw w blk off (swp dk (i2) (i2 - 1)) ((wq7.setCell ⟨blk, off + (i2), none⟩ (.int .u64 (G (i2 - 1)))).setCell ⟨blk, off + (i2 - 1), none⟩ (.int .u64 (G (i2))))) := (by rw [HG.out, HG.out]; exact HRq7.out.swap (i2) (i2 - 1) : Rw w blk off (swp dk (i2) (i2 - 1)) ((wq7.setCell ⟨blk, off + (i2), none⟩ (.int .u64 (G (i2 - 1)))).setCell ⟨blk, off + (i2 - 1), none⟩ (.int .u64 (G (i2)))))
                  go_wp2
                  go_region
                  go_wp2_with fail
                  clear hcq7 hfq7
                  go_loopw [10] (fun vj wr4 => ∃ (j : Nat) (dm : Array Int), vj = .int .i64 j ∧ i2 + 1 ≤ j ∧ j ≤ b ∧ dm.size = len ∧ Rw w blk off dm wr4 ∧ shiftUp ltInt b j dm = shiftUp ltInt b (i2 + 1) (swp dk i2 (i2 - 1))) (fun vj _ => b - (intOf vj).toNat)
                  case atStart => exact ⟨i2 + 1, (swp dk i2 (i2 - 1)), by go_num, Nat.le_refl _, by omega, hsd, HW1.out.drew, rfl⟩
                  case round =>
                    obtain ⟨j, dm, rfl, hj1, hj2, hsm, hR4, hS4⟩ := hrel
                    obtain ⟨G, hG, hcw, hfw⟩ := hR4.fam
                    rw [hsm] at hcw hfw
                    have HR4 : Hid (Rw w blk off dm wr) := hR4
                    have HG : Hid (∀ t, G t = dm[t]!) := hG
                    have HS4 : Hid (shiftUp ltInt b j dm = shiftUp ltInt b (i2 + 1) (swp dk i2 (i2 - 1))) := hS4
                    clear hR4 hG hS4
                    by_cases hjb : j < b
                    · cases hl4 : ltInt (G j) (G (j - 1))
                      · have H4 : Hid (shiftUp ltInt b (i2 + 1) (swp dk i2 (i2 - 1)) = dm) := (by rw [← HS4.out]; exact su_stop (.inr (by rw [← HG.out, ← HG.out]; exact hl4)) : shiftUp ltInt b (i2 + 1) (swp dk i2 (i2 - 1)) = dm)
                        go_wp2
                        go_quiet (first | (go_at_call 92; refine Calls.quiet_of_same (less67 _ _ _)))
                        have HRq9 : Hid (Rw w blk off dm (wr.drewN nq)) := HR4.out.drewN _; have hcq9 : ∀ t, t < len → (wr.drewN nq).cell? ⟨blk, off + t, none⟩ = some (.int .u64 (G t)) := hcw; have hfq9 : ∀ t, t < len → (wr.drewN nq).frozen? ⟨blk, off + t, none⟩ = false := hfw; clear hcw hfw; generalize wr.drewN nq = wq9 at *
                        go_wp2
                        go_roundw
                        case rel => exact ⟨i2, c + 1, s, dm, rfl, by go_num, by omega, by omega, by omega, hsm, HRq9.out, by rw [← HO.out, pi_go (d3 := dm) HX.out (by omega) (by omega) H3.out (by rw [if_pos (by omega)]; exact H4.out)]⟩
                        case measure => simp [intOf]; omega
                      · go_wp2
                        go_quiet (first | (go_at_call 92; refine Calls.quiet_of_same (less67 _ _ _)))
                        have HRq9 : Hid (Rw w blk off dm (wr.drewN nq)) := HR4.out.drewN _; have hcq9 : ∀ t, t < len → (wr.drewN nq).cell? ⟨blk, off + t, none⟩ = some (.int .u64 (G t)) := hcw; have hfq9 : ∀ t, t < len → (wr.drewN nq).frozen? ⟨blk, off + t, none⟩ = false := hfw; clear hcw hfw; generalize wr.drewN nq = wq9 at *
                        have HW9 : Hid (Rw w blk off (swp dm (j) (j - 1)) ((wq9.setCell ⟨blk, off + (j), none⟩ (.int .u64 (G (j - 1)))).setCell ⟨blk, off + (j - 1), none⟩ (.int .u64 (G (j))))) := (by rw [HG.out, HG.out]; exact HRq9.out.swap (j) (j - 1) : Rw w blk off (swp dm (j) (j - 1)) ((wq9.setCell ⟨blk, off + (j), none⟩ (.int .u64 (G (j - 1)))).setCell ⟨blk, off + (j - 1), none⟩ (.int .u64 (G (j)))))
                        go_wp2
                        go_region
                        all_goals go_wp2
                        go_roundw
                        case rel => exact ⟨j + 1, swp dm j (j - 1), by go_num, by omega, by omega, by rw [size_swp]; exact hsm, HW9.out.drew, by rw [← HS4.out, su_go hjb (by rw [← HG.out, ← HG.out]; exact hl4)]⟩
                        case measure => simp [intOf]; omega
                    · have H4 : Hid (shiftUp ltInt b (i2 + 1) (swp dk i2 (i2 - 1)) = dm) := (by rw [← HS4.out]; exact su_stop (.inl hjb) : shiftUp ltInt b (i2 + 1) (swp dk i2 (i2 - 1)) = dm)
                      go_wp2
                      go_roundw
                      case rel => exact ⟨i2, c + 1, s, dm, rfl, by go_num, by omega, by omega, by omega, hsm, HR4.out, by rw [← HO.out, pi_go (d3 := dm) HX.out (by omega) (by omega) H3.out (by rw [if_pos (by omega)]; exact H4.out)]⟩
                      case measure => simp [intOf]; omega
                · have hb2i : (b : Int) - (i2 : Int) < 2 := by omega
                  exact absurd (by omega : b - a < 50) h50
        · have hd : decide ((i2 : Int) < (b : Int)) = false := decide_eq_false (by omega)
          obtain rfl : i2 = b := by omega
          have HN : Hid ((dk, true) = R) := (by rw [← HO.out, pi_true (by rw [← HU.out]; exact sc_stop (.inl hij))] : (dk, true) = R)
          go_wp2
          go_quiet (first | (go_at_call 92; refine Calls.quiet_of_same (less67 _ _ _)))
          have HRq7 : Hid (Rw w blk off dk (wr.drewN nq)) := HR2.out.drewN _; have hcq7 : ∀ t, t < len → (wr.drewN nq).cell? ⟨blk, off + t, none⟩ = some (.int .u64 (G t)) := hcw; have hfq7 : ∀ t, t < len → (wr.drewN nq).frozen? ⟨blk, off + t, none⟩ = false := hfw; clear hcw hfw; generalize wr.drewN nq = wq7 at *
          go_wp2
          go_ret
          obtain rfl := HN.out
          exact ⟨rfl, HRq7.out⟩
end Go.Proofs.YtnmpbihpoefeoaaDoor
