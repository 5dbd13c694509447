/- Sorting: plain facts on the parts of pdqsort. -/
import Derived.Test.YtndbkkldfinggabS0
namespace Go.Proofs.Ytndbkkldfinggab
open Go.RowKit Go.Shelf Go.Sort
theorem size_sd : ∀ (j : Nat) (d : Array Int), (shiftDown ltInt j d).size = d.size
  | 0, _ => rfl
  | j + 1, d => by
    rw [shiftDown]
    split
    · rfl
    · rw [size_sd j, size_swp]
theorem size_su (b : Nat) : ∀ (n j : Nat) (d : Array Int), b - j ≤ n → (shiftUp ltInt b j d).size = d.size
  | 0, j, d, h => by rw [shiftUp, if_neg (by omega)]
  | n + 1, j, d, h => by
    rw [shiftUp]
    split
    · split
      · rfl
      · rw [size_su b n _ _ (by omega), size_swp]
    · rfl
theorem size_pi (a b : Nat) : ∀ (s i : Nat) (d : Array Int), (partialIns ltInt a b s i d).1.size = d.size
  | 0, _, _ => rfl
  | s + 1, i, d => by
    simp only [partialIns]
    split
    · rfl
    · split
      · rfl
      · rw [size_pi a b s]
        have h1 : ∀ d : Array Int, (if i - a ≥ 2 then shiftDown ltInt (i - 1) d else d).size = d.size := fun d => by split <;> simp [size_sd]
        split
        · rw [size_su b _ _ _ (Nat.le_refl _)]
          split
          · rw [size_sd, size_swp]
          · rw [size_swp]
        · split
          · rw [size_sd, size_swp]
          · rw [size_swp]
theorem up_ge (p : Int → Bool) (d : Array Int) (j i : Nat) : i ≤ scanUp p d j i := Sort.scanUp_ge p d j i
theorem down_le (p : Int → Bool) (d : Array Int) (i j : Nat) : scanDown p d i j ≤ j := Sort.scanDown_le p d i j
theorem up_le (p : Int → Bool) (d : Array Int) (j : Nat) : ∀ (n i : Nat), j + 1 - i ≤ n → scanUp p d j i ≤ max i (j + 1)
  | 0, i, h => by
    rw [scanUp, if_neg]
    · omega
    · rw [decide_eq_false (by omega)]; simp
  | n + 1, i, h => by
    rw [scanUp]
    split
    · rename_i hc
      have : i ≤ j := by simp at hc; exact hc.1
      have := up_le p d j n (i + 1) (by omega)
      omega
    · omega
theorem partEq_range (a b : Nat) : ∀ (n i j : Nat) (d : Array Int), j + 1 - i ≤ n → a + 1 ≤ i → i ≤ b → j < b → a < (partEqLoop ltInt a i j d).1 ∧ (partEqLoop ltInt a i j d).1 ≤ b ∧ (partEqLoop ltInt a i j d).2.size = d.size
  | n, i, j, d, hn, h1, h2, h3 => by
    have u1 := up_ge (fun x => !ltInt d[a]! x) d j i
    have u2 := up_le (fun x => !ltInt d[a]! x) d j _ i (Nat.le_refl _)
    have u3 := down_le (fun x => ltInt d[a]! x) d (scanUp (fun x => !ltInt d[a]! x) d j i) j
    rw [partEqLoop_eq]
    split
    · exact ⟨by show a < scanUp _ _ _ _; omega, by show scanUp _ _ _ _ ≤ b; omega, rfl⟩
    · rename_i hc
      cases n with
      | zero => omega
      | succ n =>
        have t := partEq_range a b n _ _ (swp d (scanUp (fun x => !ltInt d[a]! x) d j i) (scanDown (fun x => ltInt d[a]! x) d (scanUp (fun x => !ltInt d[a]! x) d j i) j)) (by omega) (by omega : a + 1 ≤ scanUp (fun x => !ltInt d[a]! x) d j i + 1) (by omega) (by omega : scanDown (fun x => ltInt d[a]! x) d (scanUp (fun x => !ltInt d[a]! x) d j i) j - 1 < b)
        rw [size_swp] at t
        exact t
/-- What pdqsort does behind the choice of its pivot. -/
def pdqRest (d : Array Int) (a b lim pivot : Nat) (wb wp : Bool) : Array Int :=
  if a > 0 && !ltInt d[a - 1]! d[pivot]! then pdq ltInt (Sort.partitionEqual ltInt d a b pivot).2 (Sort.partitionEqual ltInt d a b pivot).1 b lim wb wp
  else if (Sort.partition ltInt d a b pivot).1 - a < b - (Sort.partition ltInt d a b pivot).1 then
    pdq ltInt (pdq ltInt (Sort.partition ltInt d a b pivot).2.2 a (Sort.partition ltInt d a b pivot).1 lim true true) ((Sort.partition ltInt d a b pivot).1 + 1) b lim (decide ((Sort.partition ltInt d a b pivot).1 - a ≥ (b - a) / 8)) (Sort.partition ltInt d a b pivot).2.1
  else pdq ltInt (pdq ltInt (Sort.partition ltInt d a b pivot).2.2 ((Sort.partition ltInt d a b pivot).1 + 1) b lim true true) a (Sort.partition ltInt d a b pivot).1 lim (decide (b - (Sort.partition ltInt d a b pivot).1 ≥ (b - a) / 8)) (Sort.partition ltInt d a b pivot).2.1
theorem pdq_ins {d : Array Int} {a b limit : Nat} {wb wp : Bool} (h : b - a ≤ 12) : pdq ltInt d a b limit wb wp = Sort.insertionSort ltInt d a b := by rw [pdq, if_pos h]
theorem pdq_heap {d : Array Int} {a b limit : Nat} {wb wp : Bool} (h : ¬ b - a ≤ 12) (h0 : limit = 0) : pdq ltInt d a b limit wb wp = Sort.heapSort ltInt d a b := by rw [pdq, if_neg h, if_pos h0]
theorem pdq_round {d d1 d2 : Array Int} {a b limit lim pivot : Nat} {wb wp : Bool} {c : Nat × Hint} {hint : Hint} {pi : Array Int × Bool} (h : ¬ b - a ≤ 12) (h0 : ¬ limit = 0) (hb : b ≤ d.size)
    (e1 : (if !wb then Sort.breakPatterns d a b else d) = d1) (e2 : (if !wb then limit - 1 else limit) = lim) (e3 : choosePivot ltInt d1 a b = c) (e4 : (if c.2 = .decreasing then Sort.reverseRange d1 a b else d1) = d2)
    (e5 : (if c.2 = .decreasing then (b - 1) - (c.1 - a) else c.1) = pivot) (e6 : (if c.2 = .decreasing then Hint.increasing else c.2) = hint) (e7 : (if wb && wp && hint = .increasing then Sort.partialInsertionSort ltInt d2 a b else (d2, false)) = pi) :
    d1.size = d.size ∧ d2.size = d.size ∧ pi.1.size = d.size ∧ a ≤ pivot ∧ pivot < b ∧ pdq ltInt d a b limit wb wp = if pi.2 then pi.1 else pdqRest pi.1 a b lim pivot wb wp := by
  have s1 : d1.size = d.size := by
    rw [← e1]
    split
    · exact (breakPatterns_holds d a b (by omega) hb).1
    · rfl
  have s2 : d2.size = d.size := by
    rw [← e4]
    split
    · rw [(reverseRange_holds d1 a b (by omega) (by omega)).1, s1]
    · exact s1
  have s3 : pi.1.size = d.size := by
    rw [← e7]
    split
    · unfold Sort.partialInsertionSort; rw [size_pi, s2]
    · exact s2
  have hc := choosePivot_holds ltInt d1 a b (by omega)
  rw [e3] at hc
  have hp : a ≤ pivot ∧ pivot < b := by
    rw [← e5]
    split <;> omega
  refine ⟨s1, s2, s3, hp.1, hp.2, ?_⟩
  rw [pdq, if_neg h, if_neg h0]
  simp only []
  rw [e1, e2, e3, e4, e5, e6, e7]
  split
  · rfl
  · unfold pdqRest
    split
    · have t := partEq_range a b _ (a + 1) (b - 1) (swp pi.1 a pivot) (Nat.le_refl _) (Nat.le_refl _) (by omega) (by omega)
      have t1 : a < (Sort.partitionEqual ltInt pi.1 a b pivot).1 := t.1
      have t2 : (Sort.partitionEqual ltInt pi.1 a b pivot).1 ≤ b := t.2.1
      rw [dif_pos ⟨t1, t2⟩]
    · have t := partition_holds (lt := ltInt) swo_ltInt pi.1 a b pivot hp.1 hp.2 (by omega)
      have t1 : a ≤ (Sort.partition ltInt pi.1 a b pivot).1 ∧ (Sort.partition ltInt pi.1 a b pivot).1 < b := ⟨t.1, t.2.1⟩
      rw [dif_pos t1]
theorem pdq_size : ∀ (N : Nat) (d : Array Int) (a b limit : Nat) (wb wp : Bool), b - a < N → a ≤ b → b ≤ d.size → (pdq ltInt d a b limit wb wp).size = d.size
  | 0, _, _, _, _, _, _, h, _, _ => absurd h (Nat.not_lt_zero _)
  | N + 1, d, a, b, limit, wb, wp, h, hab, hb => by
    by_cases h12 : b - a ≤ 12
    · rw [pdq_ins h12]; exact (insertionSort_holds (lt := ltInt) swo_ltInt d a b hab hb).1.1
    · by_cases h0 : limit = 0
      · rw [pdq_heap h12 h0]; exact (heapSort_holds (lt := ltInt) swo_ltInt d a b hab hb).1.1
      · obtain ⟨d1, e1⟩ : ∃ d1, (if !wb then Sort.breakPatterns d a b else d) = d1 := ⟨_, rfl⟩
        obtain ⟨c, e3⟩ : ∃ c, choosePivot ltInt d1 a b = c := ⟨_, rfl⟩
        obtain ⟨d2, e4⟩ : ∃ d2, (if c.2 = .decreasing then Sort.reverseRange d1 a b else d1) = d2 := ⟨_, rfl⟩
        obtain ⟨pv, e5⟩ : ∃ pv, (if c.2 = .decreasing then (b - 1) - (c.1 - a) else c.1) = pv := ⟨_, rfl⟩
        obtain ⟨hint, e6⟩ : ∃ hint, (if c.2 = .decreasing then Hint.increasing else c.2) = hint := ⟨_, rfl⟩
        obtain ⟨pi, e7⟩ : ∃ pi, (if wb && wp && hint = .increasing then Sort.partialInsertionSort ltInt d2 a b else (d2, false)) = pi := ⟨_, rfl⟩
        obtain ⟨s1, s2, s3, p1, p2, e⟩ := pdq_round (d := d) (a := a) (b := b) (limit := limit) (wb := wb) (wp := wp) h12 h0 hb e1 rfl e3 e4 e5 e6 e7
        rw [e]
        clear e e1 e3 e4 e5 e6 e7
        split
        · exact s3
        · have t := partEq_range a b _ (a + 1) (b - 1) (swp pi.1 a pv) (Nat.le_refl _) (Nat.le_refl _) (by omega) (by omega)
          have t1 : a < (Sort.partitionEqual ltInt pi.1 a b pv).1 := t.1
          have t2 : (Sort.partitionEqual ltInt pi.1 a b pv).1 ≤ b := t.2.1
          have t3 : (Sort.partitionEqual ltInt pi.1 a b pv).2.size = d.size := by rw [← s3, ← size_swp pi.1 a pv]; exact t.2.2
          have u := partition_holds (lt := ltInt) swo_ltInt pi.1 a b pv p1 p2 (by omega)
          have u1 := u.1
          have u2 := u.2.1
          have u3 := u.2.2.1.1
          clear t u
          unfold pdqRest
          generalize Sort.partitionEqual ltInt pi.1 a b pv = r at *
          generalize Sort.partition ltInt pi.1 a b pv = q at *
          split
          · rw [pdq_size N _ _ _ _ _ _ (by omega) (by omega) (by omega), t3]
          · split
            · have v := pdq_size N q.2.2 a q.1 (if (!wb) = true then limit - 1 else limit) true true (by omega) (by omega) (by omega)
              rw [pdq_size N _ _ _ _ _ _ (by omega) (by omega) (by omega), v, u3, s3]
            · have v := pdq_size N q.2.2 (q.1 + 1) b (if (!wb) = true then limit - 1 else limit) true true (by omega) (by omega) (by omega)
              rw [pdq_size N _ _ _ _ _ _ (by omega) (by omega) (by omega), v, u3, s3]
end Go.Proofs.Ytndbkkldfinggab
