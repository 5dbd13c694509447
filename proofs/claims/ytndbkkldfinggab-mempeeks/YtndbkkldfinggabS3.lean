/- Sorting numbers of the kind uint64: heapSortOrdered, reverseRangeOrdered. -/
import Derived.Test.YtndbkkldfinggabS2
namespace Go.Proofs.Ytndbkkldfinggab
open Go.RowKit Go.Shelf Go.Sort
theorem size_sift (hi first : Nat) : ∀ (n root : Nat) (d : Array Int), hi - root ≤ n → (siftDown ltInt hi first root d).size = d.size
  | 0, root, d, h => by rw [sift_leaf (by omega)]
  | n + 1, root, d, h => by
    rw [siftDown]
    split
    · rfl
    · split
      · split
        · rfl
        · split
          · rw [size_sift hi first n _ _ (by omega), size_swp]
          · rfl
      · split
        · rfl
        · rw [size_sift hi first n _ _ (by omega), size_swp]
theorem Rw.self {w W : World} {blk off : Nat} {d : Array Int} (h : Rw w blk off d W) : Rw W blk off d W := ⟨World.grownBy.refl _ _, h.cell, h.frozen, h.ty⟩
set_option maxHeartbeats 4000000 in
set_option maxRecDepth 100000 in
theorem heap62 (blk off len cap a b : Nat) (d : Array Int) (w : World) (hH : Rw w blk off d w) (hsz : d.size = len) (hs : len ≤ 65536) (hab : a ≤ b) (hb : b ≤ len) :
    Calls Try.prog 62 #[.slice (some ⟨blk, off, none⟩) len cap, .int .i64 a, .int .i64 b] w fun e w' => e = .returned (.tuple #[]) ∧ Rw w blk off (Sort.heapSort ltInt d a b) w' := by
  obtain ⟨n, hn⟩ : ∃ n : Nat, b - a = n := ⟨_, rfl⟩
  have y1 : (b : Int) - (a : Int) = (n : Int) := by omega
  have HD : Hid (Sort.heapSort ltInt d a b = heapPop ltInt a n (heapBuild ltInt n a ((n - 1) / 2 + 1) d)) := (by unfold Sort.heapSort; rw [hn] : Sort.heapSort ltInt d a b = heapPop ltInt a n (heapBuild ltInt n a ((n - 1) / 2 + 1) d))
  have HSf : Hid (∀ (lo hi : Nat) (dk : Array Int) (W : World), Rw w blk off dk W → dk.size = len → lo ≤ hi → a + hi ≤ len → Calls Try.prog 72 #[.slice (some ⟨blk, off, none⟩) len cap, .int .i64 lo, .int .i64 hi, .int .i64 a] W fun e w' => e = .returned (.tuple #[]) ∧ Rw w blk off (siftDown ltInt hi a lo dk) w' ∧ (siftDown ltInt hi a lo dk).size = len) := fun lo hi dk W hR hk h1 h2 =>
    (sift72 blk off len cap lo hi a dk W hR.self hk hs h1 h2).mono fun e w' ⟨he, hr⟩ => ⟨he, hR.trans hr, by rw [size_sift hi a _ lo dk (Nat.le_refl _), hk]⟩
  obtain ⟨q, hq⟩ : ∃ q : Nat, (n - 1) / 2 = q := ⟨_, rfl⟩
  have y2 : ((n : Int) - 1).tdiv 2 = (q : Int) := by
    rcases Nat.eq_zero_or_pos n with h0 | h0
    · subst h0; simp at hq; subst hq; decide
    · rw [Int.tdiv_eq_ediv_of_nonneg (by omega)]; omega
  rw [hq] at HD
  go_enter Try.func62, Try.ntmps62
  go_wp2_with fail
  go_loopw [9] (fun vi wr => ∃ (k : Nat) (dk : Array Int), vi = .int .i64 ((k : Int) - 1) ∧ k ≤ q + 1 ∧ dk.size = len ∧ Rw w blk off dk wr ∧ heapBuild ltInt n a k dk = heapBuild ltInt n a (q + 1) d) (fun vi _ => (intOf vi + 1).toNat)
  case atStart => exact ⟨q + 1, d, by congr 1; omega, Nat.le_refl _, hsz, hH, rfl⟩
  case round =>
    obtain ⟨k, dk, rfl, hk, hsk, hR, hO⟩ := hrel
    have HR : Hid (Rw w blk off dk wr) := hR
    have HO : Hid (heapBuild ltInt n a k dk = heapBuild ltInt n a (q + 1) d) := hO
    clear hR hO hH
    rcases k with _ | k
    · rw [show ((0 : Nat) : Int) - 1 = -1 by omega]
      go_wp2_with fail
      go_loopw [10] (fun vi wr2 => ∃ (k : Nat) (dj : Array Int), vi = .int .i64 ((k : Int) - 1) ∧ k ≤ n ∧ dj.size = len ∧ Rw w blk off dj wr2 ∧ heapPop ltInt a k dj = heapPop ltInt a n dk) (fun vi _ => (intOf vi + 1).toNat)
      case atStart => exact ⟨n, dk, rfl, Nat.le_refl _, hsk, HR.out, rfl⟩
      case round =>
        obtain ⟨k, dj, rfl, hk, hsj, hR, hI⟩ := hrel
        obtain ⟨G, hG, hcw, hfw⟩ := hR.fam
        rw [hsj] at hcw hfw
        have HJ : Hid (Rw w blk off dj wr) := hR
        have HG : Hid (∀ t, G t = dj[t]!) := hG
        have HI : Hid (heapPop ltInt a k dj = heapPop ltInt a n dk) := hI
        clear hR hI hG
        rcases k with _ | k
        · go_wp2
          go_end0
          exact ⟨rfl, by rw [HD.out, ← HO.out]; simp only [heapBuild]; rw [← HI.out]; exact HJ.out⟩
        · rw [show ((k + 1 : Nat) : Int) - 1 = (k : Int) by omega]
          obtain ⟨f, hf⟩ : ∃ f : Nat, a + k = f := ⟨_, rfl⟩
          have y3 : (a : Int) + (k : Int) = (f : Int) := by omega
          have b0 : a < len := by omega
          have b1 : f < len := by omega
          have z1 := i64_small f (by omega)
          rcases Nat.eq_zero_or_pos k with h0 | h0
          · obtain rfl : f = a := by omega
            subst h0
            have HW : Hid (Rw w blk off (swp dj f f) ((wr.setCell ⟨blk, off + f, none⟩ (.int .u64 (G f))).setCell ⟨blk, off + f, none⟩ (.int .u64 (G f)))) := (by rw [HG.out]; exact HJ.out.swap f f : Rw w blk off (swp dj f f) ((wr.setCell ⟨blk, off + f, none⟩ (.int .u64 (G f))).setCell ⟨blk, off + f, none⟩ (.int .u64 (G f))))
            go_wp2
            go_region
            all_goals go_wp2_with fail
            refine (HSf.out 0 0 (swp dj f f) _ HW.out.drew (by rw [size_swp]; exact hsj) (by omega) (by omega)).mono ?_
            rintro e w1 ⟨rfl, hr1, hs1⟩
            have HR1 : Hid (Rw w blk off (siftDown ltInt 0 f 0 (swp dj f f)) w1) := hr1
            clear hr1
            go_wp2
            go_roundw
            case rel => exact ⟨0, _, rfl, by omega, hs1, HR1.out, HI.out⟩
            case measure => simp [intOf]
          · have HW : Hid (Rw w blk off (swp dj a f) ((wr.setCell ⟨blk, off + a, none⟩ (.int .u64 (G f))).setCell ⟨blk, off + f, none⟩ (.int .u64 (G a)))) := (by rw [HG.out, HG.out]; exact HJ.out.swap a f : Rw w blk off (swp dj a f) ((wr.setCell ⟨blk, off + a, none⟩ (.int .u64 (G f))).setCell ⟨blk, off + f, none⟩ (.int .u64 (G a))))
            have HI2 : Hid (heapPop ltInt a k (siftDown ltInt k a 0 (swp dj a f)) = heapPop ltInt a n dk) := (by have t := HI.out; simp only [heapPop] at t; rw [hf] at t; exact t : heapPop ltInt a k (siftDown ltInt k a 0 (swp dj a f)) = heapPop ltInt a n dk)
            go_wp2
            go_region
            all_goals go_wp2_with fail
            refine (HSf.out 0 k (swp dj a f) _ HW.out.drew (by rw [size_swp]; exact hsj) (by omega) (by omega)).mono ?_
            rintro e w1 ⟨rfl, hr1, hs1⟩
            have HR1 : Hid (Rw w blk off (siftDown ltInt k a 0 (swp dj a f)) w1) := hr1
            clear hr1
            go_wp2
            go_roundw
            case rel => exact ⟨k, _, rfl, by omega, hs1, HR1.out, HI2.out⟩
            case measure => simp [intOf]
    · rw [show ((k + 1 : Nat) : Int) - 1 = (k : Int) by omega]
      go_wp2_with fail
      refine (HSf.out k n dk _ HR.out hsk (by omega) (by omega)).mono ?_
      rintro e w1 ⟨rfl, hr1, hs1⟩
      have HR1 : Hid (Rw w blk off (siftDown ltInt n a k dk) w1) := hr1
      clear hr1
      go_wp2
      go_roundw
      case rel => exact ⟨k, _, rfl, by omega, hs1, HR1.out, HO.out⟩
      case measure => simp [intOf]
theorem rev_go {i j : Nat} {d : Array Int} (h : i < j) : reverseLoop i j d = reverseLoop (i + 1) (j - 1) (swp d i j) := by rw [reverseLoop, if_pos h]
theorem rev_stop {i j : Nat} {d : Array Int} (h : ¬ i < j) : reverseLoop i j d = d := by rw [reverseLoop, if_neg h]
set_option maxHeartbeats 4000000 in
set_option maxRecDepth 100000 in
theorem rev65 (blk off len cap a b : Nat) (d : Array Int) (w : World) (hH : Rw w blk off d w) (hsz : d.size = len) (hs : len ≤ 65536) (hab : a < b) (hb : b ≤ len) :
    Calls Try.prog 65 #[.slice (some ⟨blk, off, none⟩) len cap, .int .i64 a, .int .i64 b] w fun e w' => e = .returned (.tuple #[]) ∧ Rw w blk off (Sort.reverseRange d a b) w' := by
  have HD : Hid (Sort.reverseRange d a b = reverseLoop a (b - 1) d) := rfl
  go_enter Try.func65, Try.ntmps65
  go_wp2_with fail
  go_loopw [6, 7] (fun vi vj wr => ∃ (i j : Nat) (dk : Array Int), vi = .int .i64 i ∧ vj = .int .i64 j ∧ a ≤ i ∧ j < b ∧ i ≤ j + 1 ∧ dk.size = len ∧ Rw w blk off dk wr ∧ reverseLoop i j dk = reverseLoop a (b - 1) d) (fun vi vj _ => (intOf vj - intOf vi + 1).toNat)
  case atStart => exact ⟨a, b - 1, d, rfl, by congr 1; omega, Nat.le_refl _, by omega, by omega, hsz, hH, rfl⟩
  case round =>
    obtain ⟨i, j, dk, rfl, rfl, hi, hj, hij, hsk, hR, hO⟩ := hrel
    obtain ⟨G, hG, hcw, hfw⟩ := hR.fam
    rw [hsk] at hcw hfw
    have HR : Hid (Rw w blk off dk wr) := hR
    have HG : Hid (∀ t, G t = dk[t]!) := hG
    have HO : Hid (reverseLoop i j dk = reverseLoop a (b - 1) d) := hO
    clear hR hO hH hG
    by_cases hlt : i < j
    · have HW : Hid (Rw w blk off (swp dk i j) ((wr.setCell ⟨blk, off + i, none⟩ (.int .u64 (G j))).setCell ⟨blk, off + j, none⟩ (.int .u64 (G i)))) := (by rw [HG.out, HG.out]; exact HR.out.swap i j : Rw w blk off (swp dk i j) ((wr.setCell ⟨blk, off + i, none⟩ (.int .u64 (G j))).setCell ⟨blk, off + j, none⟩ (.int .u64 (G i))))
      go_wp2
      go_region
      all_goals go_wp2
      go_roundw
      case rel => exact ⟨i + 1, j - 1, swp dk i j, by go_num, by congr 1; omega, by omega, by omega, by omega, by rw [size_swp]; exact hsk, HW.out.drew, by rw [← HO.out, rev_go hlt]⟩
      case measure => simp [intOf]; omega
    · go_wp2
      go_end0
      exact ⟨rfl, by rw [HD.out, ← HO.out, rev_stop hlt]; exact HR.out⟩
end Go.Proofs.Ytndbkkldfinggab
