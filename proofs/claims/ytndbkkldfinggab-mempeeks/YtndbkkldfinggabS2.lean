/- Sorting numbers of the kind uint64: siftDownOrdered, heapSortOrdered, reverseRangeOrdered. -/
import Derived.Test.YtndbkkldfinggabS1
namespace Go.Proofs.Ytndbkkldfinggab
open Go.RowKit Go.Shelf Go.Sort
theorem i64_small (x : Nat) (h : x ≤ 1000000) : IntKind.i64.wrap (x : Int) = (x : Int) := by
  simp [IntKind.wrap, IntKind.signed, IntKind.bits]; omega
theorem sift_leaf {hi first root : Nat} {d : Array Int} (h : hi ≤ 2 * root + 1) : siftDown ltInt hi first root d = d := by rw [siftDown, dif_pos h]
theorem sift_stop2 {hi first root : Nat} {d : Array Int} (h : 2 * root + 2 < hi) (hl : ltInt d[first + (2 * root + 1)]! d[first + (2 * root + 2)]! = true) (hs : ltInt d[first + root]! d[first + (2 * root + 2)]! = false) : siftDown ltInt hi first root d = d := by
  rw [siftDown, dif_neg (by omega), if_pos (by rw [decide_eq_true (by omega : 2 * root + 1 + 1 < hi)]; simpa [Nat.add_assoc] using hl), if_pos (by rw [hs]; rfl)]
theorem sift_go2 {hi first root : Nat} {d : Array Int} (h : 2 * root + 2 < hi) (hl : ltInt d[first + (2 * root + 1)]! d[first + (2 * root + 2)]! = true) (hs : ltInt d[first + root]! d[first + (2 * root + 2)]! = true) : siftDown ltInt hi first root d = siftDown ltInt hi first (2 * root + 2) (swp d (first + root) (first + (2 * root + 2))) := by
  rw [siftDown, dif_neg (by omega), if_pos (by rw [decide_eq_true (by omega : 2 * root + 1 + 1 < hi)]; simpa [Nat.add_assoc] using hl), if_neg (by rw [hs]; decide), dif_pos h]
theorem sift_stop1 {hi first root : Nat} {d : Array Int} (h : 2 * root + 1 < hi) (hl : ¬ 2 * root + 2 < hi ∨ ltInt d[first + (2 * root + 1)]! d[first + (2 * root + 2)]! = false) (hs : ltInt d[first + root]! d[first + (2 * root + 1)]! = false) : siftDown ltInt hi first root d = d := by
  rw [siftDown, dif_neg (by omega), if_neg (by rcases hl with hl | hl; · simp; omega
                                               · have : ltInt d[first + (2 * root + 1)]! d[first + (2 * root + 1) + 1]! = false := hl
                                                 rw [this]; simp), if_pos (by rw [hs]; rfl)]
theorem sift_go1 {hi first root : Nat} {d : Array Int} (h : 2 * root + 1 < hi) (hl : ¬ 2 * root + 2 < hi ∨ ltInt d[first + (2 * root + 1)]! d[first + (2 * root + 2)]! = false) (hs : ltInt d[first + root]! d[first + (2 * root + 1)]! = true) : siftDown ltInt hi first root d = siftDown ltInt hi first (2 * root + 1) (swp d (first + root) (first + (2 * root + 1))) := by
  rw [siftDown, dif_neg (by omega), if_neg (by rcases hl with hl | hl; · simp; omega
                                               · have : ltInt d[first + (2 * root + 1)]! d[first + (2 * root + 1) + 1]! = false := hl
                                                 rw [this]; simp), if_neg (by rw [hs]; decide)]
set_option maxHeartbeats 4000000 in
set_option maxRecDepth 100000 in
theorem sift72 (blk off len cap lo hi first : Nat) (d : Array Int) (w : World) (hH : Rw w blk off d w) (hsz : d.size = len) (hs : len ≤ 65536) (hlo : lo ≤ hi) (hb : first + hi ≤ len) :
    Calls Try.prog 72 #[.slice (some ⟨blk, off, none⟩) len cap, .int .i64 lo, .int .i64 hi, .int .i64 first] w fun e w' => e = .returned (.tuple #[]) ∧ Rw w blk off (siftDown ltInt hi first lo d) w' := by
  go_enter Try.func72, Try.ntmps72
  go_wp2
  go_loopw [8] (fun vi wr => ∃ (root : Nat) (dk : Array Int), vi = .int .i64 root ∧ root ≤ hi ∧ dk.size = len ∧ Rw w blk off dk wr ∧ siftDown ltInt hi first root dk = siftDown ltInt hi first lo d) (fun vi _ => hi - (intOf vi).toNat)
  case atStart => exact ⟨lo, d, rfl, hlo, hsz, hH, rfl⟩
  case round =>
    obtain ⟨root, dk, rfl, hrh, hsk, hR, hO⟩ := hrel
    obtain ⟨G, hG, hcw, hfw⟩ := hR.fam
    rw [hsk] at hcw hfw
    have HR : Hid (Rw w blk off dk wr) := hR
    have HG : Hid (∀ t, G t = dk[t]!) := hG
    have HO : Hid (siftDown ltInt hi first root dk = siftDown ltInt hi first lo d) := hO
    clear hR hO hH hG
    obtain ⟨c1, hc1⟩ : ∃ c1 : Nat, 2 * root + 1 = c1 := ⟨_, rfl⟩
    obtain ⟨c2, hc2⟩ : ∃ c2 : Nat, c1 + 1 = c2 := ⟨_, rfl⟩
    obtain ⟨f1, hf1⟩ : ∃ f1 : Nat, first + c1 = f1 := ⟨_, rfl⟩
    obtain ⟨f2, hf2⟩ : ∃ f2 : Nat, f1 + 1 = f2 := ⟨_, rfl⟩
    obtain ⟨fr, hfr⟩ : ∃ fr : Nat, first + root = fr := ⟨_, rfl⟩
    have y1 : 2 * (root : Int) + 1 = (c1 : Int) := by omega
    have y2 : (c1 : Int) + 1 = (c2 : Int) := by omega
    have y3 : (first : Int) + (c1 : Int) = (f1 : Int) := by omega
    have y4 : (f1 : Int) + 1 = (f2 : Int) := by omega
    have y5 : (first : Int) + (c2 : Int) = (f2 : Int) := by omega
    have y6 : (first : Int) + (root : Int) = (fr : Int) := by omega
    by_cases hc : c1 < hi
    · have b1 : f1 < len := by omega
      have b0 : fr < len := by omega
      have z1 := i64_small c1 (by omega)
      have z2 := i64_small c2 (by omega)
      have z3 := i64_small f1 (by omega)
      have z4 := i64_small f2 (by omega)
      have z5 := i64_small fr (by omega)
      by_cases hc2h : c2 < hi
      · have b2 : f2 < len := by omega
        cases hl : ltInt (G f1) (G f2)
        · cases hs2 : ltInt (G fr) (G f1)
          · have HST : Hid (siftDown ltInt hi first root dk = dk) := (by subst hfr hf2 hf1 hc2 hc1; exact sift_stop1 (by omega) (.inr (by rw [← HG.out, ← HG.out]; exact hl)) (by rw [← HG.out, ← HG.out]; exact hs2))
            go_wp2
            go_quiet (first | (go_at_call 67; refine Calls.quiet_of_same (less67 _ _ _)))
            have HRq : Hid (Rw w blk off dk (wr.drewN nq)) := HR.out.drewN _; have hcq : ∀ t, t < len → (wr.drewN nq).cell? ⟨blk, off + t, none⟩ = some (.int .u64 (G t)) := hcw; have hfq : ∀ t, t < len → (wr.drewN nq).frozen? ⟨blk, off + t, none⟩ = false := hfw; clear hcw hfw; generalize wr.drewN nq = wq at *
            go_wp2
            go_quiet (first | (go_at_call 67; refine Calls.quiet_of_same (less67 _ _ _)))
            go_wp2
            refine bodyPost_ret (results_none rfl _ _ _) rfl ?_
            exact ⟨rfl, by rw [← HO.out, HST.out]; exact (HRq.out.drewN _)⟩
          · have HGO : Hid (siftDown ltInt hi first root dk = siftDown ltInt hi first c1 (swp dk fr f1)) := (by subst hfr hf2 hf1 hc2 hc1; exact sift_go1 (by omega) (.inr (by rw [← HG.out, ← HG.out]; exact hl)) (by rw [← HG.out, ← HG.out]; exact hs2))
            go_wp2
            go_quiet (first | (go_at_call 67; refine Calls.quiet_of_same (less67 _ _ _)))
            have HRq : Hid (Rw w blk off dk (wr.drewN nq)) := HR.out.drewN _; have hcq : ∀ t, t < len → (wr.drewN nq).cell? ⟨blk, off + t, none⟩ = some (.int .u64 (G t)) := hcw; have hfq : ∀ t, t < len → (wr.drewN nq).frozen? ⟨blk, off + t, none⟩ = false := hfw; clear hcw hfw; generalize wr.drewN nq = wq at *
            go_wp2
            go_quiet (first | (go_at_call 67; refine Calls.quiet_of_same (less67 _ _ _)))
            go_wp2
            go_region
            all_goals go_wp2
            go_roundw
            case rel => exact ⟨c1, swp dk fr f1, rfl, by omega, by rw [size_swp]; exact hsk, by rw [HG.out, HG.out]; exact (HRq.out.drewN _).swap fr f1, by rw [← HO.out, HGO.out]⟩
            case measure => simp [intOf]; omega
        · cases hs2 : ltInt (G fr) (G f2)
          · have HST : Hid (siftDown ltInt hi first root dk = dk) := (by subst hfr hf2 hf1 hc2 hc1; exact sift_stop2 (by omega) (by rw [← HG.out, ← HG.out]; exact hl) (by rw [← HG.out, ← HG.out]; exact hs2))
            go_wp2
            go_quiet (first | (go_at_call 67; refine Calls.quiet_of_same (less67 _ _ _)))
            have HRq : Hid (Rw w blk off dk (wr.drewN nq)) := HR.out.drewN _; have hcq : ∀ t, t < len → (wr.drewN nq).cell? ⟨blk, off + t, none⟩ = some (.int .u64 (G t)) := hcw; have hfq : ∀ t, t < len → (wr.drewN nq).frozen? ⟨blk, off + t, none⟩ = false := hfw; clear hcw hfw; generalize wr.drewN nq = wq at *
            go_wp2
            go_quiet (first | (go_at_call 67; refine Calls.quiet_of_same (less67 _ _ _)))
            go_wp2
            refine bodyPost_ret (results_none rfl _ _ _) rfl ?_
            exact ⟨rfl, by rw [← HO.out, HST.out]; exact (HRq.out.drewN _)⟩
          · have HGO : Hid (siftDown ltInt hi first root dk = siftDown ltInt hi first c2 (swp dk fr f2)) := (by subst hfr hf2 hf1 hc2 hc1; exact sift_go2 (by omega) (by rw [← HG.out, ← HG.out]; exact hl) (by rw [← HG.out, ← HG.out]; exact hs2))
            go_wp2
            go_quiet (first | (go_at_call 67; refine Calls.quiet_of_same (less67 _ _ _)))
            have HRq : Hid (Rw w blk off dk (wr.drewN nq)) := HR.out.drewN _; have hcq : ∀ t, t < len → (wr.drewN nq).cell? ⟨blk, off + t, none⟩ = some (.int .u64 (G t)) := hcw; have hfq : ∀ t, t < len → (wr.drewN nq).frozen? ⟨blk, off + t, none⟩ = false := hfw; clear hcw hfw; generalize wr.drewN nq = wq at *
            go_wp2
            go_quiet (first | (go_at_call 67; refine Calls.quiet_of_same (less67 _ _ _)))
            go_wp2
            go_region
            all_goals go_wp2
            go_roundw
            case rel => exact ⟨c2, swp dk fr f2, rfl, by omega, by rw [size_swp]; exact hsk, by rw [HG.out, HG.out]; exact (HRq.out.drewN _).swap fr f2, by rw [← HO.out, HGO.out]⟩
            case measure => simp [intOf]; omega
      · have hc2' : decide ((c2 : Int) < (hi : Int)) = false := decide_eq_false (by omega)
        cases hs2 : ltInt (G fr) (G f1)
        · have HST : Hid (siftDown ltInt hi first root dk = dk) := (by subst hfr hf2 hf1 hc2 hc1; exact sift_stop1 (by omega) (.inl (by omega)) (by rw [← HG.out, ← HG.out]; exact hs2))
          go_wp2
          go_quiet (first | (go_at_call 67; refine Calls.quiet_of_same (less67 _ _ _)))
          have HRq : Hid (Rw w blk off dk (wr.drewN nq)) := HR.out.drewN _; have hcq : ∀ t, t < len → (wr.drewN nq).cell? ⟨blk, off + t, none⟩ = some (.int .u64 (G t)) := hcw; have hfq : ∀ t, t < len → (wr.drewN nq).frozen? ⟨blk, off + t, none⟩ = false := hfw; clear hcw hfw; generalize wr.drewN nq = wq at *
          go_wp2
          go_quiet (first | (go_at_call 67; refine Calls.quiet_of_same (less67 _ _ _)))
          go_wp2
          refine bodyPost_ret (results_none rfl _ _ _) rfl ?_
          exact ⟨rfl, by rw [← HO.out, HST.out]; exact (HRq.out.drewN _)⟩
        · have HGO : Hid (siftDown ltInt hi first root dk = siftDown ltInt hi first c1 (swp dk fr f1)) := (by subst hfr hf2 hf1 hc2 hc1; exact sift_go1 (by omega) (.inl (by omega)) (by rw [← HG.out, ← HG.out]; exact hs2))
          go_wp2
          go_quiet (first | (go_at_call 67; refine Calls.quiet_of_same (less67 _ _ _)))
          have HRq : Hid (Rw w blk off dk (wr.drewN nq)) := HR.out.drewN _; have hcq : ∀ t, t < len → (wr.drewN nq).cell? ⟨blk, off + t, none⟩ = some (.int .u64 (G t)) := hcw; have hfq : ∀ t, t < len → (wr.drewN nq).frozen? ⟨blk, off + t, none⟩ = false := hfw; clear hcw hfw; generalize wr.drewN nq = wq at *
          go_wp2
          go_quiet (first | (go_at_call 67; refine Calls.quiet_of_same (less67 _ _ _)))
          go_wp2
          go_region
          all_goals go_wp2
          go_roundw
          case rel => exact ⟨c1, swp dk fr f1, rfl, by omega, by rw [size_swp]; exact hsk, by rw [HG.out, HG.out]; exact (HRq.out.drewN _).swap fr f1, by rw [← HO.out, HGO.out]⟩
          case measure => simp [intOf]; omega
    · have HST : Hid (siftDown ltInt hi first root dk = dk) := sift_leaf (by omega)
      go_wp2
      go_end0
      exact ⟨rfl, by rw [← HO.out, HST.out]; exact HR.out⟩
end Go.Proofs.Ytndbkkldfinggab
