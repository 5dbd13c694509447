/- Sorting numbers of the kind uint64: insertionSortOrdered. -/
import Derived.Test.YtndbkkldfinggabS0
namespace Go.Proofs.Ytndbkkldfinggab
open Go.RowKit Go.Shelf Go.Sort
/-- The row's numbers under a name, as the walk wants them. -/
theorem Rw.fam {w W : World} {blk off : Nat} {d : Array Int} (h : Rw w blk off d W) : ∃ G : Nat → Int, (∀ t, G t = d[t]!) ∧ (∀ t, t < d.size → W.cell? ⟨blk, off + t, none⟩ = some (.int .u64 (G t))) ∧ (∀ t, t < d.size → W.frozen? ⟨blk, off + t, none⟩ = false) :=
  ⟨fun t => d[t]!, fun _ => rfl, h.cell, h.frozen⟩
set_option maxHeartbeats 2000000 in
set_option maxRecDepth 100000 in
theorem ins61 (blk off len cap a b : Nat) (d : Array Int) (w : World) (hH : Rw w blk off d w) (hsz : d.size = len) (hs : len ≤ 65536) (hab : a ≤ b) (hb : b ≤ len) :
    Calls Try.prog 61 #[.slice (some ⟨blk, off, none⟩) len cap, .int .i64 a, .int .i64 b] w fun e w' => e = .returned (.tuple #[]) ∧ Rw w blk off (Sort.insertionSort ltInt d a b) w' := by
  go_enter Try.func61, Try.ntmps61
  go_wp2
  go_loopw [6] (fun vi wr => ∃ (i : Nat) (dk : Array Int), vi = .int .i64 i ∧ a < i ∧ i ≤ b + 1 ∧ dk.size = len ∧ Rw w blk off dk wr ∧ insOuter ltInt a b i dk = insOuter ltInt a b (a + 1) d) (fun vi _ => b + 1 - (intOf vi).toNat)
  case atStart => exact ⟨a + 1, d, by go_num, by omega, by omega, hsz, hH, rfl⟩
  case round =>
    obtain ⟨i, dk, rfl, hai, hib, hsk, hR, hO⟩ := hrel
    have HR : Hid (Rw w blk off dk wr) := hR
    have HO : Hid (insOuter ltInt a b i dk = insOuter ltInt a b (a + 1) d) := hO
    clear hR hO hH
    by_cases hlt : i < b
    · go_wp2
      go_loopw [7] (fun vj wr2 => ∃ (j : Nat) (dj : Array Int), vj = .int .i64 j ∧ a ≤ j ∧ j ≤ i ∧ dj.size = len ∧ Rw w blk off dj wr2 ∧ insInner ltInt a j dj = insInner ltInt a i dk) (fun vj _ => (intOf vj).toNat)
      case atStart => exact ⟨i, dk, rfl, by omega, Nat.le_refl _, hsk, HR.out, rfl⟩
      case round =>
        obtain ⟨j, dj, rfl, haj, hji, hsj, hR, hI⟩ := hrel
        obtain ⟨G, hG, hcw, hfw⟩ := hR.fam
        rw [hsj] at hcw hfw
        have HJ : Hid (Rw w blk off dj wr) := hR
        have HG : Hid (∀ t, G t = dj[t]!) := hG
        have HI : Hid (insInner ltInt a j dj = insInner ltInt a i dk) := hI
        clear hG hI hR
        have HOut : Hid ((j ≤ a ∨ ltInt dj[j]! dj[j - 1]! = false) → insOuter ltInt a b (i + 1) dj = insOuter ltInt a b (a + 1) d) := fun hs' => by
          rw [← HO.out, insOuter_go _ _ _ _ _ hlt, ← HI.out, insInner_stop _ _ _ _ hs']
        by_cases hja : a < j
        · cases hl : ltInt (G j) (G (j - 1))
          · go_wp2
            go_quiet (first | (go_at_call 67; refine Calls.quiet_of_same (less67 _ _ _)))
            go_wp2
            go_roundw
            case rel => exact ⟨i + 1, dj, by go_num, by omega, by omega, hsj, HJ.out.drewN _, HOut.out (.inr (by rw [← HG.out, ← HG.out]; exact hl))⟩
            case measure => simp [intOf]; omega
          · go_wp2
            go_quiet (first | (go_at_call 67; refine Calls.quiet_of_same (less67 _ _ _)))
            go_wp2
            go_region
            all_goals go_wp2
            go_roundw
            case rel => exact ⟨j - 1, swp dj j (j - 1), by congr 1; omega, by omega, by omega, by rw [size_swp]; exact hsj, by rw [HG.out, HG.out]; exact (HJ.out.drewN _).swap j (j - 1), by rw [← HI.out, insInner_go ltInt a j dj hja (by rw [← HG.out, ← HG.out]; exact hl)]⟩
            case measure => simp [intOf]; omega
        · have hja' : decide ((a : Int) < (j : Int)) = false := by simp; omega
          go_wp2
          go_quiet (first | (go_at_call 67; refine Calls.quiet_of_same (less67 _ _ _)))
          go_wp2
          go_roundw
          case rel => exact ⟨i + 1, dj, by go_num, by omega, by omega, hsj, HJ.out.drewN _, HOut.out (.inl (by omega))⟩
          case measure => simp [intOf]; omega
    · go_wp2
      go_end0
      exact ⟨rfl, by unfold Sort.insertionSort; rw [← HO.out, insOuter_stop _ _ _ _ _ hlt]; exact HR.out⟩
end Go.Proofs.Ytndbkkldfinggab
