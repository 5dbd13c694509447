/- Of a memory: its pages in order (S0). Of a memory: its pages in order (S1). Of a memory: its pages in order (S2). Of a memory: its pages in order (S3). Of a memory: its pages in order (T2). -/
import Derived.Test.YtnmpbihpoefeoaaDoorJJ
import Derived.Sort.AssemblyPlain
import Derived.Sort.WalkA
import Derived.CellFam
import Derived.BigRegion
import Derived.BigQuiet
import Derived.Deep.QuietTactic
namespace Go.Proofs.YtnmpbihpoefeoaaDoor
section
open Go.RowKit Go.Shelf Go.Sort
/-- A row of numbers in a block: what else lay ahead of w lies as it lay. -/
structure Rw (w : World) (blk off : Nat) (d : Array Int) (W : World) : Prop where
  grown : w.grownBy W (some blk)
  cell : ∀ t, t < d.size → W.cell? ⟨blk, off + t, none⟩ = some (.int .u64 d[t]!)
  frozen : ∀ t, t < d.size → W.frozen? ⟨blk, off + t, none⟩ = false
  ty : ∃ cur, W.heap[blk]? = some (.cells cur 22 (0, 0))
theorem grown_drewN (w : World) (n : Nat) (row : Option Nat) : w.grownBy (w.drewN n) row := ⟨rfl, rfl, rfl, Nat.le_refl _, fun _ _ _ => rfl⟩
theorem Rw.drewN {w W : World} {blk off : Nat} {d : Array Int} (h : Rw w blk off d W) (n : Nat) : Rw w blk off d (W.drewN n) := ⟨h.grown.trans (grown_drewN W n _), h.cell, h.frozen, h.ty⟩
theorem Rw.drew {w W : World} {blk off : Nat} {d : Array Int} (h : Rw w blk off d W) : Rw w blk off d W.drew := h.drewN 1
theorem Rw.trans {w W W' : World} {blk off : Nat} {d d' : Array Int} (h : Rw w blk off d W) (k : Rw W blk off d' W') : Rw w blk off d' W' := ⟨h.grown.trans k.grown, k.cell, k.frozen, k.ty⟩
theorem grownBy_setX (W : World) (b o : Nat) (v : Value) : W.grownBy (W.setCell ⟨b, o, none⟩ v) (some b) :=
  ⟨rfl, rfl, rfl, (KeepsWalks.setCell W _ v).size, fun k _ hk => Below.heap_setCell _ _ _ k (fun e => hk (by rw [e]))⟩
theorem setCell_ty {W : World} {b : Nat} {cur : Array Value} {e : TypeId} {fz : Nat × Nat} (h : W.heap[b]? = some (.cells cur e fz)) (o : Nat) (v : Value) : (W.setCell ⟨b, o, none⟩ v).heap[b]? = some (.cells (cur.setIfInBounds o v) e fz) := by
  rw [setCell_eq]
  unfold mapBlock
  have hl := (Array.getElem?_eq_some_iff.1 h)
  obtain ⟨hlt, hk⟩ := hl
  show (W.heap.modify b _)[b]? = _
  rw [Array.getElem?_eq_getElem (by rw [Array.size_modify]; exact hlt), Array.getElem_modify_self, hk]
  rfl
theorem Rw.set {w W : World} {blk off : Nat} {d : Array Int} (h : Rw w blk off d W) (i : Nat) (x : Int) : Rw w blk off (d.setIfInBounds i x) (W.setCell ⟨blk, off + i, none⟩ (.int .u64 x)) := by
  refine ⟨h.grown.trans (grownBy_setX _ _ _ _), fun t ht => ?_, fun t ht => ?_, by obtain ⟨cur, hc⟩ := h.ty; exact ⟨_, setCell_ty hc _ _⟩⟩
  · rw [Array.size_setIfInBounds] at ht
    by_cases e : t = i
    · subst e
      rw [getElem!_set_same _ _ _ ht]
      exact World.cell?_setCell_same' _ _ _ (by rw [h.cell t ht]; rfl)
    · rw [getElem!_set_other _ _ _ _ e, World.cell?_setCell_other _ _ _ _ (by intro h; injection h with h1 h2; omega)]
      exact h.cell t ht
  · rw [Array.size_setIfInBounds] at ht
    rw [World.frozen?_setCell]
    exact h.frozen t ht
/-- Two numbers of the row have changed places. -/
theorem Rw.swap {w W : World} {blk off : Nat} {d : Array Int} (h : Rw w blk off d W) (i j : Nat) : Rw w blk off (swp d i j) ((W.setCell ⟨blk, off + i, none⟩ (.int .u64 d[j]!)).setCell ⟨blk, off + j, none⟩ (.int .u64 d[i]!)) := (h.set i d[j]!).set j d[i]!
set_option maxHeartbeats 1000000 in
theorem nan77 (x : Int) (w : World) : Calls Tryd.prog 102 #[.int .u64 x] w fun e w' => e = .returned (.bool false) ∧ w' = w := by
  go_enter Tryd.func102, Tryd.ntmps102
  go_wp2
  go_ret
  exact ⟨by simp, rfl⟩
set_option maxHeartbeats 1000000 in
theorem less67 (x y : Int) (w : World) : Calls Tryd.prog 92 #[.int .u64 x, .int .u64 y] w fun e w' => e = .returned (.bool (ltInt x y)) ∧ w' = w := by
  go_enter Tryd.func92, Tryd.ntmps92
  go_wp2_with ((go_at_call 102; refine (nan77 _ _).mono ?_; rintro e w' ⟨rfl, rfl⟩))
  go_ret
  exact ⟨rfl, rfl⟩
end
section
open Go.RowKit Go.Shelf Go.Sort
/-- The row's numbers under a name, as the walk wants them. -/
theorem Rw.fam {w W : World} {blk off : Nat} {d : Array Int} (h : Rw w blk off d W) : ∃ G : Nat → Int, (∀ t, G t = d[t]!) ∧ (∀ t, t < d.size → W.cell? ⟨blk, off + t, none⟩ = some (.int .u64 (G t))) ∧ (∀ t, t < d.size → W.frozen? ⟨blk, off + t, none⟩ = false) :=
  ⟨fun t => d[t]!, fun _ => rfl, h.cell, h.frozen⟩
set_option maxHeartbeats 2000000 in
set_option maxRecDepth 100000 in
theorem ins61 (blk off len cap a b : Nat) (d : Array Int) (w : World) (hH : Rw w blk off d w) (hsz : d.size = len) (hs : len ≤ 65536) (hab : a ≤ b) (hb : b ≤ len) :
    Calls Tryd.prog 86 #[.slice (some ⟨blk, off, none⟩) len cap, .int .i64 a, .int .i64 b] w fun e w' => e = .returned (.tuple #[]) ∧ Rw w blk off (Sort.insertionSort ltInt d a b) w' := by
  go_enter Tryd.func86, Tryd.ntmps86
  go_wp2
  go_loopw [6] (fun vi wr => ∃ (i : Nat) (dk : Array Int), vi = .int .i64 i ∧ a < i ∧ i ≤ b + 1 ∧ dk.size = len ∧ Rw w blk off dk wr ∧ insOuter ltInt a b i dk = insOuter ltInt a b (a + 1) d) (fun vi _ => b + 1 - (intOf vi).toNat)
  case atStart => exact ⟨a + 1, d, by go_num, by omega, by omega, hsz, hH, rfl⟩
  case round =>
    obtain ⟨i, dk, rfl, hai, hib, hsk, hR, hO⟩ := hrel
    have HR : Hid (Rw w blk off dk wr) := hR
    have HO : Hid (insOuter ltInt a b i dk = insOuter ltInt a b (a + 1) d) := hO
    clear hR hO hH
    by_cases hlt : i < b
    · go_wp2
      go_loopw [7] (fun vj wr2 => ∃ (j : Nat) (dj : Array Int), vj = .int .i64 j ∧ a ≤ j ∧ j ≤ i ∧ dj.size = len ∧ Rw w blk off dj wr2 ∧ insInner ltInt a j dj = insInner ltInt a i dk) (fun vj _ => (intOf vj).toNat)
      case atStart => exact ⟨i, dk, rfl, by omega, Nat.le_refl _, hsk, HR.out, rfl⟩
      case round =>
        obtain ⟨j, dj, rfl, haj, hji, hsj, hR, hI⟩ := hrel
        obtain ⟨G, hG, hcw, hfw⟩ := hR.fam
        rw [hsj] at hcw hfw
        have HJ : Hid (Rw w blk off dj wr) := hR
        have HG : Hid (∀ t, G t = dj[t]!) := hG
        have HI : Hid (insInner ltInt a j dj = insInner ltInt a i dk) := hI
        clear hG hI hR
        have HOut : Hid ((j ≤ a ∨ ltInt dj[j]! dj[j - 1]! = false) → insOuter ltInt a b (i + 1) dj = insOuter ltInt a b (a + 1) d) := fun hs' => by
          rw [← HO.out, insOuter_go _ _ _ _ _ hlt, ← HI.out, insInner_stop _ _ _ _ hs']
        by_cases hja : a < j
        · cases hl : ltInt (G j) (G (j - 1))
          · go_wp2
            go_quiet (first | (go_at_call 92; refine Calls.quiet_of_same (less67 _ _ _)))
            go_wp2
            go_roundw
            case rel => exact ⟨i + 1, dj, by go_num, by omega, by omega, hsj, HJ.out.drewN _, HOut.out (.inr (by rw [← HG.out, ← HG.out]; exact hl))⟩
            case measure => simp [intOf]; omega
          · go_wp2
            go_quiet (first | (go_at_call 92; refine Calls.quiet_of_same (less67 _ _ _)))
            go_wp2
            go_region
            all_goals go_wp2
            go_roundw
            case rel => exact ⟨j - 1, swp dj j (j - 1), by congr 1; omega, by omega, by omega, by rw [size_swp]; exact hsj, by rw [HG.out, HG.out]; exact (HJ.out.drewN _).swap j (j - 1), by rw [← HI.out, insInner_go ltInt a j dj hja (by rw [← HG.out, ← HG.out]; exact hl)]⟩
            case measure => simp [intOf]; omega
        · have hja' : decide ((a : Int) < (j : Int)) = false := by simp; omega
          go_wp2
          go_quiet (first | (go_at_call 92; refine Calls.quiet_of_same (less67 _ _ _)))
          go_wp2
          go_roundw
          case rel => exact ⟨i + 1, dj, by go_num, by omega, by omega, hsj, HJ.out.drewN _, HOut.out (.inl (by omega))⟩
          case measure => simp [intOf]; omega
    · go_wp2
      go_end0
      exact ⟨rfl, by unfold Sort.insertionSort; rw [← HO.out, insOuter_stop _ _ _ _ _ hlt]; exact HR.out⟩
end
section
open Go.RowKit Go.Shelf Go.Sort
theorem i64_small (x : Nat) (h : x ≤ 1000000) : IntKind.i64.wrap (x : Int) = (x : Int) := by
  simp [IntKind.wrap, IntKind.signed, IntKind.bits]; omega
theorem sift_leaf {hi first root : Nat} {d : Array Int} (h : hi ≤ 2 * root + 1) : siftDown ltInt hi first root d = d := by rw [siftDown, dif_pos h]
theorem sift_stop2 {hi first root : Nat} {d : Array Int} (h : 2 * root + 2 < hi) (hl : ltInt d[first + (2 * root + 1)]! d[first + (2 * root + 2)]! = true) (hs : ltInt d[first + root]! d[first + (2 * root + 2)]! = false) : siftDown ltInt hi first root d = d := by
  rw [siftDown, dif_neg (by omega), if_pos (by rw [decide_eq_true (by omega : 2 * root + 1 + 1 < hi)]; simpa [Nat.add_assoc] using hl), if_pos (by rw [hs]; rfl)]
theorem sift_go2 {hi first root : Nat} {d : Array Int} (h : 2 * root + 2 < hi) (hl : ltInt d[first + (2 * root + 1)]! d[first + (2 * root + 2)]! = true) (hs : ltInt d[first + root]! d[first + (2 * root + 2)]! = true) : siftDown ltInt hi first root d = siftDown ltInt hi first (2 * root + 2) (swp d (first + root) (first + (2 * root + 2))) := by
  rw [siftDown, dif_neg (by omega), if_pos (by rw [decide_eq_true (by omega : 2 * root + 1 + 1 < hi)]; simpa [Nat.add_assoc] using hl), if_neg (by rw [hs]; decide), dif_pos h]
theorem sift_stop1 {hi first root : Nat} {d : Array Int} (h : 2 * root + 1 < hi) (hl : ¬ 2 * root + 2 < hi ∨ ltInt d[first + (2 * root + 1)]! d[first + (2 * root + 2)]! = false) (hs : ltInt d[first + root]! d[first + (2 * root + 1)]! = false) : siftDown ltInt hi first root d = d := by
  rw [siftDown, dif_neg (by omega), if_neg (by rcases hl with hl | hl; · simp; omega
                                               · have : ltInt d[first + (2 * root + 1)]! d[first + (2 * root + 1) + 1]! = false := hl
                                                 rw [this]; simp), if_pos (by rw [hs]; rfl)]
theorem sift_go1 {hi first root : Nat} {d : Array Int} (h : 2 * root + 1 < hi) (hl : ¬ 2 * root + 2 < hi ∨ ltInt d[first + (2 * root + 1)]! d[first + (2 * root + 2)]! = false) (hs : ltInt d[first + root]! d[first + (2 * root + 1)]! = true) : siftDown ltInt hi first root d = siftDown ltInt hi first (2 * root + 1) (swp d (first + root) (first + (2 * root + 1))) := by
  rw [siftDown, dif_neg (by omega), if_neg (by rcases hl with hl | hl; · simp; omega
                                               · have : ltInt d[first + (2 * root + 1)]! d[first + (2 * root + 1) + 1]! = false := hl
                                                 rw [this]; simp), if_neg (by rw [hs]; decide)]
set_option maxHeartbeats 4000000 in
set_option maxRecDepth 100000 in
theorem sift72 (blk off len cap lo hi first : Nat) (d : Array Int) (w : World) (hH : Rw w blk off d w) (hsz : d.size = len) (hs : len ≤ 65536) (hlo : lo ≤ hi) (hb : first + hi ≤ len) :
    Calls Tryd.prog 97 #[.slice (some ⟨blk, off, none⟩) len cap, .int .i64 lo, .int .i64 hi, .int .i64 first] w fun e w' => e = .returned (.tuple #[]) ∧ Rw w blk off (siftDown ltInt hi first lo d) w' := by
  go_enter Tryd.func97, Tryd.ntmps97
  go_wp2
  go_loopw [8] (fun vi wr => ∃ (root : Nat) (dk : Array Int), vi = .int .i64 root ∧ root ≤ hi ∧ dk.size = len ∧ Rw w blk off dk wr ∧ siftDown ltInt hi first root dk = siftDown ltInt hi first lo d) (fun vi _ => hi - (intOf vi).toNat)
  case atStart => exact ⟨lo, d, rfl, hlo, hsz, hH, rfl⟩
  case round =>
    obtain ⟨root, dk, rfl, hrh, hsk, hR, hO⟩ := hrel
    obtain ⟨G, hG, hcw, hfw⟩ := hR.fam
    rw [hsk] at hcw hfw
    have HR : Hid (Rw w blk off dk wr) := hR
    have HG : Hid (∀ t, G t = dk[t]!) := hG
    have HO : Hid (siftDown ltInt hi first root dk = siftDown ltInt hi first lo d) := hO
    clear hR hO hH hG
    obtain ⟨c1, hc1⟩ : ∃ c1 : Nat, 2 * root + 1 = c1 := ⟨_, rfl⟩
    obtain ⟨c2, hc2⟩ : ∃ c2 : Nat, c1 + 1 = c2 := ⟨_, rfl⟩
    obtain ⟨f1, hf1⟩ : ∃ f1 : Nat, first + c1 = f1 := ⟨_, rfl⟩
    obtain ⟨f2, hf2⟩ : ∃ f2 : Nat, f1 + 1 = f2 := ⟨_, rfl⟩
    obtain ⟨fr, hfr⟩ : ∃ fr : Nat, first + root = fr := ⟨_, rfl⟩
    have y1 : 2 * (root : Int) + 1 = (c1 : Int) := by omega
    have y2 : (c1 : Int) + 1 = (c2 : Int) := by omega
    have y3 : (first : Int) + (c1 : Int) = (f1 : Int) := by omega
    have y4 : (f1 : Int) + 1 = (f2 : Int) := by omega
    have y5 : (first : Int) + (c2 : Int) = (f2 : Int) := by omega
    have y6 : (first : Int) + (root : Int) = (fr : Int) := by omega
    by_cases hc : c1 < hi
    · have b1 : f1 < len := by omega
      have b0 : fr < len := by omega
      have z1 := i64_small c1 (by omega)
      have z2 := i64_small c2 (by omega)
      have z3 := i64_small f1 (by omega)
      have z4 := i64_small f2 (by omega)
      have z5 := i64_small fr (by omega)
      by_cases hc2h : c2 < hi
      · have b2 : f2 < len := by omega
        cases hl : ltInt (G f1) (G f2)
        · cases hs2 : ltInt (G fr) (G f1)
          · have HST : Hid (siftDown ltInt hi first root dk = dk) := (by subst hfr hf2 hf1 hc2 hc1; exact sift_stop1 (by omega) (.inr (by rw [← HG.out, ← HG.out]; exact hl)) (by rw [← HG.out, ← HG.out]; exact hs2))
            go_wp2
            go_quiet (first | (go_at_call 92; refine Calls.quiet_of_same (less67 _ _ _)))
            have HRq : Hid (Rw w blk off dk (wr.drewN nq)) := HR.out.drewN _; have hcq : ∀ t, t < len → (wr.drewN nq).cell? ⟨blk, off + t, none⟩ = some (.int .u64 (G t)) := hcw; have hfq : ∀ t, t < len → (wr.drewN nq).frozen? ⟨blk, off + t, none⟩ = false := hfw; clear hcw hfw; generalize wr.drewN nq = wq at *
            go_wp2
            go_quiet (first | (go_at_call 92; refine Calls.quiet_of_same (less67 _ _ _)))
            go_wp2
            refine bodyPost_ret (results_none rfl _ _ _) rfl ?_
            exact ⟨rfl, by rw [← HO.out, HST.out]; exact (HRq.out.drewN _)⟩
          · have HGO : Hid (siftDown ltInt hi first root dk = siftDown ltInt hi first c1 (swp dk fr f1)) := (by subst hfr hf2 hf1 hc2 hc1; exact sift_go1 (by omega) (.inr (by rw [← HG.out, ← HG.out]; exact hl)) (by rw [← HG.out, ← HG.out]; exact hs2))
            go_wp2
            go_quiet (first | (go_at_call 92; refine Calls.quiet_of_same (less67 _ _ _)))
            have HRq : Hid (Rw w blk off dk (wr.drewN nq)) := HR.out.drewN _; have hcq : ∀ t, t < len → (wr.drewN nq).cell? ⟨blk, off + t, none⟩ = some (.int .u64 (G t)) := hcw; have hfq : ∀ t, t < len → (wr.drewN nq).frozen? ⟨blk, off + t, none⟩ = false := hfw; clear hcw hfw; generalize wr.drewN nq = wq at *
            go_wp2
            go_quiet (first | (go_at_call 92; refine Calls.quiet_of_same (less67 _ _ _)))
            go_wp2
            go_region
            all_goals go_wp2
            go_roundw
            case rel => exact ⟨c1, swp dk fr f1, rfl, by omega, by rw [size_swp]; exact hsk, by rw [HG.out, HG.out]; exact (HRq.out.drewN _).swap fr f1, by rw [← HO.out, HGO.out]⟩
            case measure => simp [intOf]; omega
        · cases hs2 : ltInt (G fr) (G f2)
          · have HST : Hid (siftDown ltInt hi first root dk = dk) := (by subst hfr hf2 hf1 hc2 hc1; exact sift_stop2 (by omega) (by rw [← HG.out, ← HG.out]; exact hl) (by rw [← HG.out, ← HG.out]; exact hs2))
            go_wp2
            go_quiet (first | (go_at_call 92; refine Calls.quiet_of_same (less67 _ _ _)))
            have HRq : Hid (Rw w blk off dk (wr.drewN nq)) := HR.out.drewN _; have hcq : ∀ t, t < len → (wr.drewN nq).cell? ⟨blk, off + t, none⟩ = some (.int .u64 (G t)) := hcw; have hfq : ∀ t, t < len → (wr.drewN nq).frozen? ⟨blk, off + t, none⟩ = false := hfw; clear hcw hfw; generalize wr.drewN nq = wq at *
            go_wp2
            go_quiet (first | (go_at_call 92; refine Calls.quiet_of_same (less67 _ _ _)))
            go_wp2
            refine bodyPost_ret (results_none rfl _ _ _) rfl ?_
            exact ⟨rfl, by rw [← HO.out, HST.out]; exact (HRq.out.drewN _)⟩
          · have HGO : Hid (siftDown ltInt hi first root dk = siftDown ltInt hi first c2 (swp dk fr f2)) := (by subst hfr hf2 hf1 hc2 hc1; exact sift_go2 (by omega) (by rw [← HG.out, ← HG.out]; exact hl) (by rw [← HG.out, ← HG.out]; exact hs2))
            go_wp2
            go_quiet (first | (go_at_call 92; refine Calls.quiet_of_same (less67 _ _ _)))
            have HRq : Hid (Rw w blk off dk (wr.drewN nq)) := HR.out.drewN _; have hcq : ∀ t, t < len → (wr.drewN nq).cell? ⟨blk, off + t, none⟩ = some (.int .u64 (G t)) := hcw; have hfq : ∀ t, t < len → (wr.drewN nq).frozen? ⟨blk, off + t, none⟩ = false := hfw; clear hcw hfw; generalize wr.drewN nq = wq at *
            go_wp2
            go_quiet (first | (go_at_call 92; refine Calls.quiet_of_same (less67 _ _ _)))
            go_wp2
            go_region
            all_goals go_wp2
            go_roundw
            case rel => exact ⟨c2, swp dk fr f2, rfl, by omega, by rw [size_swp]; exact hsk, by rw [HG.out, HG.out]; exact (HRq.out.drewN _).swap fr f2, by rw [← HO.out, HGO.out]⟩
            case measure => simp [intOf]; omega
      · have hc2' : decide ((c2 : Int) < (hi : Int)) = false := decide_eq_false (by omega)
        cases hs2 : ltInt (G fr) (G f1)
        · have HST : Hid (siftDown ltInt hi first root dk = dk) := (by subst hfr hf2 hf1 hc2 hc1; exact sift_stop1 (by omega) (.inl (by omega)) (by rw [← HG.out, ← HG.out]; exact hs2))
          go_wp2
          go_quiet (first | (go_at_call 92; refine Calls.quiet_of_same (less67 _ _ _)))
          have HRq : Hid (Rw w blk off dk (wr.drewN nq)) := HR.out.drewN _; have hcq : ∀ t, t < len → (wr.drewN nq).cell? ⟨blk, off + t, none⟩ = some (.int .u64 (G t)) := hcw; have hfq : ∀ t, t < len → (wr.drewN nq).frozen? ⟨blk, off + t, none⟩ = false := hfw; clear hcw hfw; generalize wr.drewN nq = wq at *
          go_wp2
          go_quiet (first | (go_at_call 92; refine Calls.quiet_of_same (less67 _ _ _)))
          go_wp2
          refine bodyPost_ret (results_none rfl _ _ _) rfl ?_
          exact ⟨rfl, by rw [← HO.out, HST.out]; exact (HRq.out.drewN _)⟩
        · have HGO : Hid (siftDown ltInt hi first root dk = siftDown ltInt hi first c1 (swp dk fr f1)) := (by subst hfr hf2 hf1 hc2 hc1; exact sift_go1 (by omega) (.inl (by omega)) (by rw [← HG.out, ← HG.out]; exact hs2))
          go_wp2
          go_quiet (first | (go_at_call 92; refine Calls.quiet_of_same (less67 _ _ _)))
          have HRq : Hid (Rw w blk off dk (wr.drewN nq)) := HR.out.drewN _; have hcq : ∀ t, t < len → (wr.drewN nq).cell? ⟨blk, off + t, none⟩ = some (.int .u64 (G t)) := hcw; have hfq : ∀ t, t < len → (wr.drewN nq).frozen? ⟨blk, off + t, none⟩ = false := hfw; clear hcw hfw; generalize wr.drewN nq = wq at *
          go_wp2
          go_quiet (first | (go_at_call 92; refine Calls.quiet_of_same (less67 _ _ _)))
          go_wp2
          go_region
          all_goals go_wp2
          go_roundw
          case rel => exact ⟨c1, swp dk fr f1, rfl, by omega, by rw [size_swp]; exact hsk, by rw [HG.out, HG.out]; exact (HRq.out.drewN _).swap fr f1, by rw [← HO.out, HGO.out]⟩
          case measure => simp [intOf]; omega
    · have HST : Hid (siftDown ltInt hi first root dk = dk) := sift_leaf (by omega)
      go_wp2
      go_end0
      exact ⟨rfl, by rw [← HO.out, HST.out]; exact HR.out⟩
end
section
open Go.RowKit Go.Shelf Go.Sort
theorem size_sift (hi first : Nat) : ∀ (n root : Nat) (d : Array Int), hi - root ≤ n → (siftDown ltInt hi first root d).size = d.size
  | 0, root, d, h => by rw [sift_leaf (by omega)]
  | n + 1, root, d, h => by
    rw [siftDown]
    split
    · rfl
    · split
      · split
        · rfl
        · split
          · rw [size_sift hi first n _ _ (by omega), size_swp]
          · rfl
      · split
        · rfl
        · rw [size_sift hi first n _ _ (by omega), size_swp]
theorem Rw.self {w W : World} {blk off : Nat} {d : Array Int} (h : Rw w blk off d W) : Rw W blk off d W := ⟨World.grownBy.refl _ _, h.cell, h.frozen, h.ty⟩
set_option maxHeartbeats 4000000 in
set_option maxRecDepth 100000 in
theorem heap62 (blk off len cap a b : Nat) (d : Array Int) (w : World) (hH : Rw w blk off d w) (hsz : d.size = len) (hs : len ≤ 65536) (hab : a ≤ b) (hb : b ≤ len) :
    Calls Tryd.prog 87 #[.slice (some ⟨blk, off, none⟩) len cap, .int .i64 a, .int .i64 b] w fun e w' => e = .returned (.tuple #[]) ∧ Rw w blk off (Sort.heapSort ltInt d a b) w' := by
  obtain ⟨n, hn⟩ : ∃ n : Nat, b - a = n := ⟨_, rfl⟩
  have y1 : (b : Int) - (a : Int) = (n : Int) := by omega
  have HD : Hid (Sort.heapSort ltInt d a b = heapPop ltInt a n (heapBuild ltInt n a ((n - 1) / 2 + 1) d)) := (by unfold Sort.heapSort; rw [hn] : Sort.heapSort ltInt d a b = heapPop ltInt a n (heapBuild ltInt n a ((n - 1) / 2 + 1) d))
  have HSf : Hid (∀ (lo hi : Nat) (dk : Array Int) (W : World), Rw w blk off dk W → dk.size = len → lo ≤ hi → a + hi ≤ len → Calls Tryd.prog 97 #[.slice (some ⟨blk, off, none⟩) len cap, .int .i64 lo, .int .i64 hi, .int .i64 a] W fun e w' => e = .returned (.tuple #[]) ∧ Rw w blk off (siftDown ltInt hi a lo dk) w' ∧ (siftDown ltInt hi a lo dk).size = len) := fun lo hi dk W hR hk h1 h2 =>
    (sift72 blk off len cap lo hi a dk W hR.self hk hs h1 h2).mono fun e w' ⟨he, hr⟩ => ⟨he, hR.trans hr, by rw [size_sift hi a _ lo dk (Nat.le_refl _), hk]⟩
  obtain ⟨q, hq⟩ : ∃ q : Nat, (n - 1) / 2 = q := ⟨_, rfl⟩
  have y2 : ((n : Int) - 1).tdiv 2 = (q : Int) := by
    rcases Nat.eq_zero_or_pos n with h0 | h0
    · subst h0; simp at hq; subst hq; decide
    · rw [Int.tdiv_eq_ediv_of_nonneg (by omega)]; omega
  rw [hq] at HD
  go_enter Tryd.func87, Tryd.ntmps87
  go_wp2_with fail
  go_loopw [9] (fun vi wr => ∃ (k : Nat) (dk : Array Int), vi = .int .i64 ((k : Int) - 1) ∧ k ≤ q + 1 ∧ dk.size = len ∧ Rw w blk off dk wr ∧ heapBuild ltInt n a k dk = heapBuild ltInt n a (q + 1) d) (fun vi _ => (intOf vi + 1).toNat)
  case atStart => exact ⟨q + 1, d, by congr 1; omega, Nat.le_refl _, hsz, hH, rfl⟩
  case round =>
    obtain ⟨k, dk, rfl, hk, hsk, hR, hO⟩ := hrel
    have HR : Hid (Rw w blk off dk wr) := hR
    have HO : Hid (heapBuild ltInt n a k dk = heapBuild ltInt n a (q + 1) d) := hO
    clear hR hO hH
    rcases k with _ | k
    · rw [show ((0 : Nat) : Int) - 1 = -1 by omega]
      go_wp2_with fail
      go_loopw [10] (fun vi wr2 => ∃ (k : Nat) (dj : Array Int), vi = .int .i64 ((k : Int) - 1) ∧ k ≤ n ∧ dj.size = len ∧ Rw w blk off dj wr2 ∧ heapPop ltInt a k dj = heapPop ltInt a n dk) (fun vi _ => (intOf vi + 1).toNat)
      case atStart => exact ⟨n, dk, rfl, Nat.le_refl _, hsk, HR.out, rfl⟩
      case round =>
        obtain ⟨k, dj, rfl, hk, hsj, hR, hI⟩ := hrel
        obtain ⟨G, hG, hcw, hfw⟩ := hR.fam
        rw [hsj] at hcw hfw
        have HJ : Hid (Rw w blk off dj wr) := hR
        have HG : Hid (∀ t, G t = dj[t]!) := hG
        have HI : Hid (heapPop ltInt a k dj = heapPop ltInt a n dk) := hI
        clear hR hI hG
        rcases k with _ | k
        · go_wp2
          go_end0
          exact ⟨rfl, by rw [HD.out, ← HO.out]; simp only [heapBuild]; rw [← HI.out]; exact HJ.out⟩
        · rw [show ((k + 1 : Nat) : Int) - 1 = (k : Int) by omega]
          obtain ⟨f, hf⟩ : ∃ f : Nat, a + k = f := ⟨_, rfl⟩
          have y3 : (a : Int) + (k : Int) = (f : Int) := by omega
          have b0 : a < len := by omega
          have b1 : f < len := by omega
          have z1 := i64_small f (by omega)
          rcases Nat.eq_zero_or_pos k with h0 | h0
          · obtain rfl : f = a := by omega
            subst h0
            have HW : Hid (Rw w blk off (swp dj f f) ((wr.setCell ⟨blk, off + f, none⟩ (.int .u64 (G f))).setCell ⟨blk, off + f, none⟩ (.int .u64 (G f)))) := (by rw [HG.out]; exact HJ.out.swap f f : Rw w blk off (swp dj f f) ((wr.setCell ⟨blk, off + f, none⟩ (.int .u64 (G f))).setCell ⟨blk, off + f, none⟩ (.int .u64 (G f))))
            go_wp2
            go_region
            all_goals go_wp2_with fail
            refine (HSf.out 0 0 (swp dj f f) _ HW.out.drew (by rw [size_swp]; exact hsj) (by omega) (by omega)).mono ?_
            rintro e w1 ⟨rfl, hr1, hs1⟩
            have HR1 : Hid (Rw w blk off (siftDown ltInt 0 f 0 (swp dj f f)) w1) := hr1
            clear hr1
            go_wp2
            go_roundw
            case rel => exact ⟨0, _, rfl, by omega, hs1, HR1.out, HI.out⟩
            case measure => simp [intOf]
          · have HW : Hid (Rw w blk off (swp dj a f) ((wr.setCell ⟨blk, off + a, none⟩ (.int .u64 (G f))).setCell ⟨blk, off + f, none⟩ (.int .u64 (G a)))) := (by rw [HG.out, HG.out]; exact HJ.out.swap a f : Rw w blk off (swp dj a f) ((wr.setCell ⟨blk, off + a, none⟩ (.int .u64 (G f))).setCell ⟨blk, off + f, none⟩ (.int .u64 (G a))))
            have HI2 : Hid (heapPop ltInt a k (siftDown ltInt k a 0 (swp dj a f)) = heapPop ltInt a n dk) := (by have t := HI.out; simp only [heapPop] at t; rw [hf] at t; exact t : heapPop ltInt a k (siftDown ltInt k a 0 (swp dj a f)) = heapPop ltInt a n dk)
            go_wp2
            go_region
            all_goals go_wp2_with fail
            refine (HSf.out 0 k (swp dj a f) _ HW.out.drew (by rw [size_swp]; exact hsj) (by omega) (by omega)).mono ?_
            rintro e w1 ⟨rfl, hr1, hs1⟩
            have HR1 : Hid (Rw w blk off (siftDown ltInt k a 0 (swp dj a f)) w1) := hr1
            clear hr1
            go_wp2
            go_roundw
            case rel => exact ⟨k, _, rfl, by omega, hs1, HR1.out, HI2.out⟩
            case measure => simp [intOf]
    · rw [show ((k + 1 : Nat) : Int) - 1 = (k : Int) by omega]
      go_wp2_with fail
      refine (HSf.out k n dk _ HR.out hsk (by omega) (by omega)).mono ?_
      rintro e w1 ⟨rfl, hr1, hs1⟩
      have HR1 : Hid (Rw w blk off (siftDown ltInt n a k dk) w1) := hr1
      clear hr1
      go_wp2
      go_roundw
      case rel => exact ⟨k, _, rfl, by omega, hs1, HR1.out, HO.out⟩
      case measure => simp [intOf]
theorem rev_go {i j : Nat} {d : Array Int} (h : i < j) : reverseLoop i j d = reverseLoop (i + 1) (j - 1) (swp d i j) := by rw [reverseLoop, if_pos h]
theorem rev_stop {i j : Nat} {d : Array Int} (h : ¬ i < j) : reverseLoop i j d = d := by rw [reverseLoop, if_neg h]
set_option maxHeartbeats 4000000 in
set_option maxRecDepth 100000 in
theorem rev65 (blk off len cap a b : Nat) (d : Array Int) (w : World) (hH : Rw w blk off d w) (hsz : d.size = len) (hs : len ≤ 65536) (hab : a < b) (hb : b ≤ len) :
    Calls Tryd.prog 90 #[.slice (some ⟨blk, off, none⟩) len cap, .int .i64 a, .int .i64 b] w fun e w' => e = .returned (.tuple #[]) ∧ Rw w blk off (Sort.reverseRange d a b) w' := by
  have HD : Hid (Sort.reverseRange d a b = reverseLoop a (b - 1) d) := rfl
  go_enter Tryd.func90, Tryd.ntmps90
  go_wp2_with fail
  go_loopw [6, 7] (fun vi vj wr => ∃ (i j : Nat) (dk : Array Int), vi = .int .i64 i ∧ vj = .int .i64 j ∧ a ≤ i ∧ j < b ∧ i ≤ j + 1 ∧ dk.size = len ∧ Rw w blk off dk wr ∧ reverseLoop i j dk = reverseLoop a (b - 1) d) (fun vi vj _ => (intOf vj - intOf vi + 1).toNat)
  case atStart => exact ⟨a, b - 1, d, rfl, by congr 1; omega, Nat.le_refl _, by omega, by omega, hsz, hH, rfl⟩
  case round =>
    obtain ⟨i, j, dk, rfl, rfl, hi, hj, hij, hsk, hR, hO⟩ := hrel
    obtain ⟨G, hG, hcw, hfw⟩ := hR.fam
    rw [hsk] at hcw hfw
    have HR : Hid (Rw w blk off dk wr) := hR
    have HG : Hid (∀ t, G t = dk[t]!) := hG
    have HO : Hid (reverseLoop i j dk = reverseLoop a (b - 1) d) := hO
    clear hR hO hH hG
    by_cases hlt : i < j
    · have HW : Hid (Rw w blk off (swp dk i j) ((wr.setCell ⟨blk, off + i, none⟩ (.int .u64 (G j))).setCell ⟨blk, off + j, none⟩ (.int .u64 (G i)))) := (by rw [HG.out, HG.out]; exact HR.out.swap i j : Rw w blk off (swp dk i j) ((wr.setCell ⟨blk, off + i, none⟩ (.int .u64 (G j))).setCell ⟨blk, off + j, none⟩ (.int .u64 (G i))))
      go_wp2
      go_region
      all_goals go_wp2
      go_roundw
      case rel => exact ⟨i + 1, j - 1, swp dk i j, by go_num, by congr 1; omega, by omega, by omega, by omega, by rw [size_swp]; exact hsk, HW.out.drew, by rw [← HO.out, rev_go hlt]⟩
      case measure => simp [intOf]; omega
    · go_wp2
      go_end0
      exact ⟨rfl, by rw [HD.out, ← HO.out, rev_stop hlt]; exact HR.out⟩
end
section
open Go.RowKit Go.Shelf Go.Sort
theorem size_sd : ∀ (j : Nat) (d : Array Int), (shiftDown ltInt j d).size = d.size
  | 0, _ => rfl
  | j + 1, d => by
    rw [shiftDown]
    split
    · rfl
    · rw [size_sd j, size_swp]
theorem size_su (b : Nat) : ∀ (n j : Nat) (d : Array Int), b - j ≤ n → (shiftUp ltInt b j d).size = d.size
  | 0, j, d, h => by rw [shiftUp, if_neg (by omega)]
  | n + 1, j, d, h => by
    rw [shiftUp]
    split
    · split
      · rfl
      · rw [size_su b n _ _ (by omega), size_swp]
    · rfl
theorem size_pi (a b : Nat) : ∀ (s i : Nat) (d : Array Int), (partialIns ltInt a b s i d).1.size = d.size
  | 0, _, _ => rfl
  | s + 1, i, d => by
    simp only [partialIns]
    split
    · rfl
    · split
      · rfl
      · rw [size_pi a b s]
        have h1 : ∀ d : Array Int, (if i - a ≥ 2 then shiftDown ltInt (i - 1) d else d).size = d.size := fun d => by split <;> simp [size_sd]
        split
        · rw [size_su b _ _ _ (Nat.le_refl _)]
          split
          · rw [size_sd, size_swp]
          · rw [size_swp]
        · split
          · rw [size_sd, size_swp]
          · rw [size_swp]
theorem up_ge (p : Int → Bool) (d : Array Int) (j i : Nat) : i ≤ scanUp p d j i := Sort.scanUp_ge p d j i
theorem down_le (p : Int → Bool) (d : Array Int) (i j : Nat) : scanDown p d i j ≤ j := Sort.scanDown_le p d i j
theorem up_le (p : Int → Bool) (d : Array Int) (j : Nat) : ∀ (n i : Nat), j + 1 - i ≤ n → scanUp p d j i ≤ max i (j + 1)
  | 0, i, h => by
    rw [scanUp, if_neg]
    · omega
    · rw [decide_eq_false (by omega)]; simp
  | n + 1, i, h => by
    rw [scanUp]
    split
    · rename_i hc
      have : i ≤ j := by simp at hc; exact hc.1
      have := up_le p d j n (i + 1) (by omega)
      omega
    · omega
theorem partEq_range (a b : Nat) : ∀ (n i j : Nat) (d : Array Int), j + 1 - i ≤ n → a + 1 ≤ i → i ≤ b → j < b → a < (partEqLoop ltInt a i j d).1 ∧ (partEqLoop ltInt a i j d).1 ≤ b ∧ (partEqLoop ltInt a i j d).2.size = d.size
  | n, i, j, d, hn, h1, h2, h3 => by
    have u1 := up_ge (fun x => !ltInt d[a]! x) d j i
    have u2 := up_le (fun x => !ltInt d[a]! x) d j _ i (Nat.le_refl _)
    have u3 := down_le (fun x => ltInt d[a]! x) d (scanUp (fun x => !ltInt d[a]! x) d j i) j
    rw [partEqLoop_eq]
    split
    · exact ⟨by show a < scanUp _ _ _ _; omega, by show scanUp _ _ _ _ ≤ b; omega, rfl⟩
    · rename_i hc
      cases n with
      | zero => omega
      | succ n =>
        have t := partEq_range a b n _ _ (swp d (scanUp (fun x => !ltInt d[a]! x) d j i) (scanDown (fun x => ltInt d[a]! x) d (scanUp (fun x => !ltInt d[a]! x) d j i) j)) (by omega) (by omega : a + 1 ≤ scanUp (fun x => !ltInt d[a]! x) d j i + 1) (by omega) (by omega : scanDown (fun x => ltInt d[a]! x) d (scanUp (fun x => !ltInt d[a]! x) d j i) j - 1 < b)
        rw [size_swp] at t
        exact t
/-- What pdqsort does behind the choice of its pivot. -/
def pdqRest (d : Array Int) (a b lim pivot : Nat) (wb wp : Bool) : Array Int :=
  if a > 0 && !ltInt d[a - 1]! d[pivot]! then pdq ltInt (Sort.partitionEqual ltInt d a b pivot).2 (Sort.partitionEqual ltInt d a b pivot).1 b lim wb wp
  else if (Sort.partition ltInt d a b pivot).1 - a < b - (Sort.partition ltInt d a b pivot).1 then
    pdq ltInt (pdq ltInt (Sort.partition ltInt d a b pivot).2.2 a (Sort.partition ltInt d a b pivot).1 lim true true) ((Sort.partition ltInt d a b pivot).1 + 1) b lim (decide ((Sort.partition ltInt d a b pivot).1 - a ≥ (b - a) / 8)) (Sort.partition ltInt d a b pivot).2.1
  else pdq ltInt (pdq ltInt (Sort.partition ltInt d a b pivot).2.2 ((Sort.partition ltInt d a b pivot).1 + 1) b lim true true) a (Sort.partition ltInt d a b pivot).1 lim (decide (b - (Sort.partition ltInt d a b pivot).1 ≥ (b - a) / 8)) (Sort.partition ltInt d a b pivot).2.1
theorem pdq_ins {d : Array Int} {a b limit : Nat} {wb wp : Bool} (h : b - a ≤ 12) : pdq ltInt d a b limit wb wp = Sort.insertionSort ltInt d a b := by rw [pdq, if_pos h]
theorem pdq_heap {d : Array Int} {a b limit : Nat} {wb wp : Bool} (h : ¬ b - a ≤ 12) (h0 : limit = 0) : pdq ltInt d a b limit wb wp = Sort.heapSort ltInt d a b := by rw [pdq, if_neg h, if_pos h0]
theorem pdq_round {d d1 d2 : Array Int} {a b limit lim pivot : Nat} {wb wp : Bool} {c : Nat × Hint} {hint : Hint} {pi : Array Int × Bool} (h : ¬ b - a ≤ 12) (h0 : ¬ limit = 0) (hb : b ≤ d.size)
    (e1 : (if !wb then Sort.breakPatterns d a b else d) = d1) (e2 : (if !wb then limit - 1 else limit) = lim) (e3 : choosePivot ltInt d1 a b = c) (e4 : (if c.2 = .decreasing then Sort.reverseRange d1 a b else d1) = d2)
    (e5 : (if c.2 = .decreasing then (b - 1) - (c.1 - a) else c.1) = pivot) (e6 : (if c.2 = .decreasing then Hint.increasing else c.2) = hint) (e7 : (if wb && wp && hint = .increasing then Sort.partialInsertionSort ltInt d2 a b else (d2, false)) = pi) :
    d1.size = d.size ∧ d2.size = d.size ∧ pi.1.size = d.size ∧ a ≤ pivot ∧ pivot < b ∧ pdq ltInt d a b limit wb wp = if pi.2 then pi.1 else pdqRest pi.1 a b lim pivot wb wp := by
  have s1 : d1.size = d.size := by
    rw [← e1]
    split
    · exact (breakPatterns_holds d a b (by omega) hb).1
    · rfl
  have s2 : d2.size = d.size := by
    rw [← e4]
    split
    · rw [(reverseRange_holds d1 a b (by omega) (by omega)).1, s1]
    · exact s1
  have s3 : pi.1.size = d.size := by
    rw [← e7]
    split
    · unfold Sort.partialInsertionSort; rw [size_pi, s2]
    · exact s2
  have hc := choosePivot_holds ltInt d1 a b (by omega)
  rw [e3] at hc
  have hp : a ≤ pivot ∧ pivot < b := by
    rw [← e5]
    split <;> omega
  refine ⟨s1, s2, s3, hp.1, hp.2, ?_⟩
  rw [pdq, if_neg h, if_neg h0]
  simp only []
  rw [e1, e2, e3, e4, e5, e6, e7]
  split
  · rfl
  · unfold pdqRest
    split
    · have t := partEq_range a b _ (a + 1) (b - 1) (swp pi.1 a pivot) (Nat.le_refl _) (Nat.le_refl _) (by omega) (by omega)
      have t1 : a < (Sort.partitionEqual ltInt pi.1 a b pivot).1 := t.1
      have t2 : (Sort.partitionEqual ltInt pi.1 a b pivot).1 ≤ b := t.2.1
      rw [dif_pos ⟨t1, t2⟩]
    · have t := partition_holds (lt := ltInt) swo_ltInt pi.1 a b pivot hp.1 hp.2 (by omega)
      have t1 : a ≤ (Sort.partition ltInt pi.1 a b pivot).1 ∧ (Sort.partition ltInt pi.1 a b pivot).1 < b := ⟨t.1, t.2.1⟩
      rw [dif_pos t1]
theorem pdq_size : ∀ (N : Nat) (d : Array Int) (a b limit : Nat) (wb wp : Bool), b - a < N → a ≤ b → b ≤ d.size → (pdq ltInt d a b limit wb wp).size = d.size
  | 0, _, _, _, _, _, _, h, _, _ => absurd h (Nat.not_lt_zero _)
  | N + 1, d, a, b, limit, wb, wp, h, hab, hb => by
    by_cases h12 : b - a ≤ 12
    · rw [pdq_ins h12]; exact (insertionSort_holds (lt := ltInt) swo_ltInt d a b hab hb).1.1
    · by_cases h0 : limit = 0
      · rw [pdq_heap h12 h0]; exact (heapSort_holds (lt := ltInt) swo_ltInt d a b hab hb).1.1
      · obtain ⟨d1, e1⟩ : ∃ d1, (if !wb then Sort.breakPatterns d a b else d) = d1 := ⟨_, rfl⟩
        obtain ⟨c, e3⟩ : ∃ c, choosePivot ltInt d1 a b = c := ⟨_, rfl⟩
        obtain ⟨d2, e4⟩ : ∃ d2, (if c.2 = .decreasing then Sort.reverseRange d1 a b else d1) = d2 := ⟨_, rfl⟩
        obtain ⟨pv, e5⟩ : ∃ pv, (if c.2 = .decreasing then (b - 1) - (c.1 - a) else c.1) = pv := ⟨_, rfl⟩
        obtain ⟨hint, e6⟩ : ∃ hint, (if c.2 = .decreasing then Hint.increasing else c.2) = hint := ⟨_, rfl⟩
        obtain ⟨pi, e7⟩ : ∃ pi, (if wb && wp && hint = .increasing then Sort.partialInsertionSort ltInt d2 a b else (d2, false)) = pi := ⟨_, rfl⟩
        obtain ⟨s1, s2, s3, p1, p2, e⟩ := pdq_round (d := d) (a := a) (b := b) (limit := limit) (wb := wb) (wp := wp) h12 h0 hb e1 rfl e3 e4 e5 e6 e7
        rw [e]
        clear e e1 e3 e4 e5 e6 e7
        split
        · exact s3
        · have t := partEq_range a b _ (a + 1) (b - 1) (swp pi.1 a pv) (Nat.le_refl _) (Nat.le_refl _) (by omega) (by omega)
          have t1 : a < (Sort.partitionEqual ltInt pi.1 a b pv).1 := t.1
          have t2 : (Sort.partitionEqual ltInt pi.1 a b pv).1 ≤ b := t.2.1
          have t3 : (Sort.partitionEqual ltInt pi.1 a b pv).2.size = d.size := by rw [← s3, ← size_swp pi.1 a pv]; exact t.2.2
          have u := partition_holds (lt := ltInt) swo_ltInt pi.1 a b pv p1 p2 (by omega)
          have u1 := u.1
          have u2 := u.2.1
          have u3 := u.2.2.1.1
          clear t u
          unfold pdqRest
          generalize Sort.partitionEqual ltInt pi.1 a b pv = r at *
          generalize Sort.partition ltInt pi.1 a b pv = q at *
          split
          · rw [pdq_size N _ _ _ _ _ _ (by omega) (by omega) (by omega), t3]
          · split
            · have v := pdq_size N q.2.2 a q.1 (if (!wb) = true then limit - 1 else limit) true true (by omega) (by omega) (by omega)
              rw [pdq_size N _ _ _ _ _ _ (by omega) (by omega) (by omega), v, u3, s3]
            · have v := pdq_size N q.2.2 (q.1 + 1) b (if (!wb) = true then limit - 1 else limit) true true (by omega) (by omega) (by omega)
              rw [pdq_size N _ _ _ _ _ _ (by omega) (by omega) (by omega), v, u3, s3]
end
end Go.Proofs.YtnmpbihpoefeoaaDoor
