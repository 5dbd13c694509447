/- Of a memory: its pages in order (T1). -/
import Derived.Test.YtnmpbihpoefeoaaDoorLB
import Derived.Laws.Bits64b
namespace Go.Proofs.YtnmpbihpoefeoaaDoor
open Go.RowKit Go.Shelf Go.Sort
/-- The row, and a random number in a cell of its own. -/
structure Bp (w0 : World) (blk off : Nat) (d : Array Int) (rb X : Nat) (W : World) : Prop where
  row : Rw w0 blk off d W
  c : W.cell? ⟨rb, 0, none⟩ = some (.int .u64 X)
  f : W.frozen? ⟨rb, 0, none⟩ = false
  ge : w0.heap.size ≤ rb
  ne : blk ≠ rb
theorem Bp.drewN {w0 W : World} {blk off rb X : Nat} {d : Array Int} (h : Bp w0 blk off d rb X W) (n : Nat) : Bp w0 blk off d rb X (W.drewN n) := ⟨h.row.drewN n, h.c, h.f, h.ge, h.ne⟩
theorem Bp.set {w0 W : World} {blk off rb X : Nat} {d : Array Int} (h : Bp w0 blk off d rb X W) (x : Nat) : Bp w0 blk off d rb x (W.setCell ⟨rb, 0, none⟩ (.int .u64 x)) := by
  have hg := h.row.grown
  have ge := h.ge
  refine ⟨⟨⟨hg.os, hg.tape, hg.output, Nat.le_trans hg.size (grownBy_setX W rb 0 _).size, fun k hk hn => ?_⟩, fun t ht => ?_, fun t ht => ?_, by obtain ⟨cur, hc⟩ := h.row.ty; exact ⟨cur, (Below.heap_setCell _ _ _ _ (fun e => h.ne e)).trans hc⟩⟩, World.cell?_setCell_same' _ _ _ (by rw [h.c]; rfl), by rw [World.frozen?_setCell]; exact h.f, h.ge, h.ne⟩
  · rw [(grownBy_setX W rb 0 (.int .u64 (x : Int))).block k (Nat.lt_of_lt_of_le hk hg.size) (by intro e; cases e; omega)]
    exact hg.block k hk hn
  · rw [World.cell?_setCell_other _ _ _ _ (by intro e; injection e with e1 e2; exact h.ne e1.symm)]
    exact h.row.cell t ht
  · rw [World.frozen?_setCell]; exact h.row.frozen t ht
theorem Bp.swap {w0 W : World} {blk off rb X : Nat} {d : Array Int} (h : Bp w0 blk off d rb X W) (i j : Nat) : Bp w0 blk off (swp d i j) rb X ((W.setCell ⟨blk, off + i, none⟩ (.int .u64 d[j]!)).setCell ⟨blk, off + j, none⟩ (.int .u64 d[i]!)) := by
  have n1 : ∀ o : Nat, (⟨blk, o, none⟩ : Addr) ≠ ⟨rb, 0, none⟩ := fun o e => by injection e with e1 e2; exact h.ne e1
  exact ⟨h.row.swap i j, by rw [World.cell?_setCell_other _ _ _ _ (n1 _), World.cell?_setCell_other _ _ _ _ (n1 _)]; exact h.c, by rw [World.frozen?_setCell, World.frozen?_setCell]; exact h.f, h.ge, h.ne⟩
theorem Bp.start {w : World} {blk off : Nat} {d : Array Int} (h : Rw w blk off d w) (h0 : 0 < d.size) (X : Nat) : Bp w blk off d w.heap.size X (w.alloc (.cells #[.int .u64 X] 143)) := by
  have hl : blk < w.heap.size := lt_of_cell (h.cell 0 h0)
  have hB : RowKit.Below w.heap.size w (w.alloc (.cells #[.int .u64 X] 143)) := (Below.refl _ w).alloc (Nat.le_refl _) _
  have this := World.alloc_heap_new w (.cells #[.int .u64 X] 143)
  refine ⟨⟨World.grownBy_alloc _ _ _, fun t ht => (hB.cell (p := ⟨blk, off + t, none⟩) hl).trans (h.cell t ht), fun t ht => (hB.frozen (p := ⟨blk, off + t, none⟩) hl).trans (h.frozen t ht), by obtain ⟨cur, hc⟩ := h.ty; exact ⟨cur, (hB.block blk hl).trans hc⟩⟩, ?_, ?_, Nat.le_refl _, by omega⟩
  · simp only [World.cell?, this]; rfl
  · simp only [World.frozen?, this]; rfl
/-- The states of breakPatterns. -/
def bst (a l m x0 : Nat) (d : Array Int) : Nat → UInt64 × Array Int
  | 0 => (UInt64.ofNat l, d)
  | t + 1 => breakStep a l m (bst a l m x0 d t) (x0 + t)
theorem size_bst (a l m x0 : Nat) (d : Array Int) : ∀ t, (bst a l m x0 d t).2.size = d.size
  | 0 => rfl
  | t + 1 => by simp only [bst, breakStep, size_swp, size_bst a l m x0 d t]
/-- Which other place. -/
def oth (l m X : Nat) : Nat := if l ≤ (xorNextN X &&& (m - 1)) then (xorNextN X &&& (m - 1)) - l else (xorNextN X &&& (m - 1))
theorem bst_succ (a l m x0 : Nat) (d : Array Int) (t : Nat) : (bst a l m x0 d (t + 1)).1.toNat = xorNextN (bst a l m x0 d t).1.toNat ∧ (bst a l m x0 d (t + 1)).2 = swp (bst a l m x0 d t).2 (x0 + t) (a + oth l m (bst a l m x0 d t).1.toNat) := by
  simp only [bst, breakStep, oth, xorNext_toNat]
  exact ⟨trivial, trivial⟩
set_option maxHeartbeats 4000000 in
set_option maxRecDepth 100000 in
theorem brk63 (blk off len cap a b : Nat) (d : Array Int) (w : World) (hH : Rw w blk off d w) (hsz : d.size = len) (hs : len ≤ 65536) (hab : a < b) (hb : b ≤ len) :
    Calls Tryd.prog 88 #[.slice (some ⟨blk, off, none⟩) len cap, .int .i64 a, .int .i64 b] w fun e w' => e = .returned (.tuple #[]) ∧ Rw w blk off (Sort.breakPatterns d a b) w' := by
  obtain ⟨l, hl⟩ : ∃ l : Nat, b - a = l := ⟨_, rfl⟩
  have y1 : (b : Int) - (a : Int) = (l : Int) := by omega
  by_cases h8 : 8 ≤ l
  · obtain ⟨m, hm⟩ : ∃ m : Nat, 1 <<< bitsLen l = m := ⟨_, rfl⟩
    obtain ⟨q, hq⟩ : ∃ q : Nat, l / 4 = q := ⟨_, rfl⟩
    obtain ⟨x0, hx0⟩ : ∃ x0 : Nat, a + q * 2 - 1 = x0 := ⟨_, rfl⟩
    have y2 : (l : Int) / 4 = (q : Int) := by omega
    have y3 : (a : Int) + (q : Int) * 2 = (x0 : Int) + 1 := by omega
    have hm1 : m ≤ 2 * l ∧ 1 ≤ m := by
      have h1 := two_pow_bitsLen_le (n := l) (by omega)
      have h2 := Nat.two_pow_pos (bitsLen l)
      rw [← hm, Nat.one_shiftLeft]
      omega
    have HD : Hid (Sort.breakPatterns d a b = (bst a l m x0 d 3).2) := (by unfold Sort.breakPatterns; simp only []; rw [hl, if_pos h8, hm, hq, hx0]; rfl : Sort.breakPatterns d a b = (bst a l m x0 d 3).2)
    have HP : Hid (∀ W, Calls Tryd.prog 98 #[.int .i64 l] W fun e w' => e = .returned (.int .u64 (m : Int)) ∧ w' = W) := fun W => by have t := pow73 l (by omega) W; rw [hm] at t; exact t
    have wl : IntKind.u64.wrap (l : Int) = l := by simp [IntKind.wrap, IntKind.bits, IntKind.signed]; omega
    have HS : Hid (Bp w blk off d w.heap.size l (w.alloc (.cells #[.int .u64 l] 143))) := Bp.start hH (by omega) l
    have HX : Hid (l = (bst a l m x0 d 0).1.toNat) := (by simp only [bst]; rw [UInt64.toNat_ofNat']; omega : l = (bst a l m x0 d 0).1.toNat)
    clear hH hm
    go_enter Tryd.func88, Tryd.ntmps88
    go_wp2_with fail
    refine (HP.out _).mono ?_
    rintro e w1 ⟨rfl, e1⟩
    have HS1 : Hid (Bp w blk off (bst a l m x0 d 0).2 w.heap.size (bst a l m x0 d 0).1.toNat w1) := (by rw [e1, ← HX.out]; exact HS.out : Bp w blk off (bst a l m x0 d 0).2 w.heap.size (bst a l m x0 d 0).1.toNat w1)
    clear e1 HS
    go_wp2_with fail
    go_loopw [9] (fun vi wr => ∃ t : Nat, t ≤ 3 ∧ vi = .int .i64 ((x0 + t : Nat) : Int) ∧ Bp w blk off (bst a l m x0 d t).2 w.heap.size (bst a l m x0 d t).1.toNat wr) (fun vi _ => x0 + 3 - (intOf vi).toNat)
    case atStart => exact ⟨0, by omega, by congr 1, HS1.out⟩
    case round =>
      obtain ⟨t, ht, rfl, hB⟩ := hrel
      obtain ⟨dk, hdk⟩ : ∃ dk, (bst a l m x0 d t).2 = dk := ⟨_, rfl⟩
      obtain ⟨X, hX⟩ : ∃ X, (bst a l m x0 d t).1.toNat = X := ⟨_, rfl⟩
      have hX1 : X < 18446744073709551616 := by rw [← hX]; exact (bst a l m x0 d t).1.toNat_lt
      have hsk : dk.size = len := by rw [← hdk, size_bst]; exact hsz
      have hn := bst_succ a l m x0 d t
      rw [hdk, hX] at hB hn
      have HN : Hid ((bst a l m x0 d (t + 1)).1.toNat = xorNextN X ∧ (bst a l m x0 d (t + 1)).2 = swp dk (x0 + t) (a + oth l m X)) := hn
      have HB : Hid (Bp w blk off dk w.heap.size X wr) := hB
      have HT3 : Hid ((bst a l m x0 d t).2 = dk) := hdk
      have k1 := hB.c
      have k2 := hB.f
      clear hn hB hdk hX HS1
      obtain ⟨i, hi⟩ : ∃ i : Nat, x0 + t = i := ⟨_, rfl⟩
      rw [hi] at HN ⊢
      by_cases hlt : t < 3
      · have HNx : Hid (Calls Tryd.prog 99 #[.pointer (some ⟨w.heap.size, 0, none⟩)] wr fun e w' => e = .returned (.int .u64 (xorNextN X : Nat)) ∧ ∃ q, w' = (wr.setCell ⟨w.heap.size, 0, none⟩ (.int .u64 (xorNextN X : Nat))).drewN q) := next74 w.heap.size X hX1 wr k1 k2
        have hx2 := xorNextN_lt X hX1
        obtain ⟨X2, hX2⟩ : ∃ X2, xorNextN X = X2 := ⟨_, rfl⟩
        have ho : oth l m X = if l ≤ (X2 &&& (m - 1)) then (X2 &&& (m - 1)) - l else (X2 &&& (m - 1)) := by unfold oth; rw [hX2]
        have hle : X2 &&& (m - 1) ≤ m - 1 := Nat.and_le_right
        rw [hX2] at HNx HN hx2
        have y5 : bits .and .u64 (X2 : Int) ((m : Int) - 1) = ((X2 &&& (m - 1) : Nat) : Int) := by rw [show (m : Int) - 1 = ((m - 1 : Nat) : Int) by omega, bits_and_u64_nat _ _ hx2 (by omega)]
        obtain ⟨z, hz⟩ : ∃ z, X2 &&& (m - 1) = z := ⟨_, rfl⟩
        rw [hz] at y5 ho hle
        obtain ⟨o, hoo⟩ : ∃ o, oth l m X = o := ⟨_, rfl⟩
        rw [hoo] at ho HN
        clear hX2 hz hoo
        have z1 := i64_small z (by omega)
        have y6 : (x0 : Int) + 1 + 1 = ((x0 + 2 : Nat) : Int) := by omega
        obtain ⟨j, hj⟩ : ∃ j : Nat, a + o = j := ⟨_, rfl⟩
        have y7 : (a : Int) + (o : Int) = (j : Int) := by omega
        have z2 := i64_small j (by split at ho <;> omega)
        have b0 : i < len := by omega
        have b1 : j < len := by split at ho <;> omega
        rw [hj] at HN
        clear k1 k2
        have hcond : (l ≤ z ∧ (z : Int) - (l : Int) = (o : Int)) ∨ (z < l ∧ z = o) := by split at ho <;> omega
        clear ho
        rcases hcond with ⟨hc1, hc2⟩ | ⟨hc1, hc2⟩
        · rcases (by omega : i = j ∨ i < j ∨ j < i) with hij | hij | hij
          · subst hij
            go_wp2_with fail
            refine HNx.out.mono ?_
            rintro e w2 ⟨rfl, q1, e2⟩
            have HB2 : Hid (Bp w blk off dk w.heap.size X2 w2) := (by rw [e2]; exact (HB.out.set X2).drewN q1 : Bp w blk off dk w.heap.size X2 w2)
            clear e2
            obtain ⟨G, hG, hcw, hfw⟩ := HB2.out.row.fam
            rw [hsk] at hcw hfw
            have HG : Hid (∀ t, G t = dk[t]!) := hG
            clear hG
            have HW : Hid (Bp w blk off (swp dk i i) w.heap.size X2 ((w2.setCell ⟨blk, off + i, none⟩ (.int .u64 (G i))).setCell ⟨blk, off + i, none⟩ (.int .u64 (G i)))) := (by rw [HG.out]; exact HB2.out.swap i i : Bp w blk off (swp dk i i) w.heap.size X2 ((w2.setCell ⟨blk, off + i, none⟩ (.int .u64 (G i))).setCell ⟨blk, off + i, none⟩ (.int .u64 (G i))))
            go_wp2
            go_region
            all_goals go_wp2
            go_roundw
            case rel => exact ⟨t + 1, by omega, by congr 1; omega, by rw [HN.out.1, HN.out.2]; exact HW.out.drewN 1⟩
            case measure => simp [intOf]; omega
          · go_wp2_with fail
            refine HNx.out.mono ?_
            rintro e w2 ⟨rfl, q1, e2⟩
            have HB2 : Hid (Bp w blk off dk w.heap.size X2 w2) := (by rw [e2]; exact (HB.out.set X2).drewN q1 : Bp w blk off dk w.heap.size X2 w2)
            clear e2
            obtain ⟨G, hG, hcw, hfw⟩ := HB2.out.row.fam
            rw [hsk] at hcw hfw
            have HG : Hid (∀ t, G t = dk[t]!) := hG
            clear hG
            have HW : Hid (Bp w blk off (swp dk i j) w.heap.size X2 ((w2.setCell ⟨blk, off + i, none⟩ (.int .u64 (G j))).setCell ⟨blk, off + j, none⟩ (.int .u64 (G i)))) := (by rw [HG.out, HG.out]; exact HB2.out.swap i j : Bp w blk off (swp dk i j) w.heap.size X2 ((w2.setCell ⟨blk, off + i, none⟩ (.int .u64 (G j))).setCell ⟨blk, off + j, none⟩ (.int .u64 (G i))))
            go_wp2
            go_region
            all_goals go_wp2
            go_roundw
            case rel => exact ⟨t + 1, by omega, by congr 1; omega, by rw [HN.out.1, HN.out.2]; exact HW.out.drewN 1⟩
            case measure => simp [intOf]; omega
          · go_wp2_with fail
            refine HNx.out.mono ?_
            rintro e w2 ⟨rfl, q1, e2⟩
            have HB2 : Hid (Bp w blk off dk w.heap.size X2 w2) := (by rw [e2]; exact (HB.out.set X2).drewN q1 : Bp w blk off dk w.heap.size X2 w2)
            clear e2
            obtain ⟨G, hG, hcw, hfw⟩ := HB2.out.row.fam
            rw [hsk] at hcw hfw
            have HG : Hid (∀ t, G t = dk[t]!) := hG
            clear hG
            have HW : Hid (Bp w blk off (swp dk i j) w.heap.size X2 ((w2.setCell ⟨blk, off + i, none⟩ (.int .u64 (G j))).setCell ⟨blk, off + j, none⟩ (.int .u64 (G i)))) := (by rw [HG.out, HG.out]; exact HB2.out.swap i j : Bp w blk off (swp dk i j) w.heap.size X2 ((w2.setCell ⟨blk, off + i, none⟩ (.int .u64 (G j))).setCell ⟨blk, off + j, none⟩ (.int .u64 (G i))))
            go_wp2
            go_region
            all_goals go_wp2
            go_roundw
            case rel => exact ⟨t + 1, by omega, by congr 1; omega, by rw [HN.out.1, HN.out.2]; exact HW.out.drewN 1⟩
            case measure => simp [intOf]; omega
        · obtain rfl : z = o := hc2
          rcases (by omega : i = j ∨ i < j ∨ j < i) with hij | hij | hij
          · subst hij
            go_wp2_with fail
            refine HNx.out.mono ?_
            rintro e w2 ⟨rfl, q1, e2⟩
            have HB2 : Hid (Bp w blk off dk w.heap.size X2 w2) := (by rw [e2]; exact (HB.out.set X2).drewN q1 : Bp w blk off dk w.heap.size X2 w2)
            clear e2
            obtain ⟨G, hG, hcw, hfw⟩ := HB2.out.row.fam
            rw [hsk] at hcw hfw
            have HG : Hid (∀ t, G t = dk[t]!) := hG
            clear hG
            have HW : Hid (Bp w blk off (swp dk i i) w.heap.size X2 ((w2.setCell ⟨blk, off + i, none⟩ (.int .u64 (G i))).setCell ⟨blk, off + i, none⟩ (.int .u64 (G i)))) := (by rw [HG.out]; exact HB2.out.swap i i : Bp w blk off (swp dk i i) w.heap.size X2 ((w2.setCell ⟨blk, off + i, none⟩ (.int .u64 (G i))).setCell ⟨blk, off + i, none⟩ (.int .u64 (G i))))
            go_wp2
            go_region
            all_goals go_wp2
            go_roundw
            case rel => exact ⟨t + 1, by omega, by congr 1; omega, by rw [HN.out.1, HN.out.2]; exact HW.out.drewN 1⟩
            case measure => simp [intOf]; omega
          · go_wp2_with fail
            refine HNx.out.mono ?_
            rintro e w2 ⟨rfl, q1, e2⟩
            have HB2 : Hid (Bp w blk off dk w.heap.size X2 w2) := (by rw [e2]; exact (HB.out.set X2).drewN q1 : Bp w blk off dk w.heap.size X2 w2)
            clear e2
            obtain ⟨G, hG, hcw, hfw⟩ := HB2.out.row.fam
            rw [hsk] at hcw hfw
            have HG : Hid (∀ t, G t = dk[t]!) := hG
            clear hG
            have HW : Hid (Bp w blk off (swp dk i j) w.heap.size X2 ((w2.setCell ⟨blk, off + i, none⟩ (.int .u64 (G j))).setCell ⟨blk, off + j, none⟩ (.int .u64 (G i)))) := (by rw [HG.out, HG.out]; exact HB2.out.swap i j : Bp w blk off (swp dk i j) w.heap.size X2 ((w2.setCell ⟨blk, off + i, none⟩ (.int .u64 (G j))).setCell ⟨blk, off + j, none⟩ (.int .u64 (G i))))
            go_wp2
            go_region
            all_goals go_wp2
            go_roundw
            case rel => exact ⟨t + 1, by omega, by congr 1; omega, by rw [HN.out.1, HN.out.2]; exact HW.out.drewN 1⟩
            case measure => simp [intOf]; omega
          · go_wp2_with fail
            refine HNx.out.mono ?_
            rintro e w2 ⟨rfl, q1, e2⟩
            have HB2 : Hid (Bp w blk off dk w.heap.size X2 w2) := (by rw [e2]; exact (HB.out.set X2).drewN q1 : Bp w blk off dk w.heap.size X2 w2)
            clear e2
            obtain ⟨G, hG, hcw, hfw⟩ := HB2.out.row.fam
            rw [hsk] at hcw hfw
            have HG : Hid (∀ t, G t = dk[t]!) := hG
            clear hG
            have HW : Hid (Bp w blk off (swp dk i j) w.heap.size X2 ((w2.setCell ⟨blk, off + i, none⟩ (.int .u64 (G j))).setCell ⟨blk, off + j, none⟩ (.int .u64 (G i)))) := (by rw [HG.out, HG.out]; exact HB2.out.swap i j : Bp w blk off (swp dk i j) w.heap.size X2 ((w2.setCell ⟨blk, off + i, none⟩ (.int .u64 (G j))).setCell ⟨blk, off + j, none⟩ (.int .u64 (G i))))
            go_wp2
            go_region
            all_goals go_wp2
            go_roundw
            case rel => exact ⟨t + 1, by omega, by congr 1; omega, by rw [HN.out.1, HN.out.2]; exact HW.out.drewN 1⟩
            case measure => simp [intOf]; omega
      · obtain rfl : t = 3 := by omega
        go_wp2
        go_end0
        rw [HD.out, HT3.out]
        exact ⟨rfl, HB.out.row⟩
  · have HD : Hid (Sort.breakPatterns d a b = d) := (by unfold Sort.breakPatterns; simp only []; rw [hl, if_neg h8] : Sort.breakPatterns d a b = d)
    have HH : Hid (Rw w blk off d w) := hH
    go_enter Tryd.func88, Tryd.ntmps88
    go_wp2
    go_end0
    rw [HD.out]
    exact ⟨rfl, HH.out⟩
end Go.Proofs.YtnmpbihpoefeoaaDoor
