/- Sorting numbers of the kind uint64: choosePivotOrdered. -/
import Derived.Test.YtndbkkldfinggabS7
import Derived.Test.YtndbkkldfinggabQ0
namespace Go.Proofs.Ytndbkkldfinggab
open Go.RowKit Go.Shelf Go.Sort
def hintI : Hint → Int
  | .unknown => 0
  | .increasing => 1
  | .decreasing => 2
def hintS (s : Nat) : Hint := if s = 0 then .increasing else if s = 12 then .decreasing else .unknown
theorem Sp.start {w : World} {blk off : Nat} {d : Array Int} (h : Rw w blk off d w) (h0 : 0 < d.size) : Sp w blk off d w.heap.size 0 (w.alloc (.cells #[.int .i64 0] 3)) := by
  have hl : blk < w.heap.size := lt_of_cell (h.cell 0 h0)
  have hB : Below w.heap.size w (w.alloc (.cells #[.int .i64 0] 3)) := (Below.refl _ w).alloc (Nat.le_refl _) _
  refine ⟨⟨World.grownBy_alloc _ _ _, fun t ht => (hB.cell (p := ⟨blk, off + t, none⟩) hl).trans (h.cell t ht), fun t ht => (hB.frozen (p := ⟨blk, off + t, none⟩) hl).trans (h.frozen t ht), by obtain ⟨cur, hc⟩ := h.ty; exact ⟨cur, (hB.block blk hl).trans hc⟩⟩, ?_, ?_, Nat.le_refl _, by omega⟩
  · have := World.alloc_heap_new w (.cells #[.int .i64 0] 3)
    simp only [World.cell?, this]; rfl
  · have := World.alloc_heap_new w (.cells #[.int .i64 0] 3)
    simp only [World.frozen?, this]; rfl
set_option maxHeartbeats 4000000 in
set_option maxRecDepth 100000 in
theorem piv64 (blk off len cap a b : Nat) (d : Array Int) (w : World) (hH : Rw w blk off d w) (hsz : d.size = len) (hs : len ≤ 65536) (hab : a < b) (hb : b ≤ len) :
    Calls Try.prog 64 #[.slice (some ⟨blk, off, none⟩) len cap, .int .i64 a, .int .i64 b] w fun e w' => e = .returned (.tuple #[.int .i64 (((choosePivot ltInt d a b).1 : Nat) : Int), .int .i64 (hintI (choosePivot ltInt d a b).2)]) ∧ Rw w blk off d w' := by
  obtain ⟨l, hl⟩ : ∃ l : Nat, b - a = l := ⟨_, rfl⟩
  obtain ⟨q, hq⟩ : ∃ q : Nat, l / 4 = q := ⟨_, rfl⟩
  obtain ⟨i, hi⟩ : ∃ i : Nat, a + q * 1 = i := ⟨_, rfl⟩
  obtain ⟨j, hj⟩ : ∃ j : Nat, a + q * 2 = j := ⟨_, rfl⟩
  obtain ⟨k, hk⟩ : ∃ k : Nat, a + q * 3 = k := ⟨_, rfl⟩
  have y1 : (b : Int) - (a : Int) = (l : Int) := by omega
  have y2 : (l : Int) / 4 = (q : Int) := by omega
  have y3 : (a : Int) + (q : Int) = (i : Int) := by omega
  have y4 : (a : Int) + (q : Int) * 2 = (j : Int) := by omega
  have y5 : (a : Int) + (q : Int) * 3 = (k : Int) := by omega
  have HC : Hid (choosePivot ltInt d a b = (let r : Nat × Nat := (if l ≥ 8 then (if l ≥ 50 then median ltInt d (medianAdjacent ltInt d i 0).1 (medianAdjacent ltInt d j (medianAdjacent ltInt d i 0).2).1 (medianAdjacent ltInt d k (medianAdjacent ltInt d j (medianAdjacent ltInt d i 0).2).2).1 (medianAdjacent ltInt d k (medianAdjacent ltInt d j (medianAdjacent ltInt d i 0).2).2).2 else median ltInt d i j k 0) else (j, 0)); (r.1, hintS r.2))) := (by subst hi hj hk hq hl; rfl : choosePivot ltInt d a b = (let r : Nat × Nat := (if l ≥ 8 then (if l ≥ 50 then median ltInt d (medianAdjacent ltInt d i 0).1 (medianAdjacent ltInt d j (medianAdjacent ltInt d i 0).2).1 (medianAdjacent ltInt d k (medianAdjacent ltInt d j (medianAdjacent ltInt d i 0).2).2).1 (medianAdjacent ltInt d k (medianAdjacent ltInt d j (medianAdjacent ltInt d i 0).2).2).2 else median ltInt d i j k 0) else (j, 0)); (r.1, hintS r.2)))
  have HS : Hid (Sp w blk off d w.heap.size 0 (w.alloc (.cells #[.int .i64 0] 3))) := Sp.start hH (by omega)
  clear hH
  by_cases h8 : 8 ≤ l
  · have bi : i < len := by omega
    have bj : j < len := by omega
    have bk : k < len := by omega
    by_cases h50 : 50 ≤ l
    · obtain ⟨r1, h1⟩ : ∃ r, medianAdjacent ltInt d i 0 = r := ⟨_, rfl⟩
      obtain ⟨q1, p1⟩ := med_in (d := d) (a := i - 1) (b := i) (c := i + 1) (s := 0) (· < len) (by omega) (by omega) (by omega)
      rw [show median ltInt d (i - 1) i (i + 1) 0 = r1 from h1] at q1 p1
      obtain ⟨r2, h2⟩ : ∃ r, medianAdjacent ltInt d j r1.2 = r := ⟨_, rfl⟩
      obtain ⟨q2, p2⟩ := med_in (d := d) (a := j - 1) (b := j) (c := j + 1) (s := r1.2) (· < len) (by omega) (by omega) (by omega)
      rw [show median ltInt d (j - 1) j (j + 1) r1.2 = r2 from h2] at q2 p2
      obtain ⟨r3, h3⟩ : ∃ r, medianAdjacent ltInt d k r2.2 = r := ⟨_, rfl⟩
      obtain ⟨q3, p3⟩ := med_in (d := d) (a := k - 1) (b := k) (c := k + 1) (s := r2.2) (· < len) (by omega) (by omega) (by omega)
      rw [show median ltInt d (k - 1) k (k + 1) r2.2 = r3 from h3] at q3 p3
      obtain ⟨R, h4⟩ : ∃ r, median ltInt d r1.1 r2.1 r3.1 r3.2 = r := ⟨_, rfl⟩
      obtain ⟨q4, p4⟩ := med_in (d := d) (a := r1.1) (b := r2.1) (c := r3.1) (s := r3.2) (· < len) q1 q2 q3
      rw [h4] at q4 p4
      have HP : Hid (choosePivot ltInt d a b = (R.1, hintS R.2)) := (by rw [HC.out]; simp only []; rw [if_pos h8, if_pos h50, h1, h2, h3, h4] : choosePivot ltInt d a b = (R.1, hintS R.2))
      have C1 : Hid (∀ W, Sp w blk off d w.heap.size 0 W → Calls Try.prog 75 #[.slice (some ⟨blk, off, none⟩) len cap, .int .i64 i, .pointer (some ⟨w.heap.size, 0, none⟩)] W fun e w' => e = .returned (.int .i64 (r1.1 : Int)) ∧ Sp w blk off d w.heap.size r1.2 w') := fun W hW => by have t := adj75 blk off len cap i w.heap.size 0 d w W hW hsz hs (by omega) (by omega) (by omega); rw [h1] at t; exact t
      have C2 : Hid (∀ W, Sp w blk off d w.heap.size r1.2 W → Calls Try.prog 75 #[.slice (some ⟨blk, off, none⟩) len cap, .int .i64 j, .pointer (some ⟨w.heap.size, 0, none⟩)] W fun e w' => e = .returned (.int .i64 (r2.1 : Int)) ∧ Sp w blk off d w.heap.size r2.2 w') := fun W hW => by have t := adj75 blk off len cap j w.heap.size r1.2 d w W hW hsz hs (by omega) (by omega) (by omega); rw [h2] at t; exact t
      have C3 : Hid (∀ W, Sp w blk off d w.heap.size r2.2 W → Calls Try.prog 75 #[.slice (some ⟨blk, off, none⟩) len cap, .int .i64 k, .pointer (some ⟨w.heap.size, 0, none⟩)] W fun e w' => e = .returned (.int .i64 (r3.1 : Int)) ∧ Sp w blk off d w.heap.size r3.2 w') := fun W hW => by have t := adj75 blk off len cap k w.heap.size r2.2 d w W hW hsz hs (by omega) (by omega) (by omega); rw [h3] at t; exact t
      have C4 : Hid (∀ W, Sp w blk off d w.heap.size r3.2 W → Calls Try.prog 76 #[.slice (some ⟨blk, off, none⟩) len cap, .int .i64 r1.1, .int .i64 r2.1, .int .i64 r3.1, .pointer (some ⟨w.heap.size, 0, none⟩)] W fun e w' => e = .returned (.int .i64 (R.1 : Int)) ∧ Sp w blk off d w.heap.size R.2 w') := fun W hW => by have t := med76 blk off len cap r1.1 r2.1 r3.1 w.heap.size r3.2 d w W hW hsz hs q1 q2 q3 (by omega); rw [h4] at t; exact t
      clear h1 h2 h3 h4
      rcases (by omega : R.2 = 0 ∨ R.2 = 12 ∨ (¬ R.2 = 0 ∧ ¬ R.2 = 12)) with hz | hz | ⟨hz, hz2⟩
      · have HH : Hid (hintS R.2 = .increasing) := (by rw [hz]; rfl : hintS R.2 = .increasing)
        have hzi : ((R.2 : Nat) : Int) = 0 := by omega
        go_enter Try.func64, Try.ntmps64
        go_wp2_with fail
        refine (C1.out _ HS.out).mono ?_
        rintro e w1 ⟨rfl, hp⟩
        have K1 : Hid (Sp w blk off d w.heap.size r1.2 w1) := hp
        clear hp
        go_wp2_with fail
        refine (C2.out _ K1.out).mono ?_
        rintro e w2 ⟨rfl, hp⟩
        have K2 : Hid (Sp w blk off d w.heap.size r2.2 w2) := hp
        clear hp
        go_wp2_with fail
        refine (C3.out _ K2.out).mono ?_
        rintro e w3 ⟨rfl, hp⟩
        have K3 : Hid (Sp w blk off d w.heap.size r3.2 w3) := hp
        clear hp
        go_wp2_with fail
        refine (C4.out _ K3.out).mono ?_
        rintro e w4 ⟨rfl, hp⟩
        have K4 : Hid (Sp w blk off d w.heap.size R.2 w4) := hp
        have cl := hp.c
        rw [hzi] at cl
        clear hp
        go_wp2
        go_ret2
        rw [HP.out, HH.out]
        exact ⟨rfl, K4.out.row⟩
      · have HH : Hid (hintS R.2 = .decreasing) := (by rw [hz]; rfl : hintS R.2 = .decreasing)
        have hzi : ((R.2 : Nat) : Int) = 12 := by omega
        go_enter Try.func64, Try.ntmps64
        go_wp2_with fail
        refine (C1.out _ HS.out).mono ?_
        rintro e w1 ⟨rfl, hp⟩
        have K1 : Hid (Sp w blk off d w.heap.size r1.2 w1) := hp
        clear hp
        go_wp2_with fail
        refine (C2.out _ K1.out).mono ?_
        rintro e w2 ⟨rfl, hp⟩
        have K2 : Hid (Sp w blk off d w.heap.size r2.2 w2) := hp
        clear hp
        go_wp2_with fail
        refine (C3.out _ K2.out).mono ?_
        rintro e w3 ⟨rfl, hp⟩
        have K3 : Hid (Sp w blk off d w.heap.size r3.2 w3) := hp
        clear hp
        go_wp2_with fail
        refine (C4.out _ K3.out).mono ?_
        rintro e w4 ⟨rfl, hp⟩
        have K4 : Hid (Sp w blk off d w.heap.size R.2 w4) := hp
        have cl := hp.c
        rw [hzi] at cl
        clear hp
        go_wp2
        go_ret2
        rw [HP.out, HH.out]
        exact ⟨rfl, K4.out.row⟩
      · have hzi : ¬ ((R.2 : Nat) : Int) = 0 := by omega
        have hzi2 : ¬ ((R.2 : Nat) : Int) = 12 := by omega
        have HH : Hid (hintS R.2 = .unknown) := (by unfold hintS; rw [if_neg hz, if_neg hz2] : hintS R.2 = .unknown)
        go_enter Try.func64, Try.ntmps64
        go_wp2_with fail
        refine (C1.out _ HS.out).mono ?_
        rintro e w1 ⟨rfl, hp⟩
        have K1 : Hid (Sp w blk off d w.heap.size r1.2 w1) := hp
        clear hp
        go_wp2_with fail
        refine (C2.out _ K1.out).mono ?_
        rintro e w2 ⟨rfl, hp⟩
        have K2 : Hid (Sp w blk off d w.heap.size r2.2 w2) := hp
        clear hp
        go_wp2_with fail
        refine (C3.out _ K2.out).mono ?_
        rintro e w3 ⟨rfl, hp⟩
        have K3 : Hid (Sp w blk off d w.heap.size r3.2 w3) := hp
        clear hp
        go_wp2_with fail
        refine (C4.out _ K3.out).mono ?_
        rintro e w4 ⟨rfl, hp⟩
        have K4 : Hid (Sp w blk off d w.heap.size R.2 w4) := hp
        have cl := hp.c
        clear hp
        go_wp2
        go_ret2
        rw [HP.out, HH.out]
        exact ⟨rfl, K4.out.row⟩
    · obtain ⟨R, h4⟩ : ∃ r, median ltInt d i j k 0 = r := ⟨_, rfl⟩
      have HP : Hid (choosePivot ltInt d a b = (R.1, hintS R.2)) := (by rw [HC.out]; simp only []; rw [if_pos h8, if_neg h50, h4] : choosePivot ltInt d a b = (R.1, hintS R.2))
      have C4 : Hid (∀ W, Sp w blk off d w.heap.size 0 W → Calls Try.prog 76 #[.slice (some ⟨blk, off, none⟩) len cap, .int .i64 i, .int .i64 j, .int .i64 k, .pointer (some ⟨w.heap.size, 0, none⟩)] W fun e w' => e = .returned (.int .i64 (R.1 : Int)) ∧ Sp w blk off d w.heap.size R.2 w') := fun W hW => by have t := med76 blk off len cap i j k w.heap.size 0 d w W hW hsz hs bi bj bk (by omega); rw [h4] at t; exact t
      clear h4
      rcases (by omega : R.2 = 0 ∨ R.2 = 12 ∨ (¬ R.2 = 0 ∧ ¬ R.2 = 12)) with hz | hz | ⟨hz, hz2⟩
      · have HH : Hid (hintS R.2 = .increasing) := (by rw [hz]; rfl : hintS R.2 = .increasing)
        have hzi : ((R.2 : Nat) : Int) = 0 := by omega
        go_enter Try.func64, Try.ntmps64
        go_wp2_with fail
        refine (C4.out _ HS.out).mono ?_
        rintro e w1 ⟨rfl, hp⟩
        have K1 : Hid (Sp w blk off d w.heap.size R.2 w1) := hp
        have cl := hp.c
        rw [hzi] at cl
        clear hp
        go_wp2
        go_ret2
        rw [HP.out, HH.out]
        exact ⟨rfl, K1.out.row⟩
      · have HH : Hid (hintS R.2 = .decreasing) := (by rw [hz]; rfl : hintS R.2 = .decreasing)
        have hzi : ((R.2 : Nat) : Int) = 12 := by omega
        go_enter Try.func64, Try.ntmps64
        go_wp2_with fail
        refine (C4.out _ HS.out).mono ?_
        rintro e w1 ⟨rfl, hp⟩
        have K1 : Hid (Sp w blk off d w.heap.size R.2 w1) := hp
        have cl := hp.c
        rw [hzi] at cl
        clear hp
        go_wp2
        go_ret2
        rw [HP.out, HH.out]
        exact ⟨rfl, K1.out.row⟩
      · have hzi : ¬ ((R.2 : Nat) : Int) = 0 := by omega
        have hzi2 : ¬ ((R.2 : Nat) : Int) = 12 := by omega
        have HH : Hid (hintS R.2 = .unknown) := (by unfold hintS; rw [if_neg hz, if_neg hz2] : hintS R.2 = .unknown)
        go_enter Try.func64, Try.ntmps64
        go_wp2_with fail
        refine (C4.out _ HS.out).mono ?_
        rintro e w1 ⟨rfl, hp⟩
        have K1 : Hid (Sp w blk off d w.heap.size R.2 w1) := hp
        have cl := hp.c
        clear hp
        go_wp2
        go_ret2
        rw [HP.out, HH.out]
        exact ⟨rfl, K1.out.row⟩
  · have HP : Hid (choosePivot ltInt d a b = (j, .increasing)) := (by rw [HC.out]; simp only []; rw [if_neg h8]; rfl : choosePivot ltInt d a b = (j, .increasing))
    go_enter Try.func64, Try.ntmps64
    go_wp2
    go_ret2
    rw [HP.out]
    exact ⟨rfl, HS.out.row⟩
end Go.Proofs.Ytndbkkldfinggab
