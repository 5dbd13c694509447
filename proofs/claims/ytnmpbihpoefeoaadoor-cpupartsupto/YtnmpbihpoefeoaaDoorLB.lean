/- Of a memory: its pages in order (S7). Of a memory: its pages in order (S8). Of a memory: its pages in order (S9). -/
import Derived.Test.YtnmpbihpoefeoaaDoorLA
import Derived.Test.YtnmpbihpoefeoaaDoorJJ
import Derived.Test.YtnmpbihpoefeoaaDoorShelf
import Derived.Sort.LotD5
import Derived.Sort.WalkA14
import Derived.Laws.Bits64
namespace Go.Proofs.YtnmpbihpoefeoaaDoor
section
open Go.RowKit Go.Shelf Go.Sort
/-- The row as it was, and how many pairs have changed places. -/
structure Sp (w0 : World) (blk off : Nat) (d : Array Int) (sb s : Nat) (W : World) : Prop where
  row : Rw w0 blk off d W
  c : W.cell? ⟨sb, 0, none⟩ = some (.int .i64 s)
  f : W.frozen? ⟨sb, 0, none⟩ = false
  ge : w0.heap.size ≤ sb
  ne : blk ≠ sb
theorem Sp.drewN {w0 W : World} {blk off sb s : Nat} {d : Array Int} (h : Sp w0 blk off d sb s W) (n : Nat) : Sp w0 blk off d sb s (W.drewN n) := ⟨h.row.drewN n, h.c, h.f, h.ge, h.ne⟩
theorem Sp.inc {w0 W : World} {blk off sb s : Nat} {d : Array Int} (h : Sp w0 blk off d sb s W) (v : Int) (s' : Nat) (hv : v = (s' : Int)) : Sp w0 blk off d sb s' (W.setCell ⟨sb, 0, none⟩ (.int .i64 v)) := by
  subst hv
  have hg := h.row.grown
  have ge := h.ge
  refine ⟨⟨⟨hg.os, hg.tape, hg.output, Nat.le_trans hg.size (grownBy_setX W sb 0 _).size, fun k hk hn => ?_⟩, fun t ht => ?_, fun t ht => ?_, by obtain ⟨cur, hc⟩ := h.row.ty; exact ⟨cur, (Below.heap_setCell _ _ _ _ (fun e => h.ne e)).trans hc⟩⟩, World.cell?_setCell_same' _ _ _ (by rw [h.c]; rfl), by rw [World.frozen?_setCell]; exact h.f, h.ge, h.ne⟩
  · rw [(grownBy_setX W sb 0 (.int .i64 (s' : Int))).block k (Nat.lt_of_lt_of_le hk hg.size) (by intro e; cases e; omega)]
    exact hg.block k hk hn
  · rw [World.cell?_setCell_other _ _ _ _ (by intro e; injection e with e1 e2; exact h.ne e1.symm)]
    exact h.row.cell t ht
  · rw [World.frozen?_setCell]; exact h.row.frozen t ht
set_option maxHeartbeats 4000000 in
set_option maxRecDepth 100000 in
theorem ord78 (blk off len cap a b sb s : Nat) (d : Array Int) (w0 w : World) (hH : Sp w0 blk off d sb s w) (hsz : d.size = len) (_hs : len ≤ 65536) (ha : a < len) (hb : b < len) (hs2 : s ≤ 100) :
    Calls Tryd.prog 103 #[.slice (some ⟨blk, off, none⟩) len cap, .int .i64 a, .int .i64 b, .pointer (some ⟨sb, 0, none⟩)] w fun e w' => e = .returned (.tuple #[.int .i64 (((order2 ltInt d a b s).1 : Nat) : Int), .int .i64 (((order2 ltInt d a b s).2.1 : Nat) : Int)]) ∧ Sp w0 blk off d sb (order2 ltInt d a b s).2.2 w' := by
  obtain ⟨G, hG, hcw, hfw⟩ := hH.row.fam
  rw [hsz] at hcw hfw
  have HH : Hid (Sp w0 blk off d sb s w) := hH
  have HG : Hid (∀ t, G t = d[t]!) := hG
  have c1 := hH.c
  have f1 := hH.f
  clear hH hG
  cases hl : ltInt (G b) (G a)
  · have HO : Hid (order2 ltInt d a b s = (a, b, s)) := (by unfold order2; rw [← HG.out, ← HG.out, hl]; rfl : order2 ltInt d a b s = (a, b, s))
    go_enter Tryd.func103, Tryd.ntmps103
    go_wp2
    go_quiet (first | (go_at_call 92; refine Calls.quiet_of_same (less67 _ _ _)))
    rw [hl]
    go_wp2
    go_ret2
    rw [HO.out]
    exact ⟨rfl, HH.out.drewN _⟩
  · have HO : Hid (order2 ltInt d a b s = (b, a, s + 1)) := (by unfold order2; rw [← HG.out, ← HG.out, hl]; rfl : order2 ltInt d a b s = (b, a, s + 1))
    go_enter Tryd.func103, Tryd.ntmps103
    go_wp2
    go_quiet (first | (go_at_call 92; refine Calls.quiet_of_same (less67 _ _ _)))
    rw [hl]
    go_wp2
    go_ret2
    rw [HO.out]
    exact ⟨rfl, (HH.out.drewN _).inc _ _ (by simp)⟩
theorem ord_in {d : Array Int} {a b s : Nat} (P : Nat → Prop) (ha : P a) (hb : P b) : P (order2 ltInt d a b s).1 ∧ P (order2 ltInt d a b s).2.1 ∧ (order2 ltInt d a b s).2.2 ≤ s + 1 := by
  unfold order2
  split
  · exact ⟨hb, ha, Nat.le_refl _⟩
  · exact ⟨ha, hb, Nat.le_succ _⟩
set_option maxHeartbeats 4000000 in
set_option maxRecDepth 100000 in
theorem med76 (blk off len cap a b c sb s : Nat) (d : Array Int) (w0 w : World) (hH : Sp w0 blk off d sb s w) (hsz : d.size = len) (hs : len ≤ 65536) (ha : a < len) (hb : b < len) (hc : c < len) (hs2 : s ≤ 90) :
    Calls Tryd.prog 101 #[.slice (some ⟨blk, off, none⟩) len cap, .int .i64 a, .int .i64 b, .int .i64 c, .pointer (some ⟨sb, 0, none⟩)] w fun e w' => e = .returned (.int .i64 (((median ltInt d a b c s).1 : Nat) : Int)) ∧ Sp w0 blk off d sb (median ltInt d a b c s).2 w' := by
  obtain ⟨r1, h1⟩ : ∃ r, order2 ltInt d a b s = r := ⟨_, rfl⟩
  obtain ⟨q1, q2, q3⟩ := ord_in (d := d) (a := a) (b := b) (s := s) (· < len) ha hb
  rw [h1] at q1 q2 q3
  obtain ⟨r2, h2⟩ : ∃ r, order2 ltInt d r1.2.1 c r1.2.2 = r := ⟨_, rfl⟩
  obtain ⟨p1, p2, p3⟩ := ord_in (d := d) (a := r1.2.1) (b := c) (s := r1.2.2) (· < len) q2 hc
  rw [h2] at p1 p2 p3
  obtain ⟨r3, h3⟩ : ∃ r, order2 ltInt d r1.1 r2.1 r2.2.2 = r := ⟨_, rfl⟩
  have HM : Hid (median ltInt d a b c s = (r3.2.1, r3.2.2)) := (by unfold median; simp only [h1, h2, h3] : median ltInt d a b c s = (r3.2.1, r3.2.2))
  have H1 : Hid (∀ W, Sp w0 blk off d sb s W → Calls Tryd.prog 103 #[.slice (some ⟨blk, off, none⟩) len cap, .int .i64 a, .int .i64 b, .pointer (some ⟨sb, 0, none⟩)] W fun e w' => e = .returned (.tuple #[.int .i64 (r1.1 : Int), .int .i64 (r1.2.1 : Int)]) ∧ Sp w0 blk off d sb r1.2.2 w') := fun W hW => by have t := ord78 blk off len cap a b sb s d w0 W hW hsz hs ha hb (by omega); rw [h1] at t; exact t
  have H2 : Hid (∀ W, Sp w0 blk off d sb r1.2.2 W → Calls Tryd.prog 103 #[.slice (some ⟨blk, off, none⟩) len cap, .int .i64 r1.2.1, .int .i64 c, .pointer (some ⟨sb, 0, none⟩)] W fun e w' => e = .returned (.tuple #[.int .i64 (r2.1 : Int), .int .i64 (r2.2.1 : Int)]) ∧ Sp w0 blk off d sb r2.2.2 w') := fun W hW => by have t := ord78 blk off len cap r1.2.1 c sb r1.2.2 d w0 W hW hsz hs q2 hc (by omega); rw [h2] at t; exact t
  have H3 : Hid (∀ W, Sp w0 blk off d sb r2.2.2 W → Calls Tryd.prog 103 #[.slice (some ⟨blk, off, none⟩) len cap, .int .i64 r1.1, .int .i64 r2.1, .pointer (some ⟨sb, 0, none⟩)] W fun e w' => e = .returned (.tuple #[.int .i64 (r3.1 : Int), .int .i64 (r3.2.1 : Int)]) ∧ Sp w0 blk off d sb r3.2.2 w') := fun W hW => by have t := ord78 blk off len cap r1.1 r2.1 sb r2.2.2 d w0 W hW hsz hs q1 p1 (by omega); rw [h3] at t; exact t
  have HH : Hid (Sp w0 blk off d sb s w) := hH
  clear h1 h2 h3 hH
  go_enter Tryd.func101, Tryd.ntmps101
  go_wp2_with fail
  refine (H1.out _ HH.out).mono ?_
  rintro e w1 ⟨rfl, hp⟩
  have K1 : Hid (Sp w0 blk off d sb r1.2.2 w1) := hp
  clear hp
  go_wp2_with fail
  refine (H2.out _ K1.out).mono ?_
  rintro e w2 ⟨rfl, hp⟩
  have K2 : Hid (Sp w0 blk off d sb r2.2.2 w2) := hp
  clear hp
  go_wp2_with fail
  refine (H3.out _ K2.out).mono ?_
  rintro e w3 ⟨rfl, hp⟩
  have K3 : Hid (Sp w0 blk off d sb r3.2.2 w3) := hp
  clear hp
  go_wp2
  go_ret
  rw [HM.out]
  exact ⟨rfl, K3.out⟩
theorem med_in {d : Array Int} {a b c s : Nat} (P : Nat → Prop) (ha : P a) (hb : P b) (hc : P c) : P (median ltInt d a b c s).1 ∧ (median ltInt d a b c s).2 ≤ s + 3 := by
  obtain ⟨q1, q2, q3⟩ := ord_in (d := d) (a := a) (b := b) (s := s) P ha hb
  obtain ⟨p1, p2, p3⟩ := ord_in (d := d) (a := (order2 ltInt d a b s).2.1) (b := c) (s := (order2 ltInt d a b s).2.2) P q2 hc
  obtain ⟨r1, r2, r3⟩ := ord_in (d := d) (a := (order2 ltInt d a b s).1) (b := (order2 ltInt d (order2 ltInt d a b s).2.1 c (order2 ltInt d a b s).2.2).1) (s := (order2 ltInt d (order2 ltInt d a b s).2.1 c (order2 ltInt d a b s).2.2).2.2) P q1 p1
  exact ⟨r2, by unfold median; simp only []; omega⟩
set_option maxHeartbeats 4000000 in
set_option maxRecDepth 100000 in
theorem adj75 (blk off len cap a sb s : Nat) (d : Array Int) (w0 w : World) (hH : Sp w0 blk off d sb s w) (hsz : d.size = len) (hs : len ≤ 65536) (ha0 : 1 ≤ a) (ha : a + 1 < len) (hs2 : s ≤ 90) :
    Calls Tryd.prog 100 #[.slice (some ⟨blk, off, none⟩) len cap, .int .i64 a, .pointer (some ⟨sb, 0, none⟩)] w fun e w' => e = .returned (.int .i64 (((medianAdjacent ltInt d a s).1 : Nat) : Int)) ∧ Sp w0 blk off d sb (medianAdjacent ltInt d a s).2 w' := by
  obtain ⟨R, hR⟩ : ∃ R, medianAdjacent ltInt d a s = R := ⟨_, rfl⟩
  rw [hR]
  have HC : Hid (Calls Tryd.prog 101 #[.slice (some ⟨blk, off, none⟩) len cap, .int .i64 ((a : Int) - 1), .int .i64 a, .int .i64 ((a : Int) + 1), .pointer (some ⟨sb, 0, none⟩)] w fun e w' => e = .returned (.int .i64 ((R.1 : Nat) : Int)) ∧ Sp w0 blk off d sb R.2 w') := by
    have t := med76 blk off len cap (a - 1) a (a + 1) sb s d w0 w hH hsz hs (by omega) (by omega) (by omega) hs2
    rw [show ((a - 1 : Nat) : Int) = (a : Int) - 1 by omega, show ((a + 1 : Nat) : Int) = (a : Int) + 1 by omega] at t
    rw [← hR]
    exact t
  clear hH hR
  go_enter Tryd.func100, Tryd.ntmps100
  go_wp2_with fail
  refine HC.out.mono ?_
  rintro e w1 ⟨rfl, hp⟩
  have K1 : Hid (Sp w0 blk off d sb R.2 w1) := hp
  clear hp
  go_wp2
  go_ret
  exact ⟨rfl, K1.out⟩
end
section
open Go.RowKit Go.Shelf Go.Sort
def hintI : Hint → Int
  | .unknown => 0
  | .increasing => 1
  | .decreasing => 2
def hintS (s : Nat) : Hint := if s = 0 then .increasing else if s = 12 then .decreasing else .unknown
theorem Sp.start {w : World} {blk off : Nat} {d : Array Int} (h : Rw w blk off d w) (h0 : 0 < d.size) : Sp w blk off d w.heap.size 0 (w.alloc (.cells #[.int .i64 0] 3)) := by
  have hl : blk < w.heap.size := lt_of_cell (h.cell 0 h0)
  have hB : Below w.heap.size w (w.alloc (.cells #[.int .i64 0] 3)) := (Below.refl _ w).alloc (Nat.le_refl _) _
  refine ⟨⟨World.grownBy_alloc _ _ _, fun t ht => (hB.cell (p := ⟨blk, off + t, none⟩) hl).trans (h.cell t ht), fun t ht => (hB.frozen (p := ⟨blk, off + t, none⟩) hl).trans (h.frozen t ht), by obtain ⟨cur, hc⟩ := h.ty; exact ⟨cur, (hB.block blk hl).trans hc⟩⟩, ?_, ?_, Nat.le_refl _, by omega⟩
  · have := World.alloc_heap_new w (.cells #[.int .i64 0] 3)
    simp only [World.cell?, this]; rfl
  · have := World.alloc_heap_new w (.cells #[.int .i64 0] 3)
    simp only [World.frozen?, this]; rfl
set_option maxHeartbeats 4000000 in
set_option maxRecDepth 100000 in
theorem piv64 (blk off len cap a b : Nat) (d : Array Int) (w : World) (hH : Rw w blk off d w) (hsz : d.size = len) (hs : len ≤ 65536) (hab : a < b) (hb : b ≤ len) :
    Calls Tryd.prog 89 #[.slice (some ⟨blk, off, none⟩) len cap, .int .i64 a, .int .i64 b] w fun e w' => e = .returned (.tuple #[.int .i64 (((choosePivot ltInt d a b).1 : Nat) : Int), .int .i64 (hintI (choosePivot ltInt d a b).2)]) ∧ Rw w blk off d w' := by
  obtain ⟨l, hl⟩ : ∃ l : Nat, b - a = l := ⟨_, rfl⟩
  obtain ⟨q, hq⟩ : ∃ q : Nat, l / 4 = q := ⟨_, rfl⟩
  obtain ⟨i, hi⟩ : ∃ i : Nat, a + q * 1 = i := ⟨_, rfl⟩
  obtain ⟨j, hj⟩ : ∃ j : Nat, a + q * 2 = j := ⟨_, rfl⟩
  obtain ⟨k, hk⟩ : ∃ k : Nat, a + q * 3 = k := ⟨_, rfl⟩
  have y1 : (b : Int) - (a : Int) = (l : Int) := by omega
  have y2 : (l : Int) / 4 = (q : Int) := by omega
  have y3 : (a : Int) + (q : Int) = (i : Int) := by omega
  have y4 : (a : Int) + (q : Int) * 2 = (j : Int) := by omega
  have y5 : (a : Int) + (q : Int) * 3 = (k : Int) := by omega
  have HC : Hid (choosePivot ltInt d a b = (let r : Nat × Nat := (if l ≥ 8 then (if l ≥ 50 then median ltInt d (medianAdjacent ltInt d i 0).1 (medianAdjacent ltInt d j (medianAdjacent ltInt d i 0).2).1 (medianAdjacent ltInt d k (medianAdjacent ltInt d j (medianAdjacent ltInt d i 0).2).2).1 (medianAdjacent ltInt d k (medianAdjacent ltInt d j (medianAdjacent ltInt d i 0).2).2).2 else median ltInt d i j k 0) else (j, 0)); (r.1, hintS r.2))) := (by subst hi hj hk hq hl; rfl : choosePivot ltInt d a b = (let r : Nat × Nat := (if l ≥ 8 then (if l ≥ 50 then median ltInt d (medianAdjacent ltInt d i 0).1 (medianAdjacent ltInt d j (medianAdjacent ltInt d i 0).2).1 (medianAdjacent ltInt d k (medianAdjacent ltInt d j (medianAdjacent ltInt d i 0).2).2).1 (medianAdjacent ltInt d k (medianAdjacent ltInt d j (medianAdjacent ltInt d i 0).2).2).2 else median ltInt d i j k 0) else (j, 0)); (r.1, hintS r.2)))
  have HS : Hid (Sp w blk off d w.heap.size 0 (w.alloc (.cells #[.int .i64 0] 3))) := Sp.start hH (by omega)
  clear hH
  by_cases h8 : 8 ≤ l
  · have bi : i < len := by omega
    have bj : j < len := by omega
    have bk : k < len := by omega
    by_cases h50 : 50 ≤ l
    · obtain ⟨r1, h1⟩ : ∃ r, medianAdjacent ltInt d i 0 = r := ⟨_, rfl⟩
      obtain ⟨q1, p1⟩ := med_in (d := d) (a := i - 1) (b := i) (c := i + 1) (s := 0) (· < len) (by omega) (by omega) (by omega)
      rw [show median ltInt d (i - 1) i (i + 1) 0 = r1 from h1] at q1 p1
      obtain ⟨r2, h2⟩ : ∃ r, medianAdjacent ltInt d j r1.2 = r := ⟨_, rfl⟩
      obtain ⟨q2, p2⟩ := med_in (d := d) (a := j - 1) (b := j) (c := j + 1) (s := r1.2) (· < len) (by omega) (by omega) (by omega)
      rw [show median ltInt d (j - 1) j (j + 1) r1.2 = r2 from h2] at q2 p2
      obtain ⟨r3, h3⟩ : ∃ r, medianAdjacent ltInt d k r2.2 = r := ⟨_, rfl⟩
      obtain ⟨q3, p3⟩ := med_in (d := d) (a := k - 1) (b := k) (c := k + 1) (s := r2.2) (· < len) (by omega) (by omega) (by omega)
      rw [show median ltInt d (k - 1) k (k + 1) r2.2 = r3 from h3] at q3 p3
      obtain ⟨R, h4⟩ : ∃ r, median ltInt d r1.1 r2.1 r3.1 r3.2 = r := ⟨_, rfl⟩
      obtain ⟨q4, p4⟩ := med_in (d := d) (a := r1.1) (b := r2.1) (c := r3.1) (s := r3.2) (· < len) q1 q2 q3
      rw [h4] at q4 p4
      have HP : Hid (choosePivot ltInt d a b = (R.1, hintS R.2)) := (by rw [HC.out]; simp only []; rw [if_pos h8, if_pos h50, h1, h2, h3, h4] : choosePivot ltInt d a b = (R.1, hintS R.2))
      have C1 : Hid (∀ W, Sp w blk off d w.heap.size 0 W → Calls Tryd.prog 100 #[.slice (some ⟨blk, off, none⟩) len cap, .int .i64 i, .pointer (some ⟨w.heap.size, 0, none⟩)] W fun e w' => e = .returned (.int .i64 (r1.1 : Int)) ∧ Sp w blk off d w.heap.size r1.2 w') := fun W hW => by have t := adj75 blk off len cap i w.heap.size 0 d w W hW hsz hs (by omega) (by omega) (by omega); rw [h1] at t; exact t
      have C2 : Hid (∀ W, Sp w blk off d w.heap.size r1.2 W → Calls Tryd.prog 100 #[.slice (some ⟨blk, off, none⟩) len cap, .int .i64 j, .pointer (some ⟨w.heap.size, 0, none⟩)] W fun e w' => e = .returned (.int .i64 (r2.1 : Int)) ∧ Sp w blk off d w.heap.size r2.2 w') := fun W hW => by have t := adj75 blk off len cap j w.heap.size r1.2 d w W hW hsz hs (by omega) (by omega) (by omega); rw [h2] at t; exact t
      have C3 : Hid (∀ W, Sp w blk off d w.heap.size r2.2 W → Calls Tryd.prog 100 #[.slice (some ⟨blk, off, none⟩) len cap, .int .i64 k, .pointer (some ⟨w.heap.size, 0, none⟩)] W fun e w' => e = .returned (.int .i64 (r3.1 : Int)) ∧ Sp w blk off d w.heap.size r3.2 w') := fun W hW => by have t := adj75 blk off len cap k w.heap.size r2.2 d w W hW hsz hs (by omega) (by omega) (by omega); rw [h3] at t; exact t
      have C4 : Hid (∀ W, Sp w blk off d w.heap.size r3.2 W → Calls Tryd.prog 101 #[.slice (some ⟨blk, off, none⟩) len cap, .int .i64 r1.1, .int .i64 r2.1, .int .i64 r3.1, .pointer (some ⟨w.heap.size, 0, none⟩)] W fun e w' => e = .returned (.int .i64 (R.1 : Int)) ∧ Sp w blk off d w.heap.size R.2 w') := fun W hW => by have t := med76 blk off len cap r1.1 r2.1 r3.1 w.heap.size r3.2 d w W hW hsz hs q1 q2 q3 (by omega); rw [h4] at t; exact t
      clear h1 h2 h3 h4
      rcases (by omega : R.2 = 0 ∨ R.2 = 12 ∨ (¬ R.2 = 0 ∧ ¬ R.2 = 12)) with hz | hz | ⟨hz, hz2⟩
      · have HH : Hid (hintS R.2 = .increasing) := (by rw [hz]; rfl : hintS R.2 = .increasing)
        have hzi : ((R.2 : Nat) : Int) = 0 := by omega
        go_enter Tryd.func89, Tryd.ntmps89
        go_wp2_with fail
        refine (C1.out _ HS.out).mono ?_
        rintro e w1 ⟨rfl, hp⟩
        have K1 : Hid (Sp w blk off d w.heap.size r1.2 w1) := hp
        clear hp
        go_wp2_with fail
        refine (C2.out _ K1.out).mono ?_
        rintro e w2 ⟨rfl, hp⟩
        have K2 : Hid (Sp w blk off d w.heap.size r2.2 w2) := hp
        clear hp
        go_wp2_with fail
        refine (C3.out _ K2.out).mono ?_
        rintro e w3 ⟨rfl, hp⟩
        have K3 : Hid (Sp w blk off d w.heap.size r3.2 w3) := hp
        clear hp
        go_wp2_with fail
        refine (C4.out _ K3.out).mono ?_
        rintro e w4 ⟨rfl, hp⟩
        have K4 : Hid (Sp w blk off d w.heap.size R.2 w4) := hp
        have cl := hp.c
        rw [hzi] at cl
        clear hp
        go_wp2
        go_ret2
        rw [HP.out, HH.out]
        exact ⟨rfl, K4.out.row⟩
      · have HH : Hid (hintS R.2 = .decreasing) := (by rw [hz]; rfl : hintS R.2 = .decreasing)
        have hzi : ((R.2 : Nat) : Int) = 12 := by omega
        go_enter Tryd.func89, Tryd.ntmps89
        go_wp2_with fail
        refine (C1.out _ HS.out).mono ?_
        rintro e w1 ⟨rfl, hp⟩
        have K1 : Hid (Sp w blk off d w.heap.size r1.2 w1) := hp
        clear hp
        go_wp2_with fail
        refine (C2.out _ K1.out).mono ?_
        rintro e w2 ⟨rfl, hp⟩
        have K2 : Hid (Sp w blk off d w.heap.size r2.2 w2) := hp
        clear hp
        go_wp2_with fail
        refine (C3.out _ K2.out).mono ?_
        rintro e w3 ⟨rfl, hp⟩
        have K3 : Hid (Sp w blk off d w.heap.size r3.2 w3) := hp
        clear hp
        go_wp2_with fail
        refine (C4.out _ K3.out).mono ?_
        rintro e w4 ⟨rfl, hp⟩
        have K4 : Hid (Sp w blk off d w.heap.size R.2 w4) := hp
        have cl := hp.c
        rw [hzi] at cl
        clear hp
        go_wp2
        go_ret2
        rw [HP.out, HH.out]
        exact ⟨rfl, K4.out.row⟩
      · have hzi : ¬ ((R.2 : Nat) : Int) = 0 := by omega
        have hzi2 : ¬ ((R.2 : Nat) : Int) = 12 := by omega
        have HH : Hid (hintS R.2 = .unknown) := (by unfold hintS; rw [if_neg hz, if_neg hz2] : hintS R.2 = .unknown)
        go_enter Tryd.func89, Tryd.ntmps89
        go_wp2_with fail
        refine (C1.out _ HS.out).mono ?_
        rintro e w1 ⟨rfl, hp⟩
        have K1 : Hid (Sp w blk off d w.heap.size r1.2 w1) := hp
        clear hp
        go_wp2_with fail
        refine (C2.out _ K1.out).mono ?_
        rintro e w2 ⟨rfl, hp⟩
        have K2 : Hid (Sp w blk off d w.heap.size r2.2 w2) := hp
        clear hp
        go_wp2_with fail
        refine (C3.out _ K2.out).mono ?_
        rintro e w3 ⟨rfl, hp⟩
        have K3 : Hid (Sp w blk off d w.heap.size r3.2 w3) := hp
        clear hp
        go_wp2_with fail
        refine (C4.out _ K3.out).mono ?_
        rintro e w4 ⟨rfl, hp⟩
        have K4 : Hid (Sp w blk off d w.heap.size R.2 w4) := hp
        have cl := hp.c
        clear hp
        go_wp2
        go_ret2
        rw [HP.out, HH.out]
        exact ⟨rfl, K4.out.row⟩
    · obtain ⟨R, h4⟩ : ∃ r, median ltInt d i j k 0 = r := ⟨_, rfl⟩
      have HP : Hid (choosePivot ltInt d a b = (R.1, hintS R.2)) := (by rw [HC.out]; simp only []; rw [if_pos h8, if_neg h50, h4] : choosePivot ltInt d a b = (R.1, hintS R.2))
      have C4 : Hid (∀ W, Sp w blk off d w.heap.size 0 W → Calls Tryd.prog 101 #[.slice (some ⟨blk, off, none⟩) len cap, .int .i64 i, .int .i64 j, .int .i64 k, .pointer (some ⟨w.heap.size, 0, none⟩)] W fun e w' => e = .returned (.int .i64 (R.1 : Int)) ∧ Sp w blk off d w.heap.size R.2 w') := fun W hW => by have t := med76 blk off len cap i j k w.heap.size 0 d w W hW hsz hs bi bj bk (by omega); rw [h4] at t; exact t
      clear h4
      rcases (by omega : R.2 = 0 ∨ R.2 = 12 ∨ (¬ R.2 = 0 ∧ ¬ R.2 = 12)) with hz | hz | ⟨hz, hz2⟩
      · have HH : Hid (hintS R.2 = .increasing) := (by rw [hz]; rfl : hintS R.2 = .increasing)
        have hzi : ((R.2 : Nat) : Int) = 0 := by omega
        go_enter Tryd.func89, Tryd.ntmps89
        go_wp2_with fail
        refine (C4.out _ HS.out).mono ?_
        rintro e w1 ⟨rfl, hp⟩
        have K1 : Hid (Sp w blk off d w.heap.size R.2 w1) := hp
        have cl := hp.c
        rw [hzi] at cl
        clear hp
        go_wp2
        go_ret2
        rw [HP.out, HH.out]
        exact ⟨rfl, K1.out.row⟩
      · have HH : Hid (hintS R.2 = .decreasing) := (by rw [hz]; rfl : hintS R.2 = .decreasing)
        have hzi : ((R.2 : Nat) : Int) = 12 := by omega
        go_enter Tryd.func89, Tryd.ntmps89
        go_wp2_with fail
        refine (C4.out _ HS.out).mono ?_
        rintro e w1 ⟨rfl, hp⟩
        have K1 : Hid (Sp w blk off d w.heap.size R.2 w1) := hp
        have cl := hp.c
        rw [hzi] at cl
        clear hp
        go_wp2
        go_ret2
        rw [HP.out, HH.out]
        exact ⟨rfl, K1.out.row⟩
      · have hzi : ¬ ((R.2 : Nat) : Int) = 0 := by omega
        have hzi2 : ¬ ((R.2 : Nat) : Int) = 12 := by omega
        have HH : Hid (hintS R.2 = .unknown) := (by unfold hintS; rw [if_neg hz, if_neg hz2] : hintS R.2 = .unknown)
        go_enter Tryd.func89, Tryd.ntmps89
        go_wp2_with fail
        refine (C4.out _ HS.out).mono ?_
        rintro e w1 ⟨rfl, hp⟩
        have K1 : Hid (Sp w blk off d w.heap.size R.2 w1) := hp
        have cl := hp.c
        clear hp
        go_wp2
        go_ret2
        rw [HP.out, HH.out]
        exact ⟨rfl, K1.out.row⟩
  · have HP : Hid (choosePivot ltInt d a b = (j, .increasing)) := (by rw [HC.out]; simp only []; rw [if_neg h8]; rfl : choosePivot ltInt d a b = (j, .increasing))
    go_enter Tryd.func89, Tryd.ntmps89
    go_wp2
    go_ret2
    rw [HP.out]
    exact ⟨rfl, HS.out.row⟩
end
section
open Go.RowKit Go.Shelf Go.Sort
theorem setCell_twice (w : World) (blk off : Nat) (v v' : Value) : (w.setCell ⟨blk, off, none⟩ v).setCell ⟨blk, off, none⟩ v' = w.setCell ⟨blk, off, none⟩ v' := by
  rw [setCell_eq, setCell_eq, setCell_eq, mapBlock_mapBlock]
  exact mapBlock_congr _ _ _ _ (fun c _ _ _ => by simp)
set_option maxHeartbeats 4000000 in
set_option maxRecDepth 100000 in
theorem next74 (rb X : Nat) (hX : X < 18446744073709551616) (w : World) (hc : w.cell? ⟨rb, 0, none⟩ = some (.int .u64 X)) (hf : w.frozen? ⟨rb, 0, none⟩ = false) :
    Calls Tryd.prog 99 #[.pointer (some ⟨rb, 0, none⟩)] w fun e w' => e = .returned (.int .u64 (xorNextN X : Nat)) ∧ ∃ q, w' = (w.setCell ⟨rb, 0, none⟩ (.int .u64 (xorNextN X : Nat))).drewN q := by
  obtain ⟨x1, h1⟩ : ∃ x : Nat, X ^^^ (X * 8192 % 18446744073709551616) = x := ⟨_, rfl⟩
  obtain ⟨x2, h2⟩ : ∃ x : Nat, x1 ^^^ (x1 / 128) = x := ⟨_, rfl⟩
  obtain ⟨x3, h3⟩ : ∃ x : Nat, x2 ^^^ (x2 * 131072 % 18446744073709551616) = x := ⟨_, rfl⟩
  have l1 : x1 < 18446744073709551616 := by rw [← h1]; exact Nat.xor_lt_two_pow (n := 64) (by omega) (by omega)
  have l2 : x2 < 18446744073709551616 := by rw [← h2]; exact Nat.xor_lt_two_pow (n := 64) (by omega) (by omega)
  have y1 : bits .xor .u64 (X : Int) (IntKind.u64.wrap ((X : Int) * 8192)) = (x1 : Int) := by
    rw [show IntKind.u64.wrap ((X : Int) * 8192) = ((X * 8192 % 18446744073709551616 : Nat) : Int) by simp [IntKind.wrap, IntKind.signed, IntKind.bits], bits_xor_u64_nat _ _ hX (by omega), h1]
  have y2 : bits .xor .u64 (x1 : Int) ((x1 : Int) / 128) = (x2 : Int) := by
    rw [show ((x1 : Int) / 128) = ((x1 / 128 : Nat) : Int) by omega, bits_xor_u64_nat _ _ l1 (by omega), h2]
  have y3 : bits .xor .u64 (x2 : Int) (IntKind.u64.wrap ((x2 : Int) * 131072)) = (x3 : Int) := by
    rw [show IntKind.u64.wrap ((x2 : Int) * 131072) = ((x2 * 131072 % 18446744073709551616 : Nat) : Int) by simp [IntKind.wrap, IntKind.signed, IntKind.bits], bits_xor_u64_nat _ _ l2 (by omega), h3]
  have hv : xorNextN X = x3 := by unfold xorNextN; simp only []; rw [h1, h2, h3]
  rw [hv]
  clear h1 h2 h3 hv
  have hss : ∀ v v', (w.setCell ⟨rb, 0, none⟩ v).setCell ⟨rb, 0, none⟩ v' = w.setCell ⟨rb, 0, none⟩ v' := setCell_twice w rb 0
  go_enter Tryd.func99, Tryd.ntmps99
  go_wp2
  go_region
  all_goals go_wp2
  all_goals go_region
  all_goals go_wp2
  all_goals go_region
  all_goals go_wp2
  go_ret
  exact ⟨rfl, 3, rfl⟩
theorem len60 (n : Nat) (hn : n ≤ 65536) (w : World) : Calls Tryd.prog 80 #[.int .u64 n] w fun e w' => e = .returned (.int .i64 (bitsLen n : Nat)) ∧ w' = w := by
  have h := Tryd.bits_Len (n : Int) w (by omega) (by omega)
  rwa [Int.toNat_natCast, bitLen_eq _ (by omega)] at h
set_option maxHeartbeats 1000000 in
theorem pow73 (n : Nat) (hn : n ≤ 65536) (w : World) : Calls Tryd.prog 98 #[.int .i64 n] w fun e w' => e = .returned (.int .u64 ((1 <<< bitsLen n : Nat) : Int)) ∧ w' = w := by
  have HL : Hid (∀ w, Calls Tryd.prog 80 #[.int .u64 n] w fun e w' => e = .returned (.int .i64 (bitsLen n : Nat)) ∧ w' = w) := len60 n hn
  have hk : bitsLen n ≤ 17 := (bitsLen_le_iff n 17).2 (by omega)
  generalize bitsLen n = k at *
  have wr : IntKind.u64.wrap (n : Int) = n := by simp [IntKind.wrap, IntKind.bits, IntKind.signed]; omega
  have hp : IntKind.u64.wrap (2 ^ k) = ((1 <<< k : Nat) : Int) := by
    rcases (by omega : k = 0 ∨ k = 1 ∨ k = 2 ∨ k = 3 ∨ k = 4 ∨ k = 5 ∨ k = 6 ∨ k = 7 ∨ k = 8 ∨ k = 9 ∨ k = 10 ∨ k = 11 ∨ k = 12 ∨ k = 13 ∨ k = 14 ∨ k = 15 ∨ k = 16 ∨ k = 17) with rfl | rfl | rfl | rfl | rfl | rfl | rfl | rfl | rfl | rfl | rfl | rfl | rfl | rfl | rfl | rfl | rfl | rfl <;> rfl
  have HP : Hid (IntKind.u64.wrap (2 ^ k) = ((1 <<< k : Nat) : Int)) := hp
  clear hp
  go_enter Tryd.func98, Tryd.ntmps98
  go_wp2_with (first | (go_at_call 80; refine (HL.out _).mono ?_; rintro e w' ⟨rfl, rfl⟩))
  go_ret
  exact ⟨ret_int HP.out, rfl⟩
end
end Go.Proofs.YtnmpbihpoefeoaaDoor
