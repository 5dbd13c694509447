/- Sorting numbers of the kind uint64: order2Ordered, medianOrdered, medianAdjacentOrdered, choosePivotOrdered. -/
import Derived.Test.YtndbkkldfinggabS3
namespace Go.Proofs.Ytndbkkldfinggab
open Go.RowKit Go.Shelf Go.Sort
/-- The row as it was, and how many pairs have changed places. -/
structure Sp (w0 : World) (blk off : Nat) (d : Array Int) (sb s : Nat) (W : World) : Prop where
  row : Rw w0 blk off d W
  c : W.cell? ⟨sb, 0, none⟩ = some (.int .i64 s)
  f : W.frozen? ⟨sb, 0, none⟩ = false
  ge : w0.heap.size ≤ sb
  ne : blk ≠ sb
theorem Sp.drewN {w0 W : World} {blk off sb s : Nat} {d : Array Int} (h : Sp w0 blk off d sb s W) (n : Nat) : Sp w0 blk off d sb s (W.drewN n) := ⟨h.row.drewN n, h.c, h.f, h.ge, h.ne⟩
theorem Sp.inc {w0 W : World} {blk off sb s : Nat} {d : Array Int} (h : Sp w0 blk off d sb s W) (v : Int) (s' : Nat) (hv : v = (s' : Int)) : Sp w0 blk off d sb s' (W.setCell ⟨sb, 0, none⟩ (.int .i64 v)) := by
  subst hv
  have hg := h.row.grown
  have ge := h.ge
  refine ⟨⟨⟨hg.os, hg.tape, hg.output, Nat.le_trans hg.size (grownBy_setX W sb 0 _).size, fun k hk hn => ?_⟩, fun t ht => ?_, fun t ht => ?_, by obtain ⟨cur, hc⟩ := h.row.ty; exact ⟨cur, (Below.heap_setCell _ _ _ _ (fun e => h.ne e)).trans hc⟩⟩, World.cell?_setCell_same' _ _ _ (by rw [h.c]; rfl), by rw [World.frozen?_setCell]; exact h.f, h.ge, h.ne⟩
  · rw [(grownBy_setX W sb 0 (.int .i64 (s' : Int))).block k (Nat.lt_of_lt_of_le hk hg.size) (by intro e; cases e; omega)]
    exact hg.block k hk hn
  · rw [World.cell?_setCell_other _ _ _ _ (by intro e; injection e with e1 e2; exact h.ne e1.symm)]
    exact h.row.cell t ht
  · rw [World.frozen?_setCell]; exact h.row.frozen t ht
set_option maxHeartbeats 4000000 in
set_option maxRecDepth 100000 in
theorem ord78 (blk off len cap a b sb s : Nat) (d : Array Int) (w0 w : World) (hH : Sp w0 blk off d sb s w) (hsz : d.size = len) (_hs : len ≤ 65536) (ha : a < len) (hb : b < len) (hs2 : s ≤ 100) :
    Calls Try.prog 78 #[.slice (some ⟨blk, off, none⟩) len cap, .int .i64 a, .int .i64 b, .pointer (some ⟨sb, 0, none⟩)] w fun e w' => e = .returned (.tuple #[.int .i64 (((order2 ltInt d a b s).1 : Nat) : Int), .int .i64 (((order2 ltInt d a b s).2.1 : Nat) : Int)]) ∧ Sp w0 blk off d sb (order2 ltInt d a b s).2.2 w' := by
  obtain ⟨G, hG, hcw, hfw⟩ := hH.row.fam
  rw [hsz] at hcw hfw
  have HH : Hid (Sp w0 blk off d sb s w) := hH
  have HG : Hid (∀ t, G t = d[t]!) := hG
  have c1 := hH.c
  have f1 := hH.f
  clear hH hG
  cases hl : ltInt (G b) (G a)
  · have HO : Hid (order2 ltInt d a b s = (a, b, s)) := (by unfold order2; rw [← HG.out, ← HG.out, hl]; rfl : order2 ltInt d a b s = (a, b, s))
    go_enter Try.func78, Try.ntmps78
    go_wp2
    go_quiet (first | (go_at_call 67; refine Calls.quiet_of_same (less67 _ _ _)))
    rw [hl]
    go_wp2
    go_ret2
    rw [HO.out]
    exact ⟨rfl, HH.out.drewN _⟩
  · have HO : Hid (order2 ltInt d a b s = (b, a, s + 1)) := (by unfold order2; rw [← HG.out, ← HG.out, hl]; rfl : order2 ltInt d a b s = (b, a, s + 1))
    go_enter Try.func78, Try.ntmps78
    go_wp2
    go_quiet (first | (go_at_call 67; refine Calls.quiet_of_same (less67 _ _ _)))
    rw [hl]
    go_wp2
    go_ret2
    rw [HO.out]
    exact ⟨rfl, (HH.out.drewN _).inc _ _ (by simp)⟩
theorem ord_in {d : Array Int} {a b s : Nat} (P : Nat → Prop) (ha : P a) (hb : P b) : P (order2 ltInt d a b s).1 ∧ P (order2 ltInt d a b s).2.1 ∧ (order2 ltInt d a b s).2.2 ≤ s + 1 := by
  unfold order2
  split
  · exact ⟨hb, ha, Nat.le_refl _⟩
  · exact ⟨ha, hb, Nat.le_succ _⟩
set_option maxHeartbeats 4000000 in
set_option maxRecDepth 100000 in
theorem med76 (blk off len cap a b c sb s : Nat) (d : Array Int) (w0 w : World) (hH : Sp w0 blk off d sb s w) (hsz : d.size = len) (hs : len ≤ 65536) (ha : a < len) (hb : b < len) (hc : c < len) (hs2 : s ≤ 90) :
    Calls Try.prog 76 #[.slice (some ⟨blk, off, none⟩) len cap, .int .i64 a, .int .i64 b, .int .i64 c, .pointer (some ⟨sb, 0, none⟩)] w fun e w' => e = .returned (.int .i64 (((median ltInt d a b c s).1 : Nat) : Int)) ∧ Sp w0 blk off d sb (median ltInt d a b c s).2 w' := by
  obtain ⟨r1, h1⟩ : ∃ r, order2 ltInt d a b s = r := ⟨_, rfl⟩
  obtain ⟨q1, q2, q3⟩ := ord_in (d := d) (a := a) (b := b) (s := s) (· < len) ha hb
  rw [h1] at q1 q2 q3
  obtain ⟨r2, h2⟩ : ∃ r, order2 ltInt d r1.2.1 c r1.2.2 = r := ⟨_, rfl⟩
  obtain ⟨p1, p2, p3⟩ := ord_in (d := d) (a := r1.2.1) (b := c) (s := r1.2.2) (· < len) q2 hc
  rw [h2] at p1 p2 p3
  obtain ⟨r3, h3⟩ : ∃ r, order2 ltInt d r1.1 r2.1 r2.2.2 = r := ⟨_, rfl⟩
  have HM : Hid (median ltInt d a b c s = (r3.2.1, r3.2.2)) := (by unfold median; simp only [h1, h2, h3] : median ltInt d a b c s = (r3.2.1, r3.2.2))
  have H1 : Hid (∀ W, Sp w0 blk off d sb s W → Calls Try.prog 78 #[.slice (some ⟨blk, off, none⟩) len cap, .int .i64 a, .int .i64 b, .pointer (some ⟨sb, 0, none⟩)] W fun e w' => e = .returned (.tuple #[.int .i64 (r1.1 : Int), .int .i64 (r1.2.1 : Int)]) ∧ Sp w0 blk off d sb r1.2.2 w') := fun W hW => by have t := ord78 blk off len cap a b sb s d w0 W hW hsz hs ha hb (by omega); rw [h1] at t; exact t
  have H2 : Hid (∀ W, Sp w0 blk off d sb r1.2.2 W → Calls Try.prog 78 #[.slice (some ⟨blk, off, none⟩) len cap, .int .i64 r1.2.1, .int .i64 c, .pointer (some ⟨sb, 0, none⟩)] W fun e w' => e = .returned (.tuple #[.int .i64 (r2.1 : Int), .int .i64 (r2.2.1 : Int)]) ∧ Sp w0 blk off d sb r2.2.2 w') := fun W hW => by have t := ord78 blk off len cap r1.2.1 c sb r1.2.2 d w0 W hW hsz hs q2 hc (by omega); rw [h2] at t; exact t
  have H3 : Hid (∀ W, Sp w0 blk off d sb r2.2.2 W → Calls Try.prog 78 #[.slice (some ⟨blk, off, none⟩) len cap, .int .i64 r1.1, .int .i64 r2.1, .pointer (some ⟨sb, 0, none⟩)] W fun e w' => e = .returned (.tuple #[.int .i64 (r3.1 : Int), .int .i64 (r3.2.1 : Int)]) ∧ Sp w0 blk off d sb r3.2.2 w') := fun W hW => by have t := ord78 blk off len cap r1.1 r2.1 sb r2.2.2 d w0 W hW hsz hs q1 p1 (by omega); rw [h3] at t; exact t
  have HH : Hid (Sp w0 blk off d sb s w) := hH
  clear h1 h2 h3 hH
  go_enter Try.func76, Try.ntmps76
  go_wp2_with fail
  refine (H1.out _ HH.out).mono ?_
  rintro e w1 ⟨rfl, hp⟩
  have K1 : Hid (Sp w0 blk off d sb r1.2.2 w1) := hp
  clear hp
  go_wp2_with fail
  refine (H2.out _ K1.out).mono ?_
  rintro e w2 ⟨rfl, hp⟩
  have K2 : Hid (Sp w0 blk off d sb r2.2.2 w2) := hp
  clear hp
  go_wp2_with fail
  refine (H3.out _ K2.out).mono ?_
  rintro e w3 ⟨rfl, hp⟩
  have K3 : Hid (Sp w0 blk off d sb r3.2.2 w3) := hp
  clear hp
  go_wp2
  go_ret
  rw [HM.out]
  exact ⟨rfl, K3.out⟩
theorem med_in {d : Array Int} {a b c s : Nat} (P : Nat → Prop) (ha : P a) (hb : P b) (hc : P c) : P (median ltInt d a b c s).1 ∧ (median ltInt d a b c s).2 ≤ s + 3 := by
  obtain ⟨q1, q2, q3⟩ := ord_in (d := d) (a := a) (b := b) (s := s) P ha hb
  obtain ⟨p1, p2, p3⟩ := ord_in (d := d) (a := (order2 ltInt d a b s).2.1) (b := c) (s := (order2 ltInt d a b s).2.2) P q2 hc
  obtain ⟨r1, r2, r3⟩ := ord_in (d := d) (a := (order2 ltInt d a b s).1) (b := (order2 ltInt d (order2 ltInt d a b s).2.1 c (order2 ltInt d a b s).2.2).1) (s := (order2 ltInt d (order2 ltInt d a b s).2.1 c (order2 ltInt d a b s).2.2).2.2) P q1 p1
  exact ⟨r2, by unfold median; simp only []; omega⟩
set_option maxHeartbeats 4000000 in
set_option maxRecDepth 100000 in
theorem adj75 (blk off len cap a sb s : Nat) (d : Array Int) (w0 w : World) (hH : Sp w0 blk off d sb s w) (hsz : d.size = len) (hs : len ≤ 65536) (ha0 : 1 ≤ a) (ha : a + 1 < len) (hs2 : s ≤ 90) :
    Calls Try.prog 75 #[.slice (some ⟨blk, off, none⟩) len cap, .int .i64 a, .pointer (some ⟨sb, 0, none⟩)] w fun e w' => e = .returned (.int .i64 (((medianAdjacent ltInt d a s).1 : Nat) : Int)) ∧ Sp w0 blk off d sb (medianAdjacent ltInt d a s).2 w' := by
  obtain ⟨R, hR⟩ : ∃ R, medianAdjacent ltInt d a s = R := ⟨_, rfl⟩
  rw [hR]
  have HC : Hid (Calls Try.prog 76 #[.slice (some ⟨blk, off, none⟩) len cap, .int .i64 ((a : Int) - 1), .int .i64 a, .int .i64 ((a : Int) + 1), .pointer (some ⟨sb, 0, none⟩)] w fun e w' => e = .returned (.int .i64 ((R.1 : Nat) : Int)) ∧ Sp w0 blk off d sb R.2 w') := by
    have t := med76 blk off len cap (a - 1) a (a + 1) sb s d w0 w hH hsz hs (by omega) (by omega) (by omega) hs2
    rw [show ((a - 1 : Nat) : Int) = (a : Int) - 1 by omega, show ((a + 1 : Nat) : Int) = (a : Int) + 1 by omega] at t
    rw [← hR]
    exact t
  clear hH hR
  go_enter Try.func75, Try.ntmps75
  go_wp2_with fail
  refine HC.out.mono ?_
  rintro e w1 ⟨rfl, hp⟩
  have K1 : Hid (Sp w0 blk off d sb R.2 w1) := hp
  clear hp
  go_wp2
  go_ret
  exact ⟨rfl, K1.out⟩
end Go.Proofs.Ytndbkkldfinggab
