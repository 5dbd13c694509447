/- Blanks and remarks between two sources say nothing: the law. -/
import Derived.Test.YtgdbfedagdlgkabDoorM2
namespace Go.Proofs.YtgdbfedagdlgkabDoor
open Go.RowKit Go.Shelf
/-- What cutting a source leaves. -/
def Cut (s : ByteArray) (c f t : Int) (l : List Tk) (W : World) : Prop := Calls Tryd.prog 5 #[.string s] W fun e w' => ∃ v, e = .returned (.tuple #[v, .agg #[.int .i64 c, .int .i64 f, .int .i64 t]]) ∧ TkS w' v l ∧ Below W.heap.size W w'
theorem cut_of (s : ByteArray) (w W : World) (hT : Tb w) (hW : Below w.heap.size w W) (hs : s.size ≤ 140737488355328) : Cut s (cR (tokR s)) (fR (tokR s)) (tR (tokR s)) (lstR (tokR s)) W := (tokens9 s W (hT.below hW (Nat.le_refl _)) hs).mono fun _ _ h => cutQ_open h
theorem keep_new {W : World} {k : Nat} {o : Obj} (h : W.heap[k]? = some o) (o' : Obj) : (W.alloc o').heap[k]? = some o := keep_block h ((Below.refl _ W).alloc (Nat.le_refl _) o')
set_option maxRecDepth 100000 in
set_option maxHeartbeats 4000000 in
theorem law_bad1 (a b : ByteArray) (w : World) (hab : a.size + b.size ≤ 60000) (ca fa ta cb fb tb cs fs ts : Int) (la lb ls : List Tk)
    (HA : Hid (∀ W, Below w.heap.size w W → Cut a ca fa ta la W)) (HB : Hid (∀ W, Below w.heap.size w W → Cut b cb fb tb lb W)) (HS : Hid (∀ W, Below w.heap.size w W → Cut (a ++ ⟨#[10, 47, 47, 32, 120, 10, 32, 9]⟩ ++ b) cs fs ts ls W))
    (H4 : Hid (∀ W, Below w.heap.size w W → Calls Tryd.prog 4 #[] W fun e w' => e = .returned (.bool true) ∧ Below W.heap.size W w')) (hc : ¬ ca = 0) (hs : ¬ cs = 0) : Calls Tryd.prog 3 #[.string a, .string b] w fun e w' => e = .returned (.bool true) ∧ Below w.heap.size w w' := by
  have hs' : (cs != 0) = true := by simpa using hs
  have ha60 : a.size ≤ 60000 := by omega
  have hb60 : b.size ≤ 60000 := by omega
  go_enter Tryd.func3, Tryd.ntmps3
  go_wp2_with fail
  refine (HA.out _ (Below.refl _ _)).mono ?_
  rintro e w1 ⟨va, rfl, hva, hb1⟩
  have B1 : Hid (Below w.heap.size w (w1.alloc (dgO ca fa ta))) := hb1.alloc hb1.size _
  have A1 : Hid (TkS (w1.alloc (dgO ca fa ta)) va la) := hva.below ((Below.refl _ w1).alloc (Nat.le_refl _) _) (Nat.le_refl _)
  clear hb1 hva
  go_wp2_with fail
  refine (HB.out _ B1.out).mono ?_
  rintro e w2 ⟨vb, rfl, hvb, hb2⟩
  have B2 : Hid (Below w.heap.size w (w2.alloc (dgO cb fb tb))) := (B1.out.trans (hb2.mono B1.out.size)).alloc (B1.out.trans (hb2.mono B1.out.size)).size _
  have A2 : Hid (TkS (w2.alloc (dgO cb fb tb)) va la) := (A1.out.below hb2 (Nat.le_refl _)).below ((Below.refl _ w2).alloc (Nat.le_refl _) _) (Nat.le_refl _)
  have A2b : Hid (TkS (w2.alloc (dgO cb fb tb)) vb lb) := hvb.below ((Below.refl _ w2).alloc (Nat.le_refl _) _) (Nat.le_refl _)
  have X2 : Hid ((w2.alloc (dgO cb fb tb)).heap[w1.heap.size]? = some (dgO ca fa ta)) := keep_new (keep_block (at_dg w1 ca fa ta) hb2) _
  clear hb2 hvb
  go_wp2_with fail
  refine (HS.out _ B2.out).mono ?_
  rintro e w3 ⟨vs, rfl, hvs, hb3⟩
  have B3 : Hid (Below w.heap.size w (w3.alloc (dgO cs fs ts))) := (B2.out.trans (hb3.mono B2.out.size)).alloc (B2.out.trans (hb3.mono B2.out.size)).size _
  have A3 : Hid (TkS (w3.alloc (dgO cs fs ts)) va la) := (A2.out.below hb3 (Nat.le_refl _)).below ((Below.refl _ w3).alloc (Nat.le_refl _) _) (Nat.le_refl _)
  have A3b : Hid (TkS (w3.alloc (dgO cs fs ts)) vb lb) := (A2b.out.below hb3 (Nat.le_refl _)).below ((Below.refl _ w3).alloc (Nat.le_refl _) _) (Nat.le_refl _)
  have A3s : Hid (TkS (w3.alloc (dgO cs fs ts)) vs ls) := hvs.below ((Below.refl _ w3).alloc (Nat.le_refl _) _) (Nat.le_refl _)
  obtain ⟨x0, x1, x2, x3⟩ := dg_cells (keep_new (keep_block X2.out hb3) (dgO cs fs ts))
  obtain ⟨y0, y1, y2, y3⟩ := dg_cells (keep_new (keep_block (at_dg w2 cb fb tb) hb3) (dgO cs fs ts))
  obtain ⟨z0, z1, z2, z3⟩ := dg_cells (at_dg w3 cs fs ts)
  clear hb3 hvs
  unfold dgO at x0 x1 x2 x3 y0 y1 y2 y3 z0 z1 z2 z3
  go_wp2_with fail
  refine (H4.out _ B3.out).mono ?_
  rintro e w4 ⟨rfl, hb⟩
  have B4 : Hid (Below w.heap.size w w4) := B3.out.trans (hb.mono B3.out.size)
  clear hb
  go_wp2
  go_ret
  exact ⟨rfl, B4.out⟩
set_option maxRecDepth 100000 in
set_option maxHeartbeats 4000000 in
theorem law_bad2 (a b : ByteArray) (w : World) (hab : a.size + b.size ≤ 60000) (ca fa ta cb fb tb cs fs ts : Int) (la lb ls : List Tk)
    (HA : Hid (∀ W, Below w.heap.size w W → Cut a ca fa ta la W)) (HB : Hid (∀ W, Below w.heap.size w W → Cut b cb fb tb lb W)) (HS : Hid (∀ W, Below w.heap.size w W → Cut (a ++ ⟨#[10, 47, 47, 32, 120, 10, 32, 9]⟩ ++ b) cs fs ts ls W))
    (H4 : Hid (∀ W, Below w.heap.size w W → Calls Tryd.prog 4 #[] W fun e w' => e = .returned (.bool true) ∧ Below W.heap.size W w')) (hc0 : ca = 0) (hc : ¬ cb = 0) (hs : ¬ cs = 0) : Calls Tryd.prog 3 #[.string a, .string b] w fun e w' => e = .returned (.bool true) ∧ Below w.heap.size w w' := by
  subst hc0
  have hs' : (cs != 0) = true := by simpa using hs
  have ha60 : a.size ≤ 60000 := by omega
  have hb60 : b.size ≤ 60000 := by omega
  go_enter Tryd.func3, Tryd.ntmps3
  go_wp2_with fail
  refine (HA.out _ (Below.refl _ _)).mono ?_
  rintro e w1 ⟨va, rfl, hva, hb1⟩
  have B1 : Hid (Below w.heap.size w (w1.alloc (dgO 0 fa ta))) := hb1.alloc hb1.size _
  have A1 : Hid (TkS (w1.alloc (dgO 0 fa ta)) va la) := hva.below ((Below.refl _ w1).alloc (Nat.le_refl _) _) (Nat.le_refl _)
  clear hb1 hva
  go_wp2_with fail
  refine (HB.out _ B1.out).mono ?_
  rintro e w2 ⟨vb, rfl, hvb, hb2⟩
  have B2 : Hid (Below w.heap.size w (w2.alloc (dgO cb fb tb))) := (B1.out.trans (hb2.mono B1.out.size)).alloc (B1.out.trans (hb2.mono B1.out.size)).size _
  have A2 : Hid (TkS (w2.alloc (dgO cb fb tb)) va la) := (A1.out.below hb2 (Nat.le_refl _)).below ((Below.refl _ w2).alloc (Nat.le_refl _) _) (Nat.le_refl _)
  have A2b : Hid (TkS (w2.alloc (dgO cb fb tb)) vb lb) := hvb.below ((Below.refl _ w2).alloc (Nat.le_refl _) _) (Nat.le_refl _)
  have X2 : Hid ((w2.alloc (dgO cb fb tb)).heap[w1.heap.size]? = some (dgO 0 fa ta)) := keep_new (keep_block (at_dg w1 0 fa ta) hb2) _
  clear hb2 hvb
  go_wp2_with fail
  refine (HS.out _ B2.out).mono ?_
  rintro e w3 ⟨vs, rfl, hvs, hb3⟩
  have B3 : Hid (Below w.heap.size w (w3.alloc (dgO cs fs ts))) := (B2.out.trans (hb3.mono B2.out.size)).alloc (B2.out.trans (hb3.mono B2.out.size)).size _
  have A3 : Hid (TkS (w3.alloc (dgO cs fs ts)) va la) := (A2.out.below hb3 (Nat.le_refl _)).below ((Below.refl _ w3).alloc (Nat.le_refl _) _) (Nat.le_refl _)
  have A3b : Hid (TkS (w3.alloc (dgO cs fs ts)) vb lb) := (A2b.out.below hb3 (Nat.le_refl _)).below ((Below.refl _ w3).alloc (Nat.le_refl _) _) (Nat.le_refl _)
  have A3s : Hid (TkS (w3.alloc (dgO cs fs ts)) vs ls) := hvs.below ((Below.refl _ w3).alloc (Nat.le_refl _) _) (Nat.le_refl _)
  obtain ⟨x0, x1, x2, x3⟩ := dg_cells (keep_new (keep_block X2.out hb3) (dgO cs fs ts))
  obtain ⟨y0, y1, y2, y3⟩ := dg_cells (keep_new (keep_block (at_dg w2 cb fb tb) hb3) (dgO cs fs ts))
  obtain ⟨z0, z1, z2, z3⟩ := dg_cells (at_dg w3 cs fs ts)
  clear hb3 hvs
  unfold dgO at x0 x1 x2 x3 y0 y1 y2 y3 z0 z1 z2 z3
  go_wp2_with fail
  refine (H4.out _ B3.out).mono ?_
  rintro e w4 ⟨rfl, hb⟩
  have B4 : Hid (Below w.heap.size w w4) := B3.out.trans (hb.mono B3.out.size)
  clear hb
  go_wp2
  go_ret
  exact ⟨rfl, B4.out⟩
set_option maxRecDepth 100000 in
set_option maxHeartbeats 4000000 in
theorem law_far (a b : ByteArray) (w : World) (hab : ¬ a.size + b.size ≤ 60000) (ha : a.size ≤ 140737488355328) (hb : b.size ≤ 140737488355328)
    (H4 : Hid (∀ W, Below w.heap.size w W → Calls Tryd.prog 4 #[] W fun e w' => e = .returned (.bool true) ∧ Below W.heap.size W w')) : Calls Tryd.prog 3 #[.string a, .string b] w fun e w' => e = .returned (.bool true) ∧ Below w.heap.size w w' := by
  go_enter Tryd.func3, Tryd.ntmps3
  go_wp2_with fail
  refine (H4.out _ (Below.refl _ _)).mono ?_
  rintro e w4 ⟨rfl, hb⟩
  have B4 : Hid (Below w.heap.size w w4) := hb
  clear hb
  go_wp2
  go_ret
  exact ⟨rfl, B4.out⟩
end Go.Proofs.YtgdbfedagdlgkabDoor
