/- The law of tokens. -/
import Derived.Test.YtgdbfedagdlgkaaDoorJ2
namespace Go.Proofs.YtgdbfedagdlgkaaDoor
open Go.RowKit Go.Shelf
def dgF : List Field := [⟨"Code", 23, 0, false, "", "", 0⟩, ⟨"From", 3, 1, false, "", "", 8⟩, ⟨"To", 3, 2, false, "", "", 16⟩]
theorem dgF_eq : (Tryd.prog.fieldsOf 25).toList = dgF := by kernel_rfl
theorem st25 : Tryd.prog.underlying 25 = some (.struct (Tryd.prog.fieldsOf 25)) := by kernel_rfl
theorem sh25 : Tryd.prog.stoodInHeld 25 = false := by kernel_rfl
theorem eql_dg (c f t : Int) (w : World) : (binOp .eql 25 (.agg #[.int .i64 c, .int .i64 f, .int .i64 t]) (.agg #[.int .i64 c, .int .i64 f, .int .i64 t])).run Tryd.prog w = .ok (.bool true) w := by
  rw [run_eql_struct, run_equalIn_agg (d := 9999) (ht := st25) (hp := sh25), dgF_eq]
  simp [dgF, Op.eqFields, go_sem, Tryd.underlying3, Tryd.underlying23, run_equalIn_int]
def lstR : Res → List Tk
  | .ok l => l
  | .bad .. => []
def cR : Res → Int
  | .ok _ => 0
  | .bad c _ _ => c
def fR : Res → Int
  | .ok _ => 0
  | .bad _ f _ => f
def tR : Res → Int
  | .ok _ => 0
  | .bad _ _ t => t
theorem cutQ_open {w w' : World} {r : Res} {e : Ending} (h : cutQ w r e w') : ∃ v, e = .returned (.tuple #[v, .agg #[.int .i64 (cR r), .int .i64 (fR r), .int .i64 (tR r)]]) ∧ TkS w' v (lstR r) ∧ Below w.heap.size w w' := by
  obtain ⟨hb, h⟩ := h
  cases r with
  | ok l =>
    obtain ⟨v, rfl, ho⟩ := h
    exact ⟨v, rfl, tks_of ho, hb⟩
  | bad c f t =>
    refine ⟨.slice none 0 0, h, .inl ⟨rfl, rfl⟩, hb⟩
def dgO (c f t : Int) : Obj := .cells #[.int .i64 c, .int .i64 f, .int .i64 t] 25 (0, 0)
theorem dg_cells {W : World} {g : Nat} {c f t : Int} (h : W.heap[g]? = some (dgO c f t)) : W.cell? ⟨g, 0, none⟩ = some (.int .i64 c) ∧ W.cell? ⟨g, 1, none⟩ = some (.int .i64 f) ∧ W.cell? ⟨g, 2, none⟩ = some (.int .i64 t) ∧ g < W.heap.size :=
  ⟨Joins.cell_of_block h 0, Joins.cell_of_block h 1, Joins.cell_of_block h 2, lt_of_block h⟩
theorem at_dg (w : World) (c f t : Int) : (w.alloc (dgO c f t)).heap[w.heap.size]? = some (dgO c f t) := by
  show (w.heap.push _)[w.heap.size]? = _
  simp
theorem below_drewN {B : Nat} {a w : World} (h : Below B a w) (n : Nat) : Below B a (w.drewN n) := h.trans ⟨rfl, rfl, rfl, Nat.le_refl _, fun _ _ => rfl⟩
set_option maxRecDepth 100000 in
set_option maxHeartbeats 4000000 in
theorem law3 (s : ByteArray) (w : World) (hT : Tb w) (hs : s.size ≤ 140737488355328) : Calls Tryd.prog 3 #[.string s] w fun e w' => e = .returned (.bool true) ∧ Below w.heap.size w w' := by
  have H9 : Hid (∀ W, Below w.heap.size w W → Calls Tryd.prog 9 #[.string s] W fun e w' => ∃ v, e = .returned (.tuple #[v, .agg #[.int .i64 (cR (tokR s)), .int .i64 (fR (tokR s)), .int .i64 (tR (tokR s))]]) ∧ TkS w' v (lstR (tokR s)) ∧ Below W.heap.size W w') := fun W hW => (tokens9 s W (hT.below hW (Nat.le_refl _)) hs).mono fun e w' h => cutQ_open h
  have H10 : Hid (∀ W, Calls Tryd.prog 10 #[.string s] W fun e w' => ∃ v, e = .returned (.tuple #[v, .agg #[.int .i64 (cR (tokR s)), .int .i64 (fR (tokR s)), .int .i64 (tR (tokR s))]]) ∧ TkS w' v (lstR (tokR s)) ∧ Below W.heap.size W w') := fun W => (rtokens10 s W hs).mono fun e w' h => cutQ_open h
  have H12 : Hid (∀ W, Below w.heap.size w W → Calls Tryd.prog 12 #[] W fun e w' => e = .returned (.bool true) ∧ Below W.heap.size W w') := fun W hW => small12 W (hT.below hW (Nat.le_refl _))
  generalize lstR (tokR s) = l at *
  generalize cR (tokR s) = c at *
  generalize fR (tokR s) = f at *
  generalize tR (tokR s) = t at *
  have heq := eql_dg c f t
  clear hT
  go_enter Tryd.func3, Tryd.ntmps3
  go_wp2_with fail
  refine (H9.out _ (Below.refl _ _)).mono ?_
  rintro e w1 ⟨va, rfl, ha, hb⟩
  have HB1 : Hid (Below w.heap.size w (w1.alloc (dgO c f t))) := hb.alloc hb.size _
  have HA1 : Hid (TkS (w1.alloc (dgO c f t)) va l) := ha.below ((Below.refl _ w1).alloc (Nat.le_refl _) _) (Nat.le_refl _)
  clear hb ha
  go_wp2_with fail
  refine (H10.out _).mono ?_
  rintro e w2 ⟨vb, rfl, hvb, hb⟩
  have HB2 : Hid (Below w.heap.size w (w2.alloc (dgO c f t))) := (HB1.out.trans (hb.mono HB1.out.size)).alloc (HB1.out.trans (hb.mono HB1.out.size)).size _
  have HA2 : Hid (TkS (w2.alloc (dgO c f t)) va l) := (HA1.out.below hb (Nat.le_refl _)).below ((Below.refl _ w2).alloc (Nat.le_refl _) _) (Nat.le_refl _)
  have HV2 : Hid (TkS (w2.alloc (dgO c f t)) vb l) := hvb.below ((Below.refl _ w2).alloc (Nat.le_refl _) _) (Nat.le_refl _)
  obtain ⟨x0, x1, x2, x3⟩ := dg_cells (keep_block (at_dg w1 c f t) hb)
  obtain ⟨y0, y1, y2, y3⟩ := dg_cells (at_dg w2 c f t)
  clear hb hvb
  go_wp2_with fail
  refine (plain11 HA2.out HV2.out).mono ?_
  rintro e w3 ⟨rfl, m, rfl⟩
  go_wp2_with fail
  refine (H12.out _ (below_drewN HB2.out m)).mono ?_
  rintro e w4 ⟨rfl, hb⟩
  have HB4 : Hid (Below w.heap.size w w4) := (below_drewN HB2.out m).trans (hb.mono HB2.out.size)
  clear hb
  go_wp2
  go_ret
  exact ⟨rfl, HB4.out⟩
end Go.Proofs.YtgdbfedagdlgkaaDoor
