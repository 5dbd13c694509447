/- A slice of tokens, wherever it lies. -/
import Derived.Test.YtgdbfedagdlgkabDoorD1
import Derived.Laws.StructEq
namespace Go.Proofs.YtgdbfedagdlgkabDoor
open Go.RowKit Go.Shelf

/-- A slice of tokens, wherever it lies. -/
def TkS (W : World) (v : Value) (l : List Tk) : Prop := (v = .slice none 0 0 ∧ l = []) ∨ ∃ (g c : Nat), v = .slice (some ⟨g, 0, none⟩) l.length c ∧ (l.length ≤ c ∧ c ≤ 9223372036854775807) ∧ ∀ i x, l[i]? = some x → ∀ j y, (tkc x)[j]? = some y → W.cell? ⟨g, i * 5 + j, none⟩ = some y
theorem tks_of {W : World} {B : Nat} {v : Value} {l : List Tk} (h : W.ownsRow B 30 5 v l.length (tkl l)) : TkS W v l := by
  have h' := h
  obtain ⟨_, ⟨rfl, h0⟩ | ⟨g, cap, cur, rfl, hg, hh, hn, hm, _⟩⟩ := h
  · exact .inl ⟨rfl, List.eq_nil_of_length_eq_zero h0⟩
  · refine .inr ⟨g, cap, rfl, ⟨by omega, by unfold maxLen at hm; omega⟩, fun i x hx j y hy => ?_⟩
    have hi : i < l.length := by
      rcases Nat.lt_or_ge i l.length with h | h
      · exact h
      · rw [List.getElem?_eq_none h] at hx
        cases hx
    have hj : j < 5 := by
      rcases Nat.lt_or_ge j 5 with h | h
      · exact h
      · rw [List.getElem?_eq_none (by show 5 ≤ j; exact h)] at hy
        cases hy
    rw [h'.cellAt (i * 5 + j) (by omega), tkl_at l i j hj, hx]
    exact hy
def tkF : List Field := [⟨"Kind", 3, 0, false, "", "", 0⟩, ⟨"Text", 9, 1, false, "", "", 8⟩, ⟨"Num", 2, 2, false, "", "", 24⟩, ⟨"From", 3, 3, false, "", "", 32⟩, ⟨"To", 3, 4, false, "", "", 40⟩]
theorem tkF_eq : (Tryd.prog.fieldsOf 30).toList = tkF := by kernel_rfl
theorem st42 : Tryd.prog.underlying 30 = some (.struct (Tryd.prog.fieldsOf 30)) := by kernel_rfl
theorem sh42 : Tryd.prog.stoodInHeld 30 = false := by kernel_rfl
theorem neq_tk (k v a b : Int) (t : ByteArray) (w : World) : (binOp .neq 30 (.agg #[.int .i64 k, .string t, .int .i64 v, .int .i64 a, .int .i64 b]) (.agg #[.int .i64 k, .string t, .int .i64 v, .int .i64 a, .int .i64 b])).run Tryd.prog w = .ok (.bool false) w := by
  rw [run_neq_struct, run_equalIn_agg (d := 9999) (ht := st42) (hp := sh42), tkF_eq]
  simp [tkF, Op.eqFields, go_sem, Tryd.underlying3, Tryd.underlying9, Tryd.underlying2, run_equalIn_int, run_equalIn_string]
theorem tk_cells {W : World} {g : Nat} {l : List Tk} {k : Nat} {x : Tk} (h : ∀ i x, l[i]? = some x → ∀ j y, (tkc x)[j]? = some y → W.cell? ⟨g, i * 5 + j, none⟩ = some y) (hx : l[k]? = some x) : W.cell? ⟨g, k * 5, none⟩ = some (.int .i64 x.k) ∧ W.cell? ⟨g, k * 5 + 1, none⟩ = some (.string x.t) ∧ W.cell? ⟨g, k * 5 + 2, none⟩ = some (.int .i64 x.v) ∧ W.cell? ⟨g, k * 5 + 3, none⟩ = some (.int .i64 x.fr) ∧ W.cell? ⟨g, k * 5 + 4, none⟩ = some (.int .i64 x.en) :=
  ⟨h k x hx 0 _ rfl, h k x hx 1 _ rfl, h k x hx 2 _ rfl, h k x hx 3 _ rfl, h k x hx 4 _ rfl⟩
theorem cells42 : Tryd.prog.cellsOf 30 = 5 := by kernel_rfl
theorem TkS.below {W W' : World} {B : Nat} {v : Value} {l : List Tk} (h : TkS W v l) (hb : Below B W W') (hB : W.heap.size ≤ B) : TkS W' v l := by
  rcases h with h | ⟨g, c, e, hc, h⟩
  · exact .inl h
  · refine .inr ⟨g, c, e, hc, fun i x hx j y hy => ?_⟩
    have t := h i x hx j y hy
    rw [(hb.mono hB).cell (p := ⟨g, i * 5 + j, none⟩) (World.block_lt_of_cell? _ _ t)]
    exact t
def dgF : List Field := [⟨"Code", 24, 0, false, "", "", 0⟩, ⟨"From", 3, 1, false, "", "", 8⟩, ⟨"To", 3, 2, false, "", "", 16⟩]
theorem dgF_eq : (Tryd.prog.fieldsOf 26).toList = dgF := by kernel_rfl
theorem st25 : Tryd.prog.underlying 26 = some (.struct (Tryd.prog.fieldsOf 26)) := by kernel_rfl
theorem sh25 : Tryd.prog.stoodInHeld 26 = false := by kernel_rfl
theorem eql_dg (c f t : Int) (w : World) : (binOp .eql 26 (.agg #[.int .i64 c, .int .i64 f, .int .i64 t]) (.agg #[.int .i64 c, .int .i64 f, .int .i64 t])).run Tryd.prog w = .ok (.bool true) w := by
  rw [run_eql_struct, run_equalIn_agg (d := 9999) (ht := st25) (hp := sh25), dgF_eq]
  simp [dgF, Op.eqFields, go_sem, Tryd.underlying3, Tryd.underlying24, run_equalIn_int]
def lstR : Res → List Tk
  | .ok l => l
  | .bad .. => []
def cR : Res → Int
  | .ok _ => 0
  | .bad c _ _ => c
def fR : Res → Int
  | .ok _ => 0
  | .bad _ f _ => f
def tR : Res → Int
  | .ok _ => 0
  | .bad _ _ t => t
theorem cutQ_open {w w' : World} {r : Res} {e : Ending} (h : cutQ w r e w') : ∃ v, e = .returned (.tuple #[v, .agg #[.int .i64 (cR r), .int .i64 (fR r), .int .i64 (tR r)]]) ∧ TkS w' v (lstR r) ∧ Below w.heap.size w w' := by
  obtain ⟨hb, h⟩ := h
  cases r with
  | ok l =>
    obtain ⟨v, rfl, ho⟩ := h
    exact ⟨v, rfl, tks_of ho, hb⟩
  | bad c f t =>
    refine ⟨.slice none 0 0, h, .inl ⟨rfl, rfl⟩, hb⟩
def dgO (c f t : Int) : Obj := .cells #[.int .i64 c, .int .i64 f, .int .i64 t] 26 (0, 0)
theorem dg_cells {W : World} {g : Nat} {c f t : Int} (h : W.heap[g]? = some (dgO c f t)) : W.cell? ⟨g, 0, none⟩ = some (.int .i64 c) ∧ W.cell? ⟨g, 1, none⟩ = some (.int .i64 f) ∧ W.cell? ⟨g, 2, none⟩ = some (.int .i64 t) ∧ g < W.heap.size :=
  ⟨Joins.cell_of_block h 0, Joins.cell_of_block h 1, Joins.cell_of_block h 2, lt_of_block h⟩
theorem at_dg (w : World) (c f t : Int) : (w.alloc (dgO c f t)).heap[w.heap.size]? = some (dgO c f t) := by
  show (w.heap.push _)[w.heap.size]? = _
  simp
theorem below_drewN {B : Nat} {a w : World} (h : Below B a w) (n : Nat) : Below B a (w.drewN n) := h.trans ⟨rfl, rfl, rfl, Nat.le_refl _, fun _ _ => rfl⟩
end Go.Proofs.YtgdbfedagdlgkabDoor
