/- Pages with bytes written, by the document: rows, and Store. -/
import Derived.Test.YtndbkkldfinggabXX
import Derived.Test.YtndbkkldfinggabYA
namespace Go.Proofs.Ytndbkkldfinggab
open Go.RowKit Go.Shelf
/-- Pages whose bytes are being written: in a row of their own, the last one written with bytes of its own. -/
structure Wr (W : World) (la base len : Nat) (k p : Nat → Int) (Y : Nat → Nat → Int) (g o c : Nat → Nat) (last : Int) : Prop where
  row : Row W la 0 len k p Y g o c
  blk : ∃ cur, W.heap[la]? = some (Obj.cells cur 62 (0, 0))
  ne : ∀ t, t < len → g t ≠ la
  own : ∀ t, t < len → last = (t : Int) → base ≤ g t ∧ o t = 0 ∧ (∃ cur, W.heap[g t]? = some (Obj.cells cur 5 (0, 0))) ∧ ∀ t', t' < len → t' ≠ t → g t' ≠ g t
def rowS (k p : Nat → Int) (ao : Nat → Option Addr) (bl bc : Nat → Nat) (len : Nat) : List Value := (List.range len).flatMap fun i => [.int .u64 (k i), .int .i64 (p i), .slice (ao i) (bl i) (bc i)]
theorem rowS_len (k p : Nat → Int) (ao : Nat → Option Addr) (bl bc : Nat → Nat) (len : Nat) : (rowS k p ao bl bc len).length = len * 3 := by
  unfold rowS
  induction len with
  | zero => rfl
  | succ n ih => rw [List.range_succ, List.flatMap_append, List.length_append, ih]; simp; omega
theorem rowS_get (k p : Nat → Int) (ao : Nat → Option Addr) (bl bc : Nat → Nat) : ∀ (len i : Nat), i < len → (rowS k p ao bl bc len)[i * 3]? = some (.int .u64 (k i)) ∧ (rowS k p ao bl bc len)[i * 3 + 1]? = some (.int .i64 (p i)) ∧ (rowS k p ao bl bc len)[i * 3 + 2]? = some (.slice (ao i) (bl i) (bc i))
  | 0, i, h => by omega
  | n + 1, i, h => by
    have e : rowS k p ao bl bc (n + 1) = rowS k p ao bl bc n ++ [.int .u64 (k n), .int .i64 (p n), .slice (ao n) (bl n) (bc n)] := by simp [rowS, List.range_succ, List.flatMap_append]
    have hl := rowS_len k p ao bl bc n
    rw [e]
    by_cases hi : i = n
    · subst hi
      rw [List.getElem?_append_right (by omega), List.getElem?_append_right (by omega), List.getElem?_append_right (by omega), hl, show i * 3 - i * 3 = 0 by omega, show i * 3 + 1 - i * 3 = 1 by omega, show i * 3 + 2 - i * 3 = 2 by omega]
      exact ⟨rfl, rfl, rfl⟩
    · have t := rowS_get k p ao bl bc n i (by omega)
      rw [List.getElem?_append_left (by omega), List.getElem?_append_left (by omega), List.getElem?_append_left (by omega)]
      exact t
theorem cell_set_ne {W : World} {g : Nat} {cur : Array Value} {ty : TypeId} (hc : W.heap[g]? = some (Obj.cells cur ty (0, 0))) {i j : Nat} (h : i ≠ j) (v : Value) : (W.setCell ⟨g, j, none⟩ v).cell? ⟨g, i, none⟩ = W.cell? ⟨g, i, none⟩ := by
  simp only [World.cell?, cells_set j _ hc, hc]
  simp [Ne.symm h]
theorem cell_set_far {W : World} {g g' i j : Nat} {x : Value} (hx : W.cell? ⟨g', i, none⟩ = some x) (h : g' ≠ g) (v : Value) : (W.setCell ⟨g, j, none⟩ v).cell? ⟨g', i, none⟩ = some x := by
  have e := (grown_set W g j v).block g' (lt_of_cell hx) (fun e => h (by cases e; rfl))
  simp only [World.cell?, e] at hx ⊢
  exact hx
theorem heap_set_far {W : World} {g g' j : Nat} {x : Obj} (hx : W.heap[g']? = some x) (h : g' ≠ g) (v : Value) : (W.setCell ⟨g, j, none⟩ v).heap[g']? = some x :=
  ((grown_set W g j v).block g' (lt_of_some hx) (fun e => h (by cases e; rfl))).trans hx
/-- One byte written. -/
theorem Wr.put {W : World} {la base len : Nat} {k p : Nat → Int} {Y Y' : Nat → Nat → Int} {g o c : Nat → Nat} {last : Int} (h : Wr W la base len k p Y g o c last) {t j : Nat} (ht : t < len) (hl : last = (t : Int)) (hj : j < 4096) (y : Int) (hY : ∀ t' j', t' < len → j' < 4096 → Y' t' j' = if t' = t ∧ j' = j then y else Y t' j') : Wr (W.setCell ⟨g t, j, none⟩ (.int .u8 y)) la base len k p Y' g o c last := by
  obtain ⟨h1, h2, ⟨cur, h3⟩, h4⟩ := h.own t ht hl
  have n1 := h.ne t ht
  refine ⟨⟨fun i hi => cell_set_far (h.row.c0 i hi) (Ne.symm n1) _, fun i hi => cell_set_far (h.row.c1 i hi) (Ne.symm n1) _, fun i hi => cell_set_far (h.row.c2 i hi) (Ne.symm n1) _, fun i hi j' hj' => ?_⟩, ?_, h.ne, fun t' ht' e => ?_⟩
  · rw [hY i j' hi hj']
    have d := h.row.cs i hi j' hj'
    by_cases e : i = t
    · subst e
      rw [h2, Nat.zero_add] at d ⊢
      by_cases e2 : j' = j
      · subst e2
        rw [if_pos ⟨rfl, rfl⟩]
        exact World.cell?_setCell_same _ _ _ d
      · rw [if_neg (fun x => e2 x.2), cell_set_ne h3 e2]
        exact d
    · rw [if_neg (fun x => e x.1)]
      exact cell_set_far d (h4 i hi e) _
  · obtain ⟨cu, hc⟩ := h.blk
    exact ⟨cu, heap_set_far hc (Ne.symm n1) _⟩
  · obtain rfl : t' = t := by omega
    exact ⟨h1, h2, ⟨_, cells_set j _ h3⟩, h4⟩
def upd (f : Nat → Nat) (t x : Nat) : Nat → Nat := fun i => if i = t then x else f i
/-- A page whose bytes are now its own. -/
theorem Wr.page {W W1 : World} {la base len : Nat} {k p : Nat → Int} {Y : Nat → Nat → Int} {g o c : Nat → Nat} {last : Int} (h : Wr W la base len k p Y g o c last) (hB : Below W.heap.size W W1) {t gn cap : Nat} (ht : t < len) (hbase : base ≤ W.heap.size) (hg : W.heap.size ≤ gn) {cur : Array Value} (hcur : W1.heap[gn]? = some (Obj.cells cur 5 (0, 0))) (hd : ∀ j, j < 4096 → W1.cell? ⟨gn, j, none⟩ = some (.int .u8 (Y t j))) :
    Wr (((W1.setCell ⟨la, t * 3, none⟩ (.int .u64 (k t))).setCell ⟨la, t * 3 + 1, none⟩ (.int .i64 (p t))).setCell ⟨la, t * 3 + 2, none⟩ (.slice (some ⟨gn, 0, none⟩) 4096 cap)) la base len k p Y (upd g t gn) (upd o t 0) (upd c t cap) t := by
  obtain ⟨cl, hcl⟩ := h.blk
  have ll := lt_of_some hcl
  have hcl1 := (hB.block la ll).trans hcl
  have hcl2 := cells_set (t * 3) (.int .u64 (k t)) hcl1
  have hcl3 := cells_set (t * 3 + 1) (.int .i64 (p t)) hcl2
  have hcl4 := cells_set (t * 3 + 2) (.slice (some ⟨gn, 0, none⟩) 4096 cap) hcl3
  have keepC : ∀ (b i : Nat) (x : Value), b ≠ la → W1.cell? ⟨b, i, none⟩ = some x → (((W1.setCell ⟨la, t * 3, none⟩ (.int .u64 (k t))).setCell ⟨la, t * 3 + 1, none⟩ (.int .i64 (p t))).setCell ⟨la, t * 3 + 2, none⟩ (.slice (some ⟨gn, 0, none⟩) 4096 cap)).cell? ⟨b, i, none⟩ = some x := fun b i x hb hx => cell_set_far (cell_set_far (cell_set_far hx hb _) hb _) hb _
  have keepL : ∀ (i : Nat), i ≠ t * 3 → i ≠ t * 3 + 1 → i ≠ t * 3 + 2 → (((W1.setCell ⟨la, t * 3, none⟩ (.int .u64 (k t))).setCell ⟨la, t * 3 + 1, none⟩ (.int .i64 (p t))).setCell ⟨la, t * 3 + 2, none⟩ (.slice (some ⟨gn, 0, none⟩) 4096 cap)).cell? ⟨la, i, none⟩ = W.cell? ⟨la, i, none⟩ := fun i h0 h1 h2 => by
    rw [cell_set_ne hcl3 h2, cell_set_ne hcl2 h1, cell_set_ne hcl1 h0, hB.cell (p := ⟨la, i, none⟩) ll]
  have e0 : W1.cell? ⟨la, t * 3, none⟩ = some (.int .u64 (k t)) := by have := h.row.c0 t ht; rw [Nat.zero_add] at this; exact (hB.cell (p := ⟨la, t * 3, none⟩) ll).trans this
  have e1 : W1.cell? ⟨la, t * 3 + 1, none⟩ = some (.int .i64 (p t)) := by have := h.row.c1 t ht; rw [Nat.zero_add] at this; exact (hB.cell (p := ⟨la, t * 3 + 1, none⟩) ll).trans this
  have e2 : W1.cell? ⟨la, t * 3 + 2, none⟩ = some (.slice (some ⟨g t, o t, none⟩) 4096 (c t)) := by have := h.row.c2 t ht; rw [Nat.zero_add] at this; exact (hB.cell (p := ⟨la, t * 3 + 2, none⟩) ll).trans this
  have ngl : gn ≠ la := by omega
  refine ⟨⟨fun i hi => ?_, fun i hi => ?_, fun i hi => ?_, fun i hi j hj => ?_⟩, ⟨_, hcl4⟩, fun i hi => ?_, fun t' ht' e => ?_⟩
  · rw [Nat.zero_add]
    by_cases e : i = t
    · subst e
      rw [cell_set_ne hcl3 (by omega), cell_set_ne hcl2 (by omega)]
      exact World.cell?_setCell_same _ _ _ e0
    · rw [keepL _ (by omega) (by omega) (by omega)]
      have := h.row.c0 i hi; rw [Nat.zero_add] at this; exact this
  · rw [Nat.zero_add]
    by_cases e : i = t
    · subst e
      rw [cell_set_ne hcl3 (by omega)]
      exact World.cell?_setCell_same _ _ _ ((cell_set_ne hcl1 (by omega) _).trans e1)
    · rw [keepL _ (by omega) (by omega) (by omega)]
      have := h.row.c1 i hi; rw [Nat.zero_add] at this; exact this
  · rw [Nat.zero_add]
    by_cases e : i = t
    · subst e
      simp only [upd, if_true]
      exact World.cell?_setCell_same _ _ _ ((cell_set_ne hcl2 (by omega) _).trans ((cell_set_ne hcl1 (by omega) _).trans e2))
    · rw [keepL _ (by omega) (by omega) (by omega)]
      simp only [upd, if_neg e]
      have := h.row.c2 i hi; rw [Nat.zero_add] at this; exact this
  · by_cases e : i = t
    · subst e
      simp only [upd, if_true, Nat.zero_add]
      exact keepC _ _ _ ngl (hd j hj)
    · simp only [upd, if_neg e]
      have d := h.row.cs i hi j hj
      exact keepC _ _ _ (h.ne i hi) ((hB.cell (p := ⟨g i, o i + j, none⟩) (lt_of_cell d)).trans d)
  · unfold upd
    split
    · exact ngl
    · exact h.ne i hi
  · obtain rfl : t' = t := by omega
    refine ⟨by simp only [upd, if_true]; omega, by simp [upd], ⟨cur, ?_⟩, fun i hi hne => ?_⟩
    · simp only [upd, if_true]
      exact heap_set_far (heap_set_far (heap_set_far hcur ngl _) ngl _) ngl _
    · simp only [upd, if_neg hne, if_true]
      have d := h.row.cs i hi 0 (by omega)
      have := lt_of_cell d
      omega
/-- The bytes behind i of those that are written. -/
def Yw (k : Nat → Int) (Y : Nat → Nat → Int) (a : Int) (B : Nat → Int) (i : Nat) : Nat → Nat → Int := fun t j => if a ≤ k t + j ∧ k t + j < a + i then B (k t + j - a).toNat else Y t j
theorem Yw_zero (k : Nat → Int) (Y : Nat → Nat → Int) (a : Int) (B : Nat → Int) : Yw k Y a B 0 = Y := by
  funext t j
  unfold Yw
  rw [if_neg (by omega)]
theorem Yw_succ {k : Nat → Int} {Y : Nat → Nat → Int} {a : Int} {B : Nat → Int} {i len t j : Nat} (hk : ∀ t, t < len → k t % 4096 = 0) (hinj : ∀ t t', t < len → t' < len → k t = k t' → t = t') (ht : t < len) (hj : j < 4096) (e : k t + j = a + i) : ∀ t' j', t' < len → j' < 4096 → Yw k Y a B (i + 1) t' j' = if t' = t ∧ j' = j then B i else Yw k Y a B i t' j' := by
  intro t' j' ht' hj'
  have m1 := hk t ht
  have m2 := hk t' ht'
  unfold Yw
  by_cases h : t' = t ∧ j' = j
  · obtain ⟨rfl, rfl⟩ := h
    rw [if_pos (by omega), if_pos ⟨rfl, rfl⟩]
    congr 1
    omega
  · rw [if_neg h]
    have hne : k t' + j' ≠ a + i := by
      intro x
      have : k t' = k t := by omega
      exact h ⟨hinj t' t ht' ht this, by omega⟩
    by_cases q : a ≤ k t' + j' ∧ k t' + j' < a + i
    · rw [if_pos (by omega), if_pos q]
    · rw [if_neg (by omega), if_neg q]
theorem Yw_small {k : Nat → Int} {Y : Nat → Nat → Int} {a : Int} {B : Nat → Int} (hY : ∀ i j, 0 ≤ Y i j ∧ Y i j < 256) (hB : ∀ j, 0 ≤ B j ∧ B j < 256) (i : Nat) : ∀ t j, 0 ≤ Yw k Y a B i t j ∧ Yw k Y a B i t j < 256 := by
  intro t j
  unfold Yw
  split
  · exact hB _
  · exact hY _ _
set_option maxHeartbeats 1000000 in
theorem rstore_odd (v : Value) (a n u : Int) (w : World) (hn : ¬ (n = 1 ∨ n = 2 ∨ n = 4 ∨ n = 8)) : Calls Try.prog 18 #[v, .int .u64 a, .int .i64 n, .int .u64 u] w fun e w' => e = .returned (.tuple #[v, .int .i64 1]) ∧ w' = w := by
  have h1 : (n != 1) = true := by simp; omega
  have h2 : (n != 2) = true := by simp; omega
  have h4 : (n != 4) = true := by simp; omega
  have h8 : (n != 8) = true := by simp; omega
  go_enter Try.func18, Try.ntmps18
  go_wp2
  go_ret2
  exact ⟨rfl, rfl⟩
set_option maxRecDepth 20000 in
set_option maxHeartbeats 1000000 in
theorem rstore_err (v : Value) (a u x : Int) (n : Nat) (w : World) (hn : isN n) (hx : ¬ x = 0) (h : Calls Try.prog 32 #[v, .int .u64 a, .int .i64 n, .int .i64 2] w fun e w' => e = .returned (.int .i64 x) ∧ w' = w) : Calls Try.prog 18 #[v, .int .u64 a, .int .i64 n, .int .u64 u] w fun e w' => e = .returned (.tuple #[v, .int .i64 x]) ∧ w' = w := by
  have H : Hid (Calls Try.prog 32 #[v, .int .u64 a, .int .i64 n, .int .i64 2] w fun e w' => e = .returned (.int .i64 x) ∧ w' = w) := h
  have hxb : (x != 0) = true := by simpa using hx
  clear h
  rcases hn with rfl | rfl | rfl | rfl <;>
  · go_enter Try.func18, Try.ntmps18
    go_wp2_with fail
    refine H.out.mono ?_
    rintro e w1 ⟨rfl, e1⟩
    have e1' := e1.symm
    subst e1'
    go_wp2
    go_ret2
    exact ⟨rfl, rfl⟩
theorem one_row {W : World} {x : Value} {j : Nat} {q : Value} (hj : [x][j]? = some q) : (W.alloc (.cells #[x] 5)).cell? ((⟨W.heap.size, 0, none⟩ : Addr).add j) = some q := by
  rcases j with _ | j
  · simp at hj
    subst hj
    simp [Addr.add_lit]
  · simp at hj
def bytV (u : Int) (j : Nat) : Int := u / 256 ^ j % 256
set_option maxRecDepth 20000 in
set_option maxHeartbeats 4000000 in
theorem rstore_ok (v : Value) (a u : Int) (n : Nat) (w : World) (R : Value → World → Prop) (hn : isN n) (u0 : 0 ≤ u) (u1 : u < 18446744073709551616) (h : Calls Try.prog 32 #[v, .int .u64 a, .int .i64 n, .int .i64 2] w fun e w' => e = .returned (.int .i64 0) ∧ w' = w)
    (hw : ∀ bb bcap W, Below w.heap.size w W → (∀ j, j < n → W.cell? ⟨bb, 0 + j, none⟩ = some (.int .u8 (bytV u j))) → Calls Try.prog 38 #[v, .int .u64 a, .slice (some ⟨bb, 0, none⟩) n bcap] W fun e w' => ∃ x, e = .returned x ∧ R x w') :
    Calls Try.prog 18 #[v, .int .u64 a, .int .i64 n, .int .u64 u] w fun e w' => ∃ x, e = .returned (.tuple #[x, .int .i64 0]) ∧ R x w' := by
  obtain ⟨i5, hi5, hy0, hy1, hy2⟩ := info_parts info5
  have H : Hid (Calls Try.prog 32 #[v, .int .u64 a, .int .i64 n, .int .i64 2] w fun e w' => e = .returned (.int .i64 0) ∧ w' = w) := h
  have HW : Hid (∀ bb bcap W, Below w.heap.size w W → (∀ j, j < n → W.cell? ⟨bb, 0 + j, none⟩ = some (.int .u8 (bytV u j))) → Calls Try.prog 38 #[v, .int .u64 a, .slice (some ⟨bb, 0, none⟩) n bcap] W fun e w' => ∃ x, e = .returned x ∧ R x w') := hw
  have n1 : 1 ≤ n ∧ n ≤ 8 := by unfold isN at hn; omega
  obtain ⟨n0, n1⟩ := n1
  have AN : Hid (Try.prog.info? 5 = some i5 ∧ i5.zero = some (.int .u8 0) ∧ i5.size = 1 ∧ i5.bytes = 1) := ⟨hi5, hy0, hy1, hy2⟩
  clear h hw hi5 hy0 hy1 hy2
  rcases hn with hn | hn | hn | hn
  · have b1 : ((n : Int) != 1) = false := by rw [hn]; rfl
    have b2 : ((n : Int) != 2) = true := by rw [hn]; rfl
    have b4 : ((n : Int) != 4) = true := by rw [hn]; rfl
    have b8 : ((n : Int) != 8) = true := by rw [hn]; rfl
    clear hn
    go_enter Try.func18, Try.ntmps18
    go_wp2_with fail
    refine H.out.mono ?_
    rintro e w1 ⟨rfl, e1⟩
    have e1' := e1.symm
    subst e1'
    go_wp2
    go_loopw [3, 11, 12] (fun x y z wr => ∃ (i : Nat) (vx : Int) (vb : Value), i ≤ n ∧ x = .int .u64 vx ∧ vx = u / 256 ^ i ∧ y = vb ∧ z = .int .i64 i ∧ wr.ownsRow w.heap.size 5 1 vb i (rowOf (bytV u) i) ∧ Below w.heap.size w wr) (fun _ _ z _ => n - (intOf z).toNat)
    case atStart => exact ⟨0, u, _, Nat.zero_le _, rfl, by simp, rfl, rfl, World.ownsRow_nil _ _ _ _, Below.refl _ _⟩
    case round =>
      obtain ⟨i, vx, vb, hi, rfl, hvx, hvb, rfl, ho, hb⟩ := hrel
      have hvb' := hvb.symm
      subst hvb'
      have HO : Hid (wr.ownsRow w.heap.size 5 1 vb i (rowOf (bytV u) i)) := ho
      have HB : Hid (Below w.heap.size w wr) := hb
      have HX : Hid (vx = u / 256 ^ i) := hvx
      have hx0 : 0 ≤ vx := by rw [hvx]; exact Int.ediv_nonneg u0 (Int.pow_nonneg (by decide))
      have hx1 : vx < 18446744073709551616 := by rw [hvx]; exact Int.lt_of_le_of_lt (Int.ediv_le_self _ u0) u1
      clear ho hb hvx
      by_cases hlt : i < n
      · go_wp2_with (at_builtin; refine wpList_append_own _ rfl _ _ 48 rfl w.heap.size 5 i5 (.int .u8 0) 1 1 Try.underlying48 AN.out.1 AN.out.2.1 AN.out.2.2.1 AN.out.2.2.2 rfl (by decide) _ _ _ rfl (HO.out.alloc _) ⟨wr.heap.size, 0, none⟩ 1 1 [.int .u8 (vx % 256)] rfl (by rfl) (by intro j q hj; exact one_row hj) (by intro q hq; simp at hq; subst hq; rfl) (by unfold maxLen; omega) (by omega) (by have := HB.out.size; simp; omega) ?_)
        intro v' w3 hown hgrow hnil
        have HB3 : Hid (Below w.heap.size w w3) := by
          refine ((HB.out.alloc HB.out.size _).grown hgrow (by have := HB.out.size; simp; omega) (fun k hk => ?_) : Below w.heap.size w w3)
          rcases HO.out.2 with ⟨rfl, _⟩ | ⟨g, cap, cur, rfl, hg, _⟩
          · cases hk
          · cases hk; exact hg
        have HO3 : Hid (w3.ownsRow w.heap.size 5 1 v' (i + 1) (rowOf (bytV u) (i + 1))) := by
          have e : rowOf (bytV u) (i + 1) = rowOf (bytV u) i ++ [.int .u8 (vx % 256)] := by rw [HX.out]; simp [rowOf, List.range_succ, bytV]
          rw [e]; exact hown
        have HXs : Hid (vx / 256 = u / 256 ^ (i + 1)) := (by rw [HX.out, Int.pow_succ, Int.ediv_ediv_of_nonneg (Int.pow_nonneg (by decide))] : vx / 256 = u / 256 ^ (i + 1))
        clear hown hgrow hnil HO HB
        go_wp2
        go_roundw
        case rel => exact ⟨i + 1, vx / 256, _, by omega, by go_num, HXs.out, rfl, by go_num, HO3.out, HB3.out⟩
        case measure => simp [intOf]; omega
      · obtain rfl : i = n := by omega
        rcases HO.out.2 with ⟨_, h0⟩ | ⟨g, cap, cur, rfl, hg, hh, hnc, _, hcs, htk⟩
        · omega
        have HC : Hid (Calls Try.prog 38 #[v, .int .u64 a, .slice (some ⟨g, 0, none⟩) i cap] wr fun e w' => ∃ x, e = .returned x ∧ R x w') := HW.out g cap wr HB.out (fun j hj => by
          have e : (cur.toList.take (i * 1))[j]? = some (Value.int .u8 (bytV u j)) := by rw [htk]; exact rowOf_at hj
          rw [List.getElem?_take_of_lt (by omega)] at e
          simp only [World.cell?, hh, Nat.zero_add]
          simpa using e)
        clear hg hh hnc hcs htk HO
        go_wp2_with fail
        refine HC.out.mono ?_
        rintro e w4 ⟨x, rfl, hx⟩
        have HRx : Hid (R x w4) := hx
        clear hx
        go_wp2
        go_ret2
        exact ⟨x, rfl, HRx.out⟩
  · have b1 : ((n : Int) != 1) = true := by rw [hn]; rfl
    have b2 : ((n : Int) != 2) = false := by rw [hn]; rfl
    have b4 : ((n : Int) != 4) = true := by rw [hn]; rfl
    have b8 : ((n : Int) != 8) = true := by rw [hn]; rfl
    clear hn
    go_enter Try.func18, Try.ntmps18
    go_wp2_with fail
    refine H.out.mono ?_
    rintro e w1 ⟨rfl, e1⟩
    have e1' := e1.symm
    subst e1'
    go_wp2
    go_loopw [3, 11, 12] (fun x y z wr => ∃ (i : Nat) (vx : Int) (vb : Value), i ≤ n ∧ x = .int .u64 vx ∧ vx = u / 256 ^ i ∧ y = vb ∧ z = .int .i64 i ∧ wr.ownsRow w.heap.size 5 1 vb i (rowOf (bytV u) i) ∧ Below w.heap.size w wr) (fun _ _ z _ => n - (intOf z).toNat)
    case atStart => exact ⟨0, u, _, Nat.zero_le _, rfl, by simp, rfl, rfl, World.ownsRow_nil _ _ _ _, Below.refl _ _⟩
    case round =>
      obtain ⟨i, vx, vb, hi, rfl, hvx, hvb, rfl, ho, hb⟩ := hrel
      have hvb' := hvb.symm
      subst hvb'
      have HO : Hid (wr.ownsRow w.heap.size 5 1 vb i (rowOf (bytV u) i)) := ho
      have HB : Hid (Below w.heap.size w wr) := hb
      have HX : Hid (vx = u / 256 ^ i) := hvx
      have hx0 : 0 ≤ vx := by rw [hvx]; exact Int.ediv_nonneg u0 (Int.pow_nonneg (by decide))
      have hx1 : vx < 18446744073709551616 := by rw [hvx]; exact Int.lt_of_le_of_lt (Int.ediv_le_self _ u0) u1
      clear ho hb hvx
      by_cases hlt : i < n
      · go_wp2_with (at_builtin; refine wpList_append_own _ rfl _ _ 48 rfl w.heap.size 5 i5 (.int .u8 0) 1 1 Try.underlying48 AN.out.1 AN.out.2.1 AN.out.2.2.1 AN.out.2.2.2 rfl (by decide) _ _ _ rfl (HO.out.alloc _) ⟨wr.heap.size, 0, none⟩ 1 1 [.int .u8 (vx % 256)] rfl (by rfl) (by intro j q hj; exact one_row hj) (by intro q hq; simp at hq; subst hq; rfl) (by unfold maxLen; omega) (by omega) (by have := HB.out.size; simp; omega) ?_)
        intro v' w3 hown hgrow hnil
        have HB3 : Hid (Below w.heap.size w w3) := by
          refine ((HB.out.alloc HB.out.size _).grown hgrow (by have := HB.out.size; simp; omega) (fun k hk => ?_) : Below w.heap.size w w3)
          rcases HO.out.2 with ⟨rfl, _⟩ | ⟨g, cap, cur, rfl, hg, _⟩
          · cases hk
          · cases hk; exact hg
        have HO3 : Hid (w3.ownsRow w.heap.size 5 1 v' (i + 1) (rowOf (bytV u) (i + 1))) := by
          have e : rowOf (bytV u) (i + 1) = rowOf (bytV u) i ++ [.int .u8 (vx % 256)] := by rw [HX.out]; simp [rowOf, List.range_succ, bytV]
          rw [e]; exact hown
        have HXs : Hid (vx / 256 = u / 256 ^ (i + 1)) := (by rw [HX.out, Int.pow_succ, Int.ediv_ediv_of_nonneg (Int.pow_nonneg (by decide))] : vx / 256 = u / 256 ^ (i + 1))
        clear hown hgrow hnil HO HB
        go_wp2
        go_roundw
        case rel => exact ⟨i + 1, vx / 256, _, by omega, by go_num, HXs.out, rfl, by go_num, HO3.out, HB3.out⟩
        case measure => simp [intOf]; omega
      · obtain rfl : i = n := by omega
        rcases HO.out.2 with ⟨_, h0⟩ | ⟨g, cap, cur, rfl, hg, hh, hnc, _, hcs, htk⟩
        · omega
        have HC : Hid (Calls Try.prog 38 #[v, .int .u64 a, .slice (some ⟨g, 0, none⟩) i cap] wr fun e w' => ∃ x, e = .returned x ∧ R x w') := HW.out g cap wr HB.out (fun j hj => by
          have e : (cur.toList.take (i * 1))[j]? = some (Value.int .u8 (bytV u j)) := by rw [htk]; exact rowOf_at hj
          rw [List.getElem?_take_of_lt (by omega)] at e
          simp only [World.cell?, hh, Nat.zero_add]
          simpa using e)
        clear hg hh hnc hcs htk HO
        go_wp2_with fail
        refine HC.out.mono ?_
        rintro e w4 ⟨x, rfl, hx⟩
        have HRx : Hid (R x w4) := hx
        clear hx
        go_wp2
        go_ret2
        exact ⟨x, rfl, HRx.out⟩
  · have b1 : ((n : Int) != 1) = true := by rw [hn]; rfl
    have b2 : ((n : Int) != 2) = true := by rw [hn]; rfl
    have b4 : ((n : Int) != 4) = false := by rw [hn]; rfl
    have b8 : ((n : Int) != 8) = true := by rw [hn]; rfl
    clear hn
    go_enter Try.func18, Try.ntmps18
    go_wp2_with fail
    refine H.out.mono ?_
    rintro e w1 ⟨rfl, e1⟩
    have e1' := e1.symm
    subst e1'
    go_wp2
    go_loopw [3, 11, 12] (fun x y z wr => ∃ (i : Nat) (vx : Int) (vb : Value), i ≤ n ∧ x = .int .u64 vx ∧ vx = u / 256 ^ i ∧ y = vb ∧ z = .int .i64 i ∧ wr.ownsRow w.heap.size 5 1 vb i (rowOf (bytV u) i) ∧ Below w.heap.size w wr) (fun _ _ z _ => n - (intOf z).toNat)
    case atStart => exact ⟨0, u, _, Nat.zero_le _, rfl, by simp, rfl, rfl, World.ownsRow_nil _ _ _ _, Below.refl _ _⟩
    case round =>
      obtain ⟨i, vx, vb, hi, rfl, hvx, hvb, rfl, ho, hb⟩ := hrel
      have hvb' := hvb.symm
      subst hvb'
      have HO : Hid (wr.ownsRow w.heap.size 5 1 vb i (rowOf (bytV u) i)) := ho
      have HB : Hid (Below w.heap.size w wr) := hb
      have HX : Hid (vx = u / 256 ^ i) := hvx
      have hx0 : 0 ≤ vx := by rw [hvx]; exact Int.ediv_nonneg u0 (Int.pow_nonneg (by decide))
      have hx1 : vx < 18446744073709551616 := by rw [hvx]; exact Int.lt_of_le_of_lt (Int.ediv_le_self _ u0) u1
      clear ho hb hvx
      by_cases hlt : i < n
      · go_wp2_with (at_builtin; refine wpList_append_own _ rfl _ _ 48 rfl w.heap.size 5 i5 (.int .u8 0) 1 1 Try.underlying48 AN.out.1 AN.out.2.1 AN.out.2.2.1 AN.out.2.2.2 rfl (by decide) _ _ _ rfl (HO.out.alloc _) ⟨wr.heap.size, 0, none⟩ 1 1 [.int .u8 (vx % 256)] rfl (by rfl) (by intro j q hj; exact one_row hj) (by intro q hq; simp at hq; subst hq; rfl) (by unfold maxLen; omega) (by omega) (by have := HB.out.size; simp; omega) ?_)
        intro v' w3 hown hgrow hnil
        have HB3 : Hid (Below w.heap.size w w3) := by
          refine ((HB.out.alloc HB.out.size _).grown hgrow (by have := HB.out.size; simp; omega) (fun k hk => ?_) : Below w.heap.size w w3)
          rcases HO.out.2 with ⟨rfl, _⟩ | ⟨g, cap, cur, rfl, hg, _⟩
          · cases hk
          · cases hk; exact hg
        have HO3 : Hid (w3.ownsRow w.heap.size 5 1 v' (i + 1) (rowOf (bytV u) (i + 1))) := by
          have e : rowOf (bytV u) (i + 1) = rowOf (bytV u) i ++ [.int .u8 (vx % 256)] := by rw [HX.out]; simp [rowOf, List.range_succ, bytV]
          rw [e]; exact hown
        have HXs : Hid (vx / 256 = u / 256 ^ (i + 1)) := (by rw [HX.out, Int.pow_succ, Int.ediv_ediv_of_nonneg (Int.pow_nonneg (by decide))] : vx / 256 = u / 256 ^ (i + 1))
        clear hown hgrow hnil HO HB
        go_wp2
        go_roundw
        case rel => exact ⟨i + 1, vx / 256, _, by omega, by go_num, HXs.out, rfl, by go_num, HO3.out, HB3.out⟩
        case measure => simp [intOf]; omega
      · obtain rfl : i = n := by omega
        rcases HO.out.2 with ⟨_, h0⟩ | ⟨g, cap, cur, rfl, hg, hh, hnc, _, hcs, htk⟩
        · omega
        have HC : Hid (Calls Try.prog 38 #[v, .int .u64 a, .slice (some ⟨g, 0, none⟩) i cap] wr fun e w' => ∃ x, e = .returned x ∧ R x w') := HW.out g cap wr HB.out (fun j hj => by
          have e : (cur.toList.take (i * 1))[j]? = some (Value.int .u8 (bytV u j)) := by rw [htk]; exact rowOf_at hj
          rw [List.getElem?_take_of_lt (by omega)] at e
          simp only [World.cell?, hh, Nat.zero_add]
          simpa using e)
        clear hg hh hnc hcs htk HO
        go_wp2_with fail
        refine HC.out.mono ?_
        rintro e w4 ⟨x, rfl, hx⟩
        have HRx : Hid (R x w4) := hx
        clear hx
        go_wp2
        go_ret2
        exact ⟨x, rfl, HRx.out⟩
  · have b1 : ((n : Int) != 1) = true := by rw [hn]; rfl
    have b2 : ((n : Int) != 2) = true := by rw [hn]; rfl
    have b4 : ((n : Int) != 4) = true := by rw [hn]; rfl
    have b8 : ((n : Int) != 8) = false := by rw [hn]; rfl
    clear hn
    go_enter Try.func18, Try.ntmps18
    go_wp2_with fail
    refine H.out.mono ?_
    rintro e w1 ⟨rfl, e1⟩
    have e1' := e1.symm
    subst e1'
    go_wp2
    go_loopw [3, 11, 12] (fun x y z wr => ∃ (i : Nat) (vx : Int) (vb : Value), i ≤ n ∧ x = .int .u64 vx ∧ vx = u / 256 ^ i ∧ y = vb ∧ z = .int .i64 i ∧ wr.ownsRow w.heap.size 5 1 vb i (rowOf (bytV u) i) ∧ Below w.heap.size w wr) (fun _ _ z _ => n - (intOf z).toNat)
    case atStart => exact ⟨0, u, _, Nat.zero_le _, rfl, by simp, rfl, rfl, World.ownsRow_nil _ _ _ _, Below.refl _ _⟩
    case round =>
      obtain ⟨i, vx, vb, hi, rfl, hvx, hvb, rfl, ho, hb⟩ := hrel
      have hvb' := hvb.symm
      subst hvb'
      have HO : Hid (wr.ownsRow w.heap.size 5 1 vb i (rowOf (bytV u) i)) := ho
      have HB : Hid (Below w.heap.size w wr) := hb
      have HX : Hid (vx = u / 256 ^ i) := hvx
      have hx0 : 0 ≤ vx := by rw [hvx]; exact Int.ediv_nonneg u0 (Int.pow_nonneg (by decide))
      have hx1 : vx < 18446744073709551616 := by rw [hvx]; exact Int.lt_of_le_of_lt (Int.ediv_le_self _ u0) u1
      clear ho hb hvx
      by_cases hlt : i < n
      · go_wp2_with (at_builtin; refine wpList_append_own _ rfl _ _ 48 rfl w.heap.size 5 i5 (.int .u8 0) 1 1 Try.underlying48 AN.out.1 AN.out.2.1 AN.out.2.2.1 AN.out.2.2.2 rfl (by decide) _ _ _ rfl (HO.out.alloc _) ⟨wr.heap.size, 0, none⟩ 1 1 [.int .u8 (vx % 256)] rfl (by rfl) (by intro j q hj; exact one_row hj) (by intro q hq; simp at hq; subst hq; rfl) (by unfold maxLen; omega) (by omega) (by have := HB.out.size; simp; omega) ?_)
        intro v' w3 hown hgrow hnil
        have HB3 : Hid (Below w.heap.size w w3) := by
          refine ((HB.out.alloc HB.out.size _).grown hgrow (by have := HB.out.size; simp; omega) (fun k hk => ?_) : Below w.heap.size w w3)
          rcases HO.out.2 with ⟨rfl, _⟩ | ⟨g, cap, cur, rfl, hg, _⟩
          · cases hk
          · cases hk; exact hg
        have HO3 : Hid (w3.ownsRow w.heap.size 5 1 v' (i + 1) (rowOf (bytV u) (i + 1))) := by
          have e : rowOf (bytV u) (i + 1) = rowOf (bytV u) i ++ [.int .u8 (vx % 256)] := by rw [HX.out]; simp [rowOf, List.range_succ, bytV]
          rw [e]; exact hown
        have HXs : Hid (vx / 256 = u / 256 ^ (i + 1)) := (by rw [HX.out, Int.pow_succ, Int.ediv_ediv_of_nonneg (Int.pow_nonneg (by decide))] : vx / 256 = u / 256 ^ (i + 1))
        clear hown hgrow hnil HO HB
        go_wp2
        go_roundw
        case rel => exact ⟨i + 1, vx / 256, _, by omega, by go_num, HXs.out, rfl, by go_num, HO3.out, HB3.out⟩
        case measure => simp [intOf]; omega
      · obtain rfl : i = n := by omega
        rcases HO.out.2 with ⟨_, h0⟩ | ⟨g, cap, cur, rfl, hg, hh, hnc, _, hcs, htk⟩
        · omega
        have HC : Hid (Calls Try.prog 38 #[v, .int .u64 a, .slice (some ⟨g, 0, none⟩) i cap] wr fun e w' => ∃ x, e = .returned x ∧ R x w') := HW.out g cap wr HB.out (fun j hj => by
          have e : (cur.toList.take (i * 1))[j]? = some (Value.int .u8 (bytV u j)) := by rw [htk]; exact rowOf_at hj
          rw [List.getElem?_take_of_lt (by omega)] at e
          simp only [World.cell?, hh, Nat.zero_add]
          simpa using e)
        clear hg hh hnc hcs htk HO
        go_wp2_with fail
        refine HC.out.mono ?_
        rintro e w4 ⟨x, rfl, hx⟩
        have HRx : Hid (R x w4) := hx
        clear hx
        go_wp2
        go_ret2
        exact ⟨x, rfl, HRx.out⟩
end Go.Proofs.Ytndbkkldfinggab
