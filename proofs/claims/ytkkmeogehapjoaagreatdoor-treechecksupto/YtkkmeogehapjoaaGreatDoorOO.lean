/- What the rows list of the library's tables; a world for the witness. Nodes as they come in: what a reading of them says of memory. Trees of a bounded bulk, as they come in. -/
import Derived.Test.YtkkmeogehapjoaaGreatDoorCards
import Derived.Test.YtkkmeogehapjoaaGreatDoorTie
import Derived.Test.YtkkmeogehapjoaaGreatDoorTA
import Derived.ProofKit
import Derived.OpenShut
import Derived.Deep.DeepHandedRow
import Derived.Deep.DeepWitnessRowRef
import Derived.Deep.DeepLaidRun
import Derived.LaidMore
import Derived.Lib.LaidTab
import Derived.Lib.LaidU8
import Derived.Lib.SmallJoins
import Derived.Test.YtkkmeogehapjoaaGreatDoorSA
import Derived.SizedLaws
import Derived.Deep.Slices
import Derived.Deep.Strs
namespace Go.Proofs.YtkkmeogehapjoaaGreatDoor
section
open Go.ChangeShapes Go.WideShapes Go.ChangeAt Go.RowKit Go.Deep Go.Joins
theorem own : ownKnob Tryz.prog.godebug = none := by kernel_rfl
/-- What every row lists. -/
def laidL : List (String × DataW Unit) := [("math/bits.deBruijn32tab", Rows.laid_math_bits_deBruijn32tab), ("math/bits.deBruijn64tab", Rows.laid_math_bits_deBruijn64tab), ("internal/strconv.uint64pow10", Rows.laid_internal_strconv_uint64pow10), ("unicode/utf8.acceptRanges", Rows.laid_unicode_utf8_acceptRanges), ("strconv.ErrRange", Rows.laid_strconv_ErrRange), ("strconv.ErrSyntax", Rows.laid_strconv_ErrSyntax), ("unicode/utf8.first", Rows.laid_unicode_utf8_first)]
theorem laid_plain {W : World} (h : laidMetH Tryz.prog laidL W) : laidMet Tryz.prog laidL W := h
theorem u8x : U8Extra Tryz.prog Tryz.lays260_ren := ⟨by kernel_rfl, by kernel_rfl, by kernel_rfl, by kernel_rfl, by kernel_rfl, by kernel_rfl, by kernel_rfl⟩
theorem first_eq : Rows.laid_unicode_utf8_first = Lib.firstData := by kernel_rfl
theorem accept_eq : (Rows.laid_unicode_utf8_acceptRanges : DataW Unit) = Lib.acceptData := by kernel_rfl
theorem pow_eq : (Rows.laid_internal_strconv_uint64pow10 : DataW Unit) = Lib.tabData .u64 Lib.pow10Tab := by kernel_rfl
theorem iface_of {W : World} {fuel : Nat} {t : TypeId} {ms : Array (String × TypeId)} {cs : List Value} {n : String} {d : DataW Unit} {p : List MemPlace} (ht : Tryz.prog.underlying t = some (.interface ms)) (h : DataW.trod (fun _ => ()) Tryz.prog W 0 (fun _ => true) false fuel t cs = some (.iface n d, p)) : ∃ u v, cs = [.iface u v] := by
  cases fuel with
  | zero => simp [DataW.trod] at h
  | succ m =>
    unfold DataW.trod at h
    rw [ht] at h
    split at h <;> simp_all
theorem tPow : (Tryz.prog.globals[0]?).map (·.type) = some 155 := by kernel_rfl
theorem cPow : Tryz.prog.cellsOf 155 = 20 := by kernel_rfl
theorem c74 : Tryz.prog.cellsOf 74 = 1 := by kernel_rfl
theorem err_cell {W : World} {n : String} {g : Nat} {m : String} {d : DataW Unit} (hg : Tryz.prog.globalNamed n = some g) (ht : (Tryz.prog.globals[g]?).map (·.type) = some 99) (h : Lib.VarReads Tryz.prog W n (.iface m d)) : ∃ te pe, W.cell? ⟨g, 0, none⟩ = some (.iface te pe) := by
  obtain ⟨g', t, cs, fuel, p, hg', ht', hv, hd⟩ := h
  obtain rfl := Option.some.inj (hg.symm.trans hg')
  obtain rfl := Option.some.inj (ht.symm.trans ht')
  obtain ⟨u, v, e⟩ := iface_of Tryz.underlying99 hd
  have := World.var?_cell hg hv 0
  rw [← Array.getElem?_toList, e] at this
  exact ⟨u, v, this⟩
theorem tbOf {W : World} (h : laidMetH Tryz.prog laidL W) : Tb W := by
  have hm := laid_plain h
  obtain ⟨t1, p1, e1⟩ := err_cell (g := 6) (by kernel_rfl) (by kernel_rfl) (Lib.laidMet.reads hm (n := "strconv.ErrSyntax") (d := Rows.laid_strconv_ErrSyntax) (by simp [laidL]))
  obtain ⟨t2, p2, e2⟩ := err_cell (g := 7) (by kernel_rfl) (by kernel_rfl) (Lib.laidMet.reads hm (n := "strconv.ErrRange") (d := Rows.laid_strconv_ErrRange) (by simp [laidL]))
  have u1 : Lib.VarReads Tryz.prog W "unicode/utf8.first" Lib.firstData := by
    rw [← first_eq]
    exact Lib.laidMet.reads hm (by simp [laidL])
  have u2 : Lib.VarReads Tryz.prog W "unicode/utf8.acceptRanges" Lib.acceptData := by
    rw [← accept_eq]
    exact Lib.laidMet.reads hm (by simp [laidL])
  have u3 : Lib.VarReads Tryz.prog W "internal/strconv.uint64pow10" (Lib.tabData .u64 Lib.pow10Tab) := by
    rw [← pow_eq]
    exact Lib.laidMet.reads hm (by simp [laidL])
  refine ⟨⟨t1, p1, e1⟩, ⟨t2, p2, e2⟩, utf8Tabs_of_reads Tryz.lays260 u8x u1 u2, ?_, World.block_lt_of_cell? _ _ e2⟩
  obtain ⟨g, t, cs, fuel, p, hg, ht, hv, hd⟩ := u3
  obtain rfl := Option.some.inj (gPow.symm.trans hg)
  obtain rfl := Option.some.inj (tPow.symm.trans ht)
  have hc := Lib.cells_of_tab Tryz.underlying155 Tryz.underlying74 c74 cPow hd
  unfold Lib.TabIs
  rw [hv, ← hc]
/-- A world for the witness: what the initialisers lay, and the great table. -/
noncomputable def laidWorld (os : Os) : World :=
  { World.doorLaid Tryz.prog 191 os with heap := (World.doorLaid Tryz.prog 191 os).heap.modify 4 fun
      | .cells _ t frozen => .cells (Lib.firstTab.map fun z => Value.int .u8 z).toArray t frozen
      | o => o }
theorem tmOf {W : World} (h : laidMetH Tryz.prog laidL W) (hs : W.ShapedOpen Tryz.prog) : Tm W := ⟨tbOf h, Tryz.laysM219.s1_3 W hs⟩
end
section
open Go.ChangeShapes Go.WideShapes Go.ChangeAt Go.RowKit Go.Deep Go.Joins Go.ChangeMaps
theorem cells9 : Tryz.prog.cellsOf 9 = 1 := by kernel_rfl
theorem cells3 : Tryz.prog.cellsOf 3 = 1 := by kernel_rfl
theorem cells2 : Tryz.prog.cellsOf 2 = 1 := by kernel_rfl
theorem cells42 : Tryz.prog.cellsOf 42 = 1 := by kernel_rfl
theorem cells24 : Tryz.prog.cellsOf 24 = 1 := by kernel_rfl
theorem cells22 : Tryz.prog.cellsOf 22 = 1 := by kernel_rfl
theorem i64_range {a : Int} (h : (Lit.int .i64 a).wf = true) : -9223372036854775808 ≤ a ∧ a ≤ 9223372036854775807 := by
  simp [Lit.wf, IntKind.min, IntKind.max, IntKind.signed, IntKind.bits] at h
  omega
theorem spot_none {W : World} {a : Addr} {v : Value} (h : W.cell? a = some v) : a = ⟨a.block, a.off, none⟩ := by
  obtain ⟨b, o, s⟩ := a
  cases s with
  | none => rfl
  | some x =>
    unfold World.cell? at h
    split at h
    · simp at h
    · cases h
theorem cells_one {W : World} {base : Nat} {A : Addr} {cs : List Value} (h : W.cells? base A 1 = some cs) : ∃ c0, cs = [c0] ∧ W.cell? A = some c0 := by
  unfold World.cells? at h
  split at h
  · simp only [List.range_succ, List.range_zero, List.nil_append, List.mapM_cons, List.mapM_nil, Option.pure_def, Option.bind_eq_bind] at h
    cases h0 : W.cell? (A.add 0) with
    | none => rw [h0] at h; simp at h
    | some c0 =>
      rw [h0] at h
      simp at h
      exact ⟨c0, h.symm, by simpa [Addr.add] using h0⟩
  · cases h
theorem cells_six {W : World} {base : Nat} {A : Addr} {cs : List Value} (h : W.cells? base A 6 = some cs) : ∃ c0 c1 c2 c3 c4 c5, cs = [c0, c1, c2, c3, c4, c5] ∧ W.cell? A = some c0 ∧ W.cell? (A.add 1) = some c1 ∧ W.cell? (A.add 2) = some c2 ∧ W.cell? (A.add 3) = some c3 ∧ W.cell? (A.add 4) = some c4 ∧ W.cell? (A.add 5) = some c5 := by
  unfold World.cells? at h
  split at h
  · simp only [List.range_succ, List.range_zero, List.nil_append, List.cons_append, List.mapM_cons, List.mapM_nil, Option.pure_def, Option.bind_eq_bind] at h
    cases h0 : W.cell? (A.add 0) with
    | none => rw [h0] at h; simp at h
    | some c0 =>
      cases h1 : W.cell? (A.add 1) with
      | none => rw [h0, h1] at h; simp at h
      | some c1 =>
        cases h2 : W.cell? (A.add 2) with
        | none => rw [h0, h1, h2] at h; simp at h
        | some c2 =>
          cases h3 : W.cell? (A.add 3) with
          | none => rw [h0, h1, h2, h3] at h; simp at h
          | some c3 =>
            cases h4 : W.cell? (A.add 4) with
            | none => rw [h0, h1, h2, h3, h4] at h; simp at h
            | some c4 =>
              cases h5 : W.cell? (A.add 5) with
              | none => rw [h0, h1, h2, h3, h4, h5] at h; simp at h
              | some c5 =>
                rw [h0, h1, h2, h3, h4, h5] at h
                simp at h
                exact ⟨c0, c1, c2, c3, c4, c5, h.symm, by simpa [Addr.add] using h0, rfl, rfl, rfl, rfl, rfl⟩
  · cases h
theorem wall_mem {H : Type} {P : Program} {e : TypeId} {d : DataW H} {n : Nat} (hn : n ∈ d.weights P e) : ∀ {ds : List (DataW H)}, d ∈ ds → n ∈ DataW.weightsAll P e ds
  | x :: r, h => by
    simp only [DataW.weightsAll, List.mem_append]
    rcases List.mem_cons.1 h with rfl | h
    · exact .inl hn
    · exact .inr (wall_mem hn h)
theorem bulk_pos {H : Type} (d : DataW H) : 1 ≤ Rows.uptoBulk d := by
  unfold Rows.uptoBulk
  split <;> omega
theorem bulk_mem {H : Type} {d : DataW H} : ∀ {ds : List (DataW H)}, d ∈ ds → Rows.uptoBulk d ≤ Rows.uptoBulkAll ds
  | x :: r, h => by
    unfold Rows.uptoBulkAll
    rcases List.mem_cons.1 h with rfl | h
    · omega
    · have := bulk_mem h
      omega
theorem bulk_len {H : Type} : ∀ (ds : List (DataW H)), ds.length ≤ Rows.uptoBulkAll ds
  | [] => Nat.zero_le _
  | x :: r => by
    unfold Rows.uptoBulkAll
    have := bulk_pos x
    have := bulk_len r
    simp only [List.length_cons]
    omega
/-- What a node's numbers are. -/
structure okR (x : Nd) : Prop where
  v0 : -9223372036854775808 ≤ x.v
  v1 : x.v ≤ 9223372036854775807
  ks : ∀ y ∈ x.ks, -9223372036854775808 ≤ y ∧ y ≤ 9223372036854775807
set_option maxRecDepth 100000 in
/-- A row of numbers. -/
theorem ints_open {H : Type} {enc : TypeId × Value → H} {W : World} {base : Nat} {spare : Nat → Bool} {held : Bool} {fuel : Nat} {c0 : Value} {x : DataW H × List MemPlace} (h : DataW.trod enc Tryz.prog W base spare held fuel 42 [c0] = some x) :
    ∃ (ao : Option Addr) (c : Nat) (l : List Int), c0 = .slice ao l.length c ∧ IsA W ao c l ∧ (∀ y ∈ l, -9223372036854775808 ≤ y ∧ y ≤ 9223372036854775807) ∧ l.length ≤ Rows.uptoBulk x.1 := by
  rcases open_slice Tryz.underlying42 h with ⟨e, _⟩ | ⟨a, len, cap, m, n', D, Pl, e, _, hlc, hcm, hm, hx, hel⟩
  · simp at e
    subst e
    exact ⟨none, 0, [], rfl, ⟨Nat.le_refl _, by omega, fun h => absurd h (by simp)⟩, (fun y hy => by cases hy), Nat.zero_le _⟩
  · simp at e
    subst e
    have hml : len ≤ m := by rw [hm]; split <;> omega
    have key : ∀ j, ∃ y : Int, j < len → (W.cell? (a.add j) = some (.int .i64 y) ∧ -9223372036854775808 ≤ y ∧ y ≤ 9223372036854775807) := by
      intro j
      by_cases hj : j < len
      · obtain ⟨cs', hc', ht'⟩ := hel j (by omega)
        rw [cells3, Nat.mul_one] at hc'
        obtain ⟨c', rfl, hcell⟩ := cells_one hc'
        obtain ⟨y, e, _, wy⟩ := DataW.trod_int Tryz.underlying3 ht'
        simp at e
        subst e
        exact ⟨y, fun _ => ⟨hcell, i64_range wy⟩⟩
      · exact ⟨0, fun h => absurd h hj⟩
    obtain ⟨f, hf⟩ := Classical.axiomOfChoice key
    refine ⟨some a, cap, (List.range len).map f, by simp, ⟨by simpa using hlc, by unfold maxLen at hcm; omega, fun hl => ?_⟩, (fun y hy => ?_), ?_⟩
    · have hl' : 0 < len := by simpa using hl
      have ea := spot_none (by simpa [Addr.add] using (hf 0 hl').1 : W.cell? a = _)
      obtain ⟨g, o', s'⟩ := a
      obtain rfl : s' = none := by simpa using ea
      refine ⟨g, o', rfl, fun j y hy => ?_⟩
      rw [List.getElem?_map] at hy
      obtain ⟨i', e1, e2⟩ := Option.map_eq_some_iff.1 hy
      obtain ⟨h1, h2⟩ := List.getElem?_eq_some_iff.1 e1
      simp at h1 h2
      subst h2
      have t := (hf j h1).1
      rw [Addr.add_lit, e2] at t
      exact t
    · obtain ⟨i, hi, rfl⟩ := List.mem_map.1 hy
      exact (hf i (by simpa using hi)).2
    · rw [hx]
      simp only [Rows.uptoBulk]
      have := bulk_len ((List.range len).map D)
      simp at this ⊢
      omega
set_option maxRecDepth 100000 in
/-- A node's cells. -/
theorem node_open {H : Type} {enc : TypeId × Value → H} {W : World} {base : Nat} {spare : Nat → Bool} {held : Bool} {fuel : Nat} {A : Addr} {cs : List Value} {x : DataW H × List MemPlace} (hc : W.cells? base A 6 = some cs) (h : DataW.trod enc Tryz.prog W base spare held fuel 53 cs = some x) :
    ∃ y : Nd, A = ⟨A.block, A.off, none⟩ ∧ IsA W y.ka y.kc y.ks ∧ okR y ∧ y.nm.size + y.ks.length ≤ Rows.uptoBulk x.1 ∧ ∀ j z, (ndc y)[j]? = some z → W.cell? ⟨A.block, A.off + j, none⟩ = some z := by
  obtain ⟨c0, c1, c2, c3, c4, c5, rfl, h0, h1, h2, h3, h4, h5⟩ := cells_six hc
  have eA := spot_none h0
  obtain ⟨b, o, s⟩ := A
  obtain rfl : s = none := by simpa using eA
  rw [Addr.add_lit] at h1 h2 h3 h4 h5
  obtain ⟨xs, m, _, hx, hl, hlen, hg⟩ := DataW.trod_struct Tryz.underlying53 h
  match xs, hlen with
  | [y0, y1, y2, y3, y4, y5], _ =>
    have g0 := hg 0 _ rfl
    simp [cells3] at g0
    obtain ⟨k, e0, _, w0⟩ := DataW.trod_int Tryz.underlying3 g0
    simp at e0
    subst e0
    have g1 := hg 1 _ rfl
    simp [cells9] at g1
    obtain ⟨t, e1, e1', _⟩ := DataW.trod_string Tryz.underlying9 g1
    simp at e1
    subst e1
    have g2 := hg 2 _ rfl
    simp [cells2] at g2
    obtain ⟨v, e2, _, w2⟩ := DataW.trod_int Tryz.underlying2 g2
    simp at e2
    subst e2
    have g3 := hg 3 _ rfl
    simp [cells42] at g3
    obtain ⟨ao, c, l, e3, hI, hR, hK⟩ := ints_open g3
    have g4 := hg 4 _ rfl
    simp [cells3] at g4
    obtain ⟨f, e4, _, w4⟩ := DataW.trod_int Tryz.underlying3 g4
    simp at e4
    subst e4
    have g5 := hg 5 _ rfl
    simp [cells3] at g5
    obtain ⟨e, e5, _, w5⟩ := DataW.trod_int Tryz.underlying3 g5
    simp at e5
    subst e5
    subst e3
    refine ⟨⟨k, t, v, ao, c, l, f, e⟩, rfl, hI, ⟨(i64_range w2).1, (i64_range w2).2, hR⟩, ?_, fun j z hz => ?_⟩
    · rw [hx]
      simp only [List.map, Rows.uptoBulk, Rows.uptoBulkAll]
      rw [e1']
      simp only [Rows.uptoBulk]
      have := len_of t
      show t.size + l.length ≤ _
      omega
    match j, hz with
    | 0, hz => cases hz; exact h0
    | 1, hz => cases hz; exact h1
    | 2, hz => cases hz; exact h2
    | 3, hz => cases hz; exact h3
    | 4, hz => cases hz; exact h4
    | 5, hz => cases hz; exact h5
    | j + 6, hz => simp [ndc] at hz
set_option maxRecDepth 100000 in
theorem nodes_open {H : Type} {enc : TypeId × Value → H} {W : World} {base : Nat} {spare : Nat → Bool} {held : Bool} {fuel : Nat} {c0 : Value} {x : DataW H × List MemPlace} (h : DataW.trod enc Tryz.prog W base spare held fuel 22 [c0] = some x) :
    ∃ (ao : Option Addr) (c : Nat) (l : List Nd), c0 = .slice ao l.length c ∧ NdS W ao c l ∧ (∀ y ∈ l, okR y) ∧ ∀ y ∈ l, y.nm.size + y.ks.length ≤ Rows.uptoBulk x.1 := by
  rcases open_slice Tryz.underlying22 h with ⟨e, _⟩ | ⟨a, len, cap, m, n', D, Pl, e, _, hlc, hcm, hm, hx0, hel⟩
  · simp at e
    subst e
    exact ⟨none, 0, [], rfl, ⟨Nat.le_refl _, by omega, (fun x hx => (by cases hx)), fun h => absurd h (by simp)⟩, (fun y hy => by cases hy), fun y hy => by cases hy⟩
  · simp at e
    subst e
    have hml : len ≤ m := by rw [hm]; split <;> omega
    by_cases hl : 0 < len
    · have ea : a = ⟨a.block, a.off, none⟩ := by
        obtain ⟨cs', hc', ht'⟩ := hel 0 (by omega)
        rw [cells53] at hc'
        obtain ⟨_, eA, _⟩ := node_open hc' ht'
        simpa [Addr.add] using eA
      obtain ⟨lb, lo, s⟩ := a
      obtain rfl : s = none := by simpa using ea
      have key : ∀ i, ∃ y : Nd, i < len → (IsA W y.ka y.kc y.ks ∧ okR y ∧ y.nm.size + y.ks.length ≤ Rows.uptoBulk (D i) ∧ ∀ j z, (ndc y)[j]? = some z → W.cell? ⟨lb, lo + i * 6 + j, none⟩ = some z) := by
        intro i
        by_cases hi : i < len
        · obtain ⟨cs', hc', ht'⟩ := hel i (by omega)
          rw [cells53, Addr.add_lit] at hc'
          obtain ⟨y, _, e2, e3, e4, e5⟩ := node_open hc' ht'
          exact ⟨y, fun _ => ⟨e2, e3, e4, e5⟩⟩
        · exact ⟨⟨0, ⟨#[]⟩, 0, none, 0, [], 0, 0⟩, fun h => absurd h hi⟩
      obtain ⟨f, hf⟩ := Classical.axiomOfChoice key
      refine ⟨some ⟨lb, lo, none⟩, cap, (List.range len).map f, (by simp), ⟨(by simpa using hlc), (by unfold maxLen at hcm; omega), fun x hx => ?_, fun _ => ⟨lb, lo, rfl, fun i x hi j z hz => ?_⟩⟩, (fun x hx => ?_), fun x hx => ?_⟩
      · obtain ⟨i, hi, rfl⟩ := List.mem_map.1 hx
        exact (hf i (by simpa using hi)).1
      · obtain ⟨hi', rfl⟩ : i < len ∧ f i = x := by
          rw [List.getElem?_map] at hi
          obtain ⟨i', e1, e2⟩ := Option.map_eq_some_iff.1 hi
          obtain ⟨h1, h2⟩ := List.getElem?_eq_some_iff.1 e1
          simp at h1 h2
          subst h2
          exact ⟨h1, e2⟩
        exact (hf i hi').2.2.2 j z hz
      · obtain ⟨i, hi, rfl⟩ := List.mem_map.1 hx
        exact (hf i (by simpa using hi)).2.1
      · obtain ⟨i, hi, rfl⟩ := List.mem_map.1 hx
        have t := (hf i (by simpa using hi)).2.2.1
        have u := bulk_mem (d := D i) (ds := (List.range len).map D) (List.mem_map.2 ⟨i, hi, rfl⟩)
        rw [show _ = DataW.slice ((List.range len).map D) ((List.range (m - len)).map fun j => D (len + j)) from congrArg Prod.fst hx0]
        simp only [Rows.uptoBulk]
        omega
    · obtain rfl : len = 0 := by omega
      exact ⟨some a, cap, [], rfl, ⟨hlc, (by unfold maxLen at hcm; omega), (fun x hx => (by cases hx)), fun h => absurd h (by simp)⟩, (fun y hy => by cases hy), fun y hy => by cases hy⟩
set_option maxRecDepth 100000 in
/-- A tree. -/
theorem tree_open {H : Type} {enc : TypeId × Value → H} {W : World} {base : Nat} {spare : Nat → Bool} {held : Bool} {r : Reach} {b0 : Nat} {v : Value} {d : DataW H} {ps : List MemPlace} (hv : Value.okWide Tryz.prog W r b0 24 v) (h : DataW.Trod enc Tryz.prog W base spare held 24 v d ps) :
    ∃ (ao : Option Addr) (c : Nat) (l : List Nd), v = .agg #[.slice ao l.length c] ∧ NdS W ao c l ∧ (∀ y ∈ l, okR y) ∧ ∀ y ∈ l, y.nm.size + y.ks.length ≤ Rows.uptoBulk d := by
  obtain ⟨cs, rfl, hsz⟩ := okWide_struct Tryz.underlying24 hv
  obtain ⟨L⟩ := cs
  rw [cells24] at hsz
  match L, hsz with
  | [c0], _ =>
    obtain ⟨fuel, hf⟩ := h
    have hf' : DataW.trod enc Tryz.prog W base spare held fuel 24 [c0] = some (d, ps) := hf
    obtain ⟨xs, m, _, hx, hl, hlen, hg⟩ := DataW.trod_struct Tryz.underlying24 hf'
    match xs, hlen with
    | [y0], _ =>
      have g0 := hg 0 _ rfl
      simp [cells22] at g0
      obtain ⟨ao, c, l, rfl, h1, h2, h3⟩ := nodes_open g0
      refine ⟨ao, c, l, rfl, h1, h2, fun y hy => ?_⟩
      have t := h3 y hy
      rw [show d = _ from congrArg Prod.fst hx]
      simp only [List.map, Rows.uptoBulk, Rows.uptoBulkAll]
      omega
end
section
open Go.RowKit Go.Shelf
theorem nda_of {W : World} {ao : Option Addr} {c : Nat} {l : List Nd} (h : NdS W ao c l) (hR : ∀ y ∈ l, okR y) (hb : ∀ y ∈ l, y.nm.size + y.ks.length ≤ 1048576) : NdA W ao c l :=
  ⟨h.1, h.2.1, fun x hx => ⟨by have := hb x hx; omega, (hR x hx).v0, (hR x hx).v1, h.2.2.1 x hx⟩, h.2.2.2⟩
/-- A tree of no nodes. -/
def noneT : Value := .agg #[.slice none 0 0]
end
end Go.Proofs.YtkkmeogehapjoaaGreatDoor
