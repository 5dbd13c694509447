/- Programs as they come in: what a reading of them says of memory. Programs as they come in, with the range of their numbers. A row of bytes that is handed on. -/
import Derived.Test.YtdppoblbenbafaaDoorXAY
import Derived.Test.YtdppoblbenbafaaDoorXAG
import Derived.SizedLaws
import Derived.Deep.Slices
import Derived.Deep.Strs
import Derived.Test.YtdppoblbenbafaaDoorXAL
import Derived.Test.YtdppoblbenbafaaDoorXAN
namespace Go.Proofs.YtdppoblbenbafaaDoor
section
open Go.ChangeShapes Go.WideShapes Go.ChangeAt Go.RowKit Go.Deep Go.Joins Go.ChangeMaps
theorem cells9 : Tryd.prog.cellsOf 9 = 1 := by kernel_rfl
theorem cells3 : Tryd.prog.cellsOf 3 = 1 := by kernel_rfl
theorem cells2 : Tryd.prog.cellsOf 2 = 1 := by kernel_rfl
theorem cells51 : Tryd.prog.cellsOf 47 = 1 := by kernel_rfl
theorem cells47 : Tryd.prog.cellsOf 44 = 1 := by kernel_rfl
theorem cells25 : Tryd.prog.cellsOf 41 = 1 := by kernel_rfl
theorem cells22 : Tryd.prog.cellsOf 22 = 1 := by kernel_rfl
theorem cells49 : Tryd.prog.cellsOf 46 = 1 := by kernel_rfl
theorem cells54 : Tryd.prog.cellsOf 49 = 9 := by kernel_rfl
theorem cells27 : Tryd.prog.cellsOf 43 = 5 := by kernel_rfl
theorem spot_none {W : World} {a : Addr} {v : Value} (h : W.cell? a = some v) : a = ⟨a.block, a.off, none⟩ := by
  obtain ⟨b, o, s⟩ := a
  cases s with
  | none => rfl
  | some x =>
    unfold World.cell? at h
    split at h
    · simp at h
    · cases h
/-- Cells, one by one. -/
theorem cells_at {W : World} {base : Nat} {A : Addr} {n : Nat} {cs : List Value} (h : W.cells? base A n = some cs) : cs.length = n ∧ ∀ (j : Nat) (v : Value), cs[j]? = some v → W.cell? (A.add j) = some v := by
  unfold World.cells? at h
  split at h
  · have hl := Lib.mapM_length h
    simp at hl
    refine ⟨hl, fun j v hv => ?_⟩
    have hj : j < n := by
      have := (List.getElem?_eq_some_iff.1 hv).1
      omega
    obtain ⟨b, hb, hf⟩ := Lib.mapM_at h j j (by simp [hj])
    rw [hv] at hb
    cases hb
    exact hf
  · cases h
/-- A row of things, as it comes in. -/
theorem row_open {α : Type} (good : α → Prop) (cl : α → List Value) (dflt : α) {H : Type} {enc : TypeId × Value → H} {W : World} {base : Nat} {spare : Nat → Bool} {held : Bool} {fuel : Nat} {T e : TypeId} {sz : Nat} {c0 : Value} {x : DataW H × List MemPlace} (hT : Tryd.prog.underlying T = some (.slice e)) (hs : Tryd.prog.cellsOf e = sz)
    (elt : ∀ (fuel : Nat) (A : Addr) (cs : List Value) (y : DataW H × List MemPlace), W.cells? base A sz = some cs → DataW.trod enc Tryd.prog W base spare held fuel e cs = some y → ∃ a : α, A = ⟨A.block, A.off, none⟩ ∧ good a ∧ ∀ (t : Nat) (v : Value), (cl a)[t]? = some v → W.cell? ⟨A.block, A.off + t, none⟩ = some v)
    (h : DataW.trod enc Tryd.prog W base spare held fuel T [c0] = some x) :
    ∃ (ao : Option Addr) (c : Nat) (l : List α), c0 = .slice ao l.length c ∧ l.length ≤ c ∧ c ≤ 9223372036854775807 ∧ (∀ a ∈ l, good a) ∧ (0 < l.length → ∃ g o, ao = some ⟨g, o, none⟩ ∧ ∀ (j : Nat) (a : α), l[j]? = some a → ∀ (t : Nat) (v : Value), (cl a)[t]? = some v → W.cell? ⟨g, o + j * sz + t, none⟩ = some v) := by
  rcases open_slice hT h with ⟨e1, _⟩ | ⟨a, len, cap, m, n', D, Pl, e1, _, hlc, hcm, hm, hx0, hel⟩
  · simp at e1
    subst e1
    exact ⟨none, 0, [], rfl, Nat.le_refl _, by omega, (fun x hx => (by cases hx)), fun h => absurd h (by simp)⟩
  · simp at e1
    subst e1
    rw [hs] at hel
    have hml : len ≤ m := by rw [hm]; split <;> omega
    by_cases hl : 0 < len
    · have ea : a = ⟨a.block, a.off, none⟩ := by
        obtain ⟨cs', hc', ht'⟩ := hel 0 (by omega)
        obtain ⟨_, eA, _⟩ := elt _ _ _ _ hc' ht'
        simpa [Addr.add] using eA
      obtain ⟨lb, lo, s⟩ := a
      obtain rfl : s = none := by simpa using ea
      have key : ∀ i, ∃ y : α, i < len → (good y ∧ ∀ (t : Nat) (v : Value), (cl y)[t]? = some v → W.cell? ⟨lb, lo + i * sz + t, none⟩ = some v) := by
        intro i
        by_cases hi : i < len
        · obtain ⟨cs', hc', ht'⟩ := hel i (by omega)
          rw [Addr.add_lit] at hc'
          obtain ⟨y, _, e2, e3⟩ := elt _ _ _ _ hc' ht'
          exact ⟨y, fun _ => ⟨e2, e3⟩⟩
        · exact ⟨dflt, fun h => absurd h hi⟩
      obtain ⟨f, hf⟩ := Classical.axiomOfChoice key
      refine ⟨some ⟨lb, lo, none⟩, cap, (List.range len).map f, (by simp), (by simpa using hlc), (by unfold maxLen at hcm; omega), fun x hx => ?_, fun _ => ⟨lb, lo, rfl, fun i x hi j z hz => ?_⟩⟩
      · obtain ⟨i, hi, rfl⟩ := List.mem_map.1 hx
        exact (hf i (by simpa using hi)).1
      · obtain ⟨hi', rfl⟩ : i < len ∧ f i = x := by
          rw [List.getElem?_map] at hi
          obtain ⟨i', e1, e2⟩ := Option.map_eq_some_iff.1 hi
          obtain ⟨h1, h2⟩ := List.getElem?_eq_some_iff.1 e1
          simp at h1 h2
          subst h2
          exact ⟨h1, e2⟩
        exact (hf i hi').2 j z hz
    · obtain rfl : len = 0 := by omega
      exact ⟨some a, cap, [], rfl, hlc, (by unfold maxLen at hcm; omega), (fun x hx => (by cases hx)), fun h => absurd h (by simp)⟩
set_option maxRecDepth 100000 in
/-- A row of numbers. -/
theorem ints_open {H : Type} {enc : TypeId × Value → H} {W : World} {base : Nat} {spare : Nat → Bool} {held : Bool} {fuel : Nat} {c0 : Value} {x : DataW H × List MemPlace} (h : DataW.trod enc Tryd.prog W base spare held fuel 47 [c0] = some x) :
    ∃ (ao : Option Addr) (c : Nat) (l : List Int), c0 = .slice ao l.length c ∧ ArA W ao c l := by
  obtain ⟨ao, c, l, e, h1, h2, _, h3⟩ := row_open (fun _ : Int => True) (fun y => [.int .i64 y]) 0 Tryd.underlying47 cells3 (fun fuel A cs y hc ht => by
    obtain ⟨hl, hk⟩ := cells_at hc
    obtain ⟨k, e0, _, _⟩ := DataW.trod_int Tryd.underlying3 ht
    subst e0
    have c0 := hk 0 _ rfl
    have c1 : W.cell? A = some (.int .i64 k) := by simpa [Addr.add] using c0
    have eA := spot_none c1
    refine ⟨k, eA, trivial, fun t v hv => ?_⟩
    match t, hv with
    | 0, hv => cases hv; rw [Nat.add_zero, ← eA]; exact c1
    | t + 1, hv => simp at hv) h
  refine ⟨ao, c, l, e, h1, h2, fun hl => ?_⟩
  obtain ⟨g, o, e1, hc⟩ := h3 hl
  exact ⟨g, o, e1, fun j y hj => by simpa using hc j y hj 0 _ rfl⟩
end
section
open Go.ChangeShapes Go.WideShapes Go.ChangeAt Go.RowKit Go.Deep Go.Joins Go.ChangeMaps
theorem i64_wf {a : Int} (h : (Lit.int .i64 a).wf = true) : I64 a := by
  simp [Lit.wf, IntKind.min, IntKind.max, IntKind.signed, IntKind.bits] at h
  exact ⟨by omega, by omega⟩
set_option maxRecDepth 100000 in
/-- An instruction. -/
theorem ins_openN {H : Type} {enc : TypeId × Value → H} {W : World} {base : Nat} {spare : Nat → Bool} {held : Bool} (fuel : Nat) (A : Addr) (cs : List Value) (x : DataW H × List MemPlace) (hc : W.cells? base A 9 = some cs) (h : DataW.trod enc Tryd.prog W base spare held fuel 49 cs = some x) :
    ∃ y : Ins, A = ⟨A.block, A.off, none⟩ ∧ ((ArA W y.ar y.ac y.gs ∧ y.nm.size ≤ maxLen) ∧ I64 y.n) ∧ ∀ (t : Nat) (v : Value), (inC y)[t]? = some v → W.cell? ⟨A.block, A.off + t, none⟩ = some v := by
  obtain ⟨hl, hk⟩ := cells_at hc
  match cs, hl with
  | [c0, c1, c2, c3, c4, c5, c6, c7, c8], _ =>
    have q0 := hk 0 _ rfl
    have q1 := hk 1 _ rfl
    have q2 := hk 2 _ rfl
    have q3 := hk 3 _ rfl
    have q4 := hk 4 _ rfl
    have q5 := hk 5 _ rfl
    have q6 := hk 6 _ rfl
    have q7 := hk 7 _ rfl
    have q8 := hk 8 _ rfl
    have eA := spot_none (by simpa [Addr.add] using q0 : W.cell? A = _)
    obtain ⟨b, o, s⟩ := A
    obtain rfl : s = none := by simpa using eA
    rw [Addr.add_lit] at q0 q1 q2 q3 q4 q5 q6 q7 q8
    obtain ⟨xs, m, _, hx, hl2, hlen, hg⟩ := DataW.trod_struct Tryd.underlying49 h
    match xs, hlen with
    | [y0, y1, y2, y3, y4, y5, y6, y7, y8], _ =>
      have g0 := hg 0 _ rfl
      simp [cells3] at g0
      obtain ⟨n0, e0, _, _⟩ := DataW.trod_int Tryd.underlying3 g0
      simp at e0
      subst e0
      have g1 := hg 1 _ rfl
      simp [cells3] at g1
      obtain ⟨n1, e1, _, _⟩ := DataW.trod_int Tryd.underlying3 g1
      simp at e1
      subst e1
      have g2 := hg 2 _ rfl
      simp [cells3] at g2
      obtain ⟨n2, e2, _, _⟩ := DataW.trod_int Tryd.underlying3 g2
      simp at e2
      subst e2
      have g3 := hg 3 _ rfl
      simp [cells3] at g3
      obtain ⟨n3, e3, _, _⟩ := DataW.trod_int Tryd.underlying3 g3
      simp at e3
      subst e3
      have g4 := hg 4 _ rfl
      simp [cells2] at g4
      obtain ⟨n4, e4, _, w4⟩ := DataW.trod_int Tryd.underlying2 g4
      simp at e4
      subst e4
      have g5 := hg 5 _ rfl
      simp [cells9] at g5
      obtain ⟨n5, e5, _, z5⟩ := DataW.trod_string Tryd.underlying9 g5
      simp at e5
      subst e5
      have g6 := hg 6 _ rfl
      simp [cells51] at g6
      obtain ⟨a6, b6, l6, e6, p6⟩ := ints_open g6
      subst e6
      have g7 := hg 7 _ rfl
      simp [cells3] at g7
      obtain ⟨n7, e7, _, _⟩ := DataW.trod_int Tryd.underlying3 g7
      simp at e7
      subst e7
      have g8 := hg 8 _ rfl
      simp [cells3] at g8
      obtain ⟨n8, e8, _, _⟩ := DataW.trod_int Tryd.underlying3 g8
      simp at e8
      subst e8
      refine ⟨⟨n0, n1, n2, n3, n4, n5, a6, b6, l6, n7, n8⟩, rfl, ⟨⟨p6, z5⟩, i64_wf w4⟩, fun t v hv => ?_⟩
      match t, hv with
      | 0, hv => cases hv; exact q0
      | 1, hv => cases hv; exact q1
      | 2, hv => cases hv; exact q2
      | 3, hv => cases hv; exact q3
      | 4, hv => cases hv; exact q4
      | 5, hv => cases hv; exact q5
      | 6, hv => cases hv; exact q6
      | 7, hv => cases hv; exact q7
      | 8, hv => cases hv; exact q8
      | t + 9, hv => simp [inC] at hv
/-- A row of instructions. -/
theorem inss_openN {H : Type} {enc : TypeId × Value → H} {W : World} {base : Nat} {spare : Nat → Bool} {held : Bool} {fuel : Nat} {c0 : Value} {x : DataW H × List MemPlace} (h : DataW.trod enc Tryd.prog W base spare held fuel 44 [c0] = some x) :
    ∃ (ao : Option Addr) (c : Nat) (l : List Ins), c0 = .slice ao l.length c ∧ InsA W ao c l ∧ ∀ i ∈ l, I64 i.n := by
  obtain ⟨ao, c, l, e, h1, h2, h3, h4⟩ := row_open (fun y : Ins => (ArA W y.ar y.ac y.gs ∧ y.nm.size ≤ maxLen) ∧ I64 y.n) inC ⟨0, 0, 0, 0, 0, ⟨#[]⟩, none, 0, [], 0, 0⟩ Tryd.underlying44 cells54 ins_openN h
  exact ⟨ao, c, l, e, ⟨h1, h2, fun i hi => (h3 i hi).1, h4⟩, fun i hi => (h3 i hi).2⟩
set_option maxRecDepth 100000 in
/-- A block. -/
theorem blk_openN {H : Type} {enc : TypeId × Value → H} {W : World} {base : Nat} {spare : Nat → Bool} {held : Bool} (fuel : Nat) (A : Addr) (cs : List Value) (x : DataW H × List MemPlace) (hc : W.cells? base A 1 = some cs) (h : DataW.trod enc Tryd.prog W base spare held fuel 46 cs = some x) :
    ∃ y : Blk, A = ⟨A.block, A.off, none⟩ ∧ (InsA W y.xo y.xc y.l ∧ ∀ i ∈ y.l, I64 i.n) ∧ ∀ (t : Nat) (v : Value), ([Value.slice y.xo y.l.length y.xc])[t]? = some v → W.cell? ⟨A.block, A.off + t, none⟩ = some v := by
  obtain ⟨hl, hk⟩ := cells_at hc
  match cs, hl with
  | [c0], _ =>
    have q0 := hk 0 _ rfl
    have eA := spot_none (by simpa [Addr.add] using q0 : W.cell? A = _)
    obtain ⟨b, o, s⟩ := A
    obtain rfl : s = none := by simpa using eA
    rw [Addr.add_lit] at q0
    obtain ⟨xs, m, _, hx, hl2, hlen, hg⟩ := DataW.trod_struct Tryd.underlying46 h
    match xs, hlen with
    | [y0], _ =>
      have g0 := hg 0 _ rfl
      simp [cells47] at g0
      obtain ⟨a0, b0, l0, e0, p0⟩ := inss_openN g0
      subst e0
      refine ⟨⟨a0, b0, l0⟩, rfl, p0, fun t v hv => ?_⟩
      match t, hv with
      | 0, hv => cases hv; exact q0
      | t + 1, hv => simp at hv
/-- A row of blocks. -/
theorem blks_openN {H : Type} {enc : TypeId × Value → H} {W : World} {base : Nat} {spare : Nat → Bool} {held : Bool} {fuel : Nat} {c0 : Value} {x : DataW H × List MemPlace} (h : DataW.trod enc Tryd.prog W base spare held fuel 41 [c0] = some x) :
    ∃ (ao : Option Addr) (c : Nat) (l : List Blk), c0 = .slice ao l.length c ∧ BlkA W ao c l ∧ ∀ b ∈ l, ∀ i ∈ b.l, I64 i.n := by
  obtain ⟨ao, c, l, e, h1, h2, h3, h4⟩ := row_open (fun y : Blk => InsA W y.xo y.xc y.l ∧ ∀ i ∈ y.l, I64 i.n) (fun y => [.slice y.xo y.l.length y.xc]) ⟨none, 0, []⟩ Tryd.underlying41 cells49 blk_openN h
  refine ⟨ao, c, l, e, ⟨h1, h2, fun b hb => (h3 b hb).1, fun hl => ?_⟩, fun b hb => (h3 b hb).2⟩
  obtain ⟨g, o, e1, hc⟩ := h4 hl
  exact ⟨g, o, e1, fun j y hj => by simpa using hc j y hj 0 _ rfl⟩
set_option maxRecDepth 100000 in
/-- A function. -/
theorem fn_openN {H : Type} {enc : TypeId × Value → H} {W : World} {base : Nat} {spare : Nat → Bool} {held : Bool} (fuel : Nat) (A : Addr) (cs : List Value) (x : DataW H × List MemPlace) (hc : W.cells? base A 5 = some cs) (h : DataW.trod enc Tryd.prog W base spare held fuel 43 cs = some x) :
    ∃ y : Fun, A = ⟨A.block, A.off, none⟩ ∧ ((y.h.bl = y.bs.length ∧ y.h.nm.size ≤ maxLen ∧ BlkA W y.h.ba y.h.bc y.bs) ∧ ∀ b ∈ y.bs, ∀ i ∈ b.l, I64 i.n) ∧ ∀ (t : Nat) (v : Value), (fnC y.h)[t]? = some v → W.cell? ⟨A.block, A.off + t, none⟩ = some v := by
  obtain ⟨hl, hk⟩ := cells_at hc
  match cs, hl with
  | [c0, c1, c2, c3, c4], _ =>
    have q0 := hk 0 _ rfl
    have q1 := hk 1 _ rfl
    have q2 := hk 2 _ rfl
    have q3 := hk 3 _ rfl
    have q4 := hk 4 _ rfl
    have eA := spot_none (by simpa [Addr.add] using q0 : W.cell? A = _)
    obtain ⟨b, o, s⟩ := A
    obtain rfl : s = none := by simpa using eA
    rw [Addr.add_lit] at q0 q1 q2 q3 q4
    obtain ⟨xs, m, _, hx, hl2, hlen, hg⟩ := DataW.trod_struct Tryd.underlying43 h
    match xs, hlen with
    | [y0, y1, y2, y3, y4], _ =>
      have g0 := hg 0 _ rfl
      simp [cells9] at g0
      obtain ⟨n0, e0, _, z0⟩ := DataW.trod_string Tryd.underlying9 g0
      simp at e0
      subst e0
      have g1 := hg 1 _ rfl
      simp [cells3] at g1
      obtain ⟨n1, e1, _, _⟩ := DataW.trod_int Tryd.underlying3 g1
      simp at e1
      subst e1
      have g2 := hg 2 _ rfl
      simp [cells3] at g2
      obtain ⟨n2, e2, _, _⟩ := DataW.trod_int Tryd.underlying3 g2
      simp at e2
      subst e2
      have g3 := hg 3 _ rfl
      simp [cells3] at g3
      obtain ⟨n3, e3, _, _⟩ := DataW.trod_int Tryd.underlying3 g3
      simp at e3
      subst e3
      have g4 := hg 4 _ rfl
      simp [cells25] at g4
      obtain ⟨a4, b4, l4, e4, p4⟩ := blks_openN g4
      subst e4
      refine ⟨⟨⟨n0, n1, n2, n3, a4, l4.length, b4⟩, l4⟩, rfl, ⟨⟨rfl, z0, p4.1⟩, p4.2⟩, fun t v hv => ?_⟩
      match t, hv with
      | 0, hv => cases hv; exact q0
      | 1, hv => cases hv; exact q1
      | 2, hv => cases hv; exact q2
      | 3, hv => cases hv; exact q3
      | 4, hv => cases hv; exact q4
      | t + 5, hv => simp [fnC] at hv
/-- A program. -/
theorem fns_openN {H : Type} {enc : TypeId × Value → H} {W : World} {base : Nat} {spare : Nat → Bool} {held : Bool} {fuel : Nat} {c0 : Value} {x : DataW H × List MemPlace} (h : DataW.trod enc Tryd.prog W base spare held fuel 22 [c0] = some x) :
    ∃ (ao : Option Addr) (c : Nat) (l : List Fun), c0 = .slice ao l.length c ∧ FunA W ao c l ∧ N64 l := by
  obtain ⟨ao, c, l, e, h1, h2, h3, h4⟩ := row_open (fun y : Fun => (y.h.bl = y.bs.length ∧ y.h.nm.size ≤ maxLen ∧ BlkA W y.h.ba y.h.bc y.bs) ∧ ∀ b ∈ y.bs, ∀ i ∈ b.l, I64 i.n) (fun y => fnC y.h) ⟨⟨⟨#[]⟩, 0, 0, 0, none, 0, 0⟩, []⟩ Tryd.underlying22 cells27 fn_openN h
  exact ⟨ao, c, l, e, ⟨h1, h2, fun x hx => (h3 x hx).1, h4⟩, fun x hx => (h3 x hx).2⟩
set_option maxRecDepth 100000 in
/-- A program that is handed on. -/
theorem prog_openN {H : Type} {enc : TypeId × Value → H} {W : World} {base : Nat} {spare : Nat → Bool} {held : Bool} {r : Reach} {b0 : Nat} {v : Value} {d : DataW H} {ps : List MemPlace} (hv : Value.okWide Tryd.prog W r b0 22 v) (h : DataW.Trod enc Tryd.prog W base spare held 22 v d ps) :
    ∃ (ao : Option Addr) (c : Nat) (l : List Fun), v = .slice ao l.length c ∧ FunA W ao c l ∧ N64 l := by
  obtain ⟨fuel, hf⟩ := h
  obtain ⟨a, n, c, rfl⟩ := okWide_slice Tryd.underlying22 hv
  have hf' : DataW.trod enc Tryd.prog W base spare held fuel 22 [.slice a n c] = some (d, ps) := hf
  exact fns_openN hf'
end
section
open Go.ChangeShapes Go.WideShapes Go.ChangeAt Go.RowKit Go.Deep Go.Joins
theorem cells5 : Tryd.prog.cellsOf 5 = 1 := by kernel_rfl
set_option maxRecDepth 100000 in
theorem bytes_openN {H : Type} {enc : TypeId × Value → H} {W : World} {base : Nat} {spare : Nat → Bool} {held : Bool} {r : Reach} {b0 : Nat} {v : Value} {d : DataW H} {ps : List MemPlace} (hv : Value.okWide Tryd.prog W r b0 23 v) (h : DataW.Trod enc Tryd.prog W base spare held 23 v d ps) :
    ∃ (ao : Option Addr) (c : Nat) (l : List UInt8), v = .slice ao l.length c ∧ InV W W (.slice ao l.length c) l := by
  obtain ⟨fuel, hf⟩ := h
  obtain ⟨a, n, c, rfl⟩ := okWide_slice Tryd.underlying23 hv
  have hf' : DataW.trod enc Tryd.prog W base spare held fuel 23 [.slice a n c] = some (d, ps) := hf
  obtain ⟨ao, c, l, e, h1, h2, _, h3⟩ := row_open (fun _ : UInt8 => True) (fun y => [.int .u8 y.toNat]) 0 Tryd.underlying23 cells5 (fun fuel A cs y hc ht => by
    obtain ⟨hl, hk⟩ := cells_at hc
    obtain ⟨k, e0, _, hw⟩ := DataW.trod_int Tryd.underlying5 ht
    subst e0
    have c0 := hk 0 _ rfl
    have c1 : W.cell? A = some (.int .u8 k) := by simpa [Addr.add] using c0
    have eA := spot_none c1
    have hb : 0 ≤ k ∧ k < 256 := by
      have h1 : IntKind.u8.min = 0 := rfl
      have h2 : IntKind.u8.max = 255 := rfl
      have hw' : (Lit.int .u8 k).wf = true := hw
      simp only [Lit.wf, Bool.and_eq_true, decide_eq_true_eq] at hw'
      omega
    have ek : (((UInt8.ofNat k.toNat).toNat : Nat) : Int) = k := by
      rw [UInt8.toNat_ofNat']
      omega
    refine ⟨UInt8.ofNat k.toNat, eA, trivial, fun t v hv => ?_⟩
    match t, hv with
    | 0, hv =>
      cases hv
      rw [Nat.add_zero, ← eA, ek]
      exact c1
    | t + 1, hv => simp at hv) hf'
  refine ⟨ao, c, l, e, ao, c, rfl, h1, fun hl => ?_⟩
  obtain ⟨g, o, e1, hc⟩ := h3 hl
  obtain ⟨b, hb⟩ : ∃ b, l[0]? = some b := ⟨_, List.getElem?_eq_getElem hl⟩
  have hlt := World.block_lt_of_cell? _ _ (hc 0 b hb 0 _ rfl)
  exact ⟨g, o, e1, hlt, fun j y hj => by simpa using hc j y hj 0 _ rfl⟩
end
end Go.Proofs.YtdppoblbenbafaaDoor
