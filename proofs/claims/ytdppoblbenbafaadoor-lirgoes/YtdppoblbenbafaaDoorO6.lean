/- A case of more fuel that is handed on. -/
import Derived.Test.YtdppoblbenbafaaDoorXBB
namespace Go.Proofs.YtdppoblbenbafaaDoor
open Go.ChangeShapes Go.WideShapes Go.ChangeAt Go.RowKit Go.Deep Go.Joins
theorem cellsC : Tryd.prog.cellsOf 25 = 4 := by kernel_rfl
theorem cells23 : Tryd.prog.cellsOf 23 = 1 := by kernel_rfl
set_option maxRecDepth 100000 in
theorem bytes_openC {H : Type} {enc : TypeId × Value → H} {W : World} {base : Nat} {spare : Nat → Bool} {held : Bool} {fuel : Nat} {c0 : Value} {x : DataW H × List MemPlace} (hf' : DataW.trod enc Tryd.prog W base spare held fuel 23 [c0] = some x) :
    ∃ (ao : Option Addr) (c : Nat) (l : List UInt8), c0 = .slice ao l.length c ∧ InV W W (.slice ao l.length c) l := by
  obtain ⟨ao, c, l, e, h1, h2, _, h3⟩ := row_open (fun _ : UInt8 => True) (fun y => [.int .u8 y.toNat]) 0 Tryd.underlying23 cells5 (fun fuel A cs y hc ht => by
    obtain ⟨hl, hk⟩ := cells_at hc
    obtain ⟨k, e0, _, hw⟩ := DataW.trod_int Tryd.underlying5 ht
    subst e0
    have c0 := hk 0 _ rfl
    have c1 : W.cell? A = some (.int .u8 k) := by simpa [Addr.add] using c0
    have eA := spot_none c1
    have hb : 0 ≤ k ∧ k < 256 := by
      have h1 : IntKind.u8.min = 0 := rfl
      have h2 : IntKind.u8.max = 255 := rfl
      have hw' : (Lit.int .u8 k).wf = true := hw
      simp only [Lit.wf, Bool.and_eq_true, decide_eq_true_eq] at hw'
      omega
    have ek : (((UInt8.ofNat k.toNat).toNat : Nat) : Int) = k := by
      rw [UInt8.toNat_ofNat']
      omega
    refine ⟨UInt8.ofNat k.toNat, eA, trivial, fun t v hv => ?_⟩
    match t, hv with
    | 0, hv =>
      cases hv
      rw [Nat.add_zero, ← eA, ek]
      exact c1
    | t + 1, hv => simp at hv) hf'
  refine ⟨ao, c, l, e, ao, c, rfl, h1, fun hl => ?_⟩
  obtain ⟨g, o, e1, hc⟩ := h3 hl
  obtain ⟨b, hb⟩ : ∃ b, l[0]? = some b := ⟨_, List.getElem?_eq_getElem hl⟩
  have hlt := World.block_lt_of_cell? _ _ (hc 0 b hb 0 _ rfl)
  exact ⟨g, o, e1, hlt, fun j y hj => by simpa using hc j y hj 0 _ rfl⟩
set_option maxRecDepth 100000 in
theorem case_openN {H : Type} {enc : TypeId × Value → H} {W : World} {base : Nat} {spare : Nat → Bool} {held : Bool} {r : Reach} {b0 : Nat} {v : Value} {d : DataW H} {ps : List MemPlace} (hv : Value.okWide Tryd.prog W r b0 25 v) (h : DataW.Trod enc Tryd.prog W base spare held 25 v d ps) :
    ∃ (ao : Option Addr) (c : Nat) (l : List Fun) (bo : Option Addr) (bc : Nat) (s : List UInt8) (n m : Int), v = .agg #[.slice ao l.length c, .slice bo s.length bc, .int .i64 n, .int .i64 m] ∧ FunA W ao c l ∧ N64 l ∧ InV W W (.slice bo s.length bc) s := by
  obtain ⟨cs, rfl, hsz⟩ := okWide_struct Tryd.underlying25 hv
  obtain ⟨L⟩ := cs
  rw [cellsC] at hsz
  match L, hsz with
  | [c0, c1, c2, c3], _ =>
    obtain ⟨fuel, hf⟩ := h
    have hf' : DataW.trod enc Tryd.prog W base spare held fuel 25 [c0, c1, c2, c3] = some (d, ps) := hf
    obtain ⟨xs, m, _, hx, hl, hlen, hg⟩ := DataW.trod_struct Tryd.underlying25 hf'
    match xs, hlen with
    | [y0, y1, y2, y3], _ =>
      have g0 := hg 0 _ rfl
      simp [cells22] at g0
      obtain ⟨ao, c, l, rfl, h1, h2⟩ := fns_openN g0
      have g1 := hg 1 _ rfl
      simp [cells23] at g1
      obtain ⟨bo, bc, s, rfl, h3⟩ := bytes_openC g1
      have g2 := hg 2 _ rfl
      simp [cells3] at g2
      obtain ⟨n2, e2, _, _⟩ := DataW.trod_int Tryd.underlying3 g2
      simp at e2
      subst e2
      have g3 := hg 3 _ rfl
      simp [cells3] at g3
      obtain ⟨n3, e3, _, _⟩ := DataW.trod_int Tryd.underlying3 g3
      simp at e3
      subst e3
      exact ⟨ao, c, l, bo, bc, s, n2, n3, rfl, h1, h2, h3⟩
end Go.Proofs.YtdppoblbenbafaaDoor
