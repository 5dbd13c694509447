/- The words of operations, and the powers of ten, out of the row. Programs as they come in, with the range of their numbers. -/
import Derived.Test.YtdppoblbenbafaaGreatDoorF1
import Derived.Test.YtdppoblbenbafaaGreatDoorMA
import Derived.Test.YtdppoblbenbafaaGreatDoorOO
import Derived.Test.YtdppoblbenbafaaGreatDoorLB
namespace Go.Proofs.YtdppoblbenbafaaGreatDoor
section
open Go.ChangeShapes Go.WideShapes Go.ChangeAt Go.RowKit Go.Deep Go.Joins
theorem f154b : ∃ fs, Tryz.prog.underlying 154 = some (.struct fs) ∧ (fs[0]?).map (fun f => (f.type, f.offset)) = some (9, 0) := ⟨_, Tryz.underlying154, by kernel_rfl⟩
/-- The first text of the i-th form. -/
theorem form_at0 {W : World} {fuel : Nat} {cs : List Value} {ds : List (DataW Unit)} {p : List MemPlace} (h : DataW.trod (fun _ => ()) Tryz.prog W 0 (fun _ => true) false fuel 155 cs = some (.agg ds, p)) (i : Nat) (hi : i < 12) (d0 : DataW Unit) (z : List UInt8) (hd : ds[i]? = some (.agg [.lit (.string z), d0])) : cs[2 * i]? = some (.string ⟨z.toArray⟩) := by
  cases fuel with
  | zero => simp [DataW.trod] at h
  | succ fuel =>
    simp only [DataW.trod, Tryz.underlying155, c154, c155] at h
    split at h
    · rename_i hl
      obtain ⟨xs, hm, hx⟩ := Option.map_eq_some_iff.1 h
      have hxs : xs.map (·.1) = ds := by
        have := congrArg Prod.fst hx
        simpa using this
      obtain ⟨b, hb, hf⟩ := Lib.mapM_at hm i i (by simp [hi])
      obtain ⟨fs, hu, hfs⟩ := f154b
      obtain ⟨ys, n, -, hy, -, -, hk⟩ := DataW.trod_struct hu hf
      obtain ⟨fl, hfl, hfe⟩ := Option.map_eq_some_iff.1 hfs
      have h1 := hk 0 fl hfl
      have hb' : b.1 = .agg [.lit (.string z), d0] := by
        have : (xs.map (·.1))[i]? = some b.1 := by simp [hb]
        rw [hxs, hd] at this
        exact (Option.some.inj this).symm
      rw [hy] at hb'
      have hys : (ys.map (·.1))[0]? = some (.lit (.string z)) := by
        have := DataW.agg.inj hb'
        rw [this]
        rfl
      simp only [List.getElem?_map, Option.map_eq_some_iff] at hys
      obtain ⟨y, hy1, hy2⟩ := hys
      rw [hy1] at h1
      have e1 : fl.type = 9 := congrArg Prod.fst hfe
      have e2 : fl.offset = 0 := congrArg Prod.snd hfe
      rw [e1, e2] at h1
      obtain ⟨s, hc, rfl, _⟩ := DataW.trod_string Tryz.underlying9 h1
      have hz : s.data.toList = z := by
        have := hy2
        simpa using this
      have hcs : cs[2 * i]? = some (.string s) := by
        have t := congrArg (·[0]?) hc
        rw [c9] at t
        simp [List.getElem?_drop] at t
        rw [show 2 * i = i * 2 by omega]
        exact t
      rw [hcs, ← hz]
    · cases h
theorem twOf {W : World} (h : laidMetH Tryz.prog laidL W) : Twa W := by
  have hm := laid_plain h
  obtain ⟨g, t, cs, fuel, p, hg, ht, hv, hd⟩ := Lib.laidMet.reads hm (n := "patina/lir.forms") (d := Rows.laid_patina_lir_forms) (by simp [laidL])
  obtain rfl := Option.some.inj (gFor.symm.trans hg)
  obtain rfl := Option.some.inj (tFor.symm.trans ht)
  have k : ∀ i d0 z, i < 12 → (match (Rows.laid_patina_lir_forms : DataW Unit) with | .agg ds => ds[i]? | _ => none) = some (.agg [.lit (.string z), d0]) → W.cell? ⟨0, 2 * i, none⟩ = some (.string ⟨z.toArray⟩) := fun i d0 z hi hds => by
    rw [World.var?_cell gFor hv, ← Array.getElem?_toList]
    exact form_at0 hd i hi d0 z hds
  have k1 := k 1 _ [99, 111, 110, 115, 116] (by omega) rfl
  have k2 := k 2 _ [109, 111, 118, 101] (by omega) rfl
  have k3 := k 3 _ [98, 105, 110] (by omega) rfl
  have k4 := k 4 _ [108, 111, 97, 100] (by omega) rfl
  have k5 := k 5 _ [115, 116, 111, 114, 101] (by omega) rfl
  have k6 := k 6 _ [102, 114, 97, 109, 101] (by omega) rfl
  have k7 := k 7 _ [99, 97, 108, 108] (by omega) rfl
  have k8 := k 8 _ [106, 117, 109, 112] (by omega) rfl
  have k9 := k 9 _ [105, 102] (by omega) rfl
  have k10 := k 10 _ [114, 101, 116] (by omega) rfl
  have k11 := k 11 _ [116, 114, 97, 112] (by omega) rfl
  refine ⟨fun i h1 h2 => ?_, World.block_lt_of_cell? _ _ k1⟩
  obtain rfl | rfl | rfl | rfl | rfl | rfl | rfl | rfl | rfl | rfl | rfl : i = 1 ∨ i = 2 ∨ i = 3 ∨ i = 4 ∨ i = 5 ∨ i = 6 ∨ i = 7 ∨ i = 8 ∨ i = 9 ∨ i = 10 ∨ i = 11 := by omega
  · exact k1
  · exact k2
  · exact k3
  · exact k4
  · exact k5
  · exact k6
  · exact k7
  · exact k8
  · exact k9
  · exact k10
  · exact k11
theorem pow_eq : (Rows.laid_internal_strconv_uint64pow10 : DataW Unit) = Lib.tabData .u64 Lib.pow10Tab := by kernel_rfl
theorem tPow : (Tryz.prog.globals[1]?).map (·.type) = some 209 := by kernel_rfl
theorem cPow : Tryz.prog.cellsOf 209 = 20 := by kernel_rfl
theorem cElt : Tryz.prog.cellsOf 86 = 1 := by kernel_rfl
theorem powOf {W : World} (h : laidMetH Tryz.prog laidL W) : Pow W := by
  have hm := laid_plain h
  have u3 : Lib.VarReads Tryz.prog W "internal/strconv.uint64pow10" (Lib.tabData .u64 Lib.pow10Tab) := by
    rw [← pow_eq]
    exact Lib.laidMet.reads hm (by simp [laidL])
  obtain ⟨g, t, cs, fuel, p, hg, ht, hv, hd⟩ := u3
  obtain rfl := Option.some.inj (gPow.symm.trans hg)
  obtain rfl := Option.some.inj (tPow.symm.trans ht)
  have hc := Lib.cells_of_tab Tryz.underlying209 Tryz.underlying86 cElt cPow hd
  unfold Pow Lib.TabIs
  rw [hv, ← hc]
theorem tfaTf {W : World} (h : Tfa W) : Tf W := ⟨h.c 1 (by omega) (by omega), h.c 7 (by omega) (by omega), h.c 10 (by omega) (by omega), h.pos⟩
end
section
open Go.ChangeShapes Go.WideShapes Go.ChangeAt Go.RowKit Go.Deep Go.Joins Go.ChangeMaps
theorem i64_wf {a : Int} (h : (Lit.int .i64 a).wf = true) : I64 a := by
  simp [Lit.wf, IntKind.min, IntKind.max, IntKind.signed, IntKind.bits] at h
  exact ⟨by omega, by omega⟩
set_option maxRecDepth 100000 in
/-- An instruction. -/
theorem ins_openN {H : Type} {enc : TypeId × Value → H} {W : World} {base : Nat} {spare : Nat → Bool} {held : Bool} (fuel : Nat) (A : Addr) (cs : List Value) (x : DataW H × List MemPlace) (hc : W.cells? base A 9 = some cs) (h : DataW.trod enc Tryz.prog W base spare held fuel 54 cs = some x) :
    ∃ y : Ins, A = ⟨A.block, A.off, none⟩ ∧ ((ArA W y.ar y.ac y.gs ∧ y.nm.size ≤ maxLen) ∧ I64 y.n) ∧ ∀ (t : Nat) (v : Value), (inC y)[t]? = some v → W.cell? ⟨A.block, A.off + t, none⟩ = some v := by
  obtain ⟨hl, hk⟩ := cells_at hc
  match cs, hl with
  | [c0, c1, c2, c3, c4, c5, c6, c7, c8], _ =>
    have q0 := hk 0 _ rfl
    have q1 := hk 1 _ rfl
    have q2 := hk 2 _ rfl
    have q3 := hk 3 _ rfl
    have q4 := hk 4 _ rfl
    have q5 := hk 5 _ rfl
    have q6 := hk 6 _ rfl
    have q7 := hk 7 _ rfl
    have q8 := hk 8 _ rfl
    have eA := spot_none (by simpa [Addr.add] using q0 : W.cell? A = _)
    obtain ⟨b, o, s⟩ := A
    obtain rfl : s = none := by simpa using eA
    rw [Addr.add_lit] at q0 q1 q2 q3 q4 q5 q6 q7 q8
    obtain ⟨xs, m, _, hx, hl2, hlen, hg⟩ := DataW.trod_struct Tryz.underlying54 h
    match xs, hlen with
    | [y0, y1, y2, y3, y4, y5, y6, y7, y8], _ =>
      have g0 := hg 0 _ rfl
      simp [cells3] at g0
      obtain ⟨n0, e0, _, _⟩ := DataW.trod_int Tryz.underlying3 g0
      simp at e0
      subst e0
      have g1 := hg 1 _ rfl
      simp [cells3] at g1
      obtain ⟨n1, e1, _, _⟩ := DataW.trod_int Tryz.underlying3 g1
      simp at e1
      subst e1
      have g2 := hg 2 _ rfl
      simp [cells3] at g2
      obtain ⟨n2, e2, _, _⟩ := DataW.trod_int Tryz.underlying3 g2
      simp at e2
      subst e2
      have g3 := hg 3 _ rfl
      simp [cells3] at g3
      obtain ⟨n3, e3, _, _⟩ := DataW.trod_int Tryz.underlying3 g3
      simp at e3
      subst e3
      have g4 := hg 4 _ rfl
      simp [cells2] at g4
      obtain ⟨n4, e4, _, w4⟩ := DataW.trod_int Tryz.underlying2 g4
      simp at e4
      subst e4
      have g5 := hg 5 _ rfl
      simp [cells9] at g5
      obtain ⟨n5, e5, _, z5⟩ := DataW.trod_string Tryz.underlying9 g5
      simp at e5
      subst e5
      have g6 := hg 6 _ rfl
      simp [cells51] at g6
      obtain ⟨a6, b6, l6, e6, p6⟩ := ints_open g6
      subst e6
      have g7 := hg 7 _ rfl
      simp [cells3] at g7
      obtain ⟨n7, e7, _, _⟩ := DataW.trod_int Tryz.underlying3 g7
      simp at e7
      subst e7
      have g8 := hg 8 _ rfl
      simp [cells3] at g8
      obtain ⟨n8, e8, _, _⟩ := DataW.trod_int Tryz.underlying3 g8
      simp at e8
      subst e8
      refine ⟨⟨n0, n1, n2, n3, n4, n5, a6, b6, l6, n7, n8⟩, rfl, ⟨⟨p6, z5⟩, i64_wf w4⟩, fun t v hv => ?_⟩
      match t, hv with
      | 0, hv => cases hv; exact q0
      | 1, hv => cases hv; exact q1
      | 2, hv => cases hv; exact q2
      | 3, hv => cases hv; exact q3
      | 4, hv => cases hv; exact q4
      | 5, hv => cases hv; exact q5
      | 6, hv => cases hv; exact q6
      | 7, hv => cases hv; exact q7
      | 8, hv => cases hv; exact q8
      | t + 9, hv => simp [inC] at hv
/-- A row of instructions. -/
theorem inss_openN {H : Type} {enc : TypeId × Value → H} {W : World} {base : Nat} {spare : Nat → Bool} {held : Bool} {fuel : Nat} {c0 : Value} {x : DataW H × List MemPlace} (h : DataW.trod enc Tryz.prog W base spare held fuel 47 [c0] = some x) :
    ∃ (ao : Option Addr) (c : Nat) (l : List Ins), c0 = .slice ao l.length c ∧ InsA W ao c l ∧ ∀ i ∈ l, I64 i.n := by
  obtain ⟨ao, c, l, e, h1, h2, h3, h4⟩ := row_open (fun y : Ins => (ArA W y.ar y.ac y.gs ∧ y.nm.size ≤ maxLen) ∧ I64 y.n) inC ⟨0, 0, 0, 0, 0, ⟨#[]⟩, none, 0, [], 0, 0⟩ Tryz.underlying47 cells54 ins_openN h
  exact ⟨ao, c, l, e, ⟨h1, h2, fun i hi => (h3 i hi).1, h4⟩, fun i hi => (h3 i hi).2⟩
set_option maxRecDepth 100000 in
/-- A block. -/
theorem blk_openN {H : Type} {enc : TypeId × Value → H} {W : World} {base : Nat} {spare : Nat → Bool} {held : Bool} (fuel : Nat) (A : Addr) (cs : List Value) (x : DataW H × List MemPlace) (hc : W.cells? base A 1 = some cs) (h : DataW.trod enc Tryz.prog W base spare held fuel 49 cs = some x) :
    ∃ y : Blk, A = ⟨A.block, A.off, none⟩ ∧ (InsA W y.xo y.xc y.l ∧ ∀ i ∈ y.l, I64 i.n) ∧ ∀ (t : Nat) (v : Value), ([Value.slice y.xo y.l.length y.xc])[t]? = some v → W.cell? ⟨A.block, A.off + t, none⟩ = some v := by
  obtain ⟨hl, hk⟩ := cells_at hc
  match cs, hl with
  | [c0], _ =>
    have q0 := hk 0 _ rfl
    have eA := spot_none (by simpa [Addr.add] using q0 : W.cell? A = _)
    obtain ⟨b, o, s⟩ := A
    obtain rfl : s = none := by simpa using eA
    rw [Addr.add_lit] at q0
    obtain ⟨xs, m, _, hx, hl2, hlen, hg⟩ := DataW.trod_struct Tryz.underlying49 h
    match xs, hlen with
    | [y0], _ =>
      have g0 := hg 0 _ rfl
      simp [cells47] at g0
      obtain ⟨a0, b0, l0, e0, p0⟩ := inss_openN g0
      subst e0
      refine ⟨⟨a0, b0, l0⟩, rfl, p0, fun t v hv => ?_⟩
      match t, hv with
      | 0, hv => cases hv; exact q0
      | t + 1, hv => simp at hv
/-- A row of blocks. -/
theorem blks_openN {H : Type} {enc : TypeId × Value → H} {W : World} {base : Nat} {spare : Nat → Bool} {held : Bool} {fuel : Nat} {c0 : Value} {x : DataW H × List MemPlace} (h : DataW.trod enc Tryz.prog W base spare held fuel 25 [c0] = some x) :
    ∃ (ao : Option Addr) (c : Nat) (l : List Blk), c0 = .slice ao l.length c ∧ BlkA W ao c l ∧ ∀ b ∈ l, ∀ i ∈ b.l, I64 i.n := by
  obtain ⟨ao, c, l, e, h1, h2, h3, h4⟩ := row_open (fun y : Blk => InsA W y.xo y.xc y.l ∧ ∀ i ∈ y.l, I64 i.n) (fun y => [.slice y.xo y.l.length y.xc]) ⟨none, 0, []⟩ Tryz.underlying25 cells49 blk_openN h
  refine ⟨ao, c, l, e, ⟨h1, h2, fun b hb => (h3 b hb).1, fun hl => ?_⟩, fun b hb => (h3 b hb).2⟩
  obtain ⟨g, o, e1, hc⟩ := h4 hl
  exact ⟨g, o, e1, fun j y hj => by simpa using hc j y hj 0 _ rfl⟩
set_option maxRecDepth 100000 in
/-- A function. -/
theorem fn_openN {H : Type} {enc : TypeId × Value → H} {W : World} {base : Nat} {spare : Nat → Bool} {held : Bool} (fuel : Nat) (A : Addr) (cs : List Value) (x : DataW H × List MemPlace) (hc : W.cells? base A 5 = some cs) (h : DataW.trod enc Tryz.prog W base spare held fuel 27 cs = some x) :
    ∃ y : Fun, A = ⟨A.block, A.off, none⟩ ∧ ((y.h.bl = y.bs.length ∧ y.h.nm.size ≤ maxLen ∧ BlkA W y.h.ba y.h.bc y.bs) ∧ ∀ b ∈ y.bs, ∀ i ∈ b.l, I64 i.n) ∧ ∀ (t : Nat) (v : Value), (fnC y.h)[t]? = some v → W.cell? ⟨A.block, A.off + t, none⟩ = some v := by
  obtain ⟨hl, hk⟩ := cells_at hc
  match cs, hl with
  | [c0, c1, c2, c3, c4], _ =>
    have q0 := hk 0 _ rfl
    have q1 := hk 1 _ rfl
    have q2 := hk 2 _ rfl
    have q3 := hk 3 _ rfl
    have q4 := hk 4 _ rfl
    have eA := spot_none (by simpa [Addr.add] using q0 : W.cell? A = _)
    obtain ⟨b, o, s⟩ := A
    obtain rfl : s = none := by simpa using eA
    rw [Addr.add_lit] at q0 q1 q2 q3 q4
    obtain ⟨xs, m, _, hx, hl2, hlen, hg⟩ := DataW.trod_struct Tryz.underlying27 h
    match xs, hlen with
    | [y0, y1, y2, y3, y4], _ =>
      have g0 := hg 0 _ rfl
      simp [cells9] at g0
      obtain ⟨n0, e0, _, z0⟩ := DataW.trod_string Tryz.underlying9 g0
      simp at e0
      subst e0
      have g1 := hg 1 _ rfl
      simp [cells3] at g1
      obtain ⟨n1, e1, _, _⟩ := DataW.trod_int Tryz.underlying3 g1
      simp at e1
      subst e1
      have g2 := hg 2 _ rfl
      simp [cells3] at g2
      obtain ⟨n2, e2, _, _⟩ := DataW.trod_int Tryz.underlying3 g2
      simp at e2
      subst e2
      have g3 := hg 3 _ rfl
      simp [cells3] at g3
      obtain ⟨n3, e3, _, _⟩ := DataW.trod_int Tryz.underlying3 g3
      simp at e3
      subst e3
      have g4 := hg 4 _ rfl
      simp [cells25] at g4
      obtain ⟨a4, b4, l4, e4, p4⟩ := blks_openN g4
      subst e4
      refine ⟨⟨⟨n0, n1, n2, n3, a4, l4.length, b4⟩, l4⟩, rfl, ⟨⟨rfl, z0, p4.1⟩, p4.2⟩, fun t v hv => ?_⟩
      match t, hv with
      | 0, hv => cases hv; exact q0
      | 1, hv => cases hv; exact q1
      | 2, hv => cases hv; exact q2
      | 3, hv => cases hv; exact q3
      | 4, hv => cases hv; exact q4
      | t + 5, hv => simp [fnC] at hv
/-- A program. -/
theorem fns_openN {H : Type} {enc : TypeId × Value → H} {W : World} {base : Nat} {spare : Nat → Bool} {held : Bool} {fuel : Nat} {c0 : Value} {x : DataW H × List MemPlace} (h : DataW.trod enc Tryz.prog W base spare held fuel 22 [c0] = some x) :
    ∃ (ao : Option Addr) (c : Nat) (l : List Fun), c0 = .slice ao l.length c ∧ FunA W ao c l ∧ N64 l := by
  obtain ⟨ao, c, l, e, h1, h2, h3, h4⟩ := row_open (fun y : Fun => (y.h.bl = y.bs.length ∧ y.h.nm.size ≤ maxLen ∧ BlkA W y.h.ba y.h.bc y.bs) ∧ ∀ b ∈ y.bs, ∀ i ∈ b.l, I64 i.n) (fun y => fnC y.h) ⟨⟨⟨#[]⟩, 0, 0, 0, none, 0, 0⟩, []⟩ Tryz.underlying22 cells27 fn_openN h
  exact ⟨ao, c, l, e, ⟨h1, h2, fun x hx => (h3 x hx).1, h4⟩, fun x hx => (h3 x hx).2⟩
set_option maxRecDepth 100000 in
/-- A program that is handed on. -/
theorem prog_openN {H : Type} {enc : TypeId × Value → H} {W : World} {base : Nat} {spare : Nat → Bool} {held : Bool} {r : Reach} {b0 : Nat} {v : Value} {d : DataW H} {ps : List MemPlace} (hv : Value.okWide Tryz.prog W r b0 22 v) (h : DataW.Trod enc Tryz.prog W base spare held 22 v d ps) :
    ∃ (ao : Option Addr) (c : Nat) (l : List Fun), v = .slice ao l.length c ∧ FunA W ao c l ∧ N64 l := by
  obtain ⟨fuel, hf⟩ := h
  obtain ⟨a, n, c, rfl⟩ := okWide_slice Tryz.underlying22 hv
  have hf' : DataW.trod enc Tryz.prog W base spare held fuel 22 [.slice a n c] = some (d, ps) := hf
  exact fns_openN hf'
end
end Go.Proofs.YtdppoblbenbafaaGreatDoor
