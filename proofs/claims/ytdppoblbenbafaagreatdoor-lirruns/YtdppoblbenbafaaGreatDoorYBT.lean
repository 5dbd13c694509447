/- lir.Run of any program. The document's own look at calls. -/
import Derived.Test.YtdppoblbenbafaaGreatDoorYBS
import Derived.Test.YtdppoblbenbafaaGreatDoorYBM
namespace Go.Proofs.YtdppoblbenbafaaGreatDoor
section
open Go.RowKit Go.Shelf
set_option maxRecDepth 20000
set_option maxHeartbeats 4000000
/-- What is told instead of a run. -/
def errV (p : List Fun) (n : Nat) (fuel : Int) : Int := if prB p then (if 65536 < n then 2 else if fuel < 0 then 1 else 0) else 6
theorem zx_new (w : World) : Bk (w.alloc (.cells #[.int .i64 0, .int .i64 0, .slice none 0 0, .int .i64 0] 36)) w.heap.size 36 [.int .i64 0, .int .i64 0, .slice none 0 0, .int .i64 0] := Bk.new w [.int .i64 0, .int .i64 0, .slice none 0 0, .int .i64 0] 36
theorem run_err (p : List Fun) (pp iv : Option Addr) (pc n ic : Nat) (fuel : Int) (w : World) (hT : Tfa w) (hI : FunA w pp pc p) (he : ¬ errV p n fuel = 0) : Calls Tryz.prog 13 #[.slice pp p.length pc, .slice iv n ic, .int .i64 fuel] w fun e w' => e = .returned (.tuple #[.agg #[.int .i64 0, .int .i64 0, .slice none 0 0, .int .i64 0], .int .i64 (errV p n fuel)]) ∧ Below w.heap.size w w' := by
  have HB0 : Hid (Below w.heap.size w (w.alloc (.cells #[.int .i64 0, .int .i64 0, .slice none 0 0, .int .i64 0] 36))) := (Below.refl _ _).alloc (Nat.le_refl _) _
  have HX : Hid (Bk (w.alloc (.cells #[.int .i64 0, .int .i64 0, .slice none 0 0, .int .i64 0] 36)) w.heap.size 36 [.int .i64 0, .int .i64 0, .slice none 0 0, .int .i64 0]) := zx_new w
  have HC : Hid (Calls Tryz.prog 9 #[.slice pp p.length pc] (w.alloc (.cells #[.int .i64 0, .int .i64 0, .slice none 0 0, .int .i64 0] 36)) fun e w' => e = .returned (.int .i64 (if prB p then 0 else 6)) ∧ Below (w.alloc (.cells #[.int .i64 0, .int .i64 0, .slice none 0 0, .int .i64 0] 36)).heap.size (w.alloc (.cells #[.int .i64 0, .int .i64 0, .slice none 0 0, .int .i64 0] 36)) w') := check28g p pp pc _ (hT.below HB0.out) (hI.below HB0.out)
  have hne : ∃ m, m = p.length := ⟨_, rfl⟩
  obtain ⟨m, hm⟩ := hne
  rw [← hm] at HC ⊢
  clear hT hI hm
  unfold errV at he ⊢
  generalize prB p = B at *
  cases B with
  | false =>
    simp only [Bool.false_eq_true, if_false] at HC ⊢
    clear he
    go_enter Tryz.func13, Tryz.ntmps13
    go_wp2_with fail
    refine HC.out.mono ?_
    rintro e w1 ⟨rfl, hb1⟩
    have HB1 : Hid (Below w.heap.size w w1) := HB0.out.trans (hb1.mono HB0.out.size)
    have hx := HX.out.below hb1
    have HX4 : Hid (Bk ((((w1.setCell ⟨w.heap.size, 0, none⟩ (.int .i64 0)).setCell ⟨w.heap.size, 1, none⟩ (.int .i64 0)).setCell ⟨w.heap.size, 2, none⟩ (.slice none 0 0)).setCell ⟨w.heap.size, 3, none⟩ (.int .i64 0)) w.heap.size 36 [.int .i64 0, .int .i64 0, .slice none 0 0, .int .i64 0]) := (((hx.set 0 (.int .i64 0)).set 1 (.int .i64 0)).set 2 (.slice none 0 0)).set 3 (.int .i64 0)
    have HB4 : Hid (Below w.heap.size w ((((w1.setCell ⟨w.heap.size, 0, none⟩ (.int .i64 0)).setCell ⟨w.heap.size, 1, none⟩ (.int .i64 0)).setCell ⟨w.heap.size, 2, none⟩ (.slice none 0 0)).setCell ⟨w.heap.size, 3, none⟩ (.int .i64 0))) := Onl.below (Nat.le_refl _) HB1.out (((((Onl.of_below (Below.refl _ _)).set (S := fun b => b = w.heap.size) rfl).set rfl).set rfl).set rfl) (fun b e => by omega)
    have x0 := hx.cell (j := 0) rfl
    have x1 := hx.cell (j := 1) rfl
    have x2 := hx.cell (j := 2) rfl
    have x3 := hx.cell (j := 3) rfl
    have zx0 := hx.fz 0
    have zx1 := hx.fz 1
    have zx2 := hx.fz 2
    have zx3 := hx.fz 3
    clear hb1 hx
    go_wp2
    clear x0 x1 x2 x3 zx0 zx1 zx2 zx3
    generalize ((((w1.setCell ⟨w.heap.size, 0, none⟩ (.int .i64 0)).setCell ⟨w.heap.size, 1, none⟩ (.int .i64 0)).setCell ⟨w.heap.size, 2, none⟩ (.slice none 0 0)).setCell ⟨w.heap.size, 3, none⟩ (.int .i64 0)) = Wf at *
    have c0 := HX4.out.cell (j := 0) rfl
    have c1 := HX4.out.cell (j := 1) rfl
    have c2 := HX4.out.cell (j := 2) rfl
    have c3 := HX4.out.cell (j := 3) rfl
    exact bodyPost_ret (v := .tuple #[.agg #[.int .i64 0, .int .i64 0, .slice none 0 0, .int .i64 0], .int .i64 6]) (by simp [results, Tryz.results13, go_sem, c0, c1, c2, c3]) rfl ⟨rfl, HB4.out⟩
  | true =>
    simp only [if_true] at HC he ⊢
    by_cases h1 : 65536 < n
    · rw [if_pos h1]
      clear he
      have h1' : (65536 : Int) < n := by omega
      go_enter Tryz.func13, Tryz.ntmps13
      go_wp2_with fail
      refine HC.out.mono ?_
      rintro e w1 ⟨rfl, hb1⟩
      have HB1 : Hid (Below w.heap.size w w1) := HB0.out.trans (hb1.mono HB0.out.size)
      have hx := HX.out.below hb1
      have HX4 : Hid (Bk ((((w1.setCell ⟨w.heap.size, 0, none⟩ (.int .i64 0)).setCell ⟨w.heap.size, 1, none⟩ (.int .i64 0)).setCell ⟨w.heap.size, 2, none⟩ (.slice none 0 0)).setCell ⟨w.heap.size, 3, none⟩ (.int .i64 0)) w.heap.size 36 [.int .i64 0, .int .i64 0, .slice none 0 0, .int .i64 0]) := (((hx.set 0 (.int .i64 0)).set 1 (.int .i64 0)).set 2 (.slice none 0 0)).set 3 (.int .i64 0)
      have HB4 : Hid (Below w.heap.size w ((((w1.setCell ⟨w.heap.size, 0, none⟩ (.int .i64 0)).setCell ⟨w.heap.size, 1, none⟩ (.int .i64 0)).setCell ⟨w.heap.size, 2, none⟩ (.slice none 0 0)).setCell ⟨w.heap.size, 3, none⟩ (.int .i64 0))) := Onl.below (Nat.le_refl _) HB1.out (((((Onl.of_below (Below.refl _ _)).set (S := fun b => b = w.heap.size) rfl).set rfl).set rfl).set rfl) (fun b e => by omega)
      have x0 := hx.cell (j := 0) rfl
      have x1 := hx.cell (j := 1) rfl
      have x2 := hx.cell (j := 2) rfl
      have x3 := hx.cell (j := 3) rfl
      have zx0 := hx.fz 0
      have zx1 := hx.fz 1
      have zx2 := hx.fz 2
      have zx3 := hx.fz 3
      clear hb1 hx
      go_wp2
      clear x0 x1 x2 x3 zx0 zx1 zx2 zx3
      generalize ((((w1.setCell ⟨w.heap.size, 0, none⟩ (.int .i64 0)).setCell ⟨w.heap.size, 1, none⟩ (.int .i64 0)).setCell ⟨w.heap.size, 2, none⟩ (.slice none 0 0)).setCell ⟨w.heap.size, 3, none⟩ (.int .i64 0)) = Wf at *
      have c0 := HX4.out.cell (j := 0) rfl
      have c1 := HX4.out.cell (j := 1) rfl
      have c2 := HX4.out.cell (j := 2) rfl
      have c3 := HX4.out.cell (j := 3) rfl
      exact bodyPost_ret (v := .tuple #[.agg #[.int .i64 0, .int .i64 0, .slice none 0 0, .int .i64 0], .int .i64 2]) (by simp [results, Tryz.results13, go_sem, c0, c1, c2, c3]) rfl ⟨rfl, HB4.out⟩
    · rw [if_neg h1] at he ⊢
      have h1' : ¬ (65536 : Int) < n := by omega
      by_cases h2 : fuel < 0
      · rw [if_pos h2]
        clear he
        go_enter Tryz.func13, Tryz.ntmps13
        go_wp2_with fail
        refine HC.out.mono ?_
        rintro e w1 ⟨rfl, hb1⟩
        have HB1 : Hid (Below w.heap.size w w1) := HB0.out.trans (hb1.mono HB0.out.size)
        have hx := HX.out.below hb1
        have HX4 : Hid (Bk ((((w1.setCell ⟨w.heap.size, 0, none⟩ (.int .i64 0)).setCell ⟨w.heap.size, 1, none⟩ (.int .i64 0)).setCell ⟨w.heap.size, 2, none⟩ (.slice none 0 0)).setCell ⟨w.heap.size, 3, none⟩ (.int .i64 0)) w.heap.size 36 [.int .i64 0, .int .i64 0, .slice none 0 0, .int .i64 0]) := (((hx.set 0 (.int .i64 0)).set 1 (.int .i64 0)).set 2 (.slice none 0 0)).set 3 (.int .i64 0)
        have HB4 : Hid (Below w.heap.size w ((((w1.setCell ⟨w.heap.size, 0, none⟩ (.int .i64 0)).setCell ⟨w.heap.size, 1, none⟩ (.int .i64 0)).setCell ⟨w.heap.size, 2, none⟩ (.slice none 0 0)).setCell ⟨w.heap.size, 3, none⟩ (.int .i64 0))) := Onl.below (Nat.le_refl _) HB1.out (((((Onl.of_below (Below.refl _ _)).set (S := fun b => b = w.heap.size) rfl).set rfl).set rfl).set rfl) (fun b e => by omega)
        have x0 := hx.cell (j := 0) rfl
        have x1 := hx.cell (j := 1) rfl
        have x2 := hx.cell (j := 2) rfl
        have x3 := hx.cell (j := 3) rfl
        have zx0 := hx.fz 0
        have zx1 := hx.fz 1
        have zx2 := hx.fz 2
        have zx3 := hx.fz 3
        clear hb1 hx
        go_wp2
        clear x0 x1 x2 x3 zx0 zx1 zx2 zx3
        generalize ((((w1.setCell ⟨w.heap.size, 0, none⟩ (.int .i64 0)).setCell ⟨w.heap.size, 1, none⟩ (.int .i64 0)).setCell ⟨w.heap.size, 2, none⟩ (.slice none 0 0)).setCell ⟨w.heap.size, 3, none⟩ (.int .i64 0)) = Wf at *
        have c0 := HX4.out.cell (j := 0) rfl
        have c1 := HX4.out.cell (j := 1) rfl
        have c2 := HX4.out.cell (j := 2) rfl
        have c3 := HX4.out.cell (j := 3) rfl
        exact bodyPost_ret (v := .tuple #[.agg #[.int .i64 0, .int .i64 0, .slice none 0 0, .int .i64 0], .int .i64 1]) (by simp [results, Tryz.results13, go_sem, c0, c1, c2, c3]) rfl ⟨rfl, HB4.out⟩
      · rw [if_neg h2] at he
        exact absurd rfl he
theorem run_ok (p : List Fun) (pp iv : Option Addr) (pc ic fuel : Nat) (l : List UInt8) (w : World) (hT : Tfa w) (hP : PwT w) (hp : PrF p) (hI : FunA w pp pc p) (hiv : InV w w (.slice iv l.length ic) l) (hl : l.length ≤ 65536) (hf : fuel ≤ 524288) : Calls Tryz.prog 13 #[.slice pp p.length pc, .slice iv l.length ic, .int .i64 fuel] w fun e w' => ∃ ov, e = .returned (.tuple #[.agg #[.int .i64 (runP p l fuel).en, .int .i64 (runP p l fuel).cd, ov, .int .i64 ((runP p l fuel).st : Nat)], .int .i64 0]) ∧ w'.ownsRow w.heap.size 5 1 ov (runP p l fuel).out.length (Lib.byteCells (runP p l fuel).out) ∧ Below w.heap.size w w' := by
  have HB0 : Hid (Below w.heap.size w (w.alloc (.cells #[.int .i64 0, .int .i64 0, .slice none 0 0, .int .i64 0] 36))) := (Below.refl _ _).alloc (Nat.le_refl _) _
  have HX : Hid (Bk (w.alloc (.cells #[.int .i64 0, .int .i64 0, .slice none 0 0, .int .i64 0] 36)) w.heap.size 36 [.int .i64 0, .int .i64 0, .slice none 0 0, .int .i64 0]) := zx_new w
  have hC := check28g p pp pc _ (hT.below HB0.out) (hI.below HB0.out)
  rw [if_pos hp.pr] at hC
  have HC : Hid (Calls Tryz.prog 9 #[.slice pp p.length pc] (w.alloc (.cells #[.int .i64 0, .int .i64 0, .slice none 0 0, .int .i64 0] 36)) fun e w' => e = .returned (.int .i64 0) ∧ Below (w.alloc (.cells #[.int .i64 0, .int .i64 0, .slice none 0 0, .int .i64 0] 36)).heap.size (w.alloc (.cells #[.int .i64 0, .int .i64 0, .slice none 0 0, .int .i64 0] 36)) w') := hC
  have HO : Hid (∀ w1, Below w.heap.size w w1 → Calls Tryz.prog 30 #[.slice pp p.length pc, .slice iv l.length ic, .int .i64 fuel] w1 fun e w' => ∃ ov, e = .returned (.agg #[.int .i64 (runP p l fuel).en, .int .i64 (runP p l fuel).cd, ov, .int .i64 ((runP p l fuel).st : Nat)]) ∧ w'.ownsRow w1.heap.size 5 1 ov (runP p l fuel).out.length (Lib.byteCells (runP p l fuel).out) ∧ Below w1.heap.size w1 w') := fun w1 hb => outcome_any p pp pc ic fuel iv l w1 hp (hI.below hb) (fun w' h => hP w' (hb.trans (h.mono hb.size))) (by
    obtain ⟨a, c, e1, e2, e3⟩ := hiv
    cases e1
    refine ⟨_, _, rfl, e2, fun h0 => ?_⟩
    obtain ⟨g9, o9, e4, e5, e6⟩ := e3 h0
    exact ⟨g9, o9, e4, Nat.lt_of_lt_of_le e5 hb.size, fun j b hj => (World.cell?_of_block (hb.block g9 e5)).trans (e6 j b hj)⟩) hf
  have h1' : ¬ (65536 : Int) < l.length := by omega
  have h2' : ¬ (fuel : Int) < 0 := by omega
  obtain ⟨m, hm⟩ : ∃ m, m = p.length := ⟨_, rfl⟩
  obtain ⟨n, hn⟩ : ∃ n, n = l.length := ⟨_, rfl⟩
  obtain ⟨O, hO⟩ : ∃ O, O = runP p l fuel := ⟨_, rfl⟩
  rw [← hm] at HC HO ⊢
  rw [← hn] at HO h1' ⊢
  rw [← hO] at HO ⊢
  clear hT hI hP hp hiv hm hn hO hC hl hf
  go_enter Tryz.func13, Tryz.ntmps13
  go_wp2_with fail
  refine HC.out.mono ?_
  rintro e w1 ⟨rfl, hb1⟩
  have HB1 : Hid (Below w.heap.size w w1) := HB0.out.trans (hb1.mono HB0.out.size)
  have HX1 : Hid (Bk w1 w.heap.size 36 [.int .i64 0, .int .i64 0, .slice none 0 0, .int .i64 0]) := HX.out.below hb1
  clear hb1
  go_wp2_with fail
  refine (HO.out w1 HB1.out).mono ?_
  rintro e w2 ⟨ov, rfl, hown, hb2⟩
  obtain ⟨cg, cn, cc, rfl⟩ : ∃ cg cn cc, ov = .slice cg cn cc := by
    obtain ⟨_, ⟨e, _⟩ | ⟨g9, cap9, cur9, e, _⟩⟩ := hown
    · exact ⟨_, _, _, e⟩
    · exact ⟨_, _, _, e⟩
  have hx := HX1.out.below hb2
  have ho5 := own_ne hown hx (by decide)
  have HX4 : Hid (Bk ((((w2.setCell ⟨w.heap.size, 0, none⟩ (.int .i64 O.en)).setCell ⟨w.heap.size, 1, none⟩ (.int .i64 O.cd)).setCell ⟨w.heap.size, 2, none⟩ (.slice cg cn cc)).setCell ⟨w.heap.size, 3, none⟩ (.int .i64 ((O.st : Nat) : Int))) w.heap.size 36 [.int .i64 O.en, .int .i64 O.cd, .slice cg cn cc, .int .i64 ((O.st : Nat) : Int)]) := (((hx.set 0 (.int .i64 O.en)).set 1 (.int .i64 O.cd)).set 2 (.slice cg cn cc)).set 3 (.int .i64 ((O.st : Nat) : Int))
  have HO4 : Hid (((((w2.setCell ⟨w.heap.size, 0, none⟩ (.int .i64 O.en)).setCell ⟨w.heap.size, 1, none⟩ (.int .i64 O.cd)).setCell ⟨w.heap.size, 2, none⟩ (.slice cg cn cc)).setCell ⟨w.heap.size, 3, none⟩ (.int .i64 ((O.st : Nat) : Int))).ownsRow w.heap.size 5 1 (.slice cg cn cc) O.out.length (Lib.byteCells O.out)) := own_low (own_set (own_set (own_set (own_set hown ho5) ho5) ho5) ho5) HB1.out.size
  have HB4 : Hid (Below w.heap.size w ((((w2.setCell ⟨w.heap.size, 0, none⟩ (.int .i64 O.en)).setCell ⟨w.heap.size, 1, none⟩ (.int .i64 O.cd)).setCell ⟨w.heap.size, 2, none⟩ (.slice cg cn cc)).setCell ⟨w.heap.size, 3, none⟩ (.int .i64 ((O.st : Nat) : Int)))) := Onl.below (Nat.le_refl _) (HB1.out.trans (hb2.mono HB1.out.size)) (((((Onl.of_below (Below.refl _ _)).set (S := fun b => b = w.heap.size) rfl).set rfl).set rfl).set rfl) (fun b e => by omega)
  have x0 := hx.cell (j := 0) rfl
  have x1 := hx.cell (j := 1) rfl
  have x2 := hx.cell (j := 2) rfl
  have x3 := hx.cell (j := 3) rfl
  have zx0 := hx.fz 0
  have zx1 := hx.fz 1
  have zx2 := hx.fz 2
  have zx3 := hx.fz 3
  clear hb2 hx hown ho5
  go_wp2
  clear x0 x1 x2 x3 zx0 zx1 zx2 zx3
  generalize ((((w2.setCell ⟨w.heap.size, 0, none⟩ (.int .i64 O.en)).setCell ⟨w.heap.size, 1, none⟩ (.int .i64 O.cd)).setCell ⟨w.heap.size, 2, none⟩ (.slice cg cn cc)).setCell ⟨w.heap.size, 3, none⟩ (.int .i64 ((O.st : Nat) : Int))) = Wf at *
  have c0 := HX4.out.cell (j := 0) rfl
  have c1 := HX4.out.cell (j := 1) rfl
  have c2 := HX4.out.cell (j := 2) rfl
  have c3 := HX4.out.cell (j := 3) rfl
  exact bodyPost_ret (v := .tuple #[.agg #[.int .i64 O.en, .int .i64 O.cd, .slice cg cn cc, .int .i64 ((O.st : Nat) : Int)], .int .i64 0]) (by simp [results, Tryz.results13, go_sem, c0, c1, c2, c3]) rfl ⟨_, rfl, HO4.out, HB4.out⟩
end
section
open Go.RowKit Go.Shelf
set_option maxHeartbeats 8000000
set_option maxRecDepth 20000
/-- Is a call right in a program? -/
def clB (l : List Fun) (i : Ins) : Bool := if i.op = 7 then (match rtA i.nm.data.toList with | some _ => true | none => (match fnOf l i.nm with | none => false | some y => y.h.pa == (i.gs.length : Int))) else true
def csB (l : List Fun) (bs : List Blk) : Bool := bs.all fun b => b.l.all (clB l)
theorem fi_cases (l : List Fun) (s : ByteArray) : (fiN l s = -1 ∧ fnOf l s = none) ∨ ∃ (k : Nat) (y : Fun), fiN l s = (k : Int) ∧ l[k]? = some y ∧ fnOf l s = some y := by
  cases h : l.findIdx? (fun y => decide (y.h.nm = s)) with
  | none =>
    refine .inl ⟨by unfold fiN; rw [h], ?_⟩
    rw [List.findIdx?_eq_none_iff] at h
    unfold fnOf
    rw [List.find?_eq_none]
    intro x hx
    rw [h x hx]
    simp
  | some k =>
    rw [List.findIdx?_eq_some_iff_getElem] at h
    obtain ⟨hk, h1, h2⟩ := h
    refine .inr ⟨k, l[k], ?_, List.getElem?_eq_getElem hk, ?_⟩
    · refine fiN_at (List.getElem?_eq_getElem hk) (by simpa using h1) (fun y hy => ?_)
      rw [List.mem_take_iff_getElem] at hy
      obtain ⟨j, hj, rfl⟩ := hy
      have := h2 j (by omega)
      simpa using this
    · unfold fnOf
      rw [List.find?_eq_some_iff_getElem]
      exact ⟨h1, k, hk, rfl, fun j hj => by have := h2 j hj; simpa using this⟩
theorem drew_below (w : World) (n : Nat) : Below w.heap.size w (w.drewN n) := ((G.refl w).drewN n).below
theorem rcalls28 (l : List Fun) (p : Option Addr) (pc : Nat) (f : Fnh) (bs : List Blk) (w : World) (hL : FunA w p pc l) (hl : f.bl = bs.length) (hI : BlkA w f.ba f.bc bs) : Calls Tryz.prog 28 #[.slice p l.length pc, fnhV f] w fun e w' => e = .returned (.bool (csB l bs)) ∧ Below w.heap.size w w' := by
  have HLF : Hid (FunA w p pc l) := hL
  have HI : Hid (BlkA w f.ba f.bc bs) := hI
  have HL : Hid (f.bl = bs.length) := hl
  have hxc : f.bl ≤ f.bc := by have := hI.1; omega
  have hxc2 := hI.2.1
  have hpc := hL.1
  have hpc2 := hL.2.1
  have KB : Hid (∀ (s : ByteArray) w, Calls Tryz.prog 67 #[.string s] w fun e w' => e = .returned (.int .i64 (blN s.data.toList)) ∧ w' = w) := fun s w => by
    have t := rbuilt67 s w
    rw [ByteArray.toList_eq] at t
    exact t
  have KF : Hid (∀ (s : ByteArray) W, Below w.heap.size w W → Calls Tryz.prog 27 #[.slice p l.length pc, .string s] W fun e w' => e = .returned (.int .i64 (fiN l s)) ∧ w' = W) := fun s W hW => rfind27 l p pc s W (HLF.out.below hW)
  clear hL hI hl
  have HBX : Hid (Bx1 w (w.alloc (.cells #[.string f.nm, .int .i64 f.pa, .int .i64 f.rg, .int .i64 f.fr, .slice f.ba f.bl f.bc] 27)) f) := bx1 w f
  have HE0 : Hid (csB l bs = csB l (bs.drop 0)) := rfl
  obtain ⟨m, hm⟩ : ∃ m, m = l.length := ⟨_, rfl⟩
  have HM : Hid (m = l.length) := hm
  rw [← hm] at hpc KF ⊢
  clear hm
  unfold fnhV
  generalize csB l bs = R at *
  go_enter Tryz.func28, Tryz.ntmps28
  go_wp2
  obtain ⟨W, hWe, HX0⟩ : ∃ W, W = w.alloc (.cells #[.string f.nm, .int .i64 f.pa, .int .i64 f.rg, .int .i64 f.fr, .slice f.ba f.bl f.bc] 27) ∧ Hid (Bx1 w W f) := ⟨_, rfl, HBX.out⟩
  rw [← hWe]
  clear hWe HBX
  go_loopw [5, 6, 7, 8] (fun v _ _ _ wx => ∃ j : Nat, j ≤ f.bl ∧ v = .int .i64 j ∧ Below W.heap.size W wx ∧ R = csB l (bs.drop j)) (fun v _ _ _ _ => f.bl - (intOf v).toNat)
  case atStart => exact ⟨0, Nat.zero_le _, rfl, Below.refl _ _, HE0.out⟩
  case round =>
    obtain ⟨j, hj, rfl, hGx, hRu⟩ := hrel
    generalize wr = V at *
    have HX : Hid (Below W.heap.size W V) := hGx
    have HXw : Hid (Below w.heap.size w V) := HX0.out.g.below.trans (hGx.mono HX0.out.g.below.size)
    have HRu : Hid (R = csB l (bs.drop j)) := hRu
    have HY : Hid (V.cell? ⟨w.heap.size, 4, none⟩ = some (.slice f.ba f.bl f.bc)) := by show _ = _; rw [hGx.cell (p := ⟨w.heap.size, 4, none⟩) HX0.out.sz]; exact HX0.out.f4
    have a4 := HY.out
    clear hRu HE0 hGx
    by_cases hlt : j < f.bl
    · obtain ⟨b, hi⟩ : ∃ b, bs[j]? = some b := ⟨_, List.getElem?_eq_getElem (by have := HL.out; omega)⟩
      obtain ⟨g, oo, hxo, hcc⟩ := (HI.out.below HXw.out).2.2.2 (by have := HL.out; omega)
      have d0 := hcc j b hi
      have HD0 : Hid (V.cell? ⟨g, oo + j, none⟩ = some (.slice b.xo b.l.length b.xc)) := d0
      have HU : Hid (csB l (bs.drop j) = (b.l.all (clB l) && csB l (bs.drop (j + 1)))) := by
        show _ = _
        obtain ⟨hj2, e⟩ := List.getElem?_eq_some_iff.1 hi
        rw [List.drop_eq_getElem_cons hj2, e]
        rfl
      have HIb : Hid (InsA w b.xo b.xc b.l) := HI.out.2.2.1 b (List.mem_of_getElem? hi)
      have hbc := HIb.out.1
      have hbc2 := HIb.out.2.1
      rw [hxo] at a4
      have HY4 : Hid (V.cell? ⟨w.heap.size, 4, none⟩ = some (.slice (some ⟨g, oo, none⟩) f.bl f.bc)) := a4
      clear hcc hi hxo
      obtain ⟨n, hnn⟩ : ∃ n, n = b.l.length := ⟨_, rfl⟩
      have HNn : Hid (n = b.l.length) := hnn
      rw [← hnn] at hbc d0 HD0
      clear hnn
      generalize b.xo = xo at *
      generalize b.xc = xc at *
      generalize b.l = ll at *
      have HE1 : Hid (R = ((ll.drop 0).all (clB l) && csB l (bs.drop (j + 1)))) := by show _ = _; rw [HRu.out, HU.out]; rfl
      go_wp2_with fail
      go_loopw [6, 7, 8] (fun v _ _ wx => ∃ k : Nat, k ≤ n ∧ v = .int .i64 k ∧ Below V.heap.size V wx ∧ R = ((ll.drop k).all (clB l) && csB l (bs.drop (j + 1)))) (fun v _ _ _ => n - (intOf v).toNat)
      case atStart => exact ⟨0, Nat.zero_le _, rfl, Below.refl _ _, HE1.out⟩
      case round =>
        obtain ⟨k, hk, rfl, hGy, hRv⟩ := hrel
        have HX2 : Hid (Below V.heap.size V wr) := hGy
        have HX2w : Hid (Below w.heap.size w wr) := HXw.out.trans (hGy.mono HXw.out.size)
        have HRv : Hid (R = ((ll.drop k).all (clB l) && csB l (bs.drop (j + 1)))) := hRv
        clear a4 d0
        have a4 := HY4.out
        have d0 := HD0.out
        have l4 := World.block_lt_of_cell? _ _ a4
        have l0 := World.block_lt_of_cell? _ _ d0
        rw [← hGy.cell (p := ⟨w.heap.size, 4, none⟩) l4] at a4
        rw [← hGy.cell (p := ⟨g, oo + j, none⟩) l0] at d0
        clear hRv HE1 l4 l0 hGy
        have l4 := World.block_lt_of_cell? _ _ a4
        have l0 := World.block_lt_of_cell? _ _ d0
        by_cases hkt : k < n
        · obtain ⟨i, hi⟩ : ∃ i, ll[k]? = some i := ⟨_, List.getElem?_eq_getElem (by have := HNn.out; omega)⟩
          have hIw := HIb.out.below HX2w.out
          obtain ⟨g2, o2, hxo2, hcc⟩ := hIw.2.2.2 (by have := HNn.out; omega)
          have e0 := hcc k i hi 0 _ rfl
          have e1 := hcc k i hi 1 _ rfl
          have e2 := hcc k i hi 2 _ rfl
          have e3 := hcc k i hi 3 _ rfl
          have e4 := hcc k i hi 4 _ rfl
          have e5 := hcc k i hi 5 _ rfl
          have e6 := hcc k i hi 6 _ rfl
          have e7 := hcc k i hi 7 _ rfl
          have e8 := hcc k i hi 8 _ rfl
          rw [Nat.add_zero] at e0
          have HU2 : Hid ((ll.drop k).all (clB l) = (clB l i && (ll.drop (k + 1)).all (clB l))) := by
            show _ = _
            obtain ⟨hj2, e⟩ := List.getElem?_eq_some_iff.1 hi
            rw [List.drop_eq_getElem_cons hj2, e]
            rfl
          have hal := (hIw.2.2.1 i (List.mem_of_getElem? hi)).1.1
          have hal2 := (hIw.2.2.1 i (List.mem_of_getElem? hi)).1.2.1
          clear hcc hi hIw
          subst hxo2
          have HV : Hid (clB l i = if i.op = 7 then (match rtA i.nm.data.toList with | some _ => true | none => (match fnOf l i.nm with | none => false | some y => y.h.pa == (i.gs.length : Int))) else true) := rfl
          generalize clB l i = XC at *
          generalize i.gs.length = al at *
          have HR2 : Hid (R = ((XC && (ll.drop (k + 1)).all (clB l)) && csB l (bs.drop (j + 1)))) := by show _ = _; rw [HRv.out, HU2.out]
          have HGO : Hid (XC = true → R = ((ll.drop (k + 1)).all (clB l) && csB l (bs.drop (j + 1)))) := fun h => by rw [HR2.out, h]; rfl
          have HNO : Hid (XC = false → false = R) := fun h => by rw [HR2.out, h]; rfl
          clear HRv HU2 HR2
          have HBA : Hid (∀ o, Below V.heap.size V (wr.alloc o)) := fun o => HX2.out.alloc HX2.out.size o
          have HBw : Hid (∀ o, Below w.heap.size w (wr.alloc o)) := fun o => HX2w.out.alloc HX2w.out.size o
          by_cases h7 : i.op = 7
          · have q7 : (i.op != 7) = false := by simp [h7]
            have kB := KB.out i.nm
            cases hr : rtA i.nm.data.toList with
            | some q =>
              have hb : blN i.nm.data.toList = q := by unfold blN; rw [hr]
              have hq := rtA_pos hr
              rw [hb] at kB
              have HXt : Hid (XC = true) := by show _ = _; rw [HV.out, if_pos h7, hr]
              clear hb hr h7 HV
              go_wp2_with (first | (go_at_call 67; refine (kB _).mono ?_; rintro e wb ⟨rfl, rfl⟩))
              go_round
              case rel => exact ⟨k + 1, by omega, by go_num, HBA.out _, HGO.out HXt.out⟩
              case measure => simp [intOf]; omega
            | none =>
              have hb : blN i.nm.data.toList = -1 := by unfold blN; rw [hr]
              rw [hb] at kB
              have kF := fun o => KF.out i.nm (wr.alloc o) (HBw.out o)
              have HV2 : Hid (XC = (match fnOf l i.nm with | none => false | some y => y.h.pa == (al : Int))) := by show _ = _; rw [HV.out, if_pos h7, hr]
              clear hb hr h7 HV
              rcases fi_cases l i.nm with ⟨f1, f2⟩ | ⟨kk, y, f1, f2, f3⟩
              · have HXt : Hid (XC = false) := by show _ = _; rw [HV2.out, f2]
                rw [f1] at kF
                clear f1 f2
                go_wp2_with (first | (go_at_call 67; refine (kB _).mono ?_; rintro e wb ⟨rfl, rfl⟩) | (go_at_call 27; refine (kF _).mono ?_; rintro e wc ⟨rfl, rfl⟩))
                go_quiet (fail)
                go_wp2
                go_ret
                exact ⟨ret_bool (HNO.out HXt.out), (HBw.out _).trans ((drew_below _ nq).mono (HBw.out _).size)⟩
              · have HXv : Hid (XC = (y.h.pa == (al : Int))) := by show _ = _; rw [HV2.out, f3]
                have hkm : kk < m := by have := HM.out; have := (List.getElem?_eq_some_iff.1 f2).1; omega
                rw [f1] at kF
                obtain ⟨gp, op, hp, hcp⟩ := (HLF.out.below HX2w.out).2.2.2 (by have := HM.out; omega)
                have c1 := hcp kk y f2 1 _ rfl
                have hgp : gp < wr.heap.size := World.block_lt_of_cell? _ _ c1
                have c2 := acell hgp c1
                clear f1 f2 f3 hcp
                subst hp
                by_cases hpa : y.h.pa = (al : Int)
                · have q8 : (y.h.pa != (al : Int)) = false := by simpa using hpa
                  have HXt : Hid (XC = true) := by show _ = _; rw [HXv.out]; simpa using hpa
                  clear hpa
                  go_wp2_with (first | (go_at_call 67; refine (kB _).mono ?_; rintro e wb ⟨rfl, rfl⟩) | (go_at_call 27; refine (kF _).mono ?_; rintro e wc ⟨rfl, rfl⟩))
                  go_quiet (fail)
                  go_wp2
                  go_round
                  case rel => exact ⟨k + 1, by omega, by go_num, (HBA.out _).trans ((drew_below _ nq).mono (HBA.out _).size), HGO.out HXt.out⟩
                  case measure => simp [intOf]; omega
                · have q8 : (y.h.pa != (al : Int)) = true := by simpa using hpa
                  have HXt : Hid (XC = false) := by show _ = _; rw [HXv.out]; simpa using hpa
                  clear hpa
                  go_wp2_with (first | (go_at_call 67; refine (kB _).mono ?_; rintro e wb ⟨rfl, rfl⟩) | (go_at_call 27; refine (kF _).mono ?_; rintro e wc ⟨rfl, rfl⟩))
                  go_quiet (fail)
                  go_wp2
                  go_ret
                  exact ⟨ret_bool (HNO.out HXt.out), (HBw.out _).trans ((drew_below _ nq).mono (HBw.out _).size)⟩
          · have q7 : (i.op != 7) = true := by simpa using h7
            have HXt : Hid (XC = true) := by show _ = _; rw [HV.out, if_neg h7]
            clear h7 HV
            go_wp2
            go_round
            case rel => exact ⟨k + 1, by omega, by go_num, HBA.out _, HGO.out HXt.out⟩
            case measure => simp [intOf]; omega
        · obtain rfl : k = n := by omega
          have HE : Hid (R = csB l (bs.drop (j + 1))) := by show _ = _; rw [HRv.out, List.drop_eq_nil_of_le (by have := HNn.out; omega)]; rfl
          go_wp2
          go_round
          case rel => exact ⟨j + 1, by omega, by go_num, HX.out.trans (HX2.out.mono HX.out.size), HE.out⟩
          case measure => simp [intOf]; omega
    · obtain rfl : j = f.bl := by omega
      have HE : Hid (true = R) := by show _ = _; rw [HRu.out, List.drop_eq_nil_of_le (by have := HL.out; omega)]; rfl
      go_wp2
      go_ret
      exact ⟨ret_bool HE.out, HXw.out⟩
end
end Go.Proofs.YtdppoblbenbafaaGreatDoor
