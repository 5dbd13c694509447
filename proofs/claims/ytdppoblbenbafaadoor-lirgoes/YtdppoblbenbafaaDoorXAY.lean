/- lir.Run of any program. Whether a program touches memory by an address. A program that touches no memory by an address ends or stops. At most 5000. What the row lists of the table of forms; a world for the witness. -/
import Derived.Test.YtdppoblbenbafaaDoorRG
import Derived.Test.YtdppoblbenbafaaDoorCards
import Derived.Test.YtdppoblbenbafaaDoorTie
import Derived.Test.YtdppoblbenbafaaDoorXAF
import Derived.ProofKit
import Derived.OpenShut
import Derived.Deep.DeepHandedRow
import Derived.Deep.DeepWitnessRowRef
import Derived.Deep.DeepLaidRun
import Derived.LaidMore
import Derived.Lib.LaidTab
import Derived.Lib.LaidU8
import Derived.Lib.SmallJoins
namespace Go.Proofs.YtdppoblbenbafaaDoor
section
open Go.RowKit Go.Shelf
/-- What is told instead of a run. -/
def errV (p : List Fun) (n : Nat) (fuel : Int) : Int := if prB p then (if 65536 < n then 2 else if fuel < 0 then 1 else 0) else 6
theorem zx_new (w : World) : Bk (w.alloc (.cells #[.int .i64 0, .int .i64 0, .slice none 0 0, .int .i64 0] 30)) w.heap.size 30 [.int .i64 0, .int .i64 0, .slice none 0 0, .int .i64 0] := Bk.new w [.int .i64 0, .int .i64 0, .slice none 0 0, .int .i64 0] 30
set_option maxRecDepth 20000 in
set_option maxHeartbeats 4000000 in
theorem run_err (p : List Fun) (pp iv : Option Addr) (pc n ic : Nat) (fuel : Int) (w : World) (hT : Tfa w) (hI : FunA w pp pc p) (he : ¬ errV p n fuel = 0) : Calls Tryd.prog 7 #[.slice pp p.length pc, .slice iv n ic, .int .i64 fuel] w fun e w' => e = .returned (.tuple #[.agg #[.int .i64 0, .int .i64 0, .slice none 0 0, .int .i64 0], .int .i64 (errV p n fuel)]) ∧ Below w.heap.size w w' := by
  have HB0 : Hid (Below w.heap.size w (w.alloc (.cells #[.int .i64 0, .int .i64 0, .slice none 0 0, .int .i64 0] 30))) := (Below.refl _ _).alloc (Nat.le_refl _) _
  have HX : Hid (Bk (w.alloc (.cells #[.int .i64 0, .int .i64 0, .slice none 0 0, .int .i64 0] 30)) w.heap.size 30 [.int .i64 0, .int .i64 0, .slice none 0 0, .int .i64 0]) := zx_new w
  have HC : Hid (Calls Tryd.prog 12 #[.slice pp p.length pc] (w.alloc (.cells #[.int .i64 0, .int .i64 0, .slice none 0 0, .int .i64 0] 30)) fun e w' => e = .returned (.int .i64 (if prB p then 0 else 6)) ∧ Below (w.alloc (.cells #[.int .i64 0, .int .i64 0, .slice none 0 0, .int .i64 0] 30)).heap.size (w.alloc (.cells #[.int .i64 0, .int .i64 0, .slice none 0 0, .int .i64 0] 30)) w') := check28g p pp pc _ (hT.below HB0.out) (hI.below HB0.out)
  have hne : ∃ m, m = p.length := ⟨_, rfl⟩
  obtain ⟨m, hm⟩ := hne
  rw [← hm] at HC ⊢
  clear hT hI hm
  unfold errV at he ⊢
  generalize prB p = B at *
  cases B with
  | false =>
    simp only [Bool.false_eq_true, if_false] at HC ⊢
    clear he
    go_enter Tryd.func7, Tryd.ntmps7
    go_wp2_with fail
    refine HC.out.mono ?_
    rintro e w1 ⟨rfl, hb1⟩
    have HB1 : Hid (Below w.heap.size w w1) := HB0.out.trans (hb1.mono HB0.out.size)
    have hx := HX.out.below hb1
    have HX4 : Hid (Bk ((((w1.setCell ⟨w.heap.size, 0, none⟩ (.int .i64 0)).setCell ⟨w.heap.size, 1, none⟩ (.int .i64 0)).setCell ⟨w.heap.size, 2, none⟩ (.slice none 0 0)).setCell ⟨w.heap.size, 3, none⟩ (.int .i64 0)) w.heap.size 30 [.int .i64 0, .int .i64 0, .slice none 0 0, .int .i64 0]) := (((hx.set 0 (.int .i64 0)).set 1 (.int .i64 0)).set 2 (.slice none 0 0)).set 3 (.int .i64 0)
    have HB4 : Hid (Below w.heap.size w ((((w1.setCell ⟨w.heap.size, 0, none⟩ (.int .i64 0)).setCell ⟨w.heap.size, 1, none⟩ (.int .i64 0)).setCell ⟨w.heap.size, 2, none⟩ (.slice none 0 0)).setCell ⟨w.heap.size, 3, none⟩ (.int .i64 0))) := Onl.below (Nat.le_refl _) HB1.out (((((Onl.of_below (Below.refl _ _)).set (S := fun b => b = w.heap.size) rfl).set rfl).set rfl).set rfl) (fun b e => by omega)
    have x0 := hx.cell (j := 0) rfl
    have x1 := hx.cell (j := 1) rfl
    have x2 := hx.cell (j := 2) rfl
    have x3 := hx.cell (j := 3) rfl
    have zx0 := hx.fz 0
    have zx1 := hx.fz 1
    have zx2 := hx.fz 2
    have zx3 := hx.fz 3
    clear hb1 hx
    go_wp2
    clear x0 x1 x2 x3 zx0 zx1 zx2 zx3
    generalize ((((w1.setCell ⟨w.heap.size, 0, none⟩ (.int .i64 0)).setCell ⟨w.heap.size, 1, none⟩ (.int .i64 0)).setCell ⟨w.heap.size, 2, none⟩ (.slice none 0 0)).setCell ⟨w.heap.size, 3, none⟩ (.int .i64 0)) = Wf at *
    have c0 := HX4.out.cell (j := 0) rfl
    have c1 := HX4.out.cell (j := 1) rfl
    have c2 := HX4.out.cell (j := 2) rfl
    have c3 := HX4.out.cell (j := 3) rfl
    exact bodyPost_ret (v := .tuple #[.agg #[.int .i64 0, .int .i64 0, .slice none 0 0, .int .i64 0], .int .i64 6]) (by simp [results, Tryd.results7, go_sem, c0, c1, c2, c3]) rfl ⟨rfl, HB4.out⟩
  | true =>
    simp only [if_true] at HC he ⊢
    by_cases h1 : 65536 < n
    · rw [if_pos h1]
      clear he
      have h1' : (65536 : Int) < n := by omega
      go_enter Tryd.func7, Tryd.ntmps7
      go_wp2_with fail
      refine HC.out.mono ?_
      rintro e w1 ⟨rfl, hb1⟩
      have HB1 : Hid (Below w.heap.size w w1) := HB0.out.trans (hb1.mono HB0.out.size)
      have hx := HX.out.below hb1
      have HX4 : Hid (Bk ((((w1.setCell ⟨w.heap.size, 0, none⟩ (.int .i64 0)).setCell ⟨w.heap.size, 1, none⟩ (.int .i64 0)).setCell ⟨w.heap.size, 2, none⟩ (.slice none 0 0)).setCell ⟨w.heap.size, 3, none⟩ (.int .i64 0)) w.heap.size 30 [.int .i64 0, .int .i64 0, .slice none 0 0, .int .i64 0]) := (((hx.set 0 (.int .i64 0)).set 1 (.int .i64 0)).set 2 (.slice none 0 0)).set 3 (.int .i64 0)
      have HB4 : Hid (Below w.heap.size w ((((w1.setCell ⟨w.heap.size, 0, none⟩ (.int .i64 0)).setCell ⟨w.heap.size, 1, none⟩ (.int .i64 0)).setCell ⟨w.heap.size, 2, none⟩ (.slice none 0 0)).setCell ⟨w.heap.size, 3, none⟩ (.int .i64 0))) := Onl.below (Nat.le_refl _) HB1.out (((((Onl.of_below (Below.refl _ _)).set (S := fun b => b = w.heap.size) rfl).set rfl).set rfl).set rfl) (fun b e => by omega)
      have x0 := hx.cell (j := 0) rfl
      have x1 := hx.cell (j := 1) rfl
      have x2 := hx.cell (j := 2) rfl
      have x3 := hx.cell (j := 3) rfl
      have zx0 := hx.fz 0
      have zx1 := hx.fz 1
      have zx2 := hx.fz 2
      have zx3 := hx.fz 3
      clear hb1 hx
      go_wp2
      clear x0 x1 x2 x3 zx0 zx1 zx2 zx3
      generalize ((((w1.setCell ⟨w.heap.size, 0, none⟩ (.int .i64 0)).setCell ⟨w.heap.size, 1, none⟩ (.int .i64 0)).setCell ⟨w.heap.size, 2, none⟩ (.slice none 0 0)).setCell ⟨w.heap.size, 3, none⟩ (.int .i64 0)) = Wf at *
      have c0 := HX4.out.cell (j := 0) rfl
      have c1 := HX4.out.cell (j := 1) rfl
      have c2 := HX4.out.cell (j := 2) rfl
      have c3 := HX4.out.cell (j := 3) rfl
      exact bodyPost_ret (v := .tuple #[.agg #[.int .i64 0, .int .i64 0, .slice none 0 0, .int .i64 0], .int .i64 2]) (by simp [results, Tryd.results7, go_sem, c0, c1, c2, c3]) rfl ⟨rfl, HB4.out⟩
    · rw [if_neg h1] at he ⊢
      have h1' : ¬ (65536 : Int) < n := by omega
      by_cases h2 : fuel < 0
      · rw [if_pos h2]
        clear he
        go_enter Tryd.func7, Tryd.ntmps7
        go_wp2_with fail
        refine HC.out.mono ?_
        rintro e w1 ⟨rfl, hb1⟩
        have HB1 : Hid (Below w.heap.size w w1) := HB0.out.trans (hb1.mono HB0.out.size)
        have hx := HX.out.below hb1
        have HX4 : Hid (Bk ((((w1.setCell ⟨w.heap.size, 0, none⟩ (.int .i64 0)).setCell ⟨w.heap.size, 1, none⟩ (.int .i64 0)).setCell ⟨w.heap.size, 2, none⟩ (.slice none 0 0)).setCell ⟨w.heap.size, 3, none⟩ (.int .i64 0)) w.heap.size 30 [.int .i64 0, .int .i64 0, .slice none 0 0, .int .i64 0]) := (((hx.set 0 (.int .i64 0)).set 1 (.int .i64 0)).set 2 (.slice none 0 0)).set 3 (.int .i64 0)
        have HB4 : Hid (Below w.heap.size w ((((w1.setCell ⟨w.heap.size, 0, none⟩ (.int .i64 0)).setCell ⟨w.heap.size, 1, none⟩ (.int .i64 0)).setCell ⟨w.heap.size, 2, none⟩ (.slice none 0 0)).setCell ⟨w.heap.size, 3, none⟩ (.int .i64 0))) := Onl.below (Nat.le_refl _) HB1.out (((((Onl.of_below (Below.refl _ _)).set (S := fun b => b = w.heap.size) rfl).set rfl).set rfl).set rfl) (fun b e => by omega)
        have x0 := hx.cell (j := 0) rfl
        have x1 := hx.cell (j := 1) rfl
        have x2 := hx.cell (j := 2) rfl
        have x3 := hx.cell (j := 3) rfl
        have zx0 := hx.fz 0
        have zx1 := hx.fz 1
        have zx2 := hx.fz 2
        have zx3 := hx.fz 3
        clear hb1 hx
        go_wp2
        clear x0 x1 x2 x3 zx0 zx1 zx2 zx3
        generalize ((((w1.setCell ⟨w.heap.size, 0, none⟩ (.int .i64 0)).setCell ⟨w.heap.size, 1, none⟩ (.int .i64 0)).setCell ⟨w.heap.size, 2, none⟩ (.slice none 0 0)).setCell ⟨w.heap.size, 3, none⟩ (.int .i64 0)) = Wf at *
        have c0 := HX4.out.cell (j := 0) rfl
        have c1 := HX4.out.cell (j := 1) rfl
        have c2 := HX4.out.cell (j := 2) rfl
        have c3 := HX4.out.cell (j := 3) rfl
        exact bodyPost_ret (v := .tuple #[.agg #[.int .i64 0, .int .i64 0, .slice none 0 0, .int .i64 0], .int .i64 1]) (by simp [results, Tryd.results7, go_sem, c0, c1, c2, c3]) rfl ⟨rfl, HB4.out⟩
      · rw [if_neg h2] at he
        exact absurd rfl he
set_option maxRecDepth 20000 in
set_option maxHeartbeats 4000000 in
theorem run_ok (p : List Fun) (pp iv : Option Addr) (pc ic fuel : Nat) (l : List UInt8) (w : World) (hT : Tfa w) (hP : PwT w) (hp : PrF p) (hI : FunA w pp pc p) (hiv : InV w w (.slice iv l.length ic) l) (hl : l.length ≤ 65536) (hf : fuel ≤ 524288) : Calls Tryd.prog 7 #[.slice pp p.length pc, .slice iv l.length ic, .int .i64 fuel] w fun e w' => ∃ ov, e = .returned (.tuple #[.agg #[.int .i64 (runP p l fuel).en, .int .i64 (runP p l fuel).cd, ov, .int .i64 ((runP p l fuel).st : Nat)], .int .i64 0]) ∧ w'.ownsRow w.heap.size 5 1 ov (runP p l fuel).out.length (Lib.byteCells (runP p l fuel).out) ∧ Below w.heap.size w w' := by
  have HB0 : Hid (Below w.heap.size w (w.alloc (.cells #[.int .i64 0, .int .i64 0, .slice none 0 0, .int .i64 0] 30))) := (Below.refl _ _).alloc (Nat.le_refl _) _
  have HX : Hid (Bk (w.alloc (.cells #[.int .i64 0, .int .i64 0, .slice none 0 0, .int .i64 0] 30)) w.heap.size 30 [.int .i64 0, .int .i64 0, .slice none 0 0, .int .i64 0]) := zx_new w
  have hC := check28g p pp pc _ (hT.below HB0.out) (hI.below HB0.out)
  rw [if_pos hp.pr] at hC
  have HC : Hid (Calls Tryd.prog 12 #[.slice pp p.length pc] (w.alloc (.cells #[.int .i64 0, .int .i64 0, .slice none 0 0, .int .i64 0] 30)) fun e w' => e = .returned (.int .i64 0) ∧ Below (w.alloc (.cells #[.int .i64 0, .int .i64 0, .slice none 0 0, .int .i64 0] 30)).heap.size (w.alloc (.cells #[.int .i64 0, .int .i64 0, .slice none 0 0, .int .i64 0] 30)) w') := hC
  have HO : Hid (∀ w1, Below w.heap.size w w1 → Calls Tryd.prog 13 #[.slice pp p.length pc, .slice iv l.length ic, .int .i64 fuel] w1 fun e w' => ∃ ov, e = .returned (.agg #[.int .i64 (runP p l fuel).en, .int .i64 (runP p l fuel).cd, ov, .int .i64 ((runP p l fuel).st : Nat)]) ∧ w'.ownsRow w1.heap.size 5 1 ov (runP p l fuel).out.length (Lib.byteCells (runP p l fuel).out) ∧ Below w1.heap.size w1 w') := fun w1 hb => outcome_any p pp pc ic fuel iv l w1 hp (hI.below hb) (fun w' h => hP w' (hb.trans (h.mono hb.size))) (by
    obtain ⟨a, c, e1, e2, e3⟩ := hiv
    cases e1
    refine ⟨_, _, rfl, e2, fun h0 => ?_⟩
    obtain ⟨g9, o9, e4, e5, e6⟩ := e3 h0
    exact ⟨g9, o9, e4, Nat.lt_of_lt_of_le e5 hb.size, fun j b hj => (World.cell?_of_block (hb.block g9 e5)).trans (e6 j b hj)⟩) hf
  have h1' : ¬ (65536 : Int) < l.length := by omega
  have h2' : ¬ (fuel : Int) < 0 := by omega
  obtain ⟨m, hm⟩ : ∃ m, m = p.length := ⟨_, rfl⟩
  obtain ⟨n, hn⟩ : ∃ n, n = l.length := ⟨_, rfl⟩
  obtain ⟨O, hO⟩ : ∃ O, O = runP p l fuel := ⟨_, rfl⟩
  rw [← hm] at HC HO ⊢
  rw [← hn] at HO h1' ⊢
  rw [← hO] at HO ⊢
  clear hT hI hP hp hiv hm hn hO hC hl hf
  go_enter Tryd.func7, Tryd.ntmps7
  go_wp2_with fail
  refine HC.out.mono ?_
  rintro e w1 ⟨rfl, hb1⟩
  have HB1 : Hid (Below w.heap.size w w1) := HB0.out.trans (hb1.mono HB0.out.size)
  have HX1 : Hid (Bk w1 w.heap.size 30 [.int .i64 0, .int .i64 0, .slice none 0 0, .int .i64 0]) := HX.out.below hb1
  clear hb1
  go_wp2_with fail
  refine (HO.out w1 HB1.out).mono ?_
  rintro e w2 ⟨ov, rfl, hown, hb2⟩
  obtain ⟨cg, cn, cc, rfl⟩ : ∃ cg cn cc, ov = .slice cg cn cc := by
    obtain ⟨_, ⟨e, _⟩ | ⟨g9, cap9, cur9, e, _⟩⟩ := hown
    · exact ⟨_, _, _, e⟩
    · exact ⟨_, _, _, e⟩
  have hx := HX1.out.below hb2
  have ho5 := own_ne hown hx (by decide)
  have HX4 : Hid (Bk ((((w2.setCell ⟨w.heap.size, 0, none⟩ (.int .i64 O.en)).setCell ⟨w.heap.size, 1, none⟩ (.int .i64 O.cd)).setCell ⟨w.heap.size, 2, none⟩ (.slice cg cn cc)).setCell ⟨w.heap.size, 3, none⟩ (.int .i64 ((O.st : Nat) : Int))) w.heap.size 30 [.int .i64 O.en, .int .i64 O.cd, .slice cg cn cc, .int .i64 ((O.st : Nat) : Int)]) := (((hx.set 0 (.int .i64 O.en)).set 1 (.int .i64 O.cd)).set 2 (.slice cg cn cc)).set 3 (.int .i64 ((O.st : Nat) : Int))
  have HO4 : Hid (((((w2.setCell ⟨w.heap.size, 0, none⟩ (.int .i64 O.en)).setCell ⟨w.heap.size, 1, none⟩ (.int .i64 O.cd)).setCell ⟨w.heap.size, 2, none⟩ (.slice cg cn cc)).setCell ⟨w.heap.size, 3, none⟩ (.int .i64 ((O.st : Nat) : Int))).ownsRow w.heap.size 5 1 (.slice cg cn cc) O.out.length (Lib.byteCells O.out)) := own_low (own_set (own_set (own_set (own_set hown ho5) ho5) ho5) ho5) HB1.out.size
  have HB4 : Hid (Below w.heap.size w ((((w2.setCell ⟨w.heap.size, 0, none⟩ (.int .i64 O.en)).setCell ⟨w.heap.size, 1, none⟩ (.int .i64 O.cd)).setCell ⟨w.heap.size, 2, none⟩ (.slice cg cn cc)).setCell ⟨w.heap.size, 3, none⟩ (.int .i64 ((O.st : Nat) : Int)))) := Onl.below (Nat.le_refl _) (HB1.out.trans (hb2.mono HB1.out.size)) (((((Onl.of_below (Below.refl _ _)).set (S := fun b => b = w.heap.size) rfl).set rfl).set rfl).set rfl) (fun b e => by omega)
  have x0 := hx.cell (j := 0) rfl
  have x1 := hx.cell (j := 1) rfl
  have x2 := hx.cell (j := 2) rfl
  have x3 := hx.cell (j := 3) rfl
  have zx0 := hx.fz 0
  have zx1 := hx.fz 1
  have zx2 := hx.fz 2
  have zx3 := hx.fz 3
  clear hb2 hx hown ho5
  go_wp2
  clear x0 x1 x2 x3 zx0 zx1 zx2 zx3
  generalize ((((w2.setCell ⟨w.heap.size, 0, none⟩ (.int .i64 O.en)).setCell ⟨w.heap.size, 1, none⟩ (.int .i64 O.cd)).setCell ⟨w.heap.size, 2, none⟩ (.slice cg cn cc)).setCell ⟨w.heap.size, 3, none⟩ (.int .i64 ((O.st : Nat) : Int))) = Wf at *
  have c0 := HX4.out.cell (j := 0) rfl
  have c1 := HX4.out.cell (j := 1) rfl
  have c2 := HX4.out.cell (j := 2) rfl
  have c3 := HX4.out.cell (j := 3) rfl
  exact bodyPost_ret (v := .tuple #[.agg #[.int .i64 O.en, .int .i64 O.cd, .slice cg cn cc, .int .i64 ((O.st : Nat) : Int)], .int .i64 0]) (by simp [results, Tryd.results7, go_sem, c0, c1, c2, c3]) rfl ⟨_, rfl, HO4.out, HB4.out⟩
end
section
open Go.RowKit Go.Shelf
def fB (b : Blk) : Bool := b.l.any toB
def fT (f : Fun) : Bool := f.bs.any fB
def touB (p : List Fun) : Bool := p.any fT
theorem any_drop {α : Type} (f : α → Bool) {l : List α} {j : Nat} {x : α} (h : l[j]? = some x) : (l.drop j).any f = (f x || (l.drop (j + 1)).any f) := by
  obtain ⟨hj, e⟩ := List.getElem?_eq_some_iff.1 h
  rw [List.drop_eq_getElem_cons hj, e]
  rfl
theorem any_end {α : Type} (f : α → Bool) (l : List α) : (l.drop l.length).any f = false := by rw [List.drop_length]; rfl
set_option maxRecDepth 20000 in
set_option maxHeartbeats 8000000 in
theorem touches8 (p : List Fun) (pp : Option Addr) (pc : Nat) (w : World) (hI : FunA w pp pc p) : Calls Tryd.prog 8 #[.slice pp p.length pc] w fun e w' => e = .returned (.bool (touB p)) ∧ Below w.heap.size w w' := by
  have HI : Hid (FunA w pp pc p) := hI
  have hxc := hI.1
  have hxc2 := hI.2.1
  obtain ⟨n, hn⟩ : ∃ n, n = p.length := ⟨_, rfl⟩
  have HN : Hid (n = p.length) := hn
  obtain ⟨T, hT⟩ : ∃ T, T = touB p := ⟨_, rfl⟩
  have HT : Hid (T = (p.drop 0).any fT) := hT
  rw [← hn] at hxc ⊢
  rw [← hT]
  clear hI hn hT
  by_cases hn0 : n = 0
  · have HE : Hid (false = T) := by
      have h := HT.out
      have hl : p = [] := List.length_eq_zero_iff.1 (by have := HN.out; omega)
      rw [hl] at h
      exact h.symm
    subst hn0
    go_enter Tryd.func8, Tryd.ntmps8
    go_wp2
    refine wp_loop_rounds 1 ?_
    rw [rounds_succ]
    go_wp2
    go_ret
    exact ⟨ret_bool HE.out, Below.refl _ _⟩
  obtain ⟨g, oo, hxo, _⟩ := HI.out.2.2.2 (by have := HN.out; omega)
  have HI2 : Hid (FunA w (some ⟨g, oo, none⟩) pc p) := by have := HI.out; rw [hxo] at this; exact this
  subst hxo
  go_enter Tryd.func8, Tryd.ntmps8
  go_wp2
  go_loopw [3] (fun v wx => ∃ j : Nat, j ≤ n ∧ v = .int .i64 j ∧ Below w.heap.size w wx ∧ T = (p.drop j).any fT) (fun v _ => n - (intOf v).toNat)
  case atStart => exact ⟨0, Nat.zero_le _, rfl, Below.refl _ _, HT.out⟩
  case round =>
    obtain ⟨j, hj, rfl, hb, hTj⟩ := hrel
    have HB : Hid (Below w.heap.size w wr) := hb
    have HTj : Hid (T = (p.drop j).any fT) := hTj
    clear hb hTj
    by_cases hlt : j < n
    · obtain ⟨x, hx⟩ : ∃ x, p[j]? = some x := ⟨_, List.getElem?_eq_getElem (by have := HN.out; omega)⟩
      have HA : Hid (∀ W, Below w.heap.size w W → W.cell? ⟨g, oo + j * 5 + 4, none⟩ = some (.slice x.h.ba x.h.bl x.h.bc) ∧ BlkA W x.h.ba x.h.bc x.bs) := fun W hW => by
        have h := HI2.out.below hW
        obtain ⟨g', oo', e, hcc⟩ := h.2.2.2 (by have := HN.out; omega)
        cases e
        exact ⟨hcc j x hx 4 _ rfl, (h.2.2.1 x (List.mem_of_getElem? hx)).2.2⟩
      have HL : Hid (x.h.bl = x.bs.length) := (HI2.out.2.2.1 x (List.mem_of_getElem? hx)).1
      obtain ⟨bl, hbl⟩ : ∃ bl, bl = x.h.bl := ⟨_, rfl⟩
      have HBl : Hid (bl = x.bs.length) := hbl.trans HL.out
      rw [← hbl] at HA
      obtain ⟨B, hB⟩ : ∃ B, B = (p.drop (j + 1)).any fT := ⟨_, rfl⟩
      have HBn : Hid (B = (p.drop (j + 1)).any fT) := hB
      have HTk : Hid (T = ((x.bs.drop 0).any fB || B)) := by
        show _ = _
        rw [HTj.out, any_drop fT hx, hB]
        rfl
      have hxl : x.h.bl ≤ x.h.bc ∧ x.h.bc ≤ 9223372036854775807 := by
        have h := (HI2.out.2.2.1 x (List.mem_of_getElem? hx)).2.2
        exact ⟨by rw [HL.out]; exact h.1, h.2.1⟩
      rw [← hbl] at hxl
      obtain ⟨hxl1, hxl2⟩ := hxl
      clear hx hbl hB HL
      obtain ⟨d4, _⟩ := HA.out wr HB.out
      go_wp2
      go_loopw [4] (fun v wx => ∃ k : Nat, k ≤ bl ∧ v = .int .i64 k ∧ Below w.heap.size w wx ∧ T = ((x.bs.drop k).any fB || B)) (fun v _ => bl - (intOf v).toNat)
      case atStart => exact ⟨0, Nat.zero_le _, rfl, HB.out, HTk.out⟩
      case round =>
        obtain ⟨k, hk, rfl, hb, hTk⟩ := hrel
        have HBk : Hid (Below w.heap.size w wr) := hb
        have HTk2 : Hid (T = ((x.bs.drop k).any fB || B)) := hTk
        clear hb hTk HB HTk d4
        obtain ⟨d4, hblk⟩ := HA.out wr HBk.out
        by_cases hkl : k < bl
        · obtain ⟨b, hbk⟩ : ∃ b, x.bs[k]? = some b := ⟨_, List.getElem?_eq_getElem (by have := HBl.out; omega)⟩
          obtain ⟨g1, o1, e1, hc1⟩ := hblk.2.2.2 (by have := HBl.out; omega)
          have HA2 : Hid (∀ W, Below w.heap.size w W → W.cell? ⟨g, oo + j * 5 + 4, none⟩ = some (.slice (some ⟨g1, o1, none⟩) bl x.h.bc) ∧ W.cell? ⟨g1, o1 + k, none⟩ = some (.slice b.xo b.l.length b.xc) ∧ InsA W b.xo b.xc b.l) := fun W hW => by
            obtain ⟨t1, t2⟩ := HA.out W hW
            obtain ⟨g1', o1', e1', hc1'⟩ := t2.2.2.2 (by have := HBl.out; omega)
            rw [e1] at e1'
            cases e1'
            exact ⟨by rw [← e1]; exact t1, hc1' k b hbk, t2.2.2.1 b (List.mem_of_getElem? hbk)⟩
          obtain ⟨il, hil⟩ : ∃ il, il = b.l.length := ⟨_, rfl⟩
          have HIl : Hid (il = b.l.length) := hil
          rw [← hil] at HA2
          obtain ⟨D, hD⟩ : ∃ D, D = ((x.bs.drop (k + 1)).any fB || B) := ⟨_, rfl⟩
          have HD : Hid (D = ((x.bs.drop (k + 1)).any fB || B)) := hD
          have HTm : Hid (T = ((b.l.drop 0).any toB || D)) := by
            show _ = _
            rw [HTk2.out, any_drop fB hbk, hD, Bool.or_assoc]
            rfl
          have hins := (HA2.out wr HBk.out).2.2
          have hil1 : il ≤ b.xc := by rw [hil]; exact hins.1
          have hil2 := hins.2.1
          obtain ⟨q4, q5, _⟩ := HA2.out wr HBk.out
          clear hbk hil hD hblk hc1 hins d4 HTk2
          go_wp2
          go_loopw [5] (fun v wx => ∃ m : Nat, m ≤ il ∧ v = .int .i64 m ∧ Below w.heap.size w wx ∧ T = ((b.l.drop m).any toB || D)) (fun v _ => il - (intOf v).toNat)
          case atStart => exact ⟨0, Nat.zero_le _, rfl, HBk.out, HTm.out⟩
          case round =>
            obtain ⟨m, hm, rfl, hb, hTm⟩ := hrel
            have HBi : Hid (Below w.heap.size w wr) := hb
            have HTm2 : Hid (T = ((b.l.drop m).any toB || D)) := hTm
            clear hb hTm HBk HTm q4 q5
            obtain ⟨q4, q5, hins⟩ := HA2.out wr HBi.out
            by_cases hml : m < il
            · obtain ⟨i, hi⟩ : ∃ i, b.l[m]? = some i := ⟨_, List.getElem?_eq_getElem (by have := HIl.out; omega)⟩
              obtain ⟨g2, o2, e2, hc2⟩ := hins.2.2.2 (by have := HIl.out; omega)
              rw [e2] at q5
              have HTi : Hid (T = (toB i || ((b.l.drop (m + 1)).any toB || D))) := by
                show _ = _
                rw [HTm2.out, any_drop toB hi, Bool.or_assoc]
              have i0 := hc2 m i hi 0 _ rfl
              have i1 := hc2 m i hi 1 _ rfl
              have i2 := hc2 m i hi 2 _ rfl
              have i3 := hc2 m i hi 3 _ rfl
              have i4 := hc2 m i hi 4 _ rfl
              have i5 := hc2 m i hi 5 _ rfl
              have i6 := hc2 m i hi 6 _ rfl
              have i7 := hc2 m i hi 7 _ rfl
              have i8 := hc2 m i hi 8 _ rfl
              rw [Nat.add_zero] at i0
              clear hi hc2 hins HTm2 e2
              cases ht : toB i with
              | true =>
                have HTt : Hid (true = T) := by show _ = _; rw [HTi.out, ht]; rfl
                by_cases o4 : i.op = 4
                · rw [o4] at i0
                  clear ht o4 HTi
                  go_wp2
                  go_ret
                  exact ⟨ret_bool HTt.out, HBi.out.alloc HBi.out.size _⟩
                by_cases o5 : i.op = 5
                · rw [o5] at i0
                  clear ht o4 o5 HTi
                  go_wp2
                  go_ret
                  exact ⟨ret_bool HTt.out, HBi.out.alloc HBi.out.size _⟩
                have o7 : i.op = 7 ∧ i.nm.data.toList = [114, 116, 46, 102, 114, 101, 101] := by simpa [toB, o4, o5] using ht
                have q9 : (i.nm.toList == [114, 116, 46, 102, 114, 101, 101]) = true := by rw [ByteArray.toList_eq, o7.2]; rfl
                rw [o7.1] at i0
                clear ht o4 o5 o7 HTi
                go_wp2
                go_ret
                exact ⟨ret_bool HTt.out, HBi.out.alloc HBi.out.size _⟩
              | false =>
                have HTn : Hid (T = ((b.l.drop (m + 1)).any toB || D)) := by show _ = _; rw [HTi.out, ht]; rfl
                have hq : ¬ i.op = 4 ∧ ¬ i.op = 5 ∧ (i.op = 7 → ¬ i.nm.data.toList = [114, 116, 46, 102, 114, 101, 101]) := by simpa [toB] using ht
                have o4 : (i.op == 4) = false := by simpa using hq.1
                have o5 : (i.op == 5) = false := by simpa using hq.2.1
                by_cases o7 : i.op = 7
                · have q9 : (i.nm.toList == [114, 116, 46, 102, 114, 101, 101]) = false := by
                    have h := hq.2.2 o7
                    rw [ByteArray.toList_eq]
                    cases hb : i.nm.data.toList == [114, 116, 46, 102, 114, 101, 101] with
                    | false => rfl
                    | true => exact absurd (eq_of_beq hb) h
                  rw [o7] at i0 o4 o5
                  clear ht hq o7 HTi
                  go_wp2
                  go_round
                  case rel => exact ⟨m + 1, by omega, by go_num, HBi.out.alloc HBi.out.size _, HTn.out⟩
                  case measure => simp [intOf]; omega
                · have o7' : (i.op == 7) = false := by simpa using o7
                  clear ht hq o7 HTi
                  go_wp2
                  go_round
                  case rel => exact ⟨m + 1, by omega, by go_num, HBi.out.alloc HBi.out.size _, HTn.out⟩
                  case measure => simp [intOf]; omega
            · obtain rfl : m = il := by omega
              have HTe : Hid (T = ((x.bs.drop (k + 1)).any fB || B)) := by
                show _ = _
                rw [HTm2.out, HIl.out, any_end, Bool.false_or, HD.out]
              clear hins
              go_wp2
              go_round
              case rel => exact ⟨k + 1, by omega, by go_num, HBi.out, HTe.out⟩
              case measure => simp [intOf]; omega
        · obtain rfl : k = bl := by omega
          have HTe : Hid (T = (p.drop (j + 1)).any fT) := by
            show _ = _
            rw [HTk2.out, HBl.out, any_end, Bool.false_or, HBn.out]
          clear hblk
          go_wp2
          go_round
          case rel => exact ⟨j + 1, by omega, by go_num, HBk.out, HTe.out⟩
          case measure => simp [intOf]; omega
    · obtain rfl : j = n := by omega
      have HE : Hid (false = T) := by
        show _ = _
        rw [HTj.out, HN.out, any_end]
      go_wp2
      go_ret
      exact ⟨ret_bool HE.out, HB.out⟩
end
section
open Go.RowKit Go.Shelf
theorem noT_of {p : List Fun} (h : touB p = false) : NoT p := fun f hf b hb i hi => by
  cases ht : toB i with
  | false => rfl
  | true =>
    have h2 : touB p = true := List.any_eq_true.2 ⟨f, hf, List.any_eq_true.2 ⟨b, hb, List.any_eq_true.2 ⟨i, hi, ht⟩⟩⟩
    rw [h] at h2
    cases h2
theorem ins_at {p : List Fun} {c : Cal} {f : Fun} {bl : Blk} {i : Ins} (hc : CalF p c f bl i) : insAt p c = some i := by
  unfold insAt
  rw [hc.hf, Option.bind_some, hc.hb, Option.bind_some, hc.hi]
theorem run_noT {p : List Fun} (hp : PrF p) (hn : NoT p) : ∀ (n : Nat) (s : St), Wf p s → s.st + n ≤ 600000 → (runS p n s).en = 1 ∨ (runS p n s).en = 2
  | 0, s, _, _ => .inr rfl
  | n + 1, s, hW, hs => by
    obtain ⟨f, bl, i, hc⟩ := hW.top
    rw [runS, ins_at hc]
    dsimp only
    cases hd : depB s i with
    | true => rw [if_pos rfl]; exact .inr rfl
    | false =>
      rw [if_neg (by decide)]
      cases hs' : stpS p { s with st := s.st + 1 } i with
      | inl s' =>
        obtain ⟨hW', hst⟩ := wf_step hp hW hc hd (by omega) hs'
        exact run_noT hp hn n s' hW' (by omega)
      | inr o =>
        rcases (stp_end hs').1 with h | ⟨_, ht⟩
        · exact .inl h
        · rw [hn f (List.mem_of_getElem? hc.hf) bl (List.mem_of_getElem? hc.hb) i (List.mem_of_getElem? hc.hi)] at ht
          cases ht
theorem runP_noT {p : List Fun} (hp : PrF p) (h : touB p = false) (l : List UInt8) (fuel : Nat) (hf : fuel ≤ 600000) : (runP p l fuel).en = 1 ∨ (runP p l fuel).en = 2 :=
  run_noT hp (noT_of h) fuel (s0 p l) (wf_s0 hp l) (by show 0 + fuel ≤ _; omega)
end
section
open Go.RowKit Go.Shelf
def fewI (n : Int) : Int := min n 5000
set_option maxRecDepth 20000 in
theorem few6 (w : World) (n : Int) : Calls Tryd.prog 6 #[.int .i64 n] w fun e w' => e = .returned (.int .i64 (fewI n)) ∧ w' = w := by
  go_enter Tryd.func6, Tryd.ntmps6
  go_wp2
  go_ret
  exact ⟨rfl, rfl⟩
end
section
open Go.ChangeShapes Go.WideShapes Go.ChangeAt Go.RowKit Go.Deep Go.Joins
theorem own : ownKnob Tryd.prog.godebug = none := by kernel_rfl
/-- What the row lists. -/
def laidL : List (String × DataW Unit) := [("math/bits.deBruijn32tab", Rows.laid_math_bits_deBruijn32tab), ("math/bits.deBruijn64tab", Rows.laid_math_bits_deBruijn64tab), ("internal/strconv.uint64pow10", Rows.laid_internal_strconv_uint64pow10), ("patina/lir.forms", Rows.laid_patina_lir_forms)]
theorem laid_plain {W : World} (h : laidMetH Tryd.prog laidL W) : laidMet Tryd.prog laidL W := h
theorem gFor : Tryd.prog.globalNamed "patina/lir.forms" = some 0 := by kernel_rfl
theorem tFor : (Tryd.prog.globals[0]?).map (·.type) = some 108 := by kernel_rfl
theorem c155 : Tryd.prog.cellsOf 108 = 24 := by kernel_rfl
theorem c154 : Tryd.prog.cellsOf 107 = 2 := by kernel_rfl
theorem c9 : Tryd.prog.cellsOf 9 = 1 := by kernel_rfl
theorem f154 : ∃ fs, Tryd.prog.underlying 107 = some (.struct fs) ∧ (fs[1]?).map (fun f => (f.type, f.offset)) = some (9, 1) := ⟨_, Tryd.underlying107, by kernel_rfl⟩
/-- The second text of the i-th form. -/
theorem form_at {W : World} {fuel : Nat} {cs : List Value} {ds : List (DataW Unit)} {p : List MemPlace} (h : DataW.trod (fun _ => ()) Tryd.prog W 0 (fun _ => true) false fuel 108 cs = some (.agg ds, p)) (i : Nat) (hi : i < 12) (d0 : DataW Unit) (z : List UInt8) (hd : ds[i]? = some (.agg [d0, .lit (.string z)])) : cs[2 * i + 1]? = some (.string ⟨z.toArray⟩) := by
  cases fuel with
  | zero => simp [DataW.trod] at h
  | succ fuel =>
    simp only [DataW.trod, Tryd.underlying108, c154, c155] at h
    split at h
    · rename_i hl
      obtain ⟨xs, hm, hx⟩ := Option.map_eq_some_iff.1 h
      have hxs : xs.map (·.1) = ds := by
        have := congrArg Prod.fst hx
        simpa using this
      obtain ⟨b, hb, hf⟩ := Lib.mapM_at hm i i (by simp [hi])
      obtain ⟨fs, hu, hfs⟩ := f154
      obtain ⟨ys, n, -, hy, -, -, hk⟩ := DataW.trod_struct hu hf
      obtain ⟨fl, hfl, hfe⟩ := Option.map_eq_some_iff.1 hfs
      have h1 := hk 1 fl hfl
      have hb' : b.1 = .agg [d0, .lit (.string z)] := by
        have : (xs.map (·.1))[i]? = some b.1 := by simp [hb]
        rw [hxs, hd] at this
        exact (Option.some.inj this).symm
      rw [hy] at hb'
      have hys : (ys.map (·.1))[1]? = some (.lit (.string z)) := by
        have := DataW.agg.inj hb'
        rw [this]
        rfl
      simp only [List.getElem?_map, Option.map_eq_some_iff] at hys
      obtain ⟨y, hy1, hy2⟩ := hys
      rw [hy1] at h1
      have e1 : fl.type = 9 := congrArg Prod.fst hfe
      have e2 : fl.offset = 1 := congrArg Prod.snd hfe
      rw [e1, e2] at h1
      obtain ⟨s, hc, rfl, _⟩ := DataW.trod_string Tryd.underlying9 h1
      have hz : s.data.toList = z := by
        have := hy2
        simpa using this
      have hcs : cs[2 * i + 1]? = some (.string s) := by
        have t := congrArg (·[0]?) hc
        rw [c9] at t
        simp [List.getElem?_drop] at t
        rw [show 2 * i + 1 = i * 2 + 1 by omega]
        exact t
      rw [hcs, ← hz]
    · cases h
theorem tfOf {W : World} (h : laidMetH Tryd.prog laidL W) : Tfa W := by
  have hm := laid_plain h
  obtain ⟨g, t, cs, fuel, p, hg, ht, hv, hd⟩ := Lib.laidMet.reads hm (n := "patina/lir.forms") (d := Rows.laid_patina_lir_forms) (by simp [laidL])
  obtain rfl := Option.some.inj (gFor.symm.trans hg)
  obtain rfl := Option.some.inj (tFor.symm.trans ht)
  have k : ∀ i d0 z, i < 12 → (match (Rows.laid_patina_lir_forms : DataW Unit) with | .agg ds => ds[i]? | _ => none) = some (.agg [d0, .lit (.string z)]) → W.cell? ⟨0, 2 * i + 1, none⟩ = some (.string ⟨z.toArray⟩) := fun i d0 z hi hds => by
    rw [World.var?_cell gFor hv, ← Array.getElem?_toList]
    exact form_at hd i hi d0 z hds
  have k1 := k 1 _ [68, 78] (by omega) rfl
  have k2 := k 2 _ [68, 65] (by omega) rfl
  have k3 := k 3 _ [68, 83, 65, 66] (by omega) rfl
  have k4 := k 4 _ [68, 65, 78] (by omega) rfl
  have k5 := k 5 _ [65, 78, 66] (by omega) rfl
  have k6 := k 6 _ [68, 78] (by omega) rfl
  have k7 := k 7 _ [68, 83, 82] (by omega) rfl
  have k8 := k 8 _ [84] (by omega) rfl
  have k9 := k 9 _ [65, 84, 69] (by omega) rfl
  have k10 := k 10 _ [65] (by omega) rfl
  have k11 := k 11 _ [78] (by omega) rfl
  refine ⟨fun i h1 h2 => ?_, World.block_lt_of_cell? _ _ k1⟩
  obtain rfl | rfl | rfl | rfl | rfl | rfl | rfl | rfl | rfl | rfl | rfl : i = 1 ∨ i = 2 ∨ i = 3 ∨ i = 4 ∨ i = 5 ∨ i = 6 ∨ i = 7 ∨ i = 8 ∨ i = 9 ∨ i = 10 ∨ i = 11 := by omega
  · exact k1
  · exact k2
  · exact k3
  · exact k4
  · exact k5
  · exact k6
  · exact k7
  · exact k8
  · exact k9
  · exact k10
  · exact k11
/-- A world for the witness: what the initialisers lay. -/
noncomputable def laidWorld (os : Os) : World := World.doorLaid Tryd.prog 121 os
end
end Go.Proofs.YtdppoblbenbafaaDoor
