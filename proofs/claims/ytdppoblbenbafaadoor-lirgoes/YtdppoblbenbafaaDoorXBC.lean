/- The powers of ten, out of the row. A program that touches no memory by an address ends or stops: the statement's own law. -/
import Derived.Test.YtdppoblbenbafaaDoorXAY
import Derived.Test.YtdppoblbenbafaaDoorXAR
import Derived.Test.YtdppoblbenbafaaDoorXBA
namespace Go.Proofs.YtdppoblbenbafaaDoor
section
open Go.ChangeShapes Go.WideShapes Go.ChangeAt Go.RowKit Go.Deep Go.Joins
theorem gPow : Tryd.prog.globalNamed "internal/strconv.uint64pow10" = some 2 := by kernel_rfl
theorem pow_eq : (Rows.laid_internal_strconv_uint64pow10 : DataW Unit) = Lib.tabData .u64 Lib.pow10Tab := by kernel_rfl
theorem tPow : (Tryd.prog.globals[2]?).map (·.type) = some 128 := by kernel_rfl
theorem cPow : Tryd.prog.cellsOf 128 = 20 := by kernel_rfl
theorem cElt : Tryd.prog.cellsOf 76 = 1 := by kernel_rfl
theorem powOf {W : World} (h : laidMetH Tryd.prog laidL W) : PwT W := by
  have hm := laid_plain h
  have u3 : Lib.VarReads Tryd.prog W "internal/strconv.uint64pow10" (Lib.tabData .u64 Lib.pow10Tab) := by
    rw [← pow_eq]
    exact Lib.laidMet.reads hm (by simp [laidL])
  obtain ⟨g, t, cs, fuel, p, hg, ht, hv, hd⟩ := u3
  obtain rfl := Option.some.inj (gPow.symm.trans hg)
  obtain rfl := Option.some.inj (tPow.symm.trans ht)
  have hc := Lib.cells_of_tab Tryd.underlying128 Tryd.underlying76 cElt cPow hd
  have hT : Lib.TabIs Tryd.prog W "internal/strconv.uint64pow10" .u64 Lib.pow10Tab := by
    unfold Lib.TabIs
    rw [hv, ← hc]
  exact Lib.tabBelow_of_tabIs hT
theorem tfaTf {w : World} (h : Tfa w) : Tf w := ⟨h.c 1 (by omega) (by omega), h.c 7 (by omega) (by omega), h.c 10 (by omega) (by omega), h.pos⟩
end
section
open Go.RowKit Go.Shelf
set_option maxRecDepth 20000 in
set_option maxHeartbeats 4000000 in
theorem law4_err (p : List Fun) (pp iv : Option Addr) (pc n ic : Nat) (fuel : Int) (w : World) (hT : Tfa w) (hI : FunA w pp pc p) (he : ¬ errV p n (fewI fuel) = 0) : Calls Tryd.prog 4 #[.slice pp p.length pc, .slice iv n ic, .int .i64 fuel] w fun e w' => e = .returned (.bool true) ∧ Below w.heap.size w w' := by
  have HR : Hid (∀ W, Below w.heap.size w W → Calls Tryd.prog 7 #[.slice pp p.length pc, .slice iv n ic, .int .i64 (fewI fuel)] W fun e w' => e = .returned (.tuple #[.agg #[.int .i64 0, .int .i64 0, .slice none 0 0, .int .i64 0], .int .i64 (errV p n (fewI fuel))]) ∧ Below W.heap.size W w') := fun W hb => run_err p pp iv pc n ic (fewI fuel) W (hT.below hb) (hI.below hb) he
  have HS : Hid (∀ W, Below w.heap.size w W → Calls Tryd.prog 9 #[] W fun e w' => e = .returned (.bool true) ∧ Below W.heap.size W w') := fun W hb => speaks6 W (tfaTf (hT.below hb))
  have HF : Hid (∀ W, Calls Tryd.prog 6 #[.int .i64 fuel] W fun e w' => e = .returned (.int .i64 (fewI fuel)) ∧ w' = W) := fun W => few6 W fuel
  generalize errV p n (fewI fuel) = E at *
  generalize fewI fuel = F at *
  obtain ⟨m, hm⟩ : ∃ m, m = p.length := ⟨_, rfl⟩
  rw [← hm] at HR ⊢
  clear hT hI hm
  go_enter Tryd.func4, Tryd.ntmps4
  go_wp2_with fail
  refine (HF.out _).mono ?_
  rintro e w1 ⟨rfl, rfl⟩
  go_wp2_with fail
  refine (HR.out w1 (Below.refl _ _)).mono ?_
  rintro e w2 ⟨rfl, hb⟩
  have HB2 : Hid (Below w1.heap.size w1 w2) := hb
  have HB3 : Hid (Below w1.heap.size w1 (w2.alloc (.cells #[.int .i64 0, .int .i64 0, .slice none 0 0, .int .i64 0] 30))) := HB2.out.alloc HB2.out.size _
  have HX3 : Hid (Cl (w2.alloc (.cells #[.int .i64 0, .int .i64 0, .slice none 0 0, .int .i64 0] 30)) w2.heap.size [.int .i64 0, .int .i64 0, .slice none 0 0, .int .i64 0]) := Cl.new w2 [.int .i64 0, .int .i64 0, .slice none 0 0, .int .i64 0] 30
  have he' : (E == 0) = false := by simpa using he
  clear hb
  go_wp2_with fail
  refine (HS.out _ HB3.out).mono ?_
  rintro e w3 ⟨rfl, hb⟩
  have HB4 : Hid (Below w1.heap.size w1 w3) := HB3.out.trans (hb.mono HB3.out.size)
  clear hb
  go_wp2
  go_ret
  exact ⟨rfl, HB4.out⟩
set_option maxRecDepth 20000 in
set_option maxHeartbeats 4000000 in
theorem law4_ok (p : List Fun) (pp iv : Option Addr) (pc ic k : Nat) (fuel : Int) (l : List UInt8) (w : World) (hT : Tfa w) (hP : PwT w) (hp : PrF p) (hI : FunA w pp pc p) (hiv : InV w w (.slice iv l.length ic) l) (hl : l.length ≤ 65536) (hk : fewI fuel = k) (hf : k ≤ 524288) : Calls Tryd.prog 4 #[.slice pp p.length pc, .slice iv l.length ic, .int .i64 fuel] w fun e w' => e = .returned (.bool true) ∧ Below w.heap.size w w' := by
  have HR : Hid (Calls Tryd.prog 7 #[.slice pp p.length pc, .slice iv l.length ic, .int .i64 k] w fun e w' => ∃ ov, e = .returned (.tuple #[.agg #[.int .i64 (runP p l k).en, .int .i64 (runP p l k).cd, ov, .int .i64 ((runP p l k).st : Nat)], .int .i64 0]) ∧ w'.ownsRow w.heap.size 5 1 ov (runP p l k).out.length (Lib.byteCells (runP p l k).out) ∧ Below w.heap.size w w') := run_ok p pp iv pc ic k l w hT hP hp hI hiv hl hf
  have HS : Hid (∀ W, Below w.heap.size w W → Calls Tryd.prog 9 #[] W fun e w' => e = .returned (.bool true) ∧ Below W.heap.size W w') := fun W hb => speaks6 W (tfaTf (hT.below hb))
  have HF : Hid (∀ W, Calls Tryd.prog 6 #[.int .i64 fuel] W fun e w' => e = .returned (.int .i64 k) ∧ w' = W) := fun W => by rw [← hk]; exact few6 W fuel
  have HU : Hid (∀ W, Below w.heap.size w W → Calls Tryd.prog 8 #[.slice pp p.length pc] W fun e w' => e = .returned (.bool (touB p)) ∧ Below W.heap.size W w') := fun W hb => touches8 p pp pc W (hI.below hb)
  have HN : Hid (touB p = false → (runP p l k).en = 1 ∨ (runP p l k).en = 2) := fun h => runP_noT hp h l k (by omega)
  generalize runP p l k = O at *
  generalize touB p = T at *
  obtain ⟨m, hm⟩ : ∃ m, m = p.length := ⟨_, rfl⟩
  obtain ⟨n, hn⟩ : ∃ n, n = l.length := ⟨_, rfl⟩
  rw [← hm] at HR HU ⊢
  rw [← hn] at HR ⊢
  clear hT hI hm hn hP hp hiv hl hk hf
  go_enter Tryd.func4, Tryd.ntmps4
  go_wp2_with fail
  refine (HF.out _).mono ?_
  rintro e w1 ⟨rfl, rfl⟩
  go_wp2_with fail
  refine HR.out.mono ?_
  rintro e w2 ⟨ov, rfl, hown, hb⟩
  obtain ⟨cg, cn, cc, rfl⟩ : ∃ cg cn cc, ov = .slice cg cn cc := by
    obtain ⟨_, ⟨e, _⟩ | ⟨g9, cap9, cur9, e, _⟩⟩ := hown
    · exact ⟨_, _, _, e⟩
    · exact ⟨_, _, _, e⟩
  have HB2 : Hid (Below w1.heap.size w1 w2) := hb
  have HB3 : Hid (Below w1.heap.size w1 (w2.alloc (.cells #[.int .i64 O.en, .int .i64 O.cd, .slice cg cn cc, .int .i64 ((O.st : Nat) : Int)] 30))) := HB2.out.alloc HB2.out.size _
  have HX3 : Hid (Cl (w2.alloc (.cells #[.int .i64 O.en, .int .i64 O.cd, .slice cg cn cc, .int .i64 ((O.st : Nat) : Int)] 30)) w2.heap.size [.int .i64 O.en, .int .i64 O.cd, .slice cg cn cc, .int .i64 ((O.st : Nat) : Int)]) := Cl.new w2 [.int .i64 O.en, .int .i64 O.cd, .slice cg cn cc, .int .i64 ((O.st : Nat) : Int)] 30
  clear hb hown HR
  go_wp2_with fail
  refine (HU.out _ HB3.out).mono ?_
  rintro e w3 ⟨rfl, hb⟩
  have HB4 : Hid (Below w1.heap.size w1 w3) := HB3.out.trans (hb.mono HB3.out.size)
  have x0 := (HX3.out.below hb).cell (j := 0) rfl
  have x3 := (HX3.out.below hb).cell (j := 3) rfl
  clear hb HX3
  cases T with
  | true =>
    clear HN
    go_wp2_with fail
    refine (HS.out _ HB4.out).mono ?_
    rintro e w4 ⟨rfl, hb⟩
    have HB5 : Hid (Below w1.heap.size w1 w4) := HB4.out.trans (hb.mono HB4.out.size)
    clear hb
    go_wp2
    go_ret
    exact ⟨rfl, HB5.out⟩
  | false =>
    rcases HN.out rfl with h | h
    · rw [h] at x0
      clear HN h
      go_wp2_with fail
      refine (HS.out _ HB4.out).mono ?_
      rintro e w4 ⟨rfl, hb⟩
      have HB5 : Hid (Below w1.heap.size w1 w4) := HB4.out.trans (hb.mono HB4.out.size)
      clear hb
      go_wp2
      go_ret
      exact ⟨rfl, HB5.out⟩
    · rw [h] at x0
      clear HN h
      go_wp2_with fail
      refine (HS.out _ HB4.out).mono ?_
      rintro e w4 ⟨rfl, hb⟩
      have HB5 : Hid (Below w1.heap.size w1 w4) := HB4.out.trans (hb.mono HB4.out.size)
      clear hb
      go_wp2
      go_ret
      exact ⟨rfl, HB5.out⟩
theorem law4 (p : List Fun) (pp iv : Option Addr) (pc ic : Nat) (fuel : Int) (l : List UInt8) (w : World) (hT : Tfa w) (hP : PwT w) (hn : N64 p) (hI : FunA w pp pc p) (hiv : InV w w (.slice iv l.length ic) l) : Calls Tryd.prog 4 #[.slice pp p.length pc, .slice iv l.length ic, .int .i64 fuel] w fun e w' => e = .returned (.bool true) ∧ Below w.heap.size w w' := by
  by_cases he : errV p l.length (fewI fuel) = 0
  · have hp : prB p = true := by
      cases hb : prB p with
      | true => rfl
      | false => simp [errV, hb] at he
    have hl : ¬ 65536 < l.length := fun h => by simp [errV, hp, h] at he
    have hf : ¬ fewI fuel < 0 := fun h => by simp [errV, hp, hl, h] at he
    have h5 : fewI fuel ≤ 5000 := by unfold fewI; omega
    exact law4_ok p pp iv pc ic (fewI fuel).toNat fuel l w hT hP ⟨hp, hn, fun x hx => (hI.2.2.1 x hx).1⟩ hI hiv (by omega) (by omega) (by omega)
  · exact law4_err p pp iv pc l.length ic fuel w hT hI he
end
end Go.Proofs.YtdppoblbenbafaaDoor
