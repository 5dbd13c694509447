/- What every statement of lir asks first is so, by the run of any program. What every program does with every input: the statement's own law. Programs as they come in: what a reading of them says of memory. Programs as they come in, with the range of their numbers. A row of bytes that is handed on. -/
import Derived.Test.YtdppoblbenbafaaGreatDoorYBV
import Derived.Laws.IdiomStrings
import Derived.Test.YtdppoblbenbafaaGreatDoorYAL
import Derived.SizedLaws
import Derived.Deep.Slices
import Derived.Deep.Strs
import Derived.Test.YtdppoblbenbafaaGreatDoorYAO
import Derived.Test.YtdppoblbenbafaaGreatDoorYAQ
namespace Go.Proofs.YtdppoblbenbafaaGreatDoor
section
open Go.RowKit Go.Shelf
set_option maxRecDepth 20000
set_option maxHeartbeats 4000000
theorem PwT.below {w W : World} (h : PwT w) (hb : Below w.heap.size w W) : PwT W := fun w' h' => h w' (hb.trans (h'.mono hb.size))
theorem own_at {W : World} {B n : Nat} {v : Value} {xs : List Value} (h : W.ownsRow B 5 1 v n xs) (hn : 0 < n) : ∃ g c, v = .slice (some ⟨g, 0, none⟩) n c := by
  obtain ⟨_, ⟨_, h0⟩ | ⟨g9, cap9, cur9, e, _⟩⟩ := h
  · omega
  · exact ⟨_, _, e⟩
theorem runX (p y x z : Nat) (n : Nat) (o : Oc) (w : World) (hn : n ≤ 524288) (ho : o.out = [55, 10]) (hr : runP (p7 y x z) [] n = o) (hT : Tfa w) (hP : PwT w) (hI : Pr w p y x z) : Calls Tryz.prog 13 #[.slice (some ⟨p, 0, none⟩) 1 1, .slice none 0 0, .int .i64 n] w fun e w' => ∃ g c, e = .returned (.tuple #[.agg #[.int .i64 o.en, .int .i64 o.cd, .slice (some ⟨g, 0, none⟩) 2 c, .int .i64 (o.st : Nat)], .int .i64 0]) ∧ BytV w' (.slice (some ⟨g, 0, none⟩) 2 c) [55, 10] ∧ Below w.heap.size w w' := by
  have h := run_ok (p7 y x z) (some ⟨p, 0, none⟩) none 1 0 n [] w hT hP (p7_pr y x z) (p7_fun w p y x z hI) ⟨none, 0, rfl, Nat.le_refl _, fun h => absurd h (Nat.lt_irrefl 0)⟩ (Nat.zero_le _) hn
  rw [hr] at h
  refine h.mono ?_
  rintro e w' ⟨ov, rfl, hov, hb⟩
  rw [ho] at hov
  obtain ⟨g, c, rfl⟩ := own_at hov (by decide)
  exact ⟨g, c, rfl, byt_own hov, hb⟩
theorem speaksX (w : World) (hT : Tfa w) (hP : PwT w) : Calls Tryz.prog 11 #[] w fun e w' => e = .returned (.bool true) ∧ Below w.heap.size w w' := by
  have HT : Hid (Tfa w) := hT
  have HP : Hid (PwT w) := hP
  clear hT hP
  go_enter Tryz.func11, Tryz.ntmps11
  go_wp2_with fail
  refine (sevenX w).mono ?_
  rintro e w1 ⟨p, y, x, z, rfl, hp, hb1⟩
  have HB1 : Hid (Below w.heap.size w w1) := hb1
  have HP1 : Hid (Pr w1 p y x z) := hp
  clear hp hb1
  go_wp2_with fail
  refine (runX p y x z 9 ⟨1, 0, [55, 10], 3⟩ w1 (by decide) rfl (p7_9 y x z) (HT.out.below HB1.out) (PwT.below HP.out HB1.out) HP1.out).mono ?_
  rintro e w2 ⟨g, cap, rfl, hg, hb2⟩
  have HB2 : Hid (Below w.heap.size w w2) := HB1.out.trans (hb2.mono HB1.out.size)
  have HB3 : Hid (Below w.heap.size w (w2.alloc (.cells #[.int .i64 1, .int .i64 0, .slice (some ⟨g, 0, none⟩) 2 cap, .int .i64 3] 36))) := HB2.out.alloc HB2.out.size _
  have HG3 : Hid (BytV (w2.alloc (.cells #[.int .i64 1, .int .i64 0, .slice (some ⟨g, 0, none⟩) 2 cap, .int .i64 3] 36)) (.slice (some ⟨g, 0, none⟩) 2 cap) [55, 10]) := hg.below ((Below.refl _ _).alloc (Nat.le_refl _) _)
  have HX3 : Hid (Cl (w2.alloc (.cells #[.int .i64 1, .int .i64 0, .slice (some ⟨g, 0, none⟩) 2 cap, .int .i64 3] 36)) w2.heap.size [.int .i64 1, .int .i64 0, .slice (some ⟨g, 0, none⟩) 2 cap, .int .i64 3]) := Cl.new w2 [.int .i64 1, .int .i64 0, .slice (some ⟨g, 0, none⟩) 2 cap, .int .i64 3] 36
  clear hg hb2
  go_wp2_with fail
  generalize w2.alloc (.cells #[.int .i64 1, .int .i64 0, .slice (some ⟨g, 0, none⟩) 2 cap, .int .i64 3] 36) = V at *
  refine (sevenX V).mono ?_
  rintro e w3 ⟨p', y', x', z', rfl, hp, hb4⟩
  have HB4 : Hid (Below w.heap.size w w3) := HB3.out.trans (hb4.mono HB3.out.size)
  have HP4 : Hid (Pr w3 p' y' x' z') := hp
  have HG4 : Hid (BytV w3 (.slice (some ⟨g, 0, none⟩) 2 cap) [55, 10]) := HG3.out.below hb4
  have HX4 : Hid (Cl w3 w2.heap.size [.int .i64 1, .int .i64 0, .slice (some ⟨g, 0, none⟩) 2 cap, .int .i64 3]) := HX3.out.below hb4
  clear hp hb4
  go_wp2_with fail
  refine (runX p' y' x' z' 2 ⟨2, 0, [55, 10], 2⟩ w3 (by decide) rfl (p7_2 y' x' z') (HT.out.below HB4.out) (PwT.below HP.out HB4.out) HP4.out).mono ?_
  rintro e w4 ⟨g', cap', rfl, hg, hb5⟩
  have HB5 : Hid (Below w.heap.size w w4) := HB4.out.trans (hb5.mono HB4.out.size)
  have hX5 := HX4.out.below hb5
  have x0 := acell hX5.lt (hX5.cell (j := 0) rfl)
  have x1 := acell hX5.lt (hX5.cell (j := 1) rfl)
  have x2 := acell hX5.lt (hX5.cell (j := 2) rfl)
  have x3 := acell hX5.lt (hX5.cell (j := 3) rfl)
  have hcv : (convert 33 9 (.slice (some ⟨g, 0, none⟩) 2 cap)).run Tryz.prog (w4.alloc (.cells #[.int .i64 2, .int .i64 0, .slice (some ⟨g', 0, none⟩) 2 cap', .int .i64 2] 36)) = .ok (.string ⟨#[55, 10]⟩) (w4.alloc (.cells #[.int .i64 2, .int .i64 0, .slice (some ⟨g', 0, none⟩) 2 cap', .int .i64 2] 36)) := byt_str ((HG4.out.below hb5).below ((Below.refl _ _).alloc (Nat.le_refl _) _))
  clear hg hb5 hX5
  go_wp2
  go_ret
  exact ⟨rfl, HB5.out.alloc HB5.out.size _⟩
end
section
open Go.RowKit Go.Shelf
set_option maxRecDepth 20000
set_option maxHeartbeats 4000000
theorem own_slice {W : World} {B n : Nat} {v : Value} {xs : List Value} (h : W.ownsRow B 5 1 v n xs) : ∃ g c, v = .slice g n c := by
  obtain ⟨_, ⟨e, h0⟩ | ⟨g9, cap9, cur9, e, _⟩⟩ := h
  · exact ⟨_, _, by rw [e, h0]⟩
  · exact ⟨_, _, e⟩
theorem byt_nil (W : World) : BytV W (.slice none 0 0) [] := ⟨none, 0, rfl, Nat.le_refl _, Nat.zero_le _, fun _ => rfl, fun A h => by cases h⟩
/-- The law, where both tell the like. -/
theorem law2_of (p : List Fun) (pp iv : Option Addr) (pc n ic : Nat) (fuel F E x y z : Int) (l : List UInt8) (w : World) (hF : fewI fuel = F) (h64 : I64 E) (hT : Tfa w) (hPT : PwT w) (hA : Calls Tryz.prog 13 #[.slice pp p.length pc, .slice iv n ic, .int .i64 F] w fun e w' => ∃ ov, e = .returned (.tuple #[.agg #[.int .i64 x, .int .i64 y, ov, .int .i64 z], .int .i64 E]) ∧ (∃ a c, ov = .slice a l.length c) ∧ BytV w' ov l ∧ Below w.heap.size w w') (hB : ∀ W, Below w.heap.size w W → Calls Tryz.prog 14 #[.slice pp p.length pc, .slice iv n ic, .int .i64 F] W fun e w' => ∃ ov, e = .returned (.tuple #[.agg #[.int .i64 x, .int .i64 y, ov, .int .i64 z], .int .i64 E]) ∧ (∃ a c, ov = .slice a l.length c) ∧ BytV w' ov l ∧ Below W.heap.size W w') : Calls Tryz.prog 4 #[.slice pp p.length pc, .slice iv n ic, .int .i64 fuel] w fun e w' => e = .returned (.bool true) ∧ Below w.heap.size w w' := by
  have HA : Hid (Calls Tryz.prog 13 #[.slice pp p.length pc, .slice iv n ic, .int .i64 F] w fun e w' => ∃ ov, e = .returned (.tuple #[.agg #[.int .i64 x, .int .i64 y, ov, .int .i64 z], .int .i64 E]) ∧ (∃ a c, ov = .slice a l.length c) ∧ BytV w' ov l ∧ Below w.heap.size w w') := hA
  have HB : Hid (∀ W, Below w.heap.size w W → Calls Tryz.prog 14 #[.slice pp p.length pc, .slice iv n ic, .int .i64 F] W fun e w' => ∃ ov, e = .returned (.tuple #[.agg #[.int .i64 x, .int .i64 y, ov, .int .i64 z], .int .i64 E]) ∧ (∃ a c, ov = .slice a l.length c) ∧ BytV w' ov l ∧ Below W.heap.size W w') := hB
  have HF : Hid (∀ W, Calls Tryz.prog 12 #[.int .i64 fuel] W fun e w' => e = .returned (.int .i64 F) ∧ w' = W) := fun W => by rw [← hF]; exact few6 W fuel
  have HS : Hid (∀ W, Below w.heap.size w W → Calls Tryz.prog 11 #[] W fun e w' => e = .returned (.bool true) ∧ Below W.heap.size W w') := fun W hb => speaksX W (hT.below hb) (PwT.below hPT hb)
  have hE : IntKind.i64.wrap E = E := wrapI _ h64.1 h64.2
  generalize p.length = pl at *
  clear hA hB hT hPT hF h64
  go_enter Tryz.func4, Tryz.ntmps4
  go_wp2_with fail
  refine (HF.out _).mono ?_
  rintro e w1 ⟨rfl, h1⟩
  rw [h1]
  clear h1
  go_wp2_with fail
  refine HA.out.mono ?_
  rintro e w2 ⟨ov, rfl, ⟨ag, ac, rfl⟩, hby, hb⟩
  have HB2 : Hid (Below w.heap.size w w2) := hb
  have HB3 : Hid (Below w.heap.size w (w2.alloc (.cells #[.int .i64 x, .int .i64 y, .slice ag l.length ac, .int .i64 z] 36))) := HB2.out.alloc HB2.out.size _
  have HX3 : Hid (Cl (w2.alloc (.cells #[.int .i64 x, .int .i64 y, .slice ag l.length ac, .int .i64 z] 36)) w2.heap.size [.int .i64 x, .int .i64 y, .slice ag l.length ac, .int .i64 z]) := Cl.new w2 [.int .i64 x, .int .i64 y, .slice ag l.length ac, .int .i64 z] 36
  have HA3 : Hid (BytV (w2.alloc (.cells #[.int .i64 x, .int .i64 y, .slice ag l.length ac, .int .i64 z] 36)) (.slice ag l.length ac) l) := hby.below ((Below.refl _ _).alloc (Nat.le_refl _) _)
  clear hb hby
  go_wp2_with fail
  refine (HB.out _ HB3.out).mono ?_
  rintro e w3 ⟨ov, rfl, ⟨bg, bc, rfl⟩, hby, hb⟩
  have HB4 : Hid (Below w.heap.size w w3) := HB3.out.trans (hb.mono HB3.out.size)
  have hb5 : Below w3.heap.size w3 (w3.alloc (.cells #[.int .i64 x, .int .i64 y, .slice bg l.length bc, .int .i64 z] 36)) := (Below.refl _ _).alloc (Nat.le_refl _) _
  have HB5 : Hid (Below w.heap.size w (w3.alloc (.cells #[.int .i64 x, .int .i64 y, .slice bg l.length bc, .int .i64 z] 36))) := HB4.out.alloc HB4.out.size _
  have HA5 : Hid (BytV (w3.alloc (.cells #[.int .i64 x, .int .i64 y, .slice bg l.length bc, .int .i64 z] 36)) (.slice ag l.length ac) l) := (HA3.out.below hb).below hb5
  have HY5 : Hid (BytV (w3.alloc (.cells #[.int .i64 x, .int .i64 y, .slice bg l.length bc, .int .i64 z] 36)) (.slice bg l.length bc) l) := hby.below hb5
  have hX := (HX3.out.below hb).below hb5
  have x0 := hX.cell (j := 0) rfl
  have x1 := hX.cell (j := 1) rfl
  have x2 := hX.cell (j := 2) rfl
  have x3 := hX.cell (j := 3) rfl
  have hY := Cl.new w3 [.int .i64 x, .int .i64 y, .slice bg l.length bc, .int .i64 z] 36
  have HQ : Hid (Calls Tryz.prog 15 #[.agg #[.int .i64 x, .int .i64 y, .slice ag l.length ac, .int .i64 z], .agg #[.int .i64 x, .int .i64 y, .slice bg l.length bc, .int .i64 z]] (w3.alloc (.cells #[.int .i64 x, .int .i64 y, .slice bg l.length bc, .int .i64 z] 36)) fun e w' => e = .returned (.bool true) ∧ Below (w3.alloc (.cells #[.int .i64 x, .int .i64 y, .slice bg l.length bc, .int .i64 z] 36)).heap.size (w3.alloc (.cells #[.int .i64 x, .int .i64 y, .slice bg l.length bc, .int .i64 z] 36)) w') := same10 l x y z _ _ _ HA5.out HY5.out
  clear hb hby hX hb5
  go_wp2_with fail
  refine HQ.out.mono ?_
  rintro e w4 ⟨rfl, hb⟩
  have HB6 : Hid (Below w.heap.size w w4) := HB5.out.trans (hb.mono HB5.out.size)
  clear hb x0 x1 x2 x3 hY HX3 HA3 HA5 HY5
  go_wp2_with fail
  refine (HS.out _ HB6.out).mono ?_
  rintro e w5 ⟨rfl, hb⟩
  have HB7 : Hid (Below w.heap.size w w5) := HB6.out.trans (hb.mono HB6.out.size)
  clear hb
  go_wp2
  go_ret
  exact ⟨rfl, HB7.out⟩
theorem law2 (p : List Fun) (pp iv : Option Addr) (pc ic : Nat) (fuel : Int) (l : List UInt8) (w : World) (hT : Tfa w) (hP : PwT w) (hn : N64 p) (hI : FunA w pp pc p) (hiv : InV w w (.slice iv l.length ic) l) : Calls Tryz.prog 4 #[.slice pp p.length pc, .slice iv l.length ic, .int .i64 fuel] w fun e w' => e = .returned (.bool true) ∧ Below w.heap.size w w' := by
  have hiv' : ∀ W, Below w.heap.size w W → InV W W (.slice iv l.length ic) l := fun W hb => by
    obtain ⟨a, c, e1, e2, e3⟩ := hiv
    refine ⟨a, c, e1, e2, fun h0 => ?_⟩
    obtain ⟨g, o, e4, e5, e6⟩ := e3 h0
    exact ⟨g, o, e4, by have := hb.size; omega, fun j b hj => (World.cell?_of_block (hb.block g e5)).trans (e6 j b hj)⟩
  by_cases he : errV p l.length (fewI fuel) = 0
  · have hpb : prB p = true := by
      cases hb : prB p with
      | true => rfl
      | false => simp [errV, hb] at he
    have hl : ¬ 65536 < l.length := fun h => by simp [errV, hpb, h] at he
    have hf : ¬ fewI fuel < 0 := fun h => by simp [errV, hpb, hl, h] at he
    have h5 : fewI fuel ≤ 5000 := by unfold fewI; omega
    have hp : PrF p := ⟨hpb, hn, fun x hx => (hI.2.2.1 x hx).1⟩
    obtain ⟨k, hk⟩ : ∃ k : Nat, fewI fuel = (k : Int) := ⟨(fewI fuel).toNat, by omega⟩
    have hR := runR_is hp l k (by omega)
    refine law2_of p pp iv pc l.length ic fuel (k : Nat) 0 (runP p l k).en (runP p l k).cd ((runP p l k).st : Nat) (runP p l k).out w hk (by unfold I64; omega) hT hP ?_ (fun W hb => ?_)
    · refine (run_ok p pp iv pc ic k l w hT hP hp hI hiv (by omega) (by omega)).mono ?_
      rintro e w' ⟨ov, rfl, ho, hb'⟩
      exact ⟨ov, rfl, own_slice ho, byt_own ho, hb'⟩
    · refine (rrun_ok p pp iv pc ic k l W hp (hI.below hb) (hiv' W hb) (by omega) (by omega)).mono ?_
      rw [hR]
      rintro e w' ⟨ov, rfl, ho, hb'⟩
      exact ⟨ov, rfl, own_slice ho, byt_own ho, hb'⟩
  · have h64 : I64 (errV p l.length (fewI fuel)) := by
      unfold errV I64
      split
      · split
        · omega
        · split <;> omega
      · omega
    refine law2_of p pp iv pc l.length ic fuel (fewI fuel) (errV p l.length (fewI fuel)) 0 0 0 [] w rfl h64 hT hP ?_ (fun W hb => ?_)
    · refine (run_err p pp iv pc l.length ic (fewI fuel) w hT hI he).mono ?_
      rintro e w' ⟨rfl, hb'⟩
      exact ⟨_, rfl, ⟨none, 0, rfl⟩, byt_nil _, hb'⟩
    · refine (rrun_err p pp iv pc l.length ic (fewI fuel) W (hI.below hb) he).mono ?_
      rintro e w' ⟨rfl, hb'⟩
      exact ⟨_, rfl, ⟨none, 0, rfl⟩, byt_nil _, hb'⟩
end
section
open Go.ChangeShapes Go.WideShapes Go.ChangeAt Go.RowKit Go.Deep Go.Joins Go.ChangeMaps
set_option maxRecDepth 100000
theorem cells9 : Tryz.prog.cellsOf 9 = 1 := by kernel_rfl
theorem cells3 : Tryz.prog.cellsOf 3 = 1 := by kernel_rfl
theorem cells2 : Tryz.prog.cellsOf 2 = 1 := by kernel_rfl
theorem cells51 : Tryz.prog.cellsOf 51 = 1 := by kernel_rfl
theorem cells47 : Tryz.prog.cellsOf 47 = 1 := by kernel_rfl
theorem cells25 : Tryz.prog.cellsOf 25 = 1 := by kernel_rfl
theorem cells49 : Tryz.prog.cellsOf 49 = 1 := by kernel_rfl
theorem cells54 : Tryz.prog.cellsOf 54 = 9 := by kernel_rfl
theorem cells27 : Tryz.prog.cellsOf 27 = 5 := by kernel_rfl
theorem spot_none {W : World} {a : Addr} {v : Value} (h : W.cell? a = some v) : a = ⟨a.block, a.off, none⟩ := by
  obtain ⟨b, o, s⟩ := a
  cases s with
  | none => rfl
  | some x =>
    unfold World.cell? at h
    split at h
    · simp at h
    · cases h
/-- Cells, one by one. -/
theorem cells_at {W : World} {base : Nat} {A : Addr} {n : Nat} {cs : List Value} (h : W.cells? base A n = some cs) : cs.length = n ∧ ∀ (j : Nat) (v : Value), cs[j]? = some v → W.cell? (A.add j) = some v := by
  unfold World.cells? at h
  split at h
  · have hl := Lib.mapM_length h
    simp at hl
    refine ⟨hl, fun j v hv => ?_⟩
    have hj : j < n := by
      have := (List.getElem?_eq_some_iff.1 hv).1
      omega
    obtain ⟨b, hb, hf⟩ := Lib.mapM_at h j j (by simp [hj])
    rw [hv] at hb
    cases hb
    exact hf
  · cases h
/-- A row of things, as it comes in. -/
theorem row_open {α : Type} (good : α → Prop) (cl : α → List Value) (dflt : α) {H : Type} {enc : TypeId × Value → H} {W : World} {base : Nat} {spare : Nat → Bool} {held : Bool} {fuel : Nat} {T e : TypeId} {sz : Nat} {c0 : Value} {x : DataW H × List MemPlace} (hT : Tryz.prog.underlying T = some (.slice e)) (hs : Tryz.prog.cellsOf e = sz)
    (elt : ∀ (fuel : Nat) (A : Addr) (cs : List Value) (y : DataW H × List MemPlace), W.cells? base A sz = some cs → DataW.trod enc Tryz.prog W base spare held fuel e cs = some y → ∃ a : α, A = ⟨A.block, A.off, none⟩ ∧ good a ∧ ∀ (t : Nat) (v : Value), (cl a)[t]? = some v → W.cell? ⟨A.block, A.off + t, none⟩ = some v)
    (h : DataW.trod enc Tryz.prog W base spare held fuel T [c0] = some x) :
    ∃ (ao : Option Addr) (c : Nat) (l : List α), c0 = .slice ao l.length c ∧ l.length ≤ c ∧ c ≤ 9223372036854775807 ∧ (∀ a ∈ l, good a) ∧ (0 < l.length → ∃ g o, ao = some ⟨g, o, none⟩ ∧ ∀ (j : Nat) (a : α), l[j]? = some a → ∀ (t : Nat) (v : Value), (cl a)[t]? = some v → W.cell? ⟨g, o + j * sz + t, none⟩ = some v) := by
  rcases open_slice hT h with ⟨e1, _⟩ | ⟨a, len, cap, m, n', D, Pl, e1, _, hlc, hcm, hm, hx0, hel⟩
  · simp at e1
    subst e1
    exact ⟨none, 0, [], rfl, Nat.le_refl _, by omega, (fun x hx => (by cases hx)), fun h => absurd h (by simp)⟩
  · simp at e1
    subst e1
    rw [hs] at hel
    have hml : len ≤ m := by rw [hm]; split <;> omega
    by_cases hl : 0 < len
    · have ea : a = ⟨a.block, a.off, none⟩ := by
        obtain ⟨cs', hc', ht'⟩ := hel 0 (by omega)
        obtain ⟨_, eA, _⟩ := elt _ _ _ _ hc' ht'
        simpa [Addr.add] using eA
      obtain ⟨lb, lo, s⟩ := a
      obtain rfl : s = none := by simpa using ea
      have key : ∀ i, ∃ y : α, i < len → (good y ∧ ∀ (t : Nat) (v : Value), (cl y)[t]? = some v → W.cell? ⟨lb, lo + i * sz + t, none⟩ = some v) := by
        intro i
        by_cases hi : i < len
        · obtain ⟨cs', hc', ht'⟩ := hel i (by omega)
          rw [Addr.add_lit] at hc'
          obtain ⟨y, _, e2, e3⟩ := elt _ _ _ _ hc' ht'
          exact ⟨y, fun _ => ⟨e2, e3⟩⟩
        · exact ⟨dflt, fun h => absurd h hi⟩
      obtain ⟨f, hf⟩ := Classical.axiomOfChoice key
      refine ⟨some ⟨lb, lo, none⟩, cap, (List.range len).map f, (by simp), (by simpa using hlc), (by unfold maxLen at hcm; omega), fun x hx => ?_, fun _ => ⟨lb, lo, rfl, fun i x hi j z hz => ?_⟩⟩
      · obtain ⟨i, hi, rfl⟩ := List.mem_map.1 hx
        exact (hf i (by simpa using hi)).1
      · obtain ⟨hi', rfl⟩ : i < len ∧ f i = x := by
          rw [List.getElem?_map] at hi
          obtain ⟨i', e1, e2⟩ := Option.map_eq_some_iff.1 hi
          obtain ⟨h1, h2⟩ := List.getElem?_eq_some_iff.1 e1
          simp at h1 h2
          subst h2
          exact ⟨h1, e2⟩
        exact (hf i hi').2 j z hz
    · obtain rfl : len = 0 := by omega
      exact ⟨some a, cap, [], rfl, hlc, (by unfold maxLen at hcm; omega), (fun x hx => (by cases hx)), fun h => absurd h (by simp)⟩
/-- A row of numbers. -/
theorem ints_open {H : Type} {enc : TypeId × Value → H} {W : World} {base : Nat} {spare : Nat → Bool} {held : Bool} {fuel : Nat} {c0 : Value} {x : DataW H × List MemPlace} (h : DataW.trod enc Tryz.prog W base spare held fuel 51 [c0] = some x) :
    ∃ (ao : Option Addr) (c : Nat) (l : List Int), c0 = .slice ao l.length c ∧ ArA W ao c l := by
  obtain ⟨ao, c, l, e, h1, h2, _, h3⟩ := row_open (fun _ : Int => True) (fun y => [.int .i64 y]) 0 Tryz.underlying51 cells3 (fun fuel A cs y hc ht => by
    obtain ⟨hl, hk⟩ := cells_at hc
    obtain ⟨k, e0, _, _⟩ := DataW.trod_int Tryz.underlying3 ht
    subst e0
    have c0 := hk 0 _ rfl
    have c1 : W.cell? A = some (.int .i64 k) := by simpa [Addr.add] using c0
    have eA := spot_none c1
    refine ⟨k, eA, trivial, fun t v hv => ?_⟩
    match t, hv with
    | 0, hv => cases hv; rw [Nat.add_zero, ← eA]; exact c1
    | t + 1, hv => simp at hv) h
  refine ⟨ao, c, l, e, h1, h2, fun hl => ?_⟩
  obtain ⟨g, o, e1, hc⟩ := h3 hl
  exact ⟨g, o, e1, fun j y hj => by simpa using hc j y hj 0 _ rfl⟩
end
section
open Go.ChangeShapes Go.WideShapes Go.ChangeAt Go.RowKit Go.Deep Go.Joins Go.ChangeMaps
set_option maxRecDepth 100000
theorem i64_wf {a : Int} (h : (Lit.int .i64 a).wf = true) : I64 a := by
  simp [Lit.wf, IntKind.min, IntKind.max, IntKind.signed, IntKind.bits] at h
  exact ⟨by omega, by omega⟩
/-- An instruction. -/
theorem ins_openN {H : Type} {enc : TypeId × Value → H} {W : World} {base : Nat} {spare : Nat → Bool} {held : Bool} (fuel : Nat) (A : Addr) (cs : List Value) (x : DataW H × List MemPlace) (hc : W.cells? base A 9 = some cs) (h : DataW.trod enc Tryz.prog W base spare held fuel 54 cs = some x) :
    ∃ y : Ins, A = ⟨A.block, A.off, none⟩ ∧ ((ArA W y.ar y.ac y.gs ∧ y.nm.size ≤ maxLen) ∧ I64 y.n) ∧ ∀ (t : Nat) (v : Value), (inC y)[t]? = some v → W.cell? ⟨A.block, A.off + t, none⟩ = some v := by
  obtain ⟨hl, hk⟩ := cells_at hc
  match cs, hl with
  | [c0, c1, c2, c3, c4, c5, c6, c7, c8], _ =>
    have q0 := hk 0 _ rfl
    have q1 := hk 1 _ rfl
    have q2 := hk 2 _ rfl
    have q3 := hk 3 _ rfl
    have q4 := hk 4 _ rfl
    have q5 := hk 5 _ rfl
    have q6 := hk 6 _ rfl
    have q7 := hk 7 _ rfl
    have q8 := hk 8 _ rfl
    have eA := spot_none (by simpa [Addr.add] using q0 : W.cell? A = _)
    obtain ⟨b, o, s⟩ := A
    obtain rfl : s = none := by simpa using eA
    rw [Addr.add_lit] at q0 q1 q2 q3 q4 q5 q6 q7 q8
    obtain ⟨xs, m, _, hx, hl2, hlen, hg⟩ := DataW.trod_struct Tryz.underlying54 h
    match xs, hlen with
    | [y0, y1, y2, y3, y4, y5, y6, y7, y8], _ =>
      have g0 := hg 0 _ rfl
      simp [cells3] at g0
      obtain ⟨n0, e0, _, _⟩ := DataW.trod_int Tryz.underlying3 g0
      simp at e0
      subst e0
      have g1 := hg 1 _ rfl
      simp [cells3] at g1
      obtain ⟨n1, e1, _, _⟩ := DataW.trod_int Tryz.underlying3 g1
      simp at e1
      subst e1
      have g2 := hg 2 _ rfl
      simp [cells3] at g2
      obtain ⟨n2, e2, _, _⟩ := DataW.trod_int Tryz.underlying3 g2
      simp at e2
      subst e2
      have g3 := hg 3 _ rfl
      simp [cells3] at g3
      obtain ⟨n3, e3, _, _⟩ := DataW.trod_int Tryz.underlying3 g3
      simp at e3
      subst e3
      have g4 := hg 4 _ rfl
      simp [cells2] at g4
      obtain ⟨n4, e4, _, w4⟩ := DataW.trod_int Tryz.underlying2 g4
      simp at e4
      subst e4
      have g5 := hg 5 _ rfl
      simp [cells9] at g5
      obtain ⟨n5, e5, _, z5⟩ := DataW.trod_string Tryz.underlying9 g5
      simp at e5
      subst e5
      have g6 := hg 6 _ rfl
      simp [cells51] at g6
      obtain ⟨a6, b6, l6, e6, p6⟩ := ints_open g6
      subst e6
      have g7 := hg 7 _ rfl
      simp [cells3] at g7
      obtain ⟨n7, e7, _, _⟩ := DataW.trod_int Tryz.underlying3 g7
      simp at e7
      subst e7
      have g8 := hg 8 _ rfl
      simp [cells3] at g8
      obtain ⟨n8, e8, _, _⟩ := DataW.trod_int Tryz.underlying3 g8
      simp at e8
      subst e8
      refine ⟨⟨n0, n1, n2, n3, n4, n5, a6, b6, l6, n7, n8⟩, rfl, ⟨⟨p6, z5⟩, i64_wf w4⟩, fun t v hv => ?_⟩
      match t, hv with
      | 0, hv => cases hv; exact q0
      | 1, hv => cases hv; exact q1
      | 2, hv => cases hv; exact q2
      | 3, hv => cases hv; exact q3
      | 4, hv => cases hv; exact q4
      | 5, hv => cases hv; exact q5
      | 6, hv => cases hv; exact q6
      | 7, hv => cases hv; exact q7
      | 8, hv => cases hv; exact q8
      | t + 9, hv => simp [inC] at hv
/-- A row of instructions. -/
theorem inss_openN {H : Type} {enc : TypeId × Value → H} {W : World} {base : Nat} {spare : Nat → Bool} {held : Bool} {fuel : Nat} {c0 : Value} {x : DataW H × List MemPlace} (h : DataW.trod enc Tryz.prog W base spare held fuel 47 [c0] = some x) :
    ∃ (ao : Option Addr) (c : Nat) (l : List Ins), c0 = .slice ao l.length c ∧ InsA W ao c l ∧ ∀ i ∈ l, I64 i.n := by
  obtain ⟨ao, c, l, e, h1, h2, h3, h4⟩ := row_open (fun y : Ins => (ArA W y.ar y.ac y.gs ∧ y.nm.size ≤ maxLen) ∧ I64 y.n) inC ⟨0, 0, 0, 0, 0, ⟨#[]⟩, none, 0, [], 0, 0⟩ Tryz.underlying47 cells54 ins_openN h
  exact ⟨ao, c, l, e, ⟨h1, h2, fun i hi => (h3 i hi).1, h4⟩, fun i hi => (h3 i hi).2⟩
/-- A block. -/
theorem blk_openN {H : Type} {enc : TypeId × Value → H} {W : World} {base : Nat} {spare : Nat → Bool} {held : Bool} (fuel : Nat) (A : Addr) (cs : List Value) (x : DataW H × List MemPlace) (hc : W.cells? base A 1 = some cs) (h : DataW.trod enc Tryz.prog W base spare held fuel 49 cs = some x) :
    ∃ y : Blk, A = ⟨A.block, A.off, none⟩ ∧ (InsA W y.xo y.xc y.l ∧ ∀ i ∈ y.l, I64 i.n) ∧ ∀ (t : Nat) (v : Value), ([Value.slice y.xo y.l.length y.xc])[t]? = some v → W.cell? ⟨A.block, A.off + t, none⟩ = some v := by
  obtain ⟨hl, hk⟩ := cells_at hc
  match cs, hl with
  | [c0], _ =>
    have q0 := hk 0 _ rfl
    have eA := spot_none (by simpa [Addr.add] using q0 : W.cell? A = _)
    obtain ⟨b, o, s⟩ := A
    obtain rfl : s = none := by simpa using eA
    rw [Addr.add_lit] at q0
    obtain ⟨xs, m, _, hx, hl2, hlen, hg⟩ := DataW.trod_struct Tryz.underlying49 h
    match xs, hlen with
    | [y0], _ =>
      have g0 := hg 0 _ rfl
      simp [cells47] at g0
      obtain ⟨a0, b0, l0, e0, p0⟩ := inss_openN g0
      subst e0
      refine ⟨⟨a0, b0, l0⟩, rfl, p0, fun t v hv => ?_⟩
      match t, hv with
      | 0, hv => cases hv; exact q0
      | t + 1, hv => simp at hv
/-- A row of blocks. -/
theorem blks_openN {H : Type} {enc : TypeId × Value → H} {W : World} {base : Nat} {spare : Nat → Bool} {held : Bool} {fuel : Nat} {c0 : Value} {x : DataW H × List MemPlace} (h : DataW.trod enc Tryz.prog W base spare held fuel 25 [c0] = some x) :
    ∃ (ao : Option Addr) (c : Nat) (l : List Blk), c0 = .slice ao l.length c ∧ BlkA W ao c l ∧ ∀ b ∈ l, ∀ i ∈ b.l, I64 i.n := by
  obtain ⟨ao, c, l, e, h1, h2, h3, h4⟩ := row_open (fun y : Blk => InsA W y.xo y.xc y.l ∧ ∀ i ∈ y.l, I64 i.n) (fun y => [.slice y.xo y.l.length y.xc]) ⟨none, 0, []⟩ Tryz.underlying25 cells49 blk_openN h
  refine ⟨ao, c, l, e, ⟨h1, h2, fun b hb => (h3 b hb).1, fun hl => ?_⟩, fun b hb => (h3 b hb).2⟩
  obtain ⟨g, o, e1, hc⟩ := h4 hl
  exact ⟨g, o, e1, fun j y hj => by simpa using hc j y hj 0 _ rfl⟩
/-- A function. -/
theorem fn_openN {H : Type} {enc : TypeId × Value → H} {W : World} {base : Nat} {spare : Nat → Bool} {held : Bool} (fuel : Nat) (A : Addr) (cs : List Value) (x : DataW H × List MemPlace) (hc : W.cells? base A 5 = some cs) (h : DataW.trod enc Tryz.prog W base spare held fuel 27 cs = some x) :
    ∃ y : Fun, A = ⟨A.block, A.off, none⟩ ∧ ((y.h.bl = y.bs.length ∧ y.h.nm.size ≤ maxLen ∧ BlkA W y.h.ba y.h.bc y.bs) ∧ ∀ b ∈ y.bs, ∀ i ∈ b.l, I64 i.n) ∧ ∀ (t : Nat) (v : Value), (fnC y.h)[t]? = some v → W.cell? ⟨A.block, A.off + t, none⟩ = some v := by
  obtain ⟨hl, hk⟩ := cells_at hc
  match cs, hl with
  | [c0, c1, c2, c3, c4], _ =>
    have q0 := hk 0 _ rfl
    have q1 := hk 1 _ rfl
    have q2 := hk 2 _ rfl
    have q3 := hk 3 _ rfl
    have q4 := hk 4 _ rfl
    have eA := spot_none (by simpa [Addr.add] using q0 : W.cell? A = _)
    obtain ⟨b, o, s⟩ := A
    obtain rfl : s = none := by simpa using eA
    rw [Addr.add_lit] at q0 q1 q2 q3 q4
    obtain ⟨xs, m, _, hx, hl2, hlen, hg⟩ := DataW.trod_struct Tryz.underlying27 h
    match xs, hlen with
    | [y0, y1, y2, y3, y4], _ =>
      have g0 := hg 0 _ rfl
      simp [cells9] at g0
      obtain ⟨n0, e0, _, z0⟩ := DataW.trod_string Tryz.underlying9 g0
      simp at e0
      subst e0
      have g1 := hg 1 _ rfl
      simp [cells3] at g1
      obtain ⟨n1, e1, _, _⟩ := DataW.trod_int Tryz.underlying3 g1
      simp at e1
      subst e1
      have g2 := hg 2 _ rfl
      simp [cells3] at g2
      obtain ⟨n2, e2, _, _⟩ := DataW.trod_int Tryz.underlying3 g2
      simp at e2
      subst e2
      have g3 := hg 3 _ rfl
      simp [cells3] at g3
      obtain ⟨n3, e3, _, _⟩ := DataW.trod_int Tryz.underlying3 g3
      simp at e3
      subst e3
      have g4 := hg 4 _ rfl
      simp [cells25] at g4
      obtain ⟨a4, b4, l4, e4, p4⟩ := blks_openN g4
      subst e4
      refine ⟨⟨⟨n0, n1, n2, n3, a4, l4.length, b4⟩, l4⟩, rfl, ⟨⟨rfl, z0, p4.1⟩, p4.2⟩, fun t v hv => ?_⟩
      match t, hv with
      | 0, hv => cases hv; exact q0
      | 1, hv => cases hv; exact q1
      | 2, hv => cases hv; exact q2
      | 3, hv => cases hv; exact q3
      | 4, hv => cases hv; exact q4
      | t + 5, hv => simp [fnC] at hv
/-- A program. -/
theorem fns_openN {H : Type} {enc : TypeId × Value → H} {W : World} {base : Nat} {spare : Nat → Bool} {held : Bool} {fuel : Nat} {c0 : Value} {x : DataW H × List MemPlace} (h : DataW.trod enc Tryz.prog W base spare held fuel 22 [c0] = some x) :
    ∃ (ao : Option Addr) (c : Nat) (l : List Fun), c0 = .slice ao l.length c ∧ FunA W ao c l ∧ N64 l := by
  obtain ⟨ao, c, l, e, h1, h2, h3, h4⟩ := row_open (fun y : Fun => (y.h.bl = y.bs.length ∧ y.h.nm.size ≤ maxLen ∧ BlkA W y.h.ba y.h.bc y.bs) ∧ ∀ b ∈ y.bs, ∀ i ∈ b.l, I64 i.n) (fun y => fnC y.h) ⟨⟨⟨#[]⟩, 0, 0, 0, none, 0, 0⟩, []⟩ Tryz.underlying22 cells27 fn_openN h
  exact ⟨ao, c, l, e, ⟨h1, h2, fun x hx => (h3 x hx).1, h4⟩, fun x hx => (h3 x hx).2⟩
/-- A program that is handed on. -/
theorem prog_openN {H : Type} {enc : TypeId × Value → H} {W : World} {base : Nat} {spare : Nat → Bool} {held : Bool} {r : Reach} {b0 : Nat} {v : Value} {d : DataW H} {ps : List MemPlace} (hv : Value.okWide Tryz.prog W r b0 22 v) (h : DataW.Trod enc Tryz.prog W base spare held 22 v d ps) :
    ∃ (ao : Option Addr) (c : Nat) (l : List Fun), v = .slice ao l.length c ∧ FunA W ao c l ∧ N64 l := by
  obtain ⟨fuel, hf⟩ := h
  obtain ⟨a, n, c, rfl⟩ := okWide_slice Tryz.underlying22 hv
  have hf' : DataW.trod enc Tryz.prog W base spare held fuel 22 [.slice a n c] = some (d, ps) := hf
  exact fns_openN hf'
end
section
open Go.ChangeShapes Go.WideShapes Go.ChangeAt Go.RowKit Go.Deep Go.Joins
set_option maxRecDepth 100000
theorem cells5 : Tryz.prog.cellsOf 5 = 1 := by kernel_rfl
theorem bytes_openN {H : Type} {enc : TypeId × Value → H} {W : World} {base : Nat} {spare : Nat → Bool} {held : Bool} {r : Reach} {b0 : Nat} {v : Value} {d : DataW H} {ps : List MemPlace} (hv : Value.okWide Tryz.prog W r b0 33 v) (h : DataW.Trod enc Tryz.prog W base spare held 33 v d ps) :
    ∃ (ao : Option Addr) (c : Nat) (l : List UInt8), v = .slice ao l.length c ∧ InV W W (.slice ao l.length c) l := by
  obtain ⟨fuel, hf⟩ := h
  obtain ⟨a, n, c, rfl⟩ := okWide_slice Tryz.underlying33 hv
  have hf' : DataW.trod enc Tryz.prog W base spare held fuel 33 [.slice a n c] = some (d, ps) := hf
  obtain ⟨ao, c, l, e, h1, h2, _, h3⟩ := row_open (fun _ : UInt8 => True) (fun y => [.int .u8 y.toNat]) 0 Tryz.underlying33 cells5 (fun fuel A cs y hc ht => by
    obtain ⟨hl, hk⟩ := cells_at hc
    obtain ⟨k, e0, _, hw⟩ := DataW.trod_int Tryz.underlying5 ht
    subst e0
    have c0 := hk 0 _ rfl
    have c1 : W.cell? A = some (.int .u8 k) := by simpa [Addr.add] using c0
    have eA := spot_none c1
    have hb : 0 ≤ k ∧ k < 256 := by
      have h1 : IntKind.u8.min = 0 := rfl
      have h2 : IntKind.u8.max = 255 := rfl
      have hw' : (Lit.int .u8 k).wf = true := hw
      simp only [Lit.wf, Bool.and_eq_true, decide_eq_true_eq] at hw'
      omega
    have ek : (((UInt8.ofNat k.toNat).toNat : Nat) : Int) = k := by
      rw [UInt8.toNat_ofNat']
      omega
    refine ⟨UInt8.ofNat k.toNat, eA, trivial, fun t v hv => ?_⟩
    match t, hv with
    | 0, hv =>
      cases hv
      rw [Nat.add_zero, ← eA, ek]
      exact c1
    | t + 1, hv => simp at hv) hf'
  refine ⟨ao, c, l, e, ao, c, rfl, h1, fun hl => ?_⟩
  obtain ⟨g, o, e1, hc⟩ := h3 hl
  obtain ⟨b, hb⟩ : ∃ b, l[0]? = some b := ⟨_, List.getElem?_eq_getElem hl⟩
  have hlt := World.block_lt_of_cell? _ _ (hc 0 b hb 0 _ rfl)
  exact ⟨g, o, e1, hlt, fun j y hj => by simpa using hc j y hj 0 _ rfl⟩
end
end Go.Proofs.YtdppoblbenbafaaGreatDoor
