/- Walks of the little machine: a step. Walks of the little machine: its words, its run. Walks of a nil machine: its state. Walks of a nil machine: its steps, its runs, its pages; a name. Walks of the little machine: its beginning, its end. Walks of the little machine: New, State. Walks of the little machine: what every statement asks first. -/
import Derived.Test.YtnmpbihpoefeoaaDoorCA
import Derived.Test.YtnmpbihpoefeoaaDoorDA
import Derived.Deep.RegionHeld3
import Derived.RegionTactic
import Derived.Test.YtnmpbihpoefeoaaDoorProg
import Derived.WalkKit
import Derived.WalkSpells
import Derived.WalkLawsBesides
import Derived.LoopTactic
import Derived.Deep.MidRow
import Derived.KernelRfl
namespace Go.Proofs.YtnmpbihpoefeoaaDoor
section
open Go.RowKit Go.Shelf
set_option maxHeartbeats 1000000 in
set_option maxRecDepth 20000 in
theorem next33 {W0 W : World} {m mem : Nat} {pc x10 x17 st word : Int} {ia ib ic id ie : Int} {R : World → Prop} (HB : Below W0.heap.size W0 W) (H : Mac W m pc x10 x17 st false 0 mem)
    (hf : ∀ w, Below W0.heap.size W0 w → Calls Tryd.prog 45 #[.pointer (some ⟨mem, 0, none⟩), .int .u64 pc] w fun e w' => e = .returned (.tuple #[.int .u32 word, .int .i64 0]) ∧ Below w.heap.size w w')
    (hd : ∀ w, Below W0.heap.size W0 w → Calls Tryd.prog 46 #[.int .u32 word] w fun e w' => e = .returned (.tuple #[.agg #[.int .i64 ia, .int .i64 ib, .int .i64 ic, .int .i64 id, .int .i64 ie], .int .i64 0]) ∧ Below w.heap.size w w')
    (hdo : ∀ w, Mac w m pc x10 x17 st false 0 mem → Calls Tryd.prog 47 #[.pointer (some ⟨m, 0, none⟩), .agg #[.int .i64 ia, .int .i64 ib, .int .i64 ic, .int .i64 id, .int .i64 ie]] w fun e w' => e = .returned (.int .i64 0) ∧ Below m w w' ∧ R w') :
    Calls Tryd.prog 33 #[.pointer (some ⟨m, 0, none⟩)] W fun e w' => e = .returned (.int .i64 0) ∧ Below m W w' ∧ R w' := by
  have hs := lt_of_some H.blk
  have h0 : W.cell? ⟨m, 0, none⟩ = some (.int .u64 pc) := H.at_ 0
  have h39 : W.cell? ⟨m, 39, none⟩ = some (.pointer (some ⟨mem, 0, none⟩)) := H.at_ 39
  have HM : Hid (Mac W m pc x10 x17 st false 0 mem) := H
  have HW : Hid (Below W0.heap.size W0 W) := HB
  clear H HB
  go_enter Tryd.func33, Tryd.ntmps33
  go_wp2
  go_region_held3 (fun w' => w'.cell? ⟨m, 0, none⟩ = some (.int .u64 pc) ∧ w'.cell? ⟨m, 39, none⟩ = some (.pointer (some ⟨mem, 0, none⟩))) (go_keep)
    (first | (go_at_call 45; refine (hf W.drew HW.out.drew).mono ?_; rintro e w1 ⟨rfl, hb1⟩; have _g0 := (hb1.cell (p := ⟨m, 0, none⟩) hs).trans h0; have _g1 := (hb1.cell (p := ⟨m, 39, none⟩) hs).trans h39))
  have HB1 : Hid (Below W.heap.size W w1) := (Below.refl _ W).drew.trans hb1
  clear _g0 _g1 hb1
  have hz := HB1.out.size
  go_wp2_with fail
  refine (hd _ ?_).mono ?_
  · exact HW.out.trans (HB1.out.mono HW.out.size)
  rintro e w2 ⟨rfl, hb2⟩
  have HB2 : Hid (Below W.heap.size W w2) := HB1.out.trans (hb2.mono HB1.out.size)
  clear hb2
  go_wp2_with fail
  refine (hdo _ (HM.out.below (HB2.out.alloc HB2.out.size _))).mono ?_
  rintro e w3 ⟨rfl, hb3, hR⟩
  have HB3 : Hid (Below m W w3) := ((HB2.out.alloc HB2.out.size _).mono (Nat.le_of_lt hs)).trans hb3
  have HR : Hid (R w3) := hR
  clear hb3 hR
  go_wp2
  go_ret
  exact ⟨rfl, HB3.out, HR.out⟩
set_option maxHeartbeats 1000000 in
set_option maxRecDepth 20000 in
theorem step18 {W : World} {m mem : Nat} {pc x10 x17 st pc' x10' x17' st' code' : Int} {h' : Bool} (H : Mac W m pc x10 x17 st false 0 mem)
    (hn : Calls Tryd.prog 33 #[.pointer (some ⟨m, 0, none⟩)] W fun e w' => e = .returned (.int .i64 0) ∧ Below m W w' ∧ Mac w' m pc' x10' x17' st' h' code' mem) :
    Calls Tryd.prog 18 #[.pointer (some ⟨m, 0, none⟩)] W fun e w' => e = .returned (.int .i64 0) ∧ Below m W w' ∧ Mac w' m pc' x10' x17' st' h' code' mem := by
  have hs := lt_of_some H.blk
  have h34 : W.cell? ⟨m, 34, none⟩ = some (.bool false) := H.at_ 34
  have HM : Hid (Mac W m pc x10 x17 st false 0 mem) := H
  have HN : Hid (Calls Tryd.prog 33 #[.pointer (some ⟨m, 0, none⟩)] W fun e w' => e = .returned (.int .i64 0) ∧ Below m W w' ∧ Mac w' m pc' x10' x17' st' h' code' mem) := hn
  clear H hn
  go_enter Tryd.func18, Tryd.ntmps18
  go_wp2_with fail
  refine (over30 HM.out).mono ?_
  rintro e w1 ⟨rfl, h1⟩
  subst h1
  go_wp2_with fail
  refine HN.out.mono ?_
  rintro e w2 ⟨rfl, hb, hm⟩
  have h36 : w2.cell? ⟨m, 36, none⟩ = some (.int .i64 0) := hm.at_ 36
  have f36 : w2.frozen? ⟨m, 36, none⟩ = false := hm.fz 36
  have hz := lt_of_some hm.blk
  have HB : Hid (Below m w1 w2) := hb
  have HM2 : Hid (Mac w2 m pc' x10' x17' st' h' code' mem) := hm
  clear hb hm
  go_wp2
  go_ret
  exact ⟨rfl, HB.out.setCell (Nat.le_refl _) _, ⟨mac_set HM2.out.blk 36 _⟩⟩
end
section
open Go.RowKit Go.Shelf
def kF (_ : Nat) : Int := 4096
def pF (_ : Nat) : Int := 5
def YF (_ : Nat) (t : Nat) : Int := BA 12 t
theorem CB_small (t : Nat) : 0 ≤ CB t ∧ CB t < 256 := by
  unfold CB
  rcases t with _ | _ | _ | _ | _ | _ | _ | _ | _ | _ | _ | _ | t <;> simp
theorem YF_small (i j : Nat) : 0 ≤ YF i j ∧ YF i j < 256 := by
  unfold YF BA
  split
  · exact CB_small j
  · omega
theorem word_sum (i : Nat) (hi : i < 3) : sumV [YF 0 (4 * i), YF 0 (4 * i + 1), YF 0 (4 * i + 2), YF 0 (4 * i + 3)] = wd i := by
  rcases (by omega : i = 0 ∨ i = 1 ∨ i = 2) with rfl | rfl | rfl <;> rfl
theorem fetch_i {W0 w : World} {mem r : Nat} (h : ∃ base ps, Fr W0 mem r 1 kF pF YF base ps) (hb : Below W0.heap.size W0 w) (i : Nat) (hi : i < 3) : Calls Tryd.prog 45 #[.pointer (some ⟨mem, 0, none⟩), .int .u64 (4096 + 4 * (i : Int))] w fun e w' => e = .returned (.tuple #[.int .u32 (wd i), .int .i64 0]) ∧ Below w.heap.size w w' := by
  obtain ⟨base, ps, hF0⟩ := h
  have hF := fr_below hF0 hb
  have hM := hF.mm YF_small
  obtain ⟨x, rfl⟩ : ∃ x, ps = [x] := List.length_eq_one_iff.1 hF.len
  obtain ⟨x1, x2, _, _⟩ := hF.at_ 0 x rfl
  have hd := (hF.data 0 x rfl).2
  have hp : ∀ q : Int, 4096 ≤ q → q < 8192 → bs q = 4096 ∧ pg [x] (bs q) = some x := by
    intro q h1 h2
    have : bs q = 4096 := by unfold bs; omega
    refine ⟨this, ?_⟩
    rw [this]
    simp [pg, x1, kF]
  have hy : ∀ t : Nat, t < 4096 → byt [x] (btOf w) (4096 + (t : Int)) = YF 0 t := by
    intro t ht
    obtain ⟨a, b⟩ := hp (4096 + (t : Int)) (by omega) (by omega)
    unfold byt
    rw [b, a, show (4096 + (t : Int) - 4096).toNat = t by omega]
    exact btOf_at (hd t ht) (YF_small 0 t)
  have f1 : fE [x] (4096 + 4 * (i : Int)) = 0 := by
    obtain ⟨a, b⟩ := hp (4096 + 4 * (i : Int)) (by omega) (by omega)
    unfold fE useE
    rw [if_pos (by omega), if_neg (by omega), b]
    simp only [a]
    rw [if_pos (by omega)]
    unfold YtnmpbihpoefeoaaDoor.e1 badP
    rw [x2]
    rfl
  have f2 : fV [x] (btOf w) (4096 + 4 * (i : Int)) = wd i := by
    unfold fV
    rw [if_pos f1, ← word_sum i hi]
    have t0 := hy (4 * i) (by omega)
    have t1 := hy (4 * i + 1) (by omega)
    have t2 := hy (4 * i + 2) (by omega)
    have t3 := hy (4 * i + 3) (by omega)
    rw [← t0, ← t1, ← t2, ← t3]
    unfold byts
    have : List.range 4 = [0, 1, 2, 3] := rfl
    rw [this]
    simp only [List.map]
    congr 3 <;> (try congr 1) <;> (try congr 1) <;> omega
  refine (fetch_all mem r [x] (btOf w) (4096 + 4 * (i : Int)) w hM (by omega) (by omega)).mono ?_
  rw [f1, f2]
  exact fun _ _ h => h
theorem dec_0 (w : World) (hT : Tab w) : Calls Tryd.prog 46 #[.int .u32 7341331] w fun e w' => e = .returned (.tuple #[.agg #[.int .i64 22, .int .i64 10, .int .i64 0, .int .i64 0, .int .i64 7], .int .i64 0]) ∧ Below w.heap.size w w' := by
  have c : cF 7341331 = 22 := by decide
  exact decode13_hit 7341331 22 (by decide) (by decide) (by decide) (by decide) (fun j h1 h2 => by omega) (by decide) w hT
theorem dec_1 (w : World) (hT : Tab w) : Calls Tryd.prog 46 #[.int .u32 97519763] w fun e w' => e = .returned (.tuple #[.agg #[.int .i64 22, .int .i64 17, .int .i64 0, .int .i64 0, .int .i64 93], .int .i64 0]) ∧ Below w.heap.size w w' := by
  have c : cF 97519763 = 22 := by decide
  exact decode13_hit 97519763 22 (by decide) (by decide) (by decide) (by decide) (fun j h1 h2 => by omega) (by decide) w hT
theorem dec_2 (w : World) (hT : Tab w) : Calls Tryd.prog 46 #[.int .u32 115] w fun e w' => e = .returned (.tuple #[.agg #[.int .i64 64, .int .i64 0, .int .i64 0, .int .i64 0, .int .i64 0], .int .i64 0]) ∧ Below w.heap.size w w' := by
  have c : cF 115 = 63 := by decide
  have d : mt 63 115 = false := by decide
  exact decode13_hit 115 64 (by decide) (by decide) (by decide) (by decide) (fun j h1 h2 => by rw [show j = 63 by omega]; exact d) (by decide) w hT
/-- The machine at its beginning, and behind each step. -/
def Sm (W : World) (m mem : Nat) : Nat → Prop
  | 0 => Mac W m 4096 0 0 0 false 0 mem
  | 1 => Mac W m 4100 7 0 1 false 0 mem
  | 2 => Mac W m 4104 7 93 2 false 0 mem
  | _ => Mac W m 4108 7 93 3 true 7 mem
theorem step_j {W0 W : World} {m mem r : Nat} (hm : W0.heap.size ≤ m) (hF : ∃ base ps, Fr W0 mem r 1 kF pF YF base ps) (hT : Tab W0) (hB : Below W0.heap.size W0 W) (j : Nat) (hj : j < 3) (H : Sm W m mem j) :
    Calls Tryd.prog 18 #[.pointer (some ⟨m, 0, none⟩)] W fun e w' => e = .returned (.int .i64 0) ∧ Below W0.heap.size W0 w' ∧ Sm w' m mem (j + 1) := by
  have fin : ∀ {e : Ending} {w' : World} {P : Prop}, e = .returned (.int .i64 0) ∧ Below m W w' ∧ P → e = .returned (.int .i64 0) ∧ Below W0.heap.size W0 w' ∧ P := fun ⟨a, b, c⟩ => ⟨a, hB.trans (b.mono hm), c⟩
  rcases (by omega : j = 0 ∨ j = 1 ∨ j = 2) with rfl | rfl | rfl
  · exact (step18 (mem := mem) H (next33 hB H (fun w hw => fetch_i hF hw 0 hj) (fun w hw => dec_0 w (hT.below hw)) (fun w h => do47_a h))).mono fun _ _ h => fin h
  · exact (step18 (mem := mem) H (next33 hB H (fun w hw => fetch_i hF hw 1 hj) (fun w hw => dec_1 w (hT.below hw)) (fun w h => do47_b h))).mono fun _ _ h => fin h
  · exact (step18 (mem := mem) H (next33 hB H (fun w hw => fetch_i hF hw 2 hj) (fun w hw => dec_2 w (hT.below hw)) (fun w h => do47_e h))).mono fun _ _ h => fin h
theorem over_j {W : World} {m mem : Nat} (j : Nat) (hj : j ≤ 3) (H : Sm W m mem j) : Calls Tryd.prog 30 #[.pointer (some ⟨m, 0, none⟩)] W fun e w' => e = .returned (.bool (decide (j = 3))) ∧ w' = W := by
  rcases (by omega : j = 0 ∨ j = 1 ∨ j = 2 ∨ j = 3) with rfl | rfl | rfl | rfl
  · exact over30 H
  · exact over30 H
  · exact over30 H
  · exact over30 H
set_option maxHeartbeats 1000000 in
theorem run13 {W0 W : World} {m mem r : Nat} (hm : W0.heap.size ≤ m) (hF : ∃ base ps, Fr W0 mem r 1 kF pF YF base ps) (hT : Tab W0) (hB : Below W0.heap.size W0 W) (H : Sm W m mem 0) :
    Calls Tryd.prog 13 #[.pointer (some ⟨m, 0, none⟩), .int .i64 9] W fun e w' => e = .returned (.int .i64 3) ∧ Below W0.heap.size W0 w' ∧ Sm w' m mem 3 := by
  have HH : Hid (Sm W m mem 0) := H
  have HB : Hid (Below W0.heap.size W0 W) := hB
  have HF : Hid (∃ base ps, Fr W0 mem r 1 kF pF YF base ps) := hF
  have HT : Hid (Tab W0) := hT
  clear H hB hF hT
  go_enter Tryd.func13, Tryd.ntmps13
  go_wp2_with fail
  go_loopw [5] (fun x wr => ∃ j : Nat, j ≤ 3 ∧ x = .int .i64 j ∧ Below W0.heap.size W0 wr ∧ Sm wr m mem j) (fun x _ => 3 - (intOf x).toNat)
  case atStart => exact ⟨0, by omega, rfl, HB.out, HH.out⟩
  case round =>
    obtain ⟨j, hj, rfl, hb, hS⟩ := hrel
    have HBr : Hid (Below W0.heap.size W0 wr) := hb
    have HS : Hid (Sm wr m mem j) := hS
    clear hb hS
    have hlt : (j : Int) < 9 := by omega
    by_cases h3 : j = 3
    · have hd : decide (j = 3) = true := by simp [h3]
      go_wp2_with fail
      refine (over_j j hj HS.out).mono ?_
      rw [hd]
      rintro e w1 ⟨rfl, h1⟩
      subst h1
      go_wp2
      go_ret
      subst h3
      exact ⟨rfl, HBr.out, HS.out⟩
    · have hd : decide (j = 3) = false := by simp [h3]
      go_wp2_with fail
      refine (over_j j hj HS.out).mono ?_
      rw [hd]
      rintro e w1 ⟨rfl, h1⟩
      subst h1
      go_wp2_with fail
      refine (step_j hm HF.out HT.out HBr.out j (by omega) HS.out).mono ?_
      rintro e w2 ⟨rfl, hb2, hs2⟩
      have HB2 : Hid (Below W0.heap.size W0 w2) := hb2
      have HS2 : Hid (Sm w2 m mem (j + 1)) := hs2
      clear hb2 hs2
      go_wp2
      go_roundw
      case rel => exact ⟨j + 1, by omega, by go_num, HB2.out, HS2.out⟩
      case measure => simp [intOf]; omega
end
section
open Go.RowKit
/-- The cells of a state that is all 0. -/
def zR : List Value := [.int .u64 0, .int .u64 0, .int .u64 0, .int .u64 0, .int .u64 0, .int .u64 0, .int .u64 0, .int .u64 0, .int .u64 0, .int .u64 0, .int .u64 0, .int .u64 0, .int .u64 0, .int .u64 0, .int .u64 0, .int .u64 0, .int .u64 0, .int .u64 0, .int .u64 0, .int .u64 0, .int .u64 0, .int .u64 0, .int .u64 0, .int .u64 0, .int .u64 0, .int .u64 0, .int .u64 0, .int .u64 0, .int .u64 0, .int .u64 0, .int .u64 0, .int .u64 0]
def zC : List Value := [.int .u64 0, .int .u64 0, .int .u64 0, .int .u64 0, .int .u64 0, .int .u64 0, .int .u64 0, .int .u64 0, .int .u64 0, .int .u64 0, .int .u64 0, .int .u64 0, .int .u64 0, .int .u64 0, .int .u64 0, .int .u64 0, .int .u64 0, .int .u64 0, .int .u64 0, .int .u64 0, .int .u64 0, .int .u64 0, .int .u64 0, .int .u64 0, .int .u64 0, .int .u64 0, .int .u64 0, .int .u64 0, .int .u64 0, .int .u64 0, .int .u64 0, .int .u64 0, .int .u64 0, .int .i64 0, .bool false, .int .i64 0, .int .i64 0, .slice none 0 0, .int .i64 0]
theorem info37 : (Tryd.prog.info? 37).map (·.size) = some 39 := by kernel_rfl
theorem one37 : (zC.toArray.all (·.oneCell')) = true := by kernel_rfl
theorem range_new (w : World) (cs : List Value) (t : TypeId) : (w.alloc (.cells cs.toArray t)).rangeAt w.heap.size 0 cs := fun j v hv => by
  rw [Nat.zero_add]
  simpa using hv
theorem there_new (w : World) (cs : List Value) (t : TypeId) : (w.alloc (.cells cs.toArray t)).there w.heap.size 0 cs.length := fun j hj => by
  rw [Nat.zero_add]
  constructor
  · simp [hj]
  · simp
theorem results_cell {P : Program} {fn : Func} {a : Nat} {t : TypeId} {tmps : Array Value} {W : World} (hf : fn.results = #[.cell a t]) (b : Nat) (hp : tmps.getD a undef = .pointer (some ⟨b, 0, none⟩)) (cs : List Value) (d : TypeDesc) (hc : W.rangeAt b 0 cs) (hu : P.underlying t = some d) (hd : d.isRow = true) (hi : (P.info? t).map (·.size) = some cs.length) :
    (results fn tmps).run P W = .ok (.agg cs.toArray) W := by
  have hp' : tmps[a]?.getD undef = .pointer (some ⟨b, 0, none⟩) := by simpa using hp
  unfold results
  rw [hf]
  simp [hp', asAddr, run_loadVar_mid W b 0 t cs d hc hu hd hi]
theorem below_setCells {B : Nat} {a w : World} (h : Below B a w) (b o : Nat) (hb : B ≤ b) (vs : List Value) : Below B a (w.setCells b o vs) := by
  induction vs generalizing w o with
  | nil => exact h
  | cons v vs ih => exact ih (h.setCell (by simpa using hb) v) (o + 1)
set_option maxRecDepth 20000 in
set_option maxHeartbeats 1000000 in
theorem state14_nil (w : World) : Calls Tryd.prog 14 #[.pointer none] w fun e w' => e = .returned (.agg zC.toArray) ∧ Below w.heap.size w w' := by
  go_enter Tryd.func14, Tryd.ntmps14
  go_wp2_with (first | (refine wpList_store_mid rfl 37 _ _ rfl w.heap.size 0 _ rfl rfl (there_new w zC 37) info37 one37 ?_) | go_in)
  refine bodyPost_ret (v := .agg zC.toArray) (results_cell Tryd.results14 w.heap.size rfl zC _ (World.rangeAt_setCells_same _ _ _ zC (there_new w zC 37)) Tryd.underlying37 rfl info37) rfl ⟨rfl, ?_⟩
  exact below_setCells ((Below.refl _ _).alloc (Nat.le_refl _) _) _ _ (Nat.le_refl _) _
end
section
open Go.RowKit
set_option maxHeartbeats 1000000 in
theorem step18_nil (w : World) : Calls Tryd.prog 18 #[.pointer none] w fun e w' => e = .returned (.int .i64 30) ∧ w' = w := by
  go_enter Tryd.func18, Tryd.ntmps18
  go_wp2
  go_ret
  exact ⟨rfl, rfl⟩
set_option maxHeartbeats 1000000 in
theorem over30_nil (w : World) : Calls Tryd.prog 30 #[.pointer none] w fun e w' => e = .returned (.bool true) ∧ w' = w := by
  go_enter Tryd.func30, Tryd.ntmps30
  go_wp2
  go_ret
  exact ⟨rfl, rfl⟩
set_option maxHeartbeats 1000000 in
theorem pages17_nil (w : World) : Calls Tryd.prog 17 #[.pointer none] w fun e w' => e = .returned (.slice none 0 0) ∧ w' = w := by
  go_enter Tryd.func17, Tryd.ntmps17
  go_wp2
  go_ret
  exact ⟨rfl, rfl⟩
set_option maxHeartbeats 1000000 in
theorem run13_nil (n : Int) (w : World) : Calls Tryd.prog 13 #[.pointer none, .int .i64 n] w fun e w' => e = .returned (.int .i64 0) ∧ w' = w := by
  by_cases hn : 0 < n
  · go_enter Tryd.func13, Tryd.ntmps13
    go_wp2_with fail
    go_loopw [5] (fun x wr => x = .int .i64 0 ∧ wr = w) (fun _ _ => 0)
    case atStart => exact ⟨rfl, rfl⟩
    case round =>
      obtain ⟨rfl, rfl⟩ := hrel
      go_wp2_with ((go_at_call 30; refine (over30_nil _).mono ?_; rintro e w' ⟨rfl, rfl⟩))
      go_ret
      exact ⟨rfl, rfl⟩
  · go_enter Tryd.func13, Tryd.ntmps13
    go_wp2_with fail
    go_loopw [5] (fun x wr => x = .int .i64 0 ∧ wr = w) (fun _ _ => 0)
    case atStart => exact ⟨rfl, rfl⟩
    case round =>
      obtain ⟨rfl, rfl⟩ := hrel
      go_wp2
      go_ret
      exact ⟨rfl, rfl⟩
set_option maxHeartbeats 1000000 in
theorem name19_one (w : World) : Calls Tryd.prog 19 #[.int .i64 1] w fun e w' => e = .returned (.string ⟨#[108, 117, 105]⟩) ∧ Below w.heap.size w w' := by
  go_enter Tryd.func19, Tryd.ntmps19
  go_wp2
  go_ret
  exact ⟨rfl, (Below.refl _ _).alloc (Nat.le_refl _) _⟩
theorem conv_nil (W : World) : (convert 35 9 (.slice none 0 0)).run Tryd.prog W = .ok (.string ⟨#[]⟩) W := by kernel_rfl
set_option maxRecDepth 20000 in
set_option maxHeartbeats 1000000 in
theorem bytes31_nil (w : World) : Calls Tryd.prog 31 #[.slice none 0 0, .slice none 0 0] w fun e w' => e = .returned (.bool true) ∧ w' = w := by
  have hconv := conv_nil
  go_enter Tryd.func31, Tryd.ntmps31
  go_wp2
  go_ret
  exact ⟨rfl, rfl⟩
theorem zAt0 : zC[0]? = some (.int .u64 0) := rfl
theorem zAt33 : zC[33]? = some (.int .i64 0) := rfl
theorem zAt34 : zC[34]? = some (.bool false) := rfl
theorem zAt35 : zC[35]? = some (.int .i64 0) := rfl
theorem zAt36 : zC[36]? = some (.int .i64 0) := rfl
theorem zAt37 : zC[37]? = some (.slice none 0 0) := rfl
theorem zAt38 : zC[38]? = some (.int .i64 0) := rfl
theorem info34 : (Tryd.prog.info? 34).map (·.size) = some 32 := by kernel_rfl
theorem wpList_load_guard {P : Program} {ops : Array Oper} {rest : List Oper} {op : Oper} {a : Act} {w : World} {Q : Exit → Act → World → Prop} (hg : Region.wanted op (yielded ops a.tmps) = true) (ty : TypeId) (x : Operand) (ho : op.op = .load ty x)
    (b o : Nat) (hx : a.eval x = .pointer (some ⟨b, o, none⟩)) (cs : List Value) (d : TypeDesc) (hc : w.rangeAt b o cs)
    (hu : P.underlying ty = some d) (hd : d.isRow = true) (hi : (P.info? ty).map (·.size) = some cs.length)
    (h : wpList P ops Q rest (a.put op.dst (.agg cs.toArray)) w) : wpList P ops Q (op :: rest) a w :=
  wpList_step fun K hK => by rw [if_pos hg]; exact wp_load_mid ty x ho b o hx cs d hc hu hd hi (hK _ _ h)
theorem eql_zero (w : World) : (Op.equalIn 10000 34 (.agg zR.toArray) (.agg zR.toArray)).run Tryd.prog w = .ok true w := by kernel_rfl
theorem zC_regs {j : Nat} (hj : j < 32) : zC[1 + j]? = zR[j]? := by
  rw [show zC = .int .u64 0 :: (zR ++ [.int .i64 0, .bool false, .int .i64 0, .int .i64 0, .slice none 0 0, .int .i64 0]) from rfl, Nat.add_comm, List.getElem?_cons_succ, List.getElem?_append_left (by exact hj)]
theorem range_first (w : World) : ((w.alloc (.cells zC.toArray 37)).alloc (.cells zC.toArray 37)).rangeAt w.heap.size 1 zR := fun j v hv => by
  simp [zC_regs (List.getElem?_eq_some_iff.1 hv).1, hv]
theorem range_second (w : World) : ((w.alloc (.cells zC.toArray 37)).alloc (.cells zC.toArray 37)).rangeAt (w.heap.size + 1) 1 zR := fun j v hv => by
  simp [zC_regs (List.getElem?_eq_some_iff.1 hv).1, hv]
set_option maxRecDepth 20000 in
set_option maxHeartbeats 1000000 in
theorem cpu15_zero (w : World) : Calls Tryd.prog 15 #[.agg zC.toArray, .agg zC.toArray] w fun e w' => e = .returned (.bool true) ∧ Below w.heap.size w w' := by
  have q0 := zAt0
  have q33 := zAt33
  have q34 := zAt34
  have q35 := zAt35
  have q36 := zAt36
  have q37 := zAt37
  have q38 := zAt38
  have heql := eql_zero
  go_enter Tryd.func15, Tryd.ntmps15
  go_wp2_with (first | (refine wpList_load_guard rfl 34 _ rfl w.heap.size 1 rfl zR _ (range_first w) Tryd.underlying34 rfl info34 ?_) | (refine wpList_load_guard rfl 34 _ rfl (w.heap.size + 1) 1 rfl zR _ (range_second w) Tryd.underlying34 rfl info34 ?_) | (go_at_call 31; refine (bytes31_nil _).mono ?_; rintro e w' ⟨rfl, h'⟩; subst h') | go_in)
  go_ret
  exact ⟨rfl, ((Below.refl _ _).alloc (Nat.le_refl _) _).alloc (by simp) _⟩
end
section
open Go.RowKit Go.Shelf
/-- The cells of a state. -/
def ccs (pc x10 x17 st : Int) (h : Bool) (code : Int) : List Value :=
  [.int .u64 pc, .int .u64 0, .int .u64 0, .int .u64 0, .int .u64 0, .int .u64 0, .int .u64 0, .int .u64 0, .int .u64 0, .int .u64 0, .int .u64 0, .int .u64 x10, .int .u64 0, .int .u64 0, .int .u64 0, .int .u64 0, .int .u64 0, .int .u64 0, .int .u64 x17, .int .u64 0, .int .u64 0, .int .u64 0, .int .u64 0, .int .u64 0, .int .u64 0, .int .u64 0, .int .u64 0, .int .u64 0, .int .u64 0, .int .u64 0, .int .u64 0, .int .u64 0, .int .u64 0, .int .i64 st, .bool h, .int .i64 code, .int .i64 0, .slice none 0 0, .int .i64 0]
def c0 : List Value := ccs 4096 0 0 0 false 0
theorem c0At1 : c0[1]? = some (.int .u64 0) := rfl
theorem c0At33 : c0[33]? = some (.int .i64 0) := rfl
theorem c0At35 : c0[35]? = some (.int .i64 0) := rfl
theorem c0At36 : c0[36]? = some (.int .i64 0) := rfl
theorem c0At38 : c0[38]? = some (.int .i64 0) := rfl
set_option maxRecDepth 20000 in
set_option maxHeartbeats 1000000 in
theorem right26 (w : World) : Calls Tryd.prog 26 #[.agg c0.toArray, .int .i64 0] w fun e w' => e = .returned (.bool true) ∧ Below w.heap.size w w' := by
  have q1 := c0At1
  have q33 := c0At33
  have q35 := c0At35
  have q36 := c0At36
  have q38 := c0At38
  go_enter Tryd.func26, Tryd.ntmps26
  go_wp2
  go_ret
  exact ⟨rfl, ((Below.refl _ _).alloc (Nat.le_refl _) _)⟩
theorem eql_nil35 (W : World) : (binOp .eql 35 (.slice none 0 0) (.slice none 0 0)).run Tryd.prog W = .ok (.bool true) W := by kernel_rfl
set_option maxHeartbeats 1000000 in
theorem clone29_nil (w : World) : Calls Tryd.prog 29 #[.slice none 0 0] w fun e w' => e = .returned (.slice none 0 0) ∧ w' = w := by
  have hq := eql_nil35
  go_enter Tryd.func29, Tryd.ntmps29
  go_wp2
  go_ret
  exact ⟨rfl, rfl⟩
theorem range_new2 (w : World) (cs : List Value) (ds : Array Value) (t : TypeId) : ((w.alloc (.cells cs.toArray t)).alloc (.cells ds t)).rangeAt w.heap.size 0 cs := fun j v hv => by
  rw [Nat.zero_add]
  simpa using hv
theorem there_new2 (w : World) (x : Obj) (cs : List Value) (t : TypeId) {n : Nat} (hn : n = 39) (hc : cs.length = 39) : ((w.alloc x).alloc (.cells cs.toArray t)).there (w.heap.size + 1) 0 n := fun j hj => by
  rw [Nat.zero_add]
  constructor
  · simp [hc, ← hn, hj]
  · simp
theorem ccs_one (pc x10 x17 st : Int) (h : Bool) (code : Int) : ((ccs pc x10 x17 st h code).toArray.all (·.oneCell')) = true := by kernel_rfl
theorem ccs37 (pc x10 x17 st : Int) (h : Bool) (code : Int) : (ccs pc x10 x17 st h code)[37]? = some (.slice none 0 0) := rfl
set_option maxRecDepth 20000 in
set_option maxHeartbeats 1000000 in
theorem copied28 (pc x10 x17 st : Int) (h : Bool) (code : Int) (w : World) : Calls Tryd.prog 28 #[.agg (ccs pc x10 x17 st h code).toArray] w fun e w' => e = .returned (.agg (ccs pc x10 x17 st h code).toArray) ∧ Below w.heap.size w w' := by
  have q37 := ccs37 pc x10 x17 st h code
  have hl : Hid ((ccs pc x10 x17 st h code).length = 39) := rfl
  have HO : Hid ((ccs pc x10 x17 st h code).toArray.all (·.oneCell') = true) := ccs_one pc x10 x17 st h code
  have hset : (ccs pc x10 x17 st h code).set 37 (.slice none 0 0) = ccs pc x10 x17 st h code := rfl
  generalize ccs pc x10 x17 st h code = L at *
  go_enter Tryd.func28, Tryd.ntmps28
  go_wp2_with fail
  refine (clone29_nil _).mono ?_
  rintro e w1 ⟨rfl, h1⟩
  subst h1
  go_wp2_with (first | (refine wpList_load_guard rfl 37 _ rfl w.heap.size 0 rfl L _ (range_new2 w _ _ 37) Tryd.underlying37 rfl (by rw [hl.out]; exact info37) ?_) | (refine wpList_store_mid rfl 37 _ _ rfl (w.heap.size + 1) 0 L.toArray rfl rfl (there_new2 w _ zC 37 (by rw [List.size_toArray]; exact hl.out) rfl) (by rw [List.size_toArray, hl.out]; exact info37) HO.out ?_) | go_in)
  refine bodyPost_ret (v := .agg L.toArray) (results_cell Tryd.results28 (w.heap.size + 1) rfl L _ (World.rangeAt_setCells_same _ _ _ L (there_new2 w _ zC 37 hl.out rfl)) Tryd.underlying37 rfl (by rw [hl.out]; exact info37)) rfl ⟨rfl, ?_⟩
  exact below_setCells (((Below.refl _ _).alloc (Nat.le_refl _) _).alloc (by simp) _) _ _ (by omega) _
end
section
open Go.RowKit Go.Shelf
theorem Mac.range {W : World} {m : Nat} {pc x10 x17 st : Int} {h : Bool} {code : Int} {mem : Nat} (H : Mac W m pc x10 x17 st h code mem) : W.rangeAt m 0 (ccs pc x10 x17 st h code) := fun j v hv => by
  rw [Nat.zero_add, H.at_ j, show mcs pc x10 x17 st h code mem = ccs pc x10 x17 st h code ++ [.pointer (some ⟨mem, 0, none⟩), .slice none 0 0] from rfl, List.getElem?_append_left (List.getElem?_eq_some_iff.1 hv).1]
  exact hv
theorem range_below {W W' : World} {b o : Nat} {cs : List Value} (h : W.rangeAt b o cs) (hb : Below W.heap.size W W') (hl : b < W.heap.size) : W'.rangeAt b o cs := fun j v hv => (hb.cell (p := ⟨b, o + j, none⟩) hl).trans (h j v hv)
theorem there_below {W W' : World} {b o n : Nat} (h : W.there b o n) (hb : Below W.heap.size W W') (hl : b < W.heap.size) : W'.there b o n := fun j hj => by
  have t := h j hj
  rw [← (bcell hb).1 b (o + j) hl, ← (bcell hb).2 b (o + j) hl] at t
  exact t
set_option maxRecDepth 20000 in
set_option maxHeartbeats 1000000 in
theorem state14 {W : World} {m : Nat} {pc x10 x17 st : Int} {h : Bool} {code : Int} {mem : Nat} (H : Mac W m pc x10 x17 st h code mem) : Calls Tryd.prog 14 #[.pointer (some ⟨m, 0, none⟩)] W fun e w' => e = .returned (.agg (ccs pc x10 x17 st h code).toArray) ∧ Below W.heap.size W w' := by
  have hl : Hid ((ccs pc x10 x17 st h code).length = 39) := rfl
  have HO : Hid ((ccs pc x10 x17 st h code).toArray.all (·.oneCell') = true) := ccs_one pc x10 x17 st h code
  have hs := lt_of_some H.blk
  have HR : Hid (W.rangeAt m 0 (ccs pc x10 x17 st h code)) := H.range
  have HC : Hid (∀ w, Calls Tryd.prog 28 #[.agg (ccs pc x10 x17 st h code).toArray] w fun e w' => e = .returned (.agg (ccs pc x10 x17 st h code).toArray) ∧ Below w.heap.size w w') := copied28 pc x10 x17 st h code
  clear H
  generalize ccs pc x10 x17 st h code = L at *
  go_enter Tryd.func14, Tryd.ntmps14
  go_wp2_with (first | (refine wpList_load_guard rfl 37 _ rfl m 0 rfl L _ (range_below HR.out ((Below.refl _ _).alloc (Nat.le_refl _) _) hs) Tryd.underlying37 rfl (by rw [hl.out]; exact info37) ?_) | fail)
  refine (HC.out _).mono ?_
  rintro e w1 ⟨rfl, hb⟩
  have ht : Hid (w1.there W.heap.size 0 39) := there_below (there_new W zC 37) hb (by simp)
  have HB : Hid (Below W.heap.size W w1) := ((Below.refl _ W).alloc (Nat.le_refl _) _).trans (hb.mono (by simp))
  clear hb
  have hts : Hid (w1.there W.heap.size 0 L.toArray.size) := by rw [show L.toArray.size = 39 from hl.out]; exact ht.out
  have his : Hid ((Tryd.prog.info? 37).map (·.size) = some L.toArray.size) := by rw [List.size_toArray, hl.out]; exact info37
  go_wp2_with (first | (refine wpList_store_mid rfl 37 _ _ rfl W.heap.size 0 L.toArray rfl rfl hts.out his.out HO.out ?_) | go_in)
  refine bodyPost_ret (v := .agg L.toArray) (results_cell Tryd.results14 W.heap.size rfl L _ (World.rangeAt_setCells_same _ _ _ L (by rw [hl.out]; exact ht.out)) Tryd.underlying37 rfl (by rw [hl.out]; exact info37)) rfl ⟨rfl, ?_⟩
  exact below_setCells HB.out _ _ (Nat.le_refl _) _
theorem mac_made (mem : Nat) : some (Obj.cells (((List.foldl (fun cs x => cs.setIfInBounds x.snd x.fst) #[.int .u64 0, .int .u64 0, .int .u64 0, .int .u64 0, .int .u64 0, .int .u64 0, .int .u64 0, .int .u64 0, .int .u64 0, .int .u64 0, .int .u64 0, .int .u64 0, .int .u64 0, .int .u64 0, .int .u64 0, .int .u64 0, .int .u64 0, .int .u64 0, .int .u64 0, .int .u64 0, .int .u64 0, .int .u64 0, .int .u64 0, .int .u64 0, .int .u64 0, .int .u64 0, .int .u64 0, .int .u64 0, .int .u64 0, .int .u64 0, .int .u64 0, .int .u64 0, .int .u64 0, .int .i64 0, .bool false, .int .i64 0, .int .i64 0, .slice none 0 0, .int .i64 0, .pointer none, .slice none 0 0]
    (ccs 4096 0 0 0 false 0).zipIdx).setIfInBounds 39 (.pointer (some ⟨mem, 0, none⟩))).setIfInBounds 40 (.slice none 0 0)) 72) = some (Obj.cells (mcs 4096 0 0 0 false 0 mem).toArray 72) := by kernel_rfl
set_option maxRecDepth 20000 in
set_option maxHeartbeats 1000000 in
theorem new12 {pv : Value} {ao : Nat → Option Addr} {bl bc : Nat → Nat} (w : World) (hP : PgArg w pv 1 kF pF ao bl bc YF) (hbl : bl 0 = 4096) :
    Calls Tryd.prog 12 #[.agg c0.toArray, pv, .slice none 0 0] w fun e w' => ∃ W0 mem r m, W0.heap.size ≤ m ∧ Below w.heap.size w W0 ∧ (∃ base ps, Fr W0 mem r 1 kF pF YF base ps) ∧ Below W0.heap.size W0 w' ∧ Sm w' m mem 0 ∧ e = .returned (.tuple #[.pointer (some ⟨m, 0, none⟩), .int .i64 0]) := by
  have HP : Hid (PgArg w pv 1 kF pF ao bl bc YF) := hP
  clear hP
  go_enter Tryd.func12, Tryd.ntmps12
  go_wp2_with (first | (refine wpList_load_guard rfl 37 _ rfl w.heap.size 0 rfl c0 _ (range_new w c0 37) Tryd.underlying37 rfl info37 ?_) | fail)
  refine (right26 _).mono ?_
  rintro e w1 ⟨rfl, hb⟩
  have hc : Hid (w1.rangeAt w.heap.size 0 c0) := range_below (range_new w c0 37) hb (by simp)
  have hz : w.heap.size < w1.heap.size := by have := hb.size; simp at this; omega
  have HB : Hid (Below w.heap.size w w1) := ((Below.refl _ w).alloc (Nat.le_refl _) _).trans (hb.mono (by simp))
  clear hb
  go_wp2_with fail
  refine (from_any w1 (HP.out.below HB.out)).mono ?_
  rintro e W0 ⟨hb0, ho⟩
  have he : errE 1 kF pF bl = 0 := by
    unfold errE fromE stepE badB
    rw [hbl]
    rfl
  rcases ho with ⟨hn, _⟩ | ⟨_, _, rfl, ps, hF⟩
  · exact absurd he hn
  have hc0 : Hid (W0.rangeAt w.heap.size 0 c0) := range_below hc.out hb0 hz
  have HF : Hid (Fr W0 (w1.heap.size + 1) w1.heap.size 1 kF pF YF w1.heap.size ps) := hF
  have hz0 : w.heap.size < W0.heap.size := Nat.lt_of_lt_of_le hz hb0.size
  have HB0 : Hid (Below w.heap.size w W0) := HB.out.trans (hb0.mono (Nat.le_of_lt hz))
  clear hb0 hF he hc
  go_wp2_with (first | (refine wpList_load_guard rfl 37 _ rfl w.heap.size 0 rfl c0 _ hc0.out Tryd.underlying37 rfl info37 ?_) | fail)
  refine (copied28 4096 0 0 0 false 0 W0).mono ?_
  rintro e W1 ⟨rfl, hb1⟩
  have hz1 := hb1.size
  have HB1 : Hid (Below W0.heap.size W0 W1) := hb1
  clear hb1
  go_wp2_with fail
  refine (clone29_nil _).mono ?_
  rintro e W2 ⟨rfl, h2⟩
  subst h2
  go_wp2_with fail
  go_ret2
  exact ⟨W0, w1.heap.size + 1, w1.heap.size, W2.heap.size, HB1.out.size, HB0.out, ⟨_, ps, HF.out⟩, HB1.out.alloc HB1.out.size _, ⟨(heap_at _ _).trans (mac_made _)⟩, rfl⟩
end
section
open Go.RowKit Go.Shelf
theorem page_arg {w W : World} (h : Pb w W 12) : PgArg (W.alloc (.cells #[.int .u64 4096, .int .i64 5, .slice (some ⟨w.heap.size, 0, none⟩) 4096 4096] 51)) (.slice (some ⟨W.heap.size, 0, none⟩) 1 1) 1 kF pF (fun _ => some ⟨w.heap.size, 0, none⟩) (fun _ => 4096) (fun _ => 4096) YF := by
  refine ⟨⟨_, _, rfl, Nat.le_refl _, fun _ => ⟨W.heap.size, 0, rfl, ?_⟩⟩, YF_small⟩
  have hB : Below W.heap.size W (W.alloc (.cells #[.int .u64 4096, .int .i64 5, .slice (some ⟨w.heap.size, 0, none⟩) 4096 4096] 51)) := (Below.refl _ W).alloc (Nat.le_refl _) _
  refine ⟨fun i hi => ?_, fun i hi => ?_, fun i hi => ?_, fun i hi _ => ⟨w.heap.size, 0, rfl, fun j hj => ?_⟩, YF_small, fun i hi => by unfold kF; omega⟩
  · obtain rfl : i = 0 := by omega
    simp [kF]
  · obtain rfl : i = 0 := by omega
    simp [pF]
  · obtain rfl : i = 0 := by omega
    simp
  · rw [Nat.zero_add, hB.cell (p := ⟨w.heap.size, j, none⟩) (lt_of_cell (h.cell j hj)), h.cell j hj]
    rfl
theorem c0_made : zC.toArray.setIfInBounds 0 (.int .u64 4096) = c0.toArray := rfl
theorem e33 : (ccs 4108 7 93 3 true 7)[33]? = some (.int .i64 3) := rfl
theorem e34 : (ccs 4108 7 93 3 true 7)[34]? = some (.bool true) := rfl
theorem e35 : (ccs 4108 7 93 3 true 7)[35]? = some (.int .i64 7) := rfl
theorem stored (L : List Value) (hl : L.length = 39) (w : World) : ∃ w5, (w.alloc (.cells zC.toArray 37)).setCells w.heap.size 0 L.toArray.toList = w5 ∧ (∀ j v, L[j]? = some v → w5.cell? ⟨w.heap.size, j, none⟩ = some v) ∧ Below w.heap.size w w5 ∧ w.heap.size < w5.heap.size := by
  have ht : (w.alloc (.cells zC.toArray 37)).there w.heap.size 0 L.length := by rw [hl]; exact there_new w zC 37
  have hr := World.rangeAt_setCells_same _ _ _ L ht
  have hc : ∀ j v, L[j]? = some v → ((w.alloc (.cells zC.toArray 37)).setCells w.heap.size 0 L).cell? ⟨w.heap.size, j, none⟩ = some v := fun j v hv => by
    have t := hr j v hv
    rw [Nat.zero_add] at t
    exact t
  refine ⟨_, rfl, hc, below_setCells ((Below.refl _ _).alloc (Nat.le_refl _) _) _ _ (Nat.le_refl _) _, ?_⟩
  exact lt_of_cell (hc 0 (L[0]'(by omega)) (List.getElem?_eq_getElem _))
set_option maxRecDepth 20000 in
set_option maxHeartbeats 1000000 in
theorem small11 (w : World) (hT : Tab w) : Calls Tryd.prog 11 #[] w fun e w' => e = .returned (.bool true) ∧ Below w.heap.size w w' := by
  have HT : Hid (Tab w) := hT
  clear hT
  go_enter Tryd.func11, Tryd.ntmps11
  go_wp2_with fail
  refine (page25 w.heap.size _ (by simp) (fun i hi => by rcases (by omega : i = 0 ∨ i = 1 ∨ i = 2) with rfl | rfl | rfl <;> simp [wd])).mono ?_
  rintro e w1 ⟨hb1, W, hPb, rfl, hw1⟩
  have hA := page_arg hPb
  rw [← hw1] at hA
  have HB1 : Hid (Below w.heap.size w w1) := ((Below.refl _ w).alloc (Nat.le_refl _) _).trans (hb1.mono (by simp))
  clear hb1 hPb hw1
  have HN : Hid (Calls Tryd.prog 12 #[.agg c0.toArray, .slice (some ⟨W.heap.size, 0, none⟩) 1 1, .slice none 0 0] w1 fun e w' => ∃ W0 mem r m, W0.heap.size ≤ m ∧ Below w1.heap.size w1 W0 ∧ (∃ base ps, Fr W0 mem r 1 kF pF YF base ps) ∧ Below W0.heap.size W0 w' ∧ Sm w' m mem 0 ∧ e = .returned (.tuple #[.pointer (some ⟨m, 0, none⟩), .int .i64 0])) := new12 w1 hA rfl
  clear hA
  go_wp2_with fail
  refine HN.out.mono ?_
  rintro e w2 ⟨W0, mem, r, m, hm, hb0, hF, hb2, hS, rfl⟩
  have HB0 : Hid (Below w.heap.size w W0) := HB1.out.trans (hb0.mono HB1.out.size)
  have HB2 : Hid (Below W0.heap.size W0 w2) := hb2
  have HS : Hid (Sm w2 m mem 0) := hS
  have HF : Hid (∃ base ps, Fr W0 mem r 1 kF pF YF base ps) := hF
  have HT0 : Hid (Tab W0) := HT.out.below HB0.out
  clear hb0 hb2 hS hF
  go_wp2_with fail
  refine (run13 hm HF.out HT0.out HB2.out HS.out).mono ?_
  rintro e w3 ⟨rfl, hb3, hS3⟩
  have HB3 : Hid (Below W0.heap.size W0 w3) := hb3
  have HS3 : Hid (Sm w3 m mem 3) := hS3
  clear hb3 hS3
  go_wp2_with fail
  refine (state14 HS3.out).mono ?_
  rintro e w4 ⟨rfl, hb4⟩
  have HB4 : Hid (Below w.heap.size w w4) := (HB0.out.trans (HB3.out.mono HB0.out.size)).trans (hb4.mono (Nat.le_trans HB0.out.size HB3.out.size))
  clear hb4
  have q33 := e33
  have q34 := e34
  have q35 := e35
  have hl : Hid ((ccs 4108 7 93 3 true 7).length = 39) := rfl
  have HO : Hid ((ccs 4108 7 93 3 true 7).toArray.all (·.oneCell') = true) := ccs_one 4108 7 93 3 true 7
  generalize ccs 4108 7 93 3 true 7 = L at *
  have hts : Hid ((w4.alloc (.cells zC.toArray 37)).there w4.heap.size 0 L.toArray.size) := by rw [show L.toArray.size = 39 from hl.out]; exact there_new w4 zC 37
  have his : Hid ((Tryd.prog.info? 37).map (·.size) = some L.toArray.size) := by rw [show L.toArray.size = 39 from hl.out]; exact info37
  obtain ⟨w5, hw5, hcs, hb5, hz5⟩ := stored L hl.out w4
  have k33 := hcs 33 _ q33
  have k34 := hcs 34 _ q34
  have k35 := hcs 35 _ q35
  have H5 : Hid ((w4.alloc (.cells zC.toArray 37)).setCells w4.heap.size 0 L.toArray.toList = w5) := hw5
  have HB5 : Hid (Below w4.heap.size w4 w5) := hb5
  have hA7 := alu7_add 35 2 3 (by decide) (by decide) (by decide) (by decide)
  clear hw5 hcs hb5 q33 q34 q35
  go_wp2_with (first | (refine wpList_store_mid rfl 37 _ _ rfl w4.heap.size 0 L.toArray rfl rfl hts.out his.out HO.out ?_; change wpList _ _ _ _ _ ((w4.alloc (.cells zC.toArray 37)).setCells w4.heap.size 0 L.toArray.toList); rw [H5.out]) | (go_at_call 7; refine (hA7 _).mono ?_; rintro e w6 ⟨rfl, h6⟩; subst h6) | go_in)
  go_ret
  exact ⟨rfl, HB4.out.trans (HB5.out.mono HB4.out.size)⟩
end
end Go.Proofs.YtnmpbihpoefeoaaDoor
