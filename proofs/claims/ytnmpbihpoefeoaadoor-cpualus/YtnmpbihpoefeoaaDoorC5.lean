/- Walks of the little machine: its words, its run. -/
import Derived.Test.YtnmpbihpoefeoaaDoorC4
namespace Go.Proofs.YtnmpbihpoefeoaaDoor
open Go.RowKit Go.Shelf
def kF (_ : Nat) : Int := 4096
def pF (_ : Nat) : Int := 5
def YF (_ : Nat) (t : Nat) : Int := BA 12 t
theorem CB_small (t : Nat) : 0 ≤ CB t ∧ CB t < 256 := by
  unfold CB
  rcases t with _ | _ | _ | _ | _ | _ | _ | _ | _ | _ | _ | _ | t <;> simp
theorem YF_small (i j : Nat) : 0 ≤ YF i j ∧ YF i j < 256 := by
  unfold YF BA
  split
  · exact CB_small j
  · omega
theorem word_sum (i : Nat) (hi : i < 3) : sumV [YF 0 (4 * i), YF 0 (4 * i + 1), YF 0 (4 * i + 2), YF 0 (4 * i + 3)] = wd i := by
  rcases (by omega : i = 0 ∨ i = 1 ∨ i = 2) with rfl | rfl | rfl <;> rfl
theorem fetch_i {W0 w : World} {mem r : Nat} (h : ∃ base ps, Fr W0 mem r 1 kF pF YF base ps) (hb : Below W0.heap.size W0 w) (i : Nat) (hi : i < 3) : Calls Tryd.prog 45 #[.pointer (some ⟨mem, 0, none⟩), .int .u64 (4096 + 4 * (i : Int))] w fun e w' => e = .returned (.tuple #[.int .u32 (wd i), .int .i64 0]) ∧ Below w.heap.size w w' := by
  obtain ⟨base, ps, hF0⟩ := h
  have hF := fr_below hF0 hb
  have hM := hF.mm YF_small
  obtain ⟨x, rfl⟩ : ∃ x, ps = [x] := List.length_eq_one_iff.1 hF.len
  obtain ⟨x1, x2, _, _⟩ := hF.at_ 0 x rfl
  have hd := (hF.data 0 x rfl).2
  have hp : ∀ q : Int, 4096 ≤ q → q < 8192 → bs q = 4096 ∧ pg [x] (bs q) = some x := by
    intro q h1 h2
    have : bs q = 4096 := by unfold bs; omega
    refine ⟨this, ?_⟩
    rw [this]
    simp [pg, x1, kF]
  have hy : ∀ t : Nat, t < 4096 → byt [x] (btOf w) (4096 + (t : Int)) = YF 0 t := by
    intro t ht
    obtain ⟨a, b⟩ := hp (4096 + (t : Int)) (by omega) (by omega)
    unfold byt
    rw [b, a, show (4096 + (t : Int) - 4096).toNat = t by omega]
    exact btOf_at (hd t ht) (YF_small 0 t)
  have f1 : fE [x] (4096 + 4 * (i : Int)) = 0 := by
    obtain ⟨a, b⟩ := hp (4096 + 4 * (i : Int)) (by omega) (by omega)
    unfold fE useE
    rw [if_pos (by omega), if_neg (by omega), b]
    simp only [a]
    rw [if_pos (by omega)]
    unfold YtnmpbihpoefeoaaDoor.e1 badP
    rw [x2]
    rfl
  have f2 : fV [x] (btOf w) (4096 + 4 * (i : Int)) = wd i := by
    unfold fV
    rw [if_pos f1, ← word_sum i hi]
    have t0 := hy (4 * i) (by omega)
    have t1 := hy (4 * i + 1) (by omega)
    have t2 := hy (4 * i + 2) (by omega)
    have t3 := hy (4 * i + 3) (by omega)
    rw [← t0, ← t1, ← t2, ← t3]
    unfold byts
    have : List.range 4 = [0, 1, 2, 3] := rfl
    rw [this]
    simp only [List.map]
    congr 3 <;> (try congr 1) <;> (try congr 1) <;> omega
  refine (fetch_all mem r [x] (btOf w) (4096 + 4 * (i : Int)) w hM (by omega) (by omega)).mono ?_
  rw [f1, f2]
  exact fun _ _ h => h
theorem dec_0 (w : World) (hT : Tab w) : Calls Tryd.prog 46 #[.int .u32 7341331] w fun e w' => e = .returned (.tuple #[.agg #[.int .i64 22, .int .i64 10, .int .i64 0, .int .i64 0, .int .i64 7], .int .i64 0]) ∧ Below w.heap.size w w' := by
  have c : cF 7341331 = 22 := by decide
  exact decode13_hit 7341331 22 (by decide) (by decide) (by decide) (by decide) (fun j h1 h2 => by omega) (by decide) w hT
theorem dec_1 (w : World) (hT : Tab w) : Calls Tryd.prog 46 #[.int .u32 97519763] w fun e w' => e = .returned (.tuple #[.agg #[.int .i64 22, .int .i64 17, .int .i64 0, .int .i64 0, .int .i64 93], .int .i64 0]) ∧ Below w.heap.size w w' := by
  have c : cF 97519763 = 22 := by decide
  exact decode13_hit 97519763 22 (by decide) (by decide) (by decide) (by decide) (fun j h1 h2 => by omega) (by decide) w hT
theorem dec_2 (w : World) (hT : Tab w) : Calls Tryd.prog 46 #[.int .u32 115] w fun e w' => e = .returned (.tuple #[.agg #[.int .i64 64, .int .i64 0, .int .i64 0, .int .i64 0, .int .i64 0], .int .i64 0]) ∧ Below w.heap.size w w' := by
  have c : cF 115 = 63 := by decide
  have d : mt 63 115 = false := by decide
  exact decode13_hit 115 64 (by decide) (by decide) (by decide) (by decide) (fun j h1 h2 => by rw [show j = 63 by omega]; exact d) (by decide) w hT
/-- The machine at its beginning, and behind each step. -/
def Sm (W : World) (m mem : Nat) : Nat → Prop
  | 0 => Mac W m 4096 0 0 0 false 0 mem
  | 1 => Mac W m 4100 7 0 1 false 0 mem
  | 2 => Mac W m 4104 7 93 2 false 0 mem
  | _ => Mac W m 4108 7 93 3 true 7 mem
theorem step_j {W0 W : World} {m mem r : Nat} (hm : W0.heap.size ≤ m) (hF : ∃ base ps, Fr W0 mem r 1 kF pF YF base ps) (hT : Tab W0) (hB : Below W0.heap.size W0 W) (j : Nat) (hj : j < 3) (H : Sm W m mem j) :
    Calls Tryd.prog 18 #[.pointer (some ⟨m, 0, none⟩)] W fun e w' => e = .returned (.int .i64 0) ∧ Below W0.heap.size W0 w' ∧ Sm w' m mem (j + 1) := by
  have fin : ∀ {e : Ending} {w' : World} {P : Prop}, e = .returned (.int .i64 0) ∧ Below m W w' ∧ P → e = .returned (.int .i64 0) ∧ Below W0.heap.size W0 w' ∧ P := fun ⟨a, b, c⟩ => ⟨a, hB.trans (b.mono hm), c⟩
  rcases (by omega : j = 0 ∨ j = 1 ∨ j = 2) with rfl | rfl | rfl
  · exact (step18 (mem := mem) H (next33 hB H (fun w hw => fetch_i hF hw 0 hj) (fun w hw => dec_0 w (hT.below hw)) (fun w h => do47_a h))).mono fun _ _ h => fin h
  · exact (step18 (mem := mem) H (next33 hB H (fun w hw => fetch_i hF hw 1 hj) (fun w hw => dec_1 w (hT.below hw)) (fun w h => do47_b h))).mono fun _ _ h => fin h
  · exact (step18 (mem := mem) H (next33 hB H (fun w hw => fetch_i hF hw 2 hj) (fun w hw => dec_2 w (hT.below hw)) (fun w h => do47_e h))).mono fun _ _ h => fin h
theorem over_j {W : World} {m mem : Nat} (j : Nat) (hj : j ≤ 3) (H : Sm W m mem j) : Calls Tryd.prog 30 #[.pointer (some ⟨m, 0, none⟩)] W fun e w' => e = .returned (.bool (decide (j = 3))) ∧ w' = W := by
  rcases (by omega : j = 0 ∨ j = 1 ∨ j = 2 ∨ j = 3) with rfl | rfl | rfl | rfl
  · exact over30 H
  · exact over30 H
  · exact over30 H
  · exact over30 H
set_option maxHeartbeats 1000000 in
theorem run13 {W0 W : World} {m mem r : Nat} (hm : W0.heap.size ≤ m) (hF : ∃ base ps, Fr W0 mem r 1 kF pF YF base ps) (hT : Tab W0) (hB : Below W0.heap.size W0 W) (H : Sm W m mem 0) :
    Calls Tryd.prog 13 #[.pointer (some ⟨m, 0, none⟩), .int .i64 9] W fun e w' => e = .returned (.int .i64 3) ∧ Below W0.heap.size W0 w' ∧ Sm w' m mem 3 := by
  have HH : Hid (Sm W m mem 0) := H
  have HB : Hid (Below W0.heap.size W0 W) := hB
  have HF : Hid (∃ base ps, Fr W0 mem r 1 kF pF YF base ps) := hF
  have HT : Hid (Tab W0) := hT
  clear H hB hF hT
  go_enter Tryd.func13, Tryd.ntmps13
  go_wp2_with fail
  go_loopw [5] (fun x wr => ∃ j : Nat, j ≤ 3 ∧ x = .int .i64 j ∧ Below W0.heap.size W0 wr ∧ Sm wr m mem j) (fun x _ => 3 - (intOf x).toNat)
  case atStart => exact ⟨0, by omega, rfl, HB.out, HH.out⟩
  case round =>
    obtain ⟨j, hj, rfl, hb, hS⟩ := hrel
    have HBr : Hid (Below W0.heap.size W0 wr) := hb
    have HS : Hid (Sm wr m mem j) := hS
    clear hb hS
    have hlt : (j : Int) < 9 := by omega
    by_cases h3 : j = 3
    · have hd : decide (j = 3) = true := by simp [h3]
      go_wp2_with fail
      refine (over_j j hj HS.out).mono ?_
      rw [hd]
      rintro e w1 ⟨rfl, h1⟩
      subst h1
      go_wp2
      go_ret
      subst h3
      exact ⟨rfl, HBr.out, HS.out⟩
    · have hd : decide (j = 3) = false := by simp [h3]
      go_wp2_with fail
      refine (over_j j hj HS.out).mono ?_
      rw [hd]
      rintro e w1 ⟨rfl, h1⟩
      subst h1
      go_wp2_with fail
      refine (step_j hm HF.out HT.out HBr.out j (by omega) HS.out).mono ?_
      rintro e w2 ⟨rfl, hb2, hs2⟩
      have HB2 : Hid (Below W0.heap.size W0 w2) := hb2
      have HS2 : Hid (Sm w2 m mem (j + 1)) := hs2
      clear hb2 hs2
      go_wp2
      go_roundw
      case rel => exact ⟨j + 1, by omega, by go_num, HB2.out, HS2.out⟩
      case measure => simp [intOf]; omega
end Go.Proofs.YtnmpbihpoefeoaaDoor
