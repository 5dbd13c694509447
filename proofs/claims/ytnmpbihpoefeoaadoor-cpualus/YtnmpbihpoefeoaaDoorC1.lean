/- Walks of the little machine: its page. -/
import Derived.Test.YtnmpbihpoefeoaaDoorMD
import Derived.Deep.MidRow
namespace Go.Proofs.YtnmpbihpoefeoaaDoor
open Go.RowKit Go.Shelf
def zB : Array Value := madeCells #[.int .u8 0] 4096
theorem make4096 (W : World) : (Instr.makeSlice 35 (.int .i64 4096) (.int .i64 4096)).run Tryd.prog W = .ok (.slice (some ⟨W.heap.size, 0, none⟩) 4096 4096) (W.alloc (.cells zB 5)) := by kernel_rfl
theorem zB_at {j : Nat} (h : j < 4096) : zB[j]? = some (.int .u8 0) := by
  have t : zB.toList = List.replicate 4096 (.int .u8 0) := toList_madeCells_one _ _
  rw [← Array.getElem?_toList, t, List.getElem?_replicate, if_pos h]
/-- The code's bytes. -/
def CB (t : Nat) : Int := [19, 5, 112, 0, 147, 8, 208, 5, 115, 0, 0, 0].getD t 0
def BA (n t : Nat) : Int := if t < n then CB t else 0
structure Pb (w W : World) (n : Nat) : Prop where
  below : Below w.heap.size w W
  cell : ∀ t, t < 4096 → W.cell? ⟨w.heap.size, t, none⟩ = some (.int .u8 (BA n t))
  frozen : ∀ t, t < 4096 → W.frozen? ⟨w.heap.size, t, none⟩ = false
theorem Pb.start (w : World) : Pb w (w.alloc (.cells zB 5)) 0 :=
  ⟨(Below.refl _ _).alloc (Nat.le_refl _) _, fun t ht => by simpa [BA] using zB_at ht, fun t ht => by simp⟩
theorem Pb.put {w W : World} {n : Nat} (h : Pb w W n) (hn : n < 4096) {v : Int} (hv : v = CB n) : Pb w (W.setCell ⟨w.heap.size, n, none⟩ (.int .u8 v)) (n + 1) := by
  refine ⟨h.below.setCell (Nat.le_refl _) _, fun t ht => ?_, fun t ht => by rw [World.frozen?_setCell]; exact h.frozen t ht⟩
  by_cases e : t = n
  · subst e
    rw [World.cell?_setCell_same _ _ _ (h.cell t ht), hv]
    simp [BA]
  · rw [World.cell?_setCell_other _ _ _ _ (by intro h; injection h with h1 h2; omega), h.cell t ht]
    have : (t < n + 1) ↔ t < n := by omega
    simp [BA, this]
def wd (i : Nat) : Int := [7341331, 97519763, 115].getD i 0
theorem cb_at (i k : Nat) (hi : i < 3) (hk : k < 4) : wd i / 2 ^ (8 * k) % 256 = CB (4 * i + k) := by
  have a : i = 0 ∨ i = 1 ∨ i = 2 := by omega
  have b : k = 0 ∨ k = 1 ∨ k = 2 ∨ k = 3 := by omega
  rcases a with rfl | rfl | rfl <;> rcases b with rfl | rfl | rfl | rfl <;> rfl
set_option maxHeartbeats 1000000 in
set_option maxRecDepth 20000 in
theorem page25 (lb : Nat) (w : World) (hl : lb < w.heap.size) (hc : ∀ i, i < 3 → w.cell? ⟨lb, i, none⟩ = some (.int .u32 (wd i))) :
    Calls Tryd.prog 25 #[.slice (some ⟨lb, 0, none⟩) 3 3] w fun e w' => Below w.heap.size w w' ∧ ∃ W, Pb w W 12 ∧ e = .returned (.slice (some ⟨W.heap.size, 0, none⟩) 1 1) ∧ w' = W.alloc (.cells #[.int .u64 4096, .int .i64 5, .slice (some ⟨w.heap.size, 0, none⟩) 4096 4096] 51) := by
  have hmk := make4096
  have HC : Hid (∀ i, i < 3 → w.cell? ⟨lb, i, none⟩ = some (.int .u32 (wd i))) := hc
  clear hc
  go_enter Tryd.func25, Tryd.ntmps25
  go_wp2_with fail
  go_loopw [10] (fun x wr => ∃ i : Nat, i ≤ 3 ∧ x = .int .i64 i ∧ Pb w wr (4 * i)) (fun x _ => 3 - (intOf x).toNat)
  case atStart => exact ⟨0, by omega, rfl, Pb.start w⟩
  case round =>
    obtain ⟨i, hi, rfl, hP⟩ := hrel
    have HP : Hid (Pb w wr (4 * i)) := hP
    clear hP
    by_cases h3 : i < 3
    · have hci : wr.cell? ⟨lb, i, none⟩ = some (.int .u32 (wd i)) := (HP.out.below.cell (p := ⟨lb, i, none⟩) hl).trans (HC.out i h3)
      go_wp2
      go_loopw [6] (fun x w2 => ∃ k : Nat, k ≤ 4 ∧ x = .int .i64 k ∧ Pb w w2 (4 * i + k)) (fun x _ => 4 - (intOf x).toNat)
      case atStart => exact ⟨0, by omega, rfl, HP.out⟩
      case round =>
        obtain ⟨k, hk, rfl, hP2⟩ := hrel
        have hs : w.heap.size < wr.heap.size := lt_of_cell (hP2.cell 0 (by omega))
        have hcell := hP2.cell (4 * i + k) (by omega)
        have hfroz := hP2.frozen (4 * i + k) (by omega)
        have HP2 : Hid (Pb w wr (4 * i + k)) := hP2
        clear hP2
        by_cases h4 : k < 4
        · go_wp2
          go_roundw
          case rel => exact ⟨k + 1, by omega, by go_num, HP2.out.put (by omega) (cb_at i k h3 h4)⟩
          case measure => simp [intOf]; omega
        · go_wp2
          go_roundw
          case rel => exact ⟨i + 1, by omega, by go_num, by rw [show 4 * (i + 1) = 4 * i + k by omega]; exact HP2.out⟩
          case measure => simp [intOf]; omega
    · go_wp2
      go_ret
      have e3 : 4 * i = 12 := by omega
      exact ⟨HP.out.below.alloc HP.out.below.size _, wr, e3 ▸ HP.out, rfl, rfl⟩
end Go.Proofs.YtnmpbihpoefeoaaDoor
