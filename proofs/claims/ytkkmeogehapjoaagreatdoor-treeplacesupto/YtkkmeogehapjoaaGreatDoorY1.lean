/- The builder within a printer: its copy check. -/
import Derived.Test.YtkkmeogehapjoaaGreatDoorX5
import Derived.Lib.Builder
import Derived.Deep.Heap
import Derived.Laws.AppendOwn
namespace Go.Proofs.YtkkmeogehapjoaaGreatDoor
open Go.RowKit Go.Shelf
theorem bsz : (Tryz.prog.info? 58).map (·.size) = some 2 := by kernel_rfl
/-- A printer in a block of its own, that holds these bytes. -/
def PrnAt (B b : Nat) (nd p : Value) (bs : List Value) (w : World) : Prop :=
  B ≤ b ∧ ∃ v, w.heap[b]? = some (.cells #[nd, p, v] 60 (0, 0)) ∧ w.ownsRow B 5 1 v bs.length bs ∧ v.ownBlock ≠ some b
def Prn (B b : Nat) (nd : Value) (bs : List Value) (w : World) : Prop :=
  PrnAt B b nd (.pointer none) bs w ∨ PrnAt B b nd (.pointer (some ⟨b, 1, none⟩)) bs w
/-- What is no row of bytes, and not the printer, is kept. -/
def Kept (b : Nat) (w w' : World) : Prop := ∀ i cs T fr, w.heap[i]? = some (.cells cs T fr) → T ≠ 5 → i ≠ b → w'.heap[i]? = w.heap[i]?
theorem Kept.refl (b : Nat) (w : World) : Kept b w w := fun _ _ _ _ _ _ _ => rfl
theorem Kept.trans {b : Nat} {w w' w'' : World} (h : Kept b w w') (k : Kept b w' w'') : Kept b w w'' := fun i cs T fr hi hT hb => by
  have e := h i cs T fr hi hT hb
  rw [k i cs T fr (e.trans hi) hT hb, e]
theorem Kept.alloc {b : Nat} {w w' : World} (h : Kept b w w') (o : Obj) : Kept b w (w'.alloc o) := fun i cs T fr hi hT hb => by
  have e := h i cs T fr hi hT hb
  have hlt : i < w'.heap.size := (Array.getElem?_eq_some_iff.1 (e.trans hi)).1
  rw [Lib.alloc_old w' o i hlt, e]
theorem PrnAt.lt {B b : Nat} {nd p : Value} {bs : List Value} {w : World} (h : PrnAt B b nd p bs w) : b < w.heap.size := by
  obtain ⟨_, v, hb, _⟩ := h
  exact (Array.getElem?_eq_some_iff.1 hb).1
theorem PrnAt.used {B b : Nat} {nd p : Value} {bs : List Value} {w : World} (h : PrnAt B b nd p bs w) (q : Value) : PrnAt B b nd q bs (w.setCell ⟨b, 1, none⟩ q) := by
  obtain ⟨hB, v, hb, hown, hne⟩ := h
  refine ⟨hB, v, ?_, ?_, hne⟩
  · simp [World.setCell, Array.getElem?_modify, hb]
  · refine hown.kept (row := some b) ⟨rfl, rfl, rfl, by simp [World.setCell], fun k _ hk => Below.heap_setCell _ _ _ _ (fun e => hk (by simp [e]))⟩ ?_
    exact Or.inr hne
theorem PrnAt.put {B b : Nat} {nd p v v' : Value} {bs' : List Value} {w : World} (hB : B ≤ b) (hb : w.heap[b]? = some (.cells #[nd, p, v] 60 (0, 0))) (hown : w.ownsRow B 5 1 v' bs'.length bs') :
    PrnAt B b nd p bs' (w.setCell ⟨b, 2, none⟩ v') := by
  have hne := Lib.ownBlock_ne hown hb (by decide)
  refine ⟨hB, v', ?_, ?_, hne⟩
  · simp [World.setCell, Array.getElem?_modify, hb]
  · exact hown.kept (row := some b) ⟨rfl, rfl, rfl, by simp [World.setCell], fun k _ hk => Below.heap_setCell _ _ _ _ (fun e => hk (by simp [e]))⟩ (Or.inr hne)
set_option maxRecDepth 100000 in
set_option maxHeartbeats 2000000 in
theorem check_used (b : Nat) (w : World) (c0 : w.cell? ⟨b, 1, none⟩ = some (.pointer (some ⟨b, 1, none⟩))) : Calls Tryz.prog 90 #[.pointer (some ⟨b, 1, none⟩)] w fun e w' => e = .returned (.tuple #[]) ∧ w' = w := by
  obtain ⟨j, hj, _⟩ := Option.map_eq_some_iff.1 bsz
  go_enter Tryz.func90, Tryz.ntmps90
  go_wp2
  rw [Lib.run_neq_ptr_same w _ Tryz.underlying55 hj]
  go_wp2
  go_end0
  exact ⟨rfl, rfl⟩
set_option maxRecDepth 100000 in
set_option maxHeartbeats 2000000 in
theorem check_fresh (b : Nat) (w : World) (h0 : w.cell? ⟨b, 1, none⟩ = some (.pointer none)) (hsh : w.shape? b = some (60, 3)) (hfz : w.frozen? ⟨b, 1, none⟩ = false) : Calls Tryz.prog 90 #[.pointer (some ⟨b, 1, none⟩)] w fun e w' => e = .returned (.tuple #[]) ∧ w' = w.setCell ⟨b, 1, none⟩ (.pointer (some ⟨b, 1, none⟩)) := by
  obtain ⟨j, hj, hjs⟩ := Option.map_eq_some_iff.1 bsz
  go_enter Tryz.func90, Tryz.ntmps90
  go_wp2
  rw [Lib.run_to_unsafe w ⟨b, 1, none⟩ Tryz.underlying55 Tryz.underlying133 hj (by rw [hjs]; decide) hsh (show 1 < 3 by decide)]
  simp only [Result.andThen]
  rw [Oper.upon_value]
  go_wp2
  rw [run_callFunc_extern Tryz.func109 (by kernel_rfl) (by kernel_rfl) (by kernel_rfl) (e := Extern.AbiNoEscape.same) (by kernel_rfl)]
  rw [Lib.run_noEscape]
  simp only [Result.andThen]
  rw [Oper.upon_value]
  go_wp2
  rw [Lib.run_from_unsafe w ⟨b, 1, none⟩ Tryz.underlying133 Tryz.underlying55 hj hsh (by kernel_rfl)]
  simp only [Result.andThen]
  rw [Oper.upon_value]
  go_wp2
  go_end0
  exact ⟨rfl, rfl⟩
theorem check90 (B b : Nat) (nd : Value) (bs : List Value) (w : World) (h : Prn B b nd bs w) : Calls Tryz.prog 90 #[.pointer (some ⟨b, 1, none⟩)] w fun e w' => e = .returned (.tuple #[]) ∧ PrnAt B b nd (.pointer (some ⟨b, 1, none⟩)) bs w' ∧ Below B w w' ∧ ∀ i, i ≠ b → w'.heap[i]? = w.heap[i]? := by
  rcases h with h | h
  · have h' := h
    obtain ⟨hB, v, hbk, _⟩ := h'
    refine (check_fresh b w (Joins.cell_of_block hbk 1) (by simp [World.shape?, hbk]) (Lib.frozen_of_heap hbk 1)).mono ?_
    rintro e w' ⟨rfl, rfl⟩
    exact ⟨rfl, h.used _, (Below.refl B w).setCell (p := ⟨b, 1, none⟩) h.1 _, fun i hi => Go.Deep.blk_setCell_other w ⟨b, 1, none⟩ _ i hi⟩
  · have h' := h
    obtain ⟨hB, v, hbk, _⟩ := h'
    refine (check_used b w (Joins.cell_of_block hbk 1)).mono ?_
    rintro e w' ⟨rfl, rfl⟩
    exact ⟨rfl, h, Below.refl B _, fun _ _ => rfl⟩
end Go.Proofs.YtkkmeogehapjoaaGreatDoor
