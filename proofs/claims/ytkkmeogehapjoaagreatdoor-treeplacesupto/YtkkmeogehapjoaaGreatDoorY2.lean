/- A byte, a string written to a printer's builder. -/
import Derived.Test.YtkkmeogehapjoaaGreatDoorY1
namespace Go.Proofs.YtkkmeogehapjoaaGreatDoor
open Go.RowKit Go.Shelf
theorem info5 : (Tryz.prog.info? 5).map (fun i => (i.zero, i.size, i.bytes)) = some (some (.int .u8 0), 1, 1) := by kernel_rfl
theorem own_slice {w : World} {B e sz n : Nat} {v : Value} {xs : List Value} (h : w.ownsRow B e sz v n xs) : ∃ ao k cap, v = .slice ao k cap := by
  rcases h.2 with ⟨hv, _⟩ | ⟨g, cap, cur, hv, _⟩
  · exact ⟨_, _, _, hv⟩
  · exact ⟨_, _, _, hv⟩
theorem own_len {w : World} {B e n : Nat} {v : Value} {xs : List Value} (h : w.ownsRow B e 1 v n xs) : ∃ ao cap, v = .slice ao n cap := by
  rcases h.2 with ⟨hv, h0⟩ | ⟨g, cap, cur, hv, _⟩
  · exact ⟨_, _, by rw [hv, h0]⟩
  · exact ⟨_, _, hv⟩
set_option maxRecDepth 100000 in
set_option maxHeartbeats 4000000 in
theorem writeByte68 (B b : Nat) (nd : Value) (bs : List Value) (c : Int) (w : World) (h : Prn B b nd bs w) (hlen : bs.length + 1 ≤ 140737488355328) (hBw : B ≤ w.heap.size) : Calls Tryz.prog 68 #[.pointer (some ⟨b, 1, none⟩), .int .u8 c] w fun e w' => e = .returned .nilIface ∧ PrnAt B b nd (.pointer (some ⟨b, 1, none⟩)) (bs ++ [.int .u8 c]) w' ∧ Below B w w' ∧ Kept b w w' := by
  obtain ⟨i0, hi, hz0, hz1, hz2⟩ := info_parts info5
  go_enter Tryz.func68, Tryz.ntmps68
  go_wp2_with (go_at_call 90; refine (check90 B b nd bs _ h).mono ?_)
  rintro e w1 ⟨rfl, ⟨hB, v, hbk, hown, hne⟩, hb1, hsame⟩
  have c0 : w1.cell? ⟨b, 1, none⟩ = some (.pointer (some ⟨b, 1, none⟩)) := Joins.cell_of_block hbk 1
  have c1 : w1.cell? ⟨b, 2, none⟩ = some v := Joins.cell_of_block hbk 2
  have hsz := hb1.size
  go_wp2_with (at_builtin; refine wpList_append_own _ rfl _ _ 56 rfl B 5 i0 (.int .u8 0) 1 1 Tryz.underlying56 hi hz0 hz1 hz2 rfl (by decide) _ _ _ rfl (hown.alloc _) ⟨w1.heap.size, 0, none⟩ 1 1 [.int .u8 c] rfl rfl ?c1 ?c2 (by unfold maxLen; omega) (by omega) (by simp; omega) ?_)
  case c1 =>
    intro j u hj
    match j, hj with
    | 0, hj => simp at hj; subst hj; simp [Addr.add]
  case c2 => intro u hu; simp at hu; subst hu; rfl
  intro v' w2 hown' hgrow _
  have hlt : b < w1.heap.size := (Array.getElem?_eq_some_iff.1 hbk).1
  have hb2 : w2.heap[b]? = some (.cells #[nd, .pointer (some ⟨b, 1, none⟩), v] 60 (0, 0)) := by
    rw [hgrow.block b (by simp; omega) (fun e => hne e.symm), Lib.alloc_old w1 _ b hlt]
    exact hbk
  have d0 : w2.cell? ⟨b, 1, none⟩ = some (.pointer (some ⟨b, 1, none⟩)) := Joins.cell_of_block hb2 1
  have d1 : w2.cell? ⟨b, 2, none⟩ = some v := Joins.cell_of_block hb2 2
  have f1 : w2.frozen? ⟨b, 2, none⟩ = false := Lib.frozen_of_heap hb2 2
  obtain ⟨ao, n', cap, rfl⟩ := own_slice hown'
  go_wp2
  go_ret
  refine ⟨rfl, PrnAt.put hB hb2 (bs' := bs ++ [.int .u8 c]) (by simpa using hown'), ?_, ?_⟩
  · exact ((hb1.alloc (by omega) _).grown hgrow (by simp; omega) (fun k hk => (hown.lt k hk).1)).setCell (p := ⟨b, 2, none⟩) hB _
  · intro i cs T fr hi hT hib
    have h1 : w1.heap[i]? = some (.cells cs T fr) := (hsame i hib).trans hi
    have hl1 : i < w1.heap.size := (Array.getElem?_eq_some_iff.1 h1).1
    rw [Go.Deep.blk_setCell_other _ ⟨b, 2, none⟩ _ i hib, hgrow.block i (by simp; omega) (fun e => Lib.ownBlock_ne hown h1 hT e.symm), Lib.alloc_old w1 _ i hl1, h1, hi]
set_option maxRecDepth 100000 in
set_option maxHeartbeats 4000000 in
theorem writeString63 (B b : Nat) (nd : Value) (bs : List Value) (s : ByteArray) (w : World) (h : Prn B b nd bs w) (hlen : bs.length + s.size ≤ 140737488355328) (hBw : B ≤ w.heap.size) : Calls Tryz.prog 63 #[.pointer (some ⟨b, 1, none⟩), .string s] w fun e w' => e = .returned (.tuple #[.int .i64 s.size, .nilIface]) ∧ PrnAt B b nd (.pointer (some ⟨b, 1, none⟩)) (bs ++ Lib.strCells s) w' ∧ Below B w w' ∧ Kept b w w' := by
  obtain ⟨i0, hi, hz0, hz1, hz2⟩ := info_parts info5
  go_enter Tryz.func63, Tryz.ntmps63
  go_wp2_with (go_at_call 90; refine (check90 B b nd bs _ h).mono ?_)
  rintro e w1 ⟨rfl, ⟨hB, v, hbk, hown, hne⟩, hb1, hsame⟩
  have c0 : w1.cell? ⟨b, 1, none⟩ = some (.pointer (some ⟨b, 1, none⟩)) := Joins.cell_of_block hbk 1
  have c1 : w1.cell? ⟨b, 2, none⟩ = some v := Joins.cell_of_block hbk 2
  have hsz := hb1.size
  go_wp2_with (at_builtin; refine Lib.wpList_append_own_string _ rfl _ _ 56 9 rfl B 5 i0 Tryz.underlying56 Tryz.underlying9 hi hz0 hz1 hz2 _ _ _ rfl hown s rfl (by unfold maxLen; omega) (by omega) (by omega) ?_)
  intro v' w2 hown' hgrow _
  have hlt : b < w1.heap.size := (Array.getElem?_eq_some_iff.1 hbk).1
  have hb2 : w2.heap[b]? = some (.cells #[nd, .pointer (some ⟨b, 1, none⟩), v] 60 (0, 0)) := by
    rw [hgrow.block b hlt (fun e => hne e.symm)]
    exact hbk
  have d0 : w2.cell? ⟨b, 1, none⟩ = some (.pointer (some ⟨b, 1, none⟩)) := Joins.cell_of_block hb2 1
  have d1 : w2.cell? ⟨b, 2, none⟩ = some v := Joins.cell_of_block hb2 2
  have f1 : w2.frozen? ⟨b, 2, none⟩ = false := Lib.frozen_of_heap hb2 2
  obtain ⟨ao, n', cap, rfl⟩ := own_slice hown'
  go_wp2
  go_ret2
  refine ⟨rfl, PrnAt.put hB hb2 (bs' := bs ++ Lib.strCells s) (by simpa [Lib.strCells_length] using hown'), ?_, ?_⟩
  · exact (hb1.grown hgrow (by omega) (fun k hk => (hown.lt k hk).1)).setCell (p := ⟨b, 2, none⟩) hB _
  · intro i cs T fr hi hT hib
    have h1 : w1.heap[i]? = some (.cells cs T fr) := (hsame i hib).trans hi
    have hl1 : i < w1.heap.size := (Array.getElem?_eq_some_iff.1 h1).1
    rw [Go.Deep.blk_setCell_other _ ⟨b, 2, none⟩ _ i hib, hgrow.block i hl1 (fun e => Lib.ownBlock_ne hown h1 hT e.symm), h1, hi]
set_option maxRecDepth 100000 in
set_option maxHeartbeats 4000000 in
theorem len67 (B b : Nat) (nd : Value) (bs : List Value) (w : World) (h : Prn B b nd bs w) : Calls Tryz.prog 67 #[.pointer (some ⟨b, 1, none⟩)] w fun e w' => e = .returned (.int .i64 bs.length) ∧ w' = w := by
  obtain ⟨v, c1, hown⟩ : ∃ v, w.cell? ⟨b, 2, none⟩ = some v ∧ w.ownsRow B 5 1 v bs.length bs := by
    rcases h with ⟨_, v, hbk, hown, _⟩ | ⟨_, v, hbk, hown, _⟩
    · exact ⟨v, Joins.cell_of_block hbk 2, hown⟩
    · exact ⟨v, Joins.cell_of_block hbk 2, hown⟩
  obtain ⟨ao, cap, rfl⟩ := own_len hown
  generalize bs.length = n at *
  clear hown h
  go_enter Tryz.func67, Tryz.ntmps67
  go_wp2
  go_ret
  exact ⟨rfl, rfl⟩
end Go.Proofs.YtkkmeogehapjoaaGreatDoor
