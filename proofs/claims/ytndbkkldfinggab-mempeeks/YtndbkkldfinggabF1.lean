/- A page with bytes of its own (bytes.Clone, copied). -/
import Derived.Test.YtndbkkldfinggabR4
import Derived.Laws.OwnMore
import Derived.Lib.SliceRun
namespace Go.Proofs.Ytndbkkldfinggab
open Go.RowKit Go.Shelf
theorem info5 : (Try.prog.info? 5).map (fun i => (i.zero, i.size, i.bytes)) = some (some (.int .u8 0), 1, 1) := by kernel_rfl
def rowOf (Y : Nat → Int) (n : Nat) : List Value := (List.range n).map fun j => Value.int .u8 (Y j)
theorem rowOf_at {Y : Nat → Int} {n j : Nat} (h : j < n) : (rowOf Y n)[j]? = some (Value.int .u8 (Y j)) := by simp [rowOf, h]
set_option maxHeartbeats 2000000 in
set_option maxRecDepth 100000 in
theorem clone48 (gs os c n : Nat) (Y : Nat → Int) (w : World) (hn : 0 < n) (hn2 : n ≤ 65536) (hc : ∀ j, j < n → w.cell? ⟨gs, os + j, none⟩ = some (.int .u8 (Y j))) :
    Calls Try.prog 48 #[.slice (some ⟨gs, os, none⟩) n c] w fun e w' => ∃ g cap cur, e = .returned (.slice (some ⟨g, 0, none⟩) n cap) ∧ w.heap.size ≤ g ∧ n ≤ cap ∧ w'.heap[g]? = some (.cells cur 5 (0, 0)) ∧ cur.size = cap ∧ (∀ j, j < n → w'.cell? ⟨g, j, none⟩ = some (.int .u8 (Y j))) ∧ Below w.heap.size w w' := by
  obtain ⟨i0, hi, hz0, hz1, hz2⟩ := info_parts info5
  have q48 : ∀ (w : World) (a : Option Addr) (n c n' c' : Nat), (binOp .eql 48 (.slice a n c) (.slice none n' c')).run Try.prog w = .ok (.bool a.isNone) w := fun w a n c n' c' => Lib.run_eql_slice_nil w _ _ a n c n' c' Try.underlying48
  have A : Hid (∀ j, j < n → w.cell? ⟨gs, os + j, none⟩ = some (.int .u8 (Y j))) := hc
  clear hc
  go_enter Try.func48, Try.ntmps48
  go_wp2_with (at_builtin; refine wpList_append_own _ rfl _ _ 48 rfl w.heap.size 5 i0 (.int .u8 0) 1 1 Try.underlying48 hi hz0 hz1 hz2 rfl (by decide) _ _ _ rfl (World.ownsRow_made w #[] 0 (Nat.le_refl _) (Nat.zero_le _) rfl) ⟨gs, os, none⟩ n c (rowOf Y n) rfl ?qc1 ?qc2 ?qc3 ?qc4 ?qc5 ?qc6 ?_)
  case qc1 => simp [rowOf]
  case qc2 =>
    intro j u hj
    have hjn : j < n := by
      have := (List.getElem?_eq_some_iff.1 hj).1
      simpa [rowOf] using this
    rw [rowOf_at hjn] at hj
    cases hj
    rw [Addr.add_lit]
    have t := A.out j hjn
    exact (((Below.refl _ w).alloc (Nat.le_refl _) _).cell (p := ⟨gs, os + j, none⟩) (lt_of_cell t)).trans t
  case qc3 => intro u hu; obtain ⟨x, _, rfl⟩ := List.mem_map.1 hu; rfl
  case qc4 => unfold maxLen; omega
  case qc5 => omega
  case qc6 => simp
  intro v' w1 hown hgrow hnil
  rcases hown.2 with ⟨_, h0⟩ | ⟨g, cap, cur, rfl, hg, hh, hnc, _, hcs, htk⟩
  · omega
  have hB : Below w.heap.size w w1 := ((Below.refl _ w).alloc (Nat.le_refl _) _).grown hgrow (by simp) (by intro k hk; simp [Value.ownBlock] at hk; omega)
  have HB : Hid (Below w.heap.size w w1 ∧ w1.heap[g]? = some (.cells cur 5 (0, 0)) ∧ cur.size = cap * 1 ∧ cur.toList.take ((0 + n) * 1) = [] ++ rowOf Y n) := ⟨hB, hh, hcs, by simpa using htk⟩
  clear hB hh hcs htk hown hgrow hnil
  go_wp2
  go_ret
  obtain ⟨h1, h2, h3, h4⟩ := HB.out
  refine ⟨g, cap, cur, by simp, hg, by omega, h2, by omega, fun j hj => ?_, h1⟩
  simp only [World.cell?, h2]
  have e : cur.toList[j]? = some (Value.int .u8 (Y j)) := by
    have t := congrArg (fun l => l[j]?) h4
    simp only [List.nil_append, rowOf_at hj] at t
    rw [List.getElem?_take_of_lt (by omega)] at t
    exact t
  simpa using e
end Go.Proofs.Ytndbkkldfinggab
