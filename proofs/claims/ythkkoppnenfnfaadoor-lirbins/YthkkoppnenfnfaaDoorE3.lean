/- Bin, the program's; and LirBins' law. -/
import Derived.Test.YthkkoppnenfnfaaDoorE2
import Derived.Test.YthkkoppnenfnfaaDoorD4
namespace Go.Proofs.YthkkoppnenfnfaaDoor
open Go.RowKit Go.Shelf
set_option maxHeartbeats 2000000
theorem rsf (a : Addr) (m : Mode) (fn : Fn) (x y : Array Value) (w : World) : (store a (.func fn x y) m).run Tryd.prog w = stored Tryd.prog w a (.func fn x y) m := run_store Tryd.prog w a _ m rfl
theorem rsn (a : Addr) (m : Mode) (w : World) : (store a .nilFunc m).run Tryd.prog w = stored Tryd.prog w a .nilFunc m := run_store Tryd.prog w a _ m rfl
theorem look30 (W : World) (r i : Nat) (s : ByteArray) (v : Value) (hr : W.heap[r]? = some (.map oes 14)) (hf : Instr.findNow .string (.string s) oes.toList 0 = some (some (i, v))) : (Instr.lookup 30 (.map (some r)) (.string s) true).run Tryd.prog W = .ok (.tuple #[v, .bool true]) W := by
  unfold Instr.lookup
  simp [Sem.run_bind, run_underlying und30, run_getObj_map W r oes 14 hr, check9, Go.MapKept.run_findKey Tryd.underlying9 hf]
theorem look30n (W : World) (r : Nat) (s : ByteArray) (hr : W.heap[r]? = some (.map oes 14)) (hf : Instr.findNow .string (.string s) oes.toList 0 = some none) : (Instr.lookup 30 (.map (some r)) (.string s) true).run Tryd.prog W = .ok (.tuple #[.agg #[.nilFunc], .bool false]) W := by
  unfold Instr.lookup
  simp [Sem.run_bind, run_underlying und30, run_getObj_map W r oes 14 hr, check9, Go.MapKept.run_findKey Tryd.underlying9 hf]
theorem b_add (a b : Int) (w : World) : Calls Tryd.prog 4 #[.string ⟨#[97, 100, 100]⟩, .int .i64 a, .int .i64 b] w fun e w' => e = .returned (.tuple #[.int .i64 (wrap64 (a + b)), .bool true]) ∧ Below w.heap.size w w' := by
  have hl := look30 (w.alloc (.map oes 14)) w.heap.size 0 ⟨#[97, 100, 100]⟩ (.agg #[.func (.func 12) #[] #[]]) (Go.MapKept.heap_alloc w _).1 (by rfl)
  have hC := add12 a b
  have hsf := rsf
  generalize wrap64 (a + b) = R at *
  go_enter Tryd.func4, Tryd.ntmps4
  go_wp2_with (first | (go_at_call 7; refine (operations7 _).mono ?_; rintro e w' ⟨rfl, rfl⟩) | (go_at_call 12; refine (hC _).mono ?_; rintro e w' ⟨rfl, rfl⟩))
  go_ret2
  exact ⟨rfl, (((G.refl _).alloc _).alloc _).below⟩
theorem b_sub (a b : Int) (w : World) : Calls Tryd.prog 4 #[.string ⟨#[115, 117, 98]⟩, .int .i64 a, .int .i64 b] w fun e w' => e = .returned (.tuple #[.int .i64 (wrap64 (a - b)), .bool true]) ∧ Below w.heap.size w w' := by
  have hl := look30 (w.alloc (.map oes 14)) w.heap.size 1 ⟨#[115, 117, 98]⟩ (.agg #[.func (.func 13) #[] #[]]) (Go.MapKept.heap_alloc w _).1 (by rfl)
  have hC := sub13 a b
  have hsf := rsf
  generalize wrap64 (a - b) = R at *
  go_enter Tryd.func4, Tryd.ntmps4
  go_wp2_with (first | (go_at_call 7; refine (operations7 _).mono ?_; rintro e w' ⟨rfl, rfl⟩) | (go_at_call 13; refine (hC _).mono ?_; rintro e w' ⟨rfl, rfl⟩))
  go_ret2
  exact ⟨rfl, (((G.refl _).alloc _).alloc _).below⟩
theorem b_mul (a b : Int) (w : World) : Calls Tryd.prog 4 #[.string ⟨#[109, 117, 108]⟩, .int .i64 a, .int .i64 b] w fun e w' => e = .returned (.tuple #[.int .i64 (wrap64 (a * b)), .bool true]) ∧ Below w.heap.size w w' := by
  have hl := look30 (w.alloc (.map oes 14)) w.heap.size 2 ⟨#[109, 117, 108]⟩ (.agg #[.func (.func 14) #[] #[]]) (Go.MapKept.heap_alloc w _).1 (by rfl)
  have hC := mul14 a b
  have hsf := rsf
  generalize wrap64 (a * b) = R at *
  go_enter Tryd.func4, Tryd.ntmps4
  go_wp2_with (first | (go_at_call 7; refine (operations7 _).mono ?_; rintro e w' ⟨rfl, rfl⟩) | (go_at_call 14; refine (hC _).mono ?_; rintro e w' ⟨rfl, rfl⟩))
  go_ret2
  exact ⟨rfl, (((G.refl _).alloc _).alloc _).below⟩
theorem b_mulh (a b : Int) (w : World) : Calls Tryd.prog 4 #[.string ⟨#[109, 117, 108, 104]⟩, .int .i64 a, .int .i64 b] w fun e w' => e = .returned (.tuple #[.int .i64 (hiV a b), .bool true]) ∧ Below w.heap.size w w' := by
  have hl := look30 (w.alloc (.map oes 14)) w.heap.size 3 ⟨#[109, 117, 108, 104]⟩ (.agg #[.func (.func 15) #[] #[]]) (Go.MapKept.heap_alloc w _).1 (by rfl)
  have hC := high15 a b
  have hsf := rsf
  generalize hiV a b = R at *
  go_enter Tryd.func4, Tryd.ntmps4
  go_wp2_with (first | (go_at_call 7; refine (operations7 _).mono ?_; rintro e w' ⟨rfl, rfl⟩) | (go_at_call 15; refine (hC _).mono ?_; rintro e w' ⟨rfl, rfl⟩))
  go_ret2
  exact ⟨rfl, (((G.refl _).alloc _).alloc _).below⟩
theorem b_div (a b : Int) (w : World) : Calls Tryd.prog 4 #[.string ⟨#[100, 105, 118]⟩, .int .i64 a, .int .i64 b] w fun e w' => e = .returned (.tuple #[.int .i64 (quoV a b), .bool true]) ∧ Below w.heap.size w w' := by
  have hl := look30 (w.alloc (.map oes 14)) w.heap.size 4 ⟨#[100, 105, 118]⟩ (.agg #[.func (.func 16) #[] #[]]) (Go.MapKept.heap_alloc w _).1 (by rfl)
  have hC := quo16 a b
  have hsf := rsf
  generalize quoV a b = R at *
  go_enter Tryd.func4, Tryd.ntmps4
  go_wp2_with (first | (go_at_call 7; refine (operations7 _).mono ?_; rintro e w' ⟨rfl, rfl⟩) | (go_at_call 16; refine (hC _).mono ?_; rintro e w' ⟨rfl, rfl⟩))
  go_ret2
  exact ⟨rfl, (((G.refl _).alloc _).alloc _).below⟩
theorem b_rem (a b : Int) (w : World) : Calls Tryd.prog 4 #[.string ⟨#[114, 101, 109]⟩, .int .i64 a, .int .i64 b] w fun e w' => e = .returned (.tuple #[.int .i64 (remV a b), .bool true]) ∧ Below w.heap.size w w' := by
  have hl := look30 (w.alloc (.map oes 14)) w.heap.size 5 ⟨#[114, 101, 109]⟩ (.agg #[.func (.func 17) #[] #[]]) (Go.MapKept.heap_alloc w _).1 (by rfl)
  have hC := rem17 a b
  have hsf := rsf
  generalize remV a b = R at *
  go_enter Tryd.func4, Tryd.ntmps4
  go_wp2_with (first | (go_at_call 7; refine (operations7 _).mono ?_; rintro e w' ⟨rfl, rfl⟩) | (go_at_call 17; refine (hC _).mono ?_; rintro e w' ⟨rfl, rfl⟩))
  go_ret2
  exact ⟨rfl, (((G.refl _).alloc _).alloc _).below⟩
theorem b_and (a b : Int) (w : World) : Calls Tryd.prog 4 #[.string ⟨#[97, 110, 100]⟩, .int .i64 a, .int .i64 b] w fun e w' => e = .returned (.tuple #[.int .i64 (bits .and .i64 a b), .bool true]) ∧ Below w.heap.size w w' := by
  have hl := look30 (w.alloc (.map oes 14)) w.heap.size 6 ⟨#[97, 110, 100]⟩ (.agg #[.func (.func 18) #[] #[]]) (Go.MapKept.heap_alloc w _).1 (by rfl)
  have hC := and18 a b
  have hsf := rsf
  generalize bits .and .i64 a b = R at *
  go_enter Tryd.func4, Tryd.ntmps4
  go_wp2_with (first | (go_at_call 7; refine (operations7 _).mono ?_; rintro e w' ⟨rfl, rfl⟩) | (go_at_call 18; refine (hC _).mono ?_; rintro e w' ⟨rfl, rfl⟩))
  go_ret2
  exact ⟨rfl, (((G.refl _).alloc _).alloc _).below⟩
theorem b_or (a b : Int) (w : World) : Calls Tryd.prog 4 #[.string ⟨#[111, 114]⟩, .int .i64 a, .int .i64 b] w fun e w' => e = .returned (.tuple #[.int .i64 (bits .or .i64 a b), .bool true]) ∧ Below w.heap.size w w' := by
  have hl := look30 (w.alloc (.map oes 14)) w.heap.size 7 ⟨#[111, 114]⟩ (.agg #[.func (.func 19) #[] #[]]) (Go.MapKept.heap_alloc w _).1 (by rfl)
  have hC := or19 a b
  have hsf := rsf
  generalize bits .or .i64 a b = R at *
  go_enter Tryd.func4, Tryd.ntmps4
  go_wp2_with (first | (go_at_call 7; refine (operations7 _).mono ?_; rintro e w' ⟨rfl, rfl⟩) | (go_at_call 19; refine (hC _).mono ?_; rintro e w' ⟨rfl, rfl⟩))
  go_ret2
  exact ⟨rfl, (((G.refl _).alloc _).alloc _).below⟩
theorem b_xor (a b : Int) (w : World) : Calls Tryd.prog 4 #[.string ⟨#[120, 111, 114]⟩, .int .i64 a, .int .i64 b] w fun e w' => e = .returned (.tuple #[.int .i64 (bits .xor .i64 a b), .bool true]) ∧ Below w.heap.size w w' := by
  have hl := look30 (w.alloc (.map oes 14)) w.heap.size 8 ⟨#[120, 111, 114]⟩ (.agg #[.func (.func 20) #[] #[]]) (Go.MapKept.heap_alloc w _).1 (by rfl)
  have hC := xor20 a b
  have hsf := rsf
  generalize bits .xor .i64 a b = R at *
  go_enter Tryd.func4, Tryd.ntmps4
  go_wp2_with (first | (go_at_call 7; refine (operations7 _).mono ?_; rintro e w' ⟨rfl, rfl⟩) | (go_at_call 20; refine (hC _).mono ?_; rintro e w' ⟨rfl, rfl⟩))
  go_ret2
  exact ⟨rfl, (((G.refl _).alloc _).alloc _).below⟩
theorem b_sll (a b : Int) (w : World) : Calls Tryd.prog 4 #[.string ⟨#[115, 108, 108]⟩, .int .i64 a, .int .i64 b] w fun e w' => e = .returned (.tuple #[.int .i64 (sllV a b), .bool true]) ∧ Below w.heap.size w w' := by
  have hl := look30 (w.alloc (.map oes 14)) w.heap.size 9 ⟨#[115, 108, 108]⟩ (.agg #[.func (.func 21) #[] #[]]) (Go.MapKept.heap_alloc w _).1 (by rfl)
  have hC := sll21 a b
  have hsf := rsf
  generalize sllV a b = R at *
  go_enter Tryd.func4, Tryd.ntmps4
  go_wp2_with (first | (go_at_call 7; refine (operations7 _).mono ?_; rintro e w' ⟨rfl, rfl⟩) | (go_at_call 21; refine (hC _).mono ?_; rintro e w' ⟨rfl, rfl⟩))
  go_ret2
  exact ⟨rfl, (((G.refl _).alloc _).alloc _).below⟩
theorem b_srl (a b : Int) (w : World) : Calls Tryd.prog 4 #[.string ⟨#[115, 114, 108]⟩, .int .i64 a, .int .i64 b] w fun e w' => e = .returned (.tuple #[.int .i64 (srlV a b), .bool true]) ∧ Below w.heap.size w w' := by
  have hl := look30 (w.alloc (.map oes 14)) w.heap.size 10 ⟨#[115, 114, 108]⟩ (.agg #[.func (.func 23) #[] #[]]) (Go.MapKept.heap_alloc w _).1 (by rfl)
  have hC := srl23 a b
  have hsf := rsf
  generalize srlV a b = R at *
  go_enter Tryd.func4, Tryd.ntmps4
  go_wp2_with (first | (go_at_call 7; refine (operations7 _).mono ?_; rintro e w' ⟨rfl, rfl⟩) | (go_at_call 23; refine (hC _).mono ?_; rintro e w' ⟨rfl, rfl⟩))
  go_ret2
  exact ⟨rfl, (((G.refl _).alloc _).alloc _).below⟩
theorem b_sra (a b : Int) (w : World) : Calls Tryd.prog 4 #[.string ⟨#[115, 114, 97]⟩, .int .i64 a, .int .i64 b] w fun e w' => e = .returned (.tuple #[.int .i64 (sraV a b), .bool true]) ∧ Below w.heap.size w w' := by
  have hl := look30 (w.alloc (.map oes 14)) w.heap.size 11 ⟨#[115, 114, 97]⟩ (.agg #[.func (.func 24) #[] #[]]) (Go.MapKept.heap_alloc w _).1 (by rfl)
  have hC := sra24 a b
  have hsf := rsf
  generalize sraV a b = R at *
  go_enter Tryd.func4, Tryd.ntmps4
  go_wp2_with (first | (go_at_call 7; refine (operations7 _).mono ?_; rintro e w' ⟨rfl, rfl⟩) | (go_at_call 24; refine (hC _).mono ?_; rintro e w' ⟨rfl, rfl⟩))
  go_ret2
  exact ⟨rfl, (((G.refl _).alloc _).alloc _).below⟩
theorem b_slt (a b : Int) (w : World) : Calls Tryd.prog 4 #[.string ⟨#[115, 108, 116]⟩, .int .i64 a, .int .i64 b] w fun e w' => e = .returned (.tuple #[.int .i64 (sltV a b), .bool true]) ∧ Below w.heap.size w w' := by
  have hl := look30 (w.alloc (.map oes 14)) w.heap.size 12 ⟨#[115, 108, 116]⟩ (.agg #[.func (.func 25) #[] #[]]) (Go.MapKept.heap_alloc w _).1 (by rfl)
  have hC := slt25 a b
  have hsf := rsf
  generalize sltV a b = R at *
  go_enter Tryd.func4, Tryd.ntmps4
  go_wp2_with (first | (go_at_call 7; refine (operations7 _).mono ?_; rintro e w' ⟨rfl, rfl⟩) | (go_at_call 25; refine (hC _).mono ?_; rintro e w' ⟨rfl, rfl⟩))
  go_ret2
  exact ⟨rfl, (((G.refl _).alloc _).alloc _).below⟩
theorem b_sltu (a b : Int) (w : World) : Calls Tryd.prog 4 #[.string ⟨#[115, 108, 116, 117]⟩, .int .i64 a, .int .i64 b] w fun e w' => e = .returned (.tuple #[.int .i64 (sltuV a b), .bool true]) ∧ Below w.heap.size w w' := by
  have hl := look30 (w.alloc (.map oes 14)) w.heap.size 13 ⟨#[115, 108, 116, 117]⟩ (.agg #[.func (.func 27) #[] #[]]) (Go.MapKept.heap_alloc w _).1 (by rfl)
  have hC := sltu27 a b
  have hsf := rsf
  generalize sltuV a b = R at *
  go_enter Tryd.func4, Tryd.ntmps4
  go_wp2_with (first | (go_at_call 7; refine (operations7 _).mono ?_; rintro e w' ⟨rfl, rfl⟩) | (go_at_call 27; refine (hC _).mono ?_; rintro e w' ⟨rfl, rfl⟩))
  go_ret2
  exact ⟨rfl, (((G.refl _).alloc _).alloc _).below⟩
theorem b_other (s : ByteArray) (a b : Int) (w : World) (hf : Instr.findNow .string (.string s) oes.toList 0 = some none) : Calls Tryd.prog 4 #[.string s, .int .i64 a, .int .i64 b] w fun e w' => e = .returned (.tuple #[.int .i64 0, .bool false]) ∧ Below w.heap.size w w' := by
  have hl := look30n (w.alloc (.map oes 14)) w.heap.size s (Go.MapKept.heap_alloc w _).1 hf
  have hsn := rsn
  clear hf
  go_enter Tryd.func4, Tryd.ntmps4
  go_wp2_with (first | (go_at_call 7; refine (operations7 _).mono ?_; rintro e w' ⟨rfl, rfl⟩))
  go_ret2
  exact ⟨rfl, (((G.refl _).alloc _).alloc _).below⟩
theorem ba_ne {s : ByteArray} {l : List UInt8} (h : s ≠ ⟨l.toArray⟩) : (s == ⟨l.toArray⟩) = false ∧ (s.toList == l) = false := by
  constructor
  · cases e : (s == ⟨l.toArray⟩)
    · rfl
    · exact absurd ((Go.MapKept.bytes_beq _ _).1 e) h
  · cases e : (s.toList == l)
    · rfl
    · refine absurd ?_ h
      have t : s.toList = l := by simpa using e
      rw [ByteArray.toList_eq] at t
      cases s with
      | mk d =>
        simp at t
        rw [← t]
/-- Bin and the document's own tell the same. -/
theorem both (s : ByteArray) (a b : Int) : ∃ (v : Int) (r : Bool), (∀ w : World, Calls Tryd.prog 4 #[.string s, .int .i64 a, .int .i64 b] w fun e w' => e = .returned (.tuple #[.int .i64 v, .bool r]) ∧ Below w.heap.size w w') ∧ (∀ w : World, Calls Tryd.prog 5 #[.string s, .int .i64 a, .int .i64 b] w fun e w' => e = .returned (.tuple #[.int .i64 v, .bool r]) ∧ w' = w) := by
  by_cases h0 : s = ⟨#[97, 100, 100]⟩
  · subst h0
    exact ⟨_, _, b_add a b, r_add a b⟩
  by_cases h1 : s = ⟨#[115, 117, 98]⟩
  · subst h1
    exact ⟨_, _, b_sub a b, r_sub a b⟩
  by_cases h2 : s = ⟨#[109, 117, 108]⟩
  · subst h2
    exact ⟨_, _, b_mul a b, r_mul a b⟩
  by_cases h3 : s = ⟨#[109, 117, 108, 104]⟩
  · subst h3
    exact ⟨_, _, b_mulh a b, r_mulh a b⟩
  by_cases h4 : s = ⟨#[100, 105, 118]⟩
  · subst h4
    exact ⟨_, _, b_div a b, r_div a b⟩
  by_cases h5 : s = ⟨#[114, 101, 109]⟩
  · subst h5
    exact ⟨_, _, b_rem a b, r_rem a b⟩
  by_cases h6 : s = ⟨#[97, 110, 100]⟩
  · subst h6
    exact ⟨_, _, b_and a b, r_and a b⟩
  by_cases h7 : s = ⟨#[111, 114]⟩
  · subst h7
    exact ⟨_, _, b_or a b, r_or a b⟩
  by_cases h8 : s = ⟨#[120, 111, 114]⟩
  · subst h8
    exact ⟨_, _, b_xor a b, r_xor a b⟩
  by_cases h9 : s = ⟨#[115, 108, 108]⟩
  · subst h9
    exact ⟨_, _, b_sll a b, r_sll a b⟩
  by_cases h10 : s = ⟨#[115, 114, 108]⟩
  · subst h10
    exact ⟨_, _, b_srl a b, r_srl a b⟩
  by_cases h11 : s = ⟨#[115, 114, 97]⟩
  · subst h11
    exact ⟨_, _, b_sra a b, r_sra a b⟩
  by_cases h12 : s = ⟨#[115, 108, 116]⟩
  · subst h12
    exact ⟨_, _, b_slt a b, r_slt a b⟩
  by_cases h13 : s = ⟨#[115, 108, 116, 117]⟩
  · subst h13
    exact ⟨_, _, b_sltu a b, r_sltu a b⟩
  obtain ⟨p0, q0⟩ := ba_ne (l := [97, 100, 100]) h0
  obtain ⟨p1, q1⟩ := ba_ne (l := [115, 117, 98]) h1
  obtain ⟨p2, q2⟩ := ba_ne (l := [109, 117, 108]) h2
  obtain ⟨p3, q3⟩ := ba_ne (l := [109, 117, 108, 104]) h3
  obtain ⟨p4, q4⟩ := ba_ne (l := [100, 105, 118]) h4
  obtain ⟨p5, q5⟩ := ba_ne (l := [114, 101, 109]) h5
  obtain ⟨p6, q6⟩ := ba_ne (l := [97, 110, 100]) h6
  obtain ⟨p7, q7⟩ := ba_ne (l := [111, 114]) h7
  obtain ⟨p8, q8⟩ := ba_ne (l := [120, 111, 114]) h8
  obtain ⟨p9, q9⟩ := ba_ne (l := [115, 108, 108]) h9
  obtain ⟨p10, q10⟩ := ba_ne (l := [115, 114, 108]) h10
  obtain ⟨p11, q11⟩ := ba_ne (l := [115, 114, 97]) h11
  obtain ⟨p12, q12⟩ := ba_ne (l := [115, 108, 116]) h12
  obtain ⟨p13, q13⟩ := ba_ne (l := [115, 108, 116, 117]) h13
  refine ⟨0, false, fun w => b_other s a b w ?_, fun w => r_other s a b w q0 q1 q2 q3 q4 q5 q6 q7 q8 q9 q10 q11 q12 q13⟩
  unfold oes
  simp only [Instr.findNow, Instr.sameNow, en]
  rw [p0, p1, p2, p3, p4, p5, p6, p7, p8, p9, p10, p11, p12, p13]
set_option maxRecDepth 20000 in
theorem law3 (s : ByteArray) (a b : Int) (w : World) (hT : Tf w) : Calls Tryd.prog 3 #[.string s, .int .i64 a, .int .i64 b] w fun e w' => e = .returned (.bool true) ∧ Below w.heap.size w w' := by
  obtain ⟨v, r, h4, h5⟩ := both s a b
  have HT : Hid (Tf w) := hT
  have H4 : Hid (∀ w : World, Calls Tryd.prog 4 #[.string s, .int .i64 a, .int .i64 b] w fun e w' => e = .returned (.tuple #[.int .i64 v, .bool r]) ∧ Below w.heap.size w w') := h4
  have H5 : Hid (∀ w : World, Calls Tryd.prog 5 #[.string s, .int .i64 a, .int .i64 b] w fun e w' => e = .returned (.tuple #[.int .i64 v, .bool r]) ∧ w' = w) := h5
  clear h4 h5 hT
  go_enter Tryd.func3, Tryd.ntmps3
  go_wp2_with fail
  refine (H4.out w).mono ?_
  rintro e w1 ⟨rfl, hb⟩
  have HB : Hid (Below w.heap.size w w1) := hb
  clear hb
  go_wp2_with (first | (go_at_call 5; refine (H5.out _).mono ?_; rintro e w' ⟨rfl, rfl⟩) | (go_at_call 6; refine (speaks6 _ (HT.out.below HB.out)).mono ?_; rintro e w2 ⟨rfl, hb2⟩))
  go_ret
  exact ⟨rfl, HB.out.trans (hb2.mono HB.out.size)⟩
end Go.Proofs.YthkkoppnenfnfaaDoor
