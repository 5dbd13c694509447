/- A load and a store of a machine at whatever state. A store of a machine at whatever state. -/
import Derived.Test.YtnmpbihpoefeoaaDoorGA
import Derived.Deep.RegionHeld3
import Derived.RegionTactic
namespace Go.Proofs.YtnmpbihpoefeoaaDoor
section
open Go.RowKit Go.Shelf
/-- How many bytes a load or a store has. -/
def wid (op : Int) : Int := if op = 11 ∨ op = 15 ∨ op = 18 then 1 else if op = 12 ∨ op = 16 ∨ op = 19 then 2 else if op = 13 ∨ op = 17 ∨ op = 20 then 4 else 8
/-- What a load makes of them. -/
def lsx (op v : Int) : Int := if op = 11 then IntKind.u64.wrap (wrap64 (IntKind.u64.wrap (v * 72057594037927936)) / 72057594037927936) else if op = 12 then IntKind.u64.wrap (wrap64 (IntKind.u64.wrap (v * 281474976710656)) / 281474976710656) else if op = 13 then IntKind.u64.wrap (wrap64 (IntKind.u64.wrap (v * 4294967296)) / 4294967296) else v
set_option maxHeartbeats 1000000 in
set_option maxRecDepth 20000 in
theorem width74 (op : Int) (h1 : 11 ≤ op) (h2 : op ≤ 21) (w : World) : Calls Tryd.prog 74 #[.int .i64 op] w fun e w' => e = .returned (.int .i64 (wid op)) ∧ w' = w := by
  rcases (by omega : op = 11 ∨ op = 12 ∨ op = 13 ∨ op = 14 ∨ op = 15 ∨ op = 16 ∨ op = 17 ∨ op = 18 ∨ op = 19 ∨ op = 20 ∨ op = 21) with rfl | rfl | rfl | rfl | rfl | rfl | rfl | rfl | rfl | rfl | rfl
  all_goals
    go_enter Tryd.func74, Tryd.ntmps74
    go_wp2
    go_ret
    exact ⟨rfl, rfl⟩
set_option maxHeartbeats 1000000 in
set_option maxRecDepth 20000 in
theorem load61_11 {W : World} {m mem : Nat} {s : Sx} {ov iv : Value} (H : Mch W m s ov mem iv) (a v : Int)
    (hl : Calls Tryd.prog 75 #[.pointer (some ⟨mem, 0, none⟩), .int .u64 a, .int .i64 1] W fun e' w' => e' = .returned (.tuple #[.int .u64 v, .int .i64 0]) ∧ Below W.heap.size W w') : Calls Tryd.prog 61 #[.pointer (some ⟨m, 0, none⟩), .int .i64 11, .int .u64 a] W fun e w' => e = .returned (.tuple #[.int .u64 (lsx 11 v), .int .i64 0]) ∧ Below W.heap.size W w' := by
  have hm := H.mem
  have hs := H.lt
  have HL : Hid (Calls Tryd.prog 75 #[.pointer (some ⟨mem, 0, none⟩), .int .u64 a, .int .i64 1] W fun e' w' => e' = .returned (.tuple #[.int .u64 v, .int .i64 0]) ∧ Below W.heap.size W w') := hl
  have hw : ∀ w, Calls Tryd.prog 74 #[.int .i64 11] w fun e w' => e = .returned (.int .i64 1) ∧ w' = w := width74 11 (by omega) (by omega)
  clear hl H
  go_enter Tryd.func61, Tryd.ntmps61
  go_wp2_with (first | (go_at_call 74; refine (hw _).mono ?_; rintro e w' ⟨rfl, rfl⟩) | (go_at_call 75; refine HL.out.mono ?_; rintro e w' ⟨rfl, hb⟩))
  go_ret2
  exact ⟨rfl, hb⟩
set_option maxHeartbeats 1000000 in
set_option maxRecDepth 20000 in
theorem load61_11f {W : World} {m mem : Nat} {s : Sx} {ov iv : Value} (H : Mch W m s ov mem iv) (a v : Int) (e : Int) (he : ¬ e = 0)
    (hl : Calls Tryd.prog 75 #[.pointer (some ⟨mem, 0, none⟩), .int .u64 a, .int .i64 1] W fun e' w' => e' = .returned (.tuple #[.int .u64 v, .int .i64 e]) ∧ Below W.heap.size W w') : Calls Tryd.prog 61 #[.pointer (some ⟨m, 0, none⟩), .int .i64 11, .int .u64 a] W fun e w' => e = .returned (.tuple #[.int .u64 0, .int .i64 32]) ∧ Below W.heap.size W w' := by
  have he1 : (e != 0) = true := by simpa using he
  have hm := H.mem
  have hs := H.lt
  have HL : Hid (Calls Tryd.prog 75 #[.pointer (some ⟨mem, 0, none⟩), .int .u64 a, .int .i64 1] W fun e' w' => e' = .returned (.tuple #[.int .u64 v, .int .i64 e]) ∧ Below W.heap.size W w') := hl
  have hw : ∀ w, Calls Tryd.prog 74 #[.int .i64 11] w fun e w' => e = .returned (.int .i64 1) ∧ w' = w := width74 11 (by omega) (by omega)
  clear hl H he
  go_enter Tryd.func61, Tryd.ntmps61
  go_wp2_with (first | (go_at_call 74; refine (hw _).mono ?_; rintro e w' ⟨rfl, rfl⟩) | (go_at_call 75; refine HL.out.mono ?_; rintro e w' ⟨rfl, hb⟩))
  go_ret2
  exact ⟨rfl, hb⟩
set_option maxHeartbeats 1000000 in
set_option maxRecDepth 20000 in
theorem load61_12 {W : World} {m mem : Nat} {s : Sx} {ov iv : Value} (H : Mch W m s ov mem iv) (a v : Int)
    (hl : Calls Tryd.prog 75 #[.pointer (some ⟨mem, 0, none⟩), .int .u64 a, .int .i64 2] W fun e' w' => e' = .returned (.tuple #[.int .u64 v, .int .i64 0]) ∧ Below W.heap.size W w') : Calls Tryd.prog 61 #[.pointer (some ⟨m, 0, none⟩), .int .i64 12, .int .u64 a] W fun e w' => e = .returned (.tuple #[.int .u64 (lsx 12 v), .int .i64 0]) ∧ Below W.heap.size W w' := by
  have hm := H.mem
  have hs := H.lt
  have HL : Hid (Calls Tryd.prog 75 #[.pointer (some ⟨mem, 0, none⟩), .int .u64 a, .int .i64 2] W fun e' w' => e' = .returned (.tuple #[.int .u64 v, .int .i64 0]) ∧ Below W.heap.size W w') := hl
  have hw : ∀ w, Calls Tryd.prog 74 #[.int .i64 12] w fun e w' => e = .returned (.int .i64 2) ∧ w' = w := width74 12 (by omega) (by omega)
  clear hl H
  go_enter Tryd.func61, Tryd.ntmps61
  go_wp2_with (first | (go_at_call 74; refine (hw _).mono ?_; rintro e w' ⟨rfl, rfl⟩) | (go_at_call 75; refine HL.out.mono ?_; rintro e w' ⟨rfl, hb⟩))
  go_ret2
  exact ⟨rfl, hb⟩
set_option maxHeartbeats 1000000 in
set_option maxRecDepth 20000 in
theorem load61_12f {W : World} {m mem : Nat} {s : Sx} {ov iv : Value} (H : Mch W m s ov mem iv) (a v : Int) (e : Int) (he : ¬ e = 0)
    (hl : Calls Tryd.prog 75 #[.pointer (some ⟨mem, 0, none⟩), .int .u64 a, .int .i64 2] W fun e' w' => e' = .returned (.tuple #[.int .u64 v, .int .i64 e]) ∧ Below W.heap.size W w') : Calls Tryd.prog 61 #[.pointer (some ⟨m, 0, none⟩), .int .i64 12, .int .u64 a] W fun e w' => e = .returned (.tuple #[.int .u64 0, .int .i64 32]) ∧ Below W.heap.size W w' := by
  have he1 : (e != 0) = true := by simpa using he
  have hm := H.mem
  have hs := H.lt
  have HL : Hid (Calls Tryd.prog 75 #[.pointer (some ⟨mem, 0, none⟩), .int .u64 a, .int .i64 2] W fun e' w' => e' = .returned (.tuple #[.int .u64 v, .int .i64 e]) ∧ Below W.heap.size W w') := hl
  have hw : ∀ w, Calls Tryd.prog 74 #[.int .i64 12] w fun e w' => e = .returned (.int .i64 2) ∧ w' = w := width74 12 (by omega) (by omega)
  clear hl H he
  go_enter Tryd.func61, Tryd.ntmps61
  go_wp2_with (first | (go_at_call 74; refine (hw _).mono ?_; rintro e w' ⟨rfl, rfl⟩) | (go_at_call 75; refine HL.out.mono ?_; rintro e w' ⟨rfl, hb⟩))
  go_ret2
  exact ⟨rfl, hb⟩
set_option maxHeartbeats 1000000 in
set_option maxRecDepth 20000 in
theorem load61_13 {W : World} {m mem : Nat} {s : Sx} {ov iv : Value} (H : Mch W m s ov mem iv) (a v : Int)
    (hl : Calls Tryd.prog 75 #[.pointer (some ⟨mem, 0, none⟩), .int .u64 a, .int .i64 4] W fun e' w' => e' = .returned (.tuple #[.int .u64 v, .int .i64 0]) ∧ Below W.heap.size W w') : Calls Tryd.prog 61 #[.pointer (some ⟨m, 0, none⟩), .int .i64 13, .int .u64 a] W fun e w' => e = .returned (.tuple #[.int .u64 (lsx 13 v), .int .i64 0]) ∧ Below W.heap.size W w' := by
  have hm := H.mem
  have hs := H.lt
  have HL : Hid (Calls Tryd.prog 75 #[.pointer (some ⟨mem, 0, none⟩), .int .u64 a, .int .i64 4] W fun e' w' => e' = .returned (.tuple #[.int .u64 v, .int .i64 0]) ∧ Below W.heap.size W w') := hl
  have hw : ∀ w, Calls Tryd.prog 74 #[.int .i64 13] w fun e w' => e = .returned (.int .i64 4) ∧ w' = w := width74 13 (by omega) (by omega)
  clear hl H
  go_enter Tryd.func61, Tryd.ntmps61
  go_wp2_with (first | (go_at_call 74; refine (hw _).mono ?_; rintro e w' ⟨rfl, rfl⟩) | (go_at_call 75; refine HL.out.mono ?_; rintro e w' ⟨rfl, hb⟩))
  go_ret2
  exact ⟨rfl, hb⟩
set_option maxHeartbeats 1000000 in
set_option maxRecDepth 20000 in
theorem load61_13f {W : World} {m mem : Nat} {s : Sx} {ov iv : Value} (H : Mch W m s ov mem iv) (a v : Int) (e : Int) (he : ¬ e = 0)
    (hl : Calls Tryd.prog 75 #[.pointer (some ⟨mem, 0, none⟩), .int .u64 a, .int .i64 4] W fun e' w' => e' = .returned (.tuple #[.int .u64 v, .int .i64 e]) ∧ Below W.heap.size W w') : Calls Tryd.prog 61 #[.pointer (some ⟨m, 0, none⟩), .int .i64 13, .int .u64 a] W fun e w' => e = .returned (.tuple #[.int .u64 0, .int .i64 32]) ∧ Below W.heap.size W w' := by
  have he1 : (e != 0) = true := by simpa using he
  have hm := H.mem
  have hs := H.lt
  have HL : Hid (Calls Tryd.prog 75 #[.pointer (some ⟨mem, 0, none⟩), .int .u64 a, .int .i64 4] W fun e' w' => e' = .returned (.tuple #[.int .u64 v, .int .i64 e]) ∧ Below W.heap.size W w') := hl
  have hw : ∀ w, Calls Tryd.prog 74 #[.int .i64 13] w fun e w' => e = .returned (.int .i64 4) ∧ w' = w := width74 13 (by omega) (by omega)
  clear hl H he
  go_enter Tryd.func61, Tryd.ntmps61
  go_wp2_with (first | (go_at_call 74; refine (hw _).mono ?_; rintro e w' ⟨rfl, rfl⟩) | (go_at_call 75; refine HL.out.mono ?_; rintro e w' ⟨rfl, hb⟩))
  go_ret2
  exact ⟨rfl, hb⟩
set_option maxHeartbeats 1000000 in
set_option maxRecDepth 20000 in
theorem load61_14 {W : World} {m mem : Nat} {s : Sx} {ov iv : Value} (H : Mch W m s ov mem iv) (a v : Int)
    (hl : Calls Tryd.prog 75 #[.pointer (some ⟨mem, 0, none⟩), .int .u64 a, .int .i64 8] W fun e' w' => e' = .returned (.tuple #[.int .u64 v, .int .i64 0]) ∧ Below W.heap.size W w') : Calls Tryd.prog 61 #[.pointer (some ⟨m, 0, none⟩), .int .i64 14, .int .u64 a] W fun e w' => e = .returned (.tuple #[.int .u64 (lsx 14 v), .int .i64 0]) ∧ Below W.heap.size W w' := by
  have hm := H.mem
  have hs := H.lt
  have HL : Hid (Calls Tryd.prog 75 #[.pointer (some ⟨mem, 0, none⟩), .int .u64 a, .int .i64 8] W fun e' w' => e' = .returned (.tuple #[.int .u64 v, .int .i64 0]) ∧ Below W.heap.size W w') := hl
  have hw : ∀ w, Calls Tryd.prog 74 #[.int .i64 14] w fun e w' => e = .returned (.int .i64 8) ∧ w' = w := width74 14 (by omega) (by omega)
  clear hl H
  go_enter Tryd.func61, Tryd.ntmps61
  go_wp2_with (first | (go_at_call 74; refine (hw _).mono ?_; rintro e w' ⟨rfl, rfl⟩) | (go_at_call 75; refine HL.out.mono ?_; rintro e w' ⟨rfl, hb⟩))
  go_ret2
  exact ⟨rfl, hb⟩
set_option maxHeartbeats 1000000 in
set_option maxRecDepth 20000 in
theorem load61_14f {W : World} {m mem : Nat} {s : Sx} {ov iv : Value} (H : Mch W m s ov mem iv) (a v : Int) (e : Int) (he : ¬ e = 0)
    (hl : Calls Tryd.prog 75 #[.pointer (some ⟨mem, 0, none⟩), .int .u64 a, .int .i64 8] W fun e' w' => e' = .returned (.tuple #[.int .u64 v, .int .i64 e]) ∧ Below W.heap.size W w') : Calls Tryd.prog 61 #[.pointer (some ⟨m, 0, none⟩), .int .i64 14, .int .u64 a] W fun e w' => e = .returned (.tuple #[.int .u64 0, .int .i64 32]) ∧ Below W.heap.size W w' := by
  have he1 : (e != 0) = true := by simpa using he
  have hm := H.mem
  have hs := H.lt
  have HL : Hid (Calls Tryd.prog 75 #[.pointer (some ⟨mem, 0, none⟩), .int .u64 a, .int .i64 8] W fun e' w' => e' = .returned (.tuple #[.int .u64 v, .int .i64 e]) ∧ Below W.heap.size W w') := hl
  have hw : ∀ w, Calls Tryd.prog 74 #[.int .i64 14] w fun e w' => e = .returned (.int .i64 8) ∧ w' = w := width74 14 (by omega) (by omega)
  clear hl H he
  go_enter Tryd.func61, Tryd.ntmps61
  go_wp2_with (first | (go_at_call 74; refine (hw _).mono ?_; rintro e w' ⟨rfl, rfl⟩) | (go_at_call 75; refine HL.out.mono ?_; rintro e w' ⟨rfl, hb⟩))
  go_ret2
  exact ⟨rfl, hb⟩
set_option maxHeartbeats 1000000 in
set_option maxRecDepth 20000 in
theorem load61_15 {W : World} {m mem : Nat} {s : Sx} {ov iv : Value} (H : Mch W m s ov mem iv) (a v : Int)
    (hl : Calls Tryd.prog 75 #[.pointer (some ⟨mem, 0, none⟩), .int .u64 a, .int .i64 1] W fun e' w' => e' = .returned (.tuple #[.int .u64 v, .int .i64 0]) ∧ Below W.heap.size W w') : Calls Tryd.prog 61 #[.pointer (some ⟨m, 0, none⟩), .int .i64 15, .int .u64 a] W fun e w' => e = .returned (.tuple #[.int .u64 (lsx 15 v), .int .i64 0]) ∧ Below W.heap.size W w' := by
  have hm := H.mem
  have hs := H.lt
  have HL : Hid (Calls Tryd.prog 75 #[.pointer (some ⟨mem, 0, none⟩), .int .u64 a, .int .i64 1] W fun e' w' => e' = .returned (.tuple #[.int .u64 v, .int .i64 0]) ∧ Below W.heap.size W w') := hl
  have hw : ∀ w, Calls Tryd.prog 74 #[.int .i64 15] w fun e w' => e = .returned (.int .i64 1) ∧ w' = w := width74 15 (by omega) (by omega)
  clear hl H
  go_enter Tryd.func61, Tryd.ntmps61
  go_wp2_with (first | (go_at_call 74; refine (hw _).mono ?_; rintro e w' ⟨rfl, rfl⟩) | (go_at_call 75; refine HL.out.mono ?_; rintro e w' ⟨rfl, hb⟩))
  go_ret2
  exact ⟨rfl, hb⟩
set_option maxHeartbeats 1000000 in
set_option maxRecDepth 20000 in
theorem load61_15f {W : World} {m mem : Nat} {s : Sx} {ov iv : Value} (H : Mch W m s ov mem iv) (a v : Int) (e : Int) (he : ¬ e = 0)
    (hl : Calls Tryd.prog 75 #[.pointer (some ⟨mem, 0, none⟩), .int .u64 a, .int .i64 1] W fun e' w' => e' = .returned (.tuple #[.int .u64 v, .int .i64 e]) ∧ Below W.heap.size W w') : Calls Tryd.prog 61 #[.pointer (some ⟨m, 0, none⟩), .int .i64 15, .int .u64 a] W fun e w' => e = .returned (.tuple #[.int .u64 0, .int .i64 32]) ∧ Below W.heap.size W w' := by
  have he1 : (e != 0) = true := by simpa using he
  have hm := H.mem
  have hs := H.lt
  have HL : Hid (Calls Tryd.prog 75 #[.pointer (some ⟨mem, 0, none⟩), .int .u64 a, .int .i64 1] W fun e' w' => e' = .returned (.tuple #[.int .u64 v, .int .i64 e]) ∧ Below W.heap.size W w') := hl
  have hw : ∀ w, Calls Tryd.prog 74 #[.int .i64 15] w fun e w' => e = .returned (.int .i64 1) ∧ w' = w := width74 15 (by omega) (by omega)
  clear hl H he
  go_enter Tryd.func61, Tryd.ntmps61
  go_wp2_with (first | (go_at_call 74; refine (hw _).mono ?_; rintro e w' ⟨rfl, rfl⟩) | (go_at_call 75; refine HL.out.mono ?_; rintro e w' ⟨rfl, hb⟩))
  go_ret2
  exact ⟨rfl, hb⟩
set_option maxHeartbeats 1000000 in
set_option maxRecDepth 20000 in
theorem load61_16 {W : World} {m mem : Nat} {s : Sx} {ov iv : Value} (H : Mch W m s ov mem iv) (a v : Int)
    (hl : Calls Tryd.prog 75 #[.pointer (some ⟨mem, 0, none⟩), .int .u64 a, .int .i64 2] W fun e' w' => e' = .returned (.tuple #[.int .u64 v, .int .i64 0]) ∧ Below W.heap.size W w') : Calls Tryd.prog 61 #[.pointer (some ⟨m, 0, none⟩), .int .i64 16, .int .u64 a] W fun e w' => e = .returned (.tuple #[.int .u64 (lsx 16 v), .int .i64 0]) ∧ Below W.heap.size W w' := by
  have hm := H.mem
  have hs := H.lt
  have HL : Hid (Calls Tryd.prog 75 #[.pointer (some ⟨mem, 0, none⟩), .int .u64 a, .int .i64 2] W fun e' w' => e' = .returned (.tuple #[.int .u64 v, .int .i64 0]) ∧ Below W.heap.size W w') := hl
  have hw : ∀ w, Calls Tryd.prog 74 #[.int .i64 16] w fun e w' => e = .returned (.int .i64 2) ∧ w' = w := width74 16 (by omega) (by omega)
  clear hl H
  go_enter Tryd.func61, Tryd.ntmps61
  go_wp2_with (first | (go_at_call 74; refine (hw _).mono ?_; rintro e w' ⟨rfl, rfl⟩) | (go_at_call 75; refine HL.out.mono ?_; rintro e w' ⟨rfl, hb⟩))
  go_ret2
  exact ⟨rfl, hb⟩
set_option maxHeartbeats 1000000 in
set_option maxRecDepth 20000 in
theorem load61_16f {W : World} {m mem : Nat} {s : Sx} {ov iv : Value} (H : Mch W m s ov mem iv) (a v : Int) (e : Int) (he : ¬ e = 0)
    (hl : Calls Tryd.prog 75 #[.pointer (some ⟨mem, 0, none⟩), .int .u64 a, .int .i64 2] W fun e' w' => e' = .returned (.tuple #[.int .u64 v, .int .i64 e]) ∧ Below W.heap.size W w') : Calls Tryd.prog 61 #[.pointer (some ⟨m, 0, none⟩), .int .i64 16, .int .u64 a] W fun e w' => e = .returned (.tuple #[.int .u64 0, .int .i64 32]) ∧ Below W.heap.size W w' := by
  have he1 : (e != 0) = true := by simpa using he
  have hm := H.mem
  have hs := H.lt
  have HL : Hid (Calls Tryd.prog 75 #[.pointer (some ⟨mem, 0, none⟩), .int .u64 a, .int .i64 2] W fun e' w' => e' = .returned (.tuple #[.int .u64 v, .int .i64 e]) ∧ Below W.heap.size W w') := hl
  have hw : ∀ w, Calls Tryd.prog 74 #[.int .i64 16] w fun e w' => e = .returned (.int .i64 2) ∧ w' = w := width74 16 (by omega) (by omega)
  clear hl H he
  go_enter Tryd.func61, Tryd.ntmps61
  go_wp2_with (first | (go_at_call 74; refine (hw _).mono ?_; rintro e w' ⟨rfl, rfl⟩) | (go_at_call 75; refine HL.out.mono ?_; rintro e w' ⟨rfl, hb⟩))
  go_ret2
  exact ⟨rfl, hb⟩
set_option maxHeartbeats 1000000 in
set_option maxRecDepth 20000 in
theorem load61_17 {W : World} {m mem : Nat} {s : Sx} {ov iv : Value} (H : Mch W m s ov mem iv) (a v : Int)
    (hl : Calls Tryd.prog 75 #[.pointer (some ⟨mem, 0, none⟩), .int .u64 a, .int .i64 4] W fun e' w' => e' = .returned (.tuple #[.int .u64 v, .int .i64 0]) ∧ Below W.heap.size W w') : Calls Tryd.prog 61 #[.pointer (some ⟨m, 0, none⟩), .int .i64 17, .int .u64 a] W fun e w' => e = .returned (.tuple #[.int .u64 (lsx 17 v), .int .i64 0]) ∧ Below W.heap.size W w' := by
  have hm := H.mem
  have hs := H.lt
  have HL : Hid (Calls Tryd.prog 75 #[.pointer (some ⟨mem, 0, none⟩), .int .u64 a, .int .i64 4] W fun e' w' => e' = .returned (.tuple #[.int .u64 v, .int .i64 0]) ∧ Below W.heap.size W w') := hl
  have hw : ∀ w, Calls Tryd.prog 74 #[.int .i64 17] w fun e w' => e = .returned (.int .i64 4) ∧ w' = w := width74 17 (by omega) (by omega)
  clear hl H
  go_enter Tryd.func61, Tryd.ntmps61
  go_wp2_with (first | (go_at_call 74; refine (hw _).mono ?_; rintro e w' ⟨rfl, rfl⟩) | (go_at_call 75; refine HL.out.mono ?_; rintro e w' ⟨rfl, hb⟩))
  go_ret2
  exact ⟨rfl, hb⟩
set_option maxHeartbeats 1000000 in
set_option maxRecDepth 20000 in
theorem load61_17f {W : World} {m mem : Nat} {s : Sx} {ov iv : Value} (H : Mch W m s ov mem iv) (a v : Int) (e : Int) (he : ¬ e = 0)
    (hl : Calls Tryd.prog 75 #[.pointer (some ⟨mem, 0, none⟩), .int .u64 a, .int .i64 4] W fun e' w' => e' = .returned (.tuple #[.int .u64 v, .int .i64 e]) ∧ Below W.heap.size W w') : Calls Tryd.prog 61 #[.pointer (some ⟨m, 0, none⟩), .int .i64 17, .int .u64 a] W fun e w' => e = .returned (.tuple #[.int .u64 0, .int .i64 32]) ∧ Below W.heap.size W w' := by
  have he1 : (e != 0) = true := by simpa using he
  have hm := H.mem
  have hs := H.lt
  have HL : Hid (Calls Tryd.prog 75 #[.pointer (some ⟨mem, 0, none⟩), .int .u64 a, .int .i64 4] W fun e' w' => e' = .returned (.tuple #[.int .u64 v, .int .i64 e]) ∧ Below W.heap.size W w') := hl
  have hw : ∀ w, Calls Tryd.prog 74 #[.int .i64 17] w fun e w' => e = .returned (.int .i64 4) ∧ w' = w := width74 17 (by omega) (by omega)
  clear hl H he
  go_enter Tryd.func61, Tryd.ntmps61
  go_wp2_with (first | (go_at_call 74; refine (hw _).mono ?_; rintro e w' ⟨rfl, rfl⟩) | (go_at_call 75; refine HL.out.mono ?_; rintro e w' ⟨rfl, hb⟩))
  go_ret2
  exact ⟨rfl, hb⟩
theorem load61 {W : World} {m mem : Nat} {s : Sx} {ov iv : Value} (H : Mch W m s ov mem iv) (op a v e : Int) (h1 : 11 ≤ op) (h2 : op ≤ 17) (hl : Calls Tryd.prog 75 #[.pointer (some ⟨mem, 0, none⟩), .int .u64 a, .int .i64 (wid op)] W fun e' w' => e' = .returned (.tuple #[.int .u64 v, .int .i64 e]) ∧ Below W.heap.size W w') : Calls Tryd.prog 61 #[.pointer (some ⟨m, 0, none⟩), .int .i64 op, .int .u64 a] W fun e' w' => e' = .returned (.tuple #[.int .u64 (if e = 0 then lsx op v else 0), .int .i64 (if e = 0 then 0 else 32)]) ∧ Below W.heap.size W w' := by
  by_cases he : e = 0
  · subst he
    simp only [if_true]
    rcases (by omega : op = 11 ∨ op = 12 ∨ op = 13 ∨ op = 14 ∨ op = 15 ∨ op = 16 ∨ op = 17) with rfl | rfl | rfl | rfl | rfl | rfl | rfl
    · exact load61_11 H a v hl
    · exact load61_12 H a v hl
    · exact load61_13 H a v hl
    · exact load61_14 H a v hl
    · exact load61_15 H a v hl
    · exact load61_16 H a v hl
    · exact load61_17 H a v hl
  · simp only [he, if_false]
    rcases (by omega : op = 11 ∨ op = 12 ∨ op = 13 ∨ op = 14 ∨ op = 15 ∨ op = 16 ∨ op = 17) with rfl | rfl | rfl | rfl | rfl | rfl | rfl
    · exact load61_11f H a v e he hl
    · exact load61_12f H a v e he hl
    · exact load61_13f H a v e he hl
    · exact load61_14f H a v e he hl
    · exact load61_15f H a v e he hl
    · exact load61_16f H a v e he hl
    · exact load61_17f H a v e he hl
end
section
open Go.RowKit Go.Shelf
set_option maxHeartbeats 1000000 in
set_option maxRecDepth 20000 in
theorem store62_18 {W : World} {m mem : Nat} {s : Sx} {ov iv : Value} {T : World → Prop} (H : Mch W m s ov mem iv) (a v : Int) (hT : ∀ w, T w → w.cell? ⟨m, 39, none⟩ = some (.pointer (some ⟨mem, 0, none⟩)))
    (hl : ∀ w, Below W.heap.size W w → Calls Tryd.prog 76 #[.pointer (some ⟨mem, 0, none⟩), .int .u64 a, .int .i64 1, .int .u64 v] w fun e' w' => e' = .returned (.int .i64 0) ∧ T w') : Calls Tryd.prog 62 #[.pointer (some ⟨m, 0, none⟩), .int .i64 18, .int .u64 a, .int .u64 v] W fun e w' => e = .returned (.int .i64 0) ∧ T w' := by
  have hm := H.mem
  have hs := H.lt
  have HL : Hid (∀ w, Below W.heap.size W w → Calls Tryd.prog 76 #[.pointer (some ⟨mem, 0, none⟩), .int .u64 a, .int .i64 1, .int .u64 v] w fun e' w' => e' = .returned (.int .i64 0) ∧ T w') := hl
  have HC : Hid (∀ w, T w → w.cell? ⟨m, 39, none⟩ = some (.pointer (some ⟨mem, 0, none⟩))) := hT
  have hw : ∀ w, Calls Tryd.prog 74 #[.int .i64 18] w fun e w' => e = .returned (.int .i64 1) ∧ w' = w := width74 18 (by omega) (by omega)
  clear hl H hT
  go_enter Tryd.func62, Tryd.ntmps62
  go_wp2
  go_region_held3 (fun w' => w'.cell? ⟨m, 39, none⟩ = some (.pointer (some ⟨mem, 0, none⟩))) (go_keep)
    (first | (go_at_call 74; refine (hw _).mono ?_; rintro e w' ⟨rfl, rfl⟩) | (go_at_call 76; refine (HL.out W.drew (Below.refl _ _).drew).mono ?_; rintro e w' ⟨rfl, hb⟩; have _g0 := HC.out _ hb; have HT : Hid (T w') := hb; clear hb))
  go_wp2
  go_ret
  exact ⟨rfl, HT.out⟩
set_option maxHeartbeats 1000000 in
set_option maxRecDepth 20000 in
theorem store62_18f {W : World} {m mem : Nat} {s : Sx} {ov iv : Value} {T : World → Prop} (H : Mch W m s ov mem iv) (a v : Int) (e : Int) (he : ¬ e = 0) (hT : ∀ w, T w → w.cell? ⟨m, 39, none⟩ = some (.pointer (some ⟨mem, 0, none⟩)))
    (hl : ∀ w, Below W.heap.size W w → Calls Tryd.prog 76 #[.pointer (some ⟨mem, 0, none⟩), .int .u64 a, .int .i64 1, .int .u64 v] w fun e' w' => e' = .returned (.int .i64 e) ∧ T w') : Calls Tryd.prog 62 #[.pointer (some ⟨m, 0, none⟩), .int .i64 18, .int .u64 a, .int .u64 v] W fun e w' => e = .returned (.int .i64 33) ∧ T w' := by
  have he1 : (e != 0) = true := by simpa using he
  have hm := H.mem
  have hs := H.lt
  have HL : Hid (∀ w, Below W.heap.size W w → Calls Tryd.prog 76 #[.pointer (some ⟨mem, 0, none⟩), .int .u64 a, .int .i64 1, .int .u64 v] w fun e' w' => e' = .returned (.int .i64 e) ∧ T w') := hl
  have HC : Hid (∀ w, T w → w.cell? ⟨m, 39, none⟩ = some (.pointer (some ⟨mem, 0, none⟩))) := hT
  have hw : ∀ w, Calls Tryd.prog 74 #[.int .i64 18] w fun e w' => e = .returned (.int .i64 1) ∧ w' = w := width74 18 (by omega) (by omega)
  clear hl H hT he
  go_enter Tryd.func62, Tryd.ntmps62
  go_wp2
  go_region_held3 (fun w' => w'.cell? ⟨m, 39, none⟩ = some (.pointer (some ⟨mem, 0, none⟩))) (go_keep)
    (first | (go_at_call 74; refine (hw _).mono ?_; rintro e w' ⟨rfl, rfl⟩) | (go_at_call 76; refine (HL.out W.drew (Below.refl _ _).drew).mono ?_; rintro e w' ⟨rfl, hb⟩; have _g0 := HC.out _ hb; have HT : Hid (T w') := hb; clear hb))
  go_wp2
  go_ret
  exact ⟨rfl, HT.out⟩
set_option maxHeartbeats 1000000 in
set_option maxRecDepth 20000 in
theorem store62_19 {W : World} {m mem : Nat} {s : Sx} {ov iv : Value} {T : World → Prop} (H : Mch W m s ov mem iv) (a v : Int) (hT : ∀ w, T w → w.cell? ⟨m, 39, none⟩ = some (.pointer (some ⟨mem, 0, none⟩)))
    (hl : ∀ w, Below W.heap.size W w → Calls Tryd.prog 76 #[.pointer (some ⟨mem, 0, none⟩), .int .u64 a, .int .i64 2, .int .u64 v] w fun e' w' => e' = .returned (.int .i64 0) ∧ T w') : Calls Tryd.prog 62 #[.pointer (some ⟨m, 0, none⟩), .int .i64 19, .int .u64 a, .int .u64 v] W fun e w' => e = .returned (.int .i64 0) ∧ T w' := by
  have hm := H.mem
  have hs := H.lt
  have HL : Hid (∀ w, Below W.heap.size W w → Calls Tryd.prog 76 #[.pointer (some ⟨mem, 0, none⟩), .int .u64 a, .int .i64 2, .int .u64 v] w fun e' w' => e' = .returned (.int .i64 0) ∧ T w') := hl
  have HC : Hid (∀ w, T w → w.cell? ⟨m, 39, none⟩ = some (.pointer (some ⟨mem, 0, none⟩))) := hT
  have hw : ∀ w, Calls Tryd.prog 74 #[.int .i64 19] w fun e w' => e = .returned (.int .i64 2) ∧ w' = w := width74 19 (by omega) (by omega)
  clear hl H hT
  go_enter Tryd.func62, Tryd.ntmps62
  go_wp2
  go_region_held3 (fun w' => w'.cell? ⟨m, 39, none⟩ = some (.pointer (some ⟨mem, 0, none⟩))) (go_keep)
    (first | (go_at_call 74; refine (hw _).mono ?_; rintro e w' ⟨rfl, rfl⟩) | (go_at_call 76; refine (HL.out W.drew (Below.refl _ _).drew).mono ?_; rintro e w' ⟨rfl, hb⟩; have _g0 := HC.out _ hb; have HT : Hid (T w') := hb; clear hb))
  go_wp2
  go_ret
  exact ⟨rfl, HT.out⟩
set_option maxHeartbeats 1000000 in
set_option maxRecDepth 20000 in
theorem store62_19f {W : World} {m mem : Nat} {s : Sx} {ov iv : Value} {T : World → Prop} (H : Mch W m s ov mem iv) (a v : Int) (e : Int) (he : ¬ e = 0) (hT : ∀ w, T w → w.cell? ⟨m, 39, none⟩ = some (.pointer (some ⟨mem, 0, none⟩)))
    (hl : ∀ w, Below W.heap.size W w → Calls Tryd.prog 76 #[.pointer (some ⟨mem, 0, none⟩), .int .u64 a, .int .i64 2, .int .u64 v] w fun e' w' => e' = .returned (.int .i64 e) ∧ T w') : Calls Tryd.prog 62 #[.pointer (some ⟨m, 0, none⟩), .int .i64 19, .int .u64 a, .int .u64 v] W fun e w' => e = .returned (.int .i64 33) ∧ T w' := by
  have he1 : (e != 0) = true := by simpa using he
  have hm := H.mem
  have hs := H.lt
  have HL : Hid (∀ w, Below W.heap.size W w → Calls Tryd.prog 76 #[.pointer (some ⟨mem, 0, none⟩), .int .u64 a, .int .i64 2, .int .u64 v] w fun e' w' => e' = .returned (.int .i64 e) ∧ T w') := hl
  have HC : Hid (∀ w, T w → w.cell? ⟨m, 39, none⟩ = some (.pointer (some ⟨mem, 0, none⟩))) := hT
  have hw : ∀ w, Calls Tryd.prog 74 #[.int .i64 19] w fun e w' => e = .returned (.int .i64 2) ∧ w' = w := width74 19 (by omega) (by omega)
  clear hl H hT he
  go_enter Tryd.func62, Tryd.ntmps62
  go_wp2
  go_region_held3 (fun w' => w'.cell? ⟨m, 39, none⟩ = some (.pointer (some ⟨mem, 0, none⟩))) (go_keep)
    (first | (go_at_call 74; refine (hw _).mono ?_; rintro e w' ⟨rfl, rfl⟩) | (go_at_call 76; refine (HL.out W.drew (Below.refl _ _).drew).mono ?_; rintro e w' ⟨rfl, hb⟩; have _g0 := HC.out _ hb; have HT : Hid (T w') := hb; clear hb))
  go_wp2
  go_ret
  exact ⟨rfl, HT.out⟩
set_option maxHeartbeats 1000000 in
set_option maxRecDepth 20000 in
theorem store62_20 {W : World} {m mem : Nat} {s : Sx} {ov iv : Value} {T : World → Prop} (H : Mch W m s ov mem iv) (a v : Int) (hT : ∀ w, T w → w.cell? ⟨m, 39, none⟩ = some (.pointer (some ⟨mem, 0, none⟩)))
    (hl : ∀ w, Below W.heap.size W w → Calls Tryd.prog 76 #[.pointer (some ⟨mem, 0, none⟩), .int .u64 a, .int .i64 4, .int .u64 v] w fun e' w' => e' = .returned (.int .i64 0) ∧ T w') : Calls Tryd.prog 62 #[.pointer (some ⟨m, 0, none⟩), .int .i64 20, .int .u64 a, .int .u64 v] W fun e w' => e = .returned (.int .i64 0) ∧ T w' := by
  have hm := H.mem
  have hs := H.lt
  have HL : Hid (∀ w, Below W.heap.size W w → Calls Tryd.prog 76 #[.pointer (some ⟨mem, 0, none⟩), .int .u64 a, .int .i64 4, .int .u64 v] w fun e' w' => e' = .returned (.int .i64 0) ∧ T w') := hl
  have HC : Hid (∀ w, T w → w.cell? ⟨m, 39, none⟩ = some (.pointer (some ⟨mem, 0, none⟩))) := hT
  have hw : ∀ w, Calls Tryd.prog 74 #[.int .i64 20] w fun e w' => e = .returned (.int .i64 4) ∧ w' = w := width74 20 (by omega) (by omega)
  clear hl H hT
  go_enter Tryd.func62, Tryd.ntmps62
  go_wp2
  go_region_held3 (fun w' => w'.cell? ⟨m, 39, none⟩ = some (.pointer (some ⟨mem, 0, none⟩))) (go_keep)
    (first | (go_at_call 74; refine (hw _).mono ?_; rintro e w' ⟨rfl, rfl⟩) | (go_at_call 76; refine (HL.out W.drew (Below.refl _ _).drew).mono ?_; rintro e w' ⟨rfl, hb⟩; have _g0 := HC.out _ hb; have HT : Hid (T w') := hb; clear hb))
  go_wp2
  go_ret
  exact ⟨rfl, HT.out⟩
set_option maxHeartbeats 1000000 in
set_option maxRecDepth 20000 in
theorem store62_20f {W : World} {m mem : Nat} {s : Sx} {ov iv : Value} {T : World → Prop} (H : Mch W m s ov mem iv) (a v : Int) (e : Int) (he : ¬ e = 0) (hT : ∀ w, T w → w.cell? ⟨m, 39, none⟩ = some (.pointer (some ⟨mem, 0, none⟩)))
    (hl : ∀ w, Below W.heap.size W w → Calls Tryd.prog 76 #[.pointer (some ⟨mem, 0, none⟩), .int .u64 a, .int .i64 4, .int .u64 v] w fun e' w' => e' = .returned (.int .i64 e) ∧ T w') : Calls Tryd.prog 62 #[.pointer (some ⟨m, 0, none⟩), .int .i64 20, .int .u64 a, .int .u64 v] W fun e w' => e = .returned (.int .i64 33) ∧ T w' := by
  have he1 : (e != 0) = true := by simpa using he
  have hm := H.mem
  have hs := H.lt
  have HL : Hid (∀ w, Below W.heap.size W w → Calls Tryd.prog 76 #[.pointer (some ⟨mem, 0, none⟩), .int .u64 a, .int .i64 4, .int .u64 v] w fun e' w' => e' = .returned (.int .i64 e) ∧ T w') := hl
  have HC : Hid (∀ w, T w → w.cell? ⟨m, 39, none⟩ = some (.pointer (some ⟨mem, 0, none⟩))) := hT
  have hw : ∀ w, Calls Tryd.prog 74 #[.int .i64 20] w fun e w' => e = .returned (.int .i64 4) ∧ w' = w := width74 20 (by omega) (by omega)
  clear hl H hT he
  go_enter Tryd.func62, Tryd.ntmps62
  go_wp2
  go_region_held3 (fun w' => w'.cell? ⟨m, 39, none⟩ = some (.pointer (some ⟨mem, 0, none⟩))) (go_keep)
    (first | (go_at_call 74; refine (hw _).mono ?_; rintro e w' ⟨rfl, rfl⟩) | (go_at_call 76; refine (HL.out W.drew (Below.refl _ _).drew).mono ?_; rintro e w' ⟨rfl, hb⟩; have _g0 := HC.out _ hb; have HT : Hid (T w') := hb; clear hb))
  go_wp2
  go_ret
  exact ⟨rfl, HT.out⟩
set_option maxHeartbeats 1000000 in
set_option maxRecDepth 20000 in
theorem store62_21 {W : World} {m mem : Nat} {s : Sx} {ov iv : Value} {T : World → Prop} (H : Mch W m s ov mem iv) (a v : Int) (hT : ∀ w, T w → w.cell? ⟨m, 39, none⟩ = some (.pointer (some ⟨mem, 0, none⟩)))
    (hl : ∀ w, Below W.heap.size W w → Calls Tryd.prog 76 #[.pointer (some ⟨mem, 0, none⟩), .int .u64 a, .int .i64 8, .int .u64 v] w fun e' w' => e' = .returned (.int .i64 0) ∧ T w') : Calls Tryd.prog 62 #[.pointer (some ⟨m, 0, none⟩), .int .i64 21, .int .u64 a, .int .u64 v] W fun e w' => e = .returned (.int .i64 0) ∧ T w' := by
  have hm := H.mem
  have hs := H.lt
  have HL : Hid (∀ w, Below W.heap.size W w → Calls Tryd.prog 76 #[.pointer (some ⟨mem, 0, none⟩), .int .u64 a, .int .i64 8, .int .u64 v] w fun e' w' => e' = .returned (.int .i64 0) ∧ T w') := hl
  have HC : Hid (∀ w, T w → w.cell? ⟨m, 39, none⟩ = some (.pointer (some ⟨mem, 0, none⟩))) := hT
  have hw : ∀ w, Calls Tryd.prog 74 #[.int .i64 21] w fun e w' => e = .returned (.int .i64 8) ∧ w' = w := width74 21 (by omega) (by omega)
  clear hl H hT
  go_enter Tryd.func62, Tryd.ntmps62
  go_wp2
  go_region_held3 (fun w' => w'.cell? ⟨m, 39, none⟩ = some (.pointer (some ⟨mem, 0, none⟩))) (go_keep)
    (first | (go_at_call 74; refine (hw _).mono ?_; rintro e w' ⟨rfl, rfl⟩) | (go_at_call 76; refine (HL.out W.drew (Below.refl _ _).drew).mono ?_; rintro e w' ⟨rfl, hb⟩; have _g0 := HC.out _ hb; have HT : Hid (T w') := hb; clear hb))
  go_wp2
  go_ret
  exact ⟨rfl, HT.out⟩
set_option maxHeartbeats 1000000 in
set_option maxRecDepth 20000 in
theorem store62_21f {W : World} {m mem : Nat} {s : Sx} {ov iv : Value} {T : World → Prop} (H : Mch W m s ov mem iv) (a v : Int) (e : Int) (he : ¬ e = 0) (hT : ∀ w, T w → w.cell? ⟨m, 39, none⟩ = some (.pointer (some ⟨mem, 0, none⟩)))
    (hl : ∀ w, Below W.heap.size W w → Calls Tryd.prog 76 #[.pointer (some ⟨mem, 0, none⟩), .int .u64 a, .int .i64 8, .int .u64 v] w fun e' w' => e' = .returned (.int .i64 e) ∧ T w') : Calls Tryd.prog 62 #[.pointer (some ⟨m, 0, none⟩), .int .i64 21, .int .u64 a, .int .u64 v] W fun e w' => e = .returned (.int .i64 33) ∧ T w' := by
  have he1 : (e != 0) = true := by simpa using he
  have hm := H.mem
  have hs := H.lt
  have HL : Hid (∀ w, Below W.heap.size W w → Calls Tryd.prog 76 #[.pointer (some ⟨mem, 0, none⟩), .int .u64 a, .int .i64 8, .int .u64 v] w fun e' w' => e' = .returned (.int .i64 e) ∧ T w') := hl
  have HC : Hid (∀ w, T w → w.cell? ⟨m, 39, none⟩ = some (.pointer (some ⟨mem, 0, none⟩))) := hT
  have hw : ∀ w, Calls Tryd.prog 74 #[.int .i64 21] w fun e w' => e = .returned (.int .i64 8) ∧ w' = w := width74 21 (by omega) (by omega)
  clear hl H hT he
  go_enter Tryd.func62, Tryd.ntmps62
  go_wp2
  go_region_held3 (fun w' => w'.cell? ⟨m, 39, none⟩ = some (.pointer (some ⟨mem, 0, none⟩))) (go_keep)
    (first | (go_at_call 74; refine (hw _).mono ?_; rintro e w' ⟨rfl, rfl⟩) | (go_at_call 76; refine (HL.out W.drew (Below.refl _ _).drew).mono ?_; rintro e w' ⟨rfl, hb⟩; have _g0 := HC.out _ hb; have HT : Hid (T w') := hb; clear hb))
  go_wp2
  go_ret
  exact ⟨rfl, HT.out⟩
theorem store62 {W : World} {m mem : Nat} {s : Sx} {ov iv : Value} {T : World → Prop} (H : Mch W m s ov mem iv) (op a v e : Int) (h1 : 18 ≤ op) (h2 : op ≤ 21) (hT : ∀ w, T w → w.cell? ⟨m, 39, none⟩ = some (.pointer (some ⟨mem, 0, none⟩))) (hl : ∀ w, Below W.heap.size W w → Calls Tryd.prog 76 #[.pointer (some ⟨mem, 0, none⟩), .int .u64 a, .int .i64 (wid op), .int .u64 v] w fun e' w' => e' = .returned (.int .i64 e) ∧ T w') : Calls Tryd.prog 62 #[.pointer (some ⟨m, 0, none⟩), .int .i64 op, .int .u64 a, .int .u64 v] W fun e' w' => e' = .returned (.int .i64 (if e = 0 then 0 else 33)) ∧ T w' := by
  by_cases he : e = 0
  · subst he
    simp only [if_true]
    rcases (by omega : op = 18 ∨ op = 19 ∨ op = 20 ∨ op = 21) with rfl | rfl | rfl | rfl
    · exact store62_18 H a v hT hl
    · exact store62_19 H a v hT hl
    · exact store62_20 H a v hT hl
    · exact store62_21 H a v hT hl
  · simp only [he, if_false]
    rcases (by omega : op = 18 ∨ op = 19 ∨ op = 20 ∨ op = 21) with rfl | rfl | rfl | rfl
    · exact store62_18f H a v e he hT hl
    · exact store62_19f H a v e he hT hl
    · exact store62_20f H a v e he hT hl
    · exact store62_21f H a v e he hT hl
end
end Go.Proofs.YtnmpbihpoefeoaaDoor
