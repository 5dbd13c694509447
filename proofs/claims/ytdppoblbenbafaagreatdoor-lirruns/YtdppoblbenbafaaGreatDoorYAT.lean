/- A block of the heap is asked for, in whatever run. The runtime's print, called. The runtime's functions, called. One step: the runtime's functions. One step: what is printed, read, asked for. -/
import Derived.Test.YtdppoblbenbafaaGreatDoorYAD
import Derived.Deep.RegionHeld3
import Derived.Test.YtdppoblbenbafaaGreatDoorYAO
import Derived.Test.YtdppoblbenbafaaGreatDoorYAS
namespace Go.Proofs.YtdppoblbenbafaaGreatDoor
section
open Go.RowKit Go.Shelf
set_option maxHeartbeats 2000000
theorem alloc_bad (R : Nat) (n : Int) (r : Rs) (w : World) (hR : Rb w R r) (h0 : 0 ≤ r.hp) (h1 : r.hp ≤ 1000000) (hb : n < 0 ∨ 64 < n ∨ 8192 < r.hp + n) : Calls Tryz.prog 135 #[.pointer (some ⟨R, 0, none⟩), .int .i64 n] w fun e w' => e = .returned (.int .i64 0) ∧ ∃ k, w' = ((w.setCell ⟨R, 9, none⟩ (.int .i64 1)).setCell ⟨R, 10, none⟩ (.int .i64 110)).drewN k := by
  have r7 := hR.cell (j := 7) rfl
  have hE : ∀ k, Hid (Calls Tryz.prog 71 #[.pointer (some ⟨R, 0, none⟩), .int .i64 1, .int .i64 110] (w.drewN k) fun e w' => e = .returned (.tuple #[]) ∧ w' = ((w.drewN k).setCell ⟨R, 9, none⟩ (.int .i64 1)).setCell ⟨R, 10, none⟩ (.int .i64 110)) := fun k => end36 R 1 110 (rsC r) _ (hR.drewN k).cl rfl
  clear hR
  by_cases hn : n < 0
  · go_enter Tryz.func135, Tryz.ntmps135
    go_wp2_with (first | (go_at_call 71; refine (hE 0).out.mono ?_; rintro e w' ⟨rfl, rfl⟩))
    go_ret
    exact ⟨rfl, 0, rfl⟩
  · by_cases hm : 64 < n
    · go_enter Tryz.func135, Tryz.ntmps135
      go_wp2_with (first | (go_at_call 71; refine (hE 0).out.mono ?_; rintro e w' ⟨rfl, rfl⟩))
      go_ret
      exact ⟨rfl, 0, rfl⟩
    · have hq : 8192 < r.hp + n := by omega
      have e1 : IntKind.i64.wrap n = n := wrapI _ (by omega) (by omega)
      have e2 : IntKind.i64.wrap (r.hp + n) = r.hp + n := wrapI _ (by omega) (by omega)
      go_enter Tryz.func135, Tryz.ntmps135
      go_wp2_with (first | (go_at_call 71; refine (hE 0).out.mono ?_; rintro e w' ⟨rfl, rfl⟩))
      go_ret
      exact ⟨rfl, 0, rfl⟩
theorem alloc_ok (R B np n : Nat) (r : Rs) (px : List Value) (w : World) (hR : Rb w R r) (hP : w.ownsRow B 174 3 r.pv np px) (hB : B ≤ w.heap.size) (hnp : np ≤ 1000000) (n0 : 0 ≤ r.nx) (n1 : r.nx ≤ 1099511627776) (h0 : 0 ≤ r.hp) (hn : n ≤ 64) (hq : r.hp + n ≤ 8192) : Calls Tryz.prog 135 #[.pointer (some ⟨R, 0, none⟩), .int .i64 n] w fun e w' => e = .returned (.int .i64 r.nx) ∧ ∃ g pv, Onl (fun b => b = R ∨ r.pv.ownBlock = some b) w w' ∧ Rb w' R { r with pv := pv, hp := r.hp + n, nx := r.nx + 8 * ((n : Int) + 1) } ∧ w'.ownsRow B 174 3 pv (np + 1) (px ++ [.int .i64 2, .int .i64 r.nx, .slice (some ⟨g, 0, none⟩) n n]) ∧ Bk w' g 2 (List.replicate n (.int .i64 0)) ∧ w.heap.size ≤ g := by
  have r7 := hR.cell (j := 7) rfl
  have z7 := hR.fz 7
  have HG : Hid (Calls Tryz.prog 97 #[.pointer (some ⟨R, 4, none⟩), .int .i64 2, .int .i64 n] (w.setCell ⟨R, 7, none⟩ (.int .i64 (r.hp + n))) fun e w' => e = .returned (.int .i64 r.nx) ∧ ∃ g pv, Onl (fun b => b = R ∨ r.pv.ownBlock = some b) (w.setCell ⟨R, 7, none⟩ (.int .i64 (r.hp + n))) w' ∧ Rb w' R { r with hp := r.hp + n, pv := pv, nx := r.nx + 8 * ((n : Int) + 1) } ∧ w'.ownsRow B 174 3 pv (np + 1) (px ++ [.int .i64 2, .int .i64 r.nx, .slice (some ⟨g, 0, none⟩) n n]) ∧ Bk w' g 2 (List.replicate n (.int .i64 0)) ∧ (w.setCell ⟨R, 7, none⟩ (.int .i64 (r.hp + n))).heap.size ≤ g) := begin40g R B np n 2 { r with hp := r.hp + n } px _ (hR.set 7 _) (own_set hP (own_ne hP hR (by decide))) (by simpa using hB) (by omega) hnp n0 n1
  have e1 : IntKind.i64.wrap (n : Int) = (n : Int) := wrapI _ (by omega) (by omega)
  have e2 : IntKind.i64.wrap (r.hp + n) = r.hp + n := wrapI _ (by omega) (by omega)
  have q1 : ¬ ((n : Int) < 0) := by omega
  have q2 : ¬ (64 < (n : Int)) := by omega
  have q3 : ¬ (8192 < r.hp + (n : Int)) := by omega
  clear hR hP hB hnp n0 n1 h0 hn hq
  go_enter Tryz.func135, Tryz.ntmps135
  go_wp2_with (first | (go_at_call 97; refine HG.out.mono ?_; rintro e w' ⟨rfl, g, pv, ho, hr, hp, hq, hge⟩))
  go_ret
  exact ⟨rfl, g, pv, ((Onl.of_below (Below.refl _ w)).set (S := fun b => b = R ∨ r.pv.ownBlock = some b) (b := R) (.inl rfl)).trans ho, hr, hp, hq, by simpa using hge⟩
end
section
open Go.RowKit Go.Shelf
theorem make1 (w : World) : (Instr.makeSlice 107 (.int .i64 1) (.int .i64 1)).run Tryz.prog w = .ok (.slice (some ⟨w.heap.size, 0, none⟩) 1 1) (w.alloc (.cells #[.int .i64 0] 2)) := by kernel_rfl
end
section
open Go.RowKit Go.Shelf
set_option maxRecDepth 20000
set_option maxHeartbeats 2000000
theorem call_read (R C ca n x o ac : Nat) (ar : Option Addr) (d v : Int) (T Q : World → Prop) (w : World) (h3 : w.cell? ⟨R, 3, none⟩ = some (.slice (some ⟨C, 0, none⟩) (n + 1) ca)) (hn : n < 1000000) (i1 : w.cell? ⟨x, o + 1, none⟩ = some (.int .i64 d)) (i5 : w.cell? ⟨x, o + 5, none⟩ = some (.string ⟨#[114, 116, 46, 114, 101, 97, 100]⟩)) (i6 : w.cell? ⟨x, o + 6, none⟩ = some (.slice ar 0 ac)) (hop : ∀ W, Below w.heap.size w W → Calls Tryz.prog 134 #[.pointer (some ⟨R, 0, none⟩)] W fun e w' => e = .returned (.int .i64 v) ∧ w'.cell? ⟨x, o + 1, none⟩ = some (.int .i64 d) ∧ T w') (han : ∀ W, T W → Calls Tryz.prog 132 #[.pointer (some ⟨R, 0, none⟩), .int .i64 d, .int .i64 v] W fun e w' => e = .returned (.tuple #[]) ∧ Q w') : Calls Tryz.prog 101 #[.pointer (some ⟨R, 0, none⟩), .pointer (some ⟨x, o, none⟩)] w fun e w' => e = .returned (.tuple #[]) ∧ Q w' := by
  have hI : Hid (Calls Tryz.prog 98 #[.pointer (some ⟨R, 0, none⟩)] w fun e w' => e = .returned (.pointer (some ⟨C, n * 7, none⟩)) ∧ ∃ k, w' = w.drewN k) := innermost41g R C ca n w h3 hn
  have HOp : Hid (∀ W, Below w.heap.size w W → Calls Tryz.prog 134 #[.pointer (some ⟨R, 0, none⟩)] W fun e w' => e = .returned (.int .i64 v) ∧ w'.cell? ⟨x, o + 1, none⟩ = some (.int .i64 d) ∧ T w') := hop
  have HAn : Hid (∀ W, T W → Calls Tryz.prog 132 #[.pointer (some ⟨R, 0, none⟩), .int .i64 d, .int .i64 v] W fun e w' => e = .returned (.tuple #[]) ∧ Q w') := han
  have li1 := World.block_lt_of_cell? _ _ i1
  have li5 := World.block_lt_of_cell? _ _ i5
  have li6 := World.block_lt_of_cell? _ _ i6
  clear hop han h3
  go_enter Tryz.func101, Tryz.ntmps101
  go_wp2_with fail
  refine hI.out.mono ?_
  rintro e w1 ⟨rfl, n1, hw1⟩
  have HB1 : Hid (Below w.heap.size w w1) := by show Below _ _ _; rw [hw1]; exact below_drewN (Below.refl _ _) n1
  have ki1 := dcell i1 n1
  have ki5 := dcell i5 n1
  have ki6 := dcell i6 n1
  rw [← hw1] at ki1 ki5 ki6
  have hsz : w1.heap.size = w.heap.size := by rw [hw1]; rfl
  have fi1 := acell (World.block_lt_of_cell? _ _ ki1) ki1
  have fi5 := acell (World.block_lt_of_cell? _ _ ki5) ki5
  have fi6 := acell (World.block_lt_of_cell? _ _ ki6) ki6
  have mk := make0 w1
  have gx : ¬ x = w1.heap.size := by have := World.block_lt_of_cell? _ _ ki1; exact Nat.ne_of_lt this
  have gx' : ¬ w1.heap.size = x := fun e => gx e.symm
  clear hw1 hsz i1 i5 i6 li1 li5 li6
  go_wp2
  refine wp_loop_rounds 1 ?_
  rw [rounds_succ]
  go_wp2
  go_region_with (first | (go_at_call 134; refine (HOp.out _ (by first | exact (HB1.out.alloc HB1.out.size _).drew | exact (HB1.out.alloc HB1.out.size _))).mono ?_; rintro e w3 ⟨rfl, dx, hT⟩; have HT : Hid (T w3) := hT; clear hT) | (go_at_call 132; refine (HAn.out _ HT.out).mono ?_; rintro e w5 ⟨rfl, hq⟩))
  all_goals (
    go_wp2
    go_returns
    exact ⟨rfl, hq⟩)
theorem call_print (R C ca n x o ac : Nat) (m rc q z zo a : Nat) (va : Int) (d v : Int) (T Q : World → Prop) (w : World) (h3 : w.cell? ⟨R, 3, none⟩ = some (.slice (some ⟨C, 0, none⟩) (n + 1) ca)) (hn : n < 1000000) (c1 : w.cell? ⟨C, n * 7 + 1, none⟩ = some (.slice (some ⟨q, 0, none⟩) m rc)) (ha : a < m) (qa : w.cell? ⟨q, a, none⟩ = some (.int .i64 va)) (az : w.cell? ⟨z, zo, none⟩ = some (.int .i64 a)) (i1 : w.cell? ⟨x, o + 1, none⟩ = some (.int .i64 d)) (i5 : w.cell? ⟨x, o + 5, none⟩ = some (.string ⟨#[114, 116, 46, 112, 114, 105, 110, 116]⟩)) (i6 : w.cell? ⟨x, o + 6, none⟩ = some (.slice (some ⟨z, zo, none⟩) 1 ac)) (hop : ∀ W, Below w.heap.size w W → Calls Tryz.prog 133 #[.pointer (some ⟨R, 0, none⟩), .int .i64 va] W fun e w' => e = .returned (.int .i64 v) ∧ w'.cell? ⟨x, o + 1, none⟩ = some (.int .i64 d) ∧ T w') (han : ∀ W, T W → Calls Tryz.prog 132 #[.pointer (some ⟨R, 0, none⟩), .int .i64 d, .int .i64 v] W fun e w' => e = .returned (.tuple #[]) ∧ Q w') : Calls Tryz.prog 101 #[.pointer (some ⟨R, 0, none⟩), .pointer (some ⟨x, o, none⟩)] w fun e w' => e = .returned (.tuple #[]) ∧ Q w' := by
  have hI : Hid (Calls Tryz.prog 98 #[.pointer (some ⟨R, 0, none⟩)] w fun e w' => e = .returned (.pointer (some ⟨C, n * 7, none⟩)) ∧ ∃ k, w' = w.drewN k) := innermost41g R C ca n w h3 hn
  have HOp : Hid (∀ W, Below w.heap.size w W → Calls Tryz.prog 133 #[.pointer (some ⟨R, 0, none⟩), .int .i64 va] W fun e w' => e = .returned (.int .i64 v) ∧ w'.cell? ⟨x, o + 1, none⟩ = some (.int .i64 d) ∧ T w') := hop
  have HAn : Hid (∀ W, T W → Calls Tryz.prog 132 #[.pointer (some ⟨R, 0, none⟩), .int .i64 d, .int .i64 v] W fun e w' => e = .returned (.tuple #[]) ∧ Q w') := han
  have li1 := World.block_lt_of_cell? _ _ i1
  have li5 := World.block_lt_of_cell? _ _ i5
  have li6 := World.block_lt_of_cell? _ _ i6
  have lc1 := World.block_lt_of_cell? _ _ c1
  have lqa := World.block_lt_of_cell? _ _ qa
  have laz := World.block_lt_of_cell? _ _ az
  clear hop han h3
  go_enter Tryz.func101, Tryz.ntmps101
  go_wp2_with fail
  refine hI.out.mono ?_
  rintro e w1 ⟨rfl, n1, hw1⟩
  have HB1 : Hid (Below w.heap.size w w1) := by show Below _ _ _; rw [hw1]; exact below_drewN (Below.refl _ _) n1
  have ki1 := dcell i1 n1
  have ki5 := dcell i5 n1
  have ki6 := dcell i6 n1
  have kc1 := dcell c1 n1
  have kqa := dcell qa n1
  have kaz := dcell az n1
  rw [← hw1] at ki1 ki5 ki6 kc1 kqa kaz
  have hsz : w1.heap.size = w.heap.size := by rw [hw1]; rfl
  have fi1 := acell (World.block_lt_of_cell? _ _ ki1) ki1
  have fi5 := acell (World.block_lt_of_cell? _ _ ki5) ki5
  have fi6 := acell (World.block_lt_of_cell? _ _ ki6) ki6
  have fc1 := acell (World.block_lt_of_cell? _ _ kc1) kc1
  have fqa := acell (World.block_lt_of_cell? _ _ kqa) kqa
  have faz := acell (World.block_lt_of_cell? _ _ kaz) kaz
  have mk := make1 w1
  have gC : ¬ C = w1.heap.size := by have := World.block_lt_of_cell? _ _ kc1; exact Nat.ne_of_lt this
  have gC' : ¬ w1.heap.size = C := fun e => gC e.symm
  have gq : ¬ q = w1.heap.size := by have := World.block_lt_of_cell? _ _ kqa; exact Nat.ne_of_lt this
  have gq' : ¬ w1.heap.size = q := fun e => gq e.symm
  have gx : ¬ x = w1.heap.size := by have := World.block_lt_of_cell? _ _ ki1; exact Nat.ne_of_lt this
  have gx' : ¬ w1.heap.size = x := fun e => gx e.symm
  have gz : ¬ z = w1.heap.size := by have := World.block_lt_of_cell? _ _ kaz; exact Nat.ne_of_lt this
  have gz' : ¬ w1.heap.size = z := fun e => gz e.symm
  clear hw1 hsz i1 i5 i6 c1 qa az li1 li5 li6 lc1 lqa laz
  go_wp2
  refine wp_loop_rounds 2 ?_
  rw [rounds_succ]
  go_wp2
  rw [rounds_succ]
  go_wp2
  go_region_with (first | (go_at_call 133; refine (HOp.out _ (by first | exact (HB1.out.alloc HB1.out.size _).drew | exact (HB1.out.alloc HB1.out.size _))).mono ?_; rintro e w3 ⟨rfl, dx, hT⟩; have HT : Hid (T w3) := hT; clear hT) | (go_at_call 132; refine (HAn.out _ HT.out).mono ?_; rintro e w5 ⟨rfl, hq⟩))
  all_goals (
    go_wp2
    go_returns
    exact ⟨rfl, hq⟩)
theorem call_alloc (R C ca n x o ac : Nat) (m rc q z zo a : Nat) (va : Int) (d v : Int) (T Q : World → Prop) (w : World) (h3 : w.cell? ⟨R, 3, none⟩ = some (.slice (some ⟨C, 0, none⟩) (n + 1) ca)) (hn : n < 1000000) (c1 : w.cell? ⟨C, n * 7 + 1, none⟩ = some (.slice (some ⟨q, 0, none⟩) m rc)) (ha : a < m) (qa : w.cell? ⟨q, a, none⟩ = some (.int .i64 va)) (az : w.cell? ⟨z, zo, none⟩ = some (.int .i64 a)) (i1 : w.cell? ⟨x, o + 1, none⟩ = some (.int .i64 d)) (i5 : w.cell? ⟨x, o + 5, none⟩ = some (.string ⟨#[114, 116, 46, 97, 108, 108, 111, 99]⟩)) (i6 : w.cell? ⟨x, o + 6, none⟩ = some (.slice (some ⟨z, zo, none⟩) 1 ac)) (hop : ∀ W, Below w.heap.size w W → Calls Tryz.prog 135 #[.pointer (some ⟨R, 0, none⟩), .int .i64 va] W fun e w' => e = .returned (.int .i64 v) ∧ w'.cell? ⟨x, o + 1, none⟩ = some (.int .i64 d) ∧ T w') (han : ∀ W, T W → Calls Tryz.prog 132 #[.pointer (some ⟨R, 0, none⟩), .int .i64 d, .int .i64 v] W fun e w' => e = .returned (.tuple #[]) ∧ Q w') : Calls Tryz.prog 101 #[.pointer (some ⟨R, 0, none⟩), .pointer (some ⟨x, o, none⟩)] w fun e w' => e = .returned (.tuple #[]) ∧ Q w' := by
  have hI : Hid (Calls Tryz.prog 98 #[.pointer (some ⟨R, 0, none⟩)] w fun e w' => e = .returned (.pointer (some ⟨C, n * 7, none⟩)) ∧ ∃ k, w' = w.drewN k) := innermost41g R C ca n w h3 hn
  have HOp : Hid (∀ W, Below w.heap.size w W → Calls Tryz.prog 135 #[.pointer (some ⟨R, 0, none⟩), .int .i64 va] W fun e w' => e = .returned (.int .i64 v) ∧ w'.cell? ⟨x, o + 1, none⟩ = some (.int .i64 d) ∧ T w') := hop
  have HAn : Hid (∀ W, T W → Calls Tryz.prog 132 #[.pointer (some ⟨R, 0, none⟩), .int .i64 d, .int .i64 v] W fun e w' => e = .returned (.tuple #[]) ∧ Q w') := han
  have li1 := World.block_lt_of_cell? _ _ i1
  have li5 := World.block_lt_of_cell? _ _ i5
  have li6 := World.block_lt_of_cell? _ _ i6
  have lc1 := World.block_lt_of_cell? _ _ c1
  have lqa := World.block_lt_of_cell? _ _ qa
  have laz := World.block_lt_of_cell? _ _ az
  clear hop han h3
  go_enter Tryz.func101, Tryz.ntmps101
  go_wp2_with fail
  refine hI.out.mono ?_
  rintro e w1 ⟨rfl, n1, hw1⟩
  have HB1 : Hid (Below w.heap.size w w1) := by show Below _ _ _; rw [hw1]; exact below_drewN (Below.refl _ _) n1
  have ki1 := dcell i1 n1
  have ki5 := dcell i5 n1
  have ki6 := dcell i6 n1
  have kc1 := dcell c1 n1
  have kqa := dcell qa n1
  have kaz := dcell az n1
  rw [← hw1] at ki1 ki5 ki6 kc1 kqa kaz
  have hsz : w1.heap.size = w.heap.size := by rw [hw1]; rfl
  have fi1 := acell (World.block_lt_of_cell? _ _ ki1) ki1
  have fi5 := acell (World.block_lt_of_cell? _ _ ki5) ki5
  have fi6 := acell (World.block_lt_of_cell? _ _ ki6) ki6
  have fc1 := acell (World.block_lt_of_cell? _ _ kc1) kc1
  have fqa := acell (World.block_lt_of_cell? _ _ kqa) kqa
  have faz := acell (World.block_lt_of_cell? _ _ kaz) kaz
  have mk := make1 w1
  have gC : ¬ C = w1.heap.size := by have := World.block_lt_of_cell? _ _ kc1; exact Nat.ne_of_lt this
  have gC' : ¬ w1.heap.size = C := fun e => gC e.symm
  have gq : ¬ q = w1.heap.size := by have := World.block_lt_of_cell? _ _ kqa; exact Nat.ne_of_lt this
  have gq' : ¬ w1.heap.size = q := fun e => gq e.symm
  have gx : ¬ x = w1.heap.size := by have := World.block_lt_of_cell? _ _ ki1; exact Nat.ne_of_lt this
  have gx' : ¬ w1.heap.size = x := fun e => gx e.symm
  have gz : ¬ z = w1.heap.size := by have := World.block_lt_of_cell? _ _ kaz; exact Nat.ne_of_lt this
  have gz' : ¬ w1.heap.size = z := fun e => gz e.symm
  clear hw1 hsz i1 i5 i6 c1 qa az li1 li5 li6 lc1 lqa laz
  go_wp2
  refine wp_loop_rounds 2 ?_
  rw [rounds_succ]
  go_wp2
  rw [rounds_succ]
  go_wp2
  go_region_with (first | (go_at_call 135; refine (HOp.out _ (by first | exact (HB1.out.alloc HB1.out.size _).drew | exact (HB1.out.alloc HB1.out.size _))).mono ?_; rintro e w3 ⟨rfl, dx, hT⟩; have HT : Hid (T w3) := hT; clear hT) | (go_at_call 132; refine (HAn.out _ HT.out).mono ?_; rintro e w5 ⟨rfl, hq⟩))
  all_goals (
    go_wp2
    go_returns
    exact ⟨rfl, hq⟩)
end
section
open Go.RowKit Go.Shelf
variable {p : List Fun} {pp : Option Addr} {pc : Nat} {W0 : World} {R m1 m2 : Nat} {r : Rs} {C ca P pa : Nat} {gl : List (Nat × Cal)} {gp : List (Nat × Par)} {W : World} {s : St} {tq : Nat} {lq : List (Nat × Cal)}
theorem RelD.grow (h : RelD p pp pc W0 R m1 m2 r C ca P pa gl gp W s) {W' : World} (hb : Below W.heap.size W W') : RelD p pp pc W0 R m1 m2 r C ca P pa gl gp W' s := by
  obtain ⟨tq, lq, rfl, h2⟩ := h.hd
  exact h.regs (q := tq) (Onl.of_below hb) (by simp) rfl (own_onl h.co (Onl.of_below (S := fun _ => False) hb) (fun _ _ h => h)) (fun x hx => (h.rg x hx).2.onl (Onl.of_below (S := fun _ => False) hb) (fun h => h)) h.ls rfl rfl rfl rfl rfl rfl rfl
/-- What makes calls and parts anew. -/
theorem RelD.make (h : RelD p pp pc W0 R m1 m2 r C ca P pa gl gp W s) {r' : Rs} {C' ca' P' pa' : Nat} {gl' : List (Nat × Cal)} {gp' : List (Nat × Par)} {W' : World} {s' : St} (k : Onl (fun b => b = R ∨ b = P ∨ b = C) W W') (hR : Rb W' R r') (a1 : r'.pg = r.pg) (a2 : r'.fm = r.fm) (a3 : r'.om = r.om) (a4 : r'.iv = r.iv) (a5 : r'.ov = r.ov) (cv : r'.cv = .slice (some ⟨C', 0, none⟩) gl'.length ca') (co : W'.ownsRow W0.heap.size 138 7 r'.cv gl'.length (rowV p gl')) (pv : r'.pv = .slice (some ⟨P', 0, none⟩) gp'.length pa') (po : W'.ownsRow W0.heap.size 174 3 r'.pv gp'.length (flP (gp'.map ptO))) (rg : ∀ x ∈ gl', W0.heap.size ≤ x.1 ∧ RgB W' x.1 x.2.rg) (nd : (gl'.map (·.1)).Nodup) (wd : ∀ x ∈ gp', ¬ x.2.kd = 0 → W0.heap.size ≤ x.1 ∧ RgB W' x.1 x.2.ws ∧ x.1 ∉ gl'.map (·.1)) (wn : ((gp'.filter lvG).map (·.1)).Nodup) (ls : gl'.map (·.2) = s'.top :: s'.low) (gs : gp'.map (·.2) = s'.ps) (en : r'.en = s'.en) (nx : r'.nx = s'.nx) (hp : r'.hp = s'.hp) (fin : r'.fin = 0) (cd : r'.cd = 0) (st : r'.st = s'.st) (e1 : s'.inp = s.inp) (e2 : s'.out = s.out) : RelD p pp pc W0 R m1 m2 r' C' ca' P' pa' gl' gp' W' s' := by
  obtain ⟨c0, cs, hC⟩ := h.bC
  obtain ⟨p0, ps, hP⟩ := h.bP
  obtain ⟨m1c, hm1⟩ := h.h1
  have hS : ∀ b, (b = R ∨ b = P ∨ b = C) → W0.heap.size ≤ b := fun b hb => by rcases hb with rfl | rfl | rfl; exact h.rB; exact p0; exact c0
  refine ⟨Onl.below (Nat.le_refl _) h.bel k hS, h.rB, hR, by rw [a1]; exact h.pg, by rw [a2]; exact h.fm, by rw [a3]; exact h.om, ⟨m1c, ?_⟩, ?_, cv, co, pv, po, rg, nd, wd, wn, ls, gs, en, nx, hp, fin, cd, st, ?_, ?_⟩
  · rw [k.block m1 (Array.getElem?_eq_some_iff.1 hm1).1 (by rintro (e | e | e); exact bk_nmap h.rb hm1 e.symm; exact bk_nmap hP hm1 e.symm; exact bk_nmap hC hm1 e.symm)]; exact hm1
  · rw [k.block m2 (Array.getElem?_eq_some_iff.1 h.h2).1 (by rintro (e | e | e); exact bk_nmap h.rb h.h2 e.symm; exact bk_nmap hP h.h2 e.symm; exact bk_nmap hC h.h2 e.symm)]; exact h.h2
  · rw [a4, e1]
    exact h.iv.below (Onl.below h.bel.size (Below.refl _ _) k hS)
  · rw [a5, e2]
    refine own_onl h.ov k (fun g hg => ?_)
    obtain ⟨_, os, hO⟩ := h.bO hg
    rintro (e | e | e)
    · exact hO.ne h.rb (by decide) e
    · exact hO.ne hP (by decide) e
    · exact hO.ne hC (by decide) e
/-- Registers stay behind such a step. -/
theorem RelD.rgs (h : RelD p pp pc W0 R m1 m2 r C ca P pa gl gp W s) {W' : World} (k : Onl (fun b => b = R ∨ b = P ∨ b = C) W W') {b : Nat} {l : List Int} (hb : RgB W b l) : RgB W' b l := by
  obtain ⟨c0, cs, hC⟩ := h.bC
  obtain ⟨p0, ps, hP⟩ := h.bP
  refine hb.onl k ?_
  rintro (e | e | e)
  · exact hb.ne h.rb (by decide) e
  · exact hb.ne hP (by decide) e
  · exact hb.ne hC (by decide) e
/-- A register of the innermost call is set. -/
theorem RelD.setq (h : RelD p pp pc W0 R m1 m2 r C ca P pa ((tq, s.top) :: lq) gp W s) (d : Nat) (v : Int) : RelD p pp pc W0 R m1 m2 r C ca P pa ((tq, { s.top with rg := s.top.rg.set d v }) :: lq) gp (W.setCell ⟨tq, d, none⟩ (.int .i64 v)) { s with top := { s.top with rg := s.top.rg.set d v } } := by
  obtain ⟨c0, cs, hC⟩ := h.bC
  obtain ⟨q0, hQ⟩ := h.rg (tq, s.top) (by simp)
  have hls := h.ls
  simp only [List.map_cons, List.cons.injEq] at hls
  refine h.regs (q := tq) ((Onl.of_below (Below.refl _ _)).set (S := fun b => b = C ∨ b = tq) (.inr rfl)) (by simp) (by simp) ?_ ?_ (by simp [hls.2]) rfl rfl rfl rfl rfl rfl rfl
  · have e : rowV p ((tq, { s.top with rg := s.top.rg.set d v }) :: lq) = rowV p ((tq, s.top) :: lq) := by
      rw [rowV, rowV, calV_rg p tq s.top _ (by simp)]
    rw [e]
    refine own_set h.co (fun e => ?_)
    rw [h.cv] at e
    cases e
    exact hQ.ne hC (by decide) rfl
  · intro y hy
    rcases List.mem_cons.1 hy with rfl | hy
    · exact RgB.set hQ d v
    · have n1 := h.nd
      simp only [List.map_cons, List.nodup_cons] at n1
      exact ((h.rg y (by simp [hy])).2.other (fun e => n1.1 (by rw [← e]; exact List.mem_map.2 ⟨y, hy, rfl⟩)))
theorem answer_any (h : RelD p pp pc W0 R m1 m2 r C ca P pa gl gp W s) (hn : gl.length ≤ 1000000) (d v : Int) (hd : d = -1 ∨ (0 ≤ d ∧ d < s.top.rg.length)) : Calls Tryz.prog 132 #[.pointer (some ⟨R, 0, none⟩), .int .i64 d, .int .i64 v] W fun e w' => e = .returned (.tuple #[]) ∧ OutD p pp pc W0 R m1 m2 w' (.inl { s with top := setR s.top d v }) := by
  obtain ⟨tq, lq, rfl, h2⟩ := h.hd
  rcases hd with rfl | hd
  · refine (answer_none R v W).mono ?_
    rintro e w' ⟨rfl, rfl⟩
    rw [show setR s.top (-1) v = s.top from rfl]
    exact ⟨rfl, _, _, _, _, _, _, _, h⟩
  · obtain ⟨n, rfl⟩ : ∃ n : Nat, d = n := ⟨d.toNat, by omega⟩
    have hs := h.stpF
    have hnl : n < s.top.rg.length := by omega
    refine (answer53g R C ca lq.length tq s.top.rg.length s.top.rg.length n v s.top.rg[n] W hs.h3 (by simp at hn; omega) hs.c1 hnl (hs.qv n _ (List.getElem?_eq_getElem hnl)) (hs.qz n)).mono ?_
    rintro e w' ⟨rfl, k, rfl⟩
    rw [setR_nat]
    exact ⟨rfl, _, _, _, _, _, _, _, (h.drew k).setq n v⟩
theorem kept_obj {e : TypeId} {w w' : World} {b : Nat} {es : Array MapEntry} {c : Nat} {x : Option Nat} (h : Lib.OthersKept e x w w') (hb : w.heap[b]? = some (.map es c)) (hn : some b ≠ x) : w'.heap[b]? = some (.map es c) := h b _ hb hn (fun c fz e => by cases e)
/-- A number is printed. -/
theorem RelD.printed (h : RelD p pp pc W0 R m1 m2 r C ca P pa gl gp W s) {W' : World} {ov : Value} {l : List UInt8} (hb : Below W0.heap.size W W') (hk : Lib.OthersKept 5 (some R) W W') (hR : Rb W' R { r with ov := ov }) (ho : W'.ownsRow W0.heap.size 5 1 ov (s.out.length + l.length) (Lib.byteCells (s.out ++ l))) : RelD p pp pc W0 R m1 m2 { r with ov := ov } C ca P pa gl gp W' { s with out := s.out ++ l } := by
  obtain ⟨c0, cs, hC, h1, h2, h3, h4⟩ := own_bk h.co h.cv
  obtain ⟨p0, ps, hP, j1, j2, j3, j4⟩ := own_bk h.po h.pv
  obtain ⟨m1c, hm1⟩ := h.h1
  have nR : ∀ {b t cs}, Bk W b t cs → t ≠ 102 → t ≠ 5 → Bk W' b t cs := fun hbk ht h5 => kept_cell hk hbk (fun e => by cases e; exact hbk.ne h.rb ht rfl) h5
  refine ⟨h.bel.trans hb, h.rB, hR, h.pg, h.fm, h.om, ⟨m1c, kept_obj hk hm1 (fun e => by cases e; exact bk_nmap h.rb hm1 rfl)⟩, kept_obj hk h.h2 (fun e => by cases e; exact bk_nmap h.rb h.h2 rfl), h.cv, ?_, h.pv, ?_, fun x hx => ⟨(h.rg x hx).1, nR (h.rg x hx).2 (by decide) (by decide)⟩, h.nd, fun x hx hx0 => ?_, h.wn, h.ls, h.gs, h.en, h.nx, h.hp, h.fin, h.cd, h.st, h.iv.below hb, ?_⟩
  · rw [show ({ r with ov := ov } : Rs).cv = r.cv from rfl, h.cv]
    exact own_of c0 (nR hC (by decide) (by decide)) h1 h2 h3 h4
  · rw [show ({ r with ov := ov } : Rs).pv = r.pv from rfl, h.pv]
    exact own_of p0 (nR hP (by decide) (by decide)) j1 j2 j3 j4
  · obtain ⟨t1, t2, t3⟩ := h.wd x hx hx0
    exact ⟨t1, nR t2 (by decide) (by decide), t3⟩
  · rw [show ({ s with out := s.out ++ l } : St).out = s.out ++ l from rfl, List.length_append]
    exact ho
theorem do_callR (h : RelD p pp pc W0 R m1 m2 r C ca P pa ((tq, s.top) :: lq) gp W s) (hn : lq.length < 1000000) {f : Fun} {bl : Blk} {i : Ins} (hj : s.top.j < 1000000) {g1 o1 bc g2 o2 ic : Nat} (hP : InsP W0 W p s.top f bl i g1 o1 bc g2 o2 ic) (hop : i.op = 7) (hc : ∀ W', RelD p pp pc W0 R m1 m2 r C ca P pa ((tq, { s.top with j := s.top.j + 1 }) :: lq) gp W' { s with top := { s.top with j := s.top.j + 1 } } → InsP W0 W' p s.top f bl i g1 o1 bc g2 o2 ic → Calls Tryz.prog 101 #[.pointer (some ⟨R, 0, none⟩), .pointer (some ⟨g2, o2 + s.top.j * 9, none⟩)] W' fun e w' => e = .returned (.tuple #[]) ∧ OutD p pp pc W0 R m1 m2 w' (calS p { s with top := { s.top with j := s.top.j + 1 } } i)) (hins : ∀ W', Below W0.heap.size W0 W' → InsP W0 W' p s.top f bl i g1 o1 bc g2 o2 ic) : Calls Tryz.prog 72 #[.pointer (some ⟨R, 0, none⟩), .pointer (some ⟨g2, o2 + s.top.j * 9, none⟩)] W fun e w' => e = .returned (.tuple #[]) ∧ OutD p pp pc W0 R m1 m2 w' (stpS p s i) := by
  have hs := h.stpF
  obtain ⟨c0, _⟩ := h.bC
  have i0 := hP.ce 0 _ rfl
  rw [hop] at i0
  have e : stpS p s i = calS p { s with top := { s.top with j := s.top.j + 1 } } i := by
    unfold stpS
    rw [if_neg (by omega), if_neg (by omega), if_neg (by omega), if_neg (by omega), if_neg (by omega), if_neg (by omega), if_pos hop]
  rw [e]
  refine do_call22g R C ca lq.length g2 (o2 + s.top.j * 9) s.top.j (fun w' => OutD p pp pc W0 R m1 m2 w' (calS p { s with top := { s.top with j := s.top.j + 1 } } i)) W hs.h3 hn hs.c5 (hs.z _) hj i0 ?_ (by have := hP.lt; omega) hs.nRC
  intro k
  exact hc _ (h.next k) (hins _ (h.next k).bel)
end
section
open Go.RowKit Go.Shelf
variable {p : List Fun} {pp : Option Addr} {pc : Nat} {W0 : World} {R m1 m2 : Nat} {r : Rs} {C ca P pa : Nat} {gl : List (Nat × Cal)} {gp : List (Nat × Par)} {W : World} {s : St} {tq : Nat} {lq : List (Nat × Cal)} {c : Cal} {f : Fun} {bl : Blk} {i : Ins} {g1 o1 bc g2 o2 ic : Nat}
theorem reg_in (c : Cal) {a : Int} (h : 0 ≤ a ∧ a < c.rg.length) : ∃ (n : Nat) (v : Int), a = (n : Int) ∧ c.rg[n]? = some v ∧ getR c a = v ∧ n < c.rg.length ∧ v ∈ c.rg := by
  have hn : a.toNat < c.rg.length := by omega
  refine ⟨a.toNat, c.rg[a.toNat], by omega, List.getElem?_eq_getElem hn, ?_, hn, List.getElem_mem hn⟩
  unfold getR
  rw [if_neg (by omega), List.getD_eq_getElem?_getD, List.getElem?_eq_getElem hn]
  rfl
theorem InsP.cell_on (hP : InsP W0 W p c f bl i g1 o1 bc g2 o2 ic) {W' : World} (hb : Below W0.heap.size W W') {t : Nat} {v : Value} (ht : (inC i)[t]? = some v) : W'.cell? ⟨g2, o2 + c.j * 9 + t, none⟩ = some v := (World.cell?_of_block (hb.block g2 hP.lt)).trans (hP.ce t v ht)
/-- What the table of powers is asked for. -/
def PwT (W0 : World) : Prop := Lib.TabBelow Tryz.prog W0.heap.size W0 "internal/strconv.uint64pow10" .u64 Lib.pow10Tab
theorem one_arg (hP : InsP W0 W p c f bl i g1 o1 bc g2 o2 ic) (hl : i.gs.length = 1) : ∃ a z zo, i.gs = [a] ∧ W.cell? ⟨z, zo, none⟩ = some (.int .i64 a) ∧ W.cell? ⟨g2, o2 + c.j * 9 + 6, none⟩ = some (.slice (some ⟨z, zo, none⟩) 1 i.ac) := by
  obtain ⟨a, ha⟩ : ∃ a, i.gs = [a] := by
    match h : i.gs with
    | [a] => exact ⟨a, rfl⟩
    | [] => rw [h] at hl; cases hl
    | _ :: _ :: _ => rw [h] at hl; simp at hl
  obtain ⟨_, _, h3⟩ := hP.ar
  obtain ⟨g, o, e, hk⟩ := h3 (by omega)
  have t := hP.ce 6 _ rfl
  rw [e, hl] at t
  exact ⟨a, g, o, ha, by have := hk 0 a (by rw [ha]; rfl); simpa using this, t⟩
theorem call_prints (h : RelD p pp pc W0 R m1 m2 r C ca P pa ((tq, s.top) :: lq) gp W s) (hn : lq.length < 100000) (hP : InsP W0 W p c f bl i g1 o1 bc g2 o2 ic) (hg : ∀ y ∈ i.gs, 0 ≤ y ∧ y < s.top.rg.length) (hr : ∀ v ∈ s.top.rg, I64 v) (hd : i.d = -1 ∨ (0 ≤ i.d ∧ i.d < s.top.rg.length)) (hl : i.gs.length = 1) (hnm : i.nm.data.toList = [114, 116, 46, 112, 114, 105, 110, 116]) (ho : s.out.length ≤ 1000000000) (hT : PwT W0) : Calls Tryz.prog 101 #[.pointer (some ⟨R, 0, none⟩), .pointer (some ⟨g2, o2 + c.j * 9, none⟩)] W fun e w' => e = .returned (.tuple #[]) ∧ OutD p pp pc W0 R m1 m2 w' (calS p s i) := by
  have hs := h.stpF
  obtain ⟨a', z, zo, hgs, az, i6⟩ := one_arg hP hl
  obtain ⟨a, va, e1, hva, gva, hal, hvm⟩ := reg_in s.top (hg a' (by rw [hgs]; simp))
  obtain ⟨v0, v1⟩ := hr va hvm
  have i1 := hP.ce 1 _ rfl
  have i5 := hP.ce 5 _ rfl
  rw [nm_of hnm] at i5
  rw [e1] at az
  have e : calS p s i = .inl { s with top := setR s.top i.d 0, out := s.out ++ (Lib.itoa va ++ [10]) } := by
    unfold calS
    rw [if_pos hnm, hgs]
    simp [gva]
  rw [e]
  refine call_print R C ca lq.length g2 (o2 + c.j * 9) i.ac s.top.rg.length s.top.rg.length tq z zo a va i.d 0 (fun W' => ∃ r', RelD p pp pc W0 R m1 m2 r' C ca P pa ((tq, s.top) :: lq) gp W' { s with out := s.out ++ (Lib.itoa va ++ [10]) }) _ W hs.h3 (by omega) hs.c1 hal (hs.qv a va hva) az i1 i5 i6 ?_ ?_
  · intro W' hb
    have hx := h.grow hb
    have hb0 : Below W0.heap.size W W' := hb.mono h.bel.size
    refine (print54g R W0.heap.size s.out.length va r (Lib.byteCells s.out) W' hx.rb hx.rB hx.ov hx.bel.size ho v0 v1 (hT.on hx.bel)).mono ?_
    rintro e w' ⟨rfl, ov, q1, q2, q3, q4⟩
    refine ⟨rfl, hP.cell_on (hb0.trans q3) rfl, _, hx.printed q3 q4 q1 ?_⟩
    rw [Lib.byteCells_append, Lib.byteCells_append, show (Lib.itoa va ++ ([10] : List UInt8)).length = (Lib.itoa va).length + 1 by simp, ← Nat.add_assoc]
    exact q2
  · rintro W' ⟨r', hx⟩
    exact answer_any hx (by simp only [List.length_cons]; omega) i.d 0 hd
theorem InV.tail {W0 W : World} {v : Value} {b : UInt8} {l : List UInt8} (h : InV W0 W v (b :: l)) : ∃ g o c, v = .slice (some ⟨g, o, none⟩) (l.length + 1) (c + 1) ∧ l.length ≤ c ∧ W.cell? ⟨g, o, none⟩ = some (.int .u8 b.toNat) ∧ ∀ q, (0 < l.length → q = o + 1) → ∀ W', Below W0.heap.size W W' → InV W0 W' (.slice (some ⟨g, q, none⟩) l.length c) l := by
  obtain ⟨a, c, e, h1, h2⟩ := h
  obtain ⟨g, o, e2, h3, h4⟩ := h2 (by simp)
  simp only [List.length_cons] at h1 e
  refine ⟨g, o, c - 1, by rw [e, e2, show c - 1 + 1 = c by omega], by omega, by have := h4 0 b rfl; simpa using this, fun q hq W' hb => ⟨_, _, rfl, by omega, fun hl => ⟨g, q, rfl, h3, fun j x hj => ?_⟩⟩⟩
  rw [hq hl, show o + 1 + j = o + (j + 1) by omega, World.cell?_of_block (hb.block g h3)]
  exact h4 (j + 1) x (by simpa using hj)
theorem call_reads (h : RelD p pp pc W0 R m1 m2 r C ca P pa ((tq, s.top) :: lq) gp W s) (hn : lq.length < 100000) (hP : InsP W0 W p c f bl i g1 o1 bc g2 o2 ic) (hd : i.d = -1 ∨ (0 ≤ i.d ∧ i.d < s.top.rg.length)) (hl : i.gs.length = 0) (hnm : i.nm.data.toList = [114, 116, 46, 114, 101, 97, 100]) : Calls Tryz.prog 101 #[.pointer (some ⟨R, 0, none⟩), .pointer (some ⟨g2, o2 + c.j * 9, none⟩)] W fun e w' => e = .returned (.tuple #[]) ∧ OutD p pp pc W0 R m1 m2 w' (calS p s i) := by
  have hs := h.stpF
  have i1 := hP.ce 1 _ rfl
  have i5 := hP.ce 5 _ rfl
  have i6 := hP.ce 6 _ rfl
  rw [hl] at i6
  rw [nm_of hnm] at i5
  have hls := h.ls
  cases hin : s.inp with
  | nil =>
    have e : calS p s i = .inl { s with top := setR s.top i.d (-1), inp := [] } := by
      unfold calS
      rw [if_neg (by rw [hnm]; decide), if_pos hnm, hin]
      rfl
    rw [e]
    refine call_read R C ca lq.length g2 (o2 + c.j * 9) i.ac i.ar i.d (-1) (fun W' => RelD p pp pc W0 R m1 m2 r C ca P pa ((tq, s.top) :: lq) gp W' { s with inp := [] }) _ W hs.h3 (by omega) i1 i5 i6 ?_ ?_
    · intro W' hb
      have hx := h.grow hb
      obtain ⟨a, cc, ev, _⟩ := hx.iv
      rw [hin] at ev
      have r8 := hx.rb.cell (j := 8) rfl
      refine (read_none R a cc W' (by rw [r8, ev]; rfl)).mono ?_
      rintro e w' ⟨rfl, rfl⟩
      refine ⟨rfl, hP.cell_on (hb.mono h.bel.size) rfl, ?_⟩
      rw [← hin]
      exact hx
    · intro W' hx
      exact answer_any hx (by simp only [List.length_cons]; omega) i.d (-1) hd
  | cons b l =>
    have e : calS p s i = .inl { s with top := setR s.top i.d ((b.toNat : Nat) : Int), inp := l } := by
      unfold calS
      rw [if_neg (by rw [hnm]; decide), if_pos hnm, hin]
      rfl
    rw [e]
    refine call_read R C ca lq.length g2 (o2 + c.j * 9) i.ac i.ar i.d ((b.toNat : Nat) : Int) (fun W' => ∃ r', RelD p pp pc W0 R m1 m2 r' C ca P pa ((tq, s.top) :: lq) gp W' { s with inp := l }) _ W hs.h3 (by omega) i1 i5 i6 ?_ ?_
    · intro W' hb
      have hx := h.grow hb
      have hiv := hx.iv
      rw [hin] at hiv
      obtain ⟨g, o, cc, ev, hcl, hcell, hrest⟩ := hiv.tail
      have r8 := hx.rb.cell (j := 8) rfl
      refine (read_one R g o l.length cc b.toNat W' (by rw [r8, ev]) hcl hcell (UInt8.toNat_lt b) (hx.rb.fz 8)).mono ?_
      rintro e w' ⟨rfl, q, hq, rfl⟩
      have hbR : Below W0.heap.size W' (W'.setCell ⟨R, 8, none⟩ (.slice (some ⟨g, q, none⟩) l.length cc)) := Onl.below hx.bel.size (Below.refl _ _) ((Onl.of_below (Below.refl _ _)).set (S := fun b => b = R) rfl) (fun b e => by rw [e]; exact h.rB)
      refine ⟨rfl, hP.cell_on ((hb.mono h.bel.size).trans hbR) rfl, { r with iv := .slice (some ⟨g, q, none⟩) l.length cc }, ?_⟩
      exact hx.run ((Onl.of_below (Below.refl _ _)).set (S := fun b => b = R) rfl) (hx.rb.set 8 _) rfl rfl rfl rfl rfl rfl hx.ls rfl hx.en hx.nx hx.hp (hrest q hq _ hbR) rfl hx.st hx.fin hx.cd
    · rintro W' ⟨r', hx⟩
      exact answer_any hx (by simp only [List.length_cons]; omega) i.d _ hd
end
end Go.Proofs.YtdppoblbenbafaaGreatDoor
