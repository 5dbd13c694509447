/- Walks of an instruction's operands, as texts. -/
import Derived.Test.YtndbkkldfinggaaDoorS2
import Derived.Test.YtndbkkldfinggaaDoorE2
import Derived.Deep.RegionHeld3
import Derived.Deep.QuietTactic
import Derived.WalkSmall
namespace Go.Proofs.YtndbkkldfinggaaDoor
open Go.RowKit
/-- A place by a register and a number. -/
def offT (n r : Int) : List UInt8 := Lib.itoa n ++ [40] ++ regT r ++ [41]
/-- What stands behind an operation's name, by the form's letter. -/
def opsT (l rd r1 r2 n : Int) : List (List UInt8) :=
  if l = 85 ∨ l = 74 then [regT rd, Lib.itoa n] else if l = 73 ∨ l = 72 ∨ l = 87 then [regT rd, regT r1, Lib.itoa n] else if l = 76 then [regT rd, offT n r1] else if l = 83 then [regT r2, offT n r1] else if l = 66 then [regT r1, regT r2, Lib.itoa n] else if l = 82 then [regT rd, regT r1, regT r2] else []
theorem belowQ (w : World) (o : Obj) (k : Nat) : Below w.heap.size w ((w.alloc o).drewN k) := below_drewN ((Below.refl w.heap.size w).alloc (Nat.le_refl _) o) k
theorem cells_two (w : World) (a b : List UInt8) (t : TypeId) : ∀ (j : Nat) x, ([a, b].map tx)[j]? = some x → (w.alloc (.cells #[.string (tx a), .string (tx b)] t)).cell? ⟨w.heap.size, 0 + j, none⟩ = some (.string x)
  | 0, x, h => by simp at h; subst h; go_simp
  | 1, x, h => by simp at h; subst h; go_simp
  | j + 2, x, h => by simp at h
theorem cells_three (w : World) (a b c : List UInt8) (t : TypeId) : ∀ (j : Nat) x, ([a, b, c].map tx)[j]? = some x → (w.alloc (.cells #[.string (tx a), .string (tx b), .string (tx c)] t)).cell? ⟨w.heap.size, 0 + j, none⟩ = some (.string x)
  | 0, x, h => by simp at h; subst h; go_simp
  | 1, x, h => by simp at h; subst h; go_simp
  | 2, x, h => by simp at h; subst h; go_simp
  | j + 3, x, h => by simp at h
theorem off_tx (n r : Int) : tx (Lib.itoa n) ++ tx [40] ++ tx (regT r) ++ tx [41] = tx (offT n r) := by rw [tx_app, tx_app, tx_app]; rfl
set_option maxHeartbeats 1000000 in
theorem operands34_85 (op rd r1 r2 n : Int) (hl : nth plL op = 85) (_d0 : 0 ≤ rd) (_d1 : rd ≤ 31) (_a0 : 0 ≤ r1) (_a1 : r1 ≤ 31) (_b0 : 0 ≤ r2) (_b1 : r2 ≤ 31) (n0 : -1048576 ≤ n) (n1 : n ≤ 1048574) (w : World) (hp : Pow w) :
    Calls Tryd.prog 34 #[.agg #[.int .i64 op, .int .i64 rd, .int .i64 r1, .int .i64 r2, .int .i64 n]] w fun e w' => ∃ bk, e = .returned (.slice (some ⟨bk, 0, none⟩) 2 2) ∧ (∀ (j : Nat) x, ((opsT 85 rd r1 r2 n).map tx)[j]? = some x → w'.cell? ⟨bk, 0 + j, none⟩ = some (.string x)) ∧ bk < w'.heap.size ∧ Below w.heap.size w w' := by
  have HP : Hid (Pow w) := hp
  have HL : Hid (nth plL op = 85) := hl
  have hs : (tx (Lib.itoa n)).size ≤ 8 := itoa_size n n0 n1
  have hs1 : (tx (regT r1)).size ≤ 3 := reg_size r1 (by assumption) (by assumption)
  clear hp hl
  go_enter Tryd.func34, Tryd.ntmps34
  go_wp2_with fail
  go_quiet ((go_at_call 50; exact Calls.quiet_of_same (register50 _ (by assumption) (by assumption) _)))
  go_wp2_with fail
  refine (format36 n n0 n1 _ (HP.out.below (belowQ w _ nq))).mono ?_
  rintro e w1 ⟨rfl, hb⟩
  have HB : Hid (Below w.heap.size w w1) := (belowQ w _ nq).trans (hb.mono (by simp))
  have c0 : w1.cell? ⟨w.heap.size, 0, none⟩ = some (.int .i64 op) := (hb.cell (p := ⟨w.heap.size, 0, none⟩) (by simp)).trans (by go_simp)
  clear hb
  go_wp2_with fail
  refine (formOf26 op _).mono ?_
  rw [HL.out]
  rintro e w2 ⟨rfl, h2⟩
  subst h2
  go_wp2
  go_ret
  exact ⟨_, rfl, cells_two w2 _ _ _, by simp, HB.out.alloc HB.out.size _⟩
set_option maxHeartbeats 1000000 in
theorem operands34_74 (op rd r1 r2 n : Int) (hl : nth plL op = 74) (_d0 : 0 ≤ rd) (_d1 : rd ≤ 31) (_a0 : 0 ≤ r1) (_a1 : r1 ≤ 31) (_b0 : 0 ≤ r2) (_b1 : r2 ≤ 31) (n0 : -1048576 ≤ n) (n1 : n ≤ 1048574) (w : World) (hp : Pow w) :
    Calls Tryd.prog 34 #[.agg #[.int .i64 op, .int .i64 rd, .int .i64 r1, .int .i64 r2, .int .i64 n]] w fun e w' => ∃ bk, e = .returned (.slice (some ⟨bk, 0, none⟩) 2 2) ∧ (∀ (j : Nat) x, ((opsT 74 rd r1 r2 n).map tx)[j]? = some x → w'.cell? ⟨bk, 0 + j, none⟩ = some (.string x)) ∧ bk < w'.heap.size ∧ Below w.heap.size w w' := by
  have HP : Hid (Pow w) := hp
  have HL : Hid (nth plL op = 74) := hl
  have hs : (tx (Lib.itoa n)).size ≤ 8 := itoa_size n n0 n1
  have hs1 : (tx (regT r1)).size ≤ 3 := reg_size r1 (by assumption) (by assumption)
  clear hp hl
  go_enter Tryd.func34, Tryd.ntmps34
  go_wp2_with fail
  go_quiet ((go_at_call 50; exact Calls.quiet_of_same (register50 _ (by assumption) (by assumption) _)))
  go_wp2_with fail
  refine (format36 n n0 n1 _ (HP.out.below (belowQ w _ nq))).mono ?_
  rintro e w1 ⟨rfl, hb⟩
  have HB : Hid (Below w.heap.size w w1) := (belowQ w _ nq).trans (hb.mono (by simp))
  have c0 : w1.cell? ⟨w.heap.size, 0, none⟩ = some (.int .i64 op) := (hb.cell (p := ⟨w.heap.size, 0, none⟩) (by simp)).trans (by go_simp)
  clear hb
  go_wp2_with fail
  refine (formOf26 op _).mono ?_
  rw [HL.out]
  rintro e w2 ⟨rfl, h2⟩
  subst h2
  go_wp2
  go_ret
  exact ⟨_, rfl, cells_two w2 _ _ _, by simp, HB.out.alloc HB.out.size _⟩
set_option maxHeartbeats 1000000 in
theorem operands34_73 (op rd r1 r2 n : Int) (hl : nth plL op = 73) (_d0 : 0 ≤ rd) (_d1 : rd ≤ 31) (_a0 : 0 ≤ r1) (_a1 : r1 ≤ 31) (_b0 : 0 ≤ r2) (_b1 : r2 ≤ 31) (n0 : -1048576 ≤ n) (n1 : n ≤ 1048574) (w : World) (hp : Pow w) :
    Calls Tryd.prog 34 #[.agg #[.int .i64 op, .int .i64 rd, .int .i64 r1, .int .i64 r2, .int .i64 n]] w fun e w' => ∃ bk, e = .returned (.slice (some ⟨bk, 0, none⟩) 3 3) ∧ (∀ (j : Nat) x, ((opsT 73 rd r1 r2 n).map tx)[j]? = some x → w'.cell? ⟨bk, 0 + j, none⟩ = some (.string x)) ∧ bk < w'.heap.size ∧ Below w.heap.size w w' := by
  have HP : Hid (Pow w) := hp
  have HL : Hid (nth plL op = 73) := hl
  have hs : (tx (Lib.itoa n)).size ≤ 8 := itoa_size n n0 n1
  have hs1 : (tx (regT r1)).size ≤ 3 := reg_size r1 (by assumption) (by assumption)
  clear hp hl
  go_enter Tryd.func34, Tryd.ntmps34
  go_wp2_with fail
  go_quiet ((go_at_call 50; exact Calls.quiet_of_same (register50 _ (by assumption) (by assumption) _)))
  go_wp2_with fail
  refine (format36 n n0 n1 _ (HP.out.below (belowQ w _ nq))).mono ?_
  rintro e w1 ⟨rfl, hb⟩
  have HB : Hid (Below w.heap.size w w1) := (belowQ w _ nq).trans (hb.mono (by simp))
  have c0 : w1.cell? ⟨w.heap.size, 0, none⟩ = some (.int .i64 op) := (hb.cell (p := ⟨w.heap.size, 0, none⟩) (by simp)).trans (by go_simp)
  clear hb
  go_wp2_with fail
  refine (formOf26 op _).mono ?_
  rw [HL.out]
  rintro e w2 ⟨rfl, h2⟩
  subst h2
  go_wp2
  go_ret
  exact ⟨_, rfl, cells_three w2 _ _ _ _, by simp, HB.out.alloc HB.out.size _⟩
set_option maxHeartbeats 1000000 in
theorem operands34_72 (op rd r1 r2 n : Int) (hl : nth plL op = 72) (_d0 : 0 ≤ rd) (_d1 : rd ≤ 31) (_a0 : 0 ≤ r1) (_a1 : r1 ≤ 31) (_b0 : 0 ≤ r2) (_b1 : r2 ≤ 31) (n0 : -1048576 ≤ n) (n1 : n ≤ 1048574) (w : World) (hp : Pow w) :
    Calls Tryd.prog 34 #[.agg #[.int .i64 op, .int .i64 rd, .int .i64 r1, .int .i64 r2, .int .i64 n]] w fun e w' => ∃ bk, e = .returned (.slice (some ⟨bk, 0, none⟩) 3 3) ∧ (∀ (j : Nat) x, ((opsT 72 rd r1 r2 n).map tx)[j]? = some x → w'.cell? ⟨bk, 0 + j, none⟩ = some (.string x)) ∧ bk < w'.heap.size ∧ Below w.heap.size w w' := by
  have HP : Hid (Pow w) := hp
  have HL : Hid (nth plL op = 72) := hl
  have hs : (tx (Lib.itoa n)).size ≤ 8 := itoa_size n n0 n1
  have hs1 : (tx (regT r1)).size ≤ 3 := reg_size r1 (by assumption) (by assumption)
  clear hp hl
  go_enter Tryd.func34, Tryd.ntmps34
  go_wp2_with fail
  go_quiet ((go_at_call 50; exact Calls.quiet_of_same (register50 _ (by assumption) (by assumption) _)))
  go_wp2_with fail
  refine (format36 n n0 n1 _ (HP.out.below (belowQ w _ nq))).mono ?_
  rintro e w1 ⟨rfl, hb⟩
  have HB : Hid (Below w.heap.size w w1) := (belowQ w _ nq).trans (hb.mono (by simp))
  have c0 : w1.cell? ⟨w.heap.size, 0, none⟩ = some (.int .i64 op) := (hb.cell (p := ⟨w.heap.size, 0, none⟩) (by simp)).trans (by go_simp)
  clear hb
  go_wp2_with fail
  refine (formOf26 op _).mono ?_
  rw [HL.out]
  rintro e w2 ⟨rfl, h2⟩
  subst h2
  go_wp2
  go_ret
  exact ⟨_, rfl, cells_three w2 _ _ _ _, by simp, HB.out.alloc HB.out.size _⟩
set_option maxHeartbeats 1000000 in
theorem operands34_87 (op rd r1 r2 n : Int) (hl : nth plL op = 87) (_d0 : 0 ≤ rd) (_d1 : rd ≤ 31) (_a0 : 0 ≤ r1) (_a1 : r1 ≤ 31) (_b0 : 0 ≤ r2) (_b1 : r2 ≤ 31) (n0 : -1048576 ≤ n) (n1 : n ≤ 1048574) (w : World) (hp : Pow w) :
    Calls Tryd.prog 34 #[.agg #[.int .i64 op, .int .i64 rd, .int .i64 r1, .int .i64 r2, .int .i64 n]] w fun e w' => ∃ bk, e = .returned (.slice (some ⟨bk, 0, none⟩) 3 3) ∧ (∀ (j : Nat) x, ((opsT 87 rd r1 r2 n).map tx)[j]? = some x → w'.cell? ⟨bk, 0 + j, none⟩ = some (.string x)) ∧ bk < w'.heap.size ∧ Below w.heap.size w w' := by
  have HP : Hid (Pow w) := hp
  have HL : Hid (nth plL op = 87) := hl
  have hs : (tx (Lib.itoa n)).size ≤ 8 := itoa_size n n0 n1
  have hs1 : (tx (regT r1)).size ≤ 3 := reg_size r1 (by assumption) (by assumption)
  clear hp hl
  go_enter Tryd.func34, Tryd.ntmps34
  go_wp2_with fail
  go_quiet ((go_at_call 50; exact Calls.quiet_of_same (register50 _ (by assumption) (by assumption) _)))
  go_wp2_with fail
  refine (format36 n n0 n1 _ (HP.out.below (belowQ w _ nq))).mono ?_
  rintro e w1 ⟨rfl, hb⟩
  have HB : Hid (Below w.heap.size w w1) := (belowQ w _ nq).trans (hb.mono (by simp))
  have c0 : w1.cell? ⟨w.heap.size, 0, none⟩ = some (.int .i64 op) := (hb.cell (p := ⟨w.heap.size, 0, none⟩) (by simp)).trans (by go_simp)
  clear hb
  go_wp2_with fail
  refine (formOf26 op _).mono ?_
  rw [HL.out]
  rintro e w2 ⟨rfl, h2⟩
  subst h2
  go_wp2
  go_ret
  exact ⟨_, rfl, cells_three w2 _ _ _ _, by simp, HB.out.alloc HB.out.size _⟩
set_option maxHeartbeats 1000000 in
theorem operands34_76 (op rd r1 r2 n : Int) (hl : nth plL op = 76) (_d0 : 0 ≤ rd) (_d1 : rd ≤ 31) (_a0 : 0 ≤ r1) (_a1 : r1 ≤ 31) (_b0 : 0 ≤ r2) (_b1 : r2 ≤ 31) (n0 : -1048576 ≤ n) (n1 : n ≤ 1048574) (w : World) (hp : Pow w) :
    Calls Tryd.prog 34 #[.agg #[.int .i64 op, .int .i64 rd, .int .i64 r1, .int .i64 r2, .int .i64 n]] w fun e w' => ∃ bk, e = .returned (.slice (some ⟨bk, 0, none⟩) 2 2) ∧ (∀ (j : Nat) x, ((opsT 76 rd r1 r2 n).map tx)[j]? = some x → w'.cell? ⟨bk, 0 + j, none⟩ = some (.string x)) ∧ bk < w'.heap.size ∧ Below w.heap.size w w' := by
  have HP : Hid (Pow w) := hp
  have HL : Hid (nth plL op = 76) := hl
  have hs : (tx (Lib.itoa n)).size ≤ 8 := itoa_size n n0 n1
  have hs1 : (tx (regT r1)).size ≤ 3 := reg_size r1 (by assumption) (by assumption)
  clear hp hl
  go_enter Tryd.func34, Tryd.ntmps34
  go_wp2_with fail
  go_quiet ((go_at_call 50; exact Calls.quiet_of_same (register50 _ (by assumption) (by assumption) _)))
  go_wp2_with fail
  refine (format36 n n0 n1 _ (HP.out.below (belowQ w _ nq))).mono ?_
  rintro e w1 ⟨rfl, hb⟩
  have HB : Hid (Below w.heap.size w w1) := (belowQ w _ nq).trans (hb.mono (by simp))
  have c0 : w1.cell? ⟨w.heap.size, 0, none⟩ = some (.int .i64 op) := (hb.cell (p := ⟨w.heap.size, 0, none⟩) (by simp)).trans (by go_simp)
  clear hb
  go_wp2_with fail
  refine (formOf26 op _).mono ?_
  rw [HL.out]
  rintro e w2 ⟨rfl, h2⟩
  subst h2
  go_wp2
  go_ret
  rw [show tx (Lib.itoa n) ++ ⟨#[40]⟩ ++ tx (regT r1) ++ ⟨#[41]⟩ = tx (offT n r1) from off_tx n r1]
  exact ⟨_, rfl, cells_two w2 _ _ _, by simp, HB.out.alloc HB.out.size _⟩
set_option maxHeartbeats 1000000 in
theorem operands34_83 (op rd r1 r2 n : Int) (hl : nth plL op = 83) (_d0 : 0 ≤ rd) (_d1 : rd ≤ 31) (_a0 : 0 ≤ r1) (_a1 : r1 ≤ 31) (_b0 : 0 ≤ r2) (_b1 : r2 ≤ 31) (n0 : -1048576 ≤ n) (n1 : n ≤ 1048574) (w : World) (hp : Pow w) :
    Calls Tryd.prog 34 #[.agg #[.int .i64 op, .int .i64 rd, .int .i64 r1, .int .i64 r2, .int .i64 n]] w fun e w' => ∃ bk, e = .returned (.slice (some ⟨bk, 0, none⟩) 2 2) ∧ (∀ (j : Nat) x, ((opsT 83 rd r1 r2 n).map tx)[j]? = some x → w'.cell? ⟨bk, 0 + j, none⟩ = some (.string x)) ∧ bk < w'.heap.size ∧ Below w.heap.size w w' := by
  have HP : Hid (Pow w) := hp
  have HL : Hid (nth plL op = 83) := hl
  have hs : (tx (Lib.itoa n)).size ≤ 8 := itoa_size n n0 n1
  have hs1 : (tx (regT r1)).size ≤ 3 := reg_size r1 (by assumption) (by assumption)
  clear hp hl
  go_enter Tryd.func34, Tryd.ntmps34
  go_wp2_with fail
  go_quiet ((go_at_call 50; exact Calls.quiet_of_same (register50 _ (by assumption) (by assumption) _)))
  go_wp2_with fail
  refine (format36 n n0 n1 _ (HP.out.below (belowQ w _ nq))).mono ?_
  rintro e w1 ⟨rfl, hb⟩
  have HB : Hid (Below w.heap.size w w1) := (belowQ w _ nq).trans (hb.mono (by simp))
  have c0 : w1.cell? ⟨w.heap.size, 0, none⟩ = some (.int .i64 op) := (hb.cell (p := ⟨w.heap.size, 0, none⟩) (by simp)).trans (by go_simp)
  clear hb
  go_wp2_with fail
  refine (formOf26 op _).mono ?_
  rw [HL.out]
  rintro e w2 ⟨rfl, h2⟩
  subst h2
  go_wp2
  go_ret
  rw [show tx (Lib.itoa n) ++ ⟨#[40]⟩ ++ tx (regT r1) ++ ⟨#[41]⟩ = tx (offT n r1) from off_tx n r1]
  exact ⟨_, rfl, cells_two w2 _ _ _, by simp, HB.out.alloc HB.out.size _⟩
set_option maxHeartbeats 1000000 in
theorem operands34_66 (op rd r1 r2 n : Int) (hl : nth plL op = 66) (_d0 : 0 ≤ rd) (_d1 : rd ≤ 31) (_a0 : 0 ≤ r1) (_a1 : r1 ≤ 31) (_b0 : 0 ≤ r2) (_b1 : r2 ≤ 31) (n0 : -1048576 ≤ n) (n1 : n ≤ 1048574) (w : World) (hp : Pow w) :
    Calls Tryd.prog 34 #[.agg #[.int .i64 op, .int .i64 rd, .int .i64 r1, .int .i64 r2, .int .i64 n]] w fun e w' => ∃ bk, e = .returned (.slice (some ⟨bk, 0, none⟩) 3 3) ∧ (∀ (j : Nat) x, ((opsT 66 rd r1 r2 n).map tx)[j]? = some x → w'.cell? ⟨bk, 0 + j, none⟩ = some (.string x)) ∧ bk < w'.heap.size ∧ Below w.heap.size w w' := by
  have HP : Hid (Pow w) := hp
  have HL : Hid (nth plL op = 66) := hl
  have hs : (tx (Lib.itoa n)).size ≤ 8 := itoa_size n n0 n1
  have hs1 : (tx (regT r1)).size ≤ 3 := reg_size r1 (by assumption) (by assumption)
  clear hp hl
  go_enter Tryd.func34, Tryd.ntmps34
  go_wp2_with fail
  go_quiet ((go_at_call 50; exact Calls.quiet_of_same (register50 _ (by assumption) (by assumption) _)))
  go_wp2_with fail
  refine (format36 n n0 n1 _ (HP.out.below (belowQ w _ nq))).mono ?_
  rintro e w1 ⟨rfl, hb⟩
  have HB : Hid (Below w.heap.size w w1) := (belowQ w _ nq).trans (hb.mono (by simp))
  have c0 : w1.cell? ⟨w.heap.size, 0, none⟩ = some (.int .i64 op) := (hb.cell (p := ⟨w.heap.size, 0, none⟩) (by simp)).trans (by go_simp)
  clear hb
  go_wp2_with fail
  refine (formOf26 op _).mono ?_
  rw [HL.out]
  rintro e w2 ⟨rfl, h2⟩
  subst h2
  go_wp2
  go_ret
  exact ⟨_, rfl, cells_three w2 _ _ _ _, by simp, HB.out.alloc HB.out.size _⟩
set_option maxHeartbeats 1000000 in
theorem operands34_82 (op rd r1 r2 n : Int) (hl : nth plL op = 82) (_d0 : 0 ≤ rd) (_d1 : rd ≤ 31) (_a0 : 0 ≤ r1) (_a1 : r1 ≤ 31) (_b0 : 0 ≤ r2) (_b1 : r2 ≤ 31) (n0 : -1048576 ≤ n) (n1 : n ≤ 1048574) (w : World) (hp : Pow w) :
    Calls Tryd.prog 34 #[.agg #[.int .i64 op, .int .i64 rd, .int .i64 r1, .int .i64 r2, .int .i64 n]] w fun e w' => ∃ bk, e = .returned (.slice (some ⟨bk, 0, none⟩) 3 3) ∧ (∀ (j : Nat) x, ((opsT 82 rd r1 r2 n).map tx)[j]? = some x → w'.cell? ⟨bk, 0 + j, none⟩ = some (.string x)) ∧ bk < w'.heap.size ∧ Below w.heap.size w w' := by
  have HP : Hid (Pow w) := hp
  have HL : Hid (nth plL op = 82) := hl
  have hs : (tx (Lib.itoa n)).size ≤ 8 := itoa_size n n0 n1
  have hs1 : (tx (regT r1)).size ≤ 3 := reg_size r1 (by assumption) (by assumption)
  clear hp hl
  go_enter Tryd.func34, Tryd.ntmps34
  go_wp2_with fail
  go_quiet ((go_at_call 50; exact Calls.quiet_of_same (register50 _ (by assumption) (by assumption) _)))
  go_wp2_with fail
  refine (format36 n n0 n1 _ (HP.out.below (belowQ w _ nq))).mono ?_
  rintro e w1 ⟨rfl, hb⟩
  have HB : Hid (Below w.heap.size w w1) := (belowQ w _ nq).trans (hb.mono (by simp))
  have c0 : w1.cell? ⟨w.heap.size, 0, none⟩ = some (.int .i64 op) := (hb.cell (p := ⟨w.heap.size, 0, none⟩) (by simp)).trans (by go_simp)
  clear hb
  go_wp2_with fail
  refine (formOf26 op _).mono ?_
  rw [HL.out]
  rintro e w2 ⟨rfl, h2⟩
  subst h2
  go_wp2
  go_ret
  exact ⟨_, rfl, cells_three w2 _ _ _ _, by simp, HB.out.alloc HB.out.size _⟩
set_option maxHeartbeats 1000000 in
theorem operands34_78 (op rd r1 r2 n : Int) (hl : nth plL op = 78) (_d0 : 0 ≤ rd) (_d1 : rd ≤ 31) (_a0 : 0 ≤ r1) (_a1 : r1 ≤ 31) (_b0 : 0 ≤ r2) (_b1 : r2 ≤ 31) (n0 : -1048576 ≤ n) (n1 : n ≤ 1048574) (w : World) (hp : Pow w) :
    Calls Tryd.prog 34 #[.agg #[.int .i64 op, .int .i64 rd, .int .i64 r1, .int .i64 r2, .int .i64 n]] w fun e w' => e = .returned (.slice none 0 0) ∧ Below w.heap.size w w' := by
  have HP : Hid (Pow w) := hp
  have HL : Hid (nth plL op = 78) := hl
  clear hp hl
  go_enter Tryd.func34, Tryd.ntmps34
  go_wp2_with fail
  go_quiet ((go_at_call 50; exact Calls.quiet_of_same (register50 _ (by assumption) (by assumption) _)))
  go_wp2_with fail
  refine (format36 n n0 n1 _ (HP.out.below (belowQ w _ nq))).mono ?_
  rintro e w1 ⟨rfl, hb⟩
  have HB : Hid (Below w.heap.size w w1) := (belowQ w _ nq).trans (hb.mono (by simp))
  have c0 : w1.cell? ⟨w.heap.size, 0, none⟩ = some (.int .i64 op) := (hb.cell (p := ⟨w.heap.size, 0, none⟩) (by simp)).trans (by go_simp)
  clear hb
  go_wp2_with fail
  refine (formOf26 op _).mono ?_
  rw [HL.out]
  rintro e w2 ⟨rfl, h2⟩
  subst h2
  go_wp2
  go_ret
  exact ⟨rfl, HB.out⟩
theorem opsT_len (l rd r1 r2 n : Int) (hl : IsL l) : l = 78 ∨ (opsT l rd r1 r2 n).length = 2 ∨ (opsT l rd r1 r2 n).length = 3 := by
  rcases hl with rfl | rfl | rfl | rfl | rfl | rfl | rfl | rfl | rfl | rfl <;> simp [opsT]
/-- The operands of a right instruction that has some. -/
theorem operands34 (op rd r1 r2 n : Int) (h : rightB op rd r1 r2 n = true) (hl : nth plL op ≠ 78) (w : World) (hp : Pow w) :
    Calls Tryd.prog 34 #[.agg #[.int .i64 op, .int .i64 rd, .int .i64 r1, .int .i64 r2, .int .i64 n]] w fun e w' => ∃ bk, e = .returned (.slice (some ⟨bk, 0, none⟩) (opsT (nth plL op) rd r1 r2 n).length (opsT (nth plL op) rd r1 r2 n).length) ∧ (∀ (j : Nat) x, ((opsT (nth plL op) rd r1 r2 n).map tx)[j]? = some x → w'.cell? ⟨bk, 0 + j, none⟩ = some (.string x)) ∧ bk < w'.heap.size ∧ Below w.heap.size w w' := by
  obtain ⟨o1, o2⟩ := ops_of_right h
  obtain ⟨⟨d0, d1⟩, ⟨a0, a1⟩, ⟨b0, b1⟩, ⟨n0, n1⟩⟩ := right_ranges h
  rcases isL_of o1 o2 with e | e | e | e | e | e | e | e | e | e
  · rw [e]; exact operands34_85 op rd r1 r2 n e d0 d1 a0 a1 b0 b1 n0 n1 w hp
  · rw [e]; exact operands34_74 op rd r1 r2 n e d0 d1 a0 a1 b0 b1 n0 n1 w hp
  · rw [e]; exact operands34_73 op rd r1 r2 n e d0 d1 a0 a1 b0 b1 n0 n1 w hp
  · rw [e]; exact operands34_76 op rd r1 r2 n e d0 d1 a0 a1 b0 b1 n0 n1 w hp
  · rw [e]; exact operands34_72 op rd r1 r2 n e d0 d1 a0 a1 b0 b1 n0 n1 w hp
  · rw [e]; exact operands34_87 op rd r1 r2 n e d0 d1 a0 a1 b0 b1 n0 n1 w hp
  · rw [e]; exact operands34_83 op rd r1 r2 n e d0 d1 a0 a1 b0 b1 n0 n1 w hp
  · rw [e]; exact operands34_66 op rd r1 r2 n e d0 d1 a0 a1 b0 b1 n0 n1 w hp
  · rw [e]; exact operands34_82 op rd r1 r2 n e d0 d1 a0 a1 b0 b1 n0 n1 w hp
  · exact absurd e hl
end Go.Proofs.YtndbkkldfinggaaDoor
