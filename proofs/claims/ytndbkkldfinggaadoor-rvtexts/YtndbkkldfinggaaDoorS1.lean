/- Walks of registers' texts and of numbers' texts: what each answers. -/
import Derived.Test.YtndbkkldfinggaaDoorShelf
import Derived.Test.YtndbkkldfinggaaDoorA1
import Derived.Lib.SmallJoins
namespace Go.Proofs.YtndbkkldfinggaaDoor
open Go.RowKit Go.Sort
/-- A text of bytes. -/
def tx (l : List UInt8) : ByteArray := ⟨l.toArray⟩
theorem tx_app (l m : List UInt8) : tx l ++ tx m = tx (l ++ m) := by
  apply ByteArray.ext
  apply Array.toList_inj.1
  rw [Go.Joins.data_append]
  simp [tx]
theorem dec_len : ∀ (k u : Nat), u < 10 ^ (k + 1) → (Lib.decDigits u).length ≤ k + 1
  | 0, u, h => by rw [Lib.decDigits, dif_pos (by simpa using h)]; simp
  | k + 1, u, h => by
    rw [Lib.decDigits]
    split
    · simp
    · have t := dec_len k (u / 10) (by rw [Nat.pow_succ] at h; omega)
      simp only [List.length_append, List.length_cons, List.length_nil]
      omega
theorem tx_size (l : List UInt8) : (tx l).size = l.length := by simp [tx, ByteArray.size]
/-- A register's text. -/
def regT (r : Int) : List UInt8 := 120 :: Lib.decDigits r.toNat
theorem itoa_small (r : Int) (h0 : 0 ≤ r) (h1 : r ≤ 31) (w : World) : Calls Tryd.prog 55 #[.int .i64 r] w fun e w' => e = .returned (.string (tx (Lib.decDigits r.toNat))) ∧ w' = w := by
  have t := Tryd.strconv_Itoa_small r.toNat (by omega) w
  rw [Int.toNat_of_nonneg h0] at t
  exact t
theorem reg_size (r : Int) (h0 : 0 ≤ r) (h1 : r ≤ 31) : (tx (regT r)).size ≤ 3 := by
  rw [tx_size]
  have := dec_len 1 r.toNat (by omega)
  simp only [regT, List.length_cons]
  omega
theorem itoa_size (n : Int) (h0 : -1048576 ≤ n) (h1 : n ≤ 1048574) : (tx (Lib.itoa n)).size ≤ 8 := by
  rw [tx_size]
  unfold Lib.itoa
  split
  · have := dec_len 6 n.natAbs (by omega)
    simp only [List.length_cons]
    omega
  · have := dec_len 6 n.toNat (by omega)
    omega
theorem ret_string {a b : ByteArray} (h : a = b) : Ending.returned (.string a) = .returned (.string b) := by rw [h]
set_option maxHeartbeats 600000 in
theorem register50 (r : Int) (h0 : 0 ≤ r) (h1 : r ≤ 31) (w : World) : Calls Tryd.prog 50 #[.int .i64 r] w fun e w' => e = .returned (.string (tx (regT r))) ∧ w' = w := by
  have hs : (tx (Lib.decDigits r.toNat)).size ≤ 2 := by rw [tx_size]; exact dec_len 1 _ (by omega)
  go_enter Tryd.func50, Tryd.ntmps50
  go_wp2_with ((go_at_call 55; refine (itoa_small r h0 h1 _).mono ?_; rintro e w' ⟨rfl, rfl⟩))
  go_ret
  exact ⟨ret_string (tx_app [120] _), rfl⟩
set_option maxHeartbeats 600000 in
theorem x38 (r : Int) (h0 : 0 ≤ r) (h1 : r ≤ 31) (w : World) : Calls Tryd.prog 38 #[.int .i64 r] w fun e w' => e = .returned (.string (tx (regT r))) ∧ w' = w := by
  have hs : (tx (Lib.decDigits r.toNat)).size ≤ 2 := by rw [tx_size]; exact dec_len 1 _ (by omega)
  go_enter Tryd.func38, Tryd.ntmps38
  go_wp2_with ((go_at_call 55; refine (itoa_small r h0 h1 _).mono ?_; rintro e w' ⟨rfl, rfl⟩))
  go_ret
  exact ⟨ret_string (tx_app [120] _), rfl⟩
/-- The library's table of powers of ten lies where its text lays it. -/
def Pow (w : World) : Prop := Lib.TabIs Tryd.prog w "internal/strconv.uint64pow10" .u64 Lib.pow10Tab
theorem gPow : Tryd.prog.globalNamed "internal/strconv.uint64pow10" = some 2 := by kernel_rfl
theorem Pow.below {w w' : World} (h : Pow w) (hb : Below w.heap.size w w') : Pow w' := Go.Joins.tab_stays gPow h hb (Nat.le_refl _)
theorem below_grow (w : World) (k : Nat) (os : Array Obj) : Below w.heap.size w (grow (w.drewN k) os) :=
  ⟨rfl, rfl, rfl, by simp [grow], fun i hi => by simp [grow, Array.getElem?_append, hi]⟩
theorem format36 (n : Int) (h0 : -1048576 ≤ n) (h1 : n ≤ 1048574) (w : World) (hp : Pow w) : Calls Tryd.prog 36 #[.int .i64 n, .int .i64 10] w fun e w' => e = .returned (.string (tx (Lib.itoa n))) ∧ Below w.heap.size w w' := by
  refine (Tryd.strconv_FormatInt_10 n (by omega) (by omega) w hp).mono ?_
  rintro e w' ⟨rfl, k, os, rfl⟩
  exact ⟨rfl, below_grow w k os⟩
end Go.Proofs.YtndbkkldfinggaaDoor
