/- Numbers within 64 bits. -/
import Derived.Test.YtnmpbihpoefeoaaDoorG3
import Derived.Test.YtnmpbihpoefeoaaDoorHA
import Derived.Test.YtnmpbihpoefeoaaDoorJJ
import Derived.Laws.Closers25b
namespace Go.Proofs.YtnmpbihpoefeoaaDoor
open Go.RowKit Go.Shelf
/-- A number of 64 bits. -/
def U64 (v : Int) : Prop := 0 ≤ v ∧ v < 18446744073709551616
theorem u_wrap (z : Int) : U64 (IntKind.u64.wrap z) := wrap_b z
theorem u_bits (op : BinOp) (a b : Int) : U64 (bits op .u64 a b) := ⟨bits_lo_u64 op a b, by have := bits_hi_u64 op a b; omega⟩
theorem u_tr (b : Bool) : U64 (tr b) := by unfold tr U64; split <;> omega
theorem u_div {a : Int} (h : U64 a) (n : Nat) : U64 (a / 2 ^ n) := by
  obtain ⟨h0, h1⟩ := h
  have p : (0 : Int) < 2 ^ n := Int.pow_pos (by omega)
  exact ⟨Int.ediv_nonneg h0 (Int.le_of_lt p), Int.lt_of_le_of_lt (Int.ediv_le_self _ h0) h1⟩
theorem u_s32 (v : Int) : U64 (s32 v) := s32_range v
theorem u_ite {c : Prop} [Decidable c] {x y : Int} (hx : U64 x) (hy : U64 y) : U64 (if c then x else y) := by
  by_cases h : c
  · rw [if_pos h]; exact hx
  · rw [if_neg h]; exact hy
theorem u_max : U64 18446744073709551615 := ⟨by omega, by omega⟩
theorem u_dvu {a b : Int} (ha : U64 a) (hb : U64 b) : U64 (a / b) := ⟨Int.ediv_nonneg ha.1 hb.1, Int.lt_of_le_of_lt (Int.ediv_le_self _ ha.1) ha.2⟩
theorem u_rmu {a b : Int} (ha : U64 a) (hb : U64 b) : U64 (if b = 0 then a else a % b) := by
  by_cases h : b = 0
  · rw [if_pos h]; exact ha
  · rw [if_neg h]; exact ⟨Int.emod_nonneg _ h, Int.lt_trans (Int.emod_lt_of_pos _ (by have := hb.1; omega)) hb.2⟩
theorem u_D {op a b : Int} (ha : U64 a) (hb : U64 b) : U64 (D op a b) := by
  unfold D dv dvu rm rmu
  repeat' (first | exact u_wrap _ | exact u_max | exact ha | exact u_dvu ha hb | exact u_rmu ha hb | refine u_ite ?_ ?_)
theorem u_hi {a b : Int} (ha : U64 a) (hb : U64 b) : U64 (hi a b) := by
  unfold hi
  have h0 : 0 ≤ a * b := Int.mul_nonneg ha.1 hb.1
  have h1 : a * b ≤ 18446744073709551615 * 18446744073709551615 := Int.mul_le_mul (by have := ha.2; omega) (by have := hb.2; omega) hb.1 (by omega)
  unfold U64
  omega
theorem u_A64 {op a b : Int} (ha : U64 a) (hb : U64 b) : U64 (A64 op a b) := by
  unfold A64
  repeat' (first | exact u_wrap _ | exact u_tr _ | exact u_bits _ _ _ | exact u_div ha _ | exact u_hi ha hb | exact u_D ha hb | refine u_ite ?_ ?_)
theorem u_mod {a n : Int} (_h : U64 a) (hn : 0 < n) (h2 : n < 18446744073709551616) : U64 (a % n) := ⟨Int.emod_nonneg _ (by omega), Int.lt_trans (Int.emod_lt_of_pos _ hn) h2⟩
theorem u_Pv {op a b : Int} (ha : U64 a) (hb : U64 b) : U64 (Pv op a b) := by
  unfold Pv
  repeat' (first | exact u_A64 ha (u_mod hb (by omega) (by omega)) | exact u_A64 (u_mod ha (by omega) (by omega)) (u_mod hb (by omega) (by omega)) | exact u_A64 (u_s32 _) (u_mod hb (by omega) (by omega)) | exact u_A64 (u_s32 _) (u_s32 _) | exact u_A64 ha hb | refine u_ite ?_ ?_)
theorem u_Fv {op a b : Int} (ha : U64 a) (hb : U64 b) : U64 (Fv op a b) := by
  unfold Fv
  split
  · exact u_s32 _
  · exact u_Pv ha hb
theorem u_lsx {op v : Int} (h : U64 v) : U64 (lsx op v) := by
  unfold lsx
  repeat' (first | exact u_wrap _ | exact h | refine u_ite ?_ ?_)
theorem u_lV {ps : List Pgd} {bt : Nat → Nat → Int} (hs : ∀ g j, 0 ≤ bt g j ∧ bt g j < 256) (a n : Int) : U64 (lV ps bt a n) := by
  unfold lV
  split
  · rename_i h
    have hn : n = 1 ∨ n = 2 ∨ n = 4 ∨ n = 8 := by
      unfold lE at h
      split at h
      · assumption
      · cases h
    have hb : isBytes (byts ps bt a n.toNat) := fun x hx => by
      obtain ⟨j, _, rfl⟩ := List.mem_map.1 hx
      exact hs _ _
    have t := sumV_bound _ hb
    rw [byts_len] at t
    refine ⟨t.1, Int.lt_of_lt_of_le t.2 ?_⟩
    rcases hn with rfl | rfl | rfl | rfl <;> decide
  · exact ⟨by omega, by omega⟩
end Go.Proofs.YtnmpbihpoefeoaaDoor
