/- Operations of two numbers: what each makes. -/
import Derived.Test.YtnmpbihpoefeoaaDoorV2
namespace Go.Proofs.YtnmpbihpoefeoaaDoor
open Go.RowKit Go.Shelf
theorem s32_range (v : Int) : 0 ≤ s32 v ∧ s32 v < 18446744073709551616 := by unfold s32 wrap32; omega
theorem lo_range (v : Int) : 0 ≤ v % 4294967296 ∧ v % 4294967296 < 18446744073709551616 := by omega
/-- The highest 64 bits of a product. -/
def hi (a b : Int) : Int := a * b / 18446744073709551616
/-- An operation of 64 bits. -/
def A64 (op a b : Int) : Int :=
  if op = 35 then IntKind.u64.wrap (a + b) else if op = 36 then IntKind.u64.wrap (a - b) else if op = 37 then IntKind.u64.wrap (a * 2 ^ (b % 64).toNat) else if op = 38 then tr (decide (wrap64 a < wrap64 b)) else if op = 39 then tr (decide (a < b))
  else if op = 40 then bits .xor .u64 a b else if op = 41 then a / 2 ^ (b % 64).toNat else if op = 42 then IntKind.u64.wrap (wrap64 a / 2 ^ (b % 64).toNat) else if op = 43 then bits .or .u64 a b else if op = 44 then bits .and .u64 a b
  else if op = 50 then IntKind.u64.wrap (a * b) else if op = 51 then IntKind.u64.wrap (IntKind.u64.wrap (hi a b - neg a b) - neg b a) else if op = 52 then IntKind.u64.wrap (hi a b - neg a b) else if op = 53 then hi a b
  else D op a b
/-- The operation of 64 bits that one of 32 bits, or with a number, comes from. -/
def wOf (op : Int) : Int :=
  if op = 22 then 35 else if op = 23 then 38 else if op = 24 then 39 else if op = 25 then 40 else if op = 26 then 43 else if op = 27 then 44 else if op = 28 then 37 else if op = 29 then 41 else if op = 30 then 42
  else if op = 31 then 35 else if op = 32 then 37 else if op = 33 then 41 else if op = 34 then 42 else if op = 45 then 35 else if op = 46 then 36 else if op = 47 then 37 else if op = 48 then 41 else if op = 49 then 42
  else if op = 58 then 50 else if op = 59 then 54 else if op = 60 then 55 else if op = 61 then 56 else if op = 62 then 57 else op
/-- Is it of 32 bits? -/
def isN32 (op : Int) : Bool := (decide (31 ≤ op) && decide (op ≤ 34)) || ((decide (45 ≤ op) && decide (op ≤ 49)) || (decide (58 ≤ op) && decide (op ≤ 62)))
/-- What the program makes ahead of the last cut to 32 bits. -/
def Pv (op a b : Int) : Int :=
  if op = 32 ∨ op = 47 then A64 37 a (b % 32) else if op = 33 ∨ op = 48 then A64 41 (a % 4294967296) (b % 32) else if op = 34 ∨ op = 49 then A64 42 (s32 a) (b % 32)
  else if op = 59 then A64 54 (s32 a) (s32 b) else if op = 60 then A64 55 (a % 4294967296) (b % 4294967296) else if op = 61 then A64 56 (s32 a) (s32 b) else if op = 62 then A64 57 (a % 4294967296) (b % 4294967296)
  else A64 (wOf op) a b
theorem Pv_22 (a b : Int) : Pv 22 a b = IntKind.u64.wrap (a + b) := rfl
theorem N_22 : isN32 22 = false := rfl
theorem Pv_23 (a b : Int) : Pv 23 a b = tr (decide (wrap64 a < wrap64 b)) := rfl
theorem N_23 : isN32 23 = false := rfl
theorem Pv_24 (a b : Int) : Pv 24 a b = tr (decide (a < b)) := rfl
theorem N_24 : isN32 24 = false := rfl
theorem Pv_25 (a b : Int) : Pv 25 a b = bits .xor .u64 a b := rfl
theorem N_25 : isN32 25 = false := rfl
theorem Pv_26 (a b : Int) : Pv 26 a b = bits .or .u64 a b := rfl
theorem N_26 : isN32 26 = false := rfl
theorem Pv_27 (a b : Int) : Pv 27 a b = bits .and .u64 a b := rfl
theorem N_27 : isN32 27 = false := rfl
theorem Pv_28 (a b : Int) : Pv 28 a b = IntKind.u64.wrap (a * 2 ^ (b % 64).toNat) := rfl
theorem N_28 : isN32 28 = false := rfl
theorem Pv_29 (a b : Int) : Pv 29 a b = a / 2 ^ (b % 64).toNat := rfl
theorem N_29 : isN32 29 = false := rfl
theorem Pv_30 (a b : Int) : Pv 30 a b = IntKind.u64.wrap (wrap64 a / 2 ^ (b % 64).toNat) := rfl
theorem N_30 : isN32 30 = false := rfl
theorem Pv_31 (a b : Int) : Pv 31 a b = IntKind.u64.wrap (a + b) := rfl
theorem N_31 : isN32 31 = true := rfl
theorem Pv_32 (a b : Int) : Pv 32 a b = IntKind.u64.wrap (a * 2 ^ (b % 32 % 64).toNat) := rfl
theorem N_32 : isN32 32 = true := rfl
theorem Pv_33 (a b : Int) : Pv 33 a b = a % 4294967296 / 2 ^ (b % 32 % 64).toNat := rfl
theorem N_33 : isN32 33 = true := rfl
theorem Pv_34 (a b : Int) : Pv 34 a b = IntKind.u64.wrap (wrap64 (s32 a) / 2 ^ (b % 32 % 64).toNat) := rfl
theorem N_34 : isN32 34 = true := rfl
theorem Pv_35 (a b : Int) : Pv 35 a b = IntKind.u64.wrap (a + b) := rfl
theorem N_35 : isN32 35 = false := rfl
theorem Pv_36 (a b : Int) : Pv 36 a b = IntKind.u64.wrap (a - b) := rfl
theorem N_36 : isN32 36 = false := rfl
theorem Pv_37 (a b : Int) : Pv 37 a b = IntKind.u64.wrap (a * 2 ^ (b % 64).toNat) := rfl
theorem N_37 : isN32 37 = false := rfl
theorem Pv_38 (a b : Int) : Pv 38 a b = tr (decide (wrap64 a < wrap64 b)) := rfl
theorem N_38 : isN32 38 = false := rfl
theorem Pv_39 (a b : Int) : Pv 39 a b = tr (decide (a < b)) := rfl
theorem N_39 : isN32 39 = false := rfl
theorem Pv_40 (a b : Int) : Pv 40 a b = bits .xor .u64 a b := rfl
theorem N_40 : isN32 40 = false := rfl
theorem Pv_41 (a b : Int) : Pv 41 a b = a / 2 ^ (b % 64).toNat := rfl
theorem N_41 : isN32 41 = false := rfl
theorem Pv_42 (a b : Int) : Pv 42 a b = IntKind.u64.wrap (wrap64 a / 2 ^ (b % 64).toNat) := rfl
theorem N_42 : isN32 42 = false := rfl
theorem Pv_43 (a b : Int) : Pv 43 a b = bits .or .u64 a b := rfl
theorem N_43 : isN32 43 = false := rfl
theorem Pv_44 (a b : Int) : Pv 44 a b = bits .and .u64 a b := rfl
theorem N_44 : isN32 44 = false := rfl
theorem Pv_45 (a b : Int) : Pv 45 a b = IntKind.u64.wrap (a + b) := rfl
theorem N_45 : isN32 45 = true := rfl
theorem Pv_46 (a b : Int) : Pv 46 a b = IntKind.u64.wrap (a - b) := rfl
theorem N_46 : isN32 46 = true := rfl
theorem Pv_47 (a b : Int) : Pv 47 a b = IntKind.u64.wrap (a * 2 ^ (b % 32 % 64).toNat) := rfl
theorem N_47 : isN32 47 = true := rfl
theorem Pv_48 (a b : Int) : Pv 48 a b = a % 4294967296 / 2 ^ (b % 32 % 64).toNat := rfl
theorem N_48 : isN32 48 = true := rfl
theorem Pv_49 (a b : Int) : Pv 49 a b = IntKind.u64.wrap (wrap64 (s32 a) / 2 ^ (b % 32 % 64).toNat) := rfl
theorem N_49 : isN32 49 = true := rfl
theorem Pv_50 (a b : Int) : Pv 50 a b = IntKind.u64.wrap (a * b) := rfl
theorem N_50 : isN32 50 = false := rfl
theorem Pv_51 (a b : Int) : Pv 51 a b = IntKind.u64.wrap (IntKind.u64.wrap (hi a b - neg a b) - neg b a) := rfl
theorem N_51 : isN32 51 = false := rfl
theorem Pv_52 (a b : Int) : Pv 52 a b = IntKind.u64.wrap (hi a b - neg a b) := rfl
theorem N_52 : isN32 52 = false := rfl
theorem Pv_53 (a b : Int) : Pv 53 a b = hi a b := rfl
theorem N_53 : isN32 53 = false := rfl
theorem Pv_54 (a b : Int) : Pv 54 a b = dv a b := rfl
theorem N_54 : isN32 54 = false := rfl
theorem Pv_55 (a b : Int) : Pv 55 a b = dvu a b := rfl
theorem N_55 : isN32 55 = false := rfl
theorem Pv_56 (a b : Int) : Pv 56 a b = rm a b := rfl
theorem N_56 : isN32 56 = false := rfl
theorem Pv_57 (a b : Int) : Pv 57 a b = rmu a b := rfl
theorem N_57 : isN32 57 = false := rfl
theorem Pv_58 (a b : Int) : Pv 58 a b = IntKind.u64.wrap (a * b) := rfl
theorem N_58 : isN32 58 = true := rfl
theorem Pv_59 (a b : Int) : Pv 59 a b = dv (s32 a) (s32 b) := rfl
theorem N_59 : isN32 59 = true := rfl
theorem Pv_60 (a b : Int) : Pv 60 a b = dvu (a % 4294967296) (b % 4294967296) := rfl
theorem N_60 : isN32 60 = true := rfl
theorem Pv_61 (a b : Int) : Pv 61 a b = rm (s32 a) (s32 b) := rfl
theorem N_61 : isN32 61 = true := rfl
theorem Pv_62 (a b : Int) : Pv 62 a b = rmu (a % 4294967296) (b % 4294967296) := rfl
theorem N_62 : isN32 62 = true := rfl
theorem A_35 (a b : Int) : A64 35 a b = IntKind.u64.wrap (a + b) := rfl
theorem A_36 (a b : Int) : A64 36 a b = IntKind.u64.wrap (a - b) := rfl
theorem A_37 (a b : Int) : A64 37 a b = IntKind.u64.wrap (a * 2 ^ (b % 64).toNat) := rfl
theorem A_38 (a b : Int) : A64 38 a b = tr (decide (wrap64 a < wrap64 b)) := rfl
theorem A_39 (a b : Int) : A64 39 a b = tr (decide (a < b)) := rfl
theorem A_40 (a b : Int) : A64 40 a b = bits .xor .u64 a b := rfl
theorem A_41 (a b : Int) : A64 41 a b = a / 2 ^ (b % 64).toNat := rfl
theorem A_42 (a b : Int) : A64 42 a b = IntKind.u64.wrap (wrap64 a / 2 ^ (b % 64).toNat) := rfl
theorem A_43 (a b : Int) : A64 43 a b = bits .or .u64 a b := rfl
theorem A_44 (a b : Int) : A64 44 a b = bits .and .u64 a b := rfl
theorem A_50 (a b : Int) : A64 50 a b = IntKind.u64.wrap (a * b) := rfl
theorem A_51 (a b : Int) : A64 51 a b = IntKind.u64.wrap (IntKind.u64.wrap (hi a b - neg a b) - neg b a) := rfl
theorem A_52 (a b : Int) : A64 52 a b = IntKind.u64.wrap (hi a b - neg a b) := rfl
theorem A_53 (a b : Int) : A64 53 a b = hi a b := rfl
theorem beq_no {k : Int} (h : (k == k) = false) : False := by simp at h
theorem ret_pb {k : IntKind} {a c : Int} {b d : Bool} (h : a = c) (g : b = d) : Ending.returned (.tuple #[.int k a, .bool b]) = .returned (.tuple #[.int k c, .bool d]) := by rw [h, g]
end Go.Proofs.YtnmpbihpoefeoaaDoor
