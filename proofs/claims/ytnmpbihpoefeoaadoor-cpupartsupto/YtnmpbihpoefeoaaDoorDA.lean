/- Decode, of the words of instructions. -/
import Derived.Test.YtnmpbihpoefeoaaDoorMA
import Derived.Laws.BitsAllLaws
import Derived.KernelRfl
import Derived.WalkKit
import Derived.WalkSpells
import Derived.WalkLawsBesides
import Derived.Deep.QuietTactic
import Derived.BigQuiet
import Derived.WalkSmall
import Derived.LoopTactic
namespace Go.Proofs.YtnmpbihpoefeoaaDoor
open Go.RowKit Go.Shelf
/-- The entry of a list at an operation's number, counted from 1; 0 beyond it. -/
def nth (l : List Int) (op : Int) : Int := if 1 ≤ op then l.getD (op - 1).toNat 0 else 0
def plL : List Int := [85, 85, 74, 76, 66, 66, 66, 66, 66, 66, 76, 76, 76, 76, 76, 76, 76, 83, 83, 83, 83, 73, 73, 73, 73, 73, 73, 72, 72, 72, 73, 87, 87, 87, 82, 82, 82, 82, 82, 82, 82, 82, 82, 82, 82, 82, 82, 82, 82, 82, 82, 82, 82, 82, 82, 82, 82, 82, 82, 82, 82, 82, 78, 78, 78]
def fxL : List Int := [55, 23, 111, 103, 99, 4195, 16483, 20579, 24675, 28771, 3, 4099, 8195, 12291, 16387, 20483, 24579, 35, 4131, 8227, 12323, 19, 8211, 12307, 16403, 24595, 28691, 4115, 20499, 1073762323, 27, 4123, 20507, 1073762331, 51, 1073741875, 4147, 8243, 12339, 16435, 20531, 1073762355, 24627, 28723, 59, 1073741883, 4155, 20539, 1073762363, 33554483, 33558579, 33562675, 33566771, 33570867, 33574963, 33579059, 33583155, 33554491, 33570875, 33574971, 33579067, 33583163, 15, 115, 1048691]
theorem ops_all {op : Int} (h1 : 1 ≤ op) (h2 : op ≤ 65) : op = 1 ∨ op = 2 ∨ op = 3 ∨ op = 4 ∨ op = 5 ∨ op = 6 ∨ op = 7 ∨ op = 8 ∨ op = 9 ∨ op = 10 ∨ op = 11 ∨ op = 12 ∨ op = 13 ∨ op = 14 ∨ op = 15 ∨ op = 16 ∨ op = 17 ∨ op = 18 ∨ op = 19 ∨ op = 20 ∨ op = 21 ∨ op = 22 ∨ op = 23 ∨ op = 24 ∨ op = 25 ∨ op = 26 ∨ op = 27 ∨ op = 28 ∨ op = 29 ∨ op = 30 ∨ op = 31 ∨ op = 32 ∨ op = 33 ∨ op = 34 ∨ op = 35 ∨ op = 36 ∨ op = 37 ∨ op = 38 ∨ op = 39 ∨ op = 40 ∨ op = 41 ∨ op = 42 ∨ op = 43 ∨ op = 44 ∨ op = 45 ∨ op = 46 ∨ op = 47 ∨ op = 48 ∨ op = 49 ∨ op = 50 ∨ op = 51 ∨ op = 52 ∨ op = 53 ∨ op = 54 ∨ op = 55 ∨ op = 56 ∨ op = 57 ∨ op = 58 ∨ op = 59 ∨ op = 60 ∨ op = 61 ∨ op = 62 ∨ op = 63 ∨ op = 64 ∨ op = 65 := by omega
theorem nth_lo (l : List Int) {op : Int} (h : op < 1) : nth l op = 0 := by unfold nth; rw [if_neg (by omega)]
theorem nth_hi {l : List Int} (hl : l.length = 65) {op : Int} (h : 65 < op) : nth l op = 0 := by
  unfold nth; rw [if_pos (by omega), List.getD_eq_getElem?_getD, List.getElem?_eq_none (by omega)]; rfl
def nRd (l : Int) : Bool := l == 82 || l == 73 || l == 76 || l == 72 || l == 87 || l == 85 || l == 74
def nR1 (l : Int) : Bool := l == 82 || l == 73 || l == 76 || l == 72 || l == 87 || l == 83 || l == 66
def nR2 (l : Int) : Bool := l == 82 || l == 83 || l == 66
/-- A letter of a form. -/
def IsL (l : Int) : Prop := l = 85 ∨ l = 74 ∨ l = 73 ∨ l = 76 ∨ l = 72 ∨ l = 87 ∨ l = 83 ∨ l = 66 ∨ l = 82 ∨ l = 78
theorem isL_of {op : Int} (h1 : 1 ≤ op) (h2 : op ≤ 65) : IsL (nth plL op) := by
  have h := ops_all h1 h2
  unfold IsL
  rcases h with rfl | rfl | rfl | rfl | rfl | rfl | rfl | rfl | rfl | rfl | rfl | rfl | rfl | rfl | rfl | rfl | rfl | rfl | rfl | rfl | rfl | rfl | rfl | rfl | rfl | rfl | rfl | rfl | rfl | rfl | rfl | rfl | rfl | rfl | rfl | rfl | rfl | rfl | rfl | rfl | rfl | rfl | rfl | rfl | rfl | rfl | rfl | rfl | rfl | rfl | rfl | rfl | rfl | rfl | rfl | rfl | rfl | rfl | rfl | rfl | rfl | rfl | rfl | rfl | rfl <;> decide
theorem mask32 (k : Nat) (msk p a : Int) (hp : p = ((2 ^ k : Nat) : Int)) (hm : msk = p - 1) (hk : k ≤ 32) (h0 : 0 ≤ a) (h1 : a < 4294967296) : bits .and .u32 a msk = a % p := by
  have e2 : 0 < 2 ^ k := Nat.two_pow_pos k
  have e3 : 2 ^ k ≤ 2 ^ 32 := Nat.pow_le_pow_right (by omega) hk
  subst hm
  rw [u32_and a (p - 1) h0 h1 (by omega) (by omega)]
  have e : (p - 1).toNat = 2 ^ k - 1 := by omega
  rw [e, Nat.and_two_pow_sub_one_eq_mod, Int.natCast_emod, Int.toNat_of_nonneg h0, hp]
/-- Seven fields, the lowest first, of 7, 5, 3, 5, 5, 1 and 6 bits. -/
def S7 (c d f a b g h : Nat) : Nat := c + 2 ^ 7 * (d + 2 ^ 5 * (f + 2 ^ 3 * (a + 2 ^ 5 * (b + 2 ^ 5 * (g + 2 ^ 1 * h)))))
/-- low | high -/
theorem or_lh (i : Nat) (p a b : Int) (hp : p = ((2 ^ i : Nat) : Int)) (ha0 : 0 ≤ a) (ha : a < p) (hb : b % p = 0) (hb0 : 0 ≤ b) (hb1 : b < 4294967296) (ha1 : a < 4294967296) : bits .or .u32 a b = a + b := by
  obtain ⟨x, rfl⟩ := Int.eq_ofNat_of_zero_le ha0
  obtain ⟨y, rfl⟩ := Int.eq_ofNat_of_zero_le hb0
  rw [u32_or_nat x y (by omega) (by omega), Nat.or_comm, nat_join i y x (by subst hp; exact_mod_cast hb) (by subst hp; exact_mod_cast ha)]
  omega
/-- high | low -/
theorem or_hl (i : Nat) (p a b : Int) (hp : p = ((2 ^ i : Nat) : Int)) (hb0 : 0 ≤ b) (hb : b < p) (ha : a % p = 0) (ha0 : 0 ≤ a) (ha1 : a < 4294967296) (hb1 : b < 4294967296) : bits .or .u32 a b = a + b := by
  obtain ⟨x, rfl⟩ := Int.eq_ofNat_of_zero_le ha0
  obtain ⟨y, rfl⟩ := Int.eq_ofNat_of_zero_le hb0
  rw [u32_or_nat x y (by omega) (by omega), nat_join i x y (by subst hp; exact_mod_cast ha) (by subst hp; exact_mod_cast hb)]
  omega
theorem bcell {W w1 : World} (hb : Below W.heap.size W w1) : (∀ b o, b < W.heap.size → w1.cell? ⟨b, o, none⟩ = W.cell? ⟨b, o, none⟩) ∧ (∀ b o, b < W.heap.size → w1.frozen? ⟨b, o, none⟩ = W.frozen? ⟨b, o, none⟩) :=
  ⟨fun b o h => hb.cell (p := ⟨b, o, none⟩) h, fun b o h => hb.frozen (p := ⟨b, o, none⟩) h⟩
set_option maxHeartbeats 4000000 in
theorem formOf26 (op : Int) (w : World) :
    Calls Tryd.prog 58 #[.int .i64 op] w fun e w' => e = .returned (.int .u8 (nth plL op)) ∧ w' = w := by
  rcases Int.lt_or_le op 1 with h1 | h1
  · rw [nth_lo _ h1]
    go_enter Tryd.func58, Tryd.ntmps58
    go_wp2
    all_goals go_ret
    all_goals exact ⟨rfl, rfl⟩
  · rcases Int.lt_or_le 65 op with h2 | h2
    · rw [nth_hi (l := plL) rfl h2]
      go_enter Tryd.func58, Tryd.ntmps58
      go_wp2
      all_goals go_ret
      all_goals exact ⟨rfl, rfl⟩
    · rcases ops_all h1 h2 with rfl | rfl | rfl | rfl | rfl | rfl | rfl | rfl | rfl | rfl | rfl | rfl | rfl | rfl | rfl | rfl | rfl | rfl | rfl | rfl | rfl | rfl | rfl | rfl | rfl | rfl | rfl | rfl | rfl | rfl | rfl | rfl | rfl | rfl | rfl | rfl | rfl | rfl | rfl | rfl | rfl | rfl | rfl | rfl | rfl | rfl | rfl | rfl | rfl | rfl | rfl | rfl | rfl | rfl | rfl | rfl | rfl | rfl | rfl | rfl | rfl | rfl | rfl | rfl | rfl
      all_goals
        go_enter Tryd.func58, Tryd.ntmps58
        go_wp2
        go_ret
        exact ⟨rfl, rfl⟩
set_option maxHeartbeats 4000000 in
theorem registers44 (l : Int) (hl : IsL l) (w : World) :
    Calls Tryd.prog 73 #[.int .u8 l] w fun e w' => e = .returned (.tuple #[.bool (nRd l), .bool (nR1 l), .bool (nR2 l)]) ∧ w' = w := by
  rcases hl with rfl | rfl | rfl | rfl | rfl | rfl | rfl | rfl | rfl | rfl
  all_goals
    go_enter Tryd.func73, Tryd.ntmps73
    go_wp2
    go_ret3
    exact ⟨rfl, rfl⟩
/-- The table of fixed words lies where the program's text lays it. -/
def Tab (w : World) : Prop := 0 < w.heap.size ∧ ∀ k : Int, 1 ≤ k → k ≤ 65 → w.cell? ⟨0, k.toNat, none⟩ = some (.int .u32 (nth fxL k))
theorem Tab.below {w w' : World} (h : Tab w) (hb : Below w.heap.size w w') : Tab w' :=
  ⟨Nat.lt_of_lt_of_le h.1 hb.size, fun k h1 h2 => (hb.cell (p := ⟨0, k.toNat, none⟩) h.1).trans (h.2 k h1 h2)⟩
theorem and_split (k lo hi lo' hi' : Nat) (h : lo < 2 ^ k) (h' : lo' < 2 ^ k) : (lo + 2 ^ k * hi) &&& (lo' + 2 ^ k * hi') = (lo &&& lo') + 2 ^ k * (hi &&& hi') := by
  apply Nat.eq_of_testBit_eq
  intro j
  have hl : lo &&& lo' < 2 ^ k := Nat.and_lt_two_pow _ h'
  rw [Nat.testBit_and, Nat.add_comm lo, Nat.add_comm lo', Nat.add_comm (lo &&& lo'), Nat.testBit_two_pow_mul_add _ h, Nat.testBit_two_pow_mul_add _ h', Nat.testBit_two_pow_mul_add _ hl]
  split <;> simp [Nat.testBit_and]
theorem and_ones (x k : Nat) (h : x < 2 ^ k) : x &&& (2 ^ k - 1) = x := by rw [Nat.and_two_pow_sub_one_eq_mod, Nat.mod_eq_of_lt h]
/-- The bits by which a form's operations are told apart. -/
def mk (l : Int) : Int := if l = 85 ∨ l = 74 then 127 else if l = 73 ∨ l = 76 ∨ l = 83 ∨ l = 66 then 28799 else if l = 72 then 4227887231 else if l = 87 ∨ l = 82 then 4261441663 else 4294967295
/-- What they are in a word. -/
def andM (l w : Int) : Int := if l = 85 ∨ l = 74 then w % 128 else if l = 73 ∨ l = 76 ∨ l = 83 ∨ l = 66 then w % 128 + w / 4096 % 8 * 4096 else if l = 72 then w % 128 + w / 4096 % 8 * 4096 + w / 67108864 * 67108864 else if l = 87 ∨ l = 82 then w % 128 + w / 4096 % 8 * 4096 + w / 33554432 * 33554432 else w
theorem S7_and {c d f a b g h c' d' f' a' b' g' h' : Nat} (h1 : c < 128) (h2 : d < 32) (h3 : f < 8) (h4 : a < 32) (h5 : b < 32) (h6 : g < 2) (k1 : c' < 128) (k2 : d' < 32) (k3 : f' < 8) (k4 : a' < 32) (k5 : b' < 32) (k6 : g' < 2) :
    S7 c d f a b g h &&& S7 c' d' f' a' b' g' h' = S7 (c &&& c') (d &&& d') (f &&& f') (a &&& a') (b &&& b') (g &&& g') (h &&& h') := by
  unfold S7
  rw [and_split 7 _ _ _ _ h1 k1, and_split 5 _ _ _ _ h2 k2, and_split 3 _ _ _ _ h3 k3, and_split 5 _ _ _ _ h4 k4, and_split 5 _ _ _ _ h5 k5, and_split 1 _ _ _ _ h6 k6]
theorem and_fields (x g' h' : Nat) (hx : x < 4294967296) (hg : g' < 2) : x &&& S7 127 0 7 0 0 g' h' = S7 (x % 128) 0 (x / 4096 % 8) 0 0 (x / 33554432 % 2 &&& g') (x / 67108864 &&& h') := by
  have ex : x = S7 (x % 128) (x / 128 % 32) (x / 4096 % 8) (x / 32768 % 32) (x / 1048576 % 32) (x / 33554432 % 2) (x / 67108864) := by unfold S7; omega
  have e := S7_and (c := x % 128) (d := x / 128 % 32) (f := x / 4096 % 8) (a := x / 32768 % 32) (b := x / 1048576 % 32) (g := x / 33554432 % 2) (h := x / 67108864) (c' := 127) (d' := 0) (f' := 7) (a' := 0) (b' := 0) (g' := g') (h' := h') (by omega) (by omega) (by omega) (by omega) (by omega) (by omega) (by omega) (by omega) (by omega) (by omega) (by omega) hg
  rw [← ex] at e
  rw [e, and_ones (x % 128) 7 (by omega), and_ones (x / 4096 % 8) 3 (by omega)]
  simp
theorem and_mk (l w : Int) (hl : IsL l) (h0 : 0 ≤ w) (h1 : w < 4294967296) : bits .and .u32 w (mk l) = andM l w := by
  obtain ⟨x, rfl⟩ := Int.eq_ofNat_of_zero_le h0
  have hx : x < 4294967296 := by omega
  have a0 := and_fields x 0 0 hx (by omega)
  have a1 := and_fields x 0 63 hx (by omega)
  have a2 := and_fields x 1 63 hx (by omega)
  rw [and_ones (x / 67108864) 6 (by omega)] at a1 a2
  rw [and_ones (x / 33554432 % 2) 1 (by omega)] at a2
  rw [Nat.and_zero] at a0 a1
  rw [Nat.and_zero] at a0
  have u0 : bits .and .u32 (x : Int) 28799 = ((x &&& S7 127 0 7 0 0 0 0 : Nat) : Int) := u32_and_nat x 28799 hx (by omega)
  have u1 : bits .and .u32 (x : Int) 4227887231 = ((x &&& S7 127 0 7 0 0 0 63 : Nat) : Int) := u32_and_nat x 4227887231 hx (by omega)
  have u2 : bits .and .u32 (x : Int) 4261441663 = ((x &&& S7 127 0 7 0 0 1 63 : Nat) : Int) := u32_and_nat x 4261441663 hx (by omega)
  have u3 : bits .and .u32 (x : Int) 127 = (x : Int) % 128 := mask32 7 127 128 x rfl rfl (by omega) (by omega) (by omega)
  have u4 : bits .and .u32 (x : Int) 4294967295 = (x : Int) % 4294967296 := mask32 32 4294967295 4294967296 x rfl rfl (by omega) (by omega) (by omega)
  rw [a0] at u0
  rw [a1] at u1
  rw [a2] at u2
  unfold S7 at u0 u1 u2
  rcases hl with rfl | rfl | rfl | rfl | rfl | rfl | rfl | rfl | rfl | rfl
  · exact u3
  · exact u3
  · show bits .and .u32 (x : Int) 28799 = (x : Int) % 128 + (x : Int) / 4096 % 8 * 4096; rw [u0]; omega
  · show bits .and .u32 (x : Int) 28799 = (x : Int) % 128 + (x : Int) / 4096 % 8 * 4096; rw [u0]; omega
  · show bits .and .u32 (x : Int) 4227887231 = (x : Int) % 128 + (x : Int) / 4096 % 8 * 4096 + (x : Int) / 67108864 * 67108864; rw [u1]; omega
  · show bits .and .u32 (x : Int) 4261441663 = (x : Int) % 128 + (x : Int) / 4096 % 8 * 4096 + (x : Int) / 33554432 * 33554432; rw [u2]; omega
  · show bits .and .u32 (x : Int) 28799 = (x : Int) % 128 + (x : Int) / 4096 % 8 * 4096; rw [u0]; omega
  · show bits .and .u32 (x : Int) 28799 = (x : Int) % 128 + (x : Int) / 4096 % 8 * 4096; rw [u0]; omega
  · show bits .and .u32 (x : Int) 4261441663 = (x : Int) % 128 + (x : Int) / 4096 % 8 * 4096 + (x : Int) / 33554432 * 33554432; rw [u2]; omega
  · show bits .and .u32 (x : Int) 4294967295 = (x : Int); rw [u4]; omega
/-- Some bits of a word, moved. -/
def pv (l c a w : Int) : Int := w / 2 ^ l.toNat % 2 ^ c.toNat * 2 ^ a.toNat
theorem pv_25_7_0 (w : Int) : pv 25 7 0 w = w / 33554432 % 128 := by simp [pv]
theorem pv_12_2_0 (w : Int) : pv 12 2 0 w = w / 4096 % 4 := by simp [pv]
theorem pv_0_7_0 (w : Int) : pv 0 7 0 w = w % 128 := by simp [pv]
theorem pv_12_20_0 (w : Int) : pv 12 20 0 w = w / 4096 % 1048576 := by simp [pv]
theorem pv_12_8_12 (w : Int) : pv 12 8 12 w = w / 4096 % 256 * 4096 := by simp [pv]
theorem pv_20_1_11 (w : Int) : pv 20 1 11 w = w / 1048576 % 2 * 2048 := by simp [pv]
theorem pv_21_10_1 (w : Int) : pv 21 10 1 w = w / 2097152 % 1024 * 2 := by simp [pv]
theorem pv_31_1_20 (w : Int) : pv 31 1 20 w = w / 2147483648 % 2 * 1048576 := by simp [pv]
theorem pv_20_12_0 (w : Int) : pv 20 12 0 w = w / 1048576 % 4096 := by simp [pv]
theorem pv_20_6_0 (w : Int) : pv 20 6 0 w = w / 1048576 % 64 := by simp [pv]
theorem pv_20_5_0 (w : Int) : pv 20 5 0 w = w / 1048576 % 32 := by simp [pv]
theorem pv_7_5_0 (w : Int) : pv 7 5 0 w = w / 128 % 32 := by simp [pv]
theorem pv_25_7_5 (w : Int) : pv 25 7 5 w = w / 33554432 % 128 * 32 := by simp [pv]
theorem pv_8_4_1 (w : Int) : pv 8 4 1 w = w / 256 % 16 * 2 := by simp [pv]
theorem pv_25_6_5 (w : Int) : pv 25 6 5 w = w / 33554432 % 64 * 32 := by simp [pv]
theorem pv_7_1_11 (w : Int) : pv 7 1 11 w = w / 128 % 2 * 2048 := by simp [pv]
theorem pv_31_1_12 (w : Int) : pv 31 1 12 w = w / 2147483648 % 2 * 4096 := by simp [pv]
theorem pv_15_5_0 (w : Int) : pv 15 5 0 w = w / 32768 % 32 := by simp [pv]
/-- The numbers with which bits are asked for. -/
def Pt (l c a : Int) : Prop := (l = 25 ∧ c = 7 ∧ a = 0) ∨ (l = 12 ∧ c = 2 ∧ a = 0) ∨ (l = 0 ∧ c = 7 ∧ a = 0) ∨ (l = 12 ∧ c = 20 ∧ a = 0) ∨ (l = 12 ∧ c = 8 ∧ a = 12) ∨ (l = 20 ∧ c = 1 ∧ a = 11) ∨ (l = 21 ∧ c = 10 ∧ a = 1) ∨ (l = 31 ∧ c = 1 ∧ a = 20) ∨ (l = 20 ∧ c = 12 ∧ a = 0) ∨ (l = 20 ∧ c = 6 ∧ a = 0) ∨ (l = 20 ∧ c = 5 ∧ a = 0) ∨ (l = 7 ∧ c = 5 ∧ a = 0) ∨ (l = 25 ∧ c = 7 ∧ a = 5) ∨ (l = 8 ∧ c = 4 ∧ a = 1) ∨ (l = 25 ∧ c = 6 ∧ a = 5) ∨ (l = 7 ∧ c = 1 ∧ a = 11) ∨ (l = 31 ∧ c = 1 ∧ a = 12) ∨ (l = 15 ∧ c = 5 ∧ a = 0)
/-- A number of so many bits, with its sign. -/
def sg (b n : Int) : Int := if n < 2 ^ (b - 1).toNat then n else n - 2 ^ b.toNat
theorem sg_12 (n : Int) : sg 12 n = if n < 2048 then n else n - 4096 := rfl
theorem sg_13 (n : Int) : sg 13 n = if n < 4096 then n else n - 8192 := rfl
theorem sg_20 (n : Int) : sg 20 n = if n < 524288 then n else n - 1048576 := rfl
theorem sg_21 (n : Int) : sg 21 n = if n < 1048576 then n else n - 2097152 := rfl
/-- The bits of a number as a form has them in a word. -/
def raw (l w : Int) : Int :=
  if l = 85 then w / 4096 % 1048576
  else if l = 74 then w / 4096 % 256 * 4096 + w / 1048576 % 2 * 2048 + w / 2097152 % 1024 * 2 + w / 2147483648 % 2 * 1048576
  else if l = 73 ∨ l = 76 then w / 1048576 % 4096
  else if l = 72 then w / 1048576 % 64
  else if l = 87 then w / 1048576 % 32
  else if l = 83 then w / 128 % 32 + w / 33554432 % 128 * 32
  else if l = 66 then w / 256 % 16 * 2 + w / 33554432 % 64 * 32 + w / 128 % 2 * 2048 + w / 2147483648 % 2 * 4096
  else 0
/-- The number that a word of a form has. -/
def gth (l w : Int) : Int :=
  if l = 85 then sg 20 (raw l w) else if l = 74 then sg 21 (raw l w) else if l = 73 ∨ l = 76 ∨ l = 83 then sg 12 (raw l w) else if l = 66 then sg 13 (raw l w) else raw l w
theorem raw_J (w : Int) : bits .or .u32 (bits .or .u32 (bits .or .u32 (w / 4096 % 256 * 4096) (w / 1048576 % 2 * 2048)) (w / 2097152 % 1024 * 2)) (w / 2147483648 % 2 * 1048576) = raw 74 w := by
  show _ = w / 4096 % 256 * 4096 + w / 1048576 % 2 * 2048 + w / 2097152 % 1024 * 2 + w / 2147483648 % 2 * 1048576
  have c1 : 0 ≤ w / 4096 % 256 ∧ w / 4096 % 256 < 256 := by omega
  have c2 : 0 ≤ w / 1048576 % 2 ∧ w / 1048576 % 2 < 2 := by omega
  have c3 : 0 ≤ w / 2097152 % 1024 ∧ w / 2097152 % 1024 < 1024 := by omega
  have c4 : 0 ≤ w / 2147483648 % 2 ∧ w / 2147483648 % 2 < 2 := by omega
  generalize w / 4096 % 256 = x at *
  generalize w / 1048576 % 2 = y at *
  generalize w / 2097152 % 1024 = z at *
  generalize w / 2147483648 % 2 = t at *
  rw [or_hl 12 4096 (x * 4096) (y * 2048) rfl (by omega) (by omega) (by omega) (by omega) (by omega) (by omega), or_hl 11 2048 (x * 4096 + y * 2048) (z * 2) rfl (by omega) (by omega) (by omega) (by omega) (by omega) (by omega), or_lh 20 1048576 (x * 4096 + y * 2048 + z * 2) (t * 1048576) rfl (by omega) (by omega) (by omega) (by omega) (by omega) (by omega)]
theorem raw_S (w : Int) : bits .or .u32 (w / 128 % 32) (w / 33554432 % 128 * 32) = raw 83 w := by
  show _ = w / 128 % 32 + w / 33554432 % 128 * 32
  rw [or_lh 5 32 (w / 128 % 32) (w / 33554432 % 128 * 32) rfl (by omega) (by omega) (by omega) (by omega) (by omega) (by omega)]
theorem raw_B (w : Int) : bits .or .u32 (bits .or .u32 (bits .or .u32 (w / 256 % 16 * 2) (w / 33554432 % 64 * 32)) (w / 128 % 2 * 2048)) (w / 2147483648 % 2 * 4096) = raw 66 w := by
  show _ = w / 256 % 16 * 2 + w / 33554432 % 64 * 32 + w / 128 % 2 * 2048 + w / 2147483648 % 2 * 4096
  have c1 : 0 ≤ w / 256 % 16 ∧ w / 256 % 16 < 16 := by omega
  have c2 : 0 ≤ w / 33554432 % 64 ∧ w / 33554432 % 64 < 64 := by omega
  have c3 : 0 ≤ w / 128 % 2 ∧ w / 128 % 2 < 2 := by omega
  have c4 : 0 ≤ w / 2147483648 % 2 ∧ w / 2147483648 % 2 < 2 := by omega
  generalize w / 256 % 16 = x at *
  generalize w / 33554432 % 64 = y at *
  generalize w / 128 % 2 = z at *
  generalize w / 2147483648 % 2 = t at *
  rw [or_lh 5 32 (x * 2) (y * 32) rfl (by omega) (by omega) (by omega) (by omega) (by omega) (by omega), or_lh 11 2048 (x * 2 + y * 32) (z * 2048) rfl (by omega) (by omega) (by omega) (by omega) (by omega) (by omega), or_lh 12 4096 (x * 2 + y * 32 + z * 2048) (t * 4096) rfl (by omega) (by omega) (by omega) (by omega) (by omega) (by omega)]
/-- The first and the last operation that a word may be of. -/
def cF (w : Int) : Int := if w % 128 = 55 ∨ w % 128 = 23 then 1 else if w % 128 = 111 then 3 else if w % 128 = 103 then 4 else if w % 128 = 99 then 5 else if w % 128 = 3 then 11 else if w % 128 = 35 then 18
  else if w % 128 = 19 ∧ w / 4096 % 4 = 1 then 28 else if w % 128 = 19 then 22 else if w % 128 = 27 then 31 else if w % 128 = 51 ∧ w / 33554432 % 128 = 1 then 50 else if w % 128 = 51 then 35 else if w % 128 = 59 ∧ w / 33554432 % 128 = 1 then 58 else if w % 128 = 59 then 45 else 63
def cL (w : Int) : Int := if w % 128 = 55 ∨ w % 128 = 23 then 2 else if w % 128 = 111 then 3 else if w % 128 = 103 then 4 else if w % 128 = 99 then 10 else if w % 128 = 3 then 17 else if w % 128 = 35 then 21
  else if w % 128 = 19 ∧ w / 4096 % 4 = 1 then 30 else if w % 128 = 19 then 27 else if w % 128 = 27 then 34 else if w % 128 = 51 ∧ w / 33554432 % 128 = 1 then 57 else if w % 128 = 51 then 44 else if w % 128 = 59 ∧ w / 33554432 % 128 = 1 then 62 else if w % 128 = 59 then 49 else 65
theorem cF_pos (w : Int) : 1 ≤ cF w := by unfold cF; (repeat' split) <;> omega
theorem cL_le (w : Int) : cL w ≤ 65 := by unfold cL; (repeat' split) <;> omega
/-- Is a word one of an operation's? -/
def mt (op w : Int) : Bool := andM (nth plL op) w == nth fxL op
/-- The registers that a word has for a form. -/
def gRd (l n : Int) : Int := if nRd l then n / 128 % 32 else 0
def gR1 (l n : Int) : Int := if nR1 l then n / 32768 % 32 else 0
def gR2 (l n : Int) : Int := if nR2 l then n / 1048576 % 32 else 0
set_option maxHeartbeats 600000 in
theorem part42_25_7_0 (n : Int) (h0 : 0 ≤ n) (h1 : n < 4294967296) (w : World) : Calls Tryd.prog 71 #[.int .u32 n, .int .u64 25, .int .u64 7, .int .u64 0] w fun e w' => e = .returned (.int .u32 (pv 25 7 0 n)) ∧ w' = w := by
  go_enter Tryd.func71, Tryd.ntmps71
  go_wp2
  go_ret
  exact ⟨ret_int (by rw [pv_25_7_0, mask32 7 127 128 _ rfl rfl (by omega) (by omega) (by omega)]; omega), rfl⟩
set_option maxHeartbeats 600000 in
theorem part42_12_2_0 (n : Int) (h0 : 0 ≤ n) (h1 : n < 4294967296) (w : World) : Calls Tryd.prog 71 #[.int .u32 n, .int .u64 12, .int .u64 2, .int .u64 0] w fun e w' => e = .returned (.int .u32 (pv 12 2 0 n)) ∧ w' = w := by
  go_enter Tryd.func71, Tryd.ntmps71
  go_wp2
  go_ret
  exact ⟨ret_int (by rw [pv_12_2_0, mask32 2 3 4 _ rfl rfl (by omega) (by omega) (by omega)]; omega), rfl⟩
set_option maxHeartbeats 600000 in
theorem part42_0_7_0 (n : Int) (h0 : 0 ≤ n) (h1 : n < 4294967296) (w : World) : Calls Tryd.prog 71 #[.int .u32 n, .int .u64 0, .int .u64 7, .int .u64 0] w fun e w' => e = .returned (.int .u32 (pv 0 7 0 n)) ∧ w' = w := by
  go_enter Tryd.func71, Tryd.ntmps71
  go_wp2
  go_ret
  exact ⟨ret_int (by rw [pv_0_7_0, mask32 7 127 128 _ rfl rfl (by omega) (by omega) (by omega)]; omega), rfl⟩
set_option maxHeartbeats 600000 in
theorem part42_12_20_0 (n : Int) (h0 : 0 ≤ n) (h1 : n < 4294967296) (w : World) : Calls Tryd.prog 71 #[.int .u32 n, .int .u64 12, .int .u64 20, .int .u64 0] w fun e w' => e = .returned (.int .u32 (pv 12 20 0 n)) ∧ w' = w := by
  go_enter Tryd.func71, Tryd.ntmps71
  go_wp2
  go_ret
  exact ⟨ret_int (by rw [pv_12_20_0, mask32 20 1048575 1048576 _ rfl rfl (by omega) (by omega) (by omega)]; omega), rfl⟩
set_option maxHeartbeats 600000 in
theorem part42_12_8_12 (n : Int) (h0 : 0 ≤ n) (h1 : n < 4294967296) (w : World) : Calls Tryd.prog 71 #[.int .u32 n, .int .u64 12, .int .u64 8, .int .u64 12] w fun e w' => e = .returned (.int .u32 (pv 12 8 12 n)) ∧ w' = w := by
  go_enter Tryd.func71, Tryd.ntmps71
  go_wp2
  go_ret
  exact ⟨ret_int (by rw [pv_12_8_12, mask32 8 255 256 _ rfl rfl (by omega) (by omega) (by omega)]; omega), rfl⟩
set_option maxHeartbeats 600000 in
theorem part42_20_1_11 (n : Int) (h0 : 0 ≤ n) (h1 : n < 4294967296) (w : World) : Calls Tryd.prog 71 #[.int .u32 n, .int .u64 20, .int .u64 1, .int .u64 11] w fun e w' => e = .returned (.int .u32 (pv 20 1 11 n)) ∧ w' = w := by
  go_enter Tryd.func71, Tryd.ntmps71
  go_wp2
  go_ret
  exact ⟨ret_int (by rw [pv_20_1_11, mask32 1 1 2 _ rfl rfl (by omega) (by omega) (by omega)]; omega), rfl⟩
set_option maxHeartbeats 600000 in
theorem part42_21_10_1 (n : Int) (h0 : 0 ≤ n) (h1 : n < 4294967296) (w : World) : Calls Tryd.prog 71 #[.int .u32 n, .int .u64 21, .int .u64 10, .int .u64 1] w fun e w' => e = .returned (.int .u32 (pv 21 10 1 n)) ∧ w' = w := by
  go_enter Tryd.func71, Tryd.ntmps71
  go_wp2
  go_ret
  exact ⟨ret_int (by rw [pv_21_10_1, mask32 10 1023 1024 _ rfl rfl (by omega) (by omega) (by omega)]; omega), rfl⟩
set_option maxHeartbeats 600000 in
theorem part42_31_1_20 (n : Int) (h0 : 0 ≤ n) (h1 : n < 4294967296) (w : World) : Calls Tryd.prog 71 #[.int .u32 n, .int .u64 31, .int .u64 1, .int .u64 20] w fun e w' => e = .returned (.int .u32 (pv 31 1 20 n)) ∧ w' = w := by
  go_enter Tryd.func71, Tryd.ntmps71
  go_wp2
  go_ret
  exact ⟨ret_int (by rw [pv_31_1_20, mask32 1 1 2 _ rfl rfl (by omega) (by omega) (by omega)]; omega), rfl⟩
set_option maxHeartbeats 600000 in
theorem part42_20_12_0 (n : Int) (h0 : 0 ≤ n) (h1 : n < 4294967296) (w : World) : Calls Tryd.prog 71 #[.int .u32 n, .int .u64 20, .int .u64 12, .int .u64 0] w fun e w' => e = .returned (.int .u32 (pv 20 12 0 n)) ∧ w' = w := by
  go_enter Tryd.func71, Tryd.ntmps71
  go_wp2
  go_ret
  exact ⟨ret_int (by rw [pv_20_12_0, mask32 12 4095 4096 _ rfl rfl (by omega) (by omega) (by omega)]; omega), rfl⟩
set_option maxHeartbeats 600000 in
theorem part42_20_6_0 (n : Int) (h0 : 0 ≤ n) (h1 : n < 4294967296) (w : World) : Calls Tryd.prog 71 #[.int .u32 n, .int .u64 20, .int .u64 6, .int .u64 0] w fun e w' => e = .returned (.int .u32 (pv 20 6 0 n)) ∧ w' = w := by
  go_enter Tryd.func71, Tryd.ntmps71
  go_wp2
  go_ret
  exact ⟨ret_int (by rw [pv_20_6_0, mask32 6 63 64 _ rfl rfl (by omega) (by omega) (by omega)]; omega), rfl⟩
set_option maxHeartbeats 600000 in
theorem part42_20_5_0 (n : Int) (h0 : 0 ≤ n) (h1 : n < 4294967296) (w : World) : Calls Tryd.prog 71 #[.int .u32 n, .int .u64 20, .int .u64 5, .int .u64 0] w fun e w' => e = .returned (.int .u32 (pv 20 5 0 n)) ∧ w' = w := by
  go_enter Tryd.func71, Tryd.ntmps71
  go_wp2
  go_ret
  exact ⟨ret_int (by rw [pv_20_5_0, mask32 5 31 32 _ rfl rfl (by omega) (by omega) (by omega)]; omega), rfl⟩
set_option maxHeartbeats 600000 in
theorem part42_7_5_0 (n : Int) (h0 : 0 ≤ n) (h1 : n < 4294967296) (w : World) : Calls Tryd.prog 71 #[.int .u32 n, .int .u64 7, .int .u64 5, .int .u64 0] w fun e w' => e = .returned (.int .u32 (pv 7 5 0 n)) ∧ w' = w := by
  go_enter Tryd.func71, Tryd.ntmps71
  go_wp2
  go_ret
  exact ⟨ret_int (by rw [pv_7_5_0, mask32 5 31 32 _ rfl rfl (by omega) (by omega) (by omega)]; omega), rfl⟩
set_option maxHeartbeats 600000 in
theorem part42_25_7_5 (n : Int) (h0 : 0 ≤ n) (h1 : n < 4294967296) (w : World) : Calls Tryd.prog 71 #[.int .u32 n, .int .u64 25, .int .u64 7, .int .u64 5] w fun e w' => e = .returned (.int .u32 (pv 25 7 5 n)) ∧ w' = w := by
  go_enter Tryd.func71, Tryd.ntmps71
  go_wp2
  go_ret
  exact ⟨ret_int (by rw [pv_25_7_5, mask32 7 127 128 _ rfl rfl (by omega) (by omega) (by omega)]; omega), rfl⟩
set_option maxHeartbeats 600000 in
theorem part42_8_4_1 (n : Int) (h0 : 0 ≤ n) (h1 : n < 4294967296) (w : World) : Calls Tryd.prog 71 #[.int .u32 n, .int .u64 8, .int .u64 4, .int .u64 1] w fun e w' => e = .returned (.int .u32 (pv 8 4 1 n)) ∧ w' = w := by
  go_enter Tryd.func71, Tryd.ntmps71
  go_wp2
  go_ret
  exact ⟨ret_int (by rw [pv_8_4_1, mask32 4 15 16 _ rfl rfl (by omega) (by omega) (by omega)]; omega), rfl⟩
set_option maxHeartbeats 600000 in
theorem part42_25_6_5 (n : Int) (h0 : 0 ≤ n) (h1 : n < 4294967296) (w : World) : Calls Tryd.prog 71 #[.int .u32 n, .int .u64 25, .int .u64 6, .int .u64 5] w fun e w' => e = .returned (.int .u32 (pv 25 6 5 n)) ∧ w' = w := by
  go_enter Tryd.func71, Tryd.ntmps71
  go_wp2
  go_ret
  exact ⟨ret_int (by rw [pv_25_6_5, mask32 6 63 64 _ rfl rfl (by omega) (by omega) (by omega)]; omega), rfl⟩
set_option maxHeartbeats 600000 in
theorem part42_7_1_11 (n : Int) (h0 : 0 ≤ n) (h1 : n < 4294967296) (w : World) : Calls Tryd.prog 71 #[.int .u32 n, .int .u64 7, .int .u64 1, .int .u64 11] w fun e w' => e = .returned (.int .u32 (pv 7 1 11 n)) ∧ w' = w := by
  go_enter Tryd.func71, Tryd.ntmps71
  go_wp2
  go_ret
  exact ⟨ret_int (by rw [pv_7_1_11, mask32 1 1 2 _ rfl rfl (by omega) (by omega) (by omega)]; omega), rfl⟩
set_option maxHeartbeats 600000 in
theorem part42_31_1_12 (n : Int) (h0 : 0 ≤ n) (h1 : n < 4294967296) (w : World) : Calls Tryd.prog 71 #[.int .u32 n, .int .u64 31, .int .u64 1, .int .u64 12] w fun e w' => e = .returned (.int .u32 (pv 31 1 12 n)) ∧ w' = w := by
  go_enter Tryd.func71, Tryd.ntmps71
  go_wp2
  go_ret
  exact ⟨ret_int (by rw [pv_31_1_12, mask32 1 1 2 _ rfl rfl (by omega) (by omega) (by omega)]; omega), rfl⟩
set_option maxHeartbeats 600000 in
theorem part42_15_5_0 (n : Int) (h0 : 0 ≤ n) (h1 : n < 4294967296) (w : World) : Calls Tryd.prog 71 #[.int .u32 n, .int .u64 15, .int .u64 5, .int .u64 0] w fun e w' => e = .returned (.int .u32 (pv 15 5 0 n)) ∧ w' = w := by
  go_enter Tryd.func71, Tryd.ntmps71
  go_wp2
  go_ret
  exact ⟨ret_int (by rw [pv_15_5_0, mask32 5 31 32 _ rfl rfl (by omega) (by omega) (by omega)]; omega), rfl⟩
theorem part42 (n l c a : Int) (h : Pt l c a) (h0 : 0 ≤ n) (h1 : n < 4294967296) (w : World) : Calls Tryd.prog 71 #[.int .u32 n, .int .u64 l, .int .u64 c, .int .u64 a] w fun e w' => e = .returned (.int .u32 (pv l c a n)) ∧ w' = w := by
  rcases h with ⟨rfl, rfl, rfl⟩ | ⟨rfl, rfl, rfl⟩ | ⟨rfl, rfl, rfl⟩ | ⟨rfl, rfl, rfl⟩ | ⟨rfl, rfl, rfl⟩ | ⟨rfl, rfl, rfl⟩ | ⟨rfl, rfl, rfl⟩ | ⟨rfl, rfl, rfl⟩ | ⟨rfl, rfl, rfl⟩ | ⟨rfl, rfl, rfl⟩ | ⟨rfl, rfl, rfl⟩ | ⟨rfl, rfl, rfl⟩ | ⟨rfl, rfl, rfl⟩ | ⟨rfl, rfl, rfl⟩ | ⟨rfl, rfl, rfl⟩ | ⟨rfl, rfl, rfl⟩ | ⟨rfl, rfl, rfl⟩ | ⟨rfl, rfl, rfl⟩
  · exact part42_25_7_0 n h0 h1 w
  · exact part42_12_2_0 n h0 h1 w
  · exact part42_0_7_0 n h0 h1 w
  · exact part42_12_20_0 n h0 h1 w
  · exact part42_12_8_12 n h0 h1 w
  · exact part42_20_1_11 n h0 h1 w
  · exact part42_21_10_1 n h0 h1 w
  · exact part42_31_1_20 n h0 h1 w
  · exact part42_20_12_0 n h0 h1 w
  · exact part42_20_6_0 n h0 h1 w
  · exact part42_20_5_0 n h0 h1 w
  · exact part42_7_5_0 n h0 h1 w
  · exact part42_25_7_5 n h0 h1 w
  · exact part42_8_4_1 n h0 h1 w
  · exact part42_25_6_5 n h0 h1 w
  · exact part42_7_1_11 n h0 h1 w
  · exact part42_31_1_12 n h0 h1 w
  · exact part42_15_5_0 n h0 h1 w
set_option maxHeartbeats 600000 in
theorem signed56_12 (n : Int) (h0 : 0 ≤ n) (h1 : n < 4096) (w : World) : Calls Tryd.prog 85 #[.int .u32 n, .int .u64 12] w fun e w' => e = .returned (.int .i64 (sg 12 n)) ∧ w' = w := by
  rw [sg_12]
  by_cases hs : n < 2048
  · rw [if_pos hs]
    go_enter Tryd.func85, Tryd.ntmps85
    go_wp2
    go_ret
    refine ⟨ret_int ?_, rfl⟩
    rfl
  · rw [if_neg hs]
    go_enter Tryd.func85, Tryd.ntmps85
    go_wp2
    go_ret
    refine ⟨ret_int ?_, rfl⟩
    unfold wrap64 wrap32
    omega
set_option maxHeartbeats 600000 in
theorem signed56_13 (n : Int) (h0 : 0 ≤ n) (h1 : n < 8192) (w : World) : Calls Tryd.prog 85 #[.int .u32 n, .int .u64 13] w fun e w' => e = .returned (.int .i64 (sg 13 n)) ∧ w' = w := by
  rw [sg_13]
  by_cases hs : n < 4096
  · rw [if_pos hs]
    go_enter Tryd.func85, Tryd.ntmps85
    go_wp2
    go_ret
    refine ⟨ret_int ?_, rfl⟩
    rfl
  · rw [if_neg hs]
    go_enter Tryd.func85, Tryd.ntmps85
    go_wp2
    go_ret
    refine ⟨ret_int ?_, rfl⟩
    unfold wrap64 wrap32
    omega
set_option maxHeartbeats 600000 in
theorem signed56_20 (n : Int) (h0 : 0 ≤ n) (h1 : n < 1048576) (w : World) : Calls Tryd.prog 85 #[.int .u32 n, .int .u64 20] w fun e w' => e = .returned (.int .i64 (sg 20 n)) ∧ w' = w := by
  rw [sg_20]
  by_cases hs : n < 524288
  · rw [if_pos hs]
    go_enter Tryd.func85, Tryd.ntmps85
    go_wp2
    go_ret
    refine ⟨ret_int ?_, rfl⟩
    rfl
  · rw [if_neg hs]
    go_enter Tryd.func85, Tryd.ntmps85
    go_wp2
    go_ret
    refine ⟨ret_int ?_, rfl⟩
    unfold wrap64 wrap32
    omega
set_option maxHeartbeats 600000 in
theorem signed56_21 (n : Int) (h0 : 0 ≤ n) (h1 : n < 2097152) (w : World) : Calls Tryd.prog 85 #[.int .u32 n, .int .u64 21] w fun e w' => e = .returned (.int .i64 (sg 21 n)) ∧ w' = w := by
  rw [sg_21]
  by_cases hs : n < 1048576
  · rw [if_pos hs]
    go_enter Tryd.func85, Tryd.ntmps85
    go_wp2
    go_ret
    refine ⟨ret_int ?_, rfl⟩
    rfl
  · rw [if_neg hs]
    go_enter Tryd.func85, Tryd.ntmps85
    go_wp2
    go_ret
    refine ⟨ret_int ?_, rfl⟩
    unfold wrap64 wrap32
    omega
set_option maxHeartbeats 4000000 in
theorem mask31 (l : Int) (hl : IsL l) (w : World) :
    Calls Tryd.prog 59 #[.int .u8 l] w fun e w' => e = .returned (.int .u32 (mk l)) ∧ w' = w := by
  rcases hl with rfl | rfl | rfl | rfl | rfl | rfl | rfl | rfl | rfl | rfl
  all_goals
    go_enter Tryd.func59, Tryd.ntmps59
    go_wp2
    go_ret
    exact ⟨rfl, rfl⟩
theorem ret_two {a b c d : Int} (h : a = c) (k : b = d) : Ending.returned (.tuple #[.int .i64 a, .int .i64 b]) = .returned (.tuple #[.int .i64 c, .int .i64 d]) := by rw [h, k]
set_option maxHeartbeats 2000000 in
theorem candidates30 (n : Int) (h0 : 0 ≤ n) (h1 : n < 4294967296) (w : World) :
    Calls Tryd.prog 57 #[.int .u32 n] w fun e w' => e = .returned (.tuple #[.int .i64 (cF n), .int .i64 (cL n)]) ∧ w' = w := by
  have e1 := pv_25_7_0 n
  have e2 := pv_12_2_0 n
  have e3 := pv_0_7_0 n
  go_enter Tryd.func57, Tryd.ntmps57
  go_wp2_with ((go_at_call 71; refine (part42 n _ _ _ (by unfold Pt; decide) h0 h1 _).mono ?_; rintro e w' ⟨rfl, rfl⟩))
  all_goals go_ret2
  all_goals refine ⟨ret_two ?_ ?_, rfl⟩
  all_goals (clear e1 e2 e3 h0 h1; simp_all [cF, cL])
set_option maxHeartbeats 1000000 in
theorem gather47_U (n : Int) (h0 : 0 ≤ n) (h1 : n < 4294967296) (w : World) : Calls Tryd.prog 72 #[.int .u8 85, .int .u32 n] w fun e w' => e = .returned (.int .i64 (gth 85 n)) ∧ w' = w := by
  have e1 := pv_12_20_0 n
  go_enter Tryd.func72, Tryd.ntmps72
  go_wp2_with (first | (go_at_call 71; refine (part42 n _ _ _ (by unfold Pt; decide) h0 h1 _).mono ?_; rintro e w' ⟨rfl, rfl⟩) | (go_at_call 85; refine (signed56_20 _ (by omega) (by omega) _).mono ?_; rintro e w' ⟨rfl, rfl⟩))
  go_ret
  exact ⟨rfl, rfl⟩
set_option maxHeartbeats 1000000 in
theorem gather47_J (n : Int) (h0 : 0 ≤ n) (h1 : n < 4294967296) (w : World) : Calls Tryd.prog 72 #[.int .u8 74, .int .u32 n] w fun e w' => e = .returned (.int .i64 (gth 74 n)) ∧ w' = w := by
  have e1 := pv_12_8_12 n
  have e2 := pv_20_1_11 n
  have e3 := pv_21_10_1 n
  have e4 := pv_31_1_20 n
  have hx := raw_J n
  obtain ⟨b0, b1⟩ : 0 ≤ raw 74 n ∧ raw 74 n < 2097152 := by
    have e : raw 74 n = n / 4096 % 256 * 4096 + n / 1048576 % 2 * 2048 + n / 2097152 % 1024 * 2 + n / 2147483648 % 2 * 1048576 := rfl
    omega
  have eg : gth 74 n = sg 21 (raw 74 n) := rfl
  rw [eg]
  clear eg
  generalize raw 74 n = x at *
  go_enter Tryd.func72, Tryd.ntmps72
  go_wp2_with (first | (go_at_call 71; refine (part42 n _ _ _ (by unfold Pt; decide) h0 h1 _).mono ?_; rintro e w' ⟨rfl, rfl⟩) | (go_at_call 85; refine (signed56_21 x b0 b1 _).mono ?_; rintro e w' ⟨rfl, rfl⟩))
  go_ret
  exact ⟨rfl, rfl⟩
set_option maxHeartbeats 1000000 in
theorem gather47_S (n : Int) (h0 : 0 ≤ n) (h1 : n < 4294967296) (w : World) : Calls Tryd.prog 72 #[.int .u8 83, .int .u32 n] w fun e w' => e = .returned (.int .i64 (gth 83 n)) ∧ w' = w := by
  have e1 := pv_7_5_0 n
  have e2 := pv_25_7_5 n
  have hx := raw_S n
  obtain ⟨b0, b1⟩ : 0 ≤ raw 83 n ∧ raw 83 n < 4096 := by
    have e : raw 83 n = n / 128 % 32 + n / 33554432 % 128 * 32 := rfl
    omega
  have eg : gth 83 n = sg 12 (raw 83 n) := rfl
  rw [eg]
  clear eg
  generalize raw 83 n = x at *
  go_enter Tryd.func72, Tryd.ntmps72
  go_wp2_with (first | (go_at_call 71; refine (part42 n _ _ _ (by unfold Pt; decide) h0 h1 _).mono ?_; rintro e w' ⟨rfl, rfl⟩) | (go_at_call 85; refine (signed56_12 x b0 b1 _).mono ?_; rintro e w' ⟨rfl, rfl⟩))
  go_ret
  exact ⟨rfl, rfl⟩
set_option maxHeartbeats 1000000 in
theorem gather47_B (n : Int) (h0 : 0 ≤ n) (h1 : n < 4294967296) (w : World) : Calls Tryd.prog 72 #[.int .u8 66, .int .u32 n] w fun e w' => e = .returned (.int .i64 (gth 66 n)) ∧ w' = w := by
  have e1 := pv_8_4_1 n
  have e2 := pv_25_6_5 n
  have e3 := pv_7_1_11 n
  have e4 := pv_31_1_12 n
  have hx := raw_B n
  obtain ⟨b0, b1⟩ : 0 ≤ raw 66 n ∧ raw 66 n < 8192 := by
    have e : raw 66 n = n / 256 % 16 * 2 + n / 33554432 % 64 * 32 + n / 128 % 2 * 2048 + n / 2147483648 % 2 * 4096 := rfl
    omega
  have eg : gth 66 n = sg 13 (raw 66 n) := rfl
  rw [eg]
  clear eg
  generalize raw 66 n = x at *
  go_enter Tryd.func72, Tryd.ntmps72
  go_wp2_with (first | (go_at_call 71; refine (part42 n _ _ _ (by unfold Pt; decide) h0 h1 _).mono ?_; rintro e w' ⟨rfl, rfl⟩) | (go_at_call 85; refine (signed56_13 x b0 b1 _).mono ?_; rintro e w' ⟨rfl, rfl⟩))
  go_ret
  exact ⟨rfl, rfl⟩
set_option maxHeartbeats 1000000 in
theorem gather47_I (n : Int) (h0 : 0 ≤ n) (h1 : n < 4294967296) (l : Int) (hl : l = 73 ∨ l = 76) (w : World) : Calls Tryd.prog 72 #[.int .u8 l, .int .u32 n] w fun e w' => e = .returned (.int .i64 (gth l n)) ∧ w' = w := by
  have e1 := pv_20_12_0 n
  rcases hl with rfl | rfl
  all_goals
    go_enter Tryd.func72, Tryd.ntmps72
    go_wp2_with (first | (go_at_call 71; refine (part42 n _ _ _ (by unfold Pt; decide) h0 h1 _).mono ?_; rintro e w' ⟨rfl, rfl⟩) | (go_at_call 85; refine (signed56_12 _ (by omega) (by omega) _).mono ?_; rintro e w' ⟨rfl, rfl⟩))
    go_ret
    exact ⟨rfl, rfl⟩
set_option maxHeartbeats 1000000 in
theorem gather47_H (n : Int) (h0 : 0 ≤ n) (h1 : n < 4294967296) (l : Int) (hl : l = 72 ∨ l = 87 ∨ l = 82 ∨ l = 78) (w : World) : Calls Tryd.prog 72 #[.int .u8 l, .int .u32 n] w fun e w' => e = .returned (.int .i64 (gth l n)) ∧ w' = w := by
  have e1 := pv_20_6_0 n
  have e2 := pv_20_5_0 n
  rcases hl with rfl | rfl | rfl | rfl
  all_goals
    go_enter Tryd.func72, Tryd.ntmps72
    go_wp2_with (first | (go_at_call 71; refine (part42 n _ _ _ (by unfold Pt; decide) h0 h1 _).mono ?_; rintro e w' ⟨rfl, rfl⟩))
    go_ret
    exact ⟨rfl, rfl⟩
theorem gather47 (l n : Int) (hl : IsL l) (h0 : 0 ≤ n) (h1 : n < 4294967296) (w : World) : Calls Tryd.prog 72 #[.int .u8 l, .int .u32 n] w fun e w' => e = .returned (.int .i64 (gth l n)) ∧ w' = w := by
  rcases hl with rfl | rfl | rfl | rfl | rfl | rfl | rfl | rfl | rfl | rfl
  · exact gather47_U n h0 h1 w
  · exact gather47_J n h0 h1 w
  · exact gather47_I n h0 h1 73 (by omega) w
  · exact gather47_I n h0 h1 76 (by omega) w
  · exact gather47_H n h0 h1 72 (by omega) w
  · exact gather47_H n h0 h1 87 (by omega) w
  · exact gather47_S n h0 h1 w
  · exact gather47_B n h0 h1 w
  · exact gather47_H n h0 h1 82 (by omega) w
  · exact gather47_H n h0 h1 78 (by omega) w
set_option maxHeartbeats 1000000 in
theorem taken32_core (op l n gi : Int) (hl : IsL l) (h0 : 0 ≤ n) (h1 : n < 4294967296) (hg : gth l n = gi) (w : World) (b1 b2 b3 : Bool) (e1 : nRd l = b1) (e2 : nR1 l = b2) (e3 : nR2 l = b3) :
    Calls Tryd.prog 60 #[.int .i64 op, .int .u8 l, .int .u32 n] w fun e w' => e = .returned (.agg #[.int .i64 op, .int .i64 (if b1 = true then n / 128 % 32 else 0), .int .i64 (if b2 = true then n / 32768 % 32 else 0), .int .i64 (if b3 = true then n / 1048576 % 32 else 0), .int .i64 gi]) ∧ Below w.heap.size w w' := by
  have p1 := pv_7_5_0 n
  have p2 := pv_15_5_0 n
  have p3 := pv_20_5_0 n
  cases b1 <;> cases b2 <;> cases b3 <;> simp only [Bool.false_eq_true, if_false, if_true]
  all_goals
    go_enter Tryd.func60, Tryd.ntmps60
    go_wp2_with (first | (go_at_call 71; refine (part42 n _ _ _ (by unfold Pt; decide) h0 h1 _).mono ?_; rintro e w' ⟨rfl, rfl⟩) | (go_at_call 72; refine (gather47 l n hl h0 h1 _).mono ?_; rw [hg]; rintro e w' ⟨rfl, rfl⟩) | (go_at_call 73; refine (registers44 l hl _).mono ?_; rw [e1, e2, e3]; rintro e w' ⟨rfl, rfl⟩))
    refine bodyPost_ret (by simp [results, Tryd.results60, go_sem]) rfl ⟨rfl, ?_⟩
    (repeat (first | exact Below.refl _ _ | refine Below.drew ?_ | refine Below.alloc ?_ (by simp <;> omega) _ | refine Below.setCell ?_ (by simp) _))
theorem taken32 (op l n : Int) (hl : IsL l) (h0 : 0 ≤ n) (h1 : n < 4294967296) (w : World) :
    Calls Tryd.prog 60 #[.int .i64 op, .int .u8 l, .int .u32 n] w fun e w' => e = .returned (.agg #[.int .i64 op, .int .i64 (gRd l n), .int .i64 (gR1 l n), .int .i64 (gR2 l n), .int .i64 (gth l n)]) ∧ Below w.heap.size w w' :=
  taken32_core op l n _ hl h0 h1 rfl w _ _ _ rfl rfl rfl
/-- Five new cells stay as they were laid. -/
theorem five {w w1 : World} (hb : Below (w.alloc (.cells #[.int .i64 0, .int .i64 0, .int .i64 0, .int .i64 0, .int .i64 0] 91)).heap.size (w.alloc (.cells #[.int .i64 0, .int .i64 0, .int .i64 0, .int .i64 0, .int .i64 0] 91)) w1) (i : Nat) (hi : i < 5) : w1.cell? ⟨w.heap.size, i, none⟩ = some (.int .i64 0) ∧ w1.frozen? ⟨w.heap.size, i, none⟩ = false := by
  rw [hb.cell (p := ⟨w.heap.size, i, none⟩) (by simp), hb.frozen (p := ⟨w.heap.size, i, none⟩) (by simp)]
  have e : i = 0 ∨ i = 1 ∨ i = 2 ∨ i = 3 ∨ i = 4 := by omega
  rcases e with rfl | rfl | rfl | rfl | rfl <;> exact ⟨by go_simp, by go_simp⟩
set_option maxHeartbeats 1000000 in
theorem decode13_hit (n k : Int) (h0 : 0 ≤ n) (h1 : n < 4294967296) (k1 : cF n ≤ k) (k2 : k ≤ cL n) (hno : ∀ j, cF n ≤ j → j < k → mt j n = false) (hy : mt k n = true) (w : World) (hT : Tab w) :
    Calls Tryd.prog 46 #[.int .u32 n] w fun e w' => e = .returned (.tuple #[.agg #[.int .i64 k, .int .i64 (gRd (nth plL k) n), .int .i64 (gR1 (nth plL k) n), .int .i64 (gR2 (nth plL k) n), .int .i64 (gth (nth plL k) n)], .int .i64 0]) ∧ Below w.heap.size w w' := by
  have c1 := cF_pos n
  have c2 := cL_le n
  have t0 : 0 < w.heap.size := hT.1
  have HT : Hid (Tab w) := hT
  have HN : Hid (∀ j, cF n ≤ j → j < k → mt j n = false) := hno
  have HY : Hid (mt k n = true) := hy
  clear hT hno hy
  obtain ⟨F, eF⟩ : ∃ F, cF n = F := ⟨_, rfl⟩
  obtain ⟨L, eL⟩ : ∃ L, cL n = L := ⟨_, rfl⟩
  rw [eF] at HN c1 k1
  rw [eL] at c2 k2
  go_enter Tryd.func46, Tryd.ntmps46
  go_wp2_with ((go_at_call 57; refine (candidates30 n h0 h1 _).mono ?_; rw [eF, eL]; rintro e w' ⟨rfl, rfl⟩))
  clear eF eL
  go_loopw [6] (fun v wq => ∃ j : Int, F ≤ j ∧ j ≤ k ∧ v = .int .i64 j ∧ Below (w.alloc (.cells #[.int .i64 0, .int .i64 0, .int .i64 0, .int .i64 0, .int .i64 0] 91)).heap.size (w.alloc (.cells #[.int .i64 0, .int .i64 0, .int .i64 0, .int .i64 0, .int .i64 0] 91)) wq) (fun v _ => (66 - intOf v).toNat)
  case atStart => exact ⟨F, by omega, by omega, rfl, Below.refl _ _⟩
  case round =>
    obtain ⟨j, j1, j2, rfl, hb0⟩ := hrel
    obtain ⟨hc0, hf0⟩ := bcell hb0
    have hz0 := hb0.size
    simp at hz0
    have j3 : 1 ≤ j := by omega
    have j4 : j ≤ 65 := by omega
    have hl := isL_of j3 j4
    have hA := and_mk _ n hl h0 h1
    have hcell := HT.out.2 j j3 j4
    have o3 : (0 : Int) ≤ j := by omega
    have o4 : j < 66 := by omega
    have o5 : j ≤ L := by omega
    by_cases hjk : j = k
    · subst hjk
      have hm : (andM (nth plL j) n == nth fxL j) = true := HY.out
      go_wp2_with (first | (go_at_call 58; refine (formOf26 _ _).mono ?_; rintro e w' ⟨rfl, rfl⟩))
      go_quiet ((go_at_call 59; exact Calls.quiet_of_same (mask31 _ hl _)))
      go_wp2_with (first | (go_at_call 60; refine (taken32 _ _ n hl h0 h1 _).mono ?_; rintro e w1 ⟨rfl, hb⟩; have hbb := (below_drewN hb0 nq).trans (hb.mono (by simp at hz0 ⊢; omega)); obtain ⟨q0, r0⟩ := five hbb 0 (by omega); obtain ⟨q1, r1⟩ := five hbb 1 (by omega); obtain ⟨q2, r2⟩ := five hbb 2 (by omega); obtain ⟨q3, r3⟩ := five hbb 3 (by omega); obtain ⟨q4, r4⟩ := five hbb 4 (by omega); clear hc0 hf0))
      refine bodyPost_ret (v := .tuple #[.agg #[.int .i64 j, .int .i64 (gRd (nth plL j) n), .int .i64 (gR1 (nth plL j) n), .int .i64 (gR2 (nth plL j) n), .int .i64 (gth (nth plL j) n)], .int .i64 0]) (by simp [results, Tryd.results46, go_sem, q0, q1, q2, q3, q4]) rfl ⟨rfl, ?_⟩
      iterate 5 refine Below.setCell ?_ (by simp) _
      exact ((Below.refl _ _).alloc (Nat.le_refl _) _).trans (hbb.mono (by simp))
    · have hm : (andM (nth plL j) n == nth fxL j) = false := HN.out j j1 (by omega)
      go_wp2_with (first | (go_at_call 58; refine (formOf26 _ _).mono ?_; rintro e w' ⟨rfl, rfl⟩))
      go_quiet ((go_at_call 59; exact Calls.quiet_of_same (mask31 _ hl _)))
      go_wp2
      go_roundw
      case rel => exact ⟨j + 1, by omega, by omega, by go_num, below_drewN hb0 _⟩
      case measure => simp [intOf]; omega
end Go.Proofs.YtnmpbihpoefeoaaDoor
