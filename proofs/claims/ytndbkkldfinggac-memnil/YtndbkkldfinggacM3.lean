/- Walks of the document's new pages. -/
import Derived.Test.YtndbkkldfinggacM2
namespace Go.Proofs.Ytndbkkldfinggac
open Go.RowKit
theorem info47 : (Try.prog.info? 47).map (fun i => (i.zero, i.size, i.bytes)) = some (some (.agg #[.int .u64 0, .int .i64 0, .slice none 0 0]), 3, 40) := by kernel_rfl
theorem info5 : (Try.prog.info? 5).map (fun i => (i.zero, i.size, i.bytes)) = some (some (.int .u8 0), 1, 1) := by kernel_rfl
theorem fresh3 (W : World) (x y z : Value) : ∀ (j : Nat) u, ([x, y, z] : List Value)[j]? = some u → (W.alloc (.cells #[x, y, z] 47)).cell? ((⟨W.heap.size, 0, none⟩ : Addr).add j) = some u
  | 0, u, h => by simp at h; subst h; simp [Addr.add]
  | 1, u, h => by simp at h; subst h; simp [Addr.add]
  | 2, u, h => by simp at h; subst h; simp [Addr.add]
  | j + 3, u, h => by simp at h
theorem owns_none {W W' : World} {B : Nat} {e : TypeId} {s n : Nat} {v : Value} {xs : List Value} (h : W.ownsRow B e s v n xs) (hg : W.grownBy W' none) : W'.ownsRow B e s v n xs :=
  h.kept hg (by cases hv : v.ownBlock <;> simp)
theorem one3 (a c : Int) (g : Option Addr) (l m : Nat) : ∀ u ∈ ([.int .u64 a, .int .i64 c, .slice g l m] : List Value), u.oneCell' = true := by intro u hu; simp at hu; rcases hu with rfl | rfl | rfl <;> rfl
theorem bel_app {B : Nat} {w1 w2 w3 : World} {o : Obj} {e : TypeId} {s n : Nat} {v : Value} {xs : List Value} (hb : Below B w1 w2) (hB : B ≤ w2.heap.size) (hown : w2.ownsRow B e s v n xs) (hg : (w2.alloc o).grownBy w3 v.ownBlock) : Below B w1 w3 :=
  (hb.alloc hB o).grown hg (by simp; omega) (fun k h => (hown.lt k h).1)
set_option maxHeartbeats 1000000 in
theorem fresh16_nil (b n : Int) (b0 : 0 ≤ b) (b1 : b < 281474976710656) (n0 : 0 ≤ n) (n1 : n ≤ 4096) (w : World) : Calls Try.prog 16 #[.slice none 0 0, .int .u64 b, .int .i64 6, .int .i64 n] w fun e w' => (∃ v, e = .returned v) ∧ Below w.heap.size w w' := by
  go_enter Try.func16, Try.ntmps16
  go_wp2_with fail
  go_loopw [9, 10] (fun v x wr => ∃ (k : Nat) (xs : List Value), x = .int .i64 (k : Int) ∧ (k : Int) ≤ n ∧ wr.ownsRow w.heap.size 47 3 v k xs ∧ Below w.heap.size w wr) (fun _ x _ => (n - intOf x).toNat)
  case atStart => exact ⟨0, [], rfl, n0, World.ownsRow_lit _ _ 0 (Nat.le_refl _) (by unfold maxLen; omega) rfl, (Below.refl _ _).alloc (Nat.le_refl _) _⟩
  case round =>
    obtain ⟨k, xs, rfl, hk, hown, hb⟩ := hrel
    have HO : Hid (wr.ownsRow w.heap.size 47 3 u9 k xs) := hown
    have HB : Hid (Below w.heap.size w wr) := hb
    clear hown hb
    by_cases h : (k : Int) < n
    · obtain ⟨i0, hi, hz0, hz1, hz2⟩ := info_parts info47
      have HI : Hid (Try.prog.info? 47 = some i0 ∧ i0.zero = some (.agg #[.int .u64 0, .int .i64 0, .slice none 0 0]) ∧ i0.size = 3 ∧ i0.bytes = 40) := ⟨hi, hz0, hz1, hz2⟩
      clear hi hz0 hz1 hz2
      obtain ⟨i1, hi, hz0, hz1, hz2⟩ := info_parts info5
      have HJ : Hid (Try.prog.info? 5 = some i1 ∧ i1.zero = some (.int .u8 0) ∧ i1.size = 1 ∧ i1.bytes = 1) := ⟨hi, hz0, hz1, hz2⟩
      clear hi hz0 hz1 hz2
      go_wp2_with (first
        | (at_make; refine wpList_make_full _ rfl _ _ 45 rfl w.heap.size 5 i1 (.int .u8 0) 1 Try.underlying45 HJ.out.1 HJ.out.2.1 HJ.out.2.2.1 .i64 .i64 4096 4096 4096 rfl rfl rfl rfl (by rw [HJ.out.2.2.2]; omega) (by unfold maxLen; omega) HB.out.size ?_; intro w2 hown2 hgrow2)
        | (at_builtin; refine wpList_append_own _ rfl _ _ 22 rfl w.heap.size 47 i0 (.agg #[.int .u64 0, .int .i64 0, .slice none 0 0]) 3 40 Try.underlying22 HI.out.1 HI.out.2.1 HI.out.2.2.1 HI.out.2.2.2 rfl (by decide) u9 k xs rfl ((owns_none HO.out hgrow2).alloc _) ⟨w2.heap.size, 0, none⟩ 1 1 [_, _, _] rfl rfl (fresh3 w2 _ _ _) (one3 _ _ _ _ _) (by unfold maxLen; omega) (by omega) (by have := HB.out.size; have := hgrow2.size; simp; omega) ?_; intro v3 w3 hown3 hgrow3 _)
        | go_in)
      have HB2 : Hid (Below w.heap.size w w3) := bel_app (HB.out.grown hgrow2 HB.out.size (by intro j h; cases h)) (Nat.le_trans HB.out.size hgrow2.size) (owns_none HO.out hgrow2) hgrow3
      go_roundw
      case rel => exact ⟨k + 1, _, by go_num, by omega, hown3, HB2.out⟩
      case measure => simp [intOf]; omega
    · go_wp2
      go_ret
      exact ⟨⟨_, rfl⟩, HB.out⟩
set_option maxHeartbeats 1000000 in
theorem map5_arg (b s : Int) (b0 : 0 ≤ b) (b1 : b < 18446744073709551616) (s0 : 0 ≤ s) (s1 : s < 18446744073709551616) (h : ¬ b % 4096 = 0 ∨ s = 0 ∨ 281474976710656 ≤ b ∨ 281474976710656 - b < s) (w : World) : Calls Try.prog 5 #[.slice none 0 0, .int .u64 b, .int .i64 6, .int .u64 s] w fun e w' => (∃ v, e = .returned (.tuple #[v, .int .i64 1])) ∧ Below w.heap.size w w' := by
  by_cases h1 : b % 4096 = 0
  · by_cases h2 : s = 0
    · clear h
      subst h2
      go_enter Try.func5, Try.ntmps5
      go_wp2
      go_ret2
      exact ⟨⟨_, rfl⟩, Below.refl _ _⟩
    · by_cases h3 : 281474976710656 < b
      · clear h
        go_enter Try.func5, Try.ntmps5
        go_wp2
        go_ret2
        exact ⟨⟨_, rfl⟩, Below.refl _ _⟩
      · have h4 : 281474976710656 - b < s := by omega
        have h5 : b ≤ 281474976710656 := by omega
        clear h
        go_enter Try.func5, Try.ntmps5
        go_wp2
        go_ret2
        exact ⟨⟨_, rfl⟩, Below.refl _ _⟩
  · clear h
    go_enter Try.func5, Try.ntmps5
    go_wp2
    go_ret2
    exact ⟨⟨_, rfl⟩, Below.refl _ _⟩
set_option maxHeartbeats 1000000 in
theorem map5_great (b s : Int) (b0 : 0 ≤ b) (b1 : b < 281474976710656) (s0 : 16777216 < s) (h1 : b % 4096 = 0) (h2 : s ≤ 281474976710656 - b) (w : World) : Calls Try.prog 5 #[.slice none 0 0, .int .u64 b, .int .i64 6, .int .u64 s] w fun e w' => (∃ v, e = .returned (.tuple #[v, .int .i64 20])) ∧ Below w.heap.size w w' := by
  have q0 : ¬ s = 0 := by omega
  have q1 : ¬ 281474976710656 < b := by omega
  have q2 : ¬ 281474976710656 - b < s := by omega
  have q3 : 4096 < (s + 4095) / 4096 := by omega
  have q4 : (s + 4095) / 4096 ≤ 68719476736 := by omega
  go_enter Try.func5, Try.ntmps5
  go_wp2_with fail
  refine (perm15_6 _).mono ?_
  rintro e w1 ⟨rfl, e1⟩
  subst e1
  go_wp2
  go_ret2
  exact ⟨⟨_, rfl⟩, Below.refl _ _⟩
set_option maxHeartbeats 1000000 in
theorem map5_go (b s : Int) (b0 : 0 ≤ b) (b1 : b < 281474976710656) (s0 : 0 < s) (s1 : s ≤ 16777216) (h1 : b % 4096 = 0) (h2 : s ≤ 281474976710656 - b) (w : World) : Calls Try.prog 5 #[.slice none 0 0, .int .u64 b, .int .i64 6, .int .u64 s] w fun e w' => (∃ v, e = .returned (.tuple #[v, .int .i64 0])) ∧ Below w.heap.size w w' := by
  have q0 : ¬ s = 0 := by omega
  have q1 : ¬ 281474976710656 < b := by omega
  have q2 : ¬ 281474976710656 - b < s := by omega
  have q3 : (s + 4095) / 4096 ≤ 4096 := by omega
  have q4 : 0 ≤ (s + 4095) / 4096 := by omega
  go_enter Try.func5, Try.ntmps5
  go_wp2_with fail
  refine (perm15_6 _).mono ?_
  rintro e w1 ⟨rfl, e1⟩
  subst e1
  go_wp2_with fail
  go_loopw [11, 12, 13] (fun v d x wr => v = .slice none 0 0 ∧ d = .bool false ∧ x = .int .i64 0 ∧ wr = w1) (fun _ _ _ _ => 0)
  case atStart => exact ⟨rfl, rfl, rfl, rfl⟩
  case round =>
    obtain ⟨rfl, rfl, rfl, rfl⟩ := hrel
    go_wp2_with fail
    refine (fresh16_nil b _ b0 b1 (by omega) (by omega) _).mono ?_
    rintro e w2 ⟨⟨v, rfl⟩, hb⟩
    go_wp2
    go_ret2
    exact ⟨⟨_, rfl⟩, hb⟩
/-- What the document's Map tells of no pages. -/
theorem map5_nil (b s : Int) (b0 : 0 ≤ b) (b1 : b < 18446744073709551616) (s0 : 0 ≤ s) (s1 : s < 18446744073709551616) (w : World) : Calls Try.prog 5 #[.slice none 0 0, .int .u64 b, .int .i64 6, .int .u64 s] w fun e w' => (∃ v, e = .returned (.tuple #[v, .int .i64 (mapE b s)])) ∧ Below w.heap.size w w' := by
  unfold mapE
  by_cases h : ¬ b % 4096 = 0 ∨ s = 0 ∨ 281474976710656 ≤ b ∨ 281474976710656 - b < s
  · rw [if_pos h]
    exact map5_arg b s b0 b1 s0 s1 h w
  · rw [if_neg h]
    by_cases h4 : 16777216 < s
    · rw [if_pos h4]
      exact map5_great b s b0 (by omega) h4 (by omega) (by omega) w
    · rw [if_neg h4]
      exact map5_go b s b0 (by omega) (by omega) (by omega) (by omega) (by omega) w
end Go.Proofs.Ytndbkkldfinggac
