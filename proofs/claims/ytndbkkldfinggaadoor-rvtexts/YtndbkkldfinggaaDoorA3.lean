/- Walks of the program's own spread and Encode: what each answers. -/
import Derived.Test.YtndbkkldfinggaaDoorA2
import Derived.Test.YtndbkkldfinggaaDoorBits
import Derived.Deep.QuietTactic
import Derived.BigQuiet
import Derived.WalkSmall
namespace Go.Proofs.YtndbkkldfinggaaDoor
open Go.RowKit

set_option maxHeartbeats 4000000 in
theorem spread25 (l m : Int) (hl : IsL l) (h0 : 0 ≤ m) (h1 : m < 4294967296) (w : World) :
    Calls Tryd.prog 25 #[.int .u8 l, .int .u32 m] w fun e w' => e = .returned (.int .u32 (spr l m)) ∧ w' = w := by
  rcases hl with rfl | rfl | rfl | rfl | rfl | rfl | rfl | rfl | rfl | rfl
  · go_enter Tryd.func25, Tryd.ntmps25
    go_wp2
    go_ret
    exact ⟨ret_int (by show _ = m % 1048576 * 4096; omega), rfl⟩
  · go_enter Tryd.func25, Tryd.ntmps25
    go_wp2
    go_ret
    exact ⟨ret_int (spr_J m h0 h1), rfl⟩
  · go_enter Tryd.func25, Tryd.ntmps25
    go_wp2
    go_ret
    exact ⟨ret_int (by show _ = m % 4096 * 1048576; omega), rfl⟩
  · go_enter Tryd.func25, Tryd.ntmps25
    go_wp2
    go_ret
    exact ⟨ret_int (by show _ = m % 4096 * 1048576; omega), rfl⟩
  · go_enter Tryd.func25, Tryd.ntmps25
    go_wp2
    go_ret
    exact ⟨ret_int (by show _ = m % 4096 * 1048576; omega), rfl⟩
  · go_enter Tryd.func25, Tryd.ntmps25
    go_wp2
    go_ret
    exact ⟨ret_int (by show _ = m % 4096 * 1048576; omega), rfl⟩
  · go_enter Tryd.func25, Tryd.ntmps25
    go_wp2
    go_ret
    exact ⟨ret_int (spr_S m h0 h1), rfl⟩
  · go_enter Tryd.func25, Tryd.ntmps25
    go_wp2
    go_ret
    exact ⟨ret_int (spr_B m h0 h1), rfl⟩
  · go_enter Tryd.func25, Tryd.ntmps25
    go_wp2
    go_ret
    exact ⟨ret_int rfl, rfl⟩
  · go_enter Tryd.func25, Tryd.ntmps25
    go_wp2
    go_ret
    exact ⟨ret_int rfl, rfl⟩

/-- The table of fixed words lies where the program's text lays it. -/
def Tab (w : World) : Prop := 0 < w.heap.size ∧ ∀ k : Int, 1 ≤ k → k ≤ 65 → w.cell? ⟨0, k.toNat, none⟩ = some (.int .u32 (nth fxL k))
theorem Tab.below {w w' : World} (h : Tab w) (hb : Below w.heap.size w w') : Tab w' :=
  ⟨Nat.lt_of_lt_of_le h.1 hb.size, fun k h1 h2 => (hb.cell (p := ⟨0, k.toNat, none⟩) h.1).trans (h.2 k h1 h2)⟩

set_option maxHeartbeats 4000000 in
/-- Encode of an instruction that is not right. -/
theorem encode8_no (op rd r1 r2 n : Int) (h : rightB op rd r1 r2 n = false) (w : World) :
    Calls Tryd.prog 8 #[.agg #[.int .i64 op, .int .i64 rd, .int .i64 r1, .int .i64 r2, .int .i64 n]] w fun e w' => e = .returned (.tuple #[.int .u32 0, .int .i64 11]) ∧ Below w.heap.size w w' := by
  go_enter Tryd.func8, Tryd.ntmps8
  go_wp2_with (first | (go_at_call 10; refine (check10_no _ _ _ _ _ h _).mono ?_; rintro e w1 ⟨rfl, hb⟩; obtain ⟨hc, hf⟩ := bcell hb))
  all_goals go_ret2
  all_goals exact ⟨rfl, ((Below.refl _ _).alloc (Nat.le_refl _) _).trans (hb.mono (by simp))⟩

set_option maxHeartbeats 1000000 in
theorem encode8_core (op rd r1 r2 n x : Int) (h : rightB op rd r1 r2 n = true) (w : World) (hT : Tab w) (_d0 : 0 ≤ rd) (_d1 : rd ≤ 31) (_a0 : 0 ≤ r1) (_a1 : r1 ≤ 31) (_b0 : 0 ≤ r2) (_b1 : r2 ≤ 31) (_n0 : -1048576 ≤ n) (_n1 : n ≤ 1048574)
    (hx : bits .or .u32 (bits .or .u32 (nth fxL op) (bits .or .u32 (bits .or .u32 (rd * 128) (r1 * 32768)) (r2 * 1048576))) (spr (nth plL op) (n % 4294967296)) = x) :
    Calls Tryd.prog 8 #[.agg #[.int .i64 op, .int .i64 rd, .int .i64 r1, .int .i64 r2, .int .i64 n]] w fun e w' => e = .returned (.tuple #[.int .u32 x, .int .i64 0]) ∧ Below w.heap.size w w' := by
  obtain ⟨o1, o2⟩ := ops_of_right h
  have hl := isL_of o1 o2
  have HR : Hid (rightB op rd r1 r2 n = true) := h
  clear h
  have t0 : 0 < w.heap.size := hT.1
  have t1 := hT.2 op o1 o2
  have o3 : (0 : Int) ≤ op := by omega
  have o4 : op < 66 := by omega
  have m0 : 0 ≤ n % 4294967296 := by omega
  have m1 : n % 4294967296 < 4294967296 := by omega
  go_enter Tryd.func8, Tryd.ntmps8
  go_wp2_with (first | (go_at_call 10; refine (check10_yes _ _ _ _ _ HR.out _).mono ?_; rintro e w1 ⟨rfl, hb⟩; obtain ⟨hc, hf⟩ := bcell hb; have hcell := ((hT.below ((Below.refl _ _).alloc (Nat.le_refl _) _)).below hb).2 op o1 o2))
  go_quiet (first | (go_at_call 26; exact Calls.quiet_of_same (formOf26 _ _)) | (go_at_call 25; exact Calls.quiet_of_same (spread25 _ _ hl m0 m1 _)))
  go_wp2
  go_ret2
  exact ⟨rfl, below_drewN (((Below.refl _ _).alloc (Nat.le_refl _) _).trans (hb.mono (by simp))) _⟩

/-- Encode of an instruction that is right: its word. -/
theorem encode8_yes (op rd r1 r2 n : Int) (h : rightB op rd r1 r2 n = true) (w : World) (hT : Tab w) :
    Calls Tryd.prog 8 #[.agg #[.int .i64 op, .int .i64 rd, .int .i64 r1, .int .i64 r2, .int .i64 n]] w fun e w' => e = .returned (.tuple #[.int .u32 (wordI op rd r1 r2 n), .int .i64 0]) ∧ Below w.heap.size w w' := by
  obtain ⟨⟨d0, d1⟩, ⟨a0, a1⟩, ⟨b0, b1⟩, ⟨n0, n1⟩⟩ := right_ranges h
  exact encode8_core op rd r1 r2 n _ h w hT d0 d1 a0 a1 b0 b1 n0 n1 (word_or h)
end Go.Proofs.YtndbkkldfinggaaDoor
