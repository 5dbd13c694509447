/- Equal pages (the verifier's own comparison). -/
import Derived.Test.YtndbkkldfinggabV2
namespace Go.Proofs.Ytndbkkldfinggab
open Go.RowKit Go.Shelf
set_option maxHeartbeats 1000000 in
theorem bytes24 (p1 p2 : Option Addr) (n c d : Nat) (xs : List Int) (w : World) (hx : xs.length = n) (h1 : Lib.BytesIn w p1 n xs) (h2 : Lib.BytesIn w p2 n xs) : Calls Try.prog 24 #[.slice p1 n c, .slice p2 n d] w fun e w' => e = .returned (.bool true) ∧ w' = w := by
  have c1 := h1.convert (P := Try.prog) hx c 48 5 9 Try.underlying48 Try.underlying5 Try.underlying9
  have c2 := h2.convert (P := Try.prog) hx d 48 5 9 Try.underlying48 Try.underlying5 Try.underlying9
  clear h1 h2
  generalize strOfNums xs = s at *
  go_enter Try.func24, Try.ntmps24
  go_wp2
  go_ret
  exact ⟨by simp, rfl⟩
/-- Pages in a row, all of 4096 bytes. -/
structure Row (W : World) (lb lo n : Nat) (k p : Nat → Int) (Y : Nat → Nat → Int) (g o c : Nat → Nat) : Prop where
  c0 : ∀ i, i < n → W.cell? ⟨lb, lo + i * 3, none⟩ = some (.int .u64 (k i))
  c1 : ∀ i, i < n → W.cell? ⟨lb, lo + i * 3 + 1, none⟩ = some (.int .i64 (p i))
  c2 : ∀ i, i < n → W.cell? ⟨lb, lo + i * 3 + 2, none⟩ = some (.slice (some ⟨g i, o i, none⟩) 4096 (c i))
  cs : ∀ i, i < n → ∀ j, j < 4096 → W.cell? ⟨g i, o i + j, none⟩ = some (.int .u8 (Y i j))
set_option maxRecDepth 20000 in
set_option maxHeartbeats 1000000 in
theorem pages34 (la oa lb ob n ca cb : Nat) (k p : Nat → Int) (Y : Nat → Nat → Int) (g o c g' o' c' : Nat → Nat) (w : World) (h : Row w la oa n k p Y g o c) (h' : Row w lb ob n k p Y g' o' c') (hn : n ≤ 65536) : Calls Try.prog 34 #[.slice (some ⟨la, oa, none⟩) n ca, .slice (some ⟨lb, ob, none⟩) n cb] w fun e w' => e = .returned (.bool true) ∧ Below w.heap.size w w' := by
  have H : Hid (Row w la oa n k p Y g o c) := h
  have H' : Hid (Row w lb ob n k p Y g' o' c') := h'
  clear h h'
  go_enter Try.func34, Try.ntmps34
  go_wp2
  go_loopw [13] (fun x wr => ∃ i : Nat, i ≤ n ∧ x = .int .i64 i ∧ Row wr la oa n k p Y g o c ∧ Row wr lb ob n k p Y g' o' c' ∧ Below w.heap.size w wr) (fun x _ => n - (intOf x).toNat)
  case atStart => exact ⟨0, Nat.zero_le _, rfl, H.out, H'.out, Below.refl _ _⟩
  case round =>
    obtain ⟨i, hi, rfl, r1, r2, r3⟩ := hrel
    have R : Hid (Row wr la oa n k p Y g o c) := r1
    have R' : Hid (Row wr lb ob n k p Y g' o' c') := r2
    have RB : Hid (Below w.heap.size w wr) := r3
    clear r1 r2 r3
    by_cases hlt : i < n
    · have a0 := R.out.c0 i hlt
      have a1 := R.out.c1 i hlt
      have a2 := R.out.c2 i hlt
      have b0 := R'.out.c0 i hlt
      have b1 := R'.out.c1 i hlt
      have b2 := R'.out.c2 i hlt
      have HE : Hid (∀ m, Calls Try.prog 24 #[.slice (some ⟨g i, o i, none⟩) 4096 (c i), .slice (some ⟨g' i, o' i, none⟩) 4096 (c' i)] (wr.drewN m) fun e w' => e = .returned (.bool true) ∧ w' = wr.drewN m) := fun m => bytes24 _ _ 4096 _ _ ((List.range 4096).map (Y i)) (wr.drewN m) (by simp) (fun _ => ⟨_, _, rfl, fun j hj => (R.out.cs i hlt j hj).trans (by simp [hj, List.getD])⟩) (fun _ => ⟨_, _, rfl, fun j hj => (R'.out.cs i hlt j hj).trans (by simp [hj, List.getD])⟩)
      go_wp2_with fail
      go_quiet (first | (go_at_call 24; refine Calls.quiet_of_same (HE.out _)))
      rename_i nq
      have S1 : Hid (Row (wr.drewN nq) la oa n k p Y g o c) := ⟨R.out.c0, R.out.c1, R.out.c2, R.out.cs⟩
      have S2 : Hid (Row (wr.drewN nq) lb ob n k p Y g' o' c') := ⟨R'.out.c0, R'.out.c1, R'.out.c2, R'.out.cs⟩
      have SB : Hid (Below w.heap.size w (wr.drewN nq)) := ⟨RB.out.os, RB.out.tape, RB.out.output, RB.out.size, RB.out.block⟩
      clear R R' RB a0 a1 a2 b0 b1 b2 HE
      generalize wr.drewN nq = wq at *
      go_wp2
      go_roundw
      case rel => exact ⟨i + 1, by omega, rfl, S1.out, S2.out, SB.out⟩
      case measure => simp [intOf]; omega
    · obtain rfl : i = n := by omega
      go_wp2
      go_ret
      exact ⟨rfl, RB.out⟩
end Go.Proofs.Ytndbkkldfinggab
