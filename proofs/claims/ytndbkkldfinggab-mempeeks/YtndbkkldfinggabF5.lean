/- A memory of pages that came in: From at whatever pages. -/
import Derived.Test.YtndbkkldfinggabF4
namespace Go.Proofs.Ytndbkkldfinggab
open Go.RowKit Go.Shelf
set_option maxHeartbeats 1000000 in
theorem from_great (ao : Option Addr) (len cap : Nat) (w : World) (hl : 4096 < len) : Calls Try.prog 9 #[.slice ao len cap] w fun e w' => e = .returned (.tuple #[.pointer none, .int .i64 20]) ∧ w' = w := by
  go_enter Try.func9, Try.ntmps9
  go_wp2
  go_ret2
  exact ⟨rfl, rfl⟩
set_option maxHeartbeats 1000000 in
theorem from_empty (ao : Option Addr) (cap : Nat) (k p : Nat → Int) (Y : Nat → Nat → Int) (w : World) : Calls Try.prog 9 #[.slice ao 0 cap] w fun e w' => Below w.heap.size w w' ∧ e = .returned (.tuple #[.pointer (some ⟨w.heap.size + 1, 0, none⟩), .int .i64 0]) ∧ Fr w' (w.heap.size + 1) w.heap.size 0 k p Y w.heap.size [] := by
  go_enter Try.func9, Try.ntmps9
  go_wp2_with fail
  refine (new21 w).mono ?_
  rintro e w0 ⟨rfl, e0⟩
  have HB0 : Hid (Below w.heap.size w w0) := (by rw [e0]; exact ((Below.refl _ w).alloc (Nat.le_refl _) _).alloc (by simp) _ : Below w.heap.size w w0)
  have HF0 : Hid (Fr w0 (w.heap.size + 1) w.heap.size 0 k p Y w.heap.size []) := by
    refine (⟨rfl, ?_, ?_, fun j x h => by simp at h, fun j x h => by simp at h, List.Pairwise.nil, List.Pairwise.nil⟩ : Fr w0 (w.heap.size + 1) w.heap.size 0 k p Y w.heap.size [])
    · rw [e0]
      have := World.alloc_heap_new (w.alloc (.map #[] 0)) (.cells #[.map (some w.heap.size)] 67)
      simp at this
      simp [World.cell?, this]
    · rw [e0]; exact heap_on (heap_at w _) _
  clear e0
  go_wp2_with fail
  go_loopw [13] (fun x wr => x = .int .i64 0 ∧ wr = w0) (fun _ _ => 0)
  case atStart => exact ⟨rfl, rfl⟩
  case round =>
    obtain ⟨rfl, rfl⟩ := hrel
    go_wp2
    go_ret2
    exact ⟨HB0.out, rfl, HF0.out⟩
/-- The bytes as the world has them. -/
def btOf (W : World) (g j : Nat) : Int := match W.cell? ⟨g, j, none⟩ with
  | some (.int .u8 y) => if 0 ≤ y ∧ y < 256 then y else 0
  | _ => 0
theorem btOf_small (W : World) (g j : Nat) : 0 ≤ btOf W g j ∧ btOf W g j < 256 := by
  unfold btOf
  split
  · split <;> omega
  · omega
theorem btOf_at {W : World} {g j : Nat} {y : Int} (h : W.cell? ⟨g, j, none⟩ = some (.int .u8 y)) (h1 : 0 ≤ y ∧ y < 256) : btOf W g j = y := by
  unfold btOf
  rw [h]
  simp [h1]
theorem Fr.mm {W : World} {b r i : Nat} {k p : Nat → Int} {Y : Nat → Nat → Int} {base : Nat} {ps : List Pgd} (h : Fr W b r i k p Y base ps) (hY : ∀ i j, 0 ≤ Y i j ∧ Y i j < 256) : Mm W b r ps (btOf W) := by
  refine ⟨h.cell, h.map, fun x hx j hj => ?_, btOf_small W, fun x hx => ?_⟩
  · obtain ⟨t, ht, rfl⟩ := List.getElem_of_mem hx
    have e := (h.data t _ (List.getElem?_eq_getElem ht)).2 j hj
    rw [e, btOf_at e (hY t j)]
  · obtain ⟨t, ht, rfl⟩ := List.getElem_of_mem hx
    exact (h.at_ t _ (List.getElem?_eq_getElem ht)).2.2.1
/-- Pages that came in, whatever they are. -/
structure PgArg (W : World) (v : Value) (len : Nat) (k p : Nat → Int) (ao : Nat → Option Addr) (bl bc : Nat → Nat) (Y : Nat → Nat → Int) : Prop where
  shape : ∃ a cap, v = .slice a len cap ∧ len ≤ cap ∧ (0 < len → ∃ lb lo, a = some ⟨lb, lo, none⟩ ∧ PgSrc W lb lo len k p ao bl bc Y)
  by_ : ∀ i j, 0 ≤ Y i j ∧ Y i j < 256
theorem PgArg.below {W W' : World} {v : Value} {len : Nat} {k p : Nat → Int} {ao : Nat → Option Addr} {bl bc : Nat → Nat} {Y : Nat → Nat → Int} (h : PgArg W v len k p ao bl bc Y) (hb : Below W.heap.size W W') : PgArg W' v len k p ao bl bc Y := by
  obtain ⟨⟨a, cap, e, hc, hs⟩, hy⟩ := h
  exact ⟨⟨a, cap, e, hc, fun h0 => by obtain ⟨lb, lo, e1, s⟩ := hs h0; exact ⟨lb, lo, e1, s.below hb⟩⟩, hy⟩
/-- What From tells. -/
def errE (len : Nat) (k p : Nat → Int) (bl : Nat → Nat) : Int := if 4096 < len then 20 else fromE k p bl len
theorem from_any {v : Value} {len : Nat} {k p : Nat → Int} {ao : Nat → Option Addr} {bl bc : Nat → Nat} {Y : Nat → Nat → Int} (w : World) (h : PgArg w v len k p ao bl bc Y) :
    Calls Try.prog 9 #[v] w fun e w' => Below w.heap.size w w' ∧ ((¬ errE len k p bl = 0 ∧ e = .returned (.tuple #[.pointer none, .int .i64 (errE len k p bl)])) ∨ (errE len k p bl = 0 ∧ len ≤ 4096 ∧ e = .returned (.tuple #[.pointer (some ⟨w.heap.size + 1, 0, none⟩), .int .i64 0]) ∧ ∃ ps, Fr w' (w.heap.size + 1) w.heap.size len k p Y w.heap.size ps)) := by
  obtain ⟨⟨a, cap, rfl, hc, hs⟩, hy⟩ := h
  unfold errE
  by_cases hg : 4096 < len
  · rw [if_pos hg]
    refine (from_great a len cap w hg).mono ?_
    rintro e w' ⟨rfl, rfl⟩
    exact ⟨Below.refl _ _, .inl ⟨by decide, rfl⟩⟩
  · rw [if_neg hg]
    rcases Nat.eq_zero_or_pos len with rfl | h0
    · refine (from_empty a cap k p Y w).mono ?_
      rintro e w' ⟨hb, rfl, hf⟩
      exact ⟨hb, .inr ⟨rfl, by omega, rfl, [], hf⟩⟩
    · obtain ⟨lb, lo, rfl, hS⟩ := hs h0
      refine (from_some lb lo len cap k p ao bl bc Y w hS (by omega) h0 hc).mono ?_
      rintro e w' ⟨hb, ⟨v, hv, hf, rfl⟩ | ⟨hf, rfl, ps, hF⟩⟩
      · exact ⟨hb, .inl ⟨by rw [hf]; exact hv, by rw [hf]⟩⟩
      · exact ⟨hb, .inr ⟨hf, by omega, rfl, ps, hF⟩⟩
end Go.Proofs.Ytndbkkldfinggab
