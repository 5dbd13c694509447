/- Walks of the first question of every statement (speaks): new pages. -/
import Derived.Test.YtndbkkldfinggabM7
import Derived.Deep.RegionHeld3
import Derived.RegionTactic
namespace Go.Proofs.Ytndbkkldfinggab
open Go.RowKit Go.Shelf
set_option maxRecDepth 20000 in
set_option maxHeartbeats 1000000 in
theorem free14_new (b r : Nat) (w : World) (hc : w.cell? ⟨b, 0, none⟩ = some (.map (some r))) (hb : b < w.heap.size) (hr : w.heap[r]? = some (.map #[] 0)) (hrl : r < w.heap.size) : Calls Try.prog 45 #[.pointer (some ⟨b, 0, none⟩), .int .u64 4096, .int .u64 5000] w fun e w' => e = .returned (.bool true) ∧ Below w.heap.size w w' := by
  have HC : Hid (w.cell? ⟨b, 0, none⟩ = some (.map (some r))) := hc
  have HR : Hid (w.heap[r]? = some (.map #[] 0)) := hr
  clear hc hr
  go_enter Try.func45, Try.ntmps45
  go_wp2_with fail
  refine (count24_new b r _ HC.out HR.out).mono ?_
  rintro e w1 ⟨rfl, h1⟩
  subst h1
  go_wp2_with fail
  go_loopw [7] (fun x wr => (x = .int .u64 4096 ∨ x = .int .u64 8192 ∨ x = .int .u64 12288) ∧ Below w1.heap.size w1 wr) (fun x _ => (12288 - intOf x).toNat)
  case atStart => exact ⟨.inl rfl, Below.refl _ _⟩
  case round =>
    obtain ⟨hx, hbl⟩ := hrel
    have HB : Hid (Below w1.heap.size w1 wr) := hbl
    have hs := hbl.size
    clear hbl
    rcases hx with rfl | rfl | rfl
    · go_wp2_with fail
      refine (page25_miss b r 4096 #[] 0 _ ((HB.out.cell (p := ⟨b, 0, none⟩) hb).trans HC.out) (by omega) ((HB.out.block r hrl).trans HR.out) rfl).mono ?_
      rintro e w2 ⟨rfl, hb2⟩
      have HB2 : Hid (Below w1.heap.size w1 w2) := HB.out.trans (hb2.mono HB.out.size)
      clear hb2
      go_wp2
      go_roundw
      case rel => exact ⟨.inr (.inl rfl), HB2.out.alloc HB2.out.size _⟩
      case measure => simp [intOf]
    · go_wp2_with fail
      refine (page25_miss b r 8192 #[] 0 _ ((HB.out.cell (p := ⟨b, 0, none⟩) hb).trans HC.out) (by omega) ((HB.out.block r hrl).trans HR.out) rfl).mono ?_
      rintro e w2 ⟨rfl, hb2⟩
      have HB2 : Hid (Below w1.heap.size w1 w2) := HB.out.trans (hb2.mono HB.out.size)
      clear hb2
      go_wp2
      go_roundw
      case rel => exact ⟨.inr (.inr rfl), HB2.out.alloc HB2.out.size _⟩
      case measure => simp [intOf]
    · go_wp2
      go_ret
      exact ⟨rfl, HB.out⟩
/-- 4096 bytes, all 0. -/
def zB : Array Value := madeCells #[.int .u8 0] 4096
theorem make4096 (W : World) : (Instr.makeSlice 48 (.int .i64 4096) (.int .i64 4096)).run Try.prog W = .ok (.slice (some ⟨W.heap.size, 0, none⟩) 4096 4096) (W.alloc (.cells zB 5)) := by kernel_rfl
theorem eql_nil (r : Nat) (W : World) : (binOp .eql 65 (.map (some r)) (.map none)).run Try.prog W = .ok (.bool false) W := by kernel_rfl
theorem below_putObj {B r : Nat} {a w : World} (h : Below B a w) (hr : B ≤ r) (o : Obj) : Below B a (w.putObj r o) :=
  ⟨h.os, h.tape, h.output, by simpa [World.putObj] using h.size, fun k hk => by rw [World.putObj_heap_other (by omega)]; exact h.block k hk⟩
theorem put_cell {w : World} {r b o : Nat} {x : Obj} (h : b ≠ r) : (w.putObj r x).cell? ⟨b, o, none⟩ = w.cell? ⟨b, o, none⟩ := by
  simp only [World.cell?, World.putObj_heap_other (w := w) (o := x) h]
/-- What lies behind a Map that made two pages: the memory's cell, its map, the two pages' bytes. -/
structure Two (W : World) (b r g1 g2 : Nat) (c1 c2 : Array Value) : Prop where
  cell : W.cell? ⟨b, 0, none⟩ = some (.map (some r))
  map : W.heap[r]? = some (.map #[ent 4096 g1 0, ent 8192 g2 1] 2)
  one : W.heap[g1]? = some (.cells c1 5)
  two : W.heap[g2]? = some (.cells c2 5)
  lt1 : r < b
  lt2 : b < g1
  lt3 : g1 < g2
set_option maxRecDepth 20000 in
set_option maxHeartbeats 1000000 in
theorem map4_new (b r : Nat) (w : World) (hc : w.cell? ⟨b, 0, none⟩ = some (.map (some r))) (hb : b < w.heap.size) (hr : w.heap[r]? = some (.map #[] 0)) (hrl : r < b) : Calls Try.prog 25 #[.pointer (some ⟨b, 0, none⟩), .int .u64 4096, .int .i64 6, .int .u64 5000] w fun e w' => e = .returned (.int .i64 0) ∧ (∃ g1 g2, Two w' b r g1 g2 zB zB) ∧ Below r w w' := by
  have HC : Hid (w.cell? ⟨b, 0, none⟩ = some (.map (some r))) := hc
  have HR : Hid (w.heap[r]? = some (.map #[] 0)) := hr
  have HX : Hid (∀ W, Calls Try.prog 44 #[.int .u64 4096, .int .u64 5000] W fun e w' => e = .returned (.bool false) ∧ w' = W) := fun W => beyond12 4096 5000 (by omega) (by omega) (by omega) (by omega) W
  clear hc hr
  go_enter Try.func25, Try.ntmps25
  go_wp2_with fail
  refine (HX.out _).mono ?_
  rintro e w1 ⟨rfl, e1⟩
  subst e1
  go_wp2_with fail
  refine (perm13_6 _).mono ?_
  rintro e w1 ⟨rfl, e1⟩
  subst e1
  go_wp2_with fail
  refine (free14_new b r _ HC.out hb HR.out (by omega)).mono ?_
  rintro e w2 ⟨rfl, hb2⟩
  have HB : Hid (Below w1.heap.size w1 w2) := hb2
  have c1 := (hb2.cell (p := ⟨b, 0, none⟩) hb).trans HC.out
  have s2 := hb2.size
  have hme := eql_nil r
  have hmk := make4096
  clear hb2
  go_wp2_with fail
  go_loopw [9] (fun x wr => Below r w1 wr ∧ wr.cell? ⟨b, 0, none⟩ = some (.map (some r)) ∧ b < wr.heap.size ∧ ((x = .int .u64 4096 ∧ wr.heap[r]? = some (.map #[] 0)) ∨ (x = .int .u64 8192 ∧ ∃ g1, wr.heap[r]? = some (.map #[ent 4096 g1 0] 1) ∧ wr.heap[g1]? = some (.cells zB 5) ∧ b < g1 ∧ g1 < wr.heap.size) ∨ (x = .int .u64 12288 ∧ ∃ g1 g2, Two wr b r g1 g2 zB zB))) (fun x _ => (12288 - intOf x).toNat)
  case atStart => exact ⟨HB.out.mono (by omega), c1, by omega, .inl ⟨rfl, (HB.out.block r (by omega)).trans HR.out⟩⟩
  case round =>
    obtain ⟨hbl, hcb, hrw, hx⟩ := hrel
    have HBL : Hid (Below r w1 wr) := hbl
    have HCB : Hid (wr.cell? ⟨b, 0, none⟩ = some (.map (some r))) := hcb
    clear hbl
    rcases hx with ⟨rfl, hm⟩ | ⟨rfl, g1, hm, hg, hg1, hg2⟩ | ⟨rfl, g1, g2, hm⟩
    · have hup : (Instr.mapUpdate 65 (.map (some r)) (.int .u64 4096) (.agg #[.int .u64 4096, .int .i64 6, .slice (some ⟨wr.heap.size, 0, none⟩) 4096 4096])).run Try.prog (wr.alloc (.cells zB 5)).drew = .ok () ((wr.alloc (.cells zB 5)).drew.putObj r (.map #[ent 4096 wr.heap.size 0] 1)) := upd42 r 4096 _ #[] 0 _ (heap_on hm _) rfl
      have hpc : ((wr.alloc (.cells zB 5)).drew.putObj r (.map #[ent 4096 wr.heap.size 0] 1)).cell? ⟨b, 0, none⟩ = some (.map (some r)) := by rw [put_cell (by omega)]; exact (((Below.refl _ wr).alloc (Nat.le_refl _) _).cell (p := ⟨b, 0, none⟩) hrw).trans HCB.out
      clear hm
      go_wp2_with fail
      go_region_held3 (fun w' => w'.cell? ⟨b, 0, none⟩ = some (.map (some r))) (first | exact hpc | go_keep) (fail)
      go_wp2
      go_roundw
      case rel =>
        refine ⟨below_putObj (((HBL.out.alloc (by omega) _)).drew) (Nat.le_refl _) _, ?_, ?_, .inr (.inl ⟨rfl, wr.heap.size, World.putObj_heap_same (by simp; omega), ?_, hrw, ?_⟩)⟩
        · rw [put_cell (by omega)]; exact (((Below.refl _ wr).alloc (Nat.le_refl _) _).cell (p := ⟨b, 0, none⟩) hrw).trans HCB.out
        · simp [World.putObj]; omega
        · rw [World.putObj_heap_other (by omega)]; exact heap_at wr _
        · simp [World.putObj]
      case measure => simp [intOf]
    · have hup : (Instr.mapUpdate 65 (.map (some r)) (.int .u64 8192) (.agg #[.int .u64 8192, .int .i64 6, .slice (some ⟨wr.heap.size, 0, none⟩) 4096 4096])).run Try.prog (wr.alloc (.cells zB 5)).drew = .ok () ((wr.alloc (.cells zB 5)).drew.putObj r (.map #[ent 4096 g1 0, ent 8192 wr.heap.size 1] 2)) := upd42 r 8192 _ #[ent 4096 g1 0] 1 _ (heap_on hm _) rfl
      have HG : Hid (wr.heap[g1]? = some (.cells zB 5)) := hg
      have hpc : ((wr.alloc (.cells zB 5)).drew.putObj r (.map #[ent 4096 g1 0, ent 8192 wr.heap.size 1] 2)).cell? ⟨b, 0, none⟩ = some (.map (some r)) := by rw [put_cell (by omega)]; exact (((Below.refl _ wr).alloc (Nat.le_refl _) _).cell (p := ⟨b, 0, none⟩) hrw).trans HCB.out
      clear hm hg
      go_wp2_with fail
      go_region_held3 (fun w' => w'.cell? ⟨b, 0, none⟩ = some (.map (some r))) (first | exact hpc | go_keep) (fail)
      go_wp2
      go_roundw
      case rel =>
        refine ⟨below_putObj (((HBL.out.alloc (by omega) _)).drew) (Nat.le_refl _) _, ?_, ?_, .inr (.inr ⟨rfl, g1, wr.heap.size, ?_, World.putObj_heap_same (by simp; omega), ?_, ?_, hrl, hg1, hg2⟩)⟩
        · rw [put_cell (by omega)]; exact (((Below.refl _ wr).alloc (Nat.le_refl _) _).cell (p := ⟨b, 0, none⟩) hrw).trans HCB.out
        · simp [World.putObj]; omega
        · rw [put_cell (by omega)]; exact (((Below.refl _ wr).alloc (Nat.le_refl _) _).cell (p := ⟨b, 0, none⟩) hrw).trans HCB.out
        · rw [World.putObj_heap_other (by omega)]; exact heap_on HG.out _
        · rw [World.putObj_heap_other (by omega)]; exact heap_at wr _
      case measure => simp [intOf]
    · go_wp2
      go_ret
      exact ⟨rfl, ⟨g1, g2, hm⟩, HBL.out⟩
end Go.Proofs.Ytndbkkldfinggab
