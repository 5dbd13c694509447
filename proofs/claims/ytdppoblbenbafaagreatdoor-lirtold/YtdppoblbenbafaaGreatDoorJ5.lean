/- The document's own look at an instruction's fields. -/
import Derived.Test.YtdppoblbenbafaaGreatDoorJJ
import Derived.Test.YtdppoblbenbafaaGreatDoorHH
namespace Go.Proofs.YtdppoblbenbafaaGreatDoor
open Go.RowKit Go.Shelf
set_option maxHeartbeats 4000000
def toR (h : Bool) (bl : Nat) (t : Int) : Bool := if h then decide (0 ≤ t) && decide (t < bl) else t == 0
/-- Are an instruction's fields right by themselves? -/
def fdR (f : Fnh) (i : Ins) : Bool := !(fmL i.op).isEmpty && (flB f.rg (fmL i.op) 68 100 i.d && (flB f.rg (fmL i.op) 65 97 i.a && (flB f.rg (fmL i.op) 66 98 i.b && (((fmL i.op).contains 78 || i.n == 0) && (((fmL i.op).contains 83 || i.nm.data.toList.isEmpty) && (((fmL i.op).contains 82 || i.gs.isEmpty) && (toR ((fmL i.op).contains 84) f.bl i.to && (toR ((fmL i.op).contains 69) f.bl i.el && i.gs.all (rgB f.rg)))))))))
theorem fmL_size (k : Int) : (⟨(fmL k).toArray⟩ : ByteArray).size ≤ maxLen := by
  show (fmL k).toArray.size ≤ _
  have : (fmL k).length ≤ 4 := by
    unfold fmL
    repeat' split
    all_goals simp
  unfold maxLen
  simp
  omega

/-- The two boxes of a look at fields, as they lie. -/
structure Bx2 (w W : World) (f : Fnh) (i : Ins) (al : Nat) : Prop where
  g : G w W
  sz : w.heap.size + 1 < W.heap.size
  f0 : W.cell? ⟨w.heap.size, 0, none⟩ = some (.string f.nm)
  f1 : W.cell? ⟨w.heap.size, 1, none⟩ = some (.int .i64 f.pa)
  f2 : W.cell? ⟨w.heap.size, 2, none⟩ = some (.int .i64 f.rg)
  f3 : W.cell? ⟨w.heap.size, 3, none⟩ = some (.int .i64 f.fr)
  f4 : W.cell? ⟨w.heap.size, 4, none⟩ = some (.slice f.ba f.bl f.bc)
  i0 : W.cell? ⟨w.heap.size + 1, 0, none⟩ = some (.int .i64 i.op)
  i1 : W.cell? ⟨w.heap.size + 1, 1, none⟩ = some (.int .i64 i.d)
  i2 : W.cell? ⟨w.heap.size + 1, 2, none⟩ = some (.int .i64 i.a)
  i3 : W.cell? ⟨w.heap.size + 1, 3, none⟩ = some (.int .i64 i.b)
  i4 : W.cell? ⟨w.heap.size + 1, 4, none⟩ = some (.int .i64 i.n)
  i5 : W.cell? ⟨w.heap.size + 1, 5, none⟩ = some (.string i.nm)
  i6 : W.cell? ⟨w.heap.size + 1, 6, none⟩ = some (.slice i.ar al i.ac)
  i7 : W.cell? ⟨w.heap.size + 1, 7, none⟩ = some (.int .i64 i.to)
  i8 : W.cell? ⟨w.heap.size + 1, 8, none⟩ = some (.int .i64 i.el)
theorem Bx2.to {w W W' : World} {f : Fnh} {i : Ins} {al : Nat} (h : Bx2 w W f i al) (hg : G W W') : Bx2 w W' f i al := by
  obtain ⟨kc, _⟩ := bcell hg.below
  have s := h.sz
  exact ⟨h.g.trans hg, Nat.lt_of_lt_of_le s hg.below.size, (kc _ _ (by omega)).trans h.f0, (kc _ _ (by omega)).trans h.f1, (kc _ _ (by omega)).trans h.f2, (kc _ _ (by omega)).trans h.f3, (kc _ _ (by omega)).trans h.f4, (kc _ _ s).trans h.i0, (kc _ _ s).trans h.i1, (kc _ _ s).trans h.i2, (kc _ _ s).trans h.i3, (kc _ _ s).trans h.i4, (kc _ _ s).trans h.i5, (kc _ _ s).trans h.i6, (kc _ _ s).trans h.i7, (kc _ _ s).trans h.i8⟩
theorem bx2 (w : World) (f : Fnh) (i : Ins) (al : Nat) : Bx2 w ((w.alloc (.cells #[.string f.nm, .int .i64 f.pa, .int .i64 f.rg, .int .i64 f.fr, .slice f.ba f.bl f.bc] 27)).alloc (.cells #[.int .i64 i.op, .int .i64 i.d, .int .i64 i.a, .int .i64 i.b, .int .i64 i.n, .string i.nm, .slice i.ar al i.ac, .int .i64 i.to, .int .i64 i.el] 54)) f i al :=
  ⟨((G.refl _).alloc _).alloc _, by simp, by go_simp, by go_simp, by go_simp, by go_simp, by go_simp, by go_simp, by go_simp, by go_simp, by go_simp, by go_simp, by go_simp, by go_simp, by go_simp, by go_simp⟩
theorem rf_none (f : Fnh) (i : Ins) (w : World) (h : fmL i.op = []) : Calls Tryz.prog 63 #[fnhV f, inV i] w fun e w' => e = .returned (.bool false) ∧ G w w' := by
  have HF : Hid (∀ w, Calls Tryz.prog 92 #[.int .i64 i.op] w fun e w' => e = .returned (.string ⟨#[]⟩) ∧ w' = w) := fun w => by
    have t := rform92 i.op w
    rw [h] at t
    exact t
  clear h
  unfold fnhV inV
  generalize i.gs.length = al
  go_enter Tryz.func63, Tryz.ntmps63
  go_wp2_with (first | (go_at_call 92; refine (HF.out _).mono ?_; rintro e w' ⟨rfl, rfl⟩))
  go_ret
  exact ⟨rfl, ((G.refl _).alloc _).alloc _⟩
theorem rf_early (f : Fnh) (i : Ins) (w : World) (h0 : fmL i.op ≠ []) (h : flB f.rg (fmL i.op) 68 100 i.d = false ∨ flB f.rg (fmL i.op) 65 97 i.a = false ∨ flB f.rg (fmL i.op) 66 98 i.b = false) : Calls Tryz.prog 63 #[fnhV f, inV i] w fun e w' => e = .returned (.bool false) ∧ G w w' := by
  have HF : Hid (∀ w, Calls Tryz.prog 92 #[.int .i64 i.op] w fun e w' => e = .returned (.string ⟨(fmL i.op).toArray⟩) ∧ w' = w) := fun w => rform92 i.op w
  have HD : Hid (∀ w, Calls Tryz.prog 93 #[fnhV f, .string ⟨(fmL i.op).toArray⟩, .int .u8 68, .int .u8 100, .int .i64 i.d] w fun e w' => e = .returned (.bool (flB f.rg (fmL i.op) 68 100 i.d)) ∧ G w w') := fun w => rfield93 f ⟨(fmL i.op).toArray⟩ 68 100 i.d w (fmL_size _)
  have HA : Hid (∀ w, Calls Tryz.prog 93 #[fnhV f, .string ⟨(fmL i.op).toArray⟩, .int .u8 65, .int .u8 97, .int .i64 i.a] w fun e w' => e = .returned (.bool (flB f.rg (fmL i.op) 65 97 i.a)) ∧ G w w') := fun w => rfield93 f ⟨(fmL i.op).toArray⟩ 65 97 i.a w (fmL_size _)
  have HB : Hid (∀ w, Calls Tryz.prog 93 #[fnhV f, .string ⟨(fmL i.op).toArray⟩, .int .u8 66, .int .u8 98, .int .i64 i.b] w fun e w' => e = .returned (.bool (flB f.rg (fmL i.op) 66 98 i.b)) ∧ G w w') := fun w => rfield93 f ⟨(fmL i.op).toArray⟩ 66 98 i.b w (fmL_size _)
  have HBX : Hid (Bx2 w ((w.alloc (.cells #[.string f.nm, .int .i64 f.pa, .int .i64 f.rg, .int .i64 f.fr, .slice f.ba f.bl f.bc] 27)).alloc (.cells #[.int .i64 i.op, .int .i64 i.d, .int .i64 i.a, .int .i64 i.b, .int .i64 i.n, .string i.nm, .slice i.ar i.gs.length i.ac, .int .i64 i.to, .int .i64 i.el] 54)) f i i.gs.length) := bx2 w f i _
  unfold fnhV inV at *
  generalize i.gs.length = al at *
  have q0 : (fmL i.op).isEmpty = false := by simpa using h0
  clear h0
  generalize flB f.rg (fmL i.op) 68 100 i.d = XD at *
  generalize flB f.rg (fmL i.op) 65 97 i.a = XA at *
  generalize flB f.rg (fmL i.op) 66 98 i.b = XB at *
  generalize fmL i.op = F at *
  cases XD with
  | false =>
    clear h
    go_enter Tryz.func63, Tryz.ntmps63
    go_wp2_with (first | (go_at_call 92; refine (HF.out _).mono ?_; rintro e w0 ⟨rfl, rfl⟩) | (go_at_call 93; with_reducible refine (HD.out _).mono ?_; rintro e w1 ⟨rfl, hg⟩))
    go_ret
    exact ⟨rfl, (((G.refl _).alloc _).alloc _).trans hg⟩
  | true =>
    cases XA with
    | false =>
      clear h
      go_enter Tryz.func63, Tryz.ntmps63
      go_wp2_with (first | (go_at_call 92; refine (HF.out _).mono ?_; rintro e w0 ⟨rfl, rfl⟩))
      refine (HD.out _).mono ?_
      rintro e w1 ⟨rfl, hg1⟩
      have HX1 : Hid (Bx2 w w1 f i al) := HBX.out.to hg1
      clear hg1
      obtain ⟨-, -, a0, a1, a2, a3, a4, b0, b1, b2, b3, b4, b5, b6, b7, b8⟩ := HX1.out
      go_wp2_with fail
      refine (HA.out _).mono ?_
      rintro e w2 ⟨rfl, hg2⟩
      go_wp2
      go_ret
      exact ⟨rfl, HX1.out.g.trans hg2⟩
    | true =>
      obtain rfl : XB = false := by simpa using h
      clear h
      go_enter Tryz.func63, Tryz.ntmps63
      go_wp2_with (first | (go_at_call 92; refine (HF.out _).mono ?_; rintro e w0 ⟨rfl, rfl⟩))
      refine (HD.out _).mono ?_
      rintro e w1 ⟨rfl, hg1⟩
      have HX1 : Hid (Bx2 w w1 f i al) := HBX.out.to hg1
      clear hg1
      obtain ⟨-, -, a0, a1, a2, a3, a4, b0, b1, b2, b3, b4, b5, b6, b7, b8⟩ := HX1.out
      go_wp2_with fail
      refine (HA.out _).mono ?_
      rintro e w2 ⟨rfl, hg2⟩
      have HX2 : Hid (Bx2 w w2 f i al) := HX1.out.to hg2
      clear hg2 a0 a1 a2 a3 a4 b0 b1 b2 b3 b4 b5 b6 b7 b8
      obtain ⟨-, -, a0, a1, a2, a3, a4, b0, b1, b2, b3, b4, b5, b6, b7, b8⟩ := HX2.out
      go_wp2_with fail
      refine (HB.out _).mono ?_
      rintro e w3 ⟨rfl, hg3⟩
      go_wp2
      go_ret
      exact ⟨rfl, HX2.out.g.trans hg3⟩
end Go.Proofs.YtdppoblbenbafaaGreatDoor
