/- An instruction's name and arguments. An instruction, looked at: what lies ahead. -/
import Derived.Test.YtdppoblbenbafaaDoorXAD
import Derived.Laws.EntriesVeiled
import Derived.Test.YtdppoblbenbafaaDoorXAB
namespace Go.Proofs.YtdppoblbenbafaaDoor
section
open Go.RowKit Go.Shelf
set_option maxHeartbeats 2000000
/-- Is it an operation's name? -/
def opB (l : List UInt8) : Bool := [[97, 100, 100], [115, 117, 98], [109, 117, 108], [109, 117, 108, 104], [100, 105, 118], [114, 101, 109], [97, 110, 100], [111, 114], [120, 111, 114], [115, 108, 108], [115, 114, 108], [115, 114, 97], [115, 108, 116], [115, 108, 116, 117]].contains l
theorem ba_ne' {s : ByteArray} {l : List UInt8} (h : s ≠ ⟨l.toArray⟩) : (s == ⟨l.toArray⟩) = false ∧ s.data.toList ≠ l := by
  constructor
  · cases e : (s == ⟨l.toArray⟩)
    · rfl
    · exact absurd ((Go.MapKept.bytes_beq _ _).1 e) h
  · intro t
    refine h ?_
    cases s with
    | mk d =>
      simp at t
      rw [← t]
theorem op_cases (s : ByteArray) : (opB s.data.toList = true ∧ ∃ i f, Instr.findNow .string (.string s) oes.toList 0 = some (some (i, .agg #[.func (.func f) #[] #[]]))) ∨ (opB s.data.toList = false ∧ Instr.findNow .string (.string s) oes.toList 0 = some none) := by
  by_cases h0 : s = ⟨#[97, 100, 100]⟩
  · subst h0
    exact .inl ⟨rfl, 0, 24, rfl⟩
  by_cases h1 : s = ⟨#[115, 117, 98]⟩
  · subst h1
    exact .inl ⟨rfl, 1, 25, rfl⟩
  by_cases h2 : s = ⟨#[109, 117, 108]⟩
  · subst h2
    exact .inl ⟨rfl, 2, 26, rfl⟩
  by_cases h3 : s = ⟨#[109, 117, 108, 104]⟩
  · subst h3
    exact .inl ⟨rfl, 3, 27, rfl⟩
  by_cases h4 : s = ⟨#[100, 105, 118]⟩
  · subst h4
    exact .inl ⟨rfl, 4, 28, rfl⟩
  by_cases h5 : s = ⟨#[114, 101, 109]⟩
  · subst h5
    exact .inl ⟨rfl, 5, 29, rfl⟩
  by_cases h6 : s = ⟨#[97, 110, 100]⟩
  · subst h6
    exact .inl ⟨rfl, 6, 30, rfl⟩
  by_cases h7 : s = ⟨#[111, 114]⟩
  · subst h7
    exact .inl ⟨rfl, 7, 31, rfl⟩
  by_cases h8 : s = ⟨#[120, 111, 114]⟩
  · subst h8
    exact .inl ⟨rfl, 8, 32, rfl⟩
  by_cases h9 : s = ⟨#[115, 108, 108]⟩
  · subst h9
    exact .inl ⟨rfl, 9, 33, rfl⟩
  by_cases h10 : s = ⟨#[115, 114, 108]⟩
  · subst h10
    exact .inl ⟨rfl, 10, 35, rfl⟩
  by_cases h11 : s = ⟨#[115, 114, 97]⟩
  · subst h11
    exact .inl ⟨rfl, 11, 36, rfl⟩
  by_cases h12 : s = ⟨#[115, 108, 116]⟩
  · subst h12
    exact .inl ⟨rfl, 12, 37, rfl⟩
  by_cases h13 : s = ⟨#[115, 108, 116, 117]⟩
  · subst h13
    exact .inl ⟨rfl, 13, 39, rfl⟩
  obtain ⟨p0, q0⟩ := ba_ne' (l := [97, 100, 100]) h0
  obtain ⟨p1, q1⟩ := ba_ne' (l := [115, 117, 98]) h1
  obtain ⟨p2, q2⟩ := ba_ne' (l := [109, 117, 108]) h2
  obtain ⟨p3, q3⟩ := ba_ne' (l := [109, 117, 108, 104]) h3
  obtain ⟨p4, q4⟩ := ba_ne' (l := [100, 105, 118]) h4
  obtain ⟨p5, q5⟩ := ba_ne' (l := [114, 101, 109]) h5
  obtain ⟨p6, q6⟩ := ba_ne' (l := [97, 110, 100]) h6
  obtain ⟨p7, q7⟩ := ba_ne' (l := [111, 114]) h7
  obtain ⟨p8, q8⟩ := ba_ne' (l := [120, 111, 114]) h8
  obtain ⟨p9, q9⟩ := ba_ne' (l := [115, 108, 108]) h9
  obtain ⟨p10, q10⟩ := ba_ne' (l := [115, 114, 108]) h10
  obtain ⟨p11, q11⟩ := ba_ne' (l := [115, 114, 97]) h11
  obtain ⟨p12, q12⟩ := ba_ne' (l := [115, 108, 116]) h12
  obtain ⟨p13, q13⟩ := ba_ne' (l := [115, 108, 116, 117]) h13
  refine .inr ⟨?_, ?_⟩
  · unfold opB
    simp [q0, q1, q2, q3, q4, q5, q6, q7, q8, q9, q10, q11, q12, q13]
  · unfold oes
    simp only [Instr.findNow, Instr.sameNow, en]
    rw [p0, p1, p2, p3, p4, p5, p6, p7, p8, p9, p10, p11, p12, p13]
theorem look30f (W : World) (r i : Nat) (s : ByteArray) (v : Value) (hr : W.heap[r]? = some (.map oes 14)) (hf : Instr.findNow .string (.string s) oes.toList 0 = some (some (i, v))) : (Instr.lookup 53 (.map (some r)) (.string s) true).run Tryd.prog W = .ok (.tuple #[v, .bool true]) W := by
  unfold Instr.lookup
  simp [Sem.run_bind, run_underlying und30, run_getObj_map W r oes 14 hr, check9, Go.MapKept.run_findKey Tryd.underlying9 hf]
theorem look30z (W : World) (r : Nat) (s : ByteArray) (hr : W.heap[r]? = some (.map oes 14)) (hf : Instr.findNow .string (.string s) oes.toList 0 = some none) : (Instr.lookup 53 (.map (some r)) (.string s) true).run Tryd.prog W = .ok (.tuple #[.agg #[.nilFunc], .bool false]) W := by
  unfold Instr.lookup
  simp [Sem.run_bind, run_underlying und30, run_getObj_map W r oes 14 hr, check9, Go.MapKept.run_findKey Tryd.underlying9 hf]
/-- Are an instruction's name and arguments right? -/
def nanB (op : Int) (l : List UInt8) (n : Nat) (fd : Option (Option Int)) : Bool := if op = 7 then calB l n fd else if op = 3 then opB l && decide (n = 0) else l.isEmpty && decide (n = 0)
theorem ba_empty (s : ByteArray) : s.toList.isEmpty = s.data.toList.isEmpty := by rw [ByteArray.toList_eq]
set_option maxRecDepth 20000 in
theorem nameAndArgs67 (m : Nat) (pv : Value) (i : Ins) (fd : Option (Option Int)) (w : World) (hs : i.nm.size ≤ maxLen) (hm : w.heap[m]? = some (.map oes 14)) (hp : PmA w pv i.nm fd) : Calls Tryd.prog 70 #[.agg #[.map (some m), pv], inV i] w fun e w' => e = .returned (.bool (nanB i.op i.nm.data.toList i.gs.length fd)) ∧ G w w' := by
  have HC : Hid (∀ W, G w W → Calls Tryd.prog 77 #[.agg #[.map (some m), pv], .string i.nm, .int .i64 (i.gs.length : Nat)] W fun e w' => e = .returned (.bool (calB i.nm.data.toList i.gs.length fd)) ∧ G W w') := fun W hW => callee74 m pv i.nm _ fd W hs (hp.g hW.below)
  have ho : ∃ o, pv = .map o := by
    match fd, hp with
    | none, hp => exact ⟨none, hp⟩
    | some none, ⟨r, _, _, h, _⟩ => exact ⟨some r, h⟩
    | some (some _), ⟨r, _, _, _, h, _⟩ => exact ⟨some r, h⟩
  obtain ⟨po, rfl⟩ := ho
  clear hp hs
  unfold inV
  have HVd : Hid (∀ R, R = nanB i.op i.nm.data.toList i.gs.length fd → nanB i.op i.nm.data.toList i.gs.length fd = R) := fun R h => h.symm
  by_cases h7 : i.op = 7
  · have HV : Hid (calB i.nm.data.toList i.gs.length fd = nanB i.op i.nm.data.toList i.gs.length fd) := by show _ = _; unfold nanB; rw [if_pos h7]
    generalize nanB i.op i.nm.data.toList i.gs.length fd = R at *
    rw [h7]
    clear h7 HVd
    generalize i.gs.length = al at *
    go_enter Tryd.func70, Tryd.ntmps70
    go_wp2_with (first | (go_at_call 77; refine (HC.out _ (((G.refl _).alloc _).alloc _)).mono ?_; rintro e w1 ⟨rfl, hg⟩))
    go_ret
    exact ⟨ret_bool HV.out, (((G.refl _).alloc _).alloc _).trans hg⟩
  have e7 : (i.op == 7) = false := by simp; omega
  clear HC HVd
  by_cases h3 : i.op = 3
  · have HV : Hid (nanB i.op i.nm.data.toList i.gs.length fd = (opB i.nm.data.toList && decide (i.gs.length = 0))) := by show _ = _; unfold nanB; rw [if_neg h7, if_pos h3]
    generalize nanB i.op i.nm.data.toList i.gs.length fd = R at *
    rw [h3]
    clear h7 e7 h3
    generalize i.gs.length = al at *
    have hW : ((w.alloc (.cells #[.map (some m), .map po] 68)).alloc (.cells #[.int .i64 3, .int .i64 i.d, .int .i64 i.a, .int .i64 i.b, .int .i64 i.n, .string i.nm, .slice i.ar al i.ac, .int .i64 i.to, .int .i64 i.el] 49)).heap[m]? = some (.map oes 14) := by
      have hml := (Array.getElem?_eq_some_iff.1 hm).1
      rw [(Go.MapKept.heap_alloc _ _).2 _ (by simp; omega), (Go.MapKept.heap_alloc _ _).2 _ hml]
      exact hm
    rcases op_cases i.nm with ⟨h1, j, fn, h2⟩ | ⟨h1, h2⟩
    · have hl := look30f _ m j i.nm _ hW h2
      have HE : Hid (((al : Int) == 0) = R) := by show _ = _; rw [HV.out, h1, Bool.eq_iff_iff]; simp
      clear hW h1 h2 hm
      go_enter Tryd.func70, Tryd.ntmps70
      go_wp2
      go_ret
      exact ⟨ret_bool HE.out, (((G.refl _).alloc _).alloc _).alloc _⟩
    · have hl := look30z _ m i.nm hW h2
      have HE : Hid (false = R) := by show _ = _; rw [HV.out, h1]; rfl
      clear hW h1 h2 hm
      go_enter Tryd.func70, Tryd.ntmps70
      go_wp2
      go_ret
      exact ⟨ret_bool HE.out, (((G.refl _).alloc _).alloc _).alloc _⟩
  have e3 : (i.op == 3) = false := by simp; omega
  have HV : Hid (nanB i.op i.nm.data.toList i.gs.length fd = (i.nm.data.toList.isEmpty && decide (i.gs.length = 0))) := by show _ = _; unfold nanB; rw [if_neg h7, if_neg h3]
  generalize nanB i.op i.nm.data.toList i.gs.length fd = R at *
  have hbe := ba_empty i.nm
  clear h7 h3 hm
  generalize i.gs.length = al at *
  cases hb : i.nm.data.toList.isEmpty with
  | true =>
    have HE : Hid (((al : Int) == 0) = R) := by show _ = _; rw [HV.out, hb, Bool.eq_iff_iff]; simp
    rw [hb] at hbe
    clear hb
    go_enter Tryd.func70, Tryd.ntmps70
    go_wp2
    go_ret
    exact ⟨ret_bool HE.out, ((G.refl _).alloc _).alloc _⟩
  | false =>
    have HE : Hid (false = R) := by show _ = _; rw [HV.out, hb]; rfl
    rw [hb] at hbe
    clear hb
    go_enter Tryd.func70, Tryd.ntmps70
    go_wp2
    go_ret
    exact ⟨ret_bool HE.out, ((G.refl _).alloc _).alloc _⟩
end
section
open Go.RowKit Go.Shelf
/-- The arguments, as they lie. -/
def ArA (W : World) (ar : Option Addr) (ac : Nat) (l : List Int) : Prop := l.length ≤ ac ∧ ac ≤ 9223372036854775807 ∧ (0 < l.length → ∃ g o, ar = some ⟨g, o, none⟩ ∧ ∀ (j : Nat) (y : Int), l[j]? = some y → W.cell? ⟨g, o + j, none⟩ = some (.int .i64 y))
theorem ArA.below {W W' : World} {ar : Option Addr} {ac : Nat} {l : List Int} (h : ArA W ar ac l) (hb : Below W.heap.size W W') : ArA W' ar ac l := by
  refine ⟨h.1, h.2.1, fun hl => ?_⟩
  obtain ⟨g, o, e, hc⟩ := h.2.2 hl
  exact ⟨g, o, e, fun j y hj => by rw [hb.cell (p := ⟨g, o + j, none⟩) (World.block_lt_of_cell? _ _ (hc j y hj))]; exact hc j y hj⟩
end
end Go.Proofs.YtdppoblbenbafaaDoor
