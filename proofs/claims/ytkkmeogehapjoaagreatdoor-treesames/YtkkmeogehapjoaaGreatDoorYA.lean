/- The builder within a printer: its copy check. A byte, a string written to a printer's builder. A token. What a printer puts: parts, their tokens; a node in brackets. Which kind a part is. -/
import Derived.Test.YtkkmeogehapjoaaGreatDoorXB
import Derived.Lib.Builder
import Derived.Deep.Heap
import Derived.Laws.AppendOwn
namespace Go.Proofs.YtkkmeogehapjoaaGreatDoor
section
open Go.RowKit Go.Shelf
theorem bsz : (Tryz.prog.info? 58).map (·.size) = some 2 := by kernel_rfl
/-- A printer in a block of its own, that holds these bytes. -/
def PrnAt (B b : Nat) (nd p : Value) (bs : List Value) (w : World) : Prop :=
  B ≤ b ∧ ∃ v, w.heap[b]? = some (.cells #[nd, p, v] 60 (0, 0)) ∧ w.ownsRow B 5 1 v bs.length bs ∧ v.ownBlock ≠ some b
def Prn (B b : Nat) (nd : Value) (bs : List Value) (w : World) : Prop :=
  PrnAt B b nd (.pointer none) bs w ∨ PrnAt B b nd (.pointer (some ⟨b, 1, none⟩)) bs w
/-- What is no row of bytes, and not the printer, is kept. -/
def Kept (b : Nat) (w w' : World) : Prop := ∀ i cs T fr, w.heap[i]? = some (.cells cs T fr) → T ≠ 5 → i ≠ b → w'.heap[i]? = w.heap[i]?
theorem Kept.refl (b : Nat) (w : World) : Kept b w w := fun _ _ _ _ _ _ _ => rfl
theorem Kept.trans {b : Nat} {w w' w'' : World} (h : Kept b w w') (k : Kept b w' w'') : Kept b w w'' := fun i cs T fr hi hT hb => by
  have e := h i cs T fr hi hT hb
  rw [k i cs T fr (e.trans hi) hT hb, e]
theorem Kept.alloc {b : Nat} {w w' : World} (h : Kept b w w') (o : Obj) : Kept b w (w'.alloc o) := fun i cs T fr hi hT hb => by
  have e := h i cs T fr hi hT hb
  have hlt : i < w'.heap.size := (Array.getElem?_eq_some_iff.1 (e.trans hi)).1
  rw [Lib.alloc_old w' o i hlt, e]
theorem PrnAt.lt {B b : Nat} {nd p : Value} {bs : List Value} {w : World} (h : PrnAt B b nd p bs w) : b < w.heap.size := by
  obtain ⟨_, v, hb, _⟩ := h
  exact (Array.getElem?_eq_some_iff.1 hb).1
theorem PrnAt.used {B b : Nat} {nd p : Value} {bs : List Value} {w : World} (h : PrnAt B b nd p bs w) (q : Value) : PrnAt B b nd q bs (w.setCell ⟨b, 1, none⟩ q) := by
  obtain ⟨hB, v, hb, hown, hne⟩ := h
  refine ⟨hB, v, ?_, ?_, hne⟩
  · simp [World.setCell, Array.getElem?_modify, hb]
  · refine hown.kept (row := some b) ⟨rfl, rfl, rfl, by simp [World.setCell], fun k _ hk => Below.heap_setCell _ _ _ _ (fun e => hk (by simp [e]))⟩ ?_
    exact Or.inr hne
theorem PrnAt.put {B b : Nat} {nd p v v' : Value} {bs' : List Value} {w : World} (hB : B ≤ b) (hb : w.heap[b]? = some (.cells #[nd, p, v] 60 (0, 0))) (hown : w.ownsRow B 5 1 v' bs'.length bs') :
    PrnAt B b nd p bs' (w.setCell ⟨b, 2, none⟩ v') := by
  have hne := Lib.ownBlock_ne hown hb (by decide)
  refine ⟨hB, v', ?_, ?_, hne⟩
  · simp [World.setCell, Array.getElem?_modify, hb]
  · exact hown.kept (row := some b) ⟨rfl, rfl, rfl, by simp [World.setCell], fun k _ hk => Below.heap_setCell _ _ _ _ (fun e => hk (by simp [e]))⟩ (Or.inr hne)
set_option maxRecDepth 100000 in
set_option maxHeartbeats 2000000 in
theorem check_used (b : Nat) (w : World) (c0 : w.cell? ⟨b, 1, none⟩ = some (.pointer (some ⟨b, 1, none⟩))) : Calls Tryz.prog 90 #[.pointer (some ⟨b, 1, none⟩)] w fun e w' => e = .returned (.tuple #[]) ∧ w' = w := by
  obtain ⟨j, hj, _⟩ := Option.map_eq_some_iff.1 bsz
  go_enter Tryz.func90, Tryz.ntmps90
  go_wp2
  rw [Lib.run_neq_ptr_same w _ Tryz.underlying55 hj]
  go_wp2
  go_end0
  exact ⟨rfl, rfl⟩
set_option maxRecDepth 100000 in
set_option maxHeartbeats 2000000 in
theorem check_fresh (b : Nat) (w : World) (h0 : w.cell? ⟨b, 1, none⟩ = some (.pointer none)) (hsh : w.shape? b = some (60, 3)) (hfz : w.frozen? ⟨b, 1, none⟩ = false) : Calls Tryz.prog 90 #[.pointer (some ⟨b, 1, none⟩)] w fun e w' => e = .returned (.tuple #[]) ∧ w' = w.setCell ⟨b, 1, none⟩ (.pointer (some ⟨b, 1, none⟩)) := by
  obtain ⟨j, hj, hjs⟩ := Option.map_eq_some_iff.1 bsz
  go_enter Tryz.func90, Tryz.ntmps90
  go_wp2
  rw [Lib.run_to_unsafe w ⟨b, 1, none⟩ Tryz.underlying55 Tryz.underlying133 hj (by rw [hjs]; decide) hsh (show 1 < 3 by decide)]
  simp only [Result.andThen]
  rw [Oper.upon_value]
  go_wp2
  rw [run_callFunc_extern Tryz.func109 (by kernel_rfl) (by kernel_rfl) (by kernel_rfl) (e := Extern.AbiNoEscape.same) (by kernel_rfl)]
  rw [Lib.run_noEscape]
  simp only [Result.andThen]
  rw [Oper.upon_value]
  go_wp2
  rw [Lib.run_from_unsafe w ⟨b, 1, none⟩ Tryz.underlying133 Tryz.underlying55 hj hsh (by kernel_rfl)]
  simp only [Result.andThen]
  rw [Oper.upon_value]
  go_wp2
  go_end0
  exact ⟨rfl, rfl⟩
theorem check90 (B b : Nat) (nd : Value) (bs : List Value) (w : World) (h : Prn B b nd bs w) : Calls Tryz.prog 90 #[.pointer (some ⟨b, 1, none⟩)] w fun e w' => e = .returned (.tuple #[]) ∧ PrnAt B b nd (.pointer (some ⟨b, 1, none⟩)) bs w' ∧ Below B w w' ∧ ∀ i, i ≠ b → w'.heap[i]? = w.heap[i]? := by
  rcases h with h | h
  · have h' := h
    obtain ⟨hB, v, hbk, _⟩ := h'
    refine (check_fresh b w (Joins.cell_of_block hbk 1) (by simp [World.shape?, hbk]) (Lib.frozen_of_heap hbk 1)).mono ?_
    rintro e w' ⟨rfl, rfl⟩
    exact ⟨rfl, h.used _, (Below.refl B w).setCell (p := ⟨b, 1, none⟩) h.1 _, fun i hi => Go.Deep.blk_setCell_other w ⟨b, 1, none⟩ _ i hi⟩
  · have h' := h
    obtain ⟨hB, v, hbk, _⟩ := h'
    refine (check_used b w (Joins.cell_of_block hbk 1)).mono ?_
    rintro e w' ⟨rfl, rfl⟩
    exact ⟨rfl, h, Below.refl B _, fun _ _ => rfl⟩
end
section
open Go.RowKit Go.Shelf
theorem info5 : (Tryz.prog.info? 5).map (fun i => (i.zero, i.size, i.bytes)) = some (some (.int .u8 0), 1, 1) := by kernel_rfl
theorem own_slice {w : World} {B e sz n : Nat} {v : Value} {xs : List Value} (h : w.ownsRow B e sz v n xs) : ∃ ao k cap, v = .slice ao k cap := by
  rcases h.2 with ⟨hv, _⟩ | ⟨g, cap, cur, hv, _⟩
  · exact ⟨_, _, _, hv⟩
  · exact ⟨_, _, _, hv⟩
theorem own_len {w : World} {B e n : Nat} {v : Value} {xs : List Value} (h : w.ownsRow B e 1 v n xs) : ∃ ao cap, v = .slice ao n cap := by
  rcases h.2 with ⟨hv, h0⟩ | ⟨g, cap, cur, hv, _⟩
  · exact ⟨_, _, by rw [hv, h0]⟩
  · exact ⟨_, _, hv⟩
set_option maxRecDepth 100000 in
set_option maxHeartbeats 4000000 in
theorem writeByte68 (B b : Nat) (nd : Value) (bs : List Value) (c : Int) (w : World) (h : Prn B b nd bs w) (hlen : bs.length + 1 ≤ 140737488355328) (hBw : B ≤ w.heap.size) : Calls Tryz.prog 68 #[.pointer (some ⟨b, 1, none⟩), .int .u8 c] w fun e w' => e = .returned .nilIface ∧ PrnAt B b nd (.pointer (some ⟨b, 1, none⟩)) (bs ++ [.int .u8 c]) w' ∧ Below B w w' ∧ Kept b w w' := by
  obtain ⟨i0, hi, hz0, hz1, hz2⟩ := info_parts info5
  go_enter Tryz.func68, Tryz.ntmps68
  go_wp2_with (go_at_call 90; refine (check90 B b nd bs _ h).mono ?_)
  rintro e w1 ⟨rfl, ⟨hB, v, hbk, hown, hne⟩, hb1, hsame⟩
  have c0 : w1.cell? ⟨b, 1, none⟩ = some (.pointer (some ⟨b, 1, none⟩)) := Joins.cell_of_block hbk 1
  have c1 : w1.cell? ⟨b, 2, none⟩ = some v := Joins.cell_of_block hbk 2
  have hsz := hb1.size
  go_wp2_with (at_builtin; refine wpList_append_own _ rfl _ _ 56 rfl B 5 i0 (.int .u8 0) 1 1 Tryz.underlying56 hi hz0 hz1 hz2 rfl (by decide) _ _ _ rfl (hown.alloc _) ⟨w1.heap.size, 0, none⟩ 1 1 [.int .u8 c] rfl rfl ?c1 ?c2 (by unfold maxLen; omega) (by omega) (by simp; omega) ?_)
  case c1 =>
    intro j u hj
    match j, hj with
    | 0, hj => simp at hj; subst hj; simp [Addr.add]
  case c2 => intro u hu; simp at hu; subst hu; rfl
  intro v' w2 hown' hgrow _
  have hlt : b < w1.heap.size := (Array.getElem?_eq_some_iff.1 hbk).1
  have hb2 : w2.heap[b]? = some (.cells #[nd, .pointer (some ⟨b, 1, none⟩), v] 60 (0, 0)) := by
    rw [hgrow.block b (by simp; omega) (fun e => hne e.symm), Lib.alloc_old w1 _ b hlt]
    exact hbk
  have d0 : w2.cell? ⟨b, 1, none⟩ = some (.pointer (some ⟨b, 1, none⟩)) := Joins.cell_of_block hb2 1
  have d1 : w2.cell? ⟨b, 2, none⟩ = some v := Joins.cell_of_block hb2 2
  have f1 : w2.frozen? ⟨b, 2, none⟩ = false := Lib.frozen_of_heap hb2 2
  obtain ⟨ao, n', cap, rfl⟩ := own_slice hown'
  go_wp2
  go_ret
  refine ⟨rfl, PrnAt.put hB hb2 (bs' := bs ++ [.int .u8 c]) (by simpa using hown'), ?_, ?_⟩
  · exact ((hb1.alloc (by omega) _).grown hgrow (by simp; omega) (fun k hk => (hown.lt k hk).1)).setCell (p := ⟨b, 2, none⟩) hB _
  · intro i cs T fr hi hT hib
    have h1 : w1.heap[i]? = some (.cells cs T fr) := (hsame i hib).trans hi
    have hl1 : i < w1.heap.size := (Array.getElem?_eq_some_iff.1 h1).1
    rw [Go.Deep.blk_setCell_other _ ⟨b, 2, none⟩ _ i hib, hgrow.block i (by simp; omega) (fun e => Lib.ownBlock_ne hown h1 hT e.symm), Lib.alloc_old w1 _ i hl1, h1, hi]
set_option maxRecDepth 100000 in
set_option maxHeartbeats 4000000 in
theorem writeString63 (B b : Nat) (nd : Value) (bs : List Value) (s : ByteArray) (w : World) (h : Prn B b nd bs w) (hlen : bs.length + s.size ≤ 140737488355328) (hBw : B ≤ w.heap.size) : Calls Tryz.prog 63 #[.pointer (some ⟨b, 1, none⟩), .string s] w fun e w' => e = .returned (.tuple #[.int .i64 s.size, .nilIface]) ∧ PrnAt B b nd (.pointer (some ⟨b, 1, none⟩)) (bs ++ Lib.strCells s) w' ∧ Below B w w' ∧ Kept b w w' := by
  obtain ⟨i0, hi, hz0, hz1, hz2⟩ := info_parts info5
  go_enter Tryz.func63, Tryz.ntmps63
  go_wp2_with (go_at_call 90; refine (check90 B b nd bs _ h).mono ?_)
  rintro e w1 ⟨rfl, ⟨hB, v, hbk, hown, hne⟩, hb1, hsame⟩
  have c0 : w1.cell? ⟨b, 1, none⟩ = some (.pointer (some ⟨b, 1, none⟩)) := Joins.cell_of_block hbk 1
  have c1 : w1.cell? ⟨b, 2, none⟩ = some v := Joins.cell_of_block hbk 2
  have hsz := hb1.size
  go_wp2_with (at_builtin; refine Lib.wpList_append_own_string _ rfl _ _ 56 9 rfl B 5 i0 Tryz.underlying56 Tryz.underlying9 hi hz0 hz1 hz2 _ _ _ rfl hown s rfl (by unfold maxLen; omega) (by omega) (by omega) ?_)
  intro v' w2 hown' hgrow _
  have hlt : b < w1.heap.size := (Array.getElem?_eq_some_iff.1 hbk).1
  have hb2 : w2.heap[b]? = some (.cells #[nd, .pointer (some ⟨b, 1, none⟩), v] 60 (0, 0)) := by
    rw [hgrow.block b hlt (fun e => hne e.symm)]
    exact hbk
  have d0 : w2.cell? ⟨b, 1, none⟩ = some (.pointer (some ⟨b, 1, none⟩)) := Joins.cell_of_block hb2 1
  have d1 : w2.cell? ⟨b, 2, none⟩ = some v := Joins.cell_of_block hb2 2
  have f1 : w2.frozen? ⟨b, 2, none⟩ = false := Lib.frozen_of_heap hb2 2
  obtain ⟨ao, n', cap, rfl⟩ := own_slice hown'
  go_wp2
  go_ret2
  refine ⟨rfl, PrnAt.put hB hb2 (bs' := bs ++ Lib.strCells s) (by simpa [Lib.strCells_length] using hown'), ?_, ?_⟩
  · exact (hb1.grown hgrow (by omega) (fun k hk => (hown.lt k hk).1)).setCell (p := ⟨b, 2, none⟩) hB _
  · intro i cs T fr hi hT hib
    have h1 : w1.heap[i]? = some (.cells cs T fr) := (hsame i hib).trans hi
    have hl1 : i < w1.heap.size := (Array.getElem?_eq_some_iff.1 h1).1
    rw [Go.Deep.blk_setCell_other _ ⟨b, 2, none⟩ _ i hib, hgrow.block i hl1 (fun e => Lib.ownBlock_ne hown h1 hT e.symm), h1, hi]
set_option maxRecDepth 100000 in
set_option maxHeartbeats 4000000 in
theorem len67 (B b : Nat) (nd : Value) (bs : List Value) (w : World) (h : Prn B b nd bs w) : Calls Tryz.prog 67 #[.pointer (some ⟨b, 1, none⟩)] w fun e w' => e = .returned (.int .i64 bs.length) ∧ w' = w := by
  obtain ⟨v, c1, hown⟩ : ∃ v, w.cell? ⟨b, 2, none⟩ = some v ∧ w.ownsRow B 5 1 v bs.length bs := by
    rcases h with ⟨_, v, hbk, hown, _⟩ | ⟨_, v, hbk, hown, _⟩
    · exact ⟨v, Joins.cell_of_block hbk 2, hown⟩
    · exact ⟨v, Joins.cell_of_block hbk 2, hown⟩
  obtain ⟨ao, cap, rfl⟩ := own_len hown
  generalize bs.length = n at *
  clear hown h
  go_enter Tryz.func67, Tryz.ntmps67
  go_wp2
  go_ret
  exact ⟨rfl, rfl⟩
end
section
open Go.RowKit Go.Shelf
/-- A text as cells. -/
def cT (t : List UInt8) : List Value := t.map fun c => .int .u8 c.toNat
theorem cT_str (s : ByteArray) : Lib.strCells s = cT s.data.toList := rfl
theorem cT_app (a b : List UInt8) : cT (a ++ b) = cT a ++ cT b := List.map_append
theorem cT_len (a : List UInt8) : (cT a).length = a.length := List.length_map _
/-- A printer that holds this text. -/
def Pr (B b : Nat) (nd : Value) (t : List UInt8) (w : World) : Prop := Prn B b nd (cT t) w ∧ B ≤ w.heap.size
/-- A token behind a text. -/
def tokS (t s : List UInt8) : List UInt8 := if s = [] then t else if t = [] then s else t ++ 32 :: s
/-- What writing leaves. -/
def PrE (B b : Nat) (nd : Value) (t : List UInt8) (w w' : World) : Prop := Pr B b nd t w' ∧ Below B w w' ∧ Kept b w w'
theorem PrE.of {B b : Nat} {nd p : Value} {t : List UInt8} {w w' : World} (hB : B ≤ w.heap.size) (hp : p = .pointer (some ⟨b, 1, none⟩)) (h : PrnAt B b nd p (cT t) w') (hb : Below B w w') (hk : Kept b w w') : PrE B b nd t w w' := by
  subst hp
  exact ⟨⟨.inr h, Nat.le_trans hB hb.size⟩, hb, hk⟩
theorem string_to (B b : Nat) (nd : Value) (t : List UInt8) (s : ByteArray) (w : World) (h : Pr B b nd t w) (hlen : (t ++ s.data.toList).length ≤ 140737488355328) : Calls Tryz.prog 63 #[.pointer (some ⟨b, 1, none⟩), .string s] w fun e w' => e = .returned (.tuple #[.int .i64 s.size, .nilIface]) ∧ PrE B b nd (t ++ s.data.toList) w w' := by
  refine (writeString63 B b nd (cT t) s w h.1 (by rw [cT_len, ← len_of]; simpa using hlen) h.2).mono ?_
  rintro e w' ⟨rfl, h1, h2, h3⟩
  rw [cT_str, ← cT_app] at h1
  exact ⟨rfl, PrE.of h.2 rfl h1 h2 h3⟩
set_option maxRecDepth 100000 in
set_option maxHeartbeats 4000000 in
theorem token45 (B b : Nat) (nd : Value) (t : List UInt8) (s : ByteArray) (w : World) (h : Pr B b nd t w) (hlen : (tokS t s.data.toList).length ≤ 140737488355328) : Calls Tryz.prog 45 #[.pointer (some ⟨b, 0, none⟩), .string s] w fun e w' => e = .returned (.tuple #[]) ∧ PrE B b nd (tokS t s.data.toList) w w' := by
  have hs : s.toList = s.data.toList := ByteArray.toList_eq s
  by_cases hs0 : s.data.toList = []
  · have H63 := string_to B b nd t s w h
    have e : tokS t s.data.toList = t ++ s.data.toList := by unfold tokS; rw [if_pos hs0, hs0, List.append_nil]
    rw [e] at hlen ⊢
    have H : Hid (Calls Tryz.prog 63 #[.pointer (some ⟨b, 1, none⟩), .string s] w fun e w' => e = .returned (.tuple #[.int .i64 s.size, .nilIface]) ∧ PrE B b nd (t ++ s.data.toList) w w') := H63 hlen
    rw [hs0] at hs
    clear hs0 h H63 e
    generalize t ++ s.data.toList = T at *
    go_enter Tryz.func45, Tryz.ntmps45
    go_wp2_with (go_at_call 63; refine H.out.mono ?_)
    rintro e w' ⟨rfl, hE⟩
    have HE : Hid (PrE B b nd T w w') := hE
    clear hE
    go_wp2
    go_end0
    exact ⟨rfl, HE.out⟩
  · have hl67 := len67 B b nd (cT t) w h.1
    rw [cT_len] at hl67
    have hse : s.data.toList.isEmpty = false := by simpa using hs0
    by_cases ht : t = []
    · subst ht
      have e : tokS [] s.data.toList = [] ++ s.data.toList := by unfold tokS; rw [if_neg hs0, if_pos rfl, List.nil_append]
      rw [e] at hlen ⊢
      have H : Hid (Calls Tryz.prog 63 #[.pointer (some ⟨b, 1, none⟩), .string s] w fun e w' => e = .returned (.tuple #[.int .i64 s.size, .nilIface]) ∧ PrE B b nd ([] ++ s.data.toList) w w') := string_to B b nd [] s w h hlen
      have H67 : Hid (Calls Tryz.prog 67 #[.pointer (some ⟨b, 1, none⟩)] w fun e w' => e = .returned (.int .i64 0) ∧ w' = w) := hl67
      clear hs0 h e hl67
      generalize [] ++ s.data.toList = T at *
      go_enter Tryz.func45, Tryz.ntmps45
      go_wp2_with (first | (go_at_call 63; refine H.out.mono ?_) | (go_at_call 67; refine H67.out.mono ?_; rintro e w' ⟨rfl, hw⟩; subst w'))
      rintro e w' ⟨rfl, hE⟩
      have HE : Hid (PrE B b nd T w w') := hE
      clear hE
      go_wp2
      go_end0
      exact ⟨rfl, HE.out⟩
    · have e : tokS t s.data.toList = (t ++ [32]) ++ s.data.toList := by unfold tokS; rw [if_neg hs0, if_neg ht]; simp
      rw [e] at hlen ⊢
      have hl2 : t.length + 1 ≤ 140737488355328 := by simp at hlen; omega
      have H68 : Hid (Calls Tryz.prog 68 #[.pointer (some ⟨b, 1, none⟩), .int .u8 32] w fun e w' => e = .returned .nilIface ∧ PrE B b nd (t ++ [32]) w w') := by
        refine (writeByte68 B b nd (cT t) 32 w h.1 (by rw [cT_len]; exact hl2) h.2).mono ?_
        rintro e w' ⟨rfl, h1, h2, h3⟩
        refine ⟨rfl, PrE.of h.2 rfl (t := t ++ [32]) ?_ h2 h3⟩
        rw [cT_app]
        exact h1
      have H63 : Hid (∀ W, Pr B b nd (t ++ [32]) W → Calls Tryz.prog 63 #[.pointer (some ⟨b, 1, none⟩), .string s] W fun e w' => e = .returned (.tuple #[.int .i64 s.size, .nilIface]) ∧ PrE B b nd ((t ++ [32]) ++ s.data.toList) W w') := fun W hW => string_to B b nd (t ++ [32]) s W hW hlen
      have H67 : Hid (Calls Tryz.prog 67 #[.pointer (some ⟨b, 1, none⟩)] w fun e w' => e = .returned (.int .i64 t.length) ∧ w' = w) := hl67
      have htl : 0 < t.length := List.length_pos_iff.2 ht
      clear hs0 h e hl67 ht hlen
      generalize t.length = n at *
      generalize (t ++ [32]) ++ s.data.toList = T at *
      generalize t ++ [32] = T1 at *
      go_enter Tryz.func45, Tryz.ntmps45
      go_wp2_with (first | (go_at_call 68; refine H68.out.mono ?_) | (go_at_call 67; refine H67.out.mono ?_; rintro e w' ⟨rfl, hw⟩; subst w'))
      rintro e w1 ⟨rfl, hE⟩
      have HE : Hid (PrE B b nd T1 w w1) := hE
      clear hE
      go_wp2_with fail
      refine (H63.out _ HE.out.1).mono ?_
      rintro e w2 ⟨rfl, hE⟩
      have HF : Hid (PrE B b nd T w w2) := ⟨hE.1, HE.out.2.1.trans hE.2.1, HE.out.2.2.trans hE.2.2⟩
      clear hE HE
      go_wp2
      go_end0
      exact ⟨rfl, HF.out⟩
end
section
open Go.RowKit Go.Shelf
/-- A part. -/
inductive Pt
  | s (x : ByteArray)
  | n (k : Nat)
  | ea (ao : Option Addr) (c : Nat) (ks : List Int)
  | li (ao : Option Addr) (c : Nat) (ks : List Int)
  | pa (ao : Option Addr) (c : Nat) (ks : List Int)
  | op (k : Nat)
  | ow (k : Nat)
def Pt.v : Pt → Value
  | .s x => .iface 9 (.string x)
  | .n k => .iface 3 (.int .i64 k)
  | .ea ao c ks => .iface 87 (.slice ao ks.length c)
  | .li ao c ks => .iface 88 (.slice ao ks.length c)
  | .pa ao c ks => .iface 89 (.slice ao ks.length c)
  | .op k => .iface 90 (.int .i64 k)
  | .ow k => .iface 92 (.int .i64 k)
abbrev Tks := List (List UInt8)
/-- Nodes one behind the other; with commas between. -/
def seqT (nt : Nat → Tks) : List Int → Tks
  | [] => []
  | y :: r => nt y.toNat ++ seqT nt r
def comT (nt : Nat → Tks) : Nat → List Int → Tks
  | _, [] => []
  | i, y :: r => (if 0 < i then [[44]] else []) ++ (nt y.toNat ++ comT nt (i + 1) r)
def brT (nt : Nat → Tks) (l : List Nd) (g k : Nat) : Tks := if hasB g (kdK l k) = true then nt k else [40] :: (nt k ++ [[41]])
def Pt.tk (nt : Nat → Tks) (l : List Nd) : Pt → Tks
  | .s x => [x.data.toList]
  | .n k => nt k
  | .ea _ _ ks => seqT nt ks
  | .li _ _ ks => comT nt 0 ks
  | .pa _ _ ks => if ks = [] then [] else [40] :: (seqT nt ks ++ [[41]])
  | .op k => brT nt l 17762910994432 k
  | .ow k => brT nt l 19961934249984 k
def psT (nt : Nat → Tks) (l : List Nd) : List Pt → Tks
  | [] => []
  | p :: r => p.tk nt l ++ psT nt l r
def run (t : List UInt8) (L : Tks) : List UInt8 := L.foldl tokS t
theorem run_app (t : List UInt8) (a b : Tks) : run t (a ++ b) = run (run t a) b := List.foldl_append
theorem tokS_le (t s : List UInt8) : t.length ≤ (tokS t s).length := by
  unfold tokS
  repeat' split
  · exact Nat.le_refl _
  · rename_i h; rw [h]; exact Nat.zero_le _
  · simp
theorem run_le : ∀ (L : Tks) (t : List UInt8), t.length ≤ (run t L).length
  | [], _ => Nat.le_refl _
  | s :: r, t => Nat.le_trans (tokS_le t s) (run_le r (tokS t s))
theorem run_le_app (t : List UInt8) (a b : Tks) : (run t a).length ≤ (run t (a ++ b)).length := by
  rw [run_app]
  exact run_le _ _
/-- A printer at work: its text, and what lay there before is kept. -/
structure St (w0 : World) (b : Nat) (nd : Value) (t : List UInt8) (W : World) : Prop where
  pr : Pr w0.heap.size b nd t W
  bl : Below w0.heap.size w0 W
def PoS (w0 : World) (b : Nat) (nd : Value) (t : List UInt8) (W w' : World) : Prop := St w0 b nd t w' ∧ Kept b W w'
theorem St.cell {w0 W : World} {b : Nat} {nd : Value} {t : List UInt8} (h : St w0 b nd t W) : W.cell? ⟨b, 0, none⟩ = some nd := by
  rcases h.pr.1 with ⟨_, v, hbk, _⟩ | ⟨_, v, hbk, _⟩
  · exact Joins.cell_of_block hbk 0
  · exact Joins.cell_of_block hbk 0
theorem PrnAt.alloc {B b : Nat} {nd p : Value} {bs : List Value} {w : World} (h : PrnAt B b nd p bs w) (o : Obj) : PrnAt B b nd p bs (w.alloc o) := by
  have hlt := h.lt
  obtain ⟨hB, v, hb, hown, hne⟩ := h
  exact ⟨hB, v, by rw [Lib.alloc_old w o b hlt]; exact hb, hown.alloc _, hne⟩
theorem St.alloc {w0 W : World} {b : Nat} {nd : Value} {t : List UInt8} (h : St w0 b nd t W) (o : Obj) : St w0 b nd t (W.alloc o) :=
  ⟨⟨h.pr.1.imp (fun k => k.alloc o) (fun k => k.alloc o), Nat.le_trans h.pr.2 (by simp)⟩, h.bl.alloc h.bl.size o⟩
theorem PoS.trans {w0 W W' W'' : World} {b : Nat} {nd : Value} {t t' : List UInt8} (h : PoS w0 b nd t W W') (k : PoS w0 b nd t' W' W'') : PoS w0 b nd t' W W'' := ⟨k.1, h.2.trans k.2⟩
theorem PoS.of_alloc {w0 W W' : World} {b : Nat} {nd : Value} {t : List UInt8} {o : Obj} (h : PoS w0 b nd t (W.alloc o) W') : PoS w0 b nd t W W' := ⟨h.1, ((Kept.refl b W).alloc o).trans h.2⟩
theorem token_st (w0 : World) (b : Nat) (nd : Value) (t : List UInt8) (s : ByteArray) (W : World) (h : St w0 b nd t W) (hlen : (tokS t s.data.toList).length ≤ 140737488355328) : Calls Tryz.prog 45 #[.pointer (some ⟨b, 0, none⟩), .string s] W fun e w' => e = .returned (.tuple #[]) ∧ PoS w0 b nd (tokS t s.data.toList) W w' := by
  refine (token45 _ b nd t s W h.pr hlen).mono ?_
  rintro e w' ⟨rfl, h1, h2, h3⟩
  exact ⟨rfl, ⟨h1, h.bl.trans h2⟩, h3⟩
/-- What is asked of a node's own printing, and of a list of parts. -/
def NodeC (w0 : World) (b : Nat) (nd : Value) (l : List Nd) (nt : Nat → Tks) (k : Nat) : Prop := ∀ x t W, l[k]? = some x → St w0 b nd t W → (run t (nt k)).length ≤ 140737488355328 → Calls Tryz.prog 46 #[.pointer (some ⟨b, 0, none⟩), .agg #[.int .i64 x.k, .string x.nm, .int .i64 x.v, .slice x.ka x.ks.length x.kc, .int .i64 x.fr, .int .i64 x.en]] W fun e w' => e = .returned (.tuple #[]) ∧ PoS w0 b nd (run t (nt k)) W w'
def PutC (w0 : World) (b : Nat) (nd : Value) (l : List Nd) (nt : Nat → Tks) (ps : List Pt) : Prop := ∀ t W A n, n = ps.length → St w0 b nd t W → W.heap[A]? = some (.cells (ps.map Pt.v).toArray 20 (0, 0)) → (run t (psT nt l ps)).length ≤ 140737488355328 → Calls Tryz.prog 26 #[.pointer (some ⟨b, 0, none⟩), .slice (some ⟨A, 0, none⟩) n n] W fun e w' => e = .returned (.tuple #[]) ∧ PoS w0 b nd (run t (psT nt l ps)) W w'
set_option maxRecDepth 100000 in
set_option maxHeartbeats 4000000 in
theorem bracketed47 (w0 : World) (b : Nat) (ao : Option Addr) (c : Nat) (l : List Nd) (nt : Nat → Tks) (k g : Nat) (t : List UInt8) (W : World) (hl : NdA w0 ao c l) (hk : k < l.length) (hg : g < 18446744073709551616) (hP1 : PutC w0 b (.slice ao l.length c) l nt [.n k]) (hP3 : PutC w0 b (.slice ao l.length c) l nt [.s ⟨#[40]⟩, .n k, .s ⟨#[41]⟩]) (hS : St w0 b (.slice ao l.length c) t W) (hlen : (run t (brT nt l g k)).length ≤ 140737488355328) : Calls Tryz.prog 47 #[.pointer (some ⟨b, 0, none⟩), .int .i64 k, .int .u64 g] W fun e w' => e = .returned (.tuple #[]) ∧ PoS w0 b (.slice ao l.length c) (run t (brT nt l g k)) W w' := by
  obtain ⟨x, hx⟩ : ∃ x, l[k]? = some x := ⟨_, List.getElem?_eq_getElem hk⟩
  have hlW := hl.below hS.bl
  obtain ⟨gn, on, rfl, hnd⟩ := hlW.2.2.2 (by omega)
  obtain ⟨a0, _⟩ := nd_cells hnd hx
  have hc0 := hS.cell
  have hkd : kdK l (k : Int) = x.k := by unfold kdK; rw [Int.toNat_natCast, hx]
  have H37 : Hid (∀ W, Calls Tryz.prog 37 #[.int .u64 g, .int .i64 x.k] W fun e w' => e = .returned (.bool (hasB g x.k)) ∧ w' = W) := fun W => has37 g x.k W hg
  have c53 := cells53
  have hkI : (k : Int) < (l.length : Int) := by omega
  have h1 := hlW.1
  have h2 := hlW.2.1
  unfold brT at hlen ⊢
  rw [hkd] at hlen ⊢
  obtain ⟨n, hn⟩ : ∃ n, n = l.length := ⟨_, rfl⟩
  rw [← hn] at hP1 hP3 hS hkI h1 hk hc0 ⊢
  have HP1 : Hid (PutC w0 b (.slice (some ⟨gn, on, none⟩) n c) l nt [.n k]) := hP1
  have HP3 : Hid (PutC w0 b (.slice (some ⟨gn, on, none⟩) n c) l nt [.s ⟨#[40]⟩, .n k, .s ⟨#[41]⟩]) := hP3
  have HS : Hid (St w0 b (.slice (some ⟨gn, on, none⟩) n c) t W) := hS
  clear hP1 hP3 hl hlW hnd hkd hS hn hx
  generalize x.k = K at *
  cases hq : hasB g K with
  | true =>
    rw [hq] at H37 hlen
    rw [if_pos rfl] at hlen ⊢
    have H26 : Hid (Calls Tryz.prog 26 #[.pointer (some ⟨b, 0, none⟩), .slice (some ⟨W.heap.size, 0, none⟩) 1 1] (W.alloc (.cells #[.iface 3 (.int .i64 k)] 20)) fun e w' => e = .returned (.tuple #[]) ∧ PoS w0 b (.slice (some ⟨gn, on, none⟩) n c) (run t (nt k)) W w') := by
      have e : psT nt l [.n k] = nt k := by simp [psT, Pt.tk]
      have t' := HP1.out t (W.alloc (.cells #[.iface 3 (.int .i64 k)] 20)) W.heap.size 1 rfl (HS.out.alloc _) (Go.heap_alloc_new W _) (by rw [e]; exact hlen)
      rw [e] at t'
      exact t'.mono fun e w' ⟨h1, h2⟩ => ⟨h1, h2.of_alloc⟩
    clear HP1 HP3 hlen hq
    generalize run t (nt k) = T at *
    go_enter Tryz.func47, Tryz.ntmps47
    go_wp2_with (first | (go_at_call 37; refine (H37.out _).mono ?_; rintro e w' ⟨rfl, hw⟩; subst w') | (go_at_call 26; refine H26.out.mono ?_))
    rintro e w' ⟨rfl, hE⟩
    have HE : Hid (PoS w0 b (.slice (some ⟨gn, on, none⟩) n c) T W w') := hE
    clear hE
    go_wp2
    refine bodyPost_ret (results_none rfl _ _ _) rfl ?_
    exact ⟨rfl, HE.out⟩
  | false =>
    rw [hq] at H37 hlen
    rw [if_neg (by simp)] at hlen ⊢
    have H26 : Hid (Calls Tryz.prog 26 #[.pointer (some ⟨b, 0, none⟩), .slice (some ⟨W.heap.size, 0, none⟩) 3 3] (W.alloc (.cells #[.iface 9 (.string ⟨#[40]⟩), .iface 3 (.int .i64 k), .iface 9 (.string ⟨#[41]⟩)] 20)) fun e w' => e = .returned (.tuple #[]) ∧ PoS w0 b (.slice (some ⟨gn, on, none⟩) n c) (run t ([40] :: (nt k ++ [[41]]))) W w') := by
      have e : psT nt l [.s ⟨#[40]⟩, .n k, .s ⟨#[41]⟩] = [40] :: (nt k ++ [[41]]) := by simp [psT, Pt.tk]
      have t' := HP3.out t (W.alloc (.cells #[.iface 9 (.string ⟨#[40]⟩), .iface 3 (.int .i64 k), .iface 9 (.string ⟨#[41]⟩)] 20)) W.heap.size 3 rfl (HS.out.alloc _) (Go.heap_alloc_new W _) (by rw [e]; exact hlen)
      rw [e] at t'
      exact t'.mono fun e w' ⟨h1, h2⟩ => ⟨h1, h2.of_alloc⟩
    clear HP1 HP3 hlen hq
    generalize run t ([40] :: (nt k ++ [[41]])) = T at *
    go_enter Tryz.func47, Tryz.ntmps47
    go_wp2_with (first | (go_at_call 37; refine (H37.out _).mono ?_; rintro e w' ⟨rfl, hw⟩; subst w') | (go_at_call 26; refine H26.out.mono ?_))
    rintro e w' ⟨rfl, hE⟩
    have HE : Hid (PoS w0 b (.slice (some ⟨gn, on, none⟩) n c) T W w') := hE
    clear hE
    go_wp2
    go_end0
    exact ⟨rfl, HE.out⟩
end
section
open Go.RowKit Go.Shelf
theorem ta_9_9 (v : Value) (w : World) : (Instr.typeAssert (.iface 9 v) 20 9 true).run Tryz.prog w = .ok (.tuple #[v, .bool true]) w := by kernel_rfl
theorem ta_3_9 (v : Value) (w : World) : (Instr.typeAssert (.iface 3 v) 20 9 true).run Tryz.prog w = .ok (.tuple #[.string ⟨#[]⟩, .bool false]) w := by kernel_rfl
theorem ta_3_3 (v : Value) (w : World) : (Instr.typeAssert (.iface 3 v) 20 3 true).run Tryz.prog w = .ok (.tuple #[v, .bool true]) w := by kernel_rfl
theorem ta_87_9 (v : Value) (w : World) : (Instr.typeAssert (.iface 87 v) 20 9 true).run Tryz.prog w = .ok (.tuple #[.string ⟨#[]⟩, .bool false]) w := by kernel_rfl
theorem ta_87_3 (v : Value) (w : World) : (Instr.typeAssert (.iface 87 v) 20 3 true).run Tryz.prog w = .ok (.tuple #[.int .i64 0, .bool false]) w := by kernel_rfl
theorem ta_87_87 (v : Value) (w : World) : (Instr.typeAssert (.iface 87 v) 20 87 true).run Tryz.prog w = .ok (.tuple #[v, .bool true]) w := by kernel_rfl
theorem ta_88_9 (v : Value) (w : World) : (Instr.typeAssert (.iface 88 v) 20 9 true).run Tryz.prog w = .ok (.tuple #[.string ⟨#[]⟩, .bool false]) w := by kernel_rfl
theorem ta_88_3 (v : Value) (w : World) : (Instr.typeAssert (.iface 88 v) 20 3 true).run Tryz.prog w = .ok (.tuple #[.int .i64 0, .bool false]) w := by kernel_rfl
theorem ta_88_87 (v : Value) (w : World) : (Instr.typeAssert (.iface 88 v) 20 87 true).run Tryz.prog w = .ok (.tuple #[.slice none 0 0, .bool false]) w := by kernel_rfl
theorem ta_88_88 (v : Value) (w : World) : (Instr.typeAssert (.iface 88 v) 20 88 true).run Tryz.prog w = .ok (.tuple #[v, .bool true]) w := by kernel_rfl
theorem ta_89_9 (v : Value) (w : World) : (Instr.typeAssert (.iface 89 v) 20 9 true).run Tryz.prog w = .ok (.tuple #[.string ⟨#[]⟩, .bool false]) w := by kernel_rfl
theorem ta_89_3 (v : Value) (w : World) : (Instr.typeAssert (.iface 89 v) 20 3 true).run Tryz.prog w = .ok (.tuple #[.int .i64 0, .bool false]) w := by kernel_rfl
theorem ta_89_87 (v : Value) (w : World) : (Instr.typeAssert (.iface 89 v) 20 87 true).run Tryz.prog w = .ok (.tuple #[.slice none 0 0, .bool false]) w := by kernel_rfl
theorem ta_89_88 (v : Value) (w : World) : (Instr.typeAssert (.iface 89 v) 20 88 true).run Tryz.prog w = .ok (.tuple #[.slice none 0 0, .bool false]) w := by kernel_rfl
theorem ta_89_89 (v : Value) (w : World) : (Instr.typeAssert (.iface 89 v) 20 89 true).run Tryz.prog w = .ok (.tuple #[v, .bool true]) w := by kernel_rfl
theorem ta_90_9 (v : Value) (w : World) : (Instr.typeAssert (.iface 90 v) 20 9 true).run Tryz.prog w = .ok (.tuple #[.string ⟨#[]⟩, .bool false]) w := by kernel_rfl
theorem ta_90_3 (v : Value) (w : World) : (Instr.typeAssert (.iface 90 v) 20 3 true).run Tryz.prog w = .ok (.tuple #[.int .i64 0, .bool false]) w := by kernel_rfl
theorem ta_90_87 (v : Value) (w : World) : (Instr.typeAssert (.iface 90 v) 20 87 true).run Tryz.prog w = .ok (.tuple #[.slice none 0 0, .bool false]) w := by kernel_rfl
theorem ta_90_88 (v : Value) (w : World) : (Instr.typeAssert (.iface 90 v) 20 88 true).run Tryz.prog w = .ok (.tuple #[.slice none 0 0, .bool false]) w := by kernel_rfl
theorem ta_90_89 (v : Value) (w : World) : (Instr.typeAssert (.iface 90 v) 20 89 true).run Tryz.prog w = .ok (.tuple #[.slice none 0 0, .bool false]) w := by kernel_rfl
theorem ta_90_90 (v : Value) (w : World) : (Instr.typeAssert (.iface 90 v) 20 90 true).run Tryz.prog w = .ok (.tuple #[v, .bool true]) w := by kernel_rfl
theorem ta_92_9 (v : Value) (w : World) : (Instr.typeAssert (.iface 92 v) 20 9 true).run Tryz.prog w = .ok (.tuple #[.string ⟨#[]⟩, .bool false]) w := by kernel_rfl
theorem ta_92_3 (v : Value) (w : World) : (Instr.typeAssert (.iface 92 v) 20 3 true).run Tryz.prog w = .ok (.tuple #[.int .i64 0, .bool false]) w := by kernel_rfl
theorem ta_92_87 (v : Value) (w : World) : (Instr.typeAssert (.iface 92 v) 20 87 true).run Tryz.prog w = .ok (.tuple #[.slice none 0 0, .bool false]) w := by kernel_rfl
theorem ta_92_88 (v : Value) (w : World) : (Instr.typeAssert (.iface 92 v) 20 88 true).run Tryz.prog w = .ok (.tuple #[.slice none 0 0, .bool false]) w := by kernel_rfl
theorem ta_92_89 (v : Value) (w : World) : (Instr.typeAssert (.iface 92 v) 20 89 true).run Tryz.prog w = .ok (.tuple #[.slice none 0 0, .bool false]) w := by kernel_rfl
theorem ta_92_90 (v : Value) (w : World) : (Instr.typeAssert (.iface 92 v) 20 90 true).run Tryz.prog w = .ok (.tuple #[.int .i64 0, .bool false]) w := by kernel_rfl
theorem ta_92_92 (v : Value) (w : World) : (Instr.typeAssert (.iface 92 v) 20 92 true).run Tryz.prog w = .ok (.tuple #[v, .bool true]) w := by kernel_rfl
end
end Go.Proofs.YtkkmeogehapjoaaGreatDoor
