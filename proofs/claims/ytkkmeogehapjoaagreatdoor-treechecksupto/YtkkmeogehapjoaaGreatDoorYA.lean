/- The builder within a printer: its copy check. A byte, a string written to a printer's builder. A token. -/
import Derived.Test.YtkkmeogehapjoaaGreatDoorX5
import Derived.Lib.Builder
import Derived.Deep.Heap
import Derived.Laws.AppendOwn
namespace Go.Proofs.YtkkmeogehapjoaaGreatDoor
section
open Go.RowKit Go.Shelf
theorem bsz : (Tryz.prog.info? 58).map (·.size) = some 2 := by kernel_rfl
/-- A printer in a block of its own, that holds these bytes. -/
def PrnAt (B b : Nat) (nd p : Value) (bs : List Value) (w : World) : Prop :=
  B ≤ b ∧ ∃ v, w.heap[b]? = some (.cells #[nd, p, v] 60 (0, 0)) ∧ w.ownsRow B 5 1 v bs.length bs ∧ v.ownBlock ≠ some b
def Prn (B b : Nat) (nd : Value) (bs : List Value) (w : World) : Prop :=
  PrnAt B b nd (.pointer none) bs w ∨ PrnAt B b nd (.pointer (some ⟨b, 1, none⟩)) bs w
/-- What is no row of bytes, and not the printer, is kept. -/
def Kept (b : Nat) (w w' : World) : Prop := ∀ i cs T fr, w.heap[i]? = some (.cells cs T fr) → T ≠ 5 → i ≠ b → w'.heap[i]? = w.heap[i]?
theorem Kept.refl (b : Nat) (w : World) : Kept b w w := fun _ _ _ _ _ _ _ => rfl
theorem Kept.trans {b : Nat} {w w' w'' : World} (h : Kept b w w') (k : Kept b w' w'') : Kept b w w'' := fun i cs T fr hi hT hb => by
  have e := h i cs T fr hi hT hb
  rw [k i cs T fr (e.trans hi) hT hb, e]
theorem Kept.alloc {b : Nat} {w w' : World} (h : Kept b w w') (o : Obj) : Kept b w (w'.alloc o) := fun i cs T fr hi hT hb => by
  have e := h i cs T fr hi hT hb
  have hlt : i < w'.heap.size := (Array.getElem?_eq_some_iff.1 (e.trans hi)).1
  rw [Lib.alloc_old w' o i hlt, e]
theorem PrnAt.lt {B b : Nat} {nd p : Value} {bs : List Value} {w : World} (h : PrnAt B b nd p bs w) : b < w.heap.size := by
  obtain ⟨_, v, hb, _⟩ := h
  exact (Array.getElem?_eq_some_iff.1 hb).1
theorem PrnAt.used {B b : Nat} {nd p : Value} {bs : List Value} {w : World} (h : PrnAt B b nd p bs w) (q : Value) : PrnAt B b nd q bs (w.setCell ⟨b, 1, none⟩ q) := by
  obtain ⟨hB, v, hb, hown, hne⟩ := h
  refine ⟨hB, v, ?_, ?_, hne⟩
  · simp [World.setCell, Array.getElem?_modify, hb]
  · refine hown.kept (row := some b) ⟨rfl, rfl, rfl, by simp [World.setCell], fun k _ hk => Below.heap_setCell _ _ _ _ (fun e => hk (by simp [e]))⟩ ?_
    exact Or.inr hne
theorem PrnAt.put {B b : Nat} {nd p v v' : Value} {bs' : List Value} {w : World} (hB : B ≤ b) (hb : w.heap[b]? = some (.cells #[nd, p, v] 60 (0, 0))) (hown : w.ownsRow B 5 1 v' bs'.length bs') :
    PrnAt B b nd p bs' (w.setCell ⟨b, 2, none⟩ v') := by
  have hne := Lib.ownBlock_ne hown hb (by decide)
  refine ⟨hB, v', ?_, ?_, hne⟩
  · simp [World.setCell, Array.getElem?_modify, hb]
  · exact hown.kept (row := some b) ⟨rfl, rfl, rfl, by simp [World.setCell], fun k _ hk => Below.heap_setCell _ _ _ _ (fun e => hk (by simp [e]))⟩ (Or.inr hne)
set_option maxRecDepth 100000 in
set_option maxHeartbeats 2000000 in
theorem check_used (b : Nat) (w : World) (c0 : w.cell? ⟨b, 1, none⟩ = some (.pointer (some ⟨b, 1, none⟩))) : Calls Tryz.prog 90 #[.pointer (some ⟨b, 1, none⟩)] w fun e w' => e = .returned (.tuple #[]) ∧ w' = w := by
  obtain ⟨j, hj, _⟩ := Option.map_eq_some_iff.1 bsz
  go_enter Tryz.func90, Tryz.ntmps90
  go_wp2
  rw [Lib.run_neq_ptr_same w _ Tryz.underlying55 hj]
  go_wp2
  go_end0
  exact ⟨rfl, rfl⟩
set_option maxRecDepth 100000 in
set_option maxHeartbeats 2000000 in
theorem check_fresh (b : Nat) (w : World) (h0 : w.cell? ⟨b, 1, none⟩ = some (.pointer none)) (hsh : w.shape? b = some (60, 3)) (hfz : w.frozen? ⟨b, 1, none⟩ = false) : Calls Tryz.prog 90 #[.pointer (some ⟨b, 1, none⟩)] w fun e w' => e = .returned (.tuple #[]) ∧ w' = w.setCell ⟨b, 1, none⟩ (.pointer (some ⟨b, 1, none⟩)) := by
  obtain ⟨j, hj, hjs⟩ := Option.map_eq_some_iff.1 bsz
  go_enter Tryz.func90, Tryz.ntmps90
  go_wp2
  rw [Lib.run_to_unsafe w ⟨b, 1, none⟩ Tryz.underlying55 Tryz.underlying133 hj (by rw [hjs]; decide) hsh (show 1 < 3 by decide)]
  simp only [Result.andThen]
  rw [Oper.upon_value]
  go_wp2
  rw [run_callFunc_extern Tryz.func109 (by kernel_rfl) (by kernel_rfl) (by kernel_rfl) (e := Extern.AbiNoEscape.same) (by kernel_rfl)]
  rw [Lib.run_noEscape]
  simp only [Result.andThen]
  rw [Oper.upon_value]
  go_wp2
  rw [Lib.run_from_unsafe w ⟨b, 1, none⟩ Tryz.underlying133 Tryz.underlying55 hj hsh (by kernel_rfl)]
  simp only [Result.andThen]
  rw [Oper.upon_value]
  go_wp2
  go_end0
  exact ⟨rfl, rfl⟩
theorem check90 (B b : Nat) (nd : Value) (bs : List Value) (w : World) (h : Prn B b nd bs w) : Calls Tryz.prog 90 #[.pointer (some ⟨b, 1, none⟩)] w fun e w' => e = .returned (.tuple #[]) ∧ PrnAt B b nd (.pointer (some ⟨b, 1, none⟩)) bs w' ∧ Below B w w' ∧ ∀ i, i ≠ b → w'.heap[i]? = w.heap[i]? := by
  rcases h with h | h
  · have h' := h
    obtain ⟨hB, v, hbk, _⟩ := h'
    refine (check_fresh b w (Joins.cell_of_block hbk 1) (by simp [World.shape?, hbk]) (Lib.frozen_of_heap hbk 1)).mono ?_
    rintro e w' ⟨rfl, rfl⟩
    exact ⟨rfl, h.used _, (Below.refl B w).setCell (p := ⟨b, 1, none⟩) h.1 _, fun i hi => Go.Deep.blk_setCell_other w ⟨b, 1, none⟩ _ i hi⟩
  · have h' := h
    obtain ⟨hB, v, hbk, _⟩ := h'
    refine (check_used b w (Joins.cell_of_block hbk 1)).mono ?_
    rintro e w' ⟨rfl, rfl⟩
    exact ⟨rfl, h, Below.refl B _, fun _ _ => rfl⟩
end
section
open Go.RowKit Go.Shelf
theorem info5 : (Tryz.prog.info? 5).map (fun i => (i.zero, i.size, i.bytes)) = some (some (.int .u8 0), 1, 1) := by kernel_rfl
theorem own_slice {w : World} {B e sz n : Nat} {v : Value} {xs : List Value} (h : w.ownsRow B e sz v n xs) : ∃ ao k cap, v = .slice ao k cap := by
  rcases h.2 with ⟨hv, _⟩ | ⟨g, cap, cur, hv, _⟩
  · exact ⟨_, _, _, hv⟩
  · exact ⟨_, _, _, hv⟩
theorem own_len {w : World} {B e n : Nat} {v : Value} {xs : List Value} (h : w.ownsRow B e 1 v n xs) : ∃ ao cap, v = .slice ao n cap := by
  rcases h.2 with ⟨hv, h0⟩ | ⟨g, cap, cur, hv, _⟩
  · exact ⟨_, _, by rw [hv, h0]⟩
  · exact ⟨_, _, hv⟩
set_option maxRecDepth 100000 in
set_option maxHeartbeats 4000000 in
theorem writeByte68 (B b : Nat) (nd : Value) (bs : List Value) (c : Int) (w : World) (h : Prn B b nd bs w) (hlen : bs.length + 1 ≤ 140737488355328) (hBw : B ≤ w.heap.size) : Calls Tryz.prog 68 #[.pointer (some ⟨b, 1, none⟩), .int .u8 c] w fun e w' => e = .returned .nilIface ∧ PrnAt B b nd (.pointer (some ⟨b, 1, none⟩)) (bs ++ [.int .u8 c]) w' ∧ Below B w w' ∧ Kept b w w' := by
  obtain ⟨i0, hi, hz0, hz1, hz2⟩ := info_parts info5
  go_enter Tryz.func68, Tryz.ntmps68
  go_wp2_with (go_at_call 90; refine (check90 B b nd bs _ h).mono ?_)
  rintro e w1 ⟨rfl, ⟨hB, v, hbk, hown, hne⟩, hb1, hsame⟩
  have c0 : w1.cell? ⟨b, 1, none⟩ = some (.pointer (some ⟨b, 1, none⟩)) := Joins.cell_of_block hbk 1
  have c1 : w1.cell? ⟨b, 2, none⟩ = some v := Joins.cell_of_block hbk 2
  have hsz := hb1.size
  go_wp2_with (at_builtin; refine wpList_append_own _ rfl _ _ 56 rfl B 5 i0 (.int .u8 0) 1 1 Tryz.underlying56 hi hz0 hz1 hz2 rfl (by decide) _ _ _ rfl (hown.alloc _) ⟨w1.heap.size, 0, none⟩ 1 1 [.int .u8 c] rfl rfl ?c1 ?c2 (by unfold maxLen; omega) (by omega) (by simp; omega) ?_)
  case c1 =>
    intro j u hj
    match j, hj with
    | 0, hj => simp at hj; subst hj; simp [Addr.add]
  case c2 => intro u hu; simp at hu; subst hu; rfl
  intro v' w2 hown' hgrow _
  have hlt : b < w1.heap.size := (Array.getElem?_eq_some_iff.1 hbk).1
  have hb2 : w2.heap[b]? = some (.cells #[nd, .pointer (some ⟨b, 1, none⟩), v] 60 (0, 0)) := by
    rw [hgrow.block b (by simp; omega) (fun e => hne e.symm), Lib.alloc_old w1 _ b hlt]
    exact hbk
  have d0 : w2.cell? ⟨b, 1, none⟩ = some (.pointer (some ⟨b, 1, none⟩)) := Joins.cell_of_block hb2 1
  have d1 : w2.cell? ⟨b, 2, none⟩ = some v := Joins.cell_of_block hb2 2
  have f1 : w2.frozen? ⟨b, 2, none⟩ = false := Lib.frozen_of_heap hb2 2
  obtain ⟨ao, n', cap, rfl⟩ := own_slice hown'
  go_wp2
  go_ret
  refine ⟨rfl, PrnAt.put hB hb2 (bs' := bs ++ [.int .u8 c]) (by simpa using hown'), ?_, ?_⟩
  · exact ((hb1.alloc (by omega) _).grown hgrow (by simp; omega) (fun k hk => (hown.lt k hk).1)).setCell (p := ⟨b, 2, none⟩) hB _
  · intro i cs T fr hi hT hib
    have h1 : w1.heap[i]? = some (.cells cs T fr) := (hsame i hib).trans hi
    have hl1 : i < w1.heap.size := (Array.getElem?_eq_some_iff.1 h1).1
    rw [Go.Deep.blk_setCell_other _ ⟨b, 2, none⟩ _ i hib, hgrow.block i (by simp; omega) (fun e => Lib.ownBlock_ne hown h1 hT e.symm), Lib.alloc_old w1 _ i hl1, h1, hi]
set_option maxRecDepth 100000 in
set_option maxHeartbeats 4000000 in
theorem writeString63 (B b : Nat) (nd : Value) (bs : List Value) (s : ByteArray) (w : World) (h : Prn B b nd bs w) (hlen : bs.length + s.size ≤ 140737488355328) (hBw : B ≤ w.heap.size) : Calls Tryz.prog 63 #[.pointer (some ⟨b, 1, none⟩), .string s] w fun e w' => e = .returned (.tuple #[.int .i64 s.size, .nilIface]) ∧ PrnAt B b nd (.pointer (some ⟨b, 1, none⟩)) (bs ++ Lib.strCells s) w' ∧ Below B w w' ∧ Kept b w w' := by
  obtain ⟨i0, hi, hz0, hz1, hz2⟩ := info_parts info5
  go_enter Tryz.func63, Tryz.ntmps63
  go_wp2_with (go_at_call 90; refine (check90 B b nd bs _ h).mono ?_)
  rintro e w1 ⟨rfl, ⟨hB, v, hbk, hown, hne⟩, hb1, hsame⟩
  have c0 : w1.cell? ⟨b, 1, none⟩ = some (.pointer (some ⟨b, 1, none⟩)) := Joins.cell_of_block hbk 1
  have c1 : w1.cell? ⟨b, 2, none⟩ = some v := Joins.cell_of_block hbk 2
  have hsz := hb1.size
  go_wp2_with (at_builtin; refine Lib.wpList_append_own_string _ rfl _ _ 56 9 rfl B 5 i0 Tryz.underlying56 Tryz.underlying9 hi hz0 hz1 hz2 _ _ _ rfl hown s rfl (by unfold maxLen; omega) (by omega) (by omega) ?_)
  intro v' w2 hown' hgrow _
  have hlt : b < w1.heap.size := (Array.getElem?_eq_some_iff.1 hbk).1
  have hb2 : w2.heap[b]? = some (.cells #[nd, .pointer (some ⟨b, 1, none⟩), v] 60 (0, 0)) := by
    rw [hgrow.block b hlt (fun e => hne e.symm)]
    exact hbk
  have d0 : w2.cell? ⟨b, 1, none⟩ = some (.pointer (some ⟨b, 1, none⟩)) := Joins.cell_of_block hb2 1
  have d1 : w2.cell? ⟨b, 2, none⟩ = some v := Joins.cell_of_block hb2 2
  have f1 : w2.frozen? ⟨b, 2, none⟩ = false := Lib.frozen_of_heap hb2 2
  obtain ⟨ao, n', cap, rfl⟩ := own_slice hown'
  go_wp2
  go_ret2
  refine ⟨rfl, PrnAt.put hB hb2 (bs' := bs ++ Lib.strCells s) (by simpa [Lib.strCells_length] using hown'), ?_, ?_⟩
  · exact (hb1.grown hgrow (by omega) (fun k hk => (hown.lt k hk).1)).setCell (p := ⟨b, 2, none⟩) hB _
  · intro i cs T fr hi hT hib
    have h1 : w1.heap[i]? = some (.cells cs T fr) := (hsame i hib).trans hi
    have hl1 : i < w1.heap.size := (Array.getElem?_eq_some_iff.1 h1).1
    rw [Go.Deep.blk_setCell_other _ ⟨b, 2, none⟩ _ i hib, hgrow.block i hl1 (fun e => Lib.ownBlock_ne hown h1 hT e.symm), h1, hi]
set_option maxRecDepth 100000 in
set_option maxHeartbeats 4000000 in
theorem len67 (B b : Nat) (nd : Value) (bs : List Value) (w : World) (h : Prn B b nd bs w) : Calls Tryz.prog 67 #[.pointer (some ⟨b, 1, none⟩)] w fun e w' => e = .returned (.int .i64 bs.length) ∧ w' = w := by
  obtain ⟨v, c1, hown⟩ : ∃ v, w.cell? ⟨b, 2, none⟩ = some v ∧ w.ownsRow B 5 1 v bs.length bs := by
    rcases h with ⟨_, v, hbk, hown, _⟩ | ⟨_, v, hbk, hown, _⟩
    · exact ⟨v, Joins.cell_of_block hbk 2, hown⟩
    · exact ⟨v, Joins.cell_of_block hbk 2, hown⟩
  obtain ⟨ao, cap, rfl⟩ := own_len hown
  generalize bs.length = n at *
  clear hown h
  go_enter Tryz.func67, Tryz.ntmps67
  go_wp2
  go_ret
  exact ⟨rfl, rfl⟩
end
section
open Go.RowKit Go.Shelf
/-- A text as cells. -/
def cT (t : List UInt8) : List Value := t.map fun c => .int .u8 c.toNat
theorem cT_str (s : ByteArray) : Lib.strCells s = cT s.data.toList := rfl
theorem cT_app (a b : List UInt8) : cT (a ++ b) = cT a ++ cT b := List.map_append
theorem cT_len (a : List UInt8) : (cT a).length = a.length := List.length_map _
/-- A printer that holds this text. -/
def Pr (B b : Nat) (nd : Value) (t : List UInt8) (w : World) : Prop := Prn B b nd (cT t) w ∧ B ≤ w.heap.size
/-- A token behind a text. -/
def tokS (t s : List UInt8) : List UInt8 := if s = [] then t else if t = [] then s else t ++ 32 :: s
/-- What writing leaves. -/
def PrE (B b : Nat) (nd : Value) (t : List UInt8) (w w' : World) : Prop := Pr B b nd t w' ∧ Below B w w' ∧ Kept b w w'
theorem PrE.of {B b : Nat} {nd p : Value} {t : List UInt8} {w w' : World} (hB : B ≤ w.heap.size) (hp : p = .pointer (some ⟨b, 1, none⟩)) (h : PrnAt B b nd p (cT t) w') (hb : Below B w w') (hk : Kept b w w') : PrE B b nd t w w' := by
  subst hp
  exact ⟨⟨.inr h, Nat.le_trans hB hb.size⟩, hb, hk⟩
theorem string_to (B b : Nat) (nd : Value) (t : List UInt8) (s : ByteArray) (w : World) (h : Pr B b nd t w) (hlen : (t ++ s.data.toList).length ≤ 140737488355328) : Calls Tryz.prog 63 #[.pointer (some ⟨b, 1, none⟩), .string s] w fun e w' => e = .returned (.tuple #[.int .i64 s.size, .nilIface]) ∧ PrE B b nd (t ++ s.data.toList) w w' := by
  refine (writeString63 B b nd (cT t) s w h.1 (by rw [cT_len, ← len_of]; simpa using hlen) h.2).mono ?_
  rintro e w' ⟨rfl, h1, h2, h3⟩
  rw [cT_str, ← cT_app] at h1
  exact ⟨rfl, PrE.of h.2 rfl h1 h2 h3⟩
set_option maxRecDepth 100000 in
set_option maxHeartbeats 4000000 in
theorem token45 (B b : Nat) (nd : Value) (t : List UInt8) (s : ByteArray) (w : World) (h : Pr B b nd t w) (hlen : (tokS t s.data.toList).length ≤ 140737488355328) : Calls Tryz.prog 45 #[.pointer (some ⟨b, 0, none⟩), .string s] w fun e w' => e = .returned (.tuple #[]) ∧ PrE B b nd (tokS t s.data.toList) w w' := by
  have hs : s.toList = s.data.toList := ByteArray.toList_eq s
  by_cases hs0 : s.data.toList = []
  · have H63 := string_to B b nd t s w h
    have e : tokS t s.data.toList = t ++ s.data.toList := by unfold tokS; rw [if_pos hs0, hs0, List.append_nil]
    rw [e] at hlen ⊢
    have H : Hid (Calls Tryz.prog 63 #[.pointer (some ⟨b, 1, none⟩), .string s] w fun e w' => e = .returned (.tuple #[.int .i64 s.size, .nilIface]) ∧ PrE B b nd (t ++ s.data.toList) w w') := H63 hlen
    rw [hs0] at hs
    clear hs0 h H63 e
    generalize t ++ s.data.toList = T at *
    go_enter Tryz.func45, Tryz.ntmps45
    go_wp2_with (go_at_call 63; refine H.out.mono ?_)
    rintro e w' ⟨rfl, hE⟩
    have HE : Hid (PrE B b nd T w w') := hE
    clear hE
    go_wp2
    go_end0
    exact ⟨rfl, HE.out⟩
  · have hl67 := len67 B b nd (cT t) w h.1
    rw [cT_len] at hl67
    have hse : s.data.toList.isEmpty = false := by simpa using hs0
    by_cases ht : t = []
    · subst ht
      have e : tokS [] s.data.toList = [] ++ s.data.toList := by unfold tokS; rw [if_neg hs0, if_pos rfl, List.nil_append]
      rw [e] at hlen ⊢
      have H : Hid (Calls Tryz.prog 63 #[.pointer (some ⟨b, 1, none⟩), .string s] w fun e w' => e = .returned (.tuple #[.int .i64 s.size, .nilIface]) ∧ PrE B b nd ([] ++ s.data.toList) w w') := string_to B b nd [] s w h hlen
      have H67 : Hid (Calls Tryz.prog 67 #[.pointer (some ⟨b, 1, none⟩)] w fun e w' => e = .returned (.int .i64 0) ∧ w' = w) := hl67
      clear hs0 h e hl67
      generalize [] ++ s.data.toList = T at *
      go_enter Tryz.func45, Tryz.ntmps45
      go_wp2_with (first | (go_at_call 63; refine H.out.mono ?_) | (go_at_call 67; refine H67.out.mono ?_; rintro e w' ⟨rfl, hw⟩; subst w'))
      rintro e w' ⟨rfl, hE⟩
      have HE : Hid (PrE B b nd T w w') := hE
      clear hE
      go_wp2
      go_end0
      exact ⟨rfl, HE.out⟩
    · have e : tokS t s.data.toList = (t ++ [32]) ++ s.data.toList := by unfold tokS; rw [if_neg hs0, if_neg ht]; simp
      rw [e] at hlen ⊢
      have hl2 : t.length + 1 ≤ 140737488355328 := by simp at hlen; omega
      have H68 : Hid (Calls Tryz.prog 68 #[.pointer (some ⟨b, 1, none⟩), .int .u8 32] w fun e w' => e = .returned .nilIface ∧ PrE B b nd (t ++ [32]) w w') := by
        refine (writeByte68 B b nd (cT t) 32 w h.1 (by rw [cT_len]; exact hl2) h.2).mono ?_
        rintro e w' ⟨rfl, h1, h2, h3⟩
        refine ⟨rfl, PrE.of h.2 rfl (t := t ++ [32]) ?_ h2 h3⟩
        rw [cT_app]
        exact h1
      have H63 : Hid (∀ W, Pr B b nd (t ++ [32]) W → Calls Tryz.prog 63 #[.pointer (some ⟨b, 1, none⟩), .string s] W fun e w' => e = .returned (.tuple #[.int .i64 s.size, .nilIface]) ∧ PrE B b nd ((t ++ [32]) ++ s.data.toList) W w') := fun W hW => string_to B b nd (t ++ [32]) s W hW hlen
      have H67 : Hid (Calls Tryz.prog 67 #[.pointer (some ⟨b, 1, none⟩)] w fun e w' => e = .returned (.int .i64 t.length) ∧ w' = w) := hl67
      have htl : 0 < t.length := List.length_pos_iff.2 ht
      clear hs0 h e hl67 ht hlen
      generalize t.length = n at *
      generalize (t ++ [32]) ++ s.data.toList = T at *
      generalize t ++ [32] = T1 at *
      go_enter Tryz.func45, Tryz.ntmps45
      go_wp2_with (first | (go_at_call 68; refine H68.out.mono ?_) | (go_at_call 67; refine H67.out.mono ?_; rintro e w' ⟨rfl, hw⟩; subst w'))
      rintro e w1 ⟨rfl, hE⟩
      have HE : Hid (PrE B b nd T1 w w1) := hE
      clear hE
      go_wp2_with fail
      refine (H63.out _ HE.out.1).mono ?_
      rintro e w2 ⟨rfl, hE⟩
      have HF : Hid (PrE B b nd T w w2) := ⟨hE.1, HE.out.2.1.trans hE.2.1, HE.out.2.2.trans hE.2.2⟩
      clear hE HE
      go_wp2
      go_end0
      exact ⟨rfl, HF.out⟩
end
end Go.Proofs.YtkkmeogehapjoaaGreatDoor
