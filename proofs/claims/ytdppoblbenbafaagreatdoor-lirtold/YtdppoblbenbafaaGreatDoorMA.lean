/- A builder's copy check, at this dump. The words of an instruction's line. -/
import Derived.Test.YtdppoblbenbafaaGreatDoorLB
import Derived.Laws.AppendOwn
import Derived.Lib.Builder
import Derived.Lib.SmallJoins
import Derived.Deep.Heap
namespace Go.Proofs.YtdppoblbenbafaaGreatDoor
section
open Go.RowKit Go.Shelf
theorem bsz : (Tryz.prog.info? 116).map (·.size) = some 2 := by kernel_rfl
set_option maxRecDepth 100000 in
set_option maxHeartbeats 2000000 in
theorem check_used (b : Nat) (w : World) (c0 : w.cell? ⟨b, 0, none⟩ = some (.pointer (some ⟨b, 0, none⟩))) : Calls Tryz.prog 140 #[.pointer (some ⟨b, 0, none⟩)] w fun e w' => e = .returned (.tuple #[]) ∧ w' = w := by
  obtain ⟨j, hj, _⟩ := Option.map_eq_some_iff.1 bsz
  go_enter Tryz.func140, Tryz.ntmps140
  go_wp2
  rw [Lib.run_neq_ptr_same w _ Tryz.underlying114 hj]
  go_wp2
  go_end0
  exact ⟨rfl, rfl⟩
set_option maxRecDepth 100000 in
set_option maxHeartbeats 2000000 in
theorem check_fresh (b : Nat) (w : World) (h0 : w.cell? ⟨b, 0, none⟩ = some (.pointer none)) (hsh : w.shape? b = some (116, 2)) (hfz : w.frozen? ⟨b, 0, none⟩ = false) : Calls Tryz.prog 140 #[.pointer (some ⟨b, 0, none⟩)] w fun e w' => e = .returned (.tuple #[]) ∧ w' = w.setCell ⟨b, 0, none⟩ (.pointer (some ⟨b, 0, none⟩)) := by
  obtain ⟨j, hj, hjs⟩ := Option.map_eq_some_iff.1 bsz
  go_enter Tryz.func140, Tryz.ntmps140
  go_wp2
  rw [Lib.run_to_unsafe w ⟨b, 0, none⟩ Tryz.underlying114 Tryz.underlying195 hj (by rw [hjs]; decide) hsh (Nat.zero_lt_succ 1)]
  simp only [Result.andThen]
  rw [Oper.upon_value]
  go_wp2
  rw [run_callFunc_extern Tryz.func158 (by kernel_rfl) (by kernel_rfl) (by kernel_rfl) (e := Extern.AbiNoEscape.same) (by kernel_rfl)]
  rw [Lib.run_noEscape]
  simp only [Result.andThen]
  rw [Oper.upon_value]
  go_wp2
  rw [Lib.run_from_unsafe w ⟨b, 0, none⟩ Tryz.underlying195 Tryz.underlying114 hj hsh (by kernel_rfl)]
  simp only [Result.andThen]
  rw [Oper.upon_value]
  go_wp2
  go_end0
  exact ⟨rfl, rfl⟩
theorem check50 (B b : Nat) (bs : List Value) (w : World) (h : Lib.IsBuilder 116 5 B b bs w) : Calls Tryz.prog 140 #[.pointer (some ⟨b, 0, none⟩)] w fun e w' => e = .returned (.tuple #[]) ∧ Lib.BuilderAt 116 5 B b (.pointer (some ⟨b, 0, none⟩)) bs w' ∧ Below B w w' ∧ ∀ i, i ≠ b → w'.heap[i]? = w.heap[i]? := by
  rcases h with h | h
  · refine (check_fresh b w h.cell0 h.shape h.frozen0).mono ?_
    rintro e w' ⟨rfl, rfl⟩
    exact ⟨rfl, h.used _, (Below.refl B w).setCell (p := ⟨b, 0, none⟩) h.1 _, fun i hi => Go.Deep.blk_setCell_other w ⟨b, 0, none⟩ _ i hi⟩
  · refine (check_used b w h.cell0).mono ?_
    rintro e w' ⟨rfl, rfl⟩
    exact ⟨rfl, h, Below.refl B _, fun _ _ => rfl⟩
theorem info_parts {P : Program} {e : TypeId} {z : Value} {s b : Nat} (h : (P.info? e).map (fun i => (i.zero, i.size, i.bytes)) = some (some z, s, b)) : ∃ i, P.info? e = some i ∧ i.zero = some z ∧ i.size = s ∧ i.bytes = b := by
  cases hi : P.info? e with
  | none => rw [hi] at h; cases h
  | some i => rw [hi] at h; simp at h; exact ⟨i, rfl, h⟩
theorem own_slice {w : World} {B e sz n : Nat} {v : Value} {xs : List Value} (h : w.ownsRow B e sz v n xs) : ∃ ao k cap, v = .slice ao k cap := by
  rcases h.2 with ⟨hv, _⟩ | ⟨g, cap, cur, hv, _⟩
  · exact ⟨_, _, _, hv⟩
  · exact ⟨_, _, _, hv⟩
set_option maxRecDepth 100000 in
set_option maxHeartbeats 4000000 in
theorem writeByte38 (B b : Nat) (bs : List Value) (c : Int) (w : World) (h : Lib.IsBuilder 116 5 B b bs w) (hlen : bs.length + 1 ≤ 140737488355328) (hBw : B ≤ w.heap.size) : Calls Tryz.prog 108 #[.pointer (some ⟨b, 0, none⟩), .int .u8 c] w fun e w' => e = .returned .nilIface ∧ Lib.BuilderAt 116 5 B b (.pointer (some ⟨b, 0, none⟩)) (bs ++ [.int .u8 c]) w' ∧ Below B w w' ∧ ∀ i cs T fr, w.heap[i]? = some (.cells cs T fr) → T ≠ 5 → i ≠ b → w'.heap[i]? = w.heap[i]? := by
  obtain ⟨i0, hi, hz0, hz1, hz2⟩ := info_parts info5
  go_enter Tryz.func108, Tryz.ntmps108
  go_wp2_with (go_at_call 140; refine (check50 B b bs _ h).mono ?_)
  rintro e w1 ⟨rfl, ⟨hB, v, hbk, hown, hne⟩, hb1, hsame⟩
  have c0 : w1.cell? ⟨b, 0, none⟩ = some (.pointer (some ⟨b, 0, none⟩)) := Joins.cell_of_block hbk 0
  have c1 : w1.cell? ⟨b, 1, none⟩ = some v := Joins.cell_of_block hbk 1
  have hsz := hb1.size
  go_wp2_with (at_builtin; refine wpList_append_own _ rfl _ _ 33 rfl B 5 i0 (.int .u8 0) 1 1 Tryz.underlying33 hi hz0 hz1 hz2 rfl (by decide) _ _ _ rfl (hown.alloc _) ⟨w1.heap.size, 0, none⟩ 1 1 [.int .u8 c] rfl rfl ?c1 ?c2 (by unfold maxLen; omega) (by omega) (by simp; omega) ?_)
  case c1 =>
    intro j u hj
    match j, hj with
    | 0, hj => simp at hj; subst hj; simp [Addr.add]
  case c2 => intro u hu; simp at hu; subst hu; rfl
  intro v' w2 hown' hgrow _
  have hlt : b < w1.heap.size := (Array.getElem?_eq_some_iff.1 hbk).1
  have hb2 : w2.heap[b]? = some (.cells #[.pointer (some ⟨b, 0, none⟩), v] 116 (0, 0)) := by
    rw [hgrow.block b (by simp; omega) (fun e => hne e.symm), Lib.alloc_old w1 _ b hlt]
    exact hbk
  have d0 : w2.cell? ⟨b, 0, none⟩ = some (.pointer (some ⟨b, 0, none⟩)) := Joins.cell_of_block hb2 0
  have d1 : w2.cell? ⟨b, 1, none⟩ = some v := Joins.cell_of_block hb2 1
  have f1 : w2.frozen? ⟨b, 1, none⟩ = false := Lib.frozen_of_heap hb2 1
  obtain ⟨ao, n', cap, rfl⟩ := own_slice hown'
  go_wp2
  go_ret
  refine ⟨rfl, Lib.BuilderAt.put (T := 116) (e := 5) hB hb2 (bs' := bs ++ [.int .u8 c]) (by simpa using hown') (by decide), ?_, ?_⟩
  · exact ((hb1.alloc (by omega) _).grown hgrow (by simp; omega) (fun k hk => (hown.lt k hk).1)).setCell (p := ⟨b, 1, none⟩) hB _
  · intro i cs T fr hi hT hib
    have h1 : w1.heap[i]? = some (.cells cs T fr) := (hsame i hib).trans hi
    have hl1 : i < w1.heap.size := (Array.getElem?_eq_some_iff.1 h1).1
    rw [Go.Deep.blk_setCell_other _ ⟨b, 1, none⟩ _ i hib, hgrow.block i (by simp; omega) (fun e => Lib.ownBlock_ne hown h1 hT e.symm), Lib.alloc_old w1 _ i hl1, h1, hi]
set_option maxRecDepth 100000 in
set_option maxHeartbeats 4000000 in
theorem writeString39 (B b : Nat) (bs : List Value) (s : ByteArray) (w : World) (h : Lib.IsBuilder 116 5 B b bs w) (hlen : bs.length + s.size ≤ 140737488355328) (hBw : B ≤ w.heap.size) : Calls Tryz.prog 106 #[.pointer (some ⟨b, 0, none⟩), .string s] w fun e w' => e = .returned (.tuple #[.int .i64 s.size, .nilIface]) ∧ Lib.BuilderAt 116 5 B b (.pointer (some ⟨b, 0, none⟩)) (bs ++ Lib.strCells s) w' ∧ Below B w w' := by
  obtain ⟨i0, hi, hz0, hz1, hz2⟩ := info_parts info5
  go_enter Tryz.func106, Tryz.ntmps106
  go_wp2_with (go_at_call 140; refine (check50 B b bs _ h).mono ?_)
  rintro e w1 ⟨rfl, ⟨hB, v, hbk, hown, hne⟩, hb1, _⟩
  have c0 : w1.cell? ⟨b, 0, none⟩ = some (.pointer (some ⟨b, 0, none⟩)) := Joins.cell_of_block hbk 0
  have c1 : w1.cell? ⟨b, 1, none⟩ = some v := Joins.cell_of_block hbk 1
  have hsz := hb1.size
  go_wp2_with (at_builtin; refine Lib.wpList_append_own_string _ rfl _ _ 33 9 rfl B 5 i0 Tryz.underlying33 Tryz.underlying9 hi hz0 hz1 hz2 _ _ _ rfl hown s rfl (by unfold maxLen; omega) (by omega) (by omega) ?_)
  intro v' w2 hown' hgrow _
  have hlt : b < w1.heap.size := (Array.getElem?_eq_some_iff.1 hbk).1
  have hb2 : w2.heap[b]? = some (.cells #[.pointer (some ⟨b, 0, none⟩), v] 116 (0, 0)) := by
    rw [hgrow.block b hlt (fun e => hne e.symm)]
    exact hbk
  have d0 : w2.cell? ⟨b, 0, none⟩ = some (.pointer (some ⟨b, 0, none⟩)) := Joins.cell_of_block hb2 0
  have d1 : w2.cell? ⟨b, 1, none⟩ = some v := Joins.cell_of_block hb2 1
  have f1 : w2.frozen? ⟨b, 1, none⟩ = false := Lib.frozen_of_heap hb2 1
  obtain ⟨ao, n', cap, rfl⟩ := own_slice hown'
  go_wp2
  go_ret2
  refine ⟨rfl, Lib.BuilderAt.put (T := 116) (e := 5) hB hb2 (bs' := bs ++ Lib.strCells s) (by simpa [Lib.strCells_length] using hown') (by decide), ?_⟩
  exact (hb1.grown hgrow (by omega) (fun k hk => (hown.lt k hk).1)).setCell (p := ⟨b, 1, none⟩) hB _
end
section
open Go.RowKit Go.Shelf
set_option maxHeartbeats 8000000
def Pow (w : World) : Prop := Lib.TabIs Tryz.prog w "internal/strconv.uint64pow10" .u64 Lib.pow10Tab
theorem gPow : Tryz.prog.globalNamed "internal/strconv.uint64pow10" = some 1 := by kernel_rfl
theorem Pow.below {w w1 : World} (h : Pow w) (hb : Below w.heap.size w w1) : Pow w1 := Joins.tab_stays gPow h hb (Nat.le_refl _)
theorem number77 (n : Int) (w : World) (h : I64 n) (hp : Pow w) : Calls Tryz.prog 77 #[.int .i64 n] w fun e w' => e = .returned (.string ⟨(Lib.itoa n).toArray⟩) ∧ G w w' := by
  have HC : Hid (Calls Tryz.prog 109 #[.int .i64 n] w fun e w' => e = .returned (.string ⟨(Lib.itoa n).toArray⟩) ∧ G w w') := (Tryz.strconv_Itoa n h.1 h.2 w hp).mono fun e w' ⟨p, k, os, q⟩ => ⟨p, k, os, q⟩
  clear h hp
  generalize Lib.itoa n = L at *
  go_enter Tryz.func77, Tryz.ntmps77
  go_wp2_with fail
  refine HC.out.mono ?_
  rintro e w1 ⟨rfl, hg⟩
  go_wp2
  go_ret
  exact ⟨rfl, hg⟩
/-- The words of operations. -/
def wdB (k : Int) : List UInt8 := if k = 1 then [99, 111, 110, 115, 116] else if k = 2 then [109, 111, 118, 101] else if k = 3 then [98, 105, 110] else if k = 4 then [108, 111, 97, 100] else if k = 5 then [115, 116, 111, 114, 101] else if k = 6 then [102, 114, 97, 109, 101] else if k = 7 then [99, 97, 108, 108] else if k = 8 then [106, 117, 109, 112] else if k = 9 then [105, 102] else if k = 10 then [114, 101, 116] else if k = 11 then [116, 114, 97, 112] else []
/-- The table of words, as it lies. -/
structure Twa (w : World) : Prop where
  c : ∀ k : Nat, 1 ≤ k → k ≤ 11 → w.cell? ⟨0, k * 2, none⟩ = some (.string ⟨(wdB k).toArray⟩)
  pos : 0 < w.heap.size
theorem Twa.below {w w1 : World} (h : Twa w) (hb : Below w.heap.size w w1) : Twa w1 :=
  ⟨fun k h1 h2 => by rw [hb.cell (p := ⟨0, k * 2, none⟩) h.pos]; exact h.c k h1 h2, Nat.lt_of_lt_of_le h.pos hb.size⟩
/-- Texts as cells. -/
def txC (l : List (List UInt8)) : List Value := l.map fun x => .string ⟨x.toArray⟩
theorem txC_app (a b : List (List UInt8)) : txC (a ++ b) = txC a ++ txC b := by simp [txC]
theorem own_g {W U : World} {base : Nat} {e : TypeId} {sz : Nat} {v : Value} {n : Nat} {xs : List Value} (h : W.ownsRow base e sz v n xs) (hb : Below W.heap.size W U) : U.ownsRow base e sz v n xs := by
  refine ⟨h.1, ?_⟩
  rcases h.2 with h2 | ⟨g, cap, cur, h1, h2, h3, h4⟩
  · exact .inl h2
  · exact .inr ⟨g, cap, cur, h1, h2, by rw [hb.block g (Array.getElem?_eq_some_iff.1 h3).1]; exact h3, h4⟩
theorem info9 : (Tryz.prog.info? 9).map (fun i => (i.zero, i.size, i.bytes)) = some (some (.string ⟨#[]⟩), 1, 16) := by kernel_rfl
/-- The row of words, as it grows; W0: the world with the boxes. -/
structure WSt (W0 W : World) (v : Value) (xs : List (List UInt8)) : Prop where
  bel : Below W0.heap.size W0 W
  own : W.ownsRow W0.heap.size 9 1 v xs.length (txC xs)
theorem WSt.g {W0 W U : World} {v : Value} {xs : List (List UInt8)} (h : WSt W0 W v xs) (hb : Below W.heap.size W U) : WSt W0 U v xs := ⟨h.bel.trans (hb.mono h.bel.size), own_g h.own hb⟩
theorem wst_new (W0 : World) (x : List UInt8) : WSt W0 (W0.alloc (.cells #[.string ⟨x.toArray⟩] 9)) (.slice (some ⟨W0.heap.size, 0, none⟩) 1 1) [x] := by
  refine ⟨((G.refl W0).alloc _).below, by simp [txC], .inr ⟨W0.heap.size, 1, #[.string ⟨x.toArray⟩], rfl, Nat.le_refl _, ?_, Nat.le_refl _, by unfold maxLen; omega, rfl, rfl⟩⟩
  show (W0.heap.push _)[W0.heap.size]? = _
  simp
/-- The words of an instruction's line. -/
def wdL (i : Ins) : List (List UInt8) := if i.op = 1 then [9 :: [99, 111, 110, 115, 116]] ++ [Lib.itoa i.d] ++ [Lib.itoa i.n] else if i.op = 2 then [9 :: [109, 111, 118, 101]] ++ [Lib.itoa i.d] ++ [Lib.itoa i.a] else if i.op = 3 then [9 :: [98, 105, 110]] ++ [Lib.itoa i.d] ++ [i.nm.data.toList] ++ [Lib.itoa i.a] ++ [Lib.itoa i.b] else if i.op = 4 then [9 :: [108, 111, 97, 100]] ++ [Lib.itoa i.d] ++ [Lib.itoa i.a] ++ [Lib.itoa i.n] else if i.op = 5 then [9 :: [115, 116, 111, 114, 101]] ++ [Lib.itoa i.a] ++ [Lib.itoa i.n] ++ [Lib.itoa i.b] else if i.op = 6 then [9 :: [102, 114, 97, 109, 101]] ++ [Lib.itoa i.d] ++ [Lib.itoa i.n] else if i.op = 7 then [9 :: [99, 97, 108, 108]] ++ [Lib.itoa i.d] ++ [i.nm.data.toList] ++ i.gs.map Lib.itoa else if i.op = 8 then [9 :: [106, 117, 109, 112]] ++ [Lib.itoa i.to] else if i.op = 9 then [9 :: [105, 102]] ++ [Lib.itoa i.a] ++ [Lib.itoa i.to] ++ [Lib.itoa i.el] else if i.op = 10 then [9 :: [114, 101, 116]] ++ [Lib.itoa i.a] else if i.op = 11 then [9 :: [116, 114, 97, 112]] ++ [Lib.itoa i.n] else []
/-- Words that a function has told. -/
def ToldW (w : World) (l : List (List UInt8)) (e : Ending) (w' : World) : Prop := ∃ g c, e = .returned (.slice (some ⟨g, 0, none⟩) l.length c) ∧ l.length ≤ c ∧ (∀ (j : Nat) (x : List UInt8), l[j]? = some x → w'.cell? ⟨g, j, none⟩ = some (.string ⟨x.toArray⟩)) ∧ Below w.heap.size w w'
theorem WSt.told {w W0 W : World} {v : Value} {xs : List (List UInt8)} (hw : Below w.heap.size w W0) (h : WSt W0 W v xs) (hx : 0 < xs.length) : ToldW w xs (.returned v) W := by
  have ho := h.own
  obtain ⟨g, cap, cur, rfl, h2, h3, h4⟩ : ∃ g cap cur, v = .slice (some ⟨g, 0, none⟩) xs.length cap ∧ W0.heap.size ≤ g ∧ W.heap[g]? = some (.cells cur 9 (0, 0)) ∧ xs.length ≤ cap := by
    rcases ho.2 with ⟨_, hz⟩ | ⟨g, cap, cur, h1, h2, h3, h4, _⟩
    · omega
    · exact ⟨g, cap, cur, h1, h2, h3, h4⟩
  refine ⟨g, cap, rfl, h4, fun j x hj => ?_, hw.trans (h.bel.mono hw.size)⟩
  rw [ho.cellAt j (by have := (List.getElem?_eq_some_iff.1 hj).1; omega)]
  unfold txC
  rw [List.getElem?_map, hj]
  rfl
set_option maxRecDepth 20000 in
theorem wd_1 (i : Ins) (w : World) (h : i.op = 1) (h64 : Num64 i) (hp : Pow w) (hT : Tfa w) (hW : Twa w) : Calls Tryz.prog 78 #[inV i] w (ToldW w (wdL i)) := by
  have HV : Hid (wdL i = [9 :: [99, 111, 110, 115, 116]] ++ [Lib.itoa i.d] ++ [Lib.itoa i.n]) := by show _ = _; unfold wdL; simp [h]
  have h3 : w.cell? ⟨0, 3, none⟩ = some (.string ⟨#[68, 78]⟩) := hT.c 1 (by omega) (by omega)
  have h2 : w.cell? ⟨0, 2, none⟩ = some (.string ⟨#[99, 111, 110, 115, 116]⟩) := hW.c 1 (by omega) (by omega)
  have hpos := hT.pos
  have KN : Hid (∀ n W, I64 n → Below w.heap.size w W → Calls Tryz.prog 77 #[.int .i64 n] W fun e w' => e = .returned (.string ⟨(Lib.itoa n).toArray⟩) ∧ G W w') := fun n W hn hb => number77 n W hn (hp.below hb)
  have KF : Hid (∀ W, Below w.heap.size w W → Calls Tryz.prog 110 #[.int .i64 i.n, .int .i64 10] W fun e w' => e = .returned (.string ⟨(Lib.itoa i.n).toArray⟩) ∧ G W w') := fun W hb => (Tryz.strconv_FormatInt_10 i.n h64.n.1 h64.n.2 W (hp.below hb)).mono fun e w' ⟨p, k, os, q⟩ => ⟨p, k, os, q⟩
  have H64 : Hid (Num64 i) := h64
  obtain ⟨i9, AN⟩ := info_parts info9
  have AN : Hid (Tryz.prog.info? 9 = some i9 ∧ i9.zero = some (.string ⟨#[]⟩) ∧ i9.size = 1 ∧ i9.bytes = 16) := AN
  generalize wdL i = L at *
  unfold inV
  generalize i.gs.length = al
  rw [h]
  clear h h64 hp hT hW
  have HW0 : Hid (∃ W0, W0 = (w.alloc (.cells #[.int .i64 1, .int .i64 i.d, .int .i64 i.a, .int .i64 i.b, .int .i64 i.n, .string i.nm, .slice i.ar al i.ac, .int .i64 i.to, .int .i64 i.el] 54)).alloc (.cells #[.string ⟨#[99, 111, 110, 115, 116]⟩, .string ⟨#[68, 78]⟩] 154) ∧ Below w.heap.size w W0 ∧ W0.heap.size = w.heap.size + 1 + 1 ∧ ∀ W, Below W0.heap.size W0 W → W.cell? ⟨w.heap.size, 1, none⟩ = some (.int .i64 i.d) ∧ W.cell? ⟨w.heap.size, 2, none⟩ = some (.int .i64 i.a) ∧ W.cell? ⟨w.heap.size, 3, none⟩ = some (.int .i64 i.b) ∧ W.cell? ⟨w.heap.size, 4, none⟩ = some (.int .i64 i.n) ∧ W.cell? ⟨w.heap.size, 5, none⟩ = some (.string i.nm) ∧ W.cell? ⟨w.heap.size, 7, none⟩ = some (.int .i64 i.to) ∧ W.cell? ⟨w.heap.size, 8, none⟩ = some (.int .i64 i.el) ∧ W.cell? ⟨w.heap.size + 1, 1, none⟩ = some (.string ⟨#[68, 78]⟩)) := ⟨_, rfl, (((G.refl w).alloc _).alloc _).below, by simp, fun W hb => by
    have k := (bcell hb).1
    refine ⟨(k _ _ (by simp; omega)).trans (by go_simp), (k _ _ (by simp; omega)).trans (by go_simp), (k _ _ (by simp; omega)).trans (by go_simp), (k _ _ (by simp; omega)).trans (by go_simp), (k _ _ (by simp; omega)).trans (by go_simp), (k _ _ (by simp; omega)).trans (by go_simp), (k _ _ (by simp; omega)).trans (by go_simp), (k _ _ (by simp)).trans (by go_simp)⟩⟩
  obtain ⟨W0, hW0, hb0, hs0, HC⟩ := HW0.out
  clear HW0
  have HC : Hid (∀ W, Below W0.heap.size W0 W → W.cell? ⟨w.heap.size, 1, none⟩ = some (.int .i64 i.d) ∧ W.cell? ⟨w.heap.size, 2, none⟩ = some (.int .i64 i.a) ∧ W.cell? ⟨w.heap.size, 3, none⟩ = some (.int .i64 i.b) ∧ W.cell? ⟨w.heap.size, 4, none⟩ = some (.int .i64 i.n) ∧ W.cell? ⟨w.heap.size, 5, none⟩ = some (.string i.nm) ∧ W.cell? ⟨w.heap.size, 7, none⟩ = some (.int .i64 i.to) ∧ W.cell? ⟨w.heap.size, 8, none⟩ = some (.int .i64 i.el) ∧ W.cell? ⟨w.heap.size + 1, 1, none⟩ = some (.string ⟨#[68, 78]⟩)) := HC
  have HB0 : Hid (Below w.heap.size w W0) := hb0
  have HE0 : Hid (W0 = (w.alloc (.cells #[.int .i64 1, .int .i64 i.d, .int .i64 i.a, .int .i64 i.b, .int .i64 i.n, .string i.nm, .slice i.ar al i.ac, .int .i64 i.to, .int .i64 i.el] 54)).alloc (.cells #[.string ⟨#[99, 111, 110, 115, 116]⟩, .string ⟨#[68, 78]⟩] 154)) := hW0
  have HZ0 : Hid (W0.heap.size = w.heap.size + 1 + 1) := hs0
  clear hb0 hW0 hs0
  generalize Lib.itoa = IT at *
  go_enter Tryz.func78, Tryz.ntmps78
  go_wp2
  rw [← HE0.out]
  have HS0 : Hid (WSt W0 (W0.alloc (.cells #[.string ⟨(9 :: [99, 111, 110, 115, 116]).toArray⟩] 9)) (.slice (some ⟨W0.heap.size, 0, none⟩) 1 1) [9 :: [99, 111, 110, 115, 116]]) := wst_new W0 _
  rw [← HZ0.out]
  have HX : (⟨#[9]⟩ ++ ⟨#[99, 111, 110, 115, 116]⟩ : ByteArray) = ⟨(9 :: [99, 111, 110, 115, 116]).toArray⟩ := rfl
  rw [HX]
  clear HX
  generalize W0.alloc (.cells #[.string ⟨(9 :: [99, 111, 110, 115, 116]).toArray⟩] 9) = w0 at *
  generalize Value.slice (some ⟨W0.heap.size, 0, none⟩) 1 1 = v0 at *
  obtain ⟨f1, f2, f3, f4, f5, f7, f8, f9⟩ := HC.out _ HS0.out.bel
  have x0 : ((⟨#[68, 78]⟩ : ByteArray).extract 0 1).toList = [68] := by rw [ByteArray.toList_eq]; rfl
  have x1 : ((⟨#[68, 78]⟩ : ByteArray).extract 1 2).toList = [78] := by rw [ByteArray.toList_eq]; rfl
  refine wp_loop_rounds 3 ?_
  rw [rounds_succ]
  go_wp2_with fail
  refine (KN.out i.d w0 H64.out.d (HB0.out.trans (HS0.out.bel.mono HB0.out.size))).mono ?_
  rintro e w1 ⟨rfl, hg⟩
  have HS1 : Hid (WSt W0 w1 v0 ([9 :: [99, 111, 110, 115, 116]])) := HS0.out.g hg.below
  clear hg f1 f2 f3 f4 f5 f7 f8 f9
  obtain ⟨f1, f2, f3, f4, f5, f7, f8, f9⟩ := HC.out _ HS1.out.bel
  go_wp2_with (at_builtin; refine wpList_append_own _ rfl _ _ 119 rfl W0.heap.size 9 i9 (.string ⟨#[]⟩) 1 16 Tryz.underlying119 AN.out.1 AN.out.2.1 AN.out.2.2.1 AN.out.2.2.2 rfl (by decide) _ _ _ rfl (HS1.out.own.alloc _) ⟨w1.heap.size, 0, none⟩ 1 1 [.string ⟨(IT i.d).toArray⟩] rfl (by rfl) (by intro j q hj; cases j with | zero => cases hj; exact new_one _ _ _ | succ j => cases hj) (by intro q hq; simp at hq; subst hq; rfl) (by unfold maxLen; simp) (by simp) (by have := HS1.out.bel.size; simp; omega) ?_)
  rintro v2 w2 ho2 hg2 _
  have st2 : WSt W0 w2 v2 ([9 :: [99, 111, 110, 115, 116]] ++ [IT i.d]) := ⟨below_grown (Nat.le_refl _) (HS1.out.bel.alloc HS1.out.bel.size _) hg2 (fun g hg => own_base HS1.out.own hg), by rw [txC_app]; simpa [txC] using ho2⟩
  have HS2 : Hid (WSt W0 w2 v2 ([9 :: [99, 111, 110, 115, 116]] ++ [IT i.d])) := st2
  clear ho2 hg2 st2
  clear f1 f2 f3 f4 f5 f7 f8 f9
  obtain ⟨f1, f2, f3, f4, f5, f7, f8, f9⟩ := HC.out _ HS2.out.bel
  go_wp2_with fail
  rw [rounds_succ]
  go_wp2_with fail
  refine (KF.out w2 (HB0.out.trans (HS2.out.bel.mono HB0.out.size))).mono ?_
  rintro e w3 ⟨rfl, hg⟩
  have HS3 : Hid (WSt W0 w3 v2 (([9 :: [99, 111, 110, 115, 116]] ++ [IT i.d]))) := HS2.out.g hg.below
  clear hg f1 f2 f3 f4 f5 f7 f8 f9
  obtain ⟨f1, f2, f3, f4, f5, f7, f8, f9⟩ := HC.out _ HS3.out.bel
  go_wp2_with (at_builtin; refine wpList_append_own _ rfl _ _ 119 rfl W0.heap.size 9 i9 (.string ⟨#[]⟩) 1 16 Tryz.underlying119 AN.out.1 AN.out.2.1 AN.out.2.2.1 AN.out.2.2.2 rfl (by decide) _ _ _ rfl (HS3.out.own.alloc _) ⟨w3.heap.size, 0, none⟩ 1 1 [.string ⟨(IT i.n).toArray⟩] rfl (by rfl) (by intro j q hj; cases j with | zero => cases hj; exact new_one _ _ _ | succ j => cases hj) (by intro q hq; simp at hq; subst hq; rfl) (by unfold maxLen; simp) (by simp) (by have := HS3.out.bel.size; simp; omega) ?_)
  rintro v4 w4 ho4 hg4 _
  have st4 : WSt W0 w4 v4 (([9 :: [99, 111, 110, 115, 116]] ++ [IT i.d]) ++ [IT i.n]) := ⟨below_grown (Nat.le_refl _) (HS3.out.bel.alloc HS3.out.bel.size _) hg4 (fun g hg => own_base HS3.out.own hg), by rw [txC_app]; simpa [txC] using ho4⟩
  have HS4 : Hid (WSt W0 w4 v4 (([9 :: [99, 111, 110, 115, 116]] ++ [IT i.d]) ++ [IT i.n])) := st4
  clear ho4 hg4 st4
  clear f1 f2 f3 f4 f5 f7 f8 f9
  obtain ⟨f1, f2, f3, f4, f5, f7, f8, f9⟩ := HC.out _ HS4.out.bel
  go_wp2_with fail
  rw [rounds_succ]
  go_wp2_with fail
  go_ret
  rw [HV.out]
  exact HS4.out.told HB0.out (by simp)
set_option maxRecDepth 20000 in
theorem wd_2 (i : Ins) (w : World) (h : i.op = 2) (h64 : Num64 i) (hp : Pow w) (hT : Tfa w) (hW : Twa w) : Calls Tryz.prog 78 #[inV i] w (ToldW w (wdL i)) := by
  have HV : Hid (wdL i = [9 :: [109, 111, 118, 101]] ++ [Lib.itoa i.d] ++ [Lib.itoa i.a]) := by show _ = _; unfold wdL; simp [h]
  have h3 : w.cell? ⟨0, 5, none⟩ = some (.string ⟨#[68, 65]⟩) := hT.c 2 (by omega) (by omega)
  have h2 : w.cell? ⟨0, 4, none⟩ = some (.string ⟨#[109, 111, 118, 101]⟩) := hW.c 2 (by omega) (by omega)
  have hpos := hT.pos
  have KN : Hid (∀ n W, I64 n → Below w.heap.size w W → Calls Tryz.prog 77 #[.int .i64 n] W fun e w' => e = .returned (.string ⟨(Lib.itoa n).toArray⟩) ∧ G W w') := fun n W hn hb => number77 n W hn (hp.below hb)
  have KF : Hid (∀ W, Below w.heap.size w W → Calls Tryz.prog 110 #[.int .i64 i.n, .int .i64 10] W fun e w' => e = .returned (.string ⟨(Lib.itoa i.n).toArray⟩) ∧ G W w') := fun W hb => (Tryz.strconv_FormatInt_10 i.n h64.n.1 h64.n.2 W (hp.below hb)).mono fun e w' ⟨p, k, os, q⟩ => ⟨p, k, os, q⟩
  have H64 : Hid (Num64 i) := h64
  obtain ⟨i9, AN⟩ := info_parts info9
  have AN : Hid (Tryz.prog.info? 9 = some i9 ∧ i9.zero = some (.string ⟨#[]⟩) ∧ i9.size = 1 ∧ i9.bytes = 16) := AN
  generalize wdL i = L at *
  unfold inV
  generalize i.gs.length = al
  rw [h]
  clear h h64 hp hT hW
  have HW0 : Hid (∃ W0, W0 = (w.alloc (.cells #[.int .i64 2, .int .i64 i.d, .int .i64 i.a, .int .i64 i.b, .int .i64 i.n, .string i.nm, .slice i.ar al i.ac, .int .i64 i.to, .int .i64 i.el] 54)).alloc (.cells #[.string ⟨#[109, 111, 118, 101]⟩, .string ⟨#[68, 65]⟩] 154) ∧ Below w.heap.size w W0 ∧ W0.heap.size = w.heap.size + 1 + 1 ∧ ∀ W, Below W0.heap.size W0 W → W.cell? ⟨w.heap.size, 1, none⟩ = some (.int .i64 i.d) ∧ W.cell? ⟨w.heap.size, 2, none⟩ = some (.int .i64 i.a) ∧ W.cell? ⟨w.heap.size, 3, none⟩ = some (.int .i64 i.b) ∧ W.cell? ⟨w.heap.size, 4, none⟩ = some (.int .i64 i.n) ∧ W.cell? ⟨w.heap.size, 5, none⟩ = some (.string i.nm) ∧ W.cell? ⟨w.heap.size, 7, none⟩ = some (.int .i64 i.to) ∧ W.cell? ⟨w.heap.size, 8, none⟩ = some (.int .i64 i.el) ∧ W.cell? ⟨w.heap.size + 1, 1, none⟩ = some (.string ⟨#[68, 65]⟩)) := ⟨_, rfl, (((G.refl w).alloc _).alloc _).below, by simp, fun W hb => by
    have k := (bcell hb).1
    refine ⟨(k _ _ (by simp; omega)).trans (by go_simp), (k _ _ (by simp; omega)).trans (by go_simp), (k _ _ (by simp; omega)).trans (by go_simp), (k _ _ (by simp; omega)).trans (by go_simp), (k _ _ (by simp; omega)).trans (by go_simp), (k _ _ (by simp; omega)).trans (by go_simp), (k _ _ (by simp; omega)).trans (by go_simp), (k _ _ (by simp)).trans (by go_simp)⟩⟩
  obtain ⟨W0, hW0, hb0, hs0, HC⟩ := HW0.out
  clear HW0
  have HC : Hid (∀ W, Below W0.heap.size W0 W → W.cell? ⟨w.heap.size, 1, none⟩ = some (.int .i64 i.d) ∧ W.cell? ⟨w.heap.size, 2, none⟩ = some (.int .i64 i.a) ∧ W.cell? ⟨w.heap.size, 3, none⟩ = some (.int .i64 i.b) ∧ W.cell? ⟨w.heap.size, 4, none⟩ = some (.int .i64 i.n) ∧ W.cell? ⟨w.heap.size, 5, none⟩ = some (.string i.nm) ∧ W.cell? ⟨w.heap.size, 7, none⟩ = some (.int .i64 i.to) ∧ W.cell? ⟨w.heap.size, 8, none⟩ = some (.int .i64 i.el) ∧ W.cell? ⟨w.heap.size + 1, 1, none⟩ = some (.string ⟨#[68, 65]⟩)) := HC
  have HB0 : Hid (Below w.heap.size w W0) := hb0
  have HE0 : Hid (W0 = (w.alloc (.cells #[.int .i64 2, .int .i64 i.d, .int .i64 i.a, .int .i64 i.b, .int .i64 i.n, .string i.nm, .slice i.ar al i.ac, .int .i64 i.to, .int .i64 i.el] 54)).alloc (.cells #[.string ⟨#[109, 111, 118, 101]⟩, .string ⟨#[68, 65]⟩] 154)) := hW0
  have HZ0 : Hid (W0.heap.size = w.heap.size + 1 + 1) := hs0
  clear hb0 hW0 hs0
  generalize Lib.itoa = IT at *
  go_enter Tryz.func78, Tryz.ntmps78
  go_wp2
  rw [← HE0.out]
  have HS0 : Hid (WSt W0 (W0.alloc (.cells #[.string ⟨(9 :: [109, 111, 118, 101]).toArray⟩] 9)) (.slice (some ⟨W0.heap.size, 0, none⟩) 1 1) [9 :: [109, 111, 118, 101]]) := wst_new W0 _
  rw [← HZ0.out]
  have HX : (⟨#[9]⟩ ++ ⟨#[109, 111, 118, 101]⟩ : ByteArray) = ⟨(9 :: [109, 111, 118, 101]).toArray⟩ := rfl
  rw [HX]
  clear HX
  generalize W0.alloc (.cells #[.string ⟨(9 :: [109, 111, 118, 101]).toArray⟩] 9) = w0 at *
  generalize Value.slice (some ⟨W0.heap.size, 0, none⟩) 1 1 = v0 at *
  obtain ⟨f1, f2, f3, f4, f5, f7, f8, f9⟩ := HC.out _ HS0.out.bel
  have x0 : ((⟨#[68, 65]⟩ : ByteArray).extract 0 1).toList = [68] := by rw [ByteArray.toList_eq]; rfl
  have x1 : ((⟨#[68, 65]⟩ : ByteArray).extract 1 2).toList = [65] := by rw [ByteArray.toList_eq]; rfl
  refine wp_loop_rounds 3 ?_
  rw [rounds_succ]
  go_wp2_with fail
  refine (KN.out i.d w0 H64.out.d (HB0.out.trans (HS0.out.bel.mono HB0.out.size))).mono ?_
  rintro e w1 ⟨rfl, hg⟩
  have HS1 : Hid (WSt W0 w1 v0 ([9 :: [109, 111, 118, 101]])) := HS0.out.g hg.below
  clear hg f1 f2 f3 f4 f5 f7 f8 f9
  obtain ⟨f1, f2, f3, f4, f5, f7, f8, f9⟩ := HC.out _ HS1.out.bel
  go_wp2_with (at_builtin; refine wpList_append_own _ rfl _ _ 119 rfl W0.heap.size 9 i9 (.string ⟨#[]⟩) 1 16 Tryz.underlying119 AN.out.1 AN.out.2.1 AN.out.2.2.1 AN.out.2.2.2 rfl (by decide) _ _ _ rfl (HS1.out.own.alloc _) ⟨w1.heap.size, 0, none⟩ 1 1 [.string ⟨(IT i.d).toArray⟩] rfl (by rfl) (by intro j q hj; cases j with | zero => cases hj; exact new_one _ _ _ | succ j => cases hj) (by intro q hq; simp at hq; subst hq; rfl) (by unfold maxLen; simp) (by simp) (by have := HS1.out.bel.size; simp; omega) ?_)
  rintro v2 w2 ho2 hg2 _
  have st2 : WSt W0 w2 v2 ([9 :: [109, 111, 118, 101]] ++ [IT i.d]) := ⟨below_grown (Nat.le_refl _) (HS1.out.bel.alloc HS1.out.bel.size _) hg2 (fun g hg => own_base HS1.out.own hg), by rw [txC_app]; simpa [txC] using ho2⟩
  have HS2 : Hid (WSt W0 w2 v2 ([9 :: [109, 111, 118, 101]] ++ [IT i.d])) := st2
  clear ho2 hg2 st2
  clear f1 f2 f3 f4 f5 f7 f8 f9
  obtain ⟨f1, f2, f3, f4, f5, f7, f8, f9⟩ := HC.out _ HS2.out.bel
  go_wp2_with fail
  rw [rounds_succ]
  go_wp2_with fail
  refine (KN.out i.a w2 H64.out.a (HB0.out.trans (HS2.out.bel.mono HB0.out.size))).mono ?_
  rintro e w3 ⟨rfl, hg⟩
  have HS3 : Hid (WSt W0 w3 v2 (([9 :: [109, 111, 118, 101]] ++ [IT i.d]))) := HS2.out.g hg.below
  clear hg f1 f2 f3 f4 f5 f7 f8 f9
  obtain ⟨f1, f2, f3, f4, f5, f7, f8, f9⟩ := HC.out _ HS3.out.bel
  go_wp2_with (at_builtin; refine wpList_append_own _ rfl _ _ 119 rfl W0.heap.size 9 i9 (.string ⟨#[]⟩) 1 16 Tryz.underlying119 AN.out.1 AN.out.2.1 AN.out.2.2.1 AN.out.2.2.2 rfl (by decide) _ _ _ rfl (HS3.out.own.alloc _) ⟨w3.heap.size, 0, none⟩ 1 1 [.string ⟨(IT i.a).toArray⟩] rfl (by rfl) (by intro j q hj; cases j with | zero => cases hj; exact new_one _ _ _ | succ j => cases hj) (by intro q hq; simp at hq; subst hq; rfl) (by unfold maxLen; simp) (by simp) (by have := HS3.out.bel.size; simp; omega) ?_)
  rintro v4 w4 ho4 hg4 _
  have st4 : WSt W0 w4 v4 (([9 :: [109, 111, 118, 101]] ++ [IT i.d]) ++ [IT i.a]) := ⟨below_grown (Nat.le_refl _) (HS3.out.bel.alloc HS3.out.bel.size _) hg4 (fun g hg => own_base HS3.out.own hg), by rw [txC_app]; simpa [txC] using ho4⟩
  have HS4 : Hid (WSt W0 w4 v4 (([9 :: [109, 111, 118, 101]] ++ [IT i.d]) ++ [IT i.a])) := st4
  clear ho4 hg4 st4
  clear f1 f2 f3 f4 f5 f7 f8 f9
  obtain ⟨f1, f2, f3, f4, f5, f7, f8, f9⟩ := HC.out _ HS4.out.bel
  go_wp2_with fail
  rw [rounds_succ]
  go_wp2_with fail
  go_ret
  rw [HV.out]
  exact HS4.out.told HB0.out (by simp)
set_option maxRecDepth 20000 in
theorem wd_3 (i : Ins) (w : World) (h : i.op = 3) (h64 : Num64 i) (hp : Pow w) (hT : Tfa w) (hW : Twa w) : Calls Tryz.prog 78 #[inV i] w (ToldW w (wdL i)) := by
  have HV : Hid (wdL i = [9 :: [98, 105, 110]] ++ [Lib.itoa i.d] ++ [i.nm.data.toList] ++ [Lib.itoa i.a] ++ [Lib.itoa i.b]) := by show _ = _; unfold wdL; simp [h]
  have h3 : w.cell? ⟨0, 7, none⟩ = some (.string ⟨#[68, 83, 65, 66]⟩) := hT.c 3 (by omega) (by omega)
  have h2 : w.cell? ⟨0, 6, none⟩ = some (.string ⟨#[98, 105, 110]⟩) := hW.c 3 (by omega) (by omega)
  have hpos := hT.pos
  have KN : Hid (∀ n W, I64 n → Below w.heap.size w W → Calls Tryz.prog 77 #[.int .i64 n] W fun e w' => e = .returned (.string ⟨(Lib.itoa n).toArray⟩) ∧ G W w') := fun n W hn hb => number77 n W hn (hp.below hb)
  have KF : Hid (∀ W, Below w.heap.size w W → Calls Tryz.prog 110 #[.int .i64 i.n, .int .i64 10] W fun e w' => e = .returned (.string ⟨(Lib.itoa i.n).toArray⟩) ∧ G W w') := fun W hb => (Tryz.strconv_FormatInt_10 i.n h64.n.1 h64.n.2 W (hp.below hb)).mono fun e w' ⟨p, k, os, q⟩ => ⟨p, k, os, q⟩
  have H64 : Hid (Num64 i) := h64
  obtain ⟨i9, AN⟩ := info_parts info9
  have AN : Hid (Tryz.prog.info? 9 = some i9 ∧ i9.zero = some (.string ⟨#[]⟩) ∧ i9.size = 1 ∧ i9.bytes = 16) := AN
  generalize wdL i = L at *
  unfold inV
  generalize i.gs.length = al
  rw [h]
  clear h h64 hp hT hW
  have HW0 : Hid (∃ W0, W0 = (w.alloc (.cells #[.int .i64 3, .int .i64 i.d, .int .i64 i.a, .int .i64 i.b, .int .i64 i.n, .string i.nm, .slice i.ar al i.ac, .int .i64 i.to, .int .i64 i.el] 54)).alloc (.cells #[.string ⟨#[98, 105, 110]⟩, .string ⟨#[68, 83, 65, 66]⟩] 154) ∧ Below w.heap.size w W0 ∧ W0.heap.size = w.heap.size + 1 + 1 ∧ ∀ W, Below W0.heap.size W0 W → W.cell? ⟨w.heap.size, 1, none⟩ = some (.int .i64 i.d) ∧ W.cell? ⟨w.heap.size, 2, none⟩ = some (.int .i64 i.a) ∧ W.cell? ⟨w.heap.size, 3, none⟩ = some (.int .i64 i.b) ∧ W.cell? ⟨w.heap.size, 4, none⟩ = some (.int .i64 i.n) ∧ W.cell? ⟨w.heap.size, 5, none⟩ = some (.string i.nm) ∧ W.cell? ⟨w.heap.size, 7, none⟩ = some (.int .i64 i.to) ∧ W.cell? ⟨w.heap.size, 8, none⟩ = some (.int .i64 i.el) ∧ W.cell? ⟨w.heap.size + 1, 1, none⟩ = some (.string ⟨#[68, 83, 65, 66]⟩)) := ⟨_, rfl, (((G.refl w).alloc _).alloc _).below, by simp, fun W hb => by
    have k := (bcell hb).1
    refine ⟨(k _ _ (by simp; omega)).trans (by go_simp), (k _ _ (by simp; omega)).trans (by go_simp), (k _ _ (by simp; omega)).trans (by go_simp), (k _ _ (by simp; omega)).trans (by go_simp), (k _ _ (by simp; omega)).trans (by go_simp), (k _ _ (by simp; omega)).trans (by go_simp), (k _ _ (by simp; omega)).trans (by go_simp), (k _ _ (by simp)).trans (by go_simp)⟩⟩
  obtain ⟨W0, hW0, hb0, hs0, HC⟩ := HW0.out
  clear HW0
  have HC : Hid (∀ W, Below W0.heap.size W0 W → W.cell? ⟨w.heap.size, 1, none⟩ = some (.int .i64 i.d) ∧ W.cell? ⟨w.heap.size, 2, none⟩ = some (.int .i64 i.a) ∧ W.cell? ⟨w.heap.size, 3, none⟩ = some (.int .i64 i.b) ∧ W.cell? ⟨w.heap.size, 4, none⟩ = some (.int .i64 i.n) ∧ W.cell? ⟨w.heap.size, 5, none⟩ = some (.string i.nm) ∧ W.cell? ⟨w.heap.size, 7, none⟩ = some (.int .i64 i.to) ∧ W.cell? ⟨w.heap.size, 8, none⟩ = some (.int .i64 i.el) ∧ W.cell? ⟨w.heap.size + 1, 1, none⟩ = some (.string ⟨#[68, 83, 65, 66]⟩)) := HC
  have HB0 : Hid (Below w.heap.size w W0) := hb0
  have HE0 : Hid (W0 = (w.alloc (.cells #[.int .i64 3, .int .i64 i.d, .int .i64 i.a, .int .i64 i.b, .int .i64 i.n, .string i.nm, .slice i.ar al i.ac, .int .i64 i.to, .int .i64 i.el] 54)).alloc (.cells #[.string ⟨#[98, 105, 110]⟩, .string ⟨#[68, 83, 65, 66]⟩] 154)) := hW0
  have HZ0 : Hid (W0.heap.size = w.heap.size + 1 + 1) := hs0
  clear hb0 hW0 hs0
  generalize Lib.itoa = IT at *
  go_enter Tryz.func78, Tryz.ntmps78
  go_wp2
  rw [← HE0.out]
  have HS0 : Hid (WSt W0 (W0.alloc (.cells #[.string ⟨(9 :: [98, 105, 110]).toArray⟩] 9)) (.slice (some ⟨W0.heap.size, 0, none⟩) 1 1) [9 :: [98, 105, 110]]) := wst_new W0 _
  rw [← HZ0.out]
  have HX : (⟨#[9]⟩ ++ ⟨#[98, 105, 110]⟩ : ByteArray) = ⟨(9 :: [98, 105, 110]).toArray⟩ := rfl
  rw [HX]
  clear HX
  generalize W0.alloc (.cells #[.string ⟨(9 :: [98, 105, 110]).toArray⟩] 9) = w0 at *
  generalize Value.slice (some ⟨W0.heap.size, 0, none⟩) 1 1 = v0 at *
  obtain ⟨f1, f2, f3, f4, f5, f7, f8, f9⟩ := HC.out _ HS0.out.bel
  have x0 : ((⟨#[68, 83, 65, 66]⟩ : ByteArray).extract 0 1).toList = [68] := by rw [ByteArray.toList_eq]; rfl
  have x1 : ((⟨#[68, 83, 65, 66]⟩ : ByteArray).extract 1 2).toList = [83] := by rw [ByteArray.toList_eq]; rfl
  have x2 : ((⟨#[68, 83, 65, 66]⟩ : ByteArray).extract 2 3).toList = [65] := by rw [ByteArray.toList_eq]; rfl
  have x3 : ((⟨#[68, 83, 65, 66]⟩ : ByteArray).extract 3 4).toList = [66] := by rw [ByteArray.toList_eq]; rfl
  refine wp_loop_rounds 5 ?_
  rw [rounds_succ]
  go_wp2_with fail
  refine (KN.out i.d w0 H64.out.d (HB0.out.trans (HS0.out.bel.mono HB0.out.size))).mono ?_
  rintro e w1 ⟨rfl, hg⟩
  have HS1 : Hid (WSt W0 w1 v0 ([9 :: [98, 105, 110]])) := HS0.out.g hg.below
  clear hg f1 f2 f3 f4 f5 f7 f8 f9
  obtain ⟨f1, f2, f3, f4, f5, f7, f8, f9⟩ := HC.out _ HS1.out.bel
  go_wp2_with (at_builtin; refine wpList_append_own _ rfl _ _ 119 rfl W0.heap.size 9 i9 (.string ⟨#[]⟩) 1 16 Tryz.underlying119 AN.out.1 AN.out.2.1 AN.out.2.2.1 AN.out.2.2.2 rfl (by decide) _ _ _ rfl (HS1.out.own.alloc _) ⟨w1.heap.size, 0, none⟩ 1 1 [.string ⟨(IT i.d).toArray⟩] rfl (by rfl) (by intro j q hj; cases j with | zero => cases hj; exact new_one _ _ _ | succ j => cases hj) (by intro q hq; simp at hq; subst hq; rfl) (by unfold maxLen; simp) (by simp) (by have := HS1.out.bel.size; simp; omega) ?_)
  rintro v2 w2 ho2 hg2 _
  have st2 : WSt W0 w2 v2 ([9 :: [98, 105, 110]] ++ [IT i.d]) := ⟨below_grown (Nat.le_refl _) (HS1.out.bel.alloc HS1.out.bel.size _) hg2 (fun g hg => own_base HS1.out.own hg), by rw [txC_app]; simpa [txC] using ho2⟩
  have HS2 : Hid (WSt W0 w2 v2 ([9 :: [98, 105, 110]] ++ [IT i.d])) := st2
  clear ho2 hg2 st2
  clear f1 f2 f3 f4 f5 f7 f8 f9
  obtain ⟨f1, f2, f3, f4, f5, f7, f8, f9⟩ := HC.out _ HS2.out.bel
  go_wp2_with fail
  rw [rounds_succ]
  go_wp2_with (at_builtin; refine wpList_append_own _ rfl _ _ 119 rfl W0.heap.size 9 i9 (.string ⟨#[]⟩) 1 16 Tryz.underlying119 AN.out.1 AN.out.2.1 AN.out.2.2.1 AN.out.2.2.2 rfl (by decide) _ _ _ rfl (HS2.out.own.alloc _) ⟨w2.heap.size, 0, none⟩ 1 1 [.string ⟨(i.nm.data.toList).toArray⟩] rfl (by rfl) (by intro j q hj; cases j with | zero => cases hj; exact new_one _ _ _ | succ j => cases hj) (by intro q hq; simp at hq; subst hq; rfl) (by unfold maxLen; simp) (by simp) (by have := HS2.out.bel.size; simp; omega) ?_)
  rintro v3 w3 ho3 hg3 _
  have st3 : WSt W0 w3 v3 (([9 :: [98, 105, 110]] ++ [IT i.d]) ++ [i.nm.data.toList]) := ⟨below_grown (Nat.le_refl _) (HS2.out.bel.alloc HS2.out.bel.size _) hg3 (fun g hg => own_base HS2.out.own hg), by rw [txC_app]; simpa [txC] using ho3⟩
  have HS3 : Hid (WSt W0 w3 v3 (([9 :: [98, 105, 110]] ++ [IT i.d]) ++ [i.nm.data.toList])) := st3
  clear ho3 hg3 st3
  clear f1 f2 f3 f4 f5 f7 f8 f9
  obtain ⟨f1, f2, f3, f4, f5, f7, f8, f9⟩ := HC.out _ HS3.out.bel
  go_wp2_with fail
  rw [rounds_succ]
  go_wp2_with fail
  refine (KN.out i.a w3 H64.out.a (HB0.out.trans (HS3.out.bel.mono HB0.out.size))).mono ?_
  rintro e w4 ⟨rfl, hg⟩
  have HS4 : Hid (WSt W0 w4 v3 ((([9 :: [98, 105, 110]] ++ [IT i.d]) ++ [i.nm.data.toList]))) := HS3.out.g hg.below
  clear hg f1 f2 f3 f4 f5 f7 f8 f9
  obtain ⟨f1, f2, f3, f4, f5, f7, f8, f9⟩ := HC.out _ HS4.out.bel
  go_wp2_with (at_builtin; refine wpList_append_own _ rfl _ _ 119 rfl W0.heap.size 9 i9 (.string ⟨#[]⟩) 1 16 Tryz.underlying119 AN.out.1 AN.out.2.1 AN.out.2.2.1 AN.out.2.2.2 rfl (by decide) _ _ _ rfl (HS4.out.own.alloc _) ⟨w4.heap.size, 0, none⟩ 1 1 [.string ⟨(IT i.a).toArray⟩] rfl (by rfl) (by intro j q hj; cases j with | zero => cases hj; exact new_one _ _ _ | succ j => cases hj) (by intro q hq; simp at hq; subst hq; rfl) (by unfold maxLen; simp) (by simp) (by have := HS4.out.bel.size; simp; omega) ?_)
  rintro v5 w5 ho5 hg5 _
  have st5 : WSt W0 w5 v5 ((([9 :: [98, 105, 110]] ++ [IT i.d]) ++ [i.nm.data.toList]) ++ [IT i.a]) := ⟨below_grown (Nat.le_refl _) (HS4.out.bel.alloc HS4.out.bel.size _) hg5 (fun g hg => own_base HS4.out.own hg), by rw [txC_app]; simpa [txC] using ho5⟩
  have HS5 : Hid (WSt W0 w5 v5 ((([9 :: [98, 105, 110]] ++ [IT i.d]) ++ [i.nm.data.toList]) ++ [IT i.a])) := st5
  clear ho5 hg5 st5
  clear f1 f2 f3 f4 f5 f7 f8 f9
  obtain ⟨f1, f2, f3, f4, f5, f7, f8, f9⟩ := HC.out _ HS5.out.bel
  go_wp2_with fail
  rw [rounds_succ]
  go_wp2_with fail
  refine (KN.out i.b w5 H64.out.b (HB0.out.trans (HS5.out.bel.mono HB0.out.size))).mono ?_
  rintro e w6 ⟨rfl, hg⟩
  have HS6 : Hid (WSt W0 w6 v5 (((([9 :: [98, 105, 110]] ++ [IT i.d]) ++ [i.nm.data.toList]) ++ [IT i.a]))) := HS5.out.g hg.below
  clear hg f1 f2 f3 f4 f5 f7 f8 f9
  obtain ⟨f1, f2, f3, f4, f5, f7, f8, f9⟩ := HC.out _ HS6.out.bel
  go_wp2_with (at_builtin; refine wpList_append_own _ rfl _ _ 119 rfl W0.heap.size 9 i9 (.string ⟨#[]⟩) 1 16 Tryz.underlying119 AN.out.1 AN.out.2.1 AN.out.2.2.1 AN.out.2.2.2 rfl (by decide) _ _ _ rfl (HS6.out.own.alloc _) ⟨w6.heap.size, 0, none⟩ 1 1 [.string ⟨(IT i.b).toArray⟩] rfl (by rfl) (by intro j q hj; cases j with | zero => cases hj; exact new_one _ _ _ | succ j => cases hj) (by intro q hq; simp at hq; subst hq; rfl) (by unfold maxLen; simp) (by simp) (by have := HS6.out.bel.size; simp; omega) ?_)
  rintro v7 w7 ho7 hg7 _
  have st7 : WSt W0 w7 v7 (((([9 :: [98, 105, 110]] ++ [IT i.d]) ++ [i.nm.data.toList]) ++ [IT i.a]) ++ [IT i.b]) := ⟨below_grown (Nat.le_refl _) (HS6.out.bel.alloc HS6.out.bel.size _) hg7 (fun g hg => own_base HS6.out.own hg), by rw [txC_app]; simpa [txC] using ho7⟩
  have HS7 : Hid (WSt W0 w7 v7 (((([9 :: [98, 105, 110]] ++ [IT i.d]) ++ [i.nm.data.toList]) ++ [IT i.a]) ++ [IT i.b])) := st7
  clear ho7 hg7 st7
  clear f1 f2 f3 f4 f5 f7 f8 f9
  obtain ⟨f1, f2, f3, f4, f5, f7, f8, f9⟩ := HC.out _ HS7.out.bel
  go_wp2_with fail
  rw [rounds_succ]
  go_wp2_with fail
  go_ret
  rw [HV.out]
  exact HS7.out.told HB0.out (by simp)
set_option maxRecDepth 20000 in
theorem wd_4 (i : Ins) (w : World) (h : i.op = 4) (h64 : Num64 i) (hp : Pow w) (hT : Tfa w) (hW : Twa w) : Calls Tryz.prog 78 #[inV i] w (ToldW w (wdL i)) := by
  have HV : Hid (wdL i = [9 :: [108, 111, 97, 100]] ++ [Lib.itoa i.d] ++ [Lib.itoa i.a] ++ [Lib.itoa i.n]) := by show _ = _; unfold wdL; simp [h]
  have h3 : w.cell? ⟨0, 9, none⟩ = some (.string ⟨#[68, 65, 78]⟩) := hT.c 4 (by omega) (by omega)
  have h2 : w.cell? ⟨0, 8, none⟩ = some (.string ⟨#[108, 111, 97, 100]⟩) := hW.c 4 (by omega) (by omega)
  have hpos := hT.pos
  have KN : Hid (∀ n W, I64 n → Below w.heap.size w W → Calls Tryz.prog 77 #[.int .i64 n] W fun e w' => e = .returned (.string ⟨(Lib.itoa n).toArray⟩) ∧ G W w') := fun n W hn hb => number77 n W hn (hp.below hb)
  have KF : Hid (∀ W, Below w.heap.size w W → Calls Tryz.prog 110 #[.int .i64 i.n, .int .i64 10] W fun e w' => e = .returned (.string ⟨(Lib.itoa i.n).toArray⟩) ∧ G W w') := fun W hb => (Tryz.strconv_FormatInt_10 i.n h64.n.1 h64.n.2 W (hp.below hb)).mono fun e w' ⟨p, k, os, q⟩ => ⟨p, k, os, q⟩
  have H64 : Hid (Num64 i) := h64
  obtain ⟨i9, AN⟩ := info_parts info9
  have AN : Hid (Tryz.prog.info? 9 = some i9 ∧ i9.zero = some (.string ⟨#[]⟩) ∧ i9.size = 1 ∧ i9.bytes = 16) := AN
  generalize wdL i = L at *
  unfold inV
  generalize i.gs.length = al
  rw [h]
  clear h h64 hp hT hW
  have HW0 : Hid (∃ W0, W0 = (w.alloc (.cells #[.int .i64 4, .int .i64 i.d, .int .i64 i.a, .int .i64 i.b, .int .i64 i.n, .string i.nm, .slice i.ar al i.ac, .int .i64 i.to, .int .i64 i.el] 54)).alloc (.cells #[.string ⟨#[108, 111, 97, 100]⟩, .string ⟨#[68, 65, 78]⟩] 154) ∧ Below w.heap.size w W0 ∧ W0.heap.size = w.heap.size + 1 + 1 ∧ ∀ W, Below W0.heap.size W0 W → W.cell? ⟨w.heap.size, 1, none⟩ = some (.int .i64 i.d) ∧ W.cell? ⟨w.heap.size, 2, none⟩ = some (.int .i64 i.a) ∧ W.cell? ⟨w.heap.size, 3, none⟩ = some (.int .i64 i.b) ∧ W.cell? ⟨w.heap.size, 4, none⟩ = some (.int .i64 i.n) ∧ W.cell? ⟨w.heap.size, 5, none⟩ = some (.string i.nm) ∧ W.cell? ⟨w.heap.size, 7, none⟩ = some (.int .i64 i.to) ∧ W.cell? ⟨w.heap.size, 8, none⟩ = some (.int .i64 i.el) ∧ W.cell? ⟨w.heap.size + 1, 1, none⟩ = some (.string ⟨#[68, 65, 78]⟩)) := ⟨_, rfl, (((G.refl w).alloc _).alloc _).below, by simp, fun W hb => by
    have k := (bcell hb).1
    refine ⟨(k _ _ (by simp; omega)).trans (by go_simp), (k _ _ (by simp; omega)).trans (by go_simp), (k _ _ (by simp; omega)).trans (by go_simp), (k _ _ (by simp; omega)).trans (by go_simp), (k _ _ (by simp; omega)).trans (by go_simp), (k _ _ (by simp; omega)).trans (by go_simp), (k _ _ (by simp; omega)).trans (by go_simp), (k _ _ (by simp)).trans (by go_simp)⟩⟩
  obtain ⟨W0, hW0, hb0, hs0, HC⟩ := HW0.out
  clear HW0
  have HC : Hid (∀ W, Below W0.heap.size W0 W → W.cell? ⟨w.heap.size, 1, none⟩ = some (.int .i64 i.d) ∧ W.cell? ⟨w.heap.size, 2, none⟩ = some (.int .i64 i.a) ∧ W.cell? ⟨w.heap.size, 3, none⟩ = some (.int .i64 i.b) ∧ W.cell? ⟨w.heap.size, 4, none⟩ = some (.int .i64 i.n) ∧ W.cell? ⟨w.heap.size, 5, none⟩ = some (.string i.nm) ∧ W.cell? ⟨w.heap.size, 7, none⟩ = some (.int .i64 i.to) ∧ W.cell? ⟨w.heap.size, 8, none⟩ = some (.int .i64 i.el) ∧ W.cell? ⟨w.heap.size + 1, 1, none⟩ = some (.string ⟨#[68, 65, 78]⟩)) := HC
  have HB0 : Hid (Below w.heap.size w W0) := hb0
  have HE0 : Hid (W0 = (w.alloc (.cells #[.int .i64 4, .int .i64 i.d, .int .i64 i.a, .int .i64 i.b, .int .i64 i.n, .string i.nm, .slice i.ar al i.ac, .int .i64 i.to, .int .i64 i.el] 54)).alloc (.cells #[.string ⟨#[108, 111, 97, 100]⟩, .string ⟨#[68, 65, 78]⟩] 154)) := hW0
  have HZ0 : Hid (W0.heap.size = w.heap.size + 1 + 1) := hs0
  clear hb0 hW0 hs0
  generalize Lib.itoa = IT at *
  go_enter Tryz.func78, Tryz.ntmps78
  go_wp2
  rw [← HE0.out]
  have HS0 : Hid (WSt W0 (W0.alloc (.cells #[.string ⟨(9 :: [108, 111, 97, 100]).toArray⟩] 9)) (.slice (some ⟨W0.heap.size, 0, none⟩) 1 1) [9 :: [108, 111, 97, 100]]) := wst_new W0 _
  rw [← HZ0.out]
  have HX : (⟨#[9]⟩ ++ ⟨#[108, 111, 97, 100]⟩ : ByteArray) = ⟨(9 :: [108, 111, 97, 100]).toArray⟩ := rfl
  rw [HX]
  clear HX
  generalize W0.alloc (.cells #[.string ⟨(9 :: [108, 111, 97, 100]).toArray⟩] 9) = w0 at *
  generalize Value.slice (some ⟨W0.heap.size, 0, none⟩) 1 1 = v0 at *
  obtain ⟨f1, f2, f3, f4, f5, f7, f8, f9⟩ := HC.out _ HS0.out.bel
  have x0 : ((⟨#[68, 65, 78]⟩ : ByteArray).extract 0 1).toList = [68] := by rw [ByteArray.toList_eq]; rfl
  have x1 : ((⟨#[68, 65, 78]⟩ : ByteArray).extract 1 2).toList = [65] := by rw [ByteArray.toList_eq]; rfl
  have x2 : ((⟨#[68, 65, 78]⟩ : ByteArray).extract 2 3).toList = [78] := by rw [ByteArray.toList_eq]; rfl
  refine wp_loop_rounds 4 ?_
  rw [rounds_succ]
  go_wp2_with fail
  refine (KN.out i.d w0 H64.out.d (HB0.out.trans (HS0.out.bel.mono HB0.out.size))).mono ?_
  rintro e w1 ⟨rfl, hg⟩
  have HS1 : Hid (WSt W0 w1 v0 ([9 :: [108, 111, 97, 100]])) := HS0.out.g hg.below
  clear hg f1 f2 f3 f4 f5 f7 f8 f9
  obtain ⟨f1, f2, f3, f4, f5, f7, f8, f9⟩ := HC.out _ HS1.out.bel
  go_wp2_with (at_builtin; refine wpList_append_own _ rfl _ _ 119 rfl W0.heap.size 9 i9 (.string ⟨#[]⟩) 1 16 Tryz.underlying119 AN.out.1 AN.out.2.1 AN.out.2.2.1 AN.out.2.2.2 rfl (by decide) _ _ _ rfl (HS1.out.own.alloc _) ⟨w1.heap.size, 0, none⟩ 1 1 [.string ⟨(IT i.d).toArray⟩] rfl (by rfl) (by intro j q hj; cases j with | zero => cases hj; exact new_one _ _ _ | succ j => cases hj) (by intro q hq; simp at hq; subst hq; rfl) (by unfold maxLen; simp) (by simp) (by have := HS1.out.bel.size; simp; omega) ?_)
  rintro v2 w2 ho2 hg2 _
  have st2 : WSt W0 w2 v2 ([9 :: [108, 111, 97, 100]] ++ [IT i.d]) := ⟨below_grown (Nat.le_refl _) (HS1.out.bel.alloc HS1.out.bel.size _) hg2 (fun g hg => own_base HS1.out.own hg), by rw [txC_app]; simpa [txC] using ho2⟩
  have HS2 : Hid (WSt W0 w2 v2 ([9 :: [108, 111, 97, 100]] ++ [IT i.d])) := st2
  clear ho2 hg2 st2
  clear f1 f2 f3 f4 f5 f7 f8 f9
  obtain ⟨f1, f2, f3, f4, f5, f7, f8, f9⟩ := HC.out _ HS2.out.bel
  go_wp2_with fail
  rw [rounds_succ]
  go_wp2_with fail
  refine (KN.out i.a w2 H64.out.a (HB0.out.trans (HS2.out.bel.mono HB0.out.size))).mono ?_
  rintro e w3 ⟨rfl, hg⟩
  have HS3 : Hid (WSt W0 w3 v2 (([9 :: [108, 111, 97, 100]] ++ [IT i.d]))) := HS2.out.g hg.below
  clear hg f1 f2 f3 f4 f5 f7 f8 f9
  obtain ⟨f1, f2, f3, f4, f5, f7, f8, f9⟩ := HC.out _ HS3.out.bel
  go_wp2_with (at_builtin; refine wpList_append_own _ rfl _ _ 119 rfl W0.heap.size 9 i9 (.string ⟨#[]⟩) 1 16 Tryz.underlying119 AN.out.1 AN.out.2.1 AN.out.2.2.1 AN.out.2.2.2 rfl (by decide) _ _ _ rfl (HS3.out.own.alloc _) ⟨w3.heap.size, 0, none⟩ 1 1 [.string ⟨(IT i.a).toArray⟩] rfl (by rfl) (by intro j q hj; cases j with | zero => cases hj; exact new_one _ _ _ | succ j => cases hj) (by intro q hq; simp at hq; subst hq; rfl) (by unfold maxLen; simp) (by simp) (by have := HS3.out.bel.size; simp; omega) ?_)
  rintro v4 w4 ho4 hg4 _
  have st4 : WSt W0 w4 v4 (([9 :: [108, 111, 97, 100]] ++ [IT i.d]) ++ [IT i.a]) := ⟨below_grown (Nat.le_refl _) (HS3.out.bel.alloc HS3.out.bel.size _) hg4 (fun g hg => own_base HS3.out.own hg), by rw [txC_app]; simpa [txC] using ho4⟩
  have HS4 : Hid (WSt W0 w4 v4 (([9 :: [108, 111, 97, 100]] ++ [IT i.d]) ++ [IT i.a])) := st4
  clear ho4 hg4 st4
  clear f1 f2 f3 f4 f5 f7 f8 f9
  obtain ⟨f1, f2, f3, f4, f5, f7, f8, f9⟩ := HC.out _ HS4.out.bel
  go_wp2_with fail
  rw [rounds_succ]
  go_wp2_with fail
  refine (KF.out w4 (HB0.out.trans (HS4.out.bel.mono HB0.out.size))).mono ?_
  rintro e w5 ⟨rfl, hg⟩
  have HS5 : Hid (WSt W0 w5 v4 ((([9 :: [108, 111, 97, 100]] ++ [IT i.d]) ++ [IT i.a]))) := HS4.out.g hg.below
  clear hg f1 f2 f3 f4 f5 f7 f8 f9
  obtain ⟨f1, f2, f3, f4, f5, f7, f8, f9⟩ := HC.out _ HS5.out.bel
  go_wp2_with (at_builtin; refine wpList_append_own _ rfl _ _ 119 rfl W0.heap.size 9 i9 (.string ⟨#[]⟩) 1 16 Tryz.underlying119 AN.out.1 AN.out.2.1 AN.out.2.2.1 AN.out.2.2.2 rfl (by decide) _ _ _ rfl (HS5.out.own.alloc _) ⟨w5.heap.size, 0, none⟩ 1 1 [.string ⟨(IT i.n).toArray⟩] rfl (by rfl) (by intro j q hj; cases j with | zero => cases hj; exact new_one _ _ _ | succ j => cases hj) (by intro q hq; simp at hq; subst hq; rfl) (by unfold maxLen; simp) (by simp) (by have := HS5.out.bel.size; simp; omega) ?_)
  rintro v6 w6 ho6 hg6 _
  have st6 : WSt W0 w6 v6 ((([9 :: [108, 111, 97, 100]] ++ [IT i.d]) ++ [IT i.a]) ++ [IT i.n]) := ⟨below_grown (Nat.le_refl _) (HS5.out.bel.alloc HS5.out.bel.size _) hg6 (fun g hg => own_base HS5.out.own hg), by rw [txC_app]; simpa [txC] using ho6⟩
  have HS6 : Hid (WSt W0 w6 v6 ((([9 :: [108, 111, 97, 100]] ++ [IT i.d]) ++ [IT i.a]) ++ [IT i.n])) := st6
  clear ho6 hg6 st6
  clear f1 f2 f3 f4 f5 f7 f8 f9
  obtain ⟨f1, f2, f3, f4, f5, f7, f8, f9⟩ := HC.out _ HS6.out.bel
  go_wp2_with fail
  rw [rounds_succ]
  go_wp2_with fail
  go_ret
  rw [HV.out]
  exact HS6.out.told HB0.out (by simp)
set_option maxRecDepth 20000 in
theorem wd_5 (i : Ins) (w : World) (h : i.op = 5) (h64 : Num64 i) (hp : Pow w) (hT : Tfa w) (hW : Twa w) : Calls Tryz.prog 78 #[inV i] w (ToldW w (wdL i)) := by
  have HV : Hid (wdL i = [9 :: [115, 116, 111, 114, 101]] ++ [Lib.itoa i.a] ++ [Lib.itoa i.n] ++ [Lib.itoa i.b]) := by show _ = _; unfold wdL; simp [h]
  have h3 : w.cell? ⟨0, 11, none⟩ = some (.string ⟨#[65, 78, 66]⟩) := hT.c 5 (by omega) (by omega)
  have h2 : w.cell? ⟨0, 10, none⟩ = some (.string ⟨#[115, 116, 111, 114, 101]⟩) := hW.c 5 (by omega) (by omega)
  have hpos := hT.pos
  have KN : Hid (∀ n W, I64 n → Below w.heap.size w W → Calls Tryz.prog 77 #[.int .i64 n] W fun e w' => e = .returned (.string ⟨(Lib.itoa n).toArray⟩) ∧ G W w') := fun n W hn hb => number77 n W hn (hp.below hb)
  have KF : Hid (∀ W, Below w.heap.size w W → Calls Tryz.prog 110 #[.int .i64 i.n, .int .i64 10] W fun e w' => e = .returned (.string ⟨(Lib.itoa i.n).toArray⟩) ∧ G W w') := fun W hb => (Tryz.strconv_FormatInt_10 i.n h64.n.1 h64.n.2 W (hp.below hb)).mono fun e w' ⟨p, k, os, q⟩ => ⟨p, k, os, q⟩
  have H64 : Hid (Num64 i) := h64
  obtain ⟨i9, AN⟩ := info_parts info9
  have AN : Hid (Tryz.prog.info? 9 = some i9 ∧ i9.zero = some (.string ⟨#[]⟩) ∧ i9.size = 1 ∧ i9.bytes = 16) := AN
  generalize wdL i = L at *
  unfold inV
  generalize i.gs.length = al
  rw [h]
  clear h h64 hp hT hW
  have HW0 : Hid (∃ W0, W0 = (w.alloc (.cells #[.int .i64 5, .int .i64 i.d, .int .i64 i.a, .int .i64 i.b, .int .i64 i.n, .string i.nm, .slice i.ar al i.ac, .int .i64 i.to, .int .i64 i.el] 54)).alloc (.cells #[.string ⟨#[115, 116, 111, 114, 101]⟩, .string ⟨#[65, 78, 66]⟩] 154) ∧ Below w.heap.size w W0 ∧ W0.heap.size = w.heap.size + 1 + 1 ∧ ∀ W, Below W0.heap.size W0 W → W.cell? ⟨w.heap.size, 1, none⟩ = some (.int .i64 i.d) ∧ W.cell? ⟨w.heap.size, 2, none⟩ = some (.int .i64 i.a) ∧ W.cell? ⟨w.heap.size, 3, none⟩ = some (.int .i64 i.b) ∧ W.cell? ⟨w.heap.size, 4, none⟩ = some (.int .i64 i.n) ∧ W.cell? ⟨w.heap.size, 5, none⟩ = some (.string i.nm) ∧ W.cell? ⟨w.heap.size, 7, none⟩ = some (.int .i64 i.to) ∧ W.cell? ⟨w.heap.size, 8, none⟩ = some (.int .i64 i.el) ∧ W.cell? ⟨w.heap.size + 1, 1, none⟩ = some (.string ⟨#[65, 78, 66]⟩)) := ⟨_, rfl, (((G.refl w).alloc _).alloc _).below, by simp, fun W hb => by
    have k := (bcell hb).1
    refine ⟨(k _ _ (by simp; omega)).trans (by go_simp), (k _ _ (by simp; omega)).trans (by go_simp), (k _ _ (by simp; omega)).trans (by go_simp), (k _ _ (by simp; omega)).trans (by go_simp), (k _ _ (by simp; omega)).trans (by go_simp), (k _ _ (by simp; omega)).trans (by go_simp), (k _ _ (by simp; omega)).trans (by go_simp), (k _ _ (by simp)).trans (by go_simp)⟩⟩
  obtain ⟨W0, hW0, hb0, hs0, HC⟩ := HW0.out
  clear HW0
  have HC : Hid (∀ W, Below W0.heap.size W0 W → W.cell? ⟨w.heap.size, 1, none⟩ = some (.int .i64 i.d) ∧ W.cell? ⟨w.heap.size, 2, none⟩ = some (.int .i64 i.a) ∧ W.cell? ⟨w.heap.size, 3, none⟩ = some (.int .i64 i.b) ∧ W.cell? ⟨w.heap.size, 4, none⟩ = some (.int .i64 i.n) ∧ W.cell? ⟨w.heap.size, 5, none⟩ = some (.string i.nm) ∧ W.cell? ⟨w.heap.size, 7, none⟩ = some (.int .i64 i.to) ∧ W.cell? ⟨w.heap.size, 8, none⟩ = some (.int .i64 i.el) ∧ W.cell? ⟨w.heap.size + 1, 1, none⟩ = some (.string ⟨#[65, 78, 66]⟩)) := HC
  have HB0 : Hid (Below w.heap.size w W0) := hb0
  have HE0 : Hid (W0 = (w.alloc (.cells #[.int .i64 5, .int .i64 i.d, .int .i64 i.a, .int .i64 i.b, .int .i64 i.n, .string i.nm, .slice i.ar al i.ac, .int .i64 i.to, .int .i64 i.el] 54)).alloc (.cells #[.string ⟨#[115, 116, 111, 114, 101]⟩, .string ⟨#[65, 78, 66]⟩] 154)) := hW0
  have HZ0 : Hid (W0.heap.size = w.heap.size + 1 + 1) := hs0
  clear hb0 hW0 hs0
  generalize Lib.itoa = IT at *
  go_enter Tryz.func78, Tryz.ntmps78
  go_wp2
  rw [← HE0.out]
  have HS0 : Hid (WSt W0 (W0.alloc (.cells #[.string ⟨(9 :: [115, 116, 111, 114, 101]).toArray⟩] 9)) (.slice (some ⟨W0.heap.size, 0, none⟩) 1 1) [9 :: [115, 116, 111, 114, 101]]) := wst_new W0 _
  rw [← HZ0.out]
  have HX : (⟨#[9]⟩ ++ ⟨#[115, 116, 111, 114, 101]⟩ : ByteArray) = ⟨(9 :: [115, 116, 111, 114, 101]).toArray⟩ := rfl
  rw [HX]
  clear HX
  generalize W0.alloc (.cells #[.string ⟨(9 :: [115, 116, 111, 114, 101]).toArray⟩] 9) = w0 at *
  generalize Value.slice (some ⟨W0.heap.size, 0, none⟩) 1 1 = v0 at *
  obtain ⟨f1, f2, f3, f4, f5, f7, f8, f9⟩ := HC.out _ HS0.out.bel
  have x0 : ((⟨#[65, 78, 66]⟩ : ByteArray).extract 0 1).toList = [65] := by rw [ByteArray.toList_eq]; rfl
  have x1 : ((⟨#[65, 78, 66]⟩ : ByteArray).extract 1 2).toList = [78] := by rw [ByteArray.toList_eq]; rfl
  have x2 : ((⟨#[65, 78, 66]⟩ : ByteArray).extract 2 3).toList = [66] := by rw [ByteArray.toList_eq]; rfl
  refine wp_loop_rounds 4 ?_
  rw [rounds_succ]
  go_wp2_with fail
  refine (KN.out i.a w0 H64.out.a (HB0.out.trans (HS0.out.bel.mono HB0.out.size))).mono ?_
  rintro e w1 ⟨rfl, hg⟩
  have HS1 : Hid (WSt W0 w1 v0 ([9 :: [115, 116, 111, 114, 101]])) := HS0.out.g hg.below
  clear hg f1 f2 f3 f4 f5 f7 f8 f9
  obtain ⟨f1, f2, f3, f4, f5, f7, f8, f9⟩ := HC.out _ HS1.out.bel
  go_wp2_with (at_builtin; refine wpList_append_own _ rfl _ _ 119 rfl W0.heap.size 9 i9 (.string ⟨#[]⟩) 1 16 Tryz.underlying119 AN.out.1 AN.out.2.1 AN.out.2.2.1 AN.out.2.2.2 rfl (by decide) _ _ _ rfl (HS1.out.own.alloc _) ⟨w1.heap.size, 0, none⟩ 1 1 [.string ⟨(IT i.a).toArray⟩] rfl (by rfl) (by intro j q hj; cases j with | zero => cases hj; exact new_one _ _ _ | succ j => cases hj) (by intro q hq; simp at hq; subst hq; rfl) (by unfold maxLen; simp) (by simp) (by have := HS1.out.bel.size; simp; omega) ?_)
  rintro v2 w2 ho2 hg2 _
  have st2 : WSt W0 w2 v2 ([9 :: [115, 116, 111, 114, 101]] ++ [IT i.a]) := ⟨below_grown (Nat.le_refl _) (HS1.out.bel.alloc HS1.out.bel.size _) hg2 (fun g hg => own_base HS1.out.own hg), by rw [txC_app]; simpa [txC] using ho2⟩
  have HS2 : Hid (WSt W0 w2 v2 ([9 :: [115, 116, 111, 114, 101]] ++ [IT i.a])) := st2
  clear ho2 hg2 st2
  clear f1 f2 f3 f4 f5 f7 f8 f9
  obtain ⟨f1, f2, f3, f4, f5, f7, f8, f9⟩ := HC.out _ HS2.out.bel
  go_wp2_with fail
  rw [rounds_succ]
  go_wp2_with fail
  refine (KF.out w2 (HB0.out.trans (HS2.out.bel.mono HB0.out.size))).mono ?_
  rintro e w3 ⟨rfl, hg⟩
  have HS3 : Hid (WSt W0 w3 v2 (([9 :: [115, 116, 111, 114, 101]] ++ [IT i.a]))) := HS2.out.g hg.below
  clear hg f1 f2 f3 f4 f5 f7 f8 f9
  obtain ⟨f1, f2, f3, f4, f5, f7, f8, f9⟩ := HC.out _ HS3.out.bel
  go_wp2_with (at_builtin; refine wpList_append_own _ rfl _ _ 119 rfl W0.heap.size 9 i9 (.string ⟨#[]⟩) 1 16 Tryz.underlying119 AN.out.1 AN.out.2.1 AN.out.2.2.1 AN.out.2.2.2 rfl (by decide) _ _ _ rfl (HS3.out.own.alloc _) ⟨w3.heap.size, 0, none⟩ 1 1 [.string ⟨(IT i.n).toArray⟩] rfl (by rfl) (by intro j q hj; cases j with | zero => cases hj; exact new_one _ _ _ | succ j => cases hj) (by intro q hq; simp at hq; subst hq; rfl) (by unfold maxLen; simp) (by simp) (by have := HS3.out.bel.size; simp; omega) ?_)
  rintro v4 w4 ho4 hg4 _
  have st4 : WSt W0 w4 v4 (([9 :: [115, 116, 111, 114, 101]] ++ [IT i.a]) ++ [IT i.n]) := ⟨below_grown (Nat.le_refl _) (HS3.out.bel.alloc HS3.out.bel.size _) hg4 (fun g hg => own_base HS3.out.own hg), by rw [txC_app]; simpa [txC] using ho4⟩
  have HS4 : Hid (WSt W0 w4 v4 (([9 :: [115, 116, 111, 114, 101]] ++ [IT i.a]) ++ [IT i.n])) := st4
  clear ho4 hg4 st4
  clear f1 f2 f3 f4 f5 f7 f8 f9
  obtain ⟨f1, f2, f3, f4, f5, f7, f8, f9⟩ := HC.out _ HS4.out.bel
  go_wp2_with fail
  rw [rounds_succ]
  go_wp2_with fail
  refine (KN.out i.b w4 H64.out.b (HB0.out.trans (HS4.out.bel.mono HB0.out.size))).mono ?_
  rintro e w5 ⟨rfl, hg⟩
  have HS5 : Hid (WSt W0 w5 v4 ((([9 :: [115, 116, 111, 114, 101]] ++ [IT i.a]) ++ [IT i.n]))) := HS4.out.g hg.below
  clear hg f1 f2 f3 f4 f5 f7 f8 f9
  obtain ⟨f1, f2, f3, f4, f5, f7, f8, f9⟩ := HC.out _ HS5.out.bel
  go_wp2_with (at_builtin; refine wpList_append_own _ rfl _ _ 119 rfl W0.heap.size 9 i9 (.string ⟨#[]⟩) 1 16 Tryz.underlying119 AN.out.1 AN.out.2.1 AN.out.2.2.1 AN.out.2.2.2 rfl (by decide) _ _ _ rfl (HS5.out.own.alloc _) ⟨w5.heap.size, 0, none⟩ 1 1 [.string ⟨(IT i.b).toArray⟩] rfl (by rfl) (by intro j q hj; cases j with | zero => cases hj; exact new_one _ _ _ | succ j => cases hj) (by intro q hq; simp at hq; subst hq; rfl) (by unfold maxLen; simp) (by simp) (by have := HS5.out.bel.size; simp; omega) ?_)
  rintro v6 w6 ho6 hg6 _
  have st6 : WSt W0 w6 v6 ((([9 :: [115, 116, 111, 114, 101]] ++ [IT i.a]) ++ [IT i.n]) ++ [IT i.b]) := ⟨below_grown (Nat.le_refl _) (HS5.out.bel.alloc HS5.out.bel.size _) hg6 (fun g hg => own_base HS5.out.own hg), by rw [txC_app]; simpa [txC] using ho6⟩
  have HS6 : Hid (WSt W0 w6 v6 ((([9 :: [115, 116, 111, 114, 101]] ++ [IT i.a]) ++ [IT i.n]) ++ [IT i.b])) := st6
  clear ho6 hg6 st6
  clear f1 f2 f3 f4 f5 f7 f8 f9
  obtain ⟨f1, f2, f3, f4, f5, f7, f8, f9⟩ := HC.out _ HS6.out.bel
  go_wp2_with fail
  rw [rounds_succ]
  go_wp2_with fail
  go_ret
  rw [HV.out]
  exact HS6.out.told HB0.out (by simp)
set_option maxRecDepth 20000 in
theorem wd_6 (i : Ins) (w : World) (h : i.op = 6) (h64 : Num64 i) (hp : Pow w) (hT : Tfa w) (hW : Twa w) : Calls Tryz.prog 78 #[inV i] w (ToldW w (wdL i)) := by
  have HV : Hid (wdL i = [9 :: [102, 114, 97, 109, 101]] ++ [Lib.itoa i.d] ++ [Lib.itoa i.n]) := by show _ = _; unfold wdL; simp [h]
  have h3 : w.cell? ⟨0, 13, none⟩ = some (.string ⟨#[68, 78]⟩) := hT.c 6 (by omega) (by omega)
  have h2 : w.cell? ⟨0, 12, none⟩ = some (.string ⟨#[102, 114, 97, 109, 101]⟩) := hW.c 6 (by omega) (by omega)
  have hpos := hT.pos
  have KN : Hid (∀ n W, I64 n → Below w.heap.size w W → Calls Tryz.prog 77 #[.int .i64 n] W fun e w' => e = .returned (.string ⟨(Lib.itoa n).toArray⟩) ∧ G W w') := fun n W hn hb => number77 n W hn (hp.below hb)
  have KF : Hid (∀ W, Below w.heap.size w W → Calls Tryz.prog 110 #[.int .i64 i.n, .int .i64 10] W fun e w' => e = .returned (.string ⟨(Lib.itoa i.n).toArray⟩) ∧ G W w') := fun W hb => (Tryz.strconv_FormatInt_10 i.n h64.n.1 h64.n.2 W (hp.below hb)).mono fun e w' ⟨p, k, os, q⟩ => ⟨p, k, os, q⟩
  have H64 : Hid (Num64 i) := h64
  obtain ⟨i9, AN⟩ := info_parts info9
  have AN : Hid (Tryz.prog.info? 9 = some i9 ∧ i9.zero = some (.string ⟨#[]⟩) ∧ i9.size = 1 ∧ i9.bytes = 16) := AN
  generalize wdL i = L at *
  unfold inV
  generalize i.gs.length = al
  rw [h]
  clear h h64 hp hT hW
  have HW0 : Hid (∃ W0, W0 = (w.alloc (.cells #[.int .i64 6, .int .i64 i.d, .int .i64 i.a, .int .i64 i.b, .int .i64 i.n, .string i.nm, .slice i.ar al i.ac, .int .i64 i.to, .int .i64 i.el] 54)).alloc (.cells #[.string ⟨#[102, 114, 97, 109, 101]⟩, .string ⟨#[68, 78]⟩] 154) ∧ Below w.heap.size w W0 ∧ W0.heap.size = w.heap.size + 1 + 1 ∧ ∀ W, Below W0.heap.size W0 W → W.cell? ⟨w.heap.size, 1, none⟩ = some (.int .i64 i.d) ∧ W.cell? ⟨w.heap.size, 2, none⟩ = some (.int .i64 i.a) ∧ W.cell? ⟨w.heap.size, 3, none⟩ = some (.int .i64 i.b) ∧ W.cell? ⟨w.heap.size, 4, none⟩ = some (.int .i64 i.n) ∧ W.cell? ⟨w.heap.size, 5, none⟩ = some (.string i.nm) ∧ W.cell? ⟨w.heap.size, 7, none⟩ = some (.int .i64 i.to) ∧ W.cell? ⟨w.heap.size, 8, none⟩ = some (.int .i64 i.el) ∧ W.cell? ⟨w.heap.size + 1, 1, none⟩ = some (.string ⟨#[68, 78]⟩)) := ⟨_, rfl, (((G.refl w).alloc _).alloc _).below, by simp, fun W hb => by
    have k := (bcell hb).1
    refine ⟨(k _ _ (by simp; omega)).trans (by go_simp), (k _ _ (by simp; omega)).trans (by go_simp), (k _ _ (by simp; omega)).trans (by go_simp), (k _ _ (by simp; omega)).trans (by go_simp), (k _ _ (by simp; omega)).trans (by go_simp), (k _ _ (by simp; omega)).trans (by go_simp), (k _ _ (by simp; omega)).trans (by go_simp), (k _ _ (by simp)).trans (by go_simp)⟩⟩
  obtain ⟨W0, hW0, hb0, hs0, HC⟩ := HW0.out
  clear HW0
  have HC : Hid (∀ W, Below W0.heap.size W0 W → W.cell? ⟨w.heap.size, 1, none⟩ = some (.int .i64 i.d) ∧ W.cell? ⟨w.heap.size, 2, none⟩ = some (.int .i64 i.a) ∧ W.cell? ⟨w.heap.size, 3, none⟩ = some (.int .i64 i.b) ∧ W.cell? ⟨w.heap.size, 4, none⟩ = some (.int .i64 i.n) ∧ W.cell? ⟨w.heap.size, 5, none⟩ = some (.string i.nm) ∧ W.cell? ⟨w.heap.size, 7, none⟩ = some (.int .i64 i.to) ∧ W.cell? ⟨w.heap.size, 8, none⟩ = some (.int .i64 i.el) ∧ W.cell? ⟨w.heap.size + 1, 1, none⟩ = some (.string ⟨#[68, 78]⟩)) := HC
  have HB0 : Hid (Below w.heap.size w W0) := hb0
  have HE0 : Hid (W0 = (w.alloc (.cells #[.int .i64 6, .int .i64 i.d, .int .i64 i.a, .int .i64 i.b, .int .i64 i.n, .string i.nm, .slice i.ar al i.ac, .int .i64 i.to, .int .i64 i.el] 54)).alloc (.cells #[.string ⟨#[102, 114, 97, 109, 101]⟩, .string ⟨#[68, 78]⟩] 154)) := hW0
  have HZ0 : Hid (W0.heap.size = w.heap.size + 1 + 1) := hs0
  clear hb0 hW0 hs0
  generalize Lib.itoa = IT at *
  go_enter Tryz.func78, Tryz.ntmps78
  go_wp2
  rw [← HE0.out]
  have HS0 : Hid (WSt W0 (W0.alloc (.cells #[.string ⟨(9 :: [102, 114, 97, 109, 101]).toArray⟩] 9)) (.slice (some ⟨W0.heap.size, 0, none⟩) 1 1) [9 :: [102, 114, 97, 109, 101]]) := wst_new W0 _
  rw [← HZ0.out]
  have HX : (⟨#[9]⟩ ++ ⟨#[102, 114, 97, 109, 101]⟩ : ByteArray) = ⟨(9 :: [102, 114, 97, 109, 101]).toArray⟩ := rfl
  rw [HX]
  clear HX
  generalize W0.alloc (.cells #[.string ⟨(9 :: [102, 114, 97, 109, 101]).toArray⟩] 9) = w0 at *
  generalize Value.slice (some ⟨W0.heap.size, 0, none⟩) 1 1 = v0 at *
  obtain ⟨f1, f2, f3, f4, f5, f7, f8, f9⟩ := HC.out _ HS0.out.bel
  have x0 : ((⟨#[68, 78]⟩ : ByteArray).extract 0 1).toList = [68] := by rw [ByteArray.toList_eq]; rfl
  have x1 : ((⟨#[68, 78]⟩ : ByteArray).extract 1 2).toList = [78] := by rw [ByteArray.toList_eq]; rfl
  refine wp_loop_rounds 3 ?_
  rw [rounds_succ]
  go_wp2_with fail
  refine (KN.out i.d w0 H64.out.d (HB0.out.trans (HS0.out.bel.mono HB0.out.size))).mono ?_
  rintro e w1 ⟨rfl, hg⟩
  have HS1 : Hid (WSt W0 w1 v0 ([9 :: [102, 114, 97, 109, 101]])) := HS0.out.g hg.below
  clear hg f1 f2 f3 f4 f5 f7 f8 f9
  obtain ⟨f1, f2, f3, f4, f5, f7, f8, f9⟩ := HC.out _ HS1.out.bel
  go_wp2_with (at_builtin; refine wpList_append_own _ rfl _ _ 119 rfl W0.heap.size 9 i9 (.string ⟨#[]⟩) 1 16 Tryz.underlying119 AN.out.1 AN.out.2.1 AN.out.2.2.1 AN.out.2.2.2 rfl (by decide) _ _ _ rfl (HS1.out.own.alloc _) ⟨w1.heap.size, 0, none⟩ 1 1 [.string ⟨(IT i.d).toArray⟩] rfl (by rfl) (by intro j q hj; cases j with | zero => cases hj; exact new_one _ _ _ | succ j => cases hj) (by intro q hq; simp at hq; subst hq; rfl) (by unfold maxLen; simp) (by simp) (by have := HS1.out.bel.size; simp; omega) ?_)
  rintro v2 w2 ho2 hg2 _
  have st2 : WSt W0 w2 v2 ([9 :: [102, 114, 97, 109, 101]] ++ [IT i.d]) := ⟨below_grown (Nat.le_refl _) (HS1.out.bel.alloc HS1.out.bel.size _) hg2 (fun g hg => own_base HS1.out.own hg), by rw [txC_app]; simpa [txC] using ho2⟩
  have HS2 : Hid (WSt W0 w2 v2 ([9 :: [102, 114, 97, 109, 101]] ++ [IT i.d])) := st2
  clear ho2 hg2 st2
  clear f1 f2 f3 f4 f5 f7 f8 f9
  obtain ⟨f1, f2, f3, f4, f5, f7, f8, f9⟩ := HC.out _ HS2.out.bel
  go_wp2_with fail
  rw [rounds_succ]
  go_wp2_with fail
  refine (KF.out w2 (HB0.out.trans (HS2.out.bel.mono HB0.out.size))).mono ?_
  rintro e w3 ⟨rfl, hg⟩
  have HS3 : Hid (WSt W0 w3 v2 (([9 :: [102, 114, 97, 109, 101]] ++ [IT i.d]))) := HS2.out.g hg.below
  clear hg f1 f2 f3 f4 f5 f7 f8 f9
  obtain ⟨f1, f2, f3, f4, f5, f7, f8, f9⟩ := HC.out _ HS3.out.bel
  go_wp2_with (at_builtin; refine wpList_append_own _ rfl _ _ 119 rfl W0.heap.size 9 i9 (.string ⟨#[]⟩) 1 16 Tryz.underlying119 AN.out.1 AN.out.2.1 AN.out.2.2.1 AN.out.2.2.2 rfl (by decide) _ _ _ rfl (HS3.out.own.alloc _) ⟨w3.heap.size, 0, none⟩ 1 1 [.string ⟨(IT i.n).toArray⟩] rfl (by rfl) (by intro j q hj; cases j with | zero => cases hj; exact new_one _ _ _ | succ j => cases hj) (by intro q hq; simp at hq; subst hq; rfl) (by unfold maxLen; simp) (by simp) (by have := HS3.out.bel.size; simp; omega) ?_)
  rintro v4 w4 ho4 hg4 _
  have st4 : WSt W0 w4 v4 (([9 :: [102, 114, 97, 109, 101]] ++ [IT i.d]) ++ [IT i.n]) := ⟨below_grown (Nat.le_refl _) (HS3.out.bel.alloc HS3.out.bel.size _) hg4 (fun g hg => own_base HS3.out.own hg), by rw [txC_app]; simpa [txC] using ho4⟩
  have HS4 : Hid (WSt W0 w4 v4 (([9 :: [102, 114, 97, 109, 101]] ++ [IT i.d]) ++ [IT i.n])) := st4
  clear ho4 hg4 st4
  clear f1 f2 f3 f4 f5 f7 f8 f9
  obtain ⟨f1, f2, f3, f4, f5, f7, f8, f9⟩ := HC.out _ HS4.out.bel
  go_wp2_with fail
  rw [rounds_succ]
  go_wp2_with fail
  go_ret
  rw [HV.out]
  exact HS4.out.told HB0.out (by simp)
set_option maxRecDepth 20000 in
theorem wd_8 (i : Ins) (w : World) (h : i.op = 8) (h64 : Num64 i) (hp : Pow w) (hT : Tfa w) (hW : Twa w) : Calls Tryz.prog 78 #[inV i] w (ToldW w (wdL i)) := by
  have HV : Hid (wdL i = [9 :: [106, 117, 109, 112]] ++ [Lib.itoa i.to]) := by show _ = _; unfold wdL; simp [h]
  have h3 : w.cell? ⟨0, 17, none⟩ = some (.string ⟨#[84]⟩) := hT.c 8 (by omega) (by omega)
  have h2 : w.cell? ⟨0, 16, none⟩ = some (.string ⟨#[106, 117, 109, 112]⟩) := hW.c 8 (by omega) (by omega)
  have hpos := hT.pos
  have KN : Hid (∀ n W, I64 n → Below w.heap.size w W → Calls Tryz.prog 77 #[.int .i64 n] W fun e w' => e = .returned (.string ⟨(Lib.itoa n).toArray⟩) ∧ G W w') := fun n W hn hb => number77 n W hn (hp.below hb)
  have KF : Hid (∀ W, Below w.heap.size w W → Calls Tryz.prog 110 #[.int .i64 i.n, .int .i64 10] W fun e w' => e = .returned (.string ⟨(Lib.itoa i.n).toArray⟩) ∧ G W w') := fun W hb => (Tryz.strconv_FormatInt_10 i.n h64.n.1 h64.n.2 W (hp.below hb)).mono fun e w' ⟨p, k, os, q⟩ => ⟨p, k, os, q⟩
  have H64 : Hid (Num64 i) := h64
  obtain ⟨i9, AN⟩ := info_parts info9
  have AN : Hid (Tryz.prog.info? 9 = some i9 ∧ i9.zero = some (.string ⟨#[]⟩) ∧ i9.size = 1 ∧ i9.bytes = 16) := AN
  generalize wdL i = L at *
  unfold inV
  generalize i.gs.length = al
  rw [h]
  clear h h64 hp hT hW
  have HW0 : Hid (∃ W0, W0 = (w.alloc (.cells #[.int .i64 8, .int .i64 i.d, .int .i64 i.a, .int .i64 i.b, .int .i64 i.n, .string i.nm, .slice i.ar al i.ac, .int .i64 i.to, .int .i64 i.el] 54)).alloc (.cells #[.string ⟨#[106, 117, 109, 112]⟩, .string ⟨#[84]⟩] 154) ∧ Below w.heap.size w W0 ∧ W0.heap.size = w.heap.size + 1 + 1 ∧ ∀ W, Below W0.heap.size W0 W → W.cell? ⟨w.heap.size, 1, none⟩ = some (.int .i64 i.d) ∧ W.cell? ⟨w.heap.size, 2, none⟩ = some (.int .i64 i.a) ∧ W.cell? ⟨w.heap.size, 3, none⟩ = some (.int .i64 i.b) ∧ W.cell? ⟨w.heap.size, 4, none⟩ = some (.int .i64 i.n) ∧ W.cell? ⟨w.heap.size, 5, none⟩ = some (.string i.nm) ∧ W.cell? ⟨w.heap.size, 7, none⟩ = some (.int .i64 i.to) ∧ W.cell? ⟨w.heap.size, 8, none⟩ = some (.int .i64 i.el) ∧ W.cell? ⟨w.heap.size + 1, 1, none⟩ = some (.string ⟨#[84]⟩)) := ⟨_, rfl, (((G.refl w).alloc _).alloc _).below, by simp, fun W hb => by
    have k := (bcell hb).1
    refine ⟨(k _ _ (by simp; omega)).trans (by go_simp), (k _ _ (by simp; omega)).trans (by go_simp), (k _ _ (by simp; omega)).trans (by go_simp), (k _ _ (by simp; omega)).trans (by go_simp), (k _ _ (by simp; omega)).trans (by go_simp), (k _ _ (by simp; omega)).trans (by go_simp), (k _ _ (by simp; omega)).trans (by go_simp), (k _ _ (by simp)).trans (by go_simp)⟩⟩
  obtain ⟨W0, hW0, hb0, hs0, HC⟩ := HW0.out
  clear HW0
  have HC : Hid (∀ W, Below W0.heap.size W0 W → W.cell? ⟨w.heap.size, 1, none⟩ = some (.int .i64 i.d) ∧ W.cell? ⟨w.heap.size, 2, none⟩ = some (.int .i64 i.a) ∧ W.cell? ⟨w.heap.size, 3, none⟩ = some (.int .i64 i.b) ∧ W.cell? ⟨w.heap.size, 4, none⟩ = some (.int .i64 i.n) ∧ W.cell? ⟨w.heap.size, 5, none⟩ = some (.string i.nm) ∧ W.cell? ⟨w.heap.size, 7, none⟩ = some (.int .i64 i.to) ∧ W.cell? ⟨w.heap.size, 8, none⟩ = some (.int .i64 i.el) ∧ W.cell? ⟨w.heap.size + 1, 1, none⟩ = some (.string ⟨#[84]⟩)) := HC
  have HB0 : Hid (Below w.heap.size w W0) := hb0
  have HE0 : Hid (W0 = (w.alloc (.cells #[.int .i64 8, .int .i64 i.d, .int .i64 i.a, .int .i64 i.b, .int .i64 i.n, .string i.nm, .slice i.ar al i.ac, .int .i64 i.to, .int .i64 i.el] 54)).alloc (.cells #[.string ⟨#[106, 117, 109, 112]⟩, .string ⟨#[84]⟩] 154)) := hW0
  have HZ0 : Hid (W0.heap.size = w.heap.size + 1 + 1) := hs0
  clear hb0 hW0 hs0
  generalize Lib.itoa = IT at *
  go_enter Tryz.func78, Tryz.ntmps78
  go_wp2
  rw [← HE0.out]
  have HS0 : Hid (WSt W0 (W0.alloc (.cells #[.string ⟨(9 :: [106, 117, 109, 112]).toArray⟩] 9)) (.slice (some ⟨W0.heap.size, 0, none⟩) 1 1) [9 :: [106, 117, 109, 112]]) := wst_new W0 _
  rw [← HZ0.out]
  have HX : (⟨#[9]⟩ ++ ⟨#[106, 117, 109, 112]⟩ : ByteArray) = ⟨(9 :: [106, 117, 109, 112]).toArray⟩ := rfl
  rw [HX]
  clear HX
  generalize W0.alloc (.cells #[.string ⟨(9 :: [106, 117, 109, 112]).toArray⟩] 9) = w0 at *
  generalize Value.slice (some ⟨W0.heap.size, 0, none⟩) 1 1 = v0 at *
  obtain ⟨f1, f2, f3, f4, f5, f7, f8, f9⟩ := HC.out _ HS0.out.bel
  have x0 : ((⟨#[84]⟩ : ByteArray).extract 0 1).toList = [84] := by rw [ByteArray.toList_eq]; rfl
  refine wp_loop_rounds 2 ?_
  rw [rounds_succ]
  go_wp2_with fail
  refine (KN.out i.to w0 H64.out.t (HB0.out.trans (HS0.out.bel.mono HB0.out.size))).mono ?_
  rintro e w1 ⟨rfl, hg⟩
  have HS1 : Hid (WSt W0 w1 v0 ([9 :: [106, 117, 109, 112]])) := HS0.out.g hg.below
  clear hg f1 f2 f3 f4 f5 f7 f8 f9
  obtain ⟨f1, f2, f3, f4, f5, f7, f8, f9⟩ := HC.out _ HS1.out.bel
  go_wp2_with (at_builtin; refine wpList_append_own _ rfl _ _ 119 rfl W0.heap.size 9 i9 (.string ⟨#[]⟩) 1 16 Tryz.underlying119 AN.out.1 AN.out.2.1 AN.out.2.2.1 AN.out.2.2.2 rfl (by decide) _ _ _ rfl (HS1.out.own.alloc _) ⟨w1.heap.size, 0, none⟩ 1 1 [.string ⟨(IT i.to).toArray⟩] rfl (by rfl) (by intro j q hj; cases j with | zero => cases hj; exact new_one _ _ _ | succ j => cases hj) (by intro q hq; simp at hq; subst hq; rfl) (by unfold maxLen; simp) (by simp) (by have := HS1.out.bel.size; simp; omega) ?_)
  rintro v2 w2 ho2 hg2 _
  have st2 : WSt W0 w2 v2 ([9 :: [106, 117, 109, 112]] ++ [IT i.to]) := ⟨below_grown (Nat.le_refl _) (HS1.out.bel.alloc HS1.out.bel.size _) hg2 (fun g hg => own_base HS1.out.own hg), by rw [txC_app]; simpa [txC] using ho2⟩
  have HS2 : Hid (WSt W0 w2 v2 ([9 :: [106, 117, 109, 112]] ++ [IT i.to])) := st2
  clear ho2 hg2 st2
  clear f1 f2 f3 f4 f5 f7 f8 f9
  obtain ⟨f1, f2, f3, f4, f5, f7, f8, f9⟩ := HC.out _ HS2.out.bel
  go_wp2_with fail
  rw [rounds_succ]
  go_wp2_with fail
  go_ret
  rw [HV.out]
  exact HS2.out.told HB0.out (by simp)
set_option maxRecDepth 20000 in
theorem wd_9 (i : Ins) (w : World) (h : i.op = 9) (h64 : Num64 i) (hp : Pow w) (hT : Tfa w) (hW : Twa w) : Calls Tryz.prog 78 #[inV i] w (ToldW w (wdL i)) := by
  have HV : Hid (wdL i = [9 :: [105, 102]] ++ [Lib.itoa i.a] ++ [Lib.itoa i.to] ++ [Lib.itoa i.el]) := by show _ = _; unfold wdL; simp [h]
  have h3 : w.cell? ⟨0, 19, none⟩ = some (.string ⟨#[65, 84, 69]⟩) := hT.c 9 (by omega) (by omega)
  have h2 : w.cell? ⟨0, 18, none⟩ = some (.string ⟨#[105, 102]⟩) := hW.c 9 (by omega) (by omega)
  have hpos := hT.pos
  have KN : Hid (∀ n W, I64 n → Below w.heap.size w W → Calls Tryz.prog 77 #[.int .i64 n] W fun e w' => e = .returned (.string ⟨(Lib.itoa n).toArray⟩) ∧ G W w') := fun n W hn hb => number77 n W hn (hp.below hb)
  have KF : Hid (∀ W, Below w.heap.size w W → Calls Tryz.prog 110 #[.int .i64 i.n, .int .i64 10] W fun e w' => e = .returned (.string ⟨(Lib.itoa i.n).toArray⟩) ∧ G W w') := fun W hb => (Tryz.strconv_FormatInt_10 i.n h64.n.1 h64.n.2 W (hp.below hb)).mono fun e w' ⟨p, k, os, q⟩ => ⟨p, k, os, q⟩
  have H64 : Hid (Num64 i) := h64
  obtain ⟨i9, AN⟩ := info_parts info9
  have AN : Hid (Tryz.prog.info? 9 = some i9 ∧ i9.zero = some (.string ⟨#[]⟩) ∧ i9.size = 1 ∧ i9.bytes = 16) := AN
  generalize wdL i = L at *
  unfold inV
  generalize i.gs.length = al
  rw [h]
  clear h h64 hp hT hW
  have HW0 : Hid (∃ W0, W0 = (w.alloc (.cells #[.int .i64 9, .int .i64 i.d, .int .i64 i.a, .int .i64 i.b, .int .i64 i.n, .string i.nm, .slice i.ar al i.ac, .int .i64 i.to, .int .i64 i.el] 54)).alloc (.cells #[.string ⟨#[105, 102]⟩, .string ⟨#[65, 84, 69]⟩] 154) ∧ Below w.heap.size w W0 ∧ W0.heap.size = w.heap.size + 1 + 1 ∧ ∀ W, Below W0.heap.size W0 W → W.cell? ⟨w.heap.size, 1, none⟩ = some (.int .i64 i.d) ∧ W.cell? ⟨w.heap.size, 2, none⟩ = some (.int .i64 i.a) ∧ W.cell? ⟨w.heap.size, 3, none⟩ = some (.int .i64 i.b) ∧ W.cell? ⟨w.heap.size, 4, none⟩ = some (.int .i64 i.n) ∧ W.cell? ⟨w.heap.size, 5, none⟩ = some (.string i.nm) ∧ W.cell? ⟨w.heap.size, 7, none⟩ = some (.int .i64 i.to) ∧ W.cell? ⟨w.heap.size, 8, none⟩ = some (.int .i64 i.el) ∧ W.cell? ⟨w.heap.size + 1, 1, none⟩ = some (.string ⟨#[65, 84, 69]⟩)) := ⟨_, rfl, (((G.refl w).alloc _).alloc _).below, by simp, fun W hb => by
    have k := (bcell hb).1
    refine ⟨(k _ _ (by simp; omega)).trans (by go_simp), (k _ _ (by simp; omega)).trans (by go_simp), (k _ _ (by simp; omega)).trans (by go_simp), (k _ _ (by simp; omega)).trans (by go_simp), (k _ _ (by simp; omega)).trans (by go_simp), (k _ _ (by simp; omega)).trans (by go_simp), (k _ _ (by simp; omega)).trans (by go_simp), (k _ _ (by simp)).trans (by go_simp)⟩⟩
  obtain ⟨W0, hW0, hb0, hs0, HC⟩ := HW0.out
  clear HW0
  have HC : Hid (∀ W, Below W0.heap.size W0 W → W.cell? ⟨w.heap.size, 1, none⟩ = some (.int .i64 i.d) ∧ W.cell? ⟨w.heap.size, 2, none⟩ = some (.int .i64 i.a) ∧ W.cell? ⟨w.heap.size, 3, none⟩ = some (.int .i64 i.b) ∧ W.cell? ⟨w.heap.size, 4, none⟩ = some (.int .i64 i.n) ∧ W.cell? ⟨w.heap.size, 5, none⟩ = some (.string i.nm) ∧ W.cell? ⟨w.heap.size, 7, none⟩ = some (.int .i64 i.to) ∧ W.cell? ⟨w.heap.size, 8, none⟩ = some (.int .i64 i.el) ∧ W.cell? ⟨w.heap.size + 1, 1, none⟩ = some (.string ⟨#[65, 84, 69]⟩)) := HC
  have HB0 : Hid (Below w.heap.size w W0) := hb0
  have HE0 : Hid (W0 = (w.alloc (.cells #[.int .i64 9, .int .i64 i.d, .int .i64 i.a, .int .i64 i.b, .int .i64 i.n, .string i.nm, .slice i.ar al i.ac, .int .i64 i.to, .int .i64 i.el] 54)).alloc (.cells #[.string ⟨#[105, 102]⟩, .string ⟨#[65, 84, 69]⟩] 154)) := hW0
  have HZ0 : Hid (W0.heap.size = w.heap.size + 1 + 1) := hs0
  clear hb0 hW0 hs0
  generalize Lib.itoa = IT at *
  go_enter Tryz.func78, Tryz.ntmps78
  go_wp2
  rw [← HE0.out]
  have HS0 : Hid (WSt W0 (W0.alloc (.cells #[.string ⟨(9 :: [105, 102]).toArray⟩] 9)) (.slice (some ⟨W0.heap.size, 0, none⟩) 1 1) [9 :: [105, 102]]) := wst_new W0 _
  rw [← HZ0.out]
  have HX : (⟨#[9]⟩ ++ ⟨#[105, 102]⟩ : ByteArray) = ⟨(9 :: [105, 102]).toArray⟩ := rfl
  rw [HX]
  clear HX
  generalize W0.alloc (.cells #[.string ⟨(9 :: [105, 102]).toArray⟩] 9) = w0 at *
  generalize Value.slice (some ⟨W0.heap.size, 0, none⟩) 1 1 = v0 at *
  obtain ⟨f1, f2, f3, f4, f5, f7, f8, f9⟩ := HC.out _ HS0.out.bel
  have x0 : ((⟨#[65, 84, 69]⟩ : ByteArray).extract 0 1).toList = [65] := by rw [ByteArray.toList_eq]; rfl
  have x1 : ((⟨#[65, 84, 69]⟩ : ByteArray).extract 1 2).toList = [84] := by rw [ByteArray.toList_eq]; rfl
  have x2 : ((⟨#[65, 84, 69]⟩ : ByteArray).extract 2 3).toList = [69] := by rw [ByteArray.toList_eq]; rfl
  refine wp_loop_rounds 4 ?_
  rw [rounds_succ]
  go_wp2_with fail
  refine (KN.out i.a w0 H64.out.a (HB0.out.trans (HS0.out.bel.mono HB0.out.size))).mono ?_
  rintro e w1 ⟨rfl, hg⟩
  have HS1 : Hid (WSt W0 w1 v0 ([9 :: [105, 102]])) := HS0.out.g hg.below
  clear hg f1 f2 f3 f4 f5 f7 f8 f9
  obtain ⟨f1, f2, f3, f4, f5, f7, f8, f9⟩ := HC.out _ HS1.out.bel
  go_wp2_with (at_builtin; refine wpList_append_own _ rfl _ _ 119 rfl W0.heap.size 9 i9 (.string ⟨#[]⟩) 1 16 Tryz.underlying119 AN.out.1 AN.out.2.1 AN.out.2.2.1 AN.out.2.2.2 rfl (by decide) _ _ _ rfl (HS1.out.own.alloc _) ⟨w1.heap.size, 0, none⟩ 1 1 [.string ⟨(IT i.a).toArray⟩] rfl (by rfl) (by intro j q hj; cases j with | zero => cases hj; exact new_one _ _ _ | succ j => cases hj) (by intro q hq; simp at hq; subst hq; rfl) (by unfold maxLen; simp) (by simp) (by have := HS1.out.bel.size; simp; omega) ?_)
  rintro v2 w2 ho2 hg2 _
  have st2 : WSt W0 w2 v2 ([9 :: [105, 102]] ++ [IT i.a]) := ⟨below_grown (Nat.le_refl _) (HS1.out.bel.alloc HS1.out.bel.size _) hg2 (fun g hg => own_base HS1.out.own hg), by rw [txC_app]; simpa [txC] using ho2⟩
  have HS2 : Hid (WSt W0 w2 v2 ([9 :: [105, 102]] ++ [IT i.a])) := st2
  clear ho2 hg2 st2
  clear f1 f2 f3 f4 f5 f7 f8 f9
  obtain ⟨f1, f2, f3, f4, f5, f7, f8, f9⟩ := HC.out _ HS2.out.bel
  go_wp2_with fail
  rw [rounds_succ]
  go_wp2_with fail
  refine (KN.out i.to w2 H64.out.t (HB0.out.trans (HS2.out.bel.mono HB0.out.size))).mono ?_
  rintro e w3 ⟨rfl, hg⟩
  have HS3 : Hid (WSt W0 w3 v2 (([9 :: [105, 102]] ++ [IT i.a]))) := HS2.out.g hg.below
  clear hg f1 f2 f3 f4 f5 f7 f8 f9
  obtain ⟨f1, f2, f3, f4, f5, f7, f8, f9⟩ := HC.out _ HS3.out.bel
  go_wp2_with (at_builtin; refine wpList_append_own _ rfl _ _ 119 rfl W0.heap.size 9 i9 (.string ⟨#[]⟩) 1 16 Tryz.underlying119 AN.out.1 AN.out.2.1 AN.out.2.2.1 AN.out.2.2.2 rfl (by decide) _ _ _ rfl (HS3.out.own.alloc _) ⟨w3.heap.size, 0, none⟩ 1 1 [.string ⟨(IT i.to).toArray⟩] rfl (by rfl) (by intro j q hj; cases j with | zero => cases hj; exact new_one _ _ _ | succ j => cases hj) (by intro q hq; simp at hq; subst hq; rfl) (by unfold maxLen; simp) (by simp) (by have := HS3.out.bel.size; simp; omega) ?_)
  rintro v4 w4 ho4 hg4 _
  have st4 : WSt W0 w4 v4 (([9 :: [105, 102]] ++ [IT i.a]) ++ [IT i.to]) := ⟨below_grown (Nat.le_refl _) (HS3.out.bel.alloc HS3.out.bel.size _) hg4 (fun g hg => own_base HS3.out.own hg), by rw [txC_app]; simpa [txC] using ho4⟩
  have HS4 : Hid (WSt W0 w4 v4 (([9 :: [105, 102]] ++ [IT i.a]) ++ [IT i.to])) := st4
  clear ho4 hg4 st4
  clear f1 f2 f3 f4 f5 f7 f8 f9
  obtain ⟨f1, f2, f3, f4, f5, f7, f8, f9⟩ := HC.out _ HS4.out.bel
  go_wp2_with fail
  rw [rounds_succ]
  go_wp2_with fail
  refine (KN.out i.el w4 H64.out.e (HB0.out.trans (HS4.out.bel.mono HB0.out.size))).mono ?_
  rintro e w5 ⟨rfl, hg⟩
  have HS5 : Hid (WSt W0 w5 v4 ((([9 :: [105, 102]] ++ [IT i.a]) ++ [IT i.to]))) := HS4.out.g hg.below
  clear hg f1 f2 f3 f4 f5 f7 f8 f9
  obtain ⟨f1, f2, f3, f4, f5, f7, f8, f9⟩ := HC.out _ HS5.out.bel
  go_wp2_with (at_builtin; refine wpList_append_own _ rfl _ _ 119 rfl W0.heap.size 9 i9 (.string ⟨#[]⟩) 1 16 Tryz.underlying119 AN.out.1 AN.out.2.1 AN.out.2.2.1 AN.out.2.2.2 rfl (by decide) _ _ _ rfl (HS5.out.own.alloc _) ⟨w5.heap.size, 0, none⟩ 1 1 [.string ⟨(IT i.el).toArray⟩] rfl (by rfl) (by intro j q hj; cases j with | zero => cases hj; exact new_one _ _ _ | succ j => cases hj) (by intro q hq; simp at hq; subst hq; rfl) (by unfold maxLen; simp) (by simp) (by have := HS5.out.bel.size; simp; omega) ?_)
  rintro v6 w6 ho6 hg6 _
  have st6 : WSt W0 w6 v6 ((([9 :: [105, 102]] ++ [IT i.a]) ++ [IT i.to]) ++ [IT i.el]) := ⟨below_grown (Nat.le_refl _) (HS5.out.bel.alloc HS5.out.bel.size _) hg6 (fun g hg => own_base HS5.out.own hg), by rw [txC_app]; simpa [txC] using ho6⟩
  have HS6 : Hid (WSt W0 w6 v6 ((([9 :: [105, 102]] ++ [IT i.a]) ++ [IT i.to]) ++ [IT i.el])) := st6
  clear ho6 hg6 st6
  clear f1 f2 f3 f4 f5 f7 f8 f9
  obtain ⟨f1, f2, f3, f4, f5, f7, f8, f9⟩ := HC.out _ HS6.out.bel
  go_wp2_with fail
  rw [rounds_succ]
  go_wp2_with fail
  go_ret
  rw [HV.out]
  exact HS6.out.told HB0.out (by simp)
set_option maxRecDepth 20000 in
theorem wd_10 (i : Ins) (w : World) (h : i.op = 10) (h64 : Num64 i) (hp : Pow w) (hT : Tfa w) (hW : Twa w) : Calls Tryz.prog 78 #[inV i] w (ToldW w (wdL i)) := by
  have HV : Hid (wdL i = [9 :: [114, 101, 116]] ++ [Lib.itoa i.a]) := by show _ = _; unfold wdL; simp [h]
  have h3 : w.cell? ⟨0, 21, none⟩ = some (.string ⟨#[65]⟩) := hT.c 10 (by omega) (by omega)
  have h2 : w.cell? ⟨0, 20, none⟩ = some (.string ⟨#[114, 101, 116]⟩) := hW.c 10 (by omega) (by omega)
  have hpos := hT.pos
  have KN : Hid (∀ n W, I64 n → Below w.heap.size w W → Calls Tryz.prog 77 #[.int .i64 n] W fun e w' => e = .returned (.string ⟨(Lib.itoa n).toArray⟩) ∧ G W w') := fun n W hn hb => number77 n W hn (hp.below hb)
  have KF : Hid (∀ W, Below w.heap.size w W → Calls Tryz.prog 110 #[.int .i64 i.n, .int .i64 10] W fun e w' => e = .returned (.string ⟨(Lib.itoa i.n).toArray⟩) ∧ G W w') := fun W hb => (Tryz.strconv_FormatInt_10 i.n h64.n.1 h64.n.2 W (hp.below hb)).mono fun e w' ⟨p, k, os, q⟩ => ⟨p, k, os, q⟩
  have H64 : Hid (Num64 i) := h64
  obtain ⟨i9, AN⟩ := info_parts info9
  have AN : Hid (Tryz.prog.info? 9 = some i9 ∧ i9.zero = some (.string ⟨#[]⟩) ∧ i9.size = 1 ∧ i9.bytes = 16) := AN
  generalize wdL i = L at *
  unfold inV
  generalize i.gs.length = al
  rw [h]
  clear h h64 hp hT hW
  have HW0 : Hid (∃ W0, W0 = (w.alloc (.cells #[.int .i64 10, .int .i64 i.d, .int .i64 i.a, .int .i64 i.b, .int .i64 i.n, .string i.nm, .slice i.ar al i.ac, .int .i64 i.to, .int .i64 i.el] 54)).alloc (.cells #[.string ⟨#[114, 101, 116]⟩, .string ⟨#[65]⟩] 154) ∧ Below w.heap.size w W0 ∧ W0.heap.size = w.heap.size + 1 + 1 ∧ ∀ W, Below W0.heap.size W0 W → W.cell? ⟨w.heap.size, 1, none⟩ = some (.int .i64 i.d) ∧ W.cell? ⟨w.heap.size, 2, none⟩ = some (.int .i64 i.a) ∧ W.cell? ⟨w.heap.size, 3, none⟩ = some (.int .i64 i.b) ∧ W.cell? ⟨w.heap.size, 4, none⟩ = some (.int .i64 i.n) ∧ W.cell? ⟨w.heap.size, 5, none⟩ = some (.string i.nm) ∧ W.cell? ⟨w.heap.size, 7, none⟩ = some (.int .i64 i.to) ∧ W.cell? ⟨w.heap.size, 8, none⟩ = some (.int .i64 i.el) ∧ W.cell? ⟨w.heap.size + 1, 1, none⟩ = some (.string ⟨#[65]⟩)) := ⟨_, rfl, (((G.refl w).alloc _).alloc _).below, by simp, fun W hb => by
    have k := (bcell hb).1
    refine ⟨(k _ _ (by simp; omega)).trans (by go_simp), (k _ _ (by simp; omega)).trans (by go_simp), (k _ _ (by simp; omega)).trans (by go_simp), (k _ _ (by simp; omega)).trans (by go_simp), (k _ _ (by simp; omega)).trans (by go_simp), (k _ _ (by simp; omega)).trans (by go_simp), (k _ _ (by simp; omega)).trans (by go_simp), (k _ _ (by simp)).trans (by go_simp)⟩⟩
  obtain ⟨W0, hW0, hb0, hs0, HC⟩ := HW0.out
  clear HW0
  have HC : Hid (∀ W, Below W0.heap.size W0 W → W.cell? ⟨w.heap.size, 1, none⟩ = some (.int .i64 i.d) ∧ W.cell? ⟨w.heap.size, 2, none⟩ = some (.int .i64 i.a) ∧ W.cell? ⟨w.heap.size, 3, none⟩ = some (.int .i64 i.b) ∧ W.cell? ⟨w.heap.size, 4, none⟩ = some (.int .i64 i.n) ∧ W.cell? ⟨w.heap.size, 5, none⟩ = some (.string i.nm) ∧ W.cell? ⟨w.heap.size, 7, none⟩ = some (.int .i64 i.to) ∧ W.cell? ⟨w.heap.size, 8, none⟩ = some (.int .i64 i.el) ∧ W.cell? ⟨w.heap.size + 1, 1, none⟩ = some (.string ⟨#[65]⟩)) := HC
  have HB0 : Hid (Below w.heap.size w W0) := hb0
  have HE0 : Hid (W0 = (w.alloc (.cells #[.int .i64 10, .int .i64 i.d, .int .i64 i.a, .int .i64 i.b, .int .i64 i.n, .string i.nm, .slice i.ar al i.ac, .int .i64 i.to, .int .i64 i.el] 54)).alloc (.cells #[.string ⟨#[114, 101, 116]⟩, .string ⟨#[65]⟩] 154)) := hW0
  have HZ0 : Hid (W0.heap.size = w.heap.size + 1 + 1) := hs0
  clear hb0 hW0 hs0
  generalize Lib.itoa = IT at *
  go_enter Tryz.func78, Tryz.ntmps78
  go_wp2
  rw [← HE0.out]
  have HS0 : Hid (WSt W0 (W0.alloc (.cells #[.string ⟨(9 :: [114, 101, 116]).toArray⟩] 9)) (.slice (some ⟨W0.heap.size, 0, none⟩) 1 1) [9 :: [114, 101, 116]]) := wst_new W0 _
  rw [← HZ0.out]
  have HX : (⟨#[9]⟩ ++ ⟨#[114, 101, 116]⟩ : ByteArray) = ⟨(9 :: [114, 101, 116]).toArray⟩ := rfl
  rw [HX]
  clear HX
  generalize W0.alloc (.cells #[.string ⟨(9 :: [114, 101, 116]).toArray⟩] 9) = w0 at *
  generalize Value.slice (some ⟨W0.heap.size, 0, none⟩) 1 1 = v0 at *
  obtain ⟨f1, f2, f3, f4, f5, f7, f8, f9⟩ := HC.out _ HS0.out.bel
  have x0 : ((⟨#[65]⟩ : ByteArray).extract 0 1).toList = [65] := by rw [ByteArray.toList_eq]; rfl
  refine wp_loop_rounds 2 ?_
  rw [rounds_succ]
  go_wp2_with fail
  refine (KN.out i.a w0 H64.out.a (HB0.out.trans (HS0.out.bel.mono HB0.out.size))).mono ?_
  rintro e w1 ⟨rfl, hg⟩
  have HS1 : Hid (WSt W0 w1 v0 ([9 :: [114, 101, 116]])) := HS0.out.g hg.below
  clear hg f1 f2 f3 f4 f5 f7 f8 f9
  obtain ⟨f1, f2, f3, f4, f5, f7, f8, f9⟩ := HC.out _ HS1.out.bel
  go_wp2_with (at_builtin; refine wpList_append_own _ rfl _ _ 119 rfl W0.heap.size 9 i9 (.string ⟨#[]⟩) 1 16 Tryz.underlying119 AN.out.1 AN.out.2.1 AN.out.2.2.1 AN.out.2.2.2 rfl (by decide) _ _ _ rfl (HS1.out.own.alloc _) ⟨w1.heap.size, 0, none⟩ 1 1 [.string ⟨(IT i.a).toArray⟩] rfl (by rfl) (by intro j q hj; cases j with | zero => cases hj; exact new_one _ _ _ | succ j => cases hj) (by intro q hq; simp at hq; subst hq; rfl) (by unfold maxLen; simp) (by simp) (by have := HS1.out.bel.size; simp; omega) ?_)
  rintro v2 w2 ho2 hg2 _
  have st2 : WSt W0 w2 v2 ([9 :: [114, 101, 116]] ++ [IT i.a]) := ⟨below_grown (Nat.le_refl _) (HS1.out.bel.alloc HS1.out.bel.size _) hg2 (fun g hg => own_base HS1.out.own hg), by rw [txC_app]; simpa [txC] using ho2⟩
  have HS2 : Hid (WSt W0 w2 v2 ([9 :: [114, 101, 116]] ++ [IT i.a])) := st2
  clear ho2 hg2 st2
  clear f1 f2 f3 f4 f5 f7 f8 f9
  obtain ⟨f1, f2, f3, f4, f5, f7, f8, f9⟩ := HC.out _ HS2.out.bel
  go_wp2_with fail
  rw [rounds_succ]
  go_wp2_with fail
  go_ret
  rw [HV.out]
  exact HS2.out.told HB0.out (by simp)
set_option maxRecDepth 20000 in
theorem wd_11 (i : Ins) (w : World) (h : i.op = 11) (h64 : Num64 i) (hp : Pow w) (hT : Tfa w) (hW : Twa w) : Calls Tryz.prog 78 #[inV i] w (ToldW w (wdL i)) := by
  have HV : Hid (wdL i = [9 :: [116, 114, 97, 112]] ++ [Lib.itoa i.n]) := by show _ = _; unfold wdL; simp [h]
  have h3 : w.cell? ⟨0, 23, none⟩ = some (.string ⟨#[78]⟩) := hT.c 11 (by omega) (by omega)
  have h2 : w.cell? ⟨0, 22, none⟩ = some (.string ⟨#[116, 114, 97, 112]⟩) := hW.c 11 (by omega) (by omega)
  have hpos := hT.pos
  have KN : Hid (∀ n W, I64 n → Below w.heap.size w W → Calls Tryz.prog 77 #[.int .i64 n] W fun e w' => e = .returned (.string ⟨(Lib.itoa n).toArray⟩) ∧ G W w') := fun n W hn hb => number77 n W hn (hp.below hb)
  have KF : Hid (∀ W, Below w.heap.size w W → Calls Tryz.prog 110 #[.int .i64 i.n, .int .i64 10] W fun e w' => e = .returned (.string ⟨(Lib.itoa i.n).toArray⟩) ∧ G W w') := fun W hb => (Tryz.strconv_FormatInt_10 i.n h64.n.1 h64.n.2 W (hp.below hb)).mono fun e w' ⟨p, k, os, q⟩ => ⟨p, k, os, q⟩
  have H64 : Hid (Num64 i) := h64
  obtain ⟨i9, AN⟩ := info_parts info9
  have AN : Hid (Tryz.prog.info? 9 = some i9 ∧ i9.zero = some (.string ⟨#[]⟩) ∧ i9.size = 1 ∧ i9.bytes = 16) := AN
  generalize wdL i = L at *
  unfold inV
  generalize i.gs.length = al
  rw [h]
  clear h h64 hp hT hW
  have HW0 : Hid (∃ W0, W0 = (w.alloc (.cells #[.int .i64 11, .int .i64 i.d, .int .i64 i.a, .int .i64 i.b, .int .i64 i.n, .string i.nm, .slice i.ar al i.ac, .int .i64 i.to, .int .i64 i.el] 54)).alloc (.cells #[.string ⟨#[116, 114, 97, 112]⟩, .string ⟨#[78]⟩] 154) ∧ Below w.heap.size w W0 ∧ W0.heap.size = w.heap.size + 1 + 1 ∧ ∀ W, Below W0.heap.size W0 W → W.cell? ⟨w.heap.size, 1, none⟩ = some (.int .i64 i.d) ∧ W.cell? ⟨w.heap.size, 2, none⟩ = some (.int .i64 i.a) ∧ W.cell? ⟨w.heap.size, 3, none⟩ = some (.int .i64 i.b) ∧ W.cell? ⟨w.heap.size, 4, none⟩ = some (.int .i64 i.n) ∧ W.cell? ⟨w.heap.size, 5, none⟩ = some (.string i.nm) ∧ W.cell? ⟨w.heap.size, 7, none⟩ = some (.int .i64 i.to) ∧ W.cell? ⟨w.heap.size, 8, none⟩ = some (.int .i64 i.el) ∧ W.cell? ⟨w.heap.size + 1, 1, none⟩ = some (.string ⟨#[78]⟩)) := ⟨_, rfl, (((G.refl w).alloc _).alloc _).below, by simp, fun W hb => by
    have k := (bcell hb).1
    refine ⟨(k _ _ (by simp; omega)).trans (by go_simp), (k _ _ (by simp; omega)).trans (by go_simp), (k _ _ (by simp; omega)).trans (by go_simp), (k _ _ (by simp; omega)).trans (by go_simp), (k _ _ (by simp; omega)).trans (by go_simp), (k _ _ (by simp; omega)).trans (by go_simp), (k _ _ (by simp; omega)).trans (by go_simp), (k _ _ (by simp)).trans (by go_simp)⟩⟩
  obtain ⟨W0, hW0, hb0, hs0, HC⟩ := HW0.out
  clear HW0
  have HC : Hid (∀ W, Below W0.heap.size W0 W → W.cell? ⟨w.heap.size, 1, none⟩ = some (.int .i64 i.d) ∧ W.cell? ⟨w.heap.size, 2, none⟩ = some (.int .i64 i.a) ∧ W.cell? ⟨w.heap.size, 3, none⟩ = some (.int .i64 i.b) ∧ W.cell? ⟨w.heap.size, 4, none⟩ = some (.int .i64 i.n) ∧ W.cell? ⟨w.heap.size, 5, none⟩ = some (.string i.nm) ∧ W.cell? ⟨w.heap.size, 7, none⟩ = some (.int .i64 i.to) ∧ W.cell? ⟨w.heap.size, 8, none⟩ = some (.int .i64 i.el) ∧ W.cell? ⟨w.heap.size + 1, 1, none⟩ = some (.string ⟨#[78]⟩)) := HC
  have HB0 : Hid (Below w.heap.size w W0) := hb0
  have HE0 : Hid (W0 = (w.alloc (.cells #[.int .i64 11, .int .i64 i.d, .int .i64 i.a, .int .i64 i.b, .int .i64 i.n, .string i.nm, .slice i.ar al i.ac, .int .i64 i.to, .int .i64 i.el] 54)).alloc (.cells #[.string ⟨#[116, 114, 97, 112]⟩, .string ⟨#[78]⟩] 154)) := hW0
  have HZ0 : Hid (W0.heap.size = w.heap.size + 1 + 1) := hs0
  clear hb0 hW0 hs0
  generalize Lib.itoa = IT at *
  go_enter Tryz.func78, Tryz.ntmps78
  go_wp2
  rw [← HE0.out]
  have HS0 : Hid (WSt W0 (W0.alloc (.cells #[.string ⟨(9 :: [116, 114, 97, 112]).toArray⟩] 9)) (.slice (some ⟨W0.heap.size, 0, none⟩) 1 1) [9 :: [116, 114, 97, 112]]) := wst_new W0 _
  rw [← HZ0.out]
  have HX : (⟨#[9]⟩ ++ ⟨#[116, 114, 97, 112]⟩ : ByteArray) = ⟨(9 :: [116, 114, 97, 112]).toArray⟩ := rfl
  rw [HX]
  clear HX
  generalize W0.alloc (.cells #[.string ⟨(9 :: [116, 114, 97, 112]).toArray⟩] 9) = w0 at *
  generalize Value.slice (some ⟨W0.heap.size, 0, none⟩) 1 1 = v0 at *
  obtain ⟨f1, f2, f3, f4, f5, f7, f8, f9⟩ := HC.out _ HS0.out.bel
  have x0 : ((⟨#[78]⟩ : ByteArray).extract 0 1).toList = [78] := by rw [ByteArray.toList_eq]; rfl
  refine wp_loop_rounds 2 ?_
  rw [rounds_succ]
  go_wp2_with fail
  refine (KF.out w0 (HB0.out.trans (HS0.out.bel.mono HB0.out.size))).mono ?_
  rintro e w1 ⟨rfl, hg⟩
  have HS1 : Hid (WSt W0 w1 v0 ([9 :: [116, 114, 97, 112]])) := HS0.out.g hg.below
  clear hg f1 f2 f3 f4 f5 f7 f8 f9
  obtain ⟨f1, f2, f3, f4, f5, f7, f8, f9⟩ := HC.out _ HS1.out.bel
  go_wp2_with (at_builtin; refine wpList_append_own _ rfl _ _ 119 rfl W0.heap.size 9 i9 (.string ⟨#[]⟩) 1 16 Tryz.underlying119 AN.out.1 AN.out.2.1 AN.out.2.2.1 AN.out.2.2.2 rfl (by decide) _ _ _ rfl (HS1.out.own.alloc _) ⟨w1.heap.size, 0, none⟩ 1 1 [.string ⟨(IT i.n).toArray⟩] rfl (by rfl) (by intro j q hj; cases j with | zero => cases hj; exact new_one _ _ _ | succ j => cases hj) (by intro q hq; simp at hq; subst hq; rfl) (by unfold maxLen; simp) (by simp) (by have := HS1.out.bel.size; simp; omega) ?_)
  rintro v2 w2 ho2 hg2 _
  have st2 : WSt W0 w2 v2 ([9 :: [116, 114, 97, 112]] ++ [IT i.n]) := ⟨below_grown (Nat.le_refl _) (HS1.out.bel.alloc HS1.out.bel.size _) hg2 (fun g hg => own_base HS1.out.own hg), by rw [txC_app]; simpa [txC] using ho2⟩
  have HS2 : Hid (WSt W0 w2 v2 ([9 :: [116, 114, 97, 112]] ++ [IT i.n])) := st2
  clear ho2 hg2 st2
  clear f1 f2 f3 f4 f5 f7 f8 f9
  obtain ⟨f1, f2, f3, f4, f5, f7, f8, f9⟩ := HC.out _ HS2.out.bel
  go_wp2_with fail
  rw [rounds_succ]
  go_wp2_with fail
  go_ret
  rw [HV.out]
  exact HS2.out.told HB0.out (by simp)
end
end Go.Proofs.YtdppoblbenbafaaGreatDoor
