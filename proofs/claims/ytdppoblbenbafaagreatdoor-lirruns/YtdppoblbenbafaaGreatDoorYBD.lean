/- The document's own look at an instruction's number and callee. The document's own instructions: registers. The document's own step. The document's plain run and the program's tell the same. -/
import Derived.Test.YtdppoblbenbafaaGreatDoorYBC
import Derived.Test.YtdppoblbenbafaaGreatDoorYBA
import Derived.Test.YtdppoblbenbafaaGreatDoorYAR
import Derived.Deep.RegionHeld3
import Derived.Test.YtdppoblbenbafaaGreatDoorYAZ
namespace Go.Proofs.YtdppoblbenbafaaGreatDoor
section
open Go.RowKit Go.Shelf
set_option maxHeartbeats 4000000
/-- Is an instruction's number right, or its operation's name? -/
def nuR (fr op n : Int) (l : List UInt8) : Bool := if op = 3 then opB l else if op = 4 ∨ op = 5 then decide (-2147483648 ≤ n ∧ n < 2147483648 ∧ n % 8 = 0) else if op = 6 then decide (0 ≤ n ∧ n < fr) else if op = 11 then decide (0 ≤ n ∧ n ≤ 255) else true
theorem rnumbers64 (f : Fnh) (i : Ins) (w : World) : Calls Tryz.prog 64 #[fnhV f, inV i] w fun e w' => e = .returned (.bool (nuR f.fr i.op i.n i.nm.data.toList)) ∧ G w w' := by
  unfold fnhV inV
  generalize i.gs.length = al
  have h8 := tmod8 i.n
  by_cases h3 : i.op = 3
  · have HV : Hid (nuR f.fr i.op i.n i.nm.data.toList = opB i.nm.data.toList) := by show _ = _; unfold nuR; rw [if_pos h3]
    obtain ⟨v, hv⟩ := rbin_ok i.nm
    have HB : Hid (∀ w, Calls Tryz.prog 96 #[.string i.nm, .int .i64 1, .int .i64 1] w fun e w' => e = .returned (.tuple #[.int .i64 v, .bool (opB i.nm.data.toList)]) ∧ w' = w) := hv
    generalize nuR f.fr i.op i.n i.nm.data.toList = R at *
    generalize opB i.nm.data.toList = X at *
    rw [h3]
    clear h8 hv
    go_enter Tryz.func64, Tryz.ntmps64
    go_wp2_with (first | (go_at_call 96; refine (HB.out _).mono ?_; rintro e w' ⟨rfl, rfl⟩))
    go_ret
    exact ⟨ret_bool HV.out.symm, ((G.refl _).alloc _).alloc _⟩
  have e3 : (i.op == 3) = false := by simp; omega
  by_cases h4 : i.op = 4 ∨ i.op = 5
  · have HV : Hid (nuR f.fr i.op i.n i.nm.data.toList = decide (-2147483648 ≤ i.n ∧ i.n < 2147483648 ∧ i.n % 8 = 0)) := by show _ = _; unfold nuR; rw [if_neg h3, if_pos h4]
    have H8 : Hid ((i.n.tmod 8 = 0) ↔ (i.n % 8 = 0)) := h8
    generalize nuR f.fr i.op i.n i.nm.data.toList = R at *
    clear h8 e3
    rcases h4 with h4 | h4
    all_goals
      rw [h4]
      clear h3
      by_cases c1 : -2147483648 ≤ i.n
      · by_cases c2 : i.n < 2147483648
        · have HE : Hid ((i.n.tmod 8 == 0) = R) := by
            show _ = _
            rw [HV.out, Bool.eq_iff_iff]
            simp [c1, c2, H8.out]
          go_enter Tryz.func64, Tryz.ntmps64
          go_wp2
          go_ret
          exact ⟨ret_bool HE.out, ((G.refl _).alloc _).alloc _⟩
        · have HE : Hid (R = false) := by show _ = _; rw [HV.out]; simp; omega
          go_enter Tryz.func64, Tryz.ntmps64
          go_wp2
          go_ret
          exact ⟨ret_bool HE.out.symm, ((G.refl _).alloc _).alloc _⟩
      · have HE : Hid (R = false) := by show _ = _; rw [HV.out]; simp; omega
        go_enter Tryz.func64, Tryz.ntmps64
        go_wp2
        go_ret
        exact ⟨ret_bool HE.out.symm, ((G.refl _).alloc _).alloc _⟩
  have e4 : (i.op == 4) = false := by simp; omega
  have e5 : (i.op == 5) = false := by simp; omega
  clear h8
  by_cases h6 : i.op = 6
  · have HV : Hid (nuR f.fr i.op i.n i.nm.data.toList = decide (0 ≤ i.n ∧ i.n < f.fr)) := by show _ = _; unfold nuR; rw [if_neg h3, if_neg h4, if_pos h6]
    generalize nuR f.fr i.op i.n i.nm.data.toList = R at *
    clear h3 h4 e3 e4 e5
    rw [h6]
    by_cases c1 : 0 ≤ i.n
    · have HE : Hid (decide (i.n < f.fr) = R) := by show _ = _; rw [HV.out]; simp [c1]
      go_enter Tryz.func64, Tryz.ntmps64
      go_wp2
      go_ret
      exact ⟨ret_bool HE.out, ((G.refl _).alloc _).alloc _⟩
    · have HE : Hid (R = false) := by show _ = _; rw [HV.out]; simp; omega
      go_enter Tryz.func64, Tryz.ntmps64
      go_wp2
      go_ret
      exact ⟨ret_bool HE.out.symm, ((G.refl _).alloc _).alloc _⟩
  have e6 : (i.op == 6) = false := by simp; omega
  by_cases h11 : i.op = 11
  · have HV : Hid (nuR f.fr i.op i.n i.nm.data.toList = decide (0 ≤ i.n ∧ i.n ≤ 255)) := by show _ = _; unfold nuR; rw [if_neg h3, if_neg h4, if_neg h6, if_pos h11]
    generalize nuR f.fr i.op i.n i.nm.data.toList = R at *
    clear h3 h4 h6 e3 e4 e5 e6
    rw [h11]
    by_cases c1 : 0 ≤ i.n
    · have HE : Hid (decide (i.n ≤ 255) = R) := by show _ = _; rw [HV.out]; simp [c1]
      go_enter Tryz.func64, Tryz.ntmps64
      go_wp2
      go_ret
      exact ⟨ret_bool HE.out, ((G.refl _).alloc _).alloc _⟩
    · have HE : Hid (R = false) := by show _ = _; rw [HV.out]; simp; omega
      go_enter Tryz.func64, Tryz.ntmps64
      go_wp2
      go_ret
      exact ⟨ret_bool HE.out.symm, ((G.refl _).alloc _).alloc _⟩
  have e11 : (i.op == 11) = false := by simp; omega
  have HV : Hid (true = nuR f.fr i.op i.n i.nm.data.toList) := by show _ = _; unfold nuR; rw [if_neg h3, if_neg h4, if_neg h6, if_neg h11]
  generalize nuR f.fr i.op i.n i.nm.data.toList = R at *
  clear h3 h4 h6 h11
  go_enter Tryz.func64, Tryz.ntmps64
  go_wp2
  go_ret
  exact ⟨ret_bool HV.out, ((G.refl _).alloc _).alloc _⟩
theorem G.drewN {w w' : World} (h : G w w') (n : Nat) : G w (w'.drewN n) := by
  obtain ⟨q, os, rfl⟩ := h
  exact ⟨q + n, os, by show Go.Sort.grow ((w.drewN q).drewN n) os = _; rw [World.drewN_drewN]⟩
/-- Is a call right by itself? -/
def caR (op : Int) (l : List UInt8) (n : Nat) : Bool := if op = 7 then (match rtA l with | some k => decide ((n : Int) = k) | none => nmB l && decide (n ≤ 7)) else true
theorem rtA_pos {l : List UInt8} {k : Int} (h : rtA l = some k) : 0 ≤ k := by
  unfold rtA at h
  repeat' (split at h)
  all_goals (cases h; try omega)
theorem rcallee65 (i : Ins) (w : World) (hs : i.nm.size ≤ maxLen) : Calls Tryz.prog 65 #[inV i] w fun e w' => e = .returned (.bool (caR i.op i.nm.data.toList i.gs.length)) ∧ G w w' := by
  have HN : Hid (∀ w, Calls Tryz.prog 62 #[.string i.nm] w fun e w' => e = .returned (.bool (nmB i.nm.data.toList)) ∧ w' = w) := fun w => rname62 i.nm w hs
  have HB : Hid (∀ w, Calls Tryz.prog 67 #[.string i.nm] w fun e w' => e = .returned (.int .i64 (blN i.nm.data.toList)) ∧ w' = w) := fun w => by
    have t := rbuilt67 i.nm w
    rw [ByteArray.toList_eq] at t
    exact t
  clear hs
  unfold inV
  by_cases h7 : i.op = 7
  · have e7 : (i.op != 7) = false := by simp [h7]
    cases hr : rtA i.nm.data.toList with
    | some k =>
      have hk := rtA_pos hr
      have HV : Hid ((((i.gs.length : Nat) : Int) == k) = caR i.op i.nm.data.toList i.gs.length) := by show _ = _; unfold caR; rw [if_pos h7, hr, Bool.eq_iff_iff]; simp
      have hb : blN i.nm.data.toList = k := by unfold blN; rw [hr]
      rw [hb] at HB
      clear hb hr h7 HN
      generalize caR i.op i.nm.data.toList i.gs.length = R at *
      generalize i.gs.length = al at *
      go_enter Tryz.func65, Tryz.ntmps65
      go_wp2_with (first | (go_at_call 67; refine (HB.out _).mono ?_; rintro e w' ⟨rfl, rfl⟩))
      go_quiet (first | (go_at_call 67; refine Calls.quiet_of_same (HB.out _)))
      go_wp2
      go_ret
      exact ⟨ret_bool HV.out, ((G.refl _).alloc _).drewN nq⟩
    | none =>
      have hb : blN i.nm.data.toList = -1 := by unfold blN; rw [hr]
      rw [hb] at HB
      have HV : Hid (caR i.op i.nm.data.toList i.gs.length = (nmB i.nm.data.toList && decide (i.gs.length ≤ 7))) := by show _ = _; unfold caR; rw [if_pos h7, hr]
      clear hb hr h7
      generalize caR i.op i.nm.data.toList i.gs.length = R at *
      generalize nmB i.nm.data.toList = X at *
      generalize i.gs.length = al at *
      cases X with
      | false =>
        have HE : Hid (false = R) := by show _ = _; rw [HV.out]; rfl
        go_enter Tryz.func65, Tryz.ntmps65
        go_wp2_with (first | (go_at_call 67; refine (HB.out _).mono ?_; rintro e w' ⟨rfl, rfl⟩) | (go_at_call 62; refine (HN.out _).mono ?_; rintro e w' ⟨rfl, rfl⟩))
        go_ret
        exact ⟨ret_bool HE.out, (G.refl _).alloc _⟩
      | true =>
        have HE : Hid (decide ((al : Int) ≤ 7) = R) := by show _ = _; rw [HV.out, Bool.eq_iff_iff]; simp; omega
        go_enter Tryz.func65, Tryz.ntmps65
        go_wp2_with (first | (go_at_call 67; refine (HB.out _).mono ?_; rintro e w' ⟨rfl, rfl⟩) | (go_at_call 62; refine (HN.out _).mono ?_; rintro e w' ⟨rfl, rfl⟩))
        go_ret
        exact ⟨ret_bool HE.out, (G.refl _).alloc _⟩
  · have e7 : (i.op != 7) = true := by simpa using h7
    have HV : Hid (true = caR i.op i.nm.data.toList i.gs.length) := by show _ = _; unfold caR; rw [if_neg h7]
    clear h7 HN HB
    generalize caR i.op i.nm.data.toList i.gs.length = R at *
    generalize i.gs.length = al at *
    go_enter Tryz.func65, Tryz.ntmps65
    go_wp2
    go_ret
    exact ⟨ret_bool HV.out, (G.refl _).alloc _⟩
end
section
open Go.RowKit Go.Shelf
set_option maxRecDepth 20000
set_option maxHeartbeats 2000000
/-- What a number of a register is. -/
structure RegQ (C o q : Nat) (rg : List Int) (W : World) : Prop where
  c1 : W.cell? ⟨C, o + 1, none⟩ = some (.slice (some ⟨q, 0, none⟩) rg.length rg.length)
  bk : Bk W q 2 (rg.map (Value.int .i64))
  nq : q ≠ C
theorem RegQ.at {C o q : Nat} {rg : List Int} {W : World} (h : RegQ C o q rg W) {a : Nat} {v : Int} (ha : rg[a]? = some v) : W.cell? ⟨q, a, none⟩ = some (.int .i64 v) ∧ (a : Int) < rg.length ∧ q < W.heap.size ∧ W.frozen? ⟨q, a, none⟩ = false := ⟨h.bk.cell (by rw [List.getElem?_map, ha]; rfl), by have := (List.getElem?_eq_some_iff.1 ha).1; omega, h.bk.lt, h.bk.fz a⟩
/-- A register that is set. -/
def SetQ (q : Nat) (rg : List Int) (w w' : World) : Prop := Onl (fun b => b = q) w w' ∧ Bk w' q 2 (rg.map (Value.int .i64))
theorem SetQ.of {C o q : Nat} {rg : List Int} {w V : World} (h : RegQ C o q rg w) (hb : Below w.heap.size w V) (d : Nat) (v : Int) : SetQ q (rg.set d v) w (V.setCell ⟨q, d, none⟩ (.int .i64 v)) := by
  refine ⟨(Onl.of_below hb).set rfl, ?_⟩
  rw [List.map_set]
  exact (h.bk.below hb).set d _
theorem SetQ.below {q : Nat} {rg : List Int} {w V W : World} (h : SetQ q rg w V) (hb : Below V.heap.size V W) : SetQ q rg w W := ⟨h.1.trans (Onl.of_below hb), h.2.below hb⟩
theorem rdoes_const (R C o q d : Nat) (u : Int) (rg : List Int) (i : Ins) (w : World) (hop : i.op = 1) (hd : i.d = (d : Int)) (hQ : RegQ C o q rg w) (hu : rg[d]? = some u) : Calls Tryz.prog 75 #[.pointer (some ⟨R, 0, none⟩), .pointer (some ⟨C, o, none⟩), inV i] w fun e w' => e = .returned (.tuple #[]) ∧ SetQ q (rg.set d i.n) w w' := by
  have HQ : Hid (RegQ C o q rg w) := hQ
  obtain ⟨u1, u2, u3, u4⟩ := hQ.at hu
  have c1 := hQ.c1
  have lC : C < w.heap.size := World.block_lt_of_cell? _ _ c1
  unfold inV
  rw [hop, hd]
  clear hQ hu hop hd
  go_enter Tryz.func75, Tryz.ntmps75
  go_wp2
  go_region
  go_wp2
  go_returns
  exact ⟨rfl, (SetQ.of HQ.out (Below.refl _ _) d _).below (((Below.refl _ _).alloc (Nat.le_refl _) _).drew)⟩
theorem rdoes_move (R C o q d a : Nat) (u v : Int) (rg : List Int) (i : Ins) (w : World) (hop : i.op = 2) (hd : i.d = (d : Int)) (ha : i.a = (a : Int)) (hQ : RegQ C o q rg w) (hu : rg[d]? = some u) (hv : rg[a]? = some v) : Calls Tryz.prog 75 #[.pointer (some ⟨R, 0, none⟩), .pointer (some ⟨C, o, none⟩), inV i] w fun e w' => e = .returned (.tuple #[]) ∧ SetQ q (rg.set d v) w w' := by
  have HQ : Hid (RegQ C o q rg w) := hQ
  obtain ⟨u1, u2, u3, u4⟩ := hQ.at hu
  obtain ⟨v1, v2, _, _⟩ := hQ.at hv
  have c1 := hQ.c1
  have lC : C < w.heap.size := World.block_lt_of_cell? _ _ c1
  unfold inV
  rw [hop, hd, ha]
  clear hQ hu hv hop hd ha
  go_enter Tryz.func75, Tryz.ntmps75
  go_wp2
  go_region
  go_wp2
  go_returns
  exact ⟨rfl, (SetQ.of HQ.out (Below.refl _ _) d _).below (((Below.refl _ _).alloc (Nat.le_refl _) _).drew)⟩
theorem rdoes_frame (R C o q P np pa d kob : Nat) (u ad : Int) (rg : List Int) (i : Ins) (w : World) (hop : i.op = 6) (hd : i.d = (d : Int)) (hQ : RegQ C o q rg w) (hu : rg[d]? = some u) (h3 : w.cell? ⟨R, 3, none⟩ = some (.slice (some ⟨P, 0, none⟩) np pa)) (h2 : w.cell? ⟨C, o + 2, none⟩ = some (.int .i64 (kob : Nat))) (hk : kob < np) (hP : w.cell? ⟨P, kob * 4, none⟩ = some (.int .i64 ad)) : Calls Tryz.prog 75 #[.pointer (some ⟨R, 0, none⟩), .pointer (some ⟨C, o, none⟩), inV i] w fun e w' => e = .returned (.tuple #[]) ∧ SetQ q (rg.set d (wrap64 (ad + wrap64 (8 * i.n)))) w w' := by
  have HQ : Hid (RegQ C o q rg w) := hQ
  obtain ⟨u1, u2, u3, u4⟩ := hQ.at hu
  have c1 := hQ.c1
  have lC : C < w.heap.size := World.block_lt_of_cell? _ _ c1
  have lR : R < w.heap.size := World.block_lt_of_cell? _ _ h3
  have lP : P < w.heap.size := World.block_lt_of_cell? _ _ hP
  have hk' : (kob : Int) < np := by omega
  unfold inV
  rw [hop, hd]
  clear hQ hu hop hd hk
  go_enter Tryz.func75, Tryz.ntmps75
  go_wp2
  go_region
  go_wp2
  go_returns
  exact ⟨rfl, (SetQ.of HQ.out (Below.refl _ _) d _).below (((Below.refl _ _).alloc (Nat.le_refl _) _).drew)⟩
theorem rdoes_bin (R C o q d a b : Nat) (u v1 v2 v : Int) (rg : List Int) (i : Ins) (w : World) (hop : i.op = 3) (hd : i.d = (d : Int)) (ha : i.a = (a : Int)) (hb : i.b = (b : Int)) (hQ : RegQ C o q rg w) (hu : rg[d]? = some u) (h1 : rg[a]? = some v1) (h2 : rg[b]? = some v2) (hB : ∀ W, Calls Tryz.prog 96 #[.string i.nm, .int .i64 v1, .int .i64 v2] W fun e w' => e = .returned (.tuple #[.int .i64 v, .bool true]) ∧ w' = W) : Calls Tryz.prog 75 #[.pointer (some ⟨R, 0, none⟩), .pointer (some ⟨C, o, none⟩), inV i] w fun e w' => e = .returned (.tuple #[]) ∧ SetQ q (rg.set d v) w w' := by
  have HQ : Hid (RegQ C o q rg w) := hQ
  have HB : Hid (∀ W, Calls Tryz.prog 96 #[.string i.nm, .int .i64 v1, .int .i64 v2] W fun e w' => e = .returned (.tuple #[.int .i64 v, .bool true]) ∧ w' = W) := hB
  obtain ⟨u1, u2, u3, u4⟩ := hQ.at hu
  obtain ⟨x1, x2, _, _⟩ := hQ.at h1
  obtain ⟨y1, y2, _, _⟩ := hQ.at h2
  have c1 := hQ.c1
  have lC : C < w.heap.size := World.block_lt_of_cell? _ _ c1
  unfold inV
  rw [hop, hd, ha, hb]
  clear hQ hu hop hd ha hb h1 h2 hB
  go_enter Tryz.func75, Tryz.ntmps75
  go_wp2
  go_quiet (first | (go_at_call 96; refine Calls.quiet_of_same (HB.out _)))
  go_wp2
  go_region
  go_wp2
  go_returns
  exact ⟨rfl, SetQ.of HQ.out (below_drewN ((Below.refl _ _).alloc (Nat.le_refl _) _) _) d _⟩
end
section
open Go.RowKit Go.Shelf
set_option maxRecDepth 20000
set_option maxHeartbeats 4000000
/-- The cells by which an instruction is found. -/
abbrev Kx (C R n g o : Nat) (pl pc k g1 o1 bl bc b g2 o2 il ic j : Nat) (i : Ins) (W : World) : Prop := W.cell? ⟨R, 0, none⟩ = some (.slice (some ⟨g, o, none⟩) pl pc) ∧ W.cell? ⟨C, n * 6, none⟩ = some (.int .i64 (k : Nat)) ∧ W.cell? ⟨g, o + k * 5 + 4, none⟩ = some (.slice (some ⟨g1, o1, none⟩) bl bc) ∧ W.cell? ⟨C, n * 6 + 3, none⟩ = some (.int .i64 (b : Nat)) ∧ W.cell? ⟨g1, o1 + b, none⟩ = some (.slice (some ⟨g2, o2, none⟩) il ic) ∧ W.cell? ⟨C, n * 6 + 4, none⟩ = some (.int .i64 (j : Nat)) ∧ W.cell? ⟨g2, o2 + j * 9, none⟩ = some (.int .i64 i.op) ∧ W.cell? ⟨g2, o2 + j * 9 + 1, none⟩ = some (.int .i64 i.d) ∧ W.cell? ⟨g2, o2 + j * 9 + 2, none⟩ = some (.int .i64 i.a) ∧ W.cell? ⟨g2, o2 + j * 9 + 3, none⟩ = some (.int .i64 i.b) ∧ W.cell? ⟨g2, o2 + j * 9 + 4, none⟩ = some (.int .i64 i.n) ∧ W.cell? ⟨g2, o2 + j * 9 + 5, none⟩ = some (.string i.nm) ∧ W.cell? ⟨g2, o2 + j * 9 + 6, none⟩ = some (.slice i.ar i.gs.length i.ac) ∧ W.cell? ⟨g2, o2 + j * 9 + 7, none⟩ = some (.int .i64 i.to) ∧ W.cell? ⟨g2, o2 + j * 9 + 8, none⟩ = some (.int .i64 i.el)
/-- What a step reads. -/
structure StpQ (R C ca n q g o pl pc g1 o1 bl bc g2 o2 il ic k b j : Nat) (ob an : Int) (rg : List Int) (i : Ins) (r : Rq) (cs : List Value) (w : World) : Prop where
  rb : Rqb w R r
  cv : r.cv = .slice (some ⟨C, 0, none⟩) (n + 1) ca
  pg : r.pg = .slice (some ⟨g, o, none⟩) pl pc
  bkc : Bk w C 109 cs
  fc : ∀ t v, (fmC k q rg.length ob b j an)[t]? = some v → cs[n * 6 + t]? = some v
  rgb : Bk w q 2 (rg.map (Value.int .i64))
  hn : n ≤ 1000000
  hk : k < pl
  hb : b < bl
  hj : j < il
  hj2 : j ≤ 1000000
  f4 : w.cell? ⟨g, o + k * 5 + 4, none⟩ = some (.slice (some ⟨g1, o1, none⟩) bl bc)
  y0 : w.cell? ⟨g1, o1 + b, none⟩ = some (.slice (some ⟨g2, o2, none⟩) il ic)
  ce : ∀ (t : Nat) (v : Value), (inC i)[t]? = some v → w.cell? ⟨g2, o2 + j * 9 + t, none⟩ = some v
  n2 : g2 ≠ C
/-- The next instruction is come to. -/
def SteQ (C n j : Nat) (cs : List Value) (w W : World) : Prop := Onl (fun b => b = C) w W ∧ Bk W C 109 (cs.set (n * 6 + 4) (.int .i64 ((j : Int) + 1)))
theorem SteQ.of {C n j : Nat} {cs : List Value} {w V : World} (h1 : Below w.heap.size w V) (h2 : Bk V C 109 cs) : SteQ C n j cs w (V.setCell ⟨C, n * 6 + 4, none⟩ (.int .i64 ((j : Int) + 1))) := ⟨(Onl.of_below h1).set (S := fun b => b = C) rfl, h2.set _ _⟩
theorem SteQ.then {C n j : Nat} {cs : List Value} {w V W : World} (h : SteQ C n j cs w V) (hb : Below V.heap.size V W) : SteQ C n j cs w W := ⟨h.1.trans (Onl.of_below hb), h.2.below hb⟩
theorem rstep_do (R C ca n q g o pl pc g1 o1 bl bc g2 o2 il ic k b j : Nat) (ob an : Int) (rg : List Int) (i : Ins) (r : Rq) (cs : List Value) (w : World) (h : StpQ R C ca n q g o pl pc g1 o1 bl bc g2 o2 il ic k b j ob an rg i r cs w) (o8 : ¬ i.op = 8) (o9 : ¬ i.op = 9) (o10 : ¬ i.op = 10) (o11 : ¬ i.op = 11) {Q : World → Prop} (hd : ∀ W, SteQ C n j cs w W → Calls Tryz.prog 75 #[.pointer (some ⟨R, 0, none⟩), .pointer (some ⟨C, n * 6, none⟩), inV i] W fun e w' => e = .returned (.tuple #[]) ∧ Q w') : Calls Tryz.prog 33 #[.pointer (some ⟨R, 0, none⟩)] w fun e w' => e = .returned (.tuple #[]) ∧ Q w' := by
  have H : Hid (StpQ R C ca n q g o pl pc g1 o1 bl bc g2 o2 il ic k b j ob an rg i r cs w) := h
  have HKS : Hid (∀ W, Below w.heap.size w W → Kx C R n g o pl pc k g1 o1 bl bc b g2 o2 il ic j i W) := fun W hW => by
    have hc := h.bkc.below hW
    have ce : ∀ (t : Nat) (v : Value), (inC i)[t]? = some v → W.cell? ⟨g2, o2 + j * 9 + t, none⟩ = some v := fun t v ht => (World.cell?_of_block (hW.block g2 (World.block_lt_of_cell? _ _ (h.ce t v ht)))).trans (h.ce t v ht)
    exact ⟨(h.rb.below hW).cell (j := 0) (by rw [← h.pg]; rfl), hc.cell (j := n * 6) (h.fc 0 _ rfl), (World.cell?_of_block (hW.block g (World.block_lt_of_cell? _ _ h.f4))).trans h.f4, hc.cell (h.fc 3 _ rfl), (World.cell?_of_block (hW.block g1 (World.block_lt_of_cell? _ _ h.y0))).trans h.y0, hc.cell (h.fc 4 _ rfl), ce 0 _ rfl, ce 1 _ rfl, ce 2 _ rfl, ce 3 _ rfl, ce 4 _ rfl, ce 5 _ rfl, ce 6 _ rfl, ce 7 _ rfl, ce 8 _ rfl⟩
  have r4 := h.rb.cell (j := 4) (v := .slice (some ⟨C, 0, none⟩) (n + 1) ca) (by rw [← h.cv]; rfl)
  have hkI : (k : Int) < pl := by have := h.hk; omega
  have hbI : (b : Int) < bl := by have := h.hb; omega
  have hjI : (j : Int) < il := by have := h.hj; omega
  have e0 := wrapN n (by have := h.hn; omega)
  have e1 : IntKind.i64.wrap ((n : Int) + 1 - 1) = n := by rw [wrapI _ (by have := h.hn; omega) (by have := h.hn; omega)]; omega
  have ej := wrapN1 j (by have := h.hj2; omega)
  have lC := h.bkc.lt
  have lR := h.rb.lt
  have nRC : ¬ R = C := h.rb.ne h.bkc (by decide)
  have nCR : ¬ C = R := fun e => nRC e.symm
  have zc : ∀ t, w.frozen? ⟨C, t, none⟩ = false := h.bkc.fz
  have cj : w.cell? ⟨C, n * 6 + 4, none⟩ = some (.int .i64 (j : Nat)) := h.bkc.cell (h.fc 4 _ rfl)
  have HD : Hid (∀ W, SteQ C n j cs w W → Calls Tryz.prog 75 #[.pointer (some ⟨R, 0, none⟩), .pointer (some ⟨C, n * 6, none⟩), inV i] W fun e w' => e = .returned (.tuple #[]) ∧ Q w') := hd
  unfold inV at HD
  clear hd
  clear h
  go_enter Tryz.func33, Tryz.ntmps33
  go_wp2
  go_quiet (fail)
  go_wp2
  have HKV : Hid (∀ W, Below (w.drewN nq).heap.size (w.drewN nq) W → Kx C R n g o pl pc k g1 o1 bl bc b g2 o2 il ic j i W) := fun W hW => HKS.out W ((below_drewN (Below.refl _ _) nq).trans hW)
  have HV : Hid (Bk (w.drewN nq) C 109 cs ∧ Below w.heap.size w (w.drewN nq)) := ⟨H.out.bkc.drewN nq, below_drewN (Below.refl _ _) nq⟩
  have lCV : C < (w.drewN nq).heap.size := lC
  have lRV : R < (w.drewN nq).heap.size := lR
  have cjV : (w.drewN nq).cell? ⟨C, n * 6 + 4, none⟩ = some (.int .i64 (j : Nat)) := cj
  have cbV : (w.drewN nq).cell? ⟨C, n * 6 + 3, none⟩ = some (.int .i64 (b : Nat)) := H.out.bkc.cell (H.out.fc 3 _ rfl)
  have crV : (w.drewN nq).cell? ⟨C, n * 6 + 1, none⟩ = some (.slice (some ⟨q, 0, none⟩) rg.length rg.length) := H.out.bkc.cell (H.out.fc 1 _ rfl)
  have zcV : ∀ t, (w.drewN nq).frozen? ⟨C, t, none⟩ = false := zc
  clear r4 cj zc
  generalize hV : w.drewN nq = V at *
  clear hV
  go_region_held3 (fun W => Kx C R n g o pl pc k g1 o1 bl bc b g2 o2 il ic j i W) (first | exact HKV.out _ (Below.refl _ _).drew | exact HKV.out _ ((Below.refl V.heap.size V).alloc (Nat.le_refl _) _) | exact HKV.out _ ((Below.refl V.heap.size V).drew.alloc (Nat.le_refl _) _) | exact HKV.out _ ((Below.refl V.heap.size V).alloc (Nat.le_refl _) _).drew) (fail)
  go_wp2_with fail
  refine (HD.out _ (by (first | exact (SteQ.of HV.out.2 HV.out.1).then (((Below.refl _ _).alloc (Nat.le_refl _) _).drew) | exact (SteQ.of HV.out.2 HV.out.1).then ((Below.refl _ _).alloc (Nat.le_refl _) _)))).mono ?_
  rintro e w1 ⟨rfl, hq⟩
  go_wp2
  go_returns
  exact ⟨rfl, hq⟩
end
section
open Go.RowKit Go.Shelf
variable {p : List Fun} {s : St} {r : Rt}
theorem Sim.ended (h : Sim p s r) {k : Nat} {o : Ob} {kind t c : Int} (ho : r.os[k]? = some o) (he : o.ed = false) (hk : (toP o).kd = kind) (hat : o.ad = t) (hc : (o.ws.length : Int) = c) : (endS s kind t c).1 = true ∧ LvS (endS s kind t c).2.ps = LvR (edR r.os k) ∧ Srt (endS s kind t c).2.ps ∧ SrtR (edR r.os k) ∧ (∀ a ∈ (endS s kind t c).2.ps, a.ad + 8 * ((a.ws.length : Int) + 1) ≤ s.nx) ∧ (∀ o ∈ edR r.os k, o.ad + 8 * ((o.ws.length : Int) + 1) ≤ s.nx) ∧ ∀ x : Cal × Nat, ¬ x.2 = k → ObF p r.os x → ObF p (edR r.os k) x := by
  have hm := mem_lvR (List.mem_of_getElem? ho) he
  rw [← h.lv] at hm
  have hb := en_is (e := s.en) h.srt hm hk hat hc
  have hk0 : ¬ kind = 0 := by rw [← hk]; exact toP_kd o
  obtain ⟨y1, y2, _⟩ := en_yes h.srt hb hk0
  obtain ⟨e1, e2⟩ := lvR_end h.srtR ho
  have e3 : edR r.os k = r.os.set k { o with ed := true } := by unfold edR; rw [ho]
  rw [e3]
  have hbo := h.bndR o (List.mem_of_getElem? ho)
  refine ⟨hb, ?_, y2, ?_, fun a ha => ?_, fun a ha => ?_, fun x hx hO => ?_⟩
  · rw [e1, ← h.lv, hat]
    exact y1
  · show Srt ((r.os.set k _).map toP)
    rw [e2]
    exact h.srtR
  · rcases enK_mem kyA nilA s.ps s.en kind t c a ha with ha | ha
    · exact h.bnd a ha
    · rw [ha]
      unfold nilA
      simp only [List.length_nil]
      omega
  · rcases List.mem_or_eq_of_mem_set ha with ha | ha
    · exact h.bndR a ha
    · rw [ha]; exact hbo
  · obtain ⟨u, g1, g2⟩ := hO
    refine ⟨u, ?_, g2⟩
    rw [List.getElem?_set, if_neg (fun e => hx e.symm)]
    exact g1
theorem Sim.low_len (h : Sim p s r) : r.low.length = s.low.length := by
  rw [← h.low, List.length_map]
theorem obs_lt (h : Sim p s r) : ∀ x ∈ (r.top :: r.low).map (·.2), x < r.os.length := by
  intro x hx
  obtain ⟨y, hy, rfl⟩ := List.mem_map.1 hx
  obtain ⟨o, h1, _⟩ := h.fr y hy
  exact (List.getElem?_eq_some_iff.1 h1).1
/-- A call ends. -/
theorem back_same (h : Sim p s r) (v : Int) : Both p (bakS p s v) (bakR r v) := by
  unfold bakS bakR
  have hl := h.low
  cases hs : s.low with
  | nil =>
    rw [hs] at hl
    have : r.low = [] := List.map_eq_nil_iff.1 hl
    rw [this]
    show (⟨1, 0, s.out, s.st⟩ : Oc) = ⟨1, 0, r.out, r.st⟩
    rw [h.out, h.st]
  | cons t l =>
    rw [hs] at hl
    cases hr : r.low with
    | nil => rw [hr] at hl; cases hl
    | cons y z =>
      rw [hr] at hl
      have hy : y.1 = t := (List.cons.inj hl).1
      have hz : z.map (·.1) = l := (List.cons.inj hl).2
      obtain ⟨o, h1, h2, h3, h4, h5⟩ := h.fr r.top (by simp)
      have hk : (toP o).kd = 1 := by unfold toP; rw [h2]; rfl
      have hE := h.ended (t := s.top.fr) (c := ((frOf p s.top.k : Nat) : Int)) h1 h3 hk (by rw [h4, h.top]) (by rw [h5, h.top])
      obtain ⟨_, k2, k3, k4, k5, k6, k7⟩ := hE
      have hnd := h.nd
      rw [hr, List.map_cons, List.nodup_cons] at hnd
      have hfr : ∀ x ∈ y :: z, ObF p (edR r.os r.top.2) x := fun x hx => k7 x (fun e => hnd.1 (List.mem_map.2 ⟨x, hx, e⟩)) (h.fr x (by rw [hr]; exact List.mem_cons_of_mem _ hx))
      obtain ⟨j1, _, _, _, _, j6⟩ := setR_j t s.top.an v
      show Sim p _ _
      refine ⟨?_, hz, k2, k3, k4, h.nx, h.hp, h.inp, h.out, h.st, k5, k6, ?_, hnd.2⟩
      · show setR y.1 r.top.1.an v = setR t s.top.an v
        rw [hy, h.top]
      · intro x hx
        rcases List.mem_cons.1 hx with rfl | hx
        · obtain ⟨u, g1, g2, g3, g4, g5⟩ := hfr y (by simp)
          obtain ⟨m1, _, _, _, _, m6⟩ := setR_j y.1 r.top.1.an v
          exact ⟨u, g1, g2, g3, by rw [g4]; exact m6.symm, by rw [g5]; show frOf p y.1.k = frOf p (setR y.1 r.top.1.an v).k; rw [m1]⟩
        · exact hfr x (by simp [hx])
/-- A call begins. -/
theorem ent_same (h : Sim p s r) (k : Nat) (vs : List Int) (an : Int) : Sim p (entS p s s.top k vs an) (entR p r s.top k vs an) := by
  have t := h.add (kd := 1) (ws := List.replicate (frOf p k) 0) (bk := false) (d := ((frOf p k : Nat) : Int)) rfl (by simp)
  have hlt := obs_lt h
  refine ⟨?_, ?_, t.lv, t.srt, t.srtR, t.nx, t.hp, t.inp, t.out, t.st, t.bnd, t.bndR, ?_, ?_⟩
  · show (⟨k, _, r.nx, 0, 0, an⟩ : Cal) = ⟨k, _, s.nx, 0, 0, an⟩
    rw [h.nx]
  · show s.top :: r.low.map (·.1) = s.top :: s.low
    rw [h.low]
  · intro x hx
    rcases List.mem_cons.1 hx with rfl | hx
    · refine ⟨⟨r.nx, List.replicate (frOf p k) 0, false, false⟩, ?_, rfl, rfl, rfl, by simp [entR]⟩
      show (r.os ++ _)[r.os.length]? = _
      simp
    · rcases List.mem_cons.1 hx with rfl | hx
      · obtain ⟨o, g1, g2, g3, g4, g5⟩ := t.fr r.top (by simp)
        exact ⟨o, g1, g2, g3, by rw [g4, h.top], by rw [g5, h.top]⟩
      · exact t.fr x (by simp [hx])
  · show (r.os.length :: r.top.2 :: r.low.map (·.2)).Nodup
    rw [List.nodup_cons]
    exact ⟨fun hm => by have := hlt _ hm; omega, h.nd⟩
/-- A call's instruction. -/
theorem call_same (h : Sim p s r) {i : Ins} (hd : rtA i.nm.data.toList = none → s.low.length + 1 < 1000) : Both p (calS p s i) (calR p r i) := by
  unfold calS calR
  simp only []
  rw [h.top]
  generalize hvs : i.gs.map (getR s.top) = vs
  have hput : ∀ d v, Sim p { s with top := setR s.top d v } { r with top := (setR s.top d v, r.top.2) } := fun d v => h.put (setR_j _ _ _).1 (setR_j _ _ _).2.2.2.2.2
  by_cases n1 : i.nm.data.toList = [114, 116, 46, 112, 114, 105, 110, 116]
  · rw [if_pos n1, if_pos n1]
    have t := hput i.d 0
    exact ⟨t.top, t.low, t.lv, t.srt, t.srtR, t.nx, t.hp, t.inp, (by show r.out ++ _ = s.out ++ _; rw [h.out]), t.st, t.bnd, t.bndR, t.fr, t.nd⟩
  rw [if_neg n1, if_neg n1]
  by_cases n2 : i.nm.data.toList = [114, 116, 46, 114, 101, 97, 100]
  · rw [if_pos n2, if_pos n2, h.inp]
    have t := hput i.d (match s.inp with | [] => -1 | b :: _ => (b.toNat : Int))
    exact ⟨t.top, t.low, t.lv, t.srt, t.srtR, t.nx, t.hp, rfl, t.out, t.st, t.bnd, t.bndR, t.fr, t.nd⟩
  rw [if_neg n2, if_neg n2]
  by_cases n3 : i.nm.data.toList = [114, 116, 46, 97, 108, 108, 111, 99]
  · rw [if_pos n3, if_pos n3, h.hp]
    by_cases hc : vs.getD 0 0 < 0 ∨ 64 < vs.getD 0 0 ∨ 8192 < s.hp + vs.getD 0 0
    · rw [if_pos hc, if_pos hc]
      show (⟨1, 110, s.out, s.st⟩ : Oc) = ⟨1, 110, r.out, r.st⟩
      rw [h.out, h.st]
    · rw [if_neg hc, if_neg hc]
      have t := (hput i.d s.nx).add (kd := 2) (ws := List.replicate (vs.getD 0 0).toNat 0) (bk := true) (d := vs.getD 0 0) rfl (by simp only [List.length_replicate]; omega)
      refine ⟨?_, t.low, t.lv, t.srt, t.srtR, t.nx, rfl, t.inp, t.out, t.st, t.bnd, t.bndR, ?_, t.nd⟩
      · show setR s.top i.d r.nx = setR s.top i.d s.nx
        rw [h.nx]
      · intro x hx
        rcases List.mem_cons.1 hx with rfl | hx
        · obtain ⟨o, g1, g2, g3, g4, g5⟩ := t.fr (setR s.top i.d s.nx, r.top.2) (List.mem_cons_self ..)
          exact ⟨o, g1, g2, g3, by rw [g4]; show (setR s.top i.d s.nx).fr = (setR s.top i.d r.nx).fr; rw [h.nx], by rw [g5]; show frOf p (setR s.top i.d s.nx).k = frOf p (setR s.top i.d r.nx).k; rw [h.nx]⟩
        · exact t.fr x (List.mem_cons_of_mem _ hx)
  rw [if_neg n3, if_neg n3]
  by_cases n4 : i.nm.data.toList = [114, 116, 46, 102, 114, 101, 101]
  · rw [if_pos n4, if_pos n4]
    cases hf : frR r.os (vs.getD 0 0) (vs.getD 1 0) with
    | some k =>
      obtain ⟨o, h1, h2, h3, h4, h5⟩ := fr_some hf
      have hk : (toP o).kd = 2 := by unfold toP; rw [h2]; rfl
      obtain ⟨k1, k2, k3, k4, k5, k6, k7⟩ := h.ended h1 h3 hk h4 h5
      rw [if_pos k1]
      have t := hput i.d 0
      refine ⟨rfl, t.low, k2, k3, k4, t.nx, (by show r.hp - _ = s.hp - _; rw [h.hp]), t.inp, t.out, t.st, k5, k6, fun x hx => ?_, t.nd⟩
      have hO := t.fr x hx
      refine k7 x (fun e => ?_) hO
      obtain ⟨u, g1, g2, _⟩ := hO
      rw [e] at g1
      have e9 := h1.symm.trans g1
      cases e9
      rw [h2] at g2
      cases g2
    | none =>
      have hb : ¬ (endS s 2 (vs.getD 0 0) (vs.getD 1 0)).1 = true := fun hb => by
        obtain ⟨_, _, a, ha, g1, g2, g3⟩ := en_yes h.srt hb (by decide)
        rw [h.lv] at ha
        obtain ⟨o, ho, he, rfl⟩ := lvR_mem ha
        refine fr_none hf o ho ?_ he g2 g3
        unfold toP at g1
        cases hbk : o.bk with
        | true => rfl
        | false => rw [hbk] at g1; simp at g1
      rw [if_neg hb]
      show (⟨3, 0, s.out, s.st⟩ : Oc) = ⟨3, 0, r.out, r.st⟩
      rw [h.out, h.st]
  rw [if_neg n4, if_neg n4]
  have hl := hd (by unfold rtA; rw [if_neg n2, if_neg n1, if_neg n3, if_neg n4])
  rw [if_neg (by rw [h.low_len]; omega)]
  exact ent_same h _ _ _
/-- Any instruction. -/
theorem stp_same (h : Sim p s r) {i : Ins} (hd : i.op = 7 → rtA i.nm.data.toList = none → s.low.length + 1 < 1000) : Both p (stpS p s i) (stpR p r i) := by
  unfold stpS stpR
  dsimp only
  rw [h.top]
  by_cases o1 : i.op = 1
  · rw [if_pos o1, if_pos o1]; exact h.putR _ _
  rw [if_neg o1, if_neg o1]
  by_cases o2 : i.op = 2
  · rw [if_pos o2, if_pos o2]; exact h.putR _ _
  rw [if_neg o2, if_neg o2]
  by_cases o3 : i.op = 3
  · rw [if_pos o3, if_pos o3]; exact h.putR _ _
  rw [if_neg o3, if_neg o3]
  by_cases o4 : i.op = 4
  · rw [if_pos o4, if_pos o4]
    generalize wrap64 _ = t
    rcases word_same h.srt h.srtR h.lv t with ⟨e1, e2⟩ | ⟨k, k', m, a, o, e1, e2, h1, h2, h3, _⟩
    · rw [e1, e2]
      show (⟨3, 0, s.out, s.st⟩ : Oc) = ⟨3, 0, r.out, r.st⟩
      rw [h.out, h.st]
    · rw [e1, e2]
      have e3 : wdR r.os k' m = wdAt s.ps k m := by
        unfold wdR wdAt
        rw [h1, h2, ← h3]
        rfl
      simp only [e3]
      exact h.putR _ _
  rw [if_neg o4, if_neg o4]
  by_cases o5 : i.op = 5
  · rw [if_pos o5, if_pos o5]
    generalize wrap64 _ = t
    rcases word_same h.srt h.srtR h.lv t with ⟨e1, e2⟩ | ⟨k, k', m, a, o, e1, e2, _⟩
    · rw [e1, e2]
      show (⟨3, 0, s.out, s.st⟩ : Oc) = ⟨3, 0, r.out, r.st⟩
      rw [h.out, h.st]
    · rw [e1, e2]
      exact h.step.set e1 e2
  rw [if_neg o5, if_neg o5]
  by_cases o6 : i.op = 6
  · rw [if_pos o6, if_pos o6]; exact h.putR _ _
  rw [if_neg o6, if_neg o6]
  by_cases o7 : i.op = 7
  · rw [if_pos o7, if_pos o7]
    exact call_same h.step (fun hr => hd o7 hr)
  rw [if_neg o7, if_neg o7]
  by_cases o8 : i.op = 8
  · rw [if_pos o8, if_pos o8]; exact h.put rfl rfl
  rw [if_neg o8, if_neg o8]
  by_cases o9 : i.op = 9
  · rw [if_pos o9, if_pos o9]; exact h.put rfl rfl
  rw [if_neg o9, if_neg o9]
  by_cases o10 : i.op = 10
  · rw [if_pos o10, if_pos o10]; exact back_same h.step _
  rw [if_neg o10, if_neg o10]
  show (⟨1, i.n, s.out, s.st⟩ : Oc) = ⟨1, i.n, r.out, r.st⟩
  rw [h.out, h.st]
end
end Go.Proofs.YtdppoblbenbafaaGreatDoor
