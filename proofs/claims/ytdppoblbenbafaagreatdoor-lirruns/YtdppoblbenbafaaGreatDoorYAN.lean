/- Ended parts are let go, in whatever run. Memory is tidied, in whatever run. A part is looked for. A frame or a block ends, in whatever run. -/
import Derived.Test.YtdppoblbenbafaaGreatDoorYAM
import Derived.Test.YtdppoblbenbafaaGreatDoorYAD
namespace Go.Proofs.YtdppoblbenbafaaGreatDoor
section
open Go.RowKit Go.Shelf
set_option maxRecDepth 20000
set_option maxHeartbeats 2000000
/-- Those that have not ended. -/
def liveP (l : List Pt) : List Pt := l.filter fun p => decide (¬ p.kd = 0)
def flP (l : List Pt) : List Value := l.flatMap ptC
theorem fiE_cases : ∀ (l : List Pt) (s : Nat), (fiE l s = -1 ∧ liveP l = l) ∨ ∃ i p, fiE l s = ((s + i : Nat) : Int) ∧ l[i]? = some p ∧ p.kd = 0 ∧ liveP (l.take (i + 1)) = l.take i
  | [], s => .inl ⟨rfl, rfl⟩
  | p :: l, s => by
    by_cases hk : p.kd = 0
    · exact .inr ⟨0, p, by simp [fiE, hk], rfl, hk, by simp [liveP, hk]⟩
    · rcases fiE_cases l (s + 1) with ⟨h1, h2⟩ | ⟨i, q, h1, h2, h3, h4⟩
      · exact .inl ⟨by simp [fiE, hk, h1], by unfold liveP at *; rw [List.filter_cons_of_pos (by simpa using hk), h2]⟩
      · refine .inr ⟨i + 1, q, by simp only [fiE, if_neg hk, h1]; congr 1; omega, by simpa using h2, h3, ?_⟩
        unfold liveP at *
        rw [List.take_succ_cons, List.filter_cons_of_pos (by simpa using hk), h4]
        simp
theorem liveP_snoc (l : List Pt) (p : Pt) : liveP (l ++ [p]) = if p.kd = 0 then liveP l else liveP l ++ [p] := by
  unfold liveP
  by_cases h : p.kd = 0 <;> simp [h]
/-- Parts as cells of a list. -/
theorem fl_take : ∀ (l : List Pt) (cs : List Value), (∀ k p, l[k]? = some p → cs[k * 3]? = some (.int .i64 p.kd) ∧ cs[k * 3 + 1]? = some (.int .i64 p.at_) ∧ cs[k * 3 + 2]? = some (.slice p.wa p.wn p.wc)) → cs.take (l.length * 3) = flP l
  | [], cs, _ => by simp [flP]
  | p :: l, cs, h => by
    obtain ⟨h0, h1, h2⟩ := h 0 p rfl
    have hl : 2 < cs.length := (List.getElem?_eq_some_iff.1 h2).1
    match cs, h0, h1, h2, hl, h with
    | a :: b :: c :: r, h0, h1, h2, _, h =>
      simp at h0 h1 h2
      have := fl_take l r (fun k q hk => by
        obtain ⟨x, y, z⟩ := h (k + 1) q (by simpa using hk)
        refine ⟨?_, ?_, ?_⟩
        · rw [show (k + 1) * 3 = k * 3 + 1 + 1 + 1 by omega] at x; simpa using x
        · rw [show (k + 1) * 3 + 1 = k * 3 + 1 + 1 + 1 + 1 by omega] at y; simpa using y
        · rw [show (k + 1) * 3 + 2 = k * 3 + 2 + 1 + 1 + 1 by omega] at z; simpa using z)
      rw [show (p :: l).length * 3 = l.length * 3 + 1 + 1 + 1 by simp; omega]
      simp only [List.take_succ_cons, this, h0, h1, h2, flP, List.flatMap_cons, ptC]
      rfl
theorem setRow_bk {W : World} {g : Nat} {t : TypeId} {cs : List Value} (h : Bk W g t cs) (ds : List Value) : Bk (W.setRow g ds.toArray) g t ds ∧ Onl (fun b => b = g) W (W.setRow g ds.toArray) := by
  refine ⟨?_, rfl, rfl, rfl, by simp [World.setRow], fun k hk hx => ?_⟩
  · unfold Bk World.setRow at *
    obtain ⟨hlt, hk⟩ := Array.getElem?_eq_some_iff.1 h
    show (W.heap.modify g _)[g]? = _
    rw [Array.getElem?_eq_getElem (by rw [Array.size_modify]; exact hlt), Array.getElem_modify_self, hk]
  · unfold World.setRow
    show (W.heap.modify g _)[k]? = _
    rw [Array.getElem?_modify]
    rw [if_neg (fun e => hx e.symm)]
theorem clearP (P m c ca : Nat) (cs : List Value) (W : World) (hB : Bk W P 174 cs) (hc : 0 < c) (hf : m * 3 + c * 3 ≤ cs.length) : ∃ W', (Builtin.clear_ #[98] 0 #[.slice (some ⟨P, m * 3, none⟩) c ca]).run Tryz.prog W = .ok (.tuple #[]) W' ∧ Onl (fun b => b = P) W W' ∧ ∃ ds, Bk W' P 174 ds ∧ ds.length = cs.length ∧ ds.take (m * 3) = cs.take (m * 3) := by
  obtain ⟨c, rfl⟩ : ∃ k, c = k + 1 := ⟨c - 1, by omega⟩
  have hz : (zeroValue 174).run Tryz.prog W = .ok (.agg #[.int .i64 0, .int .i64 0, .slice none 0 0]) W := by kernel_rfl
  generalize hzs : (Builtin.zeroCells #[.int .i64 0, .int .i64 0, .slice none 0 0] (c + 1)).toList = zs
  have hlen : zs.length = (c + 1) * 3 := by rw [← hzs]; simp [Builtin.zeroCells]
  have hone : ∀ v ∈ zs, v.oneCell' = true := by
    intro v hv
    rw [← hzs] at hv
    simp only [Builtin.zeroCells, Array.toList_map, List.mem_map] at hv
    obtain ⟨i, _, rfl⟩ := hv
    have h3 : i % 3 = 0 ∨ i % 3 = 1 ∨ i % 3 = 2 := by omega
    show ((#[Value.int .i64 0, .int .i64 0, .slice none 0 0] : Array Value)[i % 3]!).oneCell' = true
    rcases h3 with h | h | h <;> rw [h] <;> rfl
  have hst := run_storeCells_at (P := Tryz.prog) P (m * 3) 174 zs 0 cs.toArray W hB (by simp; omega) hone
  refine ⟨W.setRow P (cs.take (m * 3) ++ zs ++ cs.drop (m * 3 + zs.length)).toArray, ?_, (setRow_bk hB _).2, _, (setRow_bk hB _).1, ?_, ?_⟩
  · unfold Builtin.clear_
    simp [Sem.run_bind, run_underlying Tryz.underlying98, hz, Value.cells, hzs]
    rw [hst]
    simp [Result.andThen]
  · simp; omega
  · rw [List.append_assoc, List.take_append_of_le_length (by simp; omega), List.take_take, Nat.min_self]
theorem set3 (ds : List Value) (m : Nat) (a b c : Value) (h : m * 3 + 2 < ds.length) : (∀ t, (t < m * 3 ∨ m * 3 + 2 < t) → (((ds.set (m * 3) a).set (m * 3 + 1) b).set (m * 3 + 2) c)[t]? = ds[t]?) ∧ (((ds.set (m * 3) a).set (m * 3 + 1) b).set (m * 3 + 2) c)[m * 3]? = some a ∧ (((ds.set (m * 3) a).set (m * 3 + 1) b).set (m * 3 + 2) c)[m * 3 + 1]? = some b ∧ (((ds.set (m * 3) a).set (m * 3 + 1) b).set (m * 3 + 2) c)[m * 3 + 2]? = some c := by
  refine ⟨fun t ht => ?_, ?_, ?_, ?_⟩
  · rw [List.getElem?_set_ne (by omega), List.getElem?_set_ne (by omega), List.getElem?_set_ne (by omega)]
  · rw [List.getElem?_set_ne (by omega), List.getElem?_set_ne (by omega), List.getElem?_set_self (by omega)]
  · rw [List.getElem?_set_ne (by omega), List.getElem?_set_self (by simp; omega)]
  · rw [List.getElem?_set_self (by simp; omega)]
/-- Where the letting go stands. -/
structure DelI (P : Nat) (cs : List Value) (l : List Pt) (j : Nat) (w wx : World) : Prop where
  onl : Onl (fun b => b = P) w wx
  ex : ∃ ds, Bk wx P 174 ds ∧ ds.length = cs.length ∧ (∀ (k : Nat) (p : Pt), (liveP (l.take j))[k]? = some p → ds[k * 3]? = some (.int .i64 p.kd) ∧ ds[k * 3 + 1]? = some (.int .i64 p.at_) ∧ ds[k * 3 + 2]? = some (.slice p.wa p.wn p.wc)) ∧ (∀ (k : Nat) (p : Pt), j ≤ k → l[k]? = some p → ds[k * 3]? = some (.int .i64 p.kd) ∧ ds[k * 3 + 1]? = some (.int .i64 p.at_) ∧ ds[k * 3 + 2]? = some (.slice p.wa p.wn p.wc))
theorem delete74g (P pa : Nat) (l : List Pt) (cs : List Value) (w : World) (hB : Bk w P 174 cs) (hA : PtA w P l) (hn : l.length ≤ 1000000) (hcl : l.length * 3 ≤ cs.length) (hpa : l.length ≤ pa) : Calls Tryz.prog 169 #[.slice (some ⟨P, 0, none⟩) l.length pa, .func (.func 170) #[] #[]] w fun e w' => e = .returned (.slice (some ⟨P, 0, none⟩) (liveP l).length pa) ∧ Onl (fun b => b = P) w w' ∧ ∃ cs', Bk w' P 174 cs' ∧ cs'.length = cs.length ∧ cs'.take ((liveP l).length * 3) = flP (liveP l) := by
  have hI := index79g P pa l w hA hn
  have HA : Hid (PtA w P l) := hA
  have HB : Hid (Bk w P 174 cs) := hB
  obtain ⟨n, hnn⟩ : ∃ n, n = l.length := ⟨_, rfl⟩
  have HN : Hid (n = l.length) := hnn
  rw [← hnn] at hn hcl hpa hI ⊢
  clear hA hB hnn
  rcases fiE_cases l 0 with ⟨h1, h2⟩ | ⟨i, p0, h1, h2, h3, h4⟩
  · rw [h1] at hI
    rw [h2]
    have HI : Hid (Calls Tryz.prog 181 #[.slice (some ⟨P, 0, none⟩) n pa, .func (.func 170) #[] #[]] w fun e w' => e = .returned (.int .i64 (-1)) ∧ G w w') := hI
    clear hI h1 h2
    rw [← HN.out]
    go_enter Tryz.func169, Tryz.ntmps169
    go_wp2_with fail
    refine HI.out.mono ?_
    rintro e w1 ⟨rfl, hg⟩
    have HG : Hid (G w w1) := hg
    clear hg
    go_wp2
    go_ret
    refine ⟨rfl, Onl.of_below HG.out.below, cs, HB.out.below HG.out.below, rfl, ?_⟩
    rw [HN.out]
    refine fl_take l cs (fun k p hk => ?_)
    obtain ⟨c0, c1, c2⟩ := HA.out k p hk
    have hcell : ∀ t v, w.cell? ⟨P, t, none⟩ = some v → cs[t]? = some v := fun t v hv => by
      have hb := HB.out
      unfold Bk at hb
      simp only [World.cell?, hb] at hv
      simpa using hv
    exact ⟨hcell _ _ c0, hcell _ _ c1, hcell _ _ c2⟩
  · rw [h1] at hI
    have hi : i < n := by have := (List.getElem?_eq_some_iff.1 h2).1; have := HN.out; omega
    simp only [Nat.zero_add] at hI
    have HI : Hid (Calls Tryz.prog 181 #[.slice (some ⟨P, 0, none⟩) n pa, .func (.func 170) #[] #[]] w fun e w' => e = .returned (.int .i64 i) ∧ G w w') := hI
    have HL : Hid (liveP (l.take (i + 1)) = l.take i) := h4
    clear hI h1 h2 h3 h4
    have hi1 : ((i : Int) == -1) = false := by simp
    go_enter Tryz.func169, Tryz.ntmps169
    go_wp2_with fail
    refine HI.out.mono ?_
    rintro e w1 ⟨rfl, hg⟩
    have HG : Hid (G w w1) := hg
    clear hg
    go_wp2
    have HCell : Hid (∀ (k : Nat) (p : Pt), l[k]? = some p → cs[k * 3]? = some (.int .i64 p.kd) ∧ cs[k * 3 + 1]? = some (.int .i64 p.at_) ∧ cs[k * 3 + 2]? = some (.slice p.wa p.wn p.wc)) := fun k p hk => by
      obtain ⟨c0, c1, c2⟩ := HA.out k p hk
      have hcell : ∀ t v, w.cell? ⟨P, t, none⟩ = some v → cs[t]? = some v := fun t v hv => by
        have hb := HB.out
        unfold Bk at hb
        simp only [World.cell?, hb] at hv
        simpa using hv
      exact ⟨hcell _ _ c0, hcell _ _ c1, hcell _ _ c2⟩
    go_loopw [5, 6] (fun a b wx => ∃ m j : Nat, a = .int .i64 m ∧ b = .int .i64 j ∧ i < j ∧ j ≤ n ∧ m = (liveP (l.take j)).length ∧ m < j ∧ DelI P cs l j w wx) (fun _ b _ => n - (intOf b).toNat)
    case atStart =>
      exact ⟨i, i + 1, rfl, by go_num, by omega, by omega, by rw [HL.out, List.length_take]; have := HN.out; omega, by omega, Onl.of_below HG.out.below, cs, HB.out.below HG.out.below, rfl, fun k p hk => by
        rw [HL.out] at hk
        exact HCell.out k p (by rw [List.getElem?_take] at hk; split at hk; exact hk; cases hk), fun k p _ hk => HCell.out k p hk⟩
    case round =>
      obtain ⟨m, j, rfl, rfl, hij, hjn, hm, hmj, hD⟩ := hrel
      have HM : Hid (m = (liveP (l.take j)).length) := hm
      obtain ⟨ho, ds, hb, hdl, hd1, hd2⟩ := hD
      have HO : Hid (Onl (fun b => b = P) w wr) := ho
      have HD : Hid (Bk wr P 174 ds ∧ ds.length = cs.length ∧ (∀ (k : Nat) (p : Pt), (liveP (l.take j))[k]? = some p → ds[k * 3]? = some (.int .i64 p.kd) ∧ ds[k * 3 + 1]? = some (.int .i64 p.at_) ∧ ds[k * 3 + 2]? = some (.slice p.wa p.wn p.wc)) ∧ (∀ (k : Nat) (p : Pt), j ≤ k → l[k]? = some p → ds[k * 3]? = some (.int .i64 p.kd) ∧ ds[k * 3 + 1]? = some (.int .i64 p.at_) ∧ ds[k * 3 + 2]? = some (.slice p.wa p.wn p.wc))) := ⟨hb, hdl, hd1, hd2⟩
      clear hm ho hb hdl hd1 hd2
      by_cases hlt : j < n
      · obtain ⟨p, hp⟩ : ∃ p, l[j]? = some p := ⟨_, List.getElem?_eq_getElem (by have := HN.out; omega)⟩
        have HT : Hid (l.take (j + 1) = l.take j ++ [p]) := by
          show _ = _
          rw [List.take_add_one, hp]
          rfl
        obtain ⟨q0, q1, q2⟩ := HD.out.2.2.2 j p (Nat.le_refl _) hp
        have c0 := HD.out.1.cell q0
        have c1 := HD.out.1.cell q1
        have c2 := HD.out.1.cell q2
        have hPl := HD.out.1.lt
        have hlt' : (j : Int) < n := by omega
        have HC := ended75g p
        have HNB : Hid (Bk (wr.alloc (.cells #[.int .i64 p.kd, .int .i64 p.at_, .slice p.wa p.wn p.wc] 174)) wr.heap.size 174 [.int .i64 p.kd, .int .i64 p.at_, .slice p.wa p.wn p.wc]) := Bk.new wr [.int .i64 p.kd, .int .i64 p.at_, .slice p.wa p.wn p.wc] 174
        clear hp q0 q1 q2
        by_cases hk : p.kd = 0
        · have hd : decide (p.kd = 0) = true := by simpa using hk
          have HS : Hid (liveP (l.take (j + 1)) = liveP (l.take j)) := by show _ = _; rw [HT.out, liveP_snoc, if_pos hk]
          rw [hd] at HC
          clear hk hd
          go_wp2_with fail
          refine (HC _).mono ?_
          rintro e w2 ⟨rfl, hg⟩
          have HG2 : Hid (Below wr.heap.size wr w2) := ((Below.refl _ wr).alloc (Nat.le_refl _) _).trans (hg.below.mono (by simp))
          have hx := HNB.out.below hg.below
          have x0 := hx.cell (j := 0) rfl
          have x1 := hx.cell (j := 1) rfl
          have x2 := hx.cell (j := 2) rfl
          clear hg hx
          go_wp2
          go_round
          case rel =>
            refine ⟨m, j + 1, rfl, by go_num, by omega, by omega, by rw [HS.out]; exact HM.out, by omega, HO.out.trans (Onl.of_below HG2.out), ds, HD.out.1.below HG2.out, HD.out.2.1, ?_, fun k p hk => HD.out.2.2.2 k p (by omega)⟩
            rw [HS.out]
            exact HD.out.2.2.1
          case measure => simp [intOf]; omega
        · have hd : decide (p.kd = 0) = false := by simpa using hk
          have HS : Hid (liveP (l.take (j + 1)) = liveP (l.take j) ++ [p]) := by show _ = _; rw [HT.out, liveP_snoc, if_neg hk]
          rw [hd] at HC
          clear hk hd
          have hml : m * 3 + 2 < ds.length := by have := HD.out.2.1; omega
          go_wp2_with fail
          refine (HC _).mono ?_
          rintro e w2 ⟨rfl, hg⟩
          have HG2 : Hid (Below wr.heap.size wr w2) := ((Below.refl _ wr).alloc (Nat.le_refl _) _).trans (hg.below.mono (by simp))
          have hx := HNB.out.below hg.below
          have x0 := hx.cell (j := 0) rfl
          have x1 := hx.cell (j := 1) rfl
          have x2 := hx.cell (j := 2) rfl
          have hP2 := HD.out.1.below HG2.out
          have y0 := hP2.cell (j := m * 3) (List.getElem?_eq_getElem (by omega))
          have y1 := hP2.cell (j := m * 3 + 1) (List.getElem?_eq_getElem (by omega))
          have y2 := hP2.cell (j := m * 3 + 2) (List.getElem?_eq_getElem (by omega))
          have z0 := hP2.fz (m * 3)
          have z1 := hP2.fz (m * 3 + 1)
          have z2 := hP2.fz (m * 3 + 2)
          have hmn : (m : Int) < n := by omega
          have e1 : IntKind.i64.wrap ((m : Int) + 1) = (m : Int) + 1 := wrapI _ (by omega) (by omega)
          have HP2 : Hid (Bk w2 P 174 ds) := hP2
          generalize ds[m * 3] = d0 at *
          generalize ds[m * 3 + 1] = d1 at *
          generalize ds[m * 3 + 2] = d2 at *
          clear hg hx hP2
          go_wp2
          go_round
          case rel =>
            obtain ⟨s0, s1, s2, s3⟩ := set3 ds m (.int .i64 p.kd) (.int .i64 p.at_) (.slice p.wa p.wn p.wc) hml
            refine ⟨m + 1, j + 1, by go_num, by go_num, by omega, by omega, by rw [HS.out, List.length_append, ← HM.out]; rfl, by omega, (((HO.out.trans (Onl.of_below HG2.out)).set (S := fun b => b = P) (b := P) rfl).set (S := fun b => b = P) (b := P) rfl).set (S := fun b => b = P) (b := P) rfl, _, ((HP2.out.set (m * 3) _).set (m * 3 + 1) _).set (m * 3 + 2) _, by simpa using HD.out.2.1, fun k p' hk => ?_, fun k p' hk hk' => ?_⟩
            · rw [HS.out] at hk
              by_cases hkm : k < m
              · rw [List.getElem?_append_left (by have := HM.out; omega)] at hk
                obtain ⟨t0, t1, t2⟩ := HD.out.2.2.1 k p' hk
                exact ⟨(s0 _ (by omega)).trans t0, (s0 _ (by omega)).trans t1, (s0 _ (by omega)).trans t2⟩
              · rw [List.getElem?_append_right (by have := HM.out; omega)] at hk
                have hkk : k - (liveP (l.take j)).length = 0 := by
                  have := (List.getElem?_eq_some_iff.1 hk).1
                  simp at this
                  omega
                rw [hkk] at hk
                cases hk
                obtain rfl : k = m := by have := HM.out; omega
                exact ⟨s1, s2, s3⟩
            · obtain ⟨t0, t1, t2⟩ := HD.out.2.2.2 k p' (by omega) hk'
              exact ⟨(s0 _ (by omega)).trans t0, (s0 _ (by omega)).trans t1, (s0 _ (by omega)).trans t2⟩
          case measure => simp [intOf]; omega
      · obtain rfl : n = j := by omega
        have hlt' : ¬ (n : Int) < n := by omega
        have hmn : (m : Int) ≤ n := by omega
        have hm0 : ¬ (m : Int) < 0 := by omega
        have hmp : (m : Int) ≤ pa := by omega
        obtain ⟨W', hcw, ho', ds', hb', hl', ht'⟩ := clearP P m (n - m) (pa - m) ds wr HD.out.1 (by omega) (by have := HD.out.2.1; omega)
        have hlt2 : l.take n = l := List.take_of_length_le (by have := HN.out; omega)
        have HF : Hid (m = (liveP l).length ∧ Onl (fun b => b = P) w W' ∧ Bk W' P 174 ds' ∧ ds'.length = cs.length ∧ ds'.take (m * 3) = flP (liveP l)) := by
          refine ⟨by have := HM.out; rwa [hlt2] at this, HO.out.trans ho', hb', hl'.trans HD.out.2.1, ?_⟩
          rw [ht']
          have h1 := HD.out.2.2.1
          have h2 := HM.out
          rw [hlt2] at h1 h2
          rw [h2]
          exact fl_take (liveP l) ds h1
        clear ho' hb' hl' ht' hlt2
        go_wp2
        go_ret
        obtain ⟨f1, f2, f3, f4, f5⟩ := HF.out
        exact ⟨by rw [← f1]; rfl, f2, ds', f3, f4, by rw [← f1]; exact f5⟩
end
section
open Go.RowKit Go.Shelf
set_option maxRecDepth 20000
set_option maxHeartbeats 2000000
/-- Parts that lie at P, with room behind. -/
structure Prt (W : World) (P : Nat) (l : List Pt) (len : Nat) : Prop where
  out : ∃ cs, Bk W P 174 cs ∧ cs.length = len ∧ cs.take (l.length * 3) = flP l ∧ l.length * 3 ≤ len
theorem flP_at : ∀ (l : List Pt) (k : Nat) (p : Pt), l[k]? = some p → (flP l)[k * 3]? = some (.int .i64 p.kd) ∧ (flP l)[k * 3 + 1]? = some (.int .i64 p.at_) ∧ (flP l)[k * 3 + 2]? = some (.slice p.wa p.wn p.wc)
  | [], k, p, h => by simp at h
  | q :: l, 0, p, h => by simp at h; subst h; exact ⟨rfl, rfl, rfl⟩
  | q :: l, k + 1, p, h => by
    obtain ⟨a, b, c⟩ := flP_at l k p (by simpa using h)
    refine ⟨?_, ?_, ?_⟩
    · rw [show (k + 1) * 3 = k * 3 + 1 + 1 + 1 by omega]; simpa [flP, ptC] using a
    · rw [show (k + 1) * 3 + 1 = k * 3 + 1 + 1 + 1 + 1 by omega]; simpa [flP, ptC] using b
    · rw [show (k + 1) * 3 + 2 = k * 3 + 2 + 1 + 1 + 1 by omega]; simpa [flP, ptC] using c
theorem Prt.pta {W : World} {P : Nat} {l : List Pt} {len : Nat} (h : Prt W P l len) : PtA W P l := fun k p hk => by
  obtain ⟨cs, hb, hl, ht, hle⟩ := h.out
  have hkl := (List.getElem?_eq_some_iff.1 hk).1
  have key : ∀ t v, t < l.length * 3 → (flP l)[t]? = some v → W.cell? ⟨P, t, none⟩ = some v := fun t v htl hv => hb.cell (by rw [← ht, List.getElem?_take, if_pos htl] at hv; exact hv)
  obtain ⟨a, b, c⟩ := flP_at l k p hk
  exact ⟨key _ _ (by omega) a, key _ _ (by omega) b, key _ _ (by omega) c⟩
theorem Prt.keep {W W' : World} {P : Nat} {l : List Pt} {len : Nat} (h : Prt W P l len) (e : W'.heap[P]? = W.heap[P]?) : Prt W' P l len := by
  obtain ⟨cs, hb, r⟩ := h.out
  exact ⟨cs, hb.keep e, r⟩
theorem Prt.lt {W : World} {P : Nat} {l : List Pt} {len : Nat} (h : Prt W P l len) : P < W.heap.size := by
  obtain ⟨cs, hb, r⟩ := h.out
  exact hb.lt
theorem Prt.below {W W' : World} {P : Nat} {l : List Pt} {len : Nat} (h : Prt W P l len) (hb : Below W.heap.size W W') : Prt W' P l len := h.keep (hb.block P h.lt)
theorem Prt.ne {W : World} {P R : Nat} {l : List Pt} {len : Nat} {r : Rs} (h : Prt W P l len) (hR : Rb W R r) : R ≠ P := by
  obtain ⟨cs, hb, _⟩ := h.out
  exact hR.ne hb (by decide)
theorem tidy_no (R P pa : Nat) (r : Rs) (l : List Pt) (w : World) (hR : Rb w R r) (hpv : r.pv = .slice (some ⟨P, 0, none⟩) l.length pa) (e0 : 0 ≤ r.en) (e1 : r.en ≤ 1000000) (h : 2 * r.en < l.length) : Calls Tryz.prog 155 #[.pointer (some ⟨R, 4, none⟩)] w fun e w' => e = .returned (.tuple #[]) ∧ ∃ k, w' = w.drewN k := by
  have c4 := dcell (hpv ▸ hR.cell (j := 4) rfl : w.cell? ⟨R, 4, none⟩ = some (.slice (some ⟨P, 0, none⟩) l.length pa))
  have c5 := dcell (hR.cell (j := 5) rfl)
  have q1 : IntKind.i64.wrap (2 * r.en) = 2 * r.en := wrapI _ (by omega) (by omega)
  generalize l.length = n at *
  clear hR hpv
  go_enter Tryz.func155, Tryz.ntmps155
  go_wp2
  go_quiet (fail)
  go_wp2
  go_returns
  exact ⟨rfl, _, rfl⟩
theorem tidy_yes (R P pa len : Nat) (r : Rs) (l : List Pt) (w : World) (hR : Rb w R r) (hP : Prt w P l len) (hpv : r.pv = .slice (some ⟨P, 0, none⟩) l.length pa) (hpa : l.length ≤ pa) (e0 : 0 ≤ r.en) (e1 : r.en ≤ 1000000) (hn : l.length ≤ 1000000) (h : ¬ 2 * r.en < l.length) : Calls Tryz.prog 155 #[.pointer (some ⟨R, 4, none⟩)] w fun e w' => e = .returned (.tuple #[]) ∧ Onl (fun b => b = R ∨ b = P) w w' ∧ Rb w' R { r with pv := .slice (some ⟨P, 0, none⟩) (liveP l).length pa, en := 0 } ∧ Prt w' P (liveP l) len := by
  have c4 := dcell (hpv ▸ hR.cell (j := 4) rfl : w.cell? ⟨R, 4, none⟩ = some (.slice (some ⟨P, 0, none⟩) l.length pa))
  have c5 := dcell (hR.cell (j := 5) rfl)
  have q1 : IntKind.i64.wrap (2 * r.en) = 2 * r.en := wrapI _ (by omega) (by omega)
  have HR : Hid (∀ k, Rb (w.drewN k) R r) := fun k => hR.drewN k
  have HN : Hid (R ≠ P) := hP.ne hR
  obtain ⟨cs, hb, hl, ht, hle⟩ := hP.out
  have HD : Hid (∀ k, Calls Tryz.prog 169 #[.slice (some ⟨P, 0, none⟩) l.length pa, .func (.func 170) #[] #[]] (w.drewN k) fun e w' => e = .returned (.slice (some ⟨P, 0, none⟩) (liveP l).length pa) ∧ Onl (fun b => b = P) (w.drewN k) w' ∧ ∃ cs', Bk w' P 174 cs' ∧ cs'.length = cs.length ∧ cs'.take ((liveP l).length * 3) = flP (liveP l)) := fun k => delete74g P pa l cs _ (hb.drewN k) (hP.pta.below (below_drewN (Below.refl _ _) k)) hn (by omega) hpa
  have HL : Hid (cs.length = len ∧ (liveP l).length * 3 ≤ len) := ⟨hl, by have := List.length_filter_le (fun p : Pt => decide (¬ p.kd = 0)) l; unfold liveP; omega⟩
  clear hb hl ht hle hP hR
  generalize l.length = n at *
  clear hpv hpa
  go_enter Tryz.func155, Tryz.ntmps155
  go_wp2
  go_quiet (fail)
  go_wp2_with fail
  refine (HD.out nq).mono ?_
  rintro e w1 ⟨rfl, ho, cs', hb', hl', ht'⟩
  have HO : Hid (Onl (fun b => b = P) (w.drewN nq) w1) := ho
  have HP1 : Hid (Bk w1 P 174 cs' ∧ cs'.length = cs.length ∧ cs'.take ((liveP l).length * 3) = flP (liveP l)) := ⟨hb', hl', ht'⟩
  have hR1 := (HR.out nq).onl ho HN.out
  have HR1 : Hid (Rb w1 R r) := hR1
  have z4 := hR1.fz 4
  have z5 := hR1.fz 5
  have k4 := hR1.cell (j := 4) rfl
  have k5 := hR1.cell (j := 5) rfl
  clear ho hb' hl' ht' hR1
  go_wp2
  go_returns
  refine ⟨rfl, ((((Onl.of_below (below_drewN (Below.refl _ _) nq)).trans (HO.out.mono fun b e => .inr e)).set (S := fun b => b = R ∨ b = P) (b := R) (.inl rfl)).set (S := fun b => b = R ∨ b = P) (b := R) (.inl rfl)), (HR1.out.set 4 _).set 5 _, ⟨cs', (HP1.out.1.other (fun e => HN.out e.symm)).other (fun e => HN.out e.symm), HP1.out.2.1.trans HL.out.1, HP1.out.2.2, HL.out.2⟩⟩
end
section
open Go.RowKit Go.Shelf
set_option maxHeartbeats 2000000
/-- Where a search comes to. -/
def bsF (p : Nat → Bool) (i j : Nat) : Nat := if h : i < j then (if p ((i + j) / 2) then bsF p i ((i + j) / 2) else bsF p ((i + j) / 2 + 1) j) else i
termination_by j - i
theorem bsF_le (p : Nat → Bool) (i j : Nat) (h : i ≤ j) : i ≤ bsF p i j ∧ bsF p i j ≤ j := by
  induction hn : j - i using Nat.strongRecOn generalizing i j with
  | _ n ih =>
    rw [bsF]
    by_cases hij : i < j
    · rw [dif_pos hij]
      by_cases hp : p ((i + j) / 2) = true
      · rw [if_pos hp]
        have := ih ((i + j) / 2 - i) (by omega) i ((i + j) / 2) (by omega) rfl
        omega
      · rw [if_neg hp]
        have := ih (j - ((i + j) / 2 + 1)) (by omega) ((i + j) / 2 + 1) j (by omega) rfl
        omega
    · rw [dif_neg hij]
      omega
theorem later72g (R P pa n b1 b2 k : Nat) (t a : Int) (w : World) (h1 : w.cell? ⟨b1, 0, none⟩ = some (.pointer (some ⟨R, 4, none⟩))) (h2 : w.cell? ⟨b2, 0, none⟩ = some (.int .i64 t)) (h4 : w.cell? ⟨R, 4, none⟩ = some (.slice (some ⟨P, 0, none⟩) n pa)) (hk : k < n) (p1 : w.cell? ⟨P, k * 3 + 1, none⟩ = some (.int .i64 a)) : Calls Tryz.prog 167 #[.int .i64 k, .pointer (some ⟨b1, 0, none⟩), .pointer (some ⟨b2, 0, none⟩)] w fun e w' => e = .returned (.bool (decide (t < a))) ∧ ∃ n, w' = w.drewN n := by
  go_enter Tryz.func167, Tryz.ntmps167
  go_wp2
  go_quiet (fail)
  go_wp2
  go_ret
  exact ⟨rfl, _, rfl⟩
theorem search71g (n b1 b2 : Nat) (p : Nat → Bool) (w : World) (hn : n ≤ 1000000) (hL : ∀ k, k < n → ∀ q, Calls Tryz.prog 167 #[.int .i64 k, .pointer (some ⟨b1, 0, none⟩), .pointer (some ⟨b2, 0, none⟩)] (w.drewN q) fun e w' => e = .returned (.bool (p k)) ∧ ∃ m, w' = (w.drewN q).drewN m) : Calls Tryz.prog 166 #[.int .i64 n, .func (.func 167) #[] #[.pointer (some ⟨b1, 0, none⟩), .pointer (some ⟨b2, 0, none⟩)]] w fun e w' => e = .returned (.int .i64 (bsF p 0 n : Nat)) ∧ ∃ q, w' = w.drewN q := by
  have HL : Hid (∀ k, k < n → ∀ q, Calls Tryz.prog 167 #[.int .i64 k, .pointer (some ⟨b1, 0, none⟩), .pointer (some ⟨b2, 0, none⟩)] (w.drewN q) fun e w' => e = .returned (.bool (p k)) ∧ ∃ m, w' = (w.drewN q).drewN m) := hL
  clear hL
  go_enter Tryz.func166, Tryz.ntmps166
  go_wp2
  go_loopw [5, 6] (fun i j wx => ∃ a b : Nat, a ≤ b ∧ b ≤ n ∧ i = .int .i64 a ∧ j = .int .i64 b ∧ bsF p a b = bsF p 0 n ∧ ∃ q, wx = w.drewN q) (fun i j _ => (intOf j).toNat - (intOf i).toNat)
  case atStart => exact ⟨0, n, by omega, by omega, rfl, rfl, rfl, 0, rfl⟩
  case round =>
    obtain ⟨a, b, hab, hbn, rfl, rfl, hbs, q, rfl⟩ := hrel
    have HBS : Hid (bsF p a b = bsF p 0 n) := hbs
    clear hbs
    by_cases hlt : a < b
    · have e1 : IntKind.i64.wrap ((a : Int) + b) = (a : Int) + b := wrapI _ (by omega) (by omega)
      have e2 : IntKind.u64.wrap ((a : Int) + b) = (a : Int) + b := by simp only [IntKind.wrap, IntKind.bits, IntKind.signed]; simp; omega
      obtain ⟨h, hh⟩ : ∃ h : Nat, (a + b) / 2 = h := ⟨_, rfl⟩
      have e3 : ((a : Int) + b) / 2 = (h : Int) := by omega
      have e4 : IntKind.i64.wrap (h : Int) = (h : Int) := wrapI _ (by omega) (by omega)
      have e5 : IntKind.i64.wrap ((h : Int) + 1) = (h : Int) + 1 := wrapI _ (by omega) (by omega)
      have hlt' : (a : Int) < b := by omega
      have hhn : h < n := by omega
      have HH : Hid (bsF p a b = if p h then bsF p a h else bsF p (h + 1) b) := by show _ = _; rw [bsF, dif_pos hlt, hh]
      have HC := HL.out h hhn q
      cases hp : p h with
      | true =>
        rw [hp] at HC
        have HE : Hid (bsF p a h = bsF p 0 n) := by show _ = _; rw [← HBS.out, HH.out, hp]; rfl
        clear hp
        go_wp2_with (first | (go_at_call 167; refine HC.mono ?_; rintro e w1 ⟨rfl, n1, rfl⟩))
        go_round
        case rel => exact ⟨a, h, by omega, by omega, rfl, rfl, HE.out, q + n1, rfl⟩
        case measure => simp [intOf]; omega
      | false =>
        rw [hp] at HC
        have HE : Hid (bsF p (h + 1) b = bsF p 0 n) := by show _ = _; rw [← HBS.out, HH.out, hp]; rfl
        clear hp
        go_wp2_with (first | (go_at_call 167; refine HC.mono ?_; rintro e w1 ⟨rfl, n1, rfl⟩))
        go_round
        case rel => exact ⟨h + 1, b, by omega, by omega, by go_num, rfl, HE.out, q + n1, rfl⟩
        case measure => simp [intOf]; omega
    · have hlt' : ¬ (a : Int) < b := by omega
      go_wp2
      go_ret
      exact ⟨ret_int (by rw [← HBS.out, bsF, dif_neg hlt]), q, rfl⟩
theorem find63g (R P pa n : Nat) (t : Int) (f : Nat → Int) (w : World) (h4 : w.cell? ⟨R, 4, none⟩ = some (.slice (some ⟨P, 0, none⟩) n pa)) (hp : ∀ k, k < n → w.cell? ⟨P, k * 3 + 1, none⟩ = some (.int .i64 (f k))) (hn : n ≤ 1000000) (hR : R < w.heap.size) (hP : P < w.heap.size) : Calls Tryz.prog 153 #[.pointer (some ⟨R, 4, none⟩), .int .i64 t] w fun e w' => e = .returned (.int .i64 ((bsF (fun k => decide (t < f k)) 0 n : Nat) - 1 : Int)) ∧ Below w.heap.size w w' := by
  have hle := bsF_le (fun k => decide (t < f k)) 0 n (Nat.zero_le _)
  have hS := search71g n w.heap.size (w.heap.size + 1) (fun k => decide (t < f k)) ((w.alloc (.cells #[.pointer (some ⟨R, 4, none⟩)] 172)).alloc (.cells #[.int .i64 t] 2)) hn (fun k hk q => later72g R P pa n w.heap.size (w.heap.size + 1) k t (f k) _ (dcell (by go_simp) q) (dcell (by go_simp) q) (dcell (acell (by simp; omega) (acell hR h4 _) _) q) hk (dcell (acell (by simp; omega) (acell hP (hp k hk) _) _) q))
  generalize bsF (fun k => decide (t < f k)) 0 n = b at *
  have e1 : IntKind.i64.wrap ((b : Int) - 1) = (b : Int) - 1 := wrapI _ (by omega) (by omega)
  go_enter Tryz.func153, Tryz.ntmps153
  go_wp2_with (first | (go_at_call 166; refine hS.mono ?_; rintro e w1 ⟨rfl, n1, rfl⟩))
  go_ret
  exact ⟨rfl, below_drewN (((Below.refl _ _).alloc (Nat.le_refl _) _).alloc (by simp) _) n1⟩
end
section
open Go.RowKit Go.Shelf
set_option maxRecDepth 20000
set_option maxHeartbeats 2000000
def atF (l : List Pt) (k : Nat) : Int := match l[k]? with | some p => p.at_ | none => 0
/-- Where a part is looked for. -/
def fdP (l : List Pt) (t : Int) : Nat := bsF (fun k => decide (t < atF l k)) 0 l.length
theorem find_any (R P pa len : Nat) (t : Int) (l : List Pt) (r : Rs) (w : World) (hR : Rb w R r) (hP : Prt w P l len) (hpv : r.pv = .slice (some ⟨P, 0, none⟩) l.length pa) (hn : l.length ≤ 1000000) : Calls Tryz.prog 153 #[.pointer (some ⟨R, 4, none⟩), .int .i64 t] w fun e w' => e = .returned (.int .i64 ((fdP l t : Nat) - 1 : Int)) ∧ Below w.heap.size w w' :=
  find63g R P pa l.length t (atF l) w (hpv ▸ hR.cell (j := 4) rfl) (fun k hk => by
    have := (hP.pta k l[k] (List.getElem?_eq_getElem hk)).2.1
    simpa [atF, List.getElem?_eq_getElem hk] using this) hn hR.lt hP.lt
theorem end_none (R P pa len : Nat) (kind t c : Int) (l : List Pt) (r : Rs) (w : World) (hR : Rb w R r) (hP : Prt w P l len) (hpv : r.pv = .slice (some ⟨P, 0, none⟩) l.length pa) (hn : l.length ≤ 1000000) (hf : fdP l t = 0) : Calls Tryz.prog 137 #[.pointer (some ⟨R, 4, none⟩), .int .i64 kind, .int .i64 t, .int .i64 c] w fun e w' => e = .returned (.bool false) ∧ Below w.heap.size w w' := by
  have hF := find_any R P pa len t l r w hR hP hpv hn
  rw [hf] at hF
  have HF : Hid (Calls Tryz.prog 153 #[.pointer (some ⟨R, 4, none⟩), .int .i64 t] w fun e w' => e = .returned (.int .i64 (-1)) ∧ Below w.heap.size w w') := hF
  clear hF hR hP hpv hn hf
  go_enter Tryz.func137, Tryz.ntmps137
  go_wp2_with (first | (go_at_call 153; refine HF.out.mono ?_; rintro e w1 ⟨rfl, hb⟩))
  go_ret
  exact ⟨rfl, hb⟩
theorem end_diff (R P pa len k : Nat) (kind t c : Int) (l : List Pt) (p : Pt) (r : Rs) (w : World) (hR : Rb w R r) (hP : Prt w P l len) (hpv : r.pv = .slice (some ⟨P, 0, none⟩) l.length pa) (hn : l.length ≤ 1000000) (hf : fdP l t = k + 1) (hk : l[k]? = some p) (hd : ¬ (p.kd = kind ∧ p.at_ = t ∧ (p.wn : Int) = c)) : Calls Tryz.prog 137 #[.pointer (some ⟨R, 4, none⟩), .int .i64 kind, .int .i64 t, .int .i64 c] w fun e w' => e = .returned (.bool false) ∧ Below w.heap.size w w' := by
  have hF := find_any R P pa len t l r w hR hP hpv hn
  rw [hf] at hF
  have HF : Hid (Calls Tryz.prog 153 #[.pointer (some ⟨R, 4, none⟩), .int .i64 t] w fun e w' => e = .returned (.int .i64 (k : Int)) ∧ Below w.heap.size w w') := by
    have e : (((k + 1 : Nat) : Int) - 1) = k := by omega
    rw [e] at hF
    exact hF
  have hkl := (List.getElem?_eq_some_iff.1 hk).1
  have HR : Hid (Rb w R r) := hR
  have HP : Hid (Prt w P l len) := hP
  have HV : Hid (r.pv = .slice (some ⟨P, 0, none⟩) l.length pa) := hpv
  have HK : Hid (l[k]? = some p) := hk
  have hk' : (k : Int) < l.length := by omega
  clear hF hR hP hpv hn hf hk
  have h3 : (¬ p.kd = kind) ∨ (p.kd = kind ∧ ¬ p.at_ = t) ∨ (p.kd = kind ∧ p.at_ = t ∧ ¬ (p.wn : Int) = c) := by
    by_cases a : p.kd = kind
    · by_cases b : p.at_ = t
      · exact .inr (.inr ⟨a, b, fun x => hd ⟨a, b, x⟩⟩)
      · exact .inr (.inl ⟨a, b⟩)
    · exact .inl a
  clear hd
  rcases h3 with h | ⟨h1, h2⟩ | ⟨h1, h2, h3⟩
  all_goals (
    go_enter Tryz.func137, Tryz.ntmps137
    go_wp2_with fail
    refine HF.out.mono ?_
    rintro e w1 ⟨rfl, hb⟩
    have HB : Hid (Below w.heap.size w w1) := hb
    obtain ⟨p0, p1, p2⟩ := (HP.out.below hb).pta k p HK.out
    have r4 := (HR.out.below hb).cell (j := 4) (v := .slice (some ⟨P, 0, none⟩) l.length pa) (by rw [← HV.out]; rfl)
    generalize l.length = n at *
    clear hb
    go_wp2
    go_ret
    exact ⟨rfl, HB.out.alloc HB.out.size _⟩)
end
end Go.Proofs.YtdppoblbenbafaaGreatDoor
