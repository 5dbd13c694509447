/- Pages with bytes written, by the document: the walk (written). -/
import Derived.Test.YtndbkkldfinggabYB
import Derived.Deep.RegionLawGrows
import Derived.BigQuiet
namespace Go.Proofs.Ytndbkkldfinggab
open Go.RowKit Go.Shelf
theorem Row.src {W : World} {lb lo n : Nat} {k p : Nat → Int} {Y : Nat → Nat → Int} {g o c : Nat → Nat} (h : Row W lb lo n k p Y g o c) (hY : ∀ i j, 0 ≤ Y i j ∧ Y i j < 256) (hk : ∀ i, i < n → 0 ≤ k i ∧ k i < 18446744073709551616) : PgSrc W lb lo n k p (fun i => some ⟨g i, o i, none⟩) (fun _ => 4096) c Y :=
  ⟨h.c0, h.c1, h.c2, fun i hi _ => ⟨g i, o i, rfl, h.cs i hi⟩, hY, hk⟩
/-- The bytes of a page, copied behind an empty slice: what the walk wants of it. -/
theorem Wr.fresh {wr Wx w3 : World} {la base len : Nat} {k p : Nat → Int} {Y : Nat → Nat → Int} {g o c : Nat → Nat} {last : Int} (h : Wr wr la base len k p Y g o c last) (hbase : base ≤ wr.heap.size) {t : Nat} (ht : t < len) (hB : Below wr.heap.size wr Wx) {v' : Value} (hown : w3.ownsRow Wx.heap.size 5 1 v' (0 + 4096) ([] ++ rowOf (Y t) 4096)) (hgrow : Wx.grownBy w3 none) :
    ∃ gn cn, v' = .slice (some ⟨gn, 0, none⟩) 4096 cn ∧ (w3.cell? ⟨la, t * 3, none⟩ = some (.int .u64 (k t)) ∧ w3.cell? ⟨la, t * 3 + 1, none⟩ = some (.int .i64 (p t)) ∧ w3.cell? ⟨la, t * 3 + 2, none⟩ = some (.slice (some ⟨g t, o t, none⟩) 4096 (c t))) ∧ (w3.frozen? ⟨la, t * 3, none⟩ = false ∧ w3.frozen? ⟨la, t * 3 + 1, none⟩ = false ∧ w3.frozen? ⟨la, t * 3 + 2, none⟩ = false) ∧ la < w3.heap.size ∧ ((((w3.setCell ⟨la, t * 3, none⟩ (.int .u64 (k t))).setCell ⟨la, t * 3 + 1, none⟩ (.int .i64 (p t))).setCell ⟨la, t * 3 + 2, none⟩ (.slice (some ⟨gn, 0, none⟩) 4096 cn)).cell? ⟨la, t * 3, none⟩ = some (.int .u64 (k t)) ∧ (((w3.setCell ⟨la, t * 3, none⟩ (.int .u64 (k t))).setCell ⟨la, t * 3 + 1, none⟩ (.int .i64 (p t))).setCell ⟨la, t * 3 + 2, none⟩ (.slice (some ⟨gn, 0, none⟩) 4096 cn)).cell? ⟨la, t * 3 + 1, none⟩ = some (.int .i64 (p t)) ∧ (((w3.setCell ⟨la, t * 3, none⟩ (.int .u64 (k t))).setCell ⟨la, t * 3 + 1, none⟩ (.int .i64 (p t))).setCell ⟨la, t * 3 + 2, none⟩ (.slice (some ⟨gn, 0, none⟩) 4096 cn)).cell? ⟨la, t * 3 + 2, none⟩ = some (.slice (some ⟨gn, 0, none⟩) 4096 cn)) ∧
      Hid (Below wr.heap.size wr w3 ∧ Wr (((w3.setCell ⟨la, t * 3, none⟩ (.int .u64 (k t))).setCell ⟨la, t * 3 + 1, none⟩ (.int .i64 (p t))).setCell ⟨la, t * 3 + 2, none⟩ (.slice (some ⟨gn, 0, none⟩) 4096 cn)) la base len k p Y (upd g t gn) (upd o t 0) (upd c t cn) t) := by
  rcases hown.2 with ⟨_, h0⟩ | ⟨gn, cn, cur, rfl, hg, hh, hnc, _, hcs, htk⟩
  · omega
  have hB3 : Below wr.heap.size wr w3 := hB.grown hgrow hB.size (by intro k hk; cases hk)
  obtain ⟨cl, hcl⟩ := h.blk
  have ll := lt_of_some hcl
  have hcl3 := (hB3.block la ll).trans hcl
  have c0 := h.row.c0 t ht
  have c1 := h.row.c1 t ht
  have c2 := h.row.c2 t ht
  rw [Nat.zero_add] at c0 c1 c2
  have hwx := hB.size
  have hP := h.page (cap := cn) hB3 ht hbase (by omega) hh (fun j hj => by
    have e : (cur.toList.take ((0 + 4096) * 1))[j]? = some (Value.int .u8 (Y t j)) := by rw [htk, List.nil_append]; exact rowOf_at hj
    rw [List.getElem?_take_of_lt (by omega)] at e
    simp only [World.cell?, hh]
    simpa using e)
  have z0 := hP.row.c0 t ht
  have z1 := hP.row.c1 t ht
  have z2 := hP.row.c2 t ht
  rw [Nat.zero_add] at z0 z1 z2
  simp only [upd, if_true] at z2
  exact ⟨gn, cn, rfl, ⟨(hB3.cell (p := ⟨la, t * 3, none⟩) ll).trans c0, (hB3.cell (p := ⟨la, t * 3 + 1, none⟩) ll).trans c1, (hB3.cell (p := ⟨la, t * 3 + 2, none⟩) ll).trans c2⟩, ⟨by simp [World.frozen?, hcl3], by simp [World.frozen?, hcl3], by simp [World.frozen?, hcl3]⟩, lt_of_some hcl3, ⟨z0, z1, z2⟩, hB3, hP⟩
theorem upd_same (f : Nat → Nat) (t x : Nat) : upd f t x t = x := by simp [upd]
theorem Wr.drew {W : World} {la base len : Nat} {k p : Nat → Int} {Y : Nat → Nat → Int} {g o c : Nat → Nat} {last : Int} (h : Wr W la base len k p Y g o c last) : Wr W.drew la base len k p Y g o c last := ⟨⟨h.row.c0, h.row.c1, h.row.c2, h.row.cs⟩, h.blk, h.ne, h.own⟩
set_option maxRecDepth 100000 in
set_option maxHeartbeats 10000000 in
theorem written38 (lb lo len cap : Nat) (k p : Nat → Int) (ao : Nat → Option Addr) (bl bc : Nat → Nat) (Y : Nat → Nat → Int) (a : Int) (n bb bo bcap : Nat) (B : Nat → Int) (w : World) (h : PgSrc w lb lo len k p ao bl bc Y) (hbl : ∀ i, i < len → bl i = 4096) (a0 : 0 ≤ a) (h48 : a + n ≤ 281474976710656) (hlen : len ≤ 65536) (hn : n ≤ 65536) (hl0 : 0 < len) (hk : ∀ t, t < len → k t % 4096 = 0) (hinj : ∀ t t', t < len → t' < len → k t = k t' → t = t')
    (hB : ∀ j, j < n → w.cell? ⟨bb, bo + j, none⟩ = some (.int .u8 (B j))) (hB2 : ∀ j, 0 ≤ B j ∧ B j < 256) (hfi : ∀ j, j < n → ∃ t : Nat, t < len ∧ fi k len (a + (j : Int)) = t ∧ k t ≤ a + j ∧ a + j < k t + 4096) :
    Calls Try.prog 38 #[.slice (some ⟨lb, lo, none⟩) len cap, .int .u64 a, .slice (some ⟨bb, bo, none⟩) n bcap] w fun e w' => ∃ la lc g o c, e = .returned (.slice (some ⟨la, 0, none⟩) len lc) ∧ len ≤ lc ∧ Row w' la 0 len k p (Yw k Y a B n) g o c ∧ Below w.heap.size w w' := by
  obtain ⟨i0, hi, hz0, hz1, hz2⟩ := info_parts info62
  obtain ⟨i5, hi5, hy0, hy1, hy2⟩ := info_parts info5
  have A : Hid (PgSrc w lb lo len k p ao bl bc Y) := h
  have AB : Hid (∀ j, j < n → w.cell? ⟨bb, bo + j, none⟩ = some (.int .u8 (B j))) := hB
  have AF : Hid (∀ j, j < n → ∃ t : Nat, t < len ∧ fi k len (a + (j : Int)) = t ∧ k t ≤ a + j ∧ a + j < k t + 4096) := hfi
  have AI : Hid ((∀ i, i < len → bl i = 4096) ∧ (∀ t, t < len → k t % 4096 = 0) ∧ (∀ t t', t < len → t' < len → k t = k t' → t = t') ∧ (∀ j, 0 ≤ B j ∧ B j < 256)) := ⟨hbl, hk, hinj, hB2⟩
  have AN : Hid (Try.prog.info? 5 = some i5 ∧ i5.zero = some (.int .u8 0) ∧ i5.size = 1 ∧ i5.bytes = 1) := ⟨hi5, hy0, hy1, hy2⟩
  clear h hB hfi hbl hk hinj hB2 hi5 hy0 hy1 hy2
  go_enter Try.func38, Try.ntmps38
  go_wp2_with (at_builtin; refine wpList_append_own _ rfl _ _ 22 rfl w.heap.size 62 i0 (.agg #[.int .u64 0, .int .i64 0, .slice none 0 0]) 3 40 Try.underlying22 hi hz0 hz1 hz2 rfl (by decide) _ _ _ rfl (World.ownsRow_made w #[] 0 (Nat.le_refl _) (Nat.zero_le _) rfl) ⟨lb, lo, none⟩ len cap (rowS k p ao bl bc len) rfl ?qc1 ?qc2 ?qc3 ?qc4 ?qc5 ?qc6 ?_)
  case qc1 => exact rowS_len _ _ _ _ _ _
  case qc2 =>
    intro j u hj
    have hjn : j < len * 3 := by
      have := (List.getElem?_eq_some_iff.1 hj).1
      rwa [rowS_len] at this
    have hl1 : lb < w.heap.size := lt_of_cell (A.out.c0 0 hl0)
    rw [Addr.add_lit]
    refine (((Below.refl _ w).alloc (Nat.le_refl _) _).cell (p := ⟨lb, lo + j, none⟩) hl1).trans ?_
    obtain ⟨g0, g1, g2⟩ := rowS_get k p ao bl bc len (j / 3) (by omega)
    rcases (by omega : j = j / 3 * 3 ∨ j = j / 3 * 3 + 1 ∨ j = j / 3 * 3 + 2) with e | e | e
    · rw [e] at hj ⊢; rw [g0] at hj; cases hj; exact A.out.c0 (j / 3) (by omega)
    · rw [e] at hj ⊢; rw [g1] at hj; cases hj; exact A.out.c1 (j / 3) (by omega)
    · rw [e] at hj ⊢; rw [g2] at hj; cases hj; exact A.out.c2 (j / 3) (by omega)
  case qc3 => intro u hu; obtain ⟨x, _, hx⟩ := List.mem_flatMap.1 hu; simp at hx; rcases hx with rfl | rfl | rfl <;> rfl
  case qc4 => unfold maxLen; omega
  case qc5 => omega
  case qc6 => simp
  intro v' w1 hown hgrow hnil
  rcases hown.2 with ⟨_, h0⟩ | ⟨la, lc, cur, rfl, hg, hh, hnc, _, hcs, htk⟩
  · omega
  have hB1 : Below w.heap.size w w1 := ((Below.refl _ w).alloc (Nat.le_refl _) _).grown hgrow (by simp) (by intro k hk; simp [Value.ownBlock] at hk; omega)
  have HB1 : Hid (Below w.heap.size w w1) := hB1
  have HW1 : Hid (∃ g o c, Wr w1 la w.heap.size len k p (Yw k Y a B 0) g o c (-1)) := by
    have cell : ∀ j u, j < len * 3 → (rowS k p ao bl bc len)[j]? = some u → w1.cell? ⟨la, 0 + j, none⟩ = some u := by
      intro j u hj hu
      rw [← htk, List.getElem?_take_of_lt hj] at hu
      simp only [World.cell?, hh, Nat.zero_add]
      simpa using hu
    have H : ∀ i, ∃ g : Nat, ∃ o : Nat, i < len → ao i = some ⟨g, o, none⟩ ∧ ∀ j, j < 4096 → w.cell? ⟨g, o + j, none⟩ = some (.int .u8 (Y i j)) := fun i => by
      by_cases hi : i < len
      · obtain ⟨g, o, h1, h2⟩ := A.out.cs i hi (AI.out.1 i hi)
        exact ⟨g, o, fun _ => ⟨h1, h2⟩⟩
      · exact ⟨0, 0, fun h => absurd h hi⟩
    obtain ⟨g, hg'⟩ := Classical.axiomOfChoice H
    obtain ⟨o, ho⟩ := Classical.axiomOfChoice hg'
    refine (⟨g, o, bc, ⟨fun i hi => ?_, fun i hi => ?_, fun i hi => ?_, fun i hi j hj => ?_⟩, ⟨cur, hh⟩, fun t ht => ?_, fun t ht e => by omega⟩ : ∃ g o c, Wr w1 la w.heap.size len k p (Yw k Y a B 0) g o c (-1))
    · exact cell _ _ (by omega) (rowS_get k p ao bl bc len i hi).1
    · rw [Nat.add_assoc]; exact cell _ _ (by omega) (rowS_get k p ao bl bc len i hi).2.1
    · rw [Nat.add_assoc]; have t := cell _ _ (by omega) (rowS_get k p ao bl bc len i hi).2.2; rw [(ho i hi).1, AI.out.1 i hi] at t; exact t
    · rw [Yw_zero]; have t := (ho i hi).2 j hj; exact (hB1.cell (p := ⟨g i, o i + j, none⟩) (lt_of_cell t)).trans t
    · have t := (ho t ht).2 0 (by omega); have := lt_of_cell t; omega
  have hla : w.heap.size ≤ la := hg
  clear hown hgrow hnil hB1 hh hcs htk hg
  go_wp2
  go_loopw [8, 9] (fun x y wr => ∃ (i : Nat) (last : Int) (g o c : Nat → Nat), i ≤ n ∧ x = .int .i64 last ∧ y = .int .i64 i ∧ Wr wr la w.heap.size len k p (Yw k Y a B i) g o c last ∧ Below w.heap.size w wr) (fun _ y _ => n - (intOf y).toNat)
  case atStart => obtain ⟨g, o, c, h⟩ := HW1.out; exact ⟨0, -1, g, o, c, Nat.zero_le _, rfl, rfl, h, HB1.out⟩
  case round =>
    obtain ⟨i, last, g, o, c, hi', rfl, rfl, hwr, hbl⟩ := hrel
    have HB : Hid (Below w.heap.size w wr) := hbl
    have HW : Hid (Wr wr la w.heap.size len k p (Yw k Y a B i) g o c last) := hwr
    clear hwr hbl
    by_cases hlt : i < n
    · obtain ⟨t, ht, hft, hk1, hk2⟩ := AF.out i hlt
      have HFi : Hid (Calls Try.prog 49 #[.slice (some ⟨la, 0, none⟩) len lc, .int .u64 (a + (i : Int))] wr fun e w' => e = .returned (.int .i64 (t : Int)) ∧ w' = wr) := by
        have := find49 la 0 len lc k p _ _ c (Yw k Y a B i) (a + (i : Int)) wr (HW.out.row.src (Yw_small A.out.by_ AI.out.2.2.2 i) A.out.rk) (by omega) (by omega) hlen
        rw [hft] at this
        exact this
      have hai : a + (i : Int) < 18446744073709551616 := by omega
      go_wp2_with fail
      refine HFi.out.mono ?_
      rintro e w2 ⟨rfl, e2⟩
      have e2' := e2.symm
      subst e2'
      have d0 := HW.out.row.c0 t ht
      have d1 := HW.out.row.c1 t ht
      have d2 := HW.out.row.c2 t ht
      rw [Nat.zero_add] at d0 d1 d2
      by_cases hls : last = (t : Int)
      · subst hls
        obtain ⟨o1, o2, ⟨cu, o3⟩, o4⟩ := HW.out.own t ht rfl
        rw [o2] at d2
        have db := (HB.out.cell (p := ⟨bb, bo + i, none⟩) (lt_of_cell (AB.out i hlt))).trans (AB.out i hlt)
        have hj : (a + (i : Int) - k t).toNat < 4096 := by omega
        have dj := HW.out.row.cs t ht _ hj
        rw [o2, Nat.zero_add] at dj
        have fz : wr.frozen? ⟨g t, (a + (i : Int) - k t).toNat, none⟩ = false := by simp [World.frozen?, o3]
        have HP : Hid (Wr (wr.setCell ⟨g t, (a + (i : Int) - k t).toNat, none⟩ (.int .u8 (B i))) la w.heap.size len k p (Yw k Y a B (i + 1)) g o c t) := HW.out.put ht rfl hj (B i) (Yw_succ AI.out.2.1 AI.out.2.2.1 ht hj (by omega))
        have HBn : Hid (Below w.heap.size w (wr.setCell ⟨g t, (a + (i : Int) - k t).toNat, none⟩ (.int .u8 (B i)))) := HB.out.setCell (p := ⟨g t, (a + (i : Int) - k t).toNat, none⟩) o1 _
        clear o1 o2 o3 o4
        go_wp2_with fail
        go_region
        all_goals go_wp2
        all_goals go_roundw
        case rel => exact ⟨i + 1, t, g, o, c, by omega, rfl, by go_num, HP.out.drew, HBn.out.drew⟩
        case measure => simp [intOf]; omega
      · have hls2 : ((t : Int) != last) = true := by simp; omega
        have HC : Hid (∀ W, Below wr.heap.size wr W → ∀ (j : Nat) (u : Value), (rowOf (Yw k Y a B i t) 4096)[j]? = some u → W.cell? ((⟨g t, o t, none⟩ : Addr).add j) = some u) := by
          intro W hb j u hj
          have hjn : j < 4096 := by
            have := (List.getElem?_eq_some_iff.1 hj).1
            simpa [rowOf] using this
          rw [rowOf_at hjn] at hj
          cases hj
          rw [Addr.add_lit]
          have q := HW.out.row.cs t ht j hjn
          exact (hb.cell (p := ⟨g t, o t + j, none⟩) (lt_of_cell q)).trans q
        go_wp2_with fail
        have hla2 : la < wr.heap.size := lt_of_cell d0
        go_region_law
          (first | (refine step_append_grows rfl (.tmp 42) (.tmp 47) 48 rfl 5 i5 (.int .u8 0) 1 1 Try.underlying48 AN.out.1 AN.out.2.1 AN.out.2.2.1 AN.out.2.2.2 rfl (by decide) (some _) 0 0 [] rfl (by intro h; cases h) rfl (by intro b e j u h; simp at h) ⟨g t, o t, none⟩ 4096 (c t) (rowOf (Yw k Y a B i t) 4096) rfl (by simp [rowOf]) (HC.out _ (by first | exact (Below.refl _ _).alloc (Nat.le_refl _) _ | exact ((Below.refl _ _).drew).alloc (Nat.le_refl _) _)) (by intro u hu; obtain ⟨x, _, rfl⟩ := List.mem_map.1 hu; rfl) (by omega) (by unfold maxLen; omega) (by omega) ?_; intro v' w3 hown hgrow; obtain ⟨gn, cn, rfl, ⟨y0, y1, y2⟩, ⟨f0, f1, f2⟩, yl, ⟨z0, z1, z2⟩, yh⟩ := HW.out.fresh HB.out.size ht (by first | exact (Below.refl _ _).alloc (Nat.le_refl _) _ | exact ((Below.refl _ _).drew).alloc (Nat.le_refl _) _) hown hgrow; clear hown hgrow))
        all_goals (
          have YB : Hid (Below w.heap.size w (((w3.setCell ⟨la, t * 3, none⟩ (.int .u64 (k t))).setCell ⟨la, t * 3 + 1, none⟩ (.int .i64 (p t))).setCell ⟨la, t * 3 + 2, none⟩ (.slice (some ⟨gn, 0, none⟩) 4096 cn))) := (((HB.out.trans (yh.out.1.mono HB.out.size)).setCell (p := ⟨la, t * 3, none⟩) hla _).setCell (p := ⟨la, t * 3 + 1, none⟩) hla _).setCell (p := ⟨la, t * 3 + 2, none⟩) hla _
          have YW : Hid (Wr (((w3.setCell ⟨la, t * 3, none⟩ (.int .u64 (k t))).setCell ⟨la, t * 3 + 1, none⟩ (.int .i64 (p t))).setCell ⟨la, t * 3 + 2, none⟩ (.slice (some ⟨gn, 0, none⟩) 4096 cn)) la w.heap.size len k p (Yw k Y a B i) (upd g t gn) (upd o t 0) (upd c t cn) t) := yh.out.2
          clear yh y0 y1 y2 f0 f1 f2 yl d0 d1 d2 HC
          generalize (((w3.setCell ⟨la, t * 3, none⟩ (.int .u64 (k t))).setCell ⟨la, t * 3 + 1, none⟩ (.int .i64 (p t))).setCell ⟨la, t * 3 + 2, none⟩ (.slice (some ⟨gn, 0, none⟩) 4096 cn)) = W4 at *
          obtain ⟨o1, o2, ⟨cu, o3⟩, o4⟩ := YW.out.own t ht rfl
          rw [upd_same] at o1 o2 o3
          have db := (YB.out.cell (p := ⟨bb, bo + i, none⟩) (lt_of_cell (AB.out i hlt))).trans (AB.out i hlt)
          have hj : (a + (i : Int) - k t).toNat < 4096 := by omega
          have dj := YW.out.row.cs t ht _ hj
          rw [upd_same, upd_same, Nat.zero_add] at dj
          have fz : W4.frozen? ⟨gn, (a + (i : Int) - k t).toNat, none⟩ = false := by simp [World.frozen?, o3]
          have HP : Hid (Wr (W4.setCell ⟨gn, (a + (i : Int) - k t).toNat, none⟩ (.int .u8 (B i))) la w.heap.size len k p (Yw k Y a B (i + 1)) (upd g t gn) (upd o t 0) (upd c t cn) t) := by
            have q := YW.out.put ht rfl hj (B i) (Yw_succ AI.out.2.1 AI.out.2.2.1 ht hj (by omega))
            rw [upd_same] at q
            exact q
          have HBn : Hid (Below w.heap.size w (W4.setCell ⟨gn, (a + (i : Int) - k t).toNat, none⟩ (.int .u8 (B i)))) := YB.out.setCell (p := ⟨gn, (a + (i : Int) - k t).toNat, none⟩) o1 _
          clear o1 o2 o3 o4
          go_wp2_with fail
          go_region
          go_wp2
          go_roundw
          all_goals first | exact ⟨i + 1, t, upd g t gn, upd o t 0, upd c t cn, by omega, rfl, by go_num, HP.out.drew, HBn.out.drew⟩ | (simp [intOf]; omega))
    · obtain rfl : i = n := by omega
      go_wp2
      go_ret
      exact ⟨la, lc, g, o, c, rfl, hnc, HW.out.row, HB.out⟩
end Go.Proofs.Ytndbkkldfinggab
