/- A source that is letters throughout is cut into its tokens, by the program. -/
import Derived.Test.YtgdbfedagdlgkaaDoorC3
import Derived.WalkMore
import Derived.OneCell
namespace Go.Proofs.YtgdbfedagdlgkaaDoor
open Go.RowKit Go.Shelf
theorem at_iter (w : World) (o : Obj) (s : ByteArray) : ((w.alloc o).iter s 0).heap[w.heap.size + 1]? = some (.stringIter s 0) := by
  have t := World.iter_heap (w.alloc o) s 0
  rwa [show (w.alloc o).heap.size = w.heap.size + 1 by simp] at t
theorem at_zero (w : World) (s : ByteArray) : ((w.alloc zer3).iter s 0).heap[w.heap.size]? = some zer3 := by
  unfold World.iter
  rw [Below.heap_alloc _ _ _ (by simp)]
  show (w.heap.push zer3)[w.heap.size]? = _
  simp
theorem below_iter (w : World) (o : Obj) (s : ByteArray) : Below w.heap.size w ((w.alloc o).iter s 0) := ((Below.refl _ w).alloc (Nat.le_refl _) o).alloc (by simp) _
theorem zer_cells {W : World} {g : Nat} (h : W.heap[g]? = some zer3) : W.cell? ⟨g, 0, none⟩ = some (.int .i64 0) ∧ W.cell? ⟨g, 1, none⟩ = some (.int .i64 0) ∧ W.cell? ⟨g, 2, none⟩ = some (.int .i64 0) ∧ (∀ i, W.frozen? ⟨g, i, none⟩ = false) ∧ g < W.heap.size :=
  ⟨Joins.cell_of_block h 0, Joins.cell_of_block h 1, Joins.cell_of_block h 2, Joins.unfrozen_of_block h, lt_of_block h⟩
theorem keep_block {W W' : World} {g : Nat} {o : Obj} (h : W.heap[g]? = some o) (hb : Below W.heap.size W W') : W'.heap[g]? = some o := (hb.block g (lt_of_block h)).trans h
theorem blB_iff (b : Nat) : blB b = true ↔ b = 32 ∨ b = 9 ∨ b = 10 ∨ b = 13 := by simp [blB, or_assoc]
theorem bl_no {b : Nat} (h : blB b = false) : ¬ b = 32 ∧ ¬ b = 9 ∧ ¬ b = 10 ∧ ¬ b = 13 := by
  have t : ¬ (b = 32 ∨ b = 9 ∨ b = 10 ∨ b = 13) := fun e => by
    rw [(blB_iff _).2 e] at h
    cases h
  omega
theorem after5 {w1 w2 : World} {o : Obj} (hb : Below (w1.alloc o).heap.size (w1.alloc o) w2) (a b c : Value) (o' : Obj) : Below w1.heap.size w1 ((((w2.setCell ⟨w1.heap.size, 1, none⟩ a).setCell ⟨w1.heap.size, 3, none⟩ b).setCell ⟨w1.heap.size, 4, none⟩ c).alloc o') :=
  ((((((Below.refl _ w1).alloc (Nat.le_refl _) o).trans (hb.mono (by simp))).setCell (Nat.le_refl _) a).setCell (Nat.le_refl _) b).setCell (Nat.le_refl _) c).alloc (by have := hb.size; simp at this ⊢; omega) o'
theorem new5 (W : World) (a b c d e : Value) (t : TypeId) (g : Nat) (hg : g = W.heap.size) : ∀ j u, [a, b, c, d, e][j]? = some u → (W.alloc (.cells #[a, b, c, d, e] t)).cell? ((⟨g, 0, none⟩ : Addr).add j) = some u := by
  subst hg
  intro j u hj
  match j, hj with
  | 0, hj => simp at hj; subst hj; simp [Addr.add]
  | 1, hj => simp at hj; subst hj; simp [Addr.add]
  | 2, hj => simp at hj; subst hj; simp [Addr.add]
  | 3, hj => simp at hj; subst hj; simp [Addr.add]
  | 4, hj => simp at hj; subst hj; simp [Addr.add]
  | j + 5, hj => simp at hj
theorem one5 (k : Int) (t : ByteArray) (v a b : Int) : ∀ u ∈ [Value.int .i64 k, .string t, .int .i64 v, .int .i64 a, .int .i64 b], u.oneCell' = true := by
  intro u hu
  simp at hu
  rcases hu with rfl | rfl | rfl | rfl | rfl <;> rfl
theorem own_sets {w3 : World} {v : Value} {g m m' : Nat} {xs ys : List Value} {a b c : Value} (h : w3.ownsRow (g + 2) 42 5 v m xs) (t : w3.ownsRow g 42 5 v m' ys) : (((w3.setCell ⟨g, 0, none⟩ a).setCell ⟨g, 1, none⟩ b).setCell ⟨g, 2, none⟩ c).ownsRow g 42 5 v m' ys := by
  have hn : v.ownBlock ≠ some g := fun e => by have := (h.lt _ e).1; omega
  exact ownsRow_setCell_other (ownsRow_setCell_other (ownsRow_setCell_other t hn _) hn _) hn _
/-- What a round that makes a token leaves. -/
def Grw (w w3 : World) (v' : Value) (old news : List Value) (p : Nat) (s : ByteArray) (m : Nat) : Prop := w3.ownsRow (w.heap.size + 2) 42 5 v' m (old ++ news) ∧ w3.heap[w.heap.size + 1]? = some (.stringIter s p) ∧ w3.heap[w.heap.size]? = some zer3 ∧ Below w.heap.size w w3
theorem grw_of {w W w1 A w3 : World} {v' u4 : Value} {old news : List Value} {p m l : Nat} {s : ByteArray} (HB : Below w.heap.size w W) (HI : W.heap[w.heap.size + 1]? = some (.stringIter s p)) (HZ : W.heap[w.heap.size]? = some zer3) (HO : W.ownsRow (w.heap.size + 2) 42 5 u4 l old) (HB1 : Below W.heap.size W w1) (BB : Below w1.heap.size w1 A)
    (hown : w3.ownsRow (w.heap.size + 2) 42 5 v' m (old ++ news)) (hg : A.grownBy w3 u4.ownBlock) : Grw w w3 v' old news p s m := by
  have h1 := lt_of_block HI
  have h2 := HB1.size
  have h3 := BB.size
  have key : ∀ k, k < w.heap.size + 2 → w3.heap[k]? = W.heap[k]? := fun k hk => by
    rw [hg.block k (by omega) (fun h => by have := (HO.lt _ h.symm).1; omega), BB.block k (by omega), HB1.block k (by omega)]
  refine ⟨hown, by rw [key _ (by omega)]; exact HI, by rw [key _ (by omega)]; exact HZ, ?_⟩
  exact Below.grown ((HB.trans (HB1.mono HB.size)).trans (BB.mono (by have := HB.size; omega))) hg (by have := HB.size; omega) (fun j hj => by have := (HO.lt _ hj).1; omega)
theorem rune_no (s : ByteArray) (p : Nat) (hb : blB (bt s.data.toList p) = false) (h : ¬ bt s.data.toList p = 47) : ¬ ((Utf8.decode s p).1 : Int) = 32 ∧ ¬ ((Utf8.decode s p).1 : Int) = 9 ∧ ¬ ((Utf8.decode s p).1 : Int) = 10 ∧ ¬ ((Utf8.decode s p).1 : Int) = 13 ∧ ¬ ((Utf8.decode s p).1 : Int) = 47 := by
  have hb' : ¬ (bt s.data.toList p = 32 ∨ bt s.data.toList p = 9 ∨ bt s.data.toList p = 10 ∨ bt s.data.toList p = 13) := fun e => by
    rw [(blB_iff _).2 e] at hb
    cases hb
  rcases Nat.lt_or_ge (bt s.data.toList p) 128 with ha | ha
  · rw [dec_asc s p ha]
    simp only
    omega
  · have := dec_high s p ha
    omega
set_option maxRecDepth 100000 in
set_option maxHeartbeats 4000000 in
theorem cut23 (s : ByteArray) (w : World) (hT : Tb w) (hs : s.size ≤ 65536) : Calls Tryd.prog 23 #[.string s] w (cutQ w (toks s s.size 0 [])) := by
  obtain ⟨i0, hi, hz0, hz1, hz2⟩ := info_parts info42
  have HT : Hid (Tb w) := hT
  clear hT
  go_enter Tryd.func23, Tryd.ntmps23
  go_wp2
  go_step3
  go_wp2
  go_step3
  go_wp2
  go_loopg [4, 5] s.size (fun gf v4 v5 wx => Rd s w gf v4 v5 wx)
  case atStart => exact ⟨0, 0, s.size, [], rfl, World.ownsRow_nil _ _ _ _, at_iter _ _ _, at_zero _ _, below_iter _ _ _, by simp, by simp, by omega, Nat.zero_le _, ⟨Nat.zero_le _, .inr fun j h1 h2 => absurd h2 (by omega)⟩, by simp⟩
  case round =>
    obtain ⟨pos, dn, f, acc, rfl, hown, hit, hzr, hbw, hst, hf, hgf, hps, hsk, hal⟩ := hrel
    by_cases hlt : pos < s.size
    · obtain ⟨g', rfl⟩ : ∃ g', gk = g' + 1 := ⟨gk - 1, by omega⟩
      have hnx : ∀ ty, (Instr.next (.pointer (some ⟨w.heap.size + 1, 0, none⟩)) true ty).run Tryd.prog wr = _ := fun ty => Lib.run_next_any_at wr (w.heap.size + 1) s pos ty hit hlt
      have hwd := Lib.width_pos s pos
      have hwn := width_le s pos hlt
      have hit2 := Lib.iterAt_heap wr (w.heap.size + 1) s pos (pos + (Utf8.decode s pos).2) hit
      have hbw2 := Lib.below_iterAt hbw (k := w.heap.size + 1) (by omega) s (pos + (Utf8.decode s pos).2)
      have hown2 := own_iter hown (k := w.heap.size + 1) (by omega) s (pos + (Utf8.decode s pos).2)
      have hzr2 : (wr.iterAt (w.heap.size + 1) s (pos + (Utf8.decode s pos).2)).heap[w.heap.size]? = some zer3 := by rw [Lib.iterAt_other _ _ _ _ _ (by omega)]; exact hzr
      generalize wr.iterAt (w.heap.size + 1) s (pos + (Utf8.decode s pos).2) = W at *
      have HI : Hid (W.heap[w.heap.size + 1]? = some (.stringIter s (pos + (Utf8.decode s pos).2))) := hit2
      have HB : Hid (Below w.heap.size w W) := hbw2
      have HO : Hid (W.ownsRow (w.heap.size + 2) 42 5 _ acc.length (tkl acc)) := hown2
      have HZ : Hid (W.heap[w.heap.size]? = some zer3) := hzr2
      have HS : Hid (toks s f (max pos dn) acc = toks s s.size 0 []) := hst
      have HK : Hid (Skp s pos dn) := hsk
      clear hit hit2 hbw hbw2 hown hown2 hzr hzr2 hst hsk
      by_cases hd : pos < dn
      · have HX : Hid (pos + (Utf8.decode s pos).2 ≤ dn ∧ Skp s (pos + (Utf8.decode s pos).2) dn) := skp_step HK.out hd
        generalize (Utf8.decode s pos).2 = K at *
        generalize (Utf8.decode s pos).1 = R at *
        go_wp2
        go_roundg g'
        case measure => omega
        case rel => exact ⟨pos + K, dn, f, acc, rfl, HO.out, HI.out, HZ.out, HB.out, by rw [Nat.max_eq_right (by have := HX.out.1; omega)]; rw [← HS.out, Nat.max_eq_right (by omega)], by have := HX.out.1; omega, by omega, hwn, HX.out.2, by have := HX.out.1; omega⟩
      · have hmx : max pos dn = pos := Nat.max_eq_left (by omega)
        have hS0 := HS.out
        rw [hmx] at hS0 hf hal
        obtain ⟨f, rfl⟩ : ∃ f', f = f' + 1 := ⟨f - 1, by omega⟩
        clear HS HK hmx
        cases hb : blB (bt s.data.toList pos)
        · have hL := len_of s
          have hsz : (s.extract pos s.size).size = s.size - pos := by simp
          by_cases hr : 0 < rmk (s.data.toList.drop pos)
          · have hS1 := toks_rem f acc hlt hb hr
            obtain ⟨r0, _, _, r3, r4, r5, _⟩ := rmk_pos _ hr
            rw [List.length_drop] at r3 r5
            rw [bt_drop, Nat.add_zero] at r0
            rw [bt_drop] at r5
            have HR : Hid (∀ W, Calls Tryd.prog 45 #[.string (s.extract pos s.size)] W fun e w' => e = .returned (.int .i64 (rmk (s.data.toList.drop pos))) ∧ w' = W) := fun W => by
              have t := remark45 (s.extract pos s.size) W
              rw [toList_from] at t
              exact t
            have hdec := dec_asc s pos (by omega)
            rw [hdec, r0] at hnx
            rw [hdec] at HI hwd hwn
            have HQ : Hid (Skp s (pos + 1) (pos + rmk (s.data.toList.drop pos))) := ⟨by omega, .inl (r5.elim (fun h => .inl (by omega)) fun h => .inr (by omega))⟩
            have HS : Hid (toks s f (pos + rmk (s.data.toList.drop pos)) acc = toks s s.size 0 []) := hS1.symm.trans hS0
            clear hdec r0 r5 hb hS0 hS1
            generalize rmk (s.data.toList.drop pos) = m at *
            go_wp2_with (go_at_call 45; refine (HR.out _).mono ?_; rintro e w2 ⟨rfl, rfl⟩)
            go_roundg g'
            case measure => omega
            case rel => exact ⟨pos + 1, pos + m, f, acc, by go_num, HO.out, HI.out, HZ.out, HB.out, by rw [Nat.max_eq_right (by omega)]; exact HS.out, by omega, by omega, by omega, HQ.out, by omega⟩
          · have hr0 : rmk (s.data.toList.drop pos) = 0 := by omega
            have HF : Hid (∀ W, Below w.heap.size w W → Calls Tryd.prog 46 #[.string (s.extract pos s.size)] W fun e w' => e = .returned (.tuple #[tkv (fsP s pos).1 (s.extract pos (pos + (fsP s pos).2.1)) (fsP s pos).2.2.1 0 0, .int .i64 (fsP s pos).2.2.2]) ∧ Below W.heap.size W w') := fun W hW => by
              have t := first46 (s.extract pos s.size) W (HT.out.below hW (Nat.le_refl _)) (by omega)
              rw [toList_from, decode_from s pos hlt] at t
              have e : (s.extract pos s.size).extract 0 (fsP s pos).2.1 = s.extract pos (pos + (fsP s pos).2.1) := by
                have := fsP_le s pos hlt
                apply bytes_ext
                rw [toList_cut, toList_from, toList_cut]
                simp
              rw [← e]
              exact t
            unfold tkv at HF
            have hle := fsP_le s pos hlt
            by_cases he : (fsP s pos).2.2.2 = 0
            · obtain ⟨t0, t1, t2⟩ := fsP_ok s pos he
              have hS1 := toks_ok f acc hlt hb hr0 he
              have HS : Hid (toks s f (pos + (fsP s pos).2.1) (acc ++ [tokT s pos]) = toks s s.size 0 []) := hS1.symm.trans hS0
              have HTk : Hid (tkc (tokT s pos) = [.int .i64 (fsP s pos).1, .string (s.extract pos (pos + (fsP s pos).2.1)), .int .i64 (fsP s pos).2.2.1, .int .i64 (pos : Nat), .int .i64 ((pos + (fsP s pos).2.1 : Nat) : Int)]) := rfl
              have HAs : Hid (∀ j, pos ≤ j → j < pos + (fsP s pos).2.1 → bt s.data.toList j < 128) := t2
              have hxs : (s.extract pos (pos + (fsP s pos).2.1)).size = (fsP s pos).2.1 := by simp; omega
              have HBb : Hid (blB (bt s.data.toList pos) = false) := hb
              clear hS0 hS1 hb t2
              generalize tokT s pos = TK at HS HTk
              obtain ⟨⟨k, n, v, er⟩, hF⟩ : ∃ F, fsP s pos = F := ⟨_, rfl⟩
              simp only [hF] at HF hle he HS HTk HAs hxs t0 t1
              clear hF
              subst he
              have HCl : Hid (∀ W, Calls Tryd.prog 47 #[.string (s.extract pos (pos + n))] W fun e w' => e = .returned (.string (s.extract pos (pos + n))) ∧ Below W.heap.size W w') := fun W => clone47 _ W (by omega)
              by_cases h47 : bt s.data.toList pos = 47
              · have HR : Hid (∀ W, Calls Tryd.prog 45 #[.string (s.extract pos s.size)] W fun e w' => e = .returned (.int .i64 0) ∧ w' = W) := fun W => by
                  have t := remark45 (s.extract pos s.size) W
                  rw [toList_from, hr0] at t
                  exact t
                have hdec := dec_asc s pos (by omega)
                rw [hdec, h47] at hnx
                rw [hdec] at HI hwd hwn
                clear hdec h47 hr0 hr
                go_wp2_with (first | (go_at_call 45; refine (HR.out _).mono ?_; rintro e w2 ⟨rfl, rfl⟩) | (go_at_call 46; refine (HF.out _ HB.out).mono ?_; rintro e w1 ⟨rfl, hb⟩; have HB1 : Hid (Below _ _ w1) := hb; clear hb) | (go_at_call 47; refine (HCl.out _).mono ?_; rintro e w2 ⟨rfl, hb⟩; have HB2 : Hid (Below _ _ w2) := hb; obtain ⟨hc, hfz⟩ := bcell hb; have hz2w : w1.heap.size < w2.heap.size := (by have := hb.size; simp at this; omega); clear hb) | (at_builtin; refine wpList_append_own _ rfl _ _ 22 rfl (w.heap.size + 2) 42 i0 (.agg #[.int .i64 0, .string ⟨#[]⟩, .int .i64 0, .int .i64 0, .int .i64 0]) 5 48 Tryd.underlying22 hi hz0 hz1 hz2 rfl (by decide) _ _ _ rfl (own_below (own_below HO.out HB1.out) (after5 HB2.out _ _ _ _)) ⟨w2.heap.size, 0, none⟩ 1 1 [.int .i64 k, .string (s.extract pos (pos + n)), .int .i64 v, .int .i64 (pos : Int), .int .i64 ((pos : Int) + (n : Int))] rfl rfl (new5 _ _ _ _ _ _ _ _ (by simp)) (one5 _ _ _ _ _) (by unfold maxLen; omega) (by omega) (by have := HB1.out.size; have := lt_of_block HI.out; simp; omega) ?_; intro v' w3 hown' hgrow3 hnil3; have X : Hid (Grw w w3 v' (tkl acc) [.int .i64 k, .string (s.extract pos (pos + n)), .int .i64 v, .int .i64 (pos : Int), .int .i64 ((pos : Int) + (n : Int))] (pos + 1) s (acc.length + 1)) := grw_of HB.out HI.out HZ.out HO.out HB1.out (after5 HB2.out _ _ _ _) hown' hgrow3; clear hown' hgrow3 hnil3))
                go_roundg g'
                case measure => omega
                case rel => exact ⟨pos + 1, pos + n, f, acc ++ [TK], by go_num, by rw [List.length_append, tkl_snoc, HTk.out]; exact X.out.1, X.out.2.1, X.out.2.2.1, X.out.2.2.2, by rw [Nat.max_eq_right (by omega)]; exact HS.out, by omega, by omega, by omega, ⟨by omega, .inr fun j h1 h2 => HAs.out j (by omega) h2⟩, by simp; omega⟩
              · have hbn := bl_no HBb.out
                have hdec := dec_asc s pos (HAs.out pos (Nat.le_refl _) (by omega))
                rw [hdec] at hnx HI hwd hwn
                clear hdec hr0 hr
                generalize bt s.data.toList pos = b at hnx hbn h47
                obtain ⟨q1, q2, q3, q4⟩ := hbn
                have q1 : ¬ (b : Int) = 32 := by omega
                have q2 : ¬ (b : Int) = 9 := by omega
                have q3 : ¬ (b : Int) = 10 := by omega
                have q4 : ¬ (b : Int) = 13 := by omega
                have q5 : ¬ (b : Int) = 47 := by omega
                clear h47
                go_wp2_with (first | (go_at_call 46; refine (HF.out _ HB.out).mono ?_; rintro e w1 ⟨rfl, hb⟩; have HB1 : Hid (Below _ _ w1) := hb; clear hb) | (go_at_call 47; refine (HCl.out _).mono ?_; rintro e w2 ⟨rfl, hb⟩; have HB2 : Hid (Below _ _ w2) := hb; obtain ⟨hc, hfz⟩ := bcell hb; have hz2w : w1.heap.size < w2.heap.size := (by have := hb.size; simp at this; omega); clear hb) | (at_builtin; refine wpList_append_own _ rfl _ _ 22 rfl (w.heap.size + 2) 42 i0 (.agg #[.int .i64 0, .string ⟨#[]⟩, .int .i64 0, .int .i64 0, .int .i64 0]) 5 48 Tryd.underlying22 hi hz0 hz1 hz2 rfl (by decide) _ _ _ rfl (own_below (own_below HO.out HB1.out) (after5 HB2.out _ _ _ _)) ⟨w2.heap.size, 0, none⟩ 1 1 [.int .i64 k, .string (s.extract pos (pos + n)), .int .i64 v, .int .i64 (pos : Int), .int .i64 ((pos : Int) + (n : Int))] rfl rfl (new5 _ _ _ _ _ _ _ _ (by simp)) (one5 _ _ _ _ _) (by unfold maxLen; omega) (by omega) (by have := HB1.out.size; have := lt_of_block HI.out; simp; omega) ?_; intro v' w3 hown' hgrow3 hnil3; have X : Hid (Grw w w3 v' (tkl acc) [.int .i64 k, .string (s.extract pos (pos + n)), .int .i64 v, .int .i64 (pos : Int), .int .i64 ((pos : Int) + (n : Int))] (pos + 1) s (acc.length + 1)) := grw_of HB.out HI.out HZ.out HO.out HB1.out (after5 HB2.out _ _ _ _) hown' hgrow3; clear hown' hgrow3 hnil3))
                go_roundg g'
                case measure => omega
                case rel => exact ⟨pos + 1, pos + n, f, acc ++ [TK], by go_num, by rw [List.length_append, tkl_snoc, HTk.out]; exact X.out.1, X.out.2.1, X.out.2.2.1, X.out.2.2.2, by rw [Nat.max_eq_right (by omega)]; exact HS.out, by omega, by omega, by omega, ⟨by omega, .inr fun j h1 h2 => HAs.out j (by omega) h2⟩, by simp; omega⟩
            · have hS1 := toks_bad f acc hlt hb hr0 he
              have HS : Hid (toks s s.size 0 [] = .bad (fsP s pos).2.2.2 pos (pos + (fsP s pos).2.1)) := hS0.symm.trans hS1
              have hxs : (s.extract pos (pos + (fsP s pos).2.1)).size = (fsP s pos).2.1 := by simp; omega
              have HBb : Hid (blB (bt s.data.toList pos) = false) := hb
              clear hS0 hS1 hb
              obtain ⟨⟨k, n, v, er⟩, hF⟩ : ∃ F, fsP s pos = F := ⟨_, rfl⟩
              simp only [hF] at HF hle he HS hxs
              clear hF
              by_cases h47 : bt s.data.toList pos = 47
              · have HR : Hid (∀ W, Calls Tryd.prog 45 #[.string (s.extract pos s.size)] W fun e w' => e = .returned (.int .i64 0) ∧ w' = W) := fun W => by
                  have t := remark45 (s.extract pos s.size) W
                  rw [toList_from, hr0] at t
                  exact t
                have hdec := dec_asc s pos (by omega)
                rw [hdec, h47] at hnx
                rw [hdec] at HI hwd hwn
                clear hdec h47 hr0 hr
                go_wp2_with (first | (go_at_call 45; refine (HR.out _).mono ?_; rintro e w2 ⟨rfl, rfl⟩) | (go_at_call 46; refine (HF.out _ HB.out).mono ?_; rintro e w1 ⟨rfl, hb⟩; have HB1 : Hid (Below _ _ w1) := hb; obtain ⟨z0, z1, z2, z3, z4⟩ := zer_cells (keep_block HZ.out hb); clear hb))
                rw [Exit.noGoto_ret]
                refine bodyPost_ret (v := .tuple #[.slice none 0 0, .agg #[.int .i64 er, .int .i64 pos, .int .i64 ((pos + n : Nat) : Int)]]) (by simp [results, Tryd.results23, go_sem, z0, z1, z2, z4]) rfl ?_
                rw [HS.out]
                exact ⟨((((HB.out.trans (HB1.out.mono HB.out.size)).setCell (Nat.le_refl _) _).setCell (Nat.le_refl _) _).setCell (Nat.le_refl _) _).alloc (by simp; omega) _, rfl⟩
              · have hRn : ¬ ((Utf8.decode s pos).1 : Int) = 32 ∧ ¬ ((Utf8.decode s pos).1 : Int) = 9 ∧ ¬ ((Utf8.decode s pos).1 : Int) = 10 ∧ ¬ ((Utf8.decode s pos).1 : Int) = 13 ∧ ¬ ((Utf8.decode s pos).1 : Int) = 47 := rune_no s pos HBb.out h47
                obtain ⟨q1, q2, q3, q4, q5⟩ := hRn
                clear h47 hr0 hr
                generalize (Utf8.decode s pos).2 = K at hnx HI hwd hwn
                generalize (Utf8.decode s pos).1 = R at hnx q1 q2 q3 q4 q5
                go_wp2_with (first | (go_at_call 46; refine (HF.out _ HB.out).mono ?_; rintro e w1 ⟨rfl, hb⟩; have HB1 : Hid (Below _ _ w1) := hb; obtain ⟨z0, z1, z2, z3, z4⟩ := zer_cells (keep_block HZ.out hb); clear hb))
                rw [Exit.noGoto_ret]
                refine bodyPost_ret (v := .tuple #[.slice none 0 0, .agg #[.int .i64 er, .int .i64 pos, .int .i64 ((pos + n : Nat) : Int)]]) (by simp [results, Tryd.results23, go_sem, z0, z1, z2, z4]) rfl ?_
                rw [HS.out]
                exact ⟨((((HB.out.trans (HB1.out.mono HB.out.size)).setCell (Nat.le_refl _) _).setCell (Nat.le_refl _) _).setCell (Nat.le_refl _) _).alloc (by simp; omega) _, rfl⟩
        · have hS1 := toks_blank f acc hlt hb
          have HS : Hid (toks s f (pos + 1) acc = toks s s.size 0 []) := hS1.symm.trans hS0
          have hbv := (blB_iff _).1 hb
          have hdec := dec_asc s pos (by omega)
          clear hS0 hS1 hb
          rw [hdec] at hnx HI hwd hwn
          clear hdec
          generalize bt s.data.toList pos = b at *
          rcases hbv with rfl | rfl | rfl | rfl
          all_goals
            go_wp2
            go_roundg g'
            case measure => omega
            case rel => exact ⟨pos + 1, dn, f, acc, rfl, HO.out, HI.out, HZ.out, HB.out, by rw [Nat.max_eq_left (by omega)]; exact HS.out, by omega, by omega, by omega, ⟨by omega, .inr fun j h1 h2 => absurd h2 (by omega)⟩, by omega⟩
    · have hnx : ∀ ty, (Instr.next (.pointer (some ⟨w.heap.size + 1, 0, none⟩)) true ty).run Tryd.prog wr = _ := fun ty => Lib.run_next_end_at wr (w.heap.size + 1) s pos ty hit hlt
      have HS : Hid (toks s s.size 0 [] = .ok (acc ++ [endT s])) := hst.symm.trans (toks_end f acc (by have := hsk.1; omega))
      have hac : acc.length ≤ 65536 := by have := hsk.1; omega
      have HI : Hid (wr.heap[w.heap.size + 1]? = some (.stringIter s pos)) := hit
      have HB : Hid (Below w.heap.size w wr) := hbw
      have HO : Hid (wr.ownsRow (w.heap.size + 2) 42 5 _ acc.length (tkl acc)) := hown
      have HZ : Hid (wr.heap[w.heap.size]? = some zer3) := hzr
      clear hit hbw hown hzr hst hsk hal hf hgf
      go_wp2_with (at_builtin; refine wpList_append_own _ rfl _ _ 22 rfl (w.heap.size + 2) 42 i0 (.agg #[.int .i64 0, .string ⟨#[]⟩, .int .i64 0, .int .i64 0, .int .i64 0]) 5 48 Tryd.underlying22 hi hz0 hz1 hz2 rfl (by decide) _ _ _ rfl (own_below HO.out ((Below.refl _ _).alloc (Nat.le_refl _) _)) ⟨wr.heap.size, 0, none⟩ 1 1 [.int .i64 5, .string ⟨#[]⟩, .int .i64 0, .int .i64 (s.size : Int), .int .i64 (s.size : Int)] rfl rfl (new5 _ _ _ _ _ _ _ _ rfl) (one5 _ _ _ _ _) (by unfold maxLen; omega) (by omega) (by have := lt_of_block HI.out; simp; omega) ?_; intro v' w3 hown' hgrow3 hnil3; have X : Hid (Grw w w3 v' (tkl acc) [.int .i64 5, .string ⟨#[]⟩, .int .i64 0, .int .i64 (s.size : Int), .int .i64 (s.size : Int)] pos s (acc.length + 1)) := grw_of HB.out HI.out HZ.out HO.out (Below.refl _ _) ((Below.refl _ _).alloc (Nat.le_refl _) _) hown' hgrow3; obtain ⟨z0, z1, z2, z3, z4⟩ := zer_cells X.out.2.2.1; clear hown' hgrow3 hnil3)
      rw [Exit.noGoto_ret]
      refine bodyPost_ret (v := .tuple #[v', .agg #[.int .i64 0, .int .i64 0, .int .i64 0]]) (by simp [results, Tryd.results23, go_sem, z0, z1, z2]) rfl ?_
      rw [HS.out]
      refine ⟨((X.out.2.2.2.setCell (Nat.le_refl _) _).setCell (Nat.le_refl _) _).setCell (Nat.le_refl _) _, v', rfl, ?_⟩
      have t : w3.ownsRow w.heap.size 42 5 v' (acc ++ [endT s]).length (tkl (acc ++ [endT s])) := by
        rw [List.length_append, tkl_snoc]
        exact Joins.ownsRow_le X.out.1 (by omega)
      exact own_sets X.out.1 t
end Go.Proofs.YtgdbfedagdlgkaaDoor
