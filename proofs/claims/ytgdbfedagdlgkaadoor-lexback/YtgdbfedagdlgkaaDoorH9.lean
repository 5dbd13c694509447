/- The document's tokens. -/
import Derived.Test.YtgdbfedagdlgkaaDoorH7
namespace Go.Proofs.YtgdbfedagdlgkaaDoor
open Go.RowKit Go.Shelf
theorem at_new (w : World) : (w.alloc zer3).heap[w.heap.size]? = some zer3 := by
  show (w.heap.push zer3)[w.heap.size]? = _
  simp
/-- What holds at each round of the document's loop. -/
def Rq (s : ByteArray) (w : World) (v5 v6 : Value) (wx : World) : Prop := ∃ (q f : Nat) (acc : List Tk), v6 = .int .i64 q ∧ wx.ownsRow (w.heap.size + 1) 42 5 v5 acc.length (tkl acc) ∧ wx.heap[w.heap.size]? = some zer3 ∧ Below w.heap.size w wx ∧ toks s f q acc = toks s s.size 0 [] ∧ s.size ≤ q + f ∧ q ≤ s.size ∧ (q < s.size → blB (bt s.data.toList q) = false ∧ rmk (s.data.toList.drop q) = 0) ∧ onw s q ∧ acc.length ≤ q
theorem cell_same {A B : World} {k o : Nat} (h : A.heap[k]? = B.heap[k]?) : A.cell? ⟨k, o, none⟩ = B.cell? ⟨k, o, none⟩ := by
  unfold World.cell?
  simp only [h]
/-- What a round of the document's loop that makes a token leaves. -/
def Grq (w W w3 : World) (v' : Value) (xs : List Value) (m : Nat) (tv : Value) : Prop := w3.ownsRow (w.heap.size + 1) 42 5 v' m xs ∧ w3.heap[w.heap.size]? = some zer3 ∧ Below w.heap.size w w3 ∧ w3.cell? ⟨W.heap.size, 4, none⟩ = some tv
theorem grq_of {w W A w3 : World} {v' u tv : Value} {old xs : List Value} {m l : Nat} (HB : Below w.heap.size w W) (HZ : W.heap[w.heap.size]? = some zer3) (HO : W.ownsRow (w.heap.size + 1) 42 5 u l old) (BB : Below W.heap.size W A) (hA : W.heap.size < A.heap.size) (hto : A.cell? ⟨W.heap.size, 4, none⟩ = some tv)
    (hown : w3.ownsRow (w.heap.size + 1) 42 5 v' m xs) (hg : A.grownBy w3 u.ownBlock) : Grq w W w3 v' xs m tv := by
  have h1 := lt_of_block HZ
  refine ⟨hown, ?_, ?_, ?_⟩
  · rw [hg.block _ (by omega) (fun h => by have := (HO.lt _ h.symm).1; omega), BB.block _ h1]
    exact HZ
  · exact Below.grown (HB.trans (BB.mono HB.size)) hg (by have := HB.size; omega) (fun j hj => by have := (HO.lt _ hj).1; omega)
  · rw [cell_same (hg.block W.heap.size hA (fun h => by have := (HO.lt _ h.symm).2; omega))]
    exact hto
theorem below_zz (W : World) : Below W.heap.size W ((W.alloc zer5).alloc zer3) := below_both W
theorem below9 {W W2 : World} (hb : Below W.heap.size W W2) (hz : W.heap.size + 1 < W2.heap.size) (a b c d e f g h : Value) (o : Obj) : Below W.heap.size W (((((((((W2.setCell ⟨W.heap.size, 0, none⟩ a).setCell ⟨W.heap.size, 1, none⟩ b).setCell ⟨W.heap.size, 2, none⟩ c).setCell ⟨W.heap.size, 3, none⟩ d).setCell ⟨W.heap.size, 4, none⟩ e).setCell ⟨W.heap.size + 1, 0, none⟩ f).setCell ⟨W.heap.size + 1, 1, none⟩ g).setCell ⟨W.heap.size + 1, 2, none⟩ h).alloc o) :=
  (below8 hb a b c d e f g h).alloc (by simp; omega) o
theorem fsP_num {s : ByteArray} {q : Nat} (hd : dgB (bt (s.data.toList.drop q) 0) = true) (hq : q < s.size) : 0 < nsz (s.data.toList.drop q) ∧ fsP s q = match nuO ((s.data.toList.drop q).take (nsz (s.data.toList.drop q))) with
    | some v => (3, nsz (s.data.toList.drop q), v, 0)
    | none => (0, nsz (s.data.toList.drop q), 0, 112) := by
  have hlen : (s.data.toList.drop q).length = s.size - q := by rw [List.length_drop, len_of]
  have hpos : 0 < nsz (s.data.toList.drop q) := by
    apply Classical.byContradiction
    intro hz
    have := nsz_end (s.data.toList.drop q) (by omega)
    rw [show nsz (s.data.toList.drop q) = 0 by omega, nm_split, hd] at this
    cases this
  refine ⟨hpos, ?_⟩
  unfold fsP fst
  rw [if_pos hpos, if_pos hd]
  cases nuO ((s.data.toList.drop q).take (nsz (s.data.toList.drop q))) <;> rfl
theorem below11 {w W W2 : World} (HB : Below w.heap.size w W) (hb : Below W.heap.size W W2) (a b c d e f g h i j k : Value) : Below w.heap.size w (((((((((((W2.setCell ⟨W.heap.size, 0, none⟩ a).setCell ⟨W.heap.size, 1, none⟩ b).setCell ⟨W.heap.size, 2, none⟩ c).setCell ⟨W.heap.size, 3, none⟩ d).setCell ⟨W.heap.size, 4, none⟩ e).setCell ⟨W.heap.size + 1, 0, none⟩ f).setCell ⟨W.heap.size + 1, 1, none⟩ g).setCell ⟨W.heap.size + 1, 2, none⟩ h).setCell ⟨w.heap.size, 0, none⟩ i).setCell ⟨w.heap.size, 1, none⟩ j).setCell ⟨w.heap.size, 2, none⟩ k) :=
  (((HB.trans ((below8 hb a b c d e f g h).mono HB.size)).setCell (Nat.le_refl _) i).setCell (Nat.le_refl _) j).setCell (Nat.le_refl _) k
theorem below6s {w W W2 : World} (HB : Below w.heap.size w W) (hb : Below W.heap.size W W2) (f g h i j k : Value) : Below w.heap.size w ((((((W2.setCell ⟨W.heap.size + 1, 0, none⟩ f).setCell ⟨W.heap.size + 1, 1, none⟩ g).setCell ⟨W.heap.size + 1, 2, none⟩ h).setCell ⟨w.heap.size, 0, none⟩ i).setCell ⟨w.heap.size, 1, none⟩ j).setCell ⟨w.heap.size, 2, none⟩ k) :=
  (((HB.trans ((((hb.setCell (Nat.le_succ _) f).setCell (Nat.le_succ _) g).setCell (Nat.le_succ _) h).mono HB.size)).setCell (Nat.le_refl _) i).setCell (Nat.le_refl _) j).setCell (Nat.le_refl _) k
theorem below6a {W W2 : World} (hb : Below W.heap.size W W2) (hz : W.heap.size < W2.heap.size) (a b c d e : Value) (o : Obj) : Below W.heap.size W ((((((W2.setCell ⟨W.heap.size, 0, none⟩ a).setCell ⟨W.heap.size, 1, none⟩ b).setCell ⟨W.heap.size, 2, none⟩ c).setCell ⟨W.heap.size, 3, none⟩ d).setCell ⟨W.heap.size, 4, none⟩ e).alloc o) :=
  (((((hb.setCell (Nat.le_refl _) a).setCell (Nat.le_refl _) b).setCell (Nat.le_refl _) c).setCell (Nat.le_refl _) d).setCell (Nat.le_refl _) e).alloc (by simp; omega) o
theorem nm_pos {s : ByteArray} {q : Nat} (h : nmB (bt (s.data.toList.drop q) 0) = true) (hq : q < s.size) : 0 < nsz (s.data.toList.drop q) := by
  have hlen : (s.data.toList.drop q).length = s.size - q := by rw [List.length_drop, len_of]
  apply Classical.byContradiction
  intro hz
  have := nsz_end (s.data.toList.drop q) (by omega)
  rw [show nsz (s.data.toList.drop q) = 0 by omega, h] at this
  cases this
theorem nm_zero {l : List UInt8} (h : nmB (bt l 0) = false) : nsz l = 0 := by
  apply Classical.byContradiction
  intro hz
  have := nsz_nm l (j := 0) (by omega)
  rw [h] at this
  cases this
theorem fsP_word {s : ByteArray} {q : Nat} (hd : dgB (bt (s.data.toList.drop q) 0) = false) (hp : 0 < nsz (s.data.toList.drop q)) : fsP s q = (wdK ((s.data.toList.drop q).take (nsz (s.data.toList.drop q))), nsz (s.data.toList.drop q), 0, wdE ((s.data.toList.drop q).take (nsz (s.data.toList.drop q)))) := by
  unfold fsP fst
  rw [if_pos hp, if_neg (by simp [hd])]
theorem fsP_sign {s : ByteArray} {q : Nat} (hz : nsz (s.data.toList.drop q) = 0) : fsP s q = if 0 < sgz (s.data.toList.drop q) then (4, sgz (s.data.toList.drop q), 0, 0) else (0, (Utf8.decode s q).2, 0, 111) := by
  unfold fsP fst
  rw [if_neg (by omega)]
theorem low_one {l : List UInt8} (hz : nsz l = 1) (hb : bt l 0 = 95) (hl : 1 ≤ l.length) : l.take (nsz l) = [95] := by
  rw [hz]
  match l, hl with
  | c :: r, _ =>
    have : c = 95 := UInt8.toNat_inj.1 hb
    rw [this]
    rfl
set_option maxRecDepth 100000 in
set_option maxHeartbeats 16000000 in
theorem rtokens10_in (s : ByteArray) (w : World) (hs : s.size ≤ 65536) (hst : stray s s.size 0 = none) : Calls Tryd.prog 10 #[.string s] w (cutQ w (toks s s.size 0 [])) := by
  obtain ⟨i0, hi, hz0, hz1, hz2⟩ := info_parts info42
  have HSt : Hid (∀ W, Calls Tryd.prog 25 #[.string s] W fun e w' => e = .returned (.int .i64 (-1)) ∧ w' = W) := fun W => by
    have t := strange25 s W (by omega)
    rw [hst] at t
    exact t
  have HBl : Hid (∀ W p, p ≤ s.size → Calls Tryd.prog 26 #[.string s, .int .i64 p] W fun e w' => e = .returned (.int .i64 (blk s (s.size - p) p)) ∧ w' = W) := fun W p hp => blank26 s p W (by omega) hp
  have HO0 : Hid (onw s 0) := onw_of s s.size 0 hst (by omega)
  have HAt : Hid (∀ k (h : k < s.size), s[k].toNat = bt s.data.toList k) := at_bt s
  clear hst
  go_enter Tryd.func10, Tryd.ntmps10
  go_wp2_with (first | (go_at_call 25; refine (HSt.out _).mono ?_; rintro e w' ⟨rfl, rfl⟩) | (go_at_call 26; refine (HBl.out _ 0 (Nat.zero_le _)).mono ?_; rintro e w' ⟨rfl, rfl⟩))
  go_loopw [5, 6] (fun v5 v6 wx => Rq s w v5 v6 wx) (fun _ i _ => s.size - (intOf i).toNat)
  case atStart =>
    obtain ⟨e5, e1, e2, e3, e4⟩ := blk_spec s _ 0 s.size s.size (s.size - blk s s.size 0) [] (Nat.le_refl _) (Nat.zero_le _) (by omega) (by omega) (by omega)
    exact ⟨blk s s.size 0, _, [], rfl, World.ownsRow_nil _ _ _ _, at_new w, below_cells _ _ _, e5.symm, by omega, e2, e3, e4 HO0.out, by simp⟩
  case round =>
    obtain ⟨q, f, acc, rfl, hown, hzr, hbw, hS, hf, hq, hnb, hon, hal⟩ := hrel
    have HO : Hid (wr.ownsRow (w.heap.size + 1) 42 5 _ acc.length (tkl acc)) := hown
    have HZ : Hid (wr.heap[w.heap.size]? = some zer3) := hzr
    have HB : Hid (Below w.heap.size w wr) := hbw
    have HW : Hid (onw s q) := hon
    clear hown hzr hbw hon
    by_cases hlt : q < s.size
    · obtain ⟨hb, hr0⟩ := hnb hlt
      obtain ⟨f, rfl⟩ : ∃ k, f = k + 1 := ⟨f - 1, by omega⟩
      have hb1 : s[q].toNat = bt s.data.toList q := HAt.out q hlt
      have hbd : bt (s.data.toList.drop q) 0 = bt s.data.toList q := by rw [bt_drop, Nat.add_zero]
      clear hnb
      cases hd : dgB (bt s.data.toList q)
      · have hd' : dgB (bt (s.data.toList.drop q) 0) = false := by rw [hbd]; exact hd
        cases ht : ltB (bt s.data.toList q)
        · have hnz : nsz (s.data.toList.drop q) = 0 := nm_zero (by rw [hbd, nm_split, hd, ht]; rfl)
          have h95n : ¬ bt s.data.toList q = 95 := fun e => by rw [e] at ht; simp [ltB] at ht
          have h95 : ¬ (bt s.data.toList q : Int) = 95 := by omega
          have hrs : rsg (s.data.toList.drop q) = sgz (s.data.toList.drop q) := rsg_sgz _ (fun e => by have h := congrArg List.length e; rw [List.length_drop, len_of] at h; simp at h; omega) (by rw [hbd]; exact h95n)
          have H32 := fun W => sign32 s q W (by omega) hlt
          rw [hrs] at H32
          have hfs := fsP_sign hnz
          by_cases hsg : 0 < sgz (s.data.toList.drop q)
          · rw [if_pos hsg] at hfs
            have hsl := sgz_le (s.data.toList.drop q)
            rw [List.length_drop, len_of] at hsl
            clear hrs hnz h95n hd' hbd
            have HSg0 : Hid (∀ W, Calls Tryd.prog 32 #[.string s, .int .i64 q] W fun e w' => e = .returned (.string (s.extract q (q + sgz (s.data.toList.drop q)))) ∧ Below W.heap.size W w') := H32
            clear H32
            have hS1 := toks_ok f acc hlt hb hr0 (by rw [hfs])
            obtain ⟨t0, t1, t2⟩ := fsP_ok s q (by rw [hfs])
            have HTk : Hid (tkc (tokT s q) = [.int .i64 (fsP s q).1, .string (s.extract q (q + (fsP s q).2.1)), .int .i64 (fsP s q).2.2.1, .int .i64 (q : Nat), .int .i64 ((q + (fsP s q).2.1 : Nat) : Int)]) := rfl
            have hon2 : onw s (q + (fsP s q).2.1) := onw_skip s _ q _ (Nat.le_refl _) (by omega) ⟨t1, .inr t2⟩ HW.out
            have hS2 := hS1.symm.trans hS
            obtain ⟨e5, e1, e2, e3, e4⟩ := blk_spec s _ (q + (fsP s q).2.1) (s.size - (q + (fsP s q).2.1)) f (s.size - blk s (s.size - (q + (fsP s q).2.1)) (q + (fsP s q).2.1)) (acc ++ [tokT s q]) (Nat.le_refl _) t1 (by omega) (by omega) (by omega)
            rw [hfs] at HTk e5 e1 e2 e3 e4 hon2 hS2 t0 t1
            simp only at HTk e5 e1 e2 e3 e4 hon2 hS2 t0 t1
            have HBk : Hid (∀ W, Calls Tryd.prog 26 #[.string s, .int .i64 ((q : Int) + (sgz (s.data.toList.drop q) : Int))] W fun e w' => e = .returned (.int .i64 (blk s (s.size - (q + sgz (s.data.toList.drop q))) (q + sgz (s.data.toList.drop q)))) ∧ w' = W) := fun W => by
              have t := HBl.out W (q + sgz (s.data.toList.drop q)) t1
              rw [Int.natCast_add] at t
              exact t
            have HE : Hid (toks s (s.size - blk s (s.size - (q + sgz (s.data.toList.drop q))) (q + sgz (s.data.toList.drop q))) (blk s (s.size - (q + sgz (s.data.toList.drop q))) (q + sgz (s.data.toList.drop q))) (acc ++ [tokT s q]) = toks s s.size 0 []) := e5.symm.trans hS2
            have HE3 : Hid _ := e3
            have HE4 : Hid (onw s (blk s (s.size - (q + sgz (s.data.toList.drop q))) (q + sgz (s.data.toList.drop q)))) := e4 hon2
            clear hfs hS hS1 hS2 e5 e3 e4 hon2 t2 hb hr0
            generalize tokT s q = TK at HTk HE
            generalize hQ : blk s (s.size - (q + sgz (s.data.toList.drop q))) (q + sgz (s.data.toList.drop q)) = Q at *
            clear hQ
            have HSg : Hid (∀ W, Calls Tryd.prog 32 #[.string s, .int .i64 q] W fun e w' => e = .returned (.string (s.extract q (q + sgz (s.data.toList.drop q)))) ∧ Below W.heap.size W w') := fun W => HSg0.out W
            have hxs : (s.extract q (q + sgz (s.data.toList.drop q))).size = sgz (s.data.toList.drop q) := by simp; omega
            have hxn : (s.extract q (q + sgz (s.data.toList.drop q))).toList.isEmpty = false := by
              have hlx : (s.extract q (q + sgz (s.data.toList.drop q))).toList.length = sgz (s.data.toList.drop q) := by rw [ByteArray.toList_eq, len_of, hxs]
              cases hc : (s.extract q (q + sgz (s.data.toList.drop q))).toList with
              | nil =>
                rw [hc, List.length_nil] at hlx
                omega
              | cons a b => rfl
            clear HSg0
            generalize sgz (s.data.toList.drop q) = n at *
            generalize bt s.data.toList q = b at *
            go_wp2_with (first | (go_at_call 28; refine (digit28 _ _).mono ?_; rintro e w' ⟨rfl, rfl⟩) | (go_at_call 30; refine (letter30 _ _).mono ?_; rintro e w' ⟨rfl, rfl⟩) | fail)
            refine (HSg.out _).mono ?_
            rintro e w1 ⟨rfl, hb1⟩
            have HB1 : Hid (Below wr.heap.size wr w1) := (below_both wr).trans (hb1.mono (by simp; omega))
            have T1 : Hid (w1.heap[wr.heap.size]? = some zer5) := keep_block (two_zero wr).1 hb1
            have T2 : Hid (w1.heap[wr.heap.size + 1]? = some zer3) := keep_block (two_zero wr).2 hb1
            clear hb1
            go_wp2_with fail
            refine (HSg.out _).mono ?_
            rintro e w2 ⟨rfl, hb2⟩
            have HB2 : Hid (Below wr.heap.size wr w2) := HB1.out.trans (hb2.mono HB1.out.size)
            obtain ⟨y0, y1, y2, y3, y4, y5, y6⟩ := zer5_cells (keep_block T1.out hb2)
            obtain ⟨z0, z1, z2, z3, z4⟩ := zer_cells (keep_block T2.out hb2)
            clear hb2
            go_wp2_with (first | (at_builtin; refine wpList_append_own _ rfl _ _ 22 rfl (w.heap.size + 1) 42 i0 (.agg #[.int .i64 0, .string ⟨#[]⟩, .int .i64 0, .int .i64 0, .int .i64 0]) 5 48 Tryd.underlying22 hi hz0 hz1 hz2 rfl (by decide) _ _ _ rfl (own_below HO.out (below6a HB2.out (by have := z4; omega) _ _ _ _ _ _)) ⟨w2.heap.size, 0, none⟩ 1 1 [.int .i64 4, .string (s.extract q (q + n)), .int .i64 0, .int .i64 (q : Int), .int .i64 ((q : Int) + (n : Int))] rfl rfl (new5 _ _ _ _ _ _ _ _ (by simp)) (one5 _ _ _ _ _) (by unfold maxLen; omega) (by omega) (by have := HB.out.size; have := HB2.out.size; simp at this ⊢; omega) ?_; intro v' w3 hown' hgrow3 hnil3; have X : Hid (Grq w wr w3 v' (tkl acc ++ [.int .i64 4, .string (s.extract q (q + n)), .int .i64 0, .int .i64 (q : Int), .int .i64 ((q : Int) + (n : Int))]) (acc.length + 1) (.int .i64 ((q : Int) + (n : Int)))) := grq_of HB.out HZ.out HO.out (below6a HB2.out (by have := z4; omega) _ _ _ _ _ _) (by simp; omega) (by go_simp) hown' hgrow3; have x4 := X.out.2.2.2; clear hown' hgrow3 hnil3) | (go_at_call 26; refine (HBk.out _).mono ?_; rintro e w4 ⟨rfl, rfl⟩))
            exact ⟨⟨Q, s.size - Q, acc ++ [TK], rfl, by rw [List.length_append, tkl_snoc, HTk.out]; exact X.out.1, X.out.2.1, X.out.2.2.1, HE.out, by omega, e2, HE3.out, HE4.out, by simp; omega⟩, by simp [intOf]; omega⟩
          · rw [if_neg hsg] at hfs
            have hsz : sgz (s.data.toList.drop q) = 0 := by omega
            rw [hsz, Nat.add_zero] at H32
            have hx0 : s.extract q q = ⟨#[]⟩ := bytes_ext (by rw [toList_cut]; simp)
            rw [hx0] at H32
            have hnbad := (onw_step HW.out hlt).1
            have H33 := fun W => size33 s q W (by omega) hlt
            unfold szP at H33
            rw [hnbad] at H33
            simp only [Bool.false_eq_true, if_false] at H33
            have hwl := width_le s q hlt
            have hS2 := hS.symm.trans (toks_bad f acc hlt hb hr0 (by rw [hfs]; simp))
            rw [hfs] at hS2
            simp only at hS2
            have HS : Hid (toks s s.size 0 [] = .bad 111 q (q + (Utf8.decode s q).2)) := hS2
            have HSg : Hid (∀ W, Calls Tryd.prog 32 #[.string s, .int .i64 q] W fun e w' => e = .returned (.string ⟨#[]⟩) ∧ Below W.heap.size W w') := H32
            have HSz : Hid (∀ W, Calls Tryd.prog 33 #[.string s, .int .i64 q] W fun e w' => e = .returned (.int .i64 ((Utf8.decode s q).2 : Nat)) ∧ w' = W) := H33
            clear H32 H33 hS hS2 hfs hsz hx0 hnbad hrs hnz h95n hd' hbd hsg hb hr0
            generalize (Utf8.decode s q).2 = n at *
            generalize bt s.data.toList q = b at *
            have hx0 : (⟨#[]⟩ : ByteArray).toList.isEmpty = true := by rw [ByteArray.toList_eq]; rfl
            go_wp2_with (first | (go_at_call 28; refine (digit28 _ _).mono ?_; rintro e w' ⟨rfl, rfl⟩) | (go_at_call 30; refine (letter30 _ _).mono ?_; rintro e w' ⟨rfl, rfl⟩) | fail)
            refine (HSg.out _).mono ?_
            rintro e w1 ⟨rfl, hb1⟩
            have HB1 : Hid (Below wr.heap.size wr w1) := (below_both wr).trans (hb1.mono (by simp; omega))
            have T2 : Hid (w1.heap[wr.heap.size + 1]? = some zer3) := keep_block (two_zero wr).2 hb1
            clear hb1
            go_wp2_with (first | (go_at_call 33; refine (HSz.out _).mono ?_; rintro e w' ⟨rfl, rfl⟩) | (go_at_call 24; refine (diag24 _ _ _ _).mono ?_; rintro e w2 ⟨rfl, hb2⟩; have HB2 : Hid (Below wr.heap.size wr w2) := HB1.out.trans (hb2.mono HB1.out.size); obtain ⟨z0, z1, z2, z3, z4⟩ := zer_cells (keep_block T2.out hb2); obtain ⟨x0, x1, x2, x3, x4⟩ := zer_cells (keep_block HZ.out HB2.out); have x5 : w.heap.size < wr.heap.size := lt_of_block HZ.out; clear hb2))
            go_region
            go_wp2
            all_goals
              refine bodyPost_ret (v := .tuple #[.slice none 0 0, .agg #[.int .i64 111, .int .i64 q, .int .i64 ((q + n : Nat) : Int)]]) (by simp [results, Tryd.results10, go_sem, x0, x1, x2]) rfl ?_
              rw [HS.out]
              exact ⟨(below6s HB.out HB2.out _ _ _ _ _ _).drew, rfl⟩
        · have hpos : 0 < nsz (s.data.toList.drop q) := nm_pos (by rw [hbd, nm_split, ht, Bool.or_true]) hlt
          have hnle := nsz_le (s.data.toList.drop q)
          rw [List.length_drop, len_of] at hnle
          have H27 := fun W => run27 s q W (by unfold maxLen; omega) hq
          simp only [Int.natCast_add] at H27
          by_cases h95e : bt s.data.toList q = 95
          · have h95 : (bt s.data.toList q : Int) = 95 := by omega
            by_cases hone : nsz (s.data.toList.drop q) = 1
            · have hlw := low_one hone (by rw [hbd]; exact h95e) (by rw [List.length_drop, len_of]; omega)
              obtain ⟨n, hn⟩ : ∃ n : Nat, n = 1 := ⟨1, rfl⟩
              have hfs : fsP s q = (4, n, 0, 0) := by
                rw [fsP_word hd' hpos, hlw, hone, hn]
                rfl
              have hone1 : ((q : Int) + (n : Int) == (q : Int) + 1) = true := by rw [hn]; simp
              have H32 := fun W => sign32 s q W (by omega) hlt
              rw [rsg_low _ (by rw [hbd]; exact h95e)] at H32
              rw [hone] at H27
              rw [← hn] at H27 H32
              have HR27 : Hid (∀ W, Calls Tryd.prog 27 #[.string s, .int .i64 q] W fun e w' => e = .returned (.int .i64 ((q : Int) + (n : Int))) ∧ w' = W) := H27
              rw [h95e] at hb1 hd ht
              have hn1 : q + n ≤ s.size := by omega
              clear hlw hone h95e H27 hnle hpos hd' hbd h95
              have HSg0 : Hid (∀ W, Calls Tryd.prog 32 #[.string s, .int .i64 q] W fun e w' => e = .returned (.string (s.extract q (q + n))) ∧ Below W.heap.size W w') := H32
              clear H32
              have hS1 := toks_ok f acc hlt hb hr0 (by rw [hfs])
              obtain ⟨t0, t1, t2⟩ := fsP_ok s q (by rw [hfs])
              have HTk : Hid (tkc (tokT s q) = [.int .i64 (fsP s q).1, .string (s.extract q (q + (fsP s q).2.1)), .int .i64 (fsP s q).2.2.1, .int .i64 (q : Nat), .int .i64 ((q + (fsP s q).2.1 : Nat) : Int)]) := rfl
              have hon2 : onw s (q + (fsP s q).2.1) := onw_skip s _ q _ (Nat.le_refl _) (by omega) ⟨t1, .inr t2⟩ HW.out
              have hS2 := hS1.symm.trans hS
              obtain ⟨e5, e1, e2, e3, e4⟩ := blk_spec s _ (q + (fsP s q).2.1) (s.size - (q + (fsP s q).2.1)) f (s.size - blk s (s.size - (q + (fsP s q).2.1)) (q + (fsP s q).2.1)) (acc ++ [tokT s q]) (Nat.le_refl _) t1 (by omega) (by omega) (by omega)
              rw [hfs] at HTk e5 e1 e2 e3 e4 hon2 hS2 t0 t1
              simp only at HTk e5 e1 e2 e3 e4 hon2 hS2 t0 t1
              have HBk : Hid (∀ W, Calls Tryd.prog 26 #[.string s, .int .i64 ((q : Int) + (n : Int))] W fun e w' => e = .returned (.int .i64 (blk s (s.size - (q + n)) (q + n))) ∧ w' = W) := fun W => by
                have t := HBl.out W (q + n) t1
                rw [Int.natCast_add] at t
                exact t
              have HE : Hid (toks s (s.size - blk s (s.size - (q + n)) (q + n)) (blk s (s.size - (q + n)) (q + n)) (acc ++ [tokT s q]) = toks s s.size 0 []) := e5.symm.trans hS2
              have HE3 : Hid _ := e3
              have HE4 : Hid (onw s (blk s (s.size - (q + n)) (q + n))) := e4 hon2
              clear hfs hS hS1 hS2 e5 e3 e4 hon2 t2 hb hr0
              generalize tokT s q = TK at HTk HE
              generalize hQ : blk s (s.size - (q + n)) (q + n) = Q at *
              clear hQ
              have HSg : Hid (∀ W, Calls Tryd.prog 32 #[.string s, .int .i64 q] W fun e w' => e = .returned (.string (s.extract q (q + n))) ∧ Below W.heap.size W w') := fun W => HSg0.out W
              have hxs : (s.extract q (q + n)).size = n := by simp; omega
              have hxn : (s.extract q (q + n)).toList.isEmpty = false := by
                have hlx : (s.extract q (q + n)).toList.length = n := by rw [ByteArray.toList_eq, len_of, hxs]
                cases hc : (s.extract q (q + n)).toList with
                | nil =>
                  rw [hc, List.length_nil] at hlx
                  omega
                | cons a b => rfl
              clear HSg0 hn
              go_wp2_with (first | (go_at_call 27; refine (HR27.out _).mono ?_; rintro e w' ⟨rfl, rfl⟩) | (go_at_call 28; refine (digit28 _ _).mono ?_; rintro e w' ⟨rfl, rfl⟩) | (go_at_call 30; refine (letter30 _ _).mono ?_; rintro e w' ⟨rfl, rfl⟩) | fail)
              refine (HSg.out _).mono ?_
              rintro e w1 ⟨rfl, hb1⟩
              have HB1 : Hid (Below wr.heap.size wr w1) := (below_both wr).trans (hb1.mono (by simp; omega))
              have T1 : Hid (w1.heap[wr.heap.size]? = some zer5) := keep_block (two_zero wr).1 hb1
              have T2 : Hid (w1.heap[wr.heap.size + 1]? = some zer3) := keep_block (two_zero wr).2 hb1
              clear hb1
              go_wp2_with fail
              refine (HSg.out _).mono ?_
              rintro e w2 ⟨rfl, hb2⟩
              have HB2 : Hid (Below wr.heap.size wr w2) := HB1.out.trans (hb2.mono HB1.out.size)
              obtain ⟨y0, y1, y2, y3, y4, y5, y6⟩ := zer5_cells (keep_block T1.out hb2)
              obtain ⟨z0, z1, z2, z3, z4⟩ := zer_cells (keep_block T2.out hb2)
              clear hb2
              go_wp2_with (first | (at_builtin; refine wpList_append_own _ rfl _ _ 22 rfl (w.heap.size + 1) 42 i0 (.agg #[.int .i64 0, .string ⟨#[]⟩, .int .i64 0, .int .i64 0, .int .i64 0]) 5 48 Tryd.underlying22 hi hz0 hz1 hz2 rfl (by decide) _ _ _ rfl (own_below HO.out (below6a HB2.out (by have := z4; omega) _ _ _ _ _ _)) ⟨w2.heap.size, 0, none⟩ 1 1 [.int .i64 4, .string (s.extract q (q + n)), .int .i64 0, .int .i64 (q : Int), .int .i64 ((q : Int) + (n : Int))] rfl rfl (new5 _ _ _ _ _ _ _ _ (by simp)) (one5 _ _ _ _ _) (by unfold maxLen; omega) (by omega) (by have := HB.out.size; have := HB2.out.size; simp at this ⊢; omega) ?_; intro v' w3 hown' hgrow3 hnil3; have X : Hid (Grq w wr w3 v' (tkl acc ++ [.int .i64 4, .string (s.extract q (q + n)), .int .i64 0, .int .i64 (q : Int), .int .i64 ((q : Int) + (n : Int))]) (acc.length + 1) (.int .i64 ((q : Int) + (n : Int)))) := grq_of HB.out HZ.out HO.out (below6a HB2.out (by have := z4; omega) _ _ _ _ _ _) (by simp; omega) (by go_simp) hown' hgrow3; have x4 := X.out.2.2.2; clear hown' hgrow3 hnil3) | (go_at_call 26; refine (HBk.out _).mono ?_; rintro e w4 ⟨rfl, rfl⟩))
              exact ⟨⟨Q, s.size - Q, acc ++ [TK], rfl, by rw [List.length_append, tkl_snoc, HTk.out]; exact X.out.1, X.out.2.1, X.out.2.2.1, HE.out, by omega, e2, HE3.out, HE4.out, by simp; omega⟩, by simp [intOf]; omega⟩
            · have HR27 : Hid (∀ W, Calls Tryd.prog 27 #[.string s, .int .i64 q] W fun e w' => e = .returned (.int .i64 ((q : Int) + (nsz (s.data.toList.drop q) : Int))) ∧ w' = W) := H27
              have hone' : ((q : Int) + (nsz (s.data.toList.drop q) : Int) == (q : Int) + 1) = false := by simp; omega
              clear H27
              have hw : (s.data.toList.drop q).take (nsz (s.data.toList.drop q)) ≠ [95] := fun e => hone (by have h := congrArg List.length e; rw [List.length_take] at h; have := nsz_le (s.data.toList.drop q); simp at h; omega)
              have htl : ((s.data.toList.drop q).take (nsz (s.data.toList.drop q))).length = nsz (s.data.toList.drop q) := by rw [List.length_take]; have := nsz_le (s.data.toList.drop q); omega
              by_cases hlong : 64 < nsz (s.data.toList.drop q)
              · have hwd : wdB ((s.data.toList.drop q).take (nsz (s.data.toList.drop q))) = false := by
                  apply Classical.byContradiction
                  intro hx
                  have := wd_short (by simpa using hx)
                  omega
                have hfs : fsP s q = (0, nsz (s.data.toList.drop q), 0, 2) := by
                  rw [fsP_word hd' hpos]
                  unfold wdK wdE
                  rw [if_neg hw, if_neg hw, hwd, htl, if_pos hlong]
                  simp [hlong]
                have H31 := fun W => named31_long s q W (by omega) hq hlong
                unfold tkv dgv at H31
                have hS2 := hS.symm.trans (toks_bad f acc hlt hb hr0 (by rw [hfs]; simp))
                rw [hfs] at hS2
                simp only at hS2
                have HS : Hid (toks s s.size 0 [] = .bad 2 q (q + nsz (s.data.toList.drop q))) := hS2
                have HH : Hid (∀ W, Calls Tryd.prog 31 #[.string s, .int .i64 q] W fun e w' => e = .returned (.tuple #[.agg #[.int .i64 0, .string ⟨#[]⟩, .int .i64 0, .int .i64 0, .int .i64 0], .agg #[.int .i64 2, .int .i64 q, .int .i64 ((q + nsz (s.data.toList.drop q) : Nat) : Int)]]) ∧ Below W.heap.size W w') := H31
                clear H31 hfs hwd hw htl hS hS2 hb hr0 hd' hlong
                rw [h95e] at hb1 hd ht
                clear h95e h95 hbd hone
                generalize nsz (s.data.toList.drop q) = n at *
                generalize bt s.data.toList q = b at *
                go_wp2_with (first | (go_at_call 27; refine (HR27.out _).mono ?_; rintro e w' ⟨rfl, rfl⟩) | (go_at_call 28; refine (digit28 _ _).mono ?_; rintro e w' ⟨rfl, rfl⟩) | (go_at_call 30; refine (letter30 _ _).mono ?_; rintro e w' ⟨rfl, rfl⟩) | (go_at_call 31; refine (HH.out _).mono ?_; rintro e w2 ⟨rfl, hb2⟩; have HB2 : Hid (Below wr.heap.size wr w2) := (below_both wr).trans (hb2.mono (by simp; omega)); obtain ⟨y0, y1, y2, y3, y4, y5, y6⟩ := zer5_cells (keep_block (two_zero wr).1 hb2); obtain ⟨z0, z1, z2, z3, z4⟩ := zer_cells (keep_block (two_zero wr).2 hb2); obtain ⟨x0, x1, x2, x3, x4⟩ := zer_cells (keep_block HZ.out HB2.out); have x5 : w.heap.size < wr.heap.size := lt_of_block HZ.out; clear hb2))
                go_region
                go_wp2
                all_goals
                  refine bodyPost_ret (v := .tuple #[.slice none 0 0, .agg #[.int .i64 2, .int .i64 q, .int .i64 ((q + n : Nat) : Int)]]) (by simp [results, Tryd.results10, go_sem, x0, x1, x2]) rfl ?_
                  rw [HS.out]
                  exact ⟨(below11 HB.out HB2.out _ _ _ _ _ _ _ _ _ _ _).drew, rfl⟩
              · have hfs : fsP s q = ((if wdB ((s.data.toList.drop q).take (nsz (s.data.toList.drop q))) then 2 else 1), nsz (s.data.toList.drop q), 0, 0) := by
                  rw [fsP_word hd' hpos]
                  unfold wdK wdE
                  rw [if_neg hw, if_neg hw, htl, if_neg hlong]
                  cases wdB ((s.data.toList.drop q).take (nsz (s.data.toList.drop q))) <;> simp <;> omega
                have H31 := fun W => named31_ok s q W (by omega) hq hlong
                unfold tkv dgv at H31
                generalize hk : (if wdB ((s.data.toList.drop q).take (nsz (s.data.toList.drop q))) then (2 : Int) else 1) = k at *
                have HH : Hid (∀ W, Calls Tryd.prog 31 #[.string s, .int .i64 q] W fun e w' => e = .returned (.tuple #[.agg #[.int .i64 k, .string (s.extract q (q + nsz (s.data.toList.drop q))), .int .i64 0, .int .i64 q, .int .i64 ((q + nsz (s.data.toList.drop q) : Nat) : Int)], .agg #[.int .i64 0, .int .i64 0, .int .i64 0]]) ∧ Below W.heap.size W w') := H31
                clear H31 hk hw htl hd'
                have hS1 := toks_ok f acc hlt hb hr0 (by rw [hfs])
                obtain ⟨t0, t1, t2⟩ := fsP_ok s q (by rw [hfs])
                have HTk : Hid (tkc (tokT s q) = [.int .i64 (fsP s q).1, .string (s.extract q (q + (fsP s q).2.1)), .int .i64 (fsP s q).2.2.1, .int .i64 (q : Nat), .int .i64 ((q + (fsP s q).2.1 : Nat) : Int)]) := rfl
                have hon2 : onw s (q + (fsP s q).2.1) := onw_skip s _ q _ (Nat.le_refl _) (by omega) ⟨t1, .inr t2⟩ HW.out
                have hS2 := hS1.symm.trans hS
                obtain ⟨e5, e1, e2, e3, e4⟩ := blk_spec s _ (q + (fsP s q).2.1) (s.size - (q + (fsP s q).2.1)) f (s.size - blk s (s.size - (q + (fsP s q).2.1)) (q + (fsP s q).2.1)) (acc ++ [tokT s q]) (Nat.le_refl _) t1 (by omega) (by omega) (by omega)
                rw [hfs] at HTk e5 e1 e2 e3 e4 hon2 hS2 t0 t1
                simp only at HTk e5 e1 e2 e3 e4 hon2 hS2 t0 t1
                have HBk : Hid (∀ W, Calls Tryd.prog 26 #[.string s, .int .i64 ((q : Int) + (nsz (s.data.toList.drop q) : Int))] W fun e w' => e = .returned (.int .i64 (blk s (s.size - (q + nsz (s.data.toList.drop q))) (q + nsz (s.data.toList.drop q)))) ∧ w' = W) := fun W => by
                  have t := HBl.out W (q + nsz (s.data.toList.drop q)) t1
                  rw [Int.natCast_add] at t
                  exact t
                have HE : Hid (toks s (s.size - blk s (s.size - (q + nsz (s.data.toList.drop q))) (q + nsz (s.data.toList.drop q))) (blk s (s.size - (q + nsz (s.data.toList.drop q))) (q + nsz (s.data.toList.drop q))) (acc ++ [tokT s q]) = toks s s.size 0 []) := e5.symm.trans hS2
                have HE3 : Hid _ := e3
                have HE4 : Hid (onw s (blk s (s.size - (q + nsz (s.data.toList.drop q))) (q + nsz (s.data.toList.drop q)))) := e4 hon2
                clear hfs hS hS1 hS2 e5 e3 e4 hon2 t2 hb hr0
                generalize tokT s q = TK at HTk HE
                generalize hQ : blk s (s.size - (q + nsz (s.data.toList.drop q))) (q + nsz (s.data.toList.drop q)) = Q at *
                clear hQ
                rw [h95e] at hb1 hd ht
                clear h95e h95 hbd hone
                generalize nsz (s.data.toList.drop q) = n at *
                generalize bt s.data.toList q = b at *
                go_wp2_with (first | (go_at_call 27; refine (HR27.out _).mono ?_; rintro e w' ⟨rfl, rfl⟩) | (go_at_call 28; refine (digit28 _ _).mono ?_; rintro e w' ⟨rfl, rfl⟩) | (go_at_call 30; refine (letter30 _ _).mono ?_; rintro e w' ⟨rfl, rfl⟩) | (go_at_call 31; refine (HH.out _).mono ?_; rintro e w2 ⟨rfl, hb2⟩; have HB2 : Hid (Below wr.heap.size wr w2) := (below_both wr).trans (hb2.mono (by simp; omega)); obtain ⟨y0, y1, y2, y3, y4, y5, y6⟩ := zer5_cells (keep_block (two_zero wr).1 hb2); obtain ⟨z0, z1, z2, z3, z4⟩ := zer_cells (keep_block (two_zero wr).2 hb2); obtain ⟨x0, x1, x2, x3, x4⟩ := zer_cells (keep_block HZ.out HB2.out); have x5 : w.heap.size < wr.heap.size := lt_of_block HZ.out; clear hb2) | (at_builtin; refine wpList_append_own _ rfl _ _ 22 rfl (w.heap.size + 1) 42 i0 (.agg #[.int .i64 0, .string ⟨#[]⟩, .int .i64 0, .int .i64 0, .int .i64 0]) 5 48 Tryd.underlying22 hi hz0 hz1 hz2 rfl (by decide) _ _ _ rfl (own_below HO.out (below9 HB2.out (by have := z4; omega) _ _ _ _ _ _ _ _ _)) ⟨w2.heap.size, 0, none⟩ 1 1 [.int .i64 k, .string (s.extract q (q + n)), .int .i64 0, .int .i64 (q : Int), .int .i64 ((q : Int) + (n : Int))] rfl rfl (new5 _ _ _ _ _ _ _ _ (by simp)) (one5 _ _ _ _ _) (by unfold maxLen; omega) (by omega) (by have := HB.out.size; have := HB2.out.size; simp at this ⊢; omega) ?_; intro v' w3 hown' hgrow3 hnil3; have X : Hid (Grq w wr w3 v' (tkl acc ++ [.int .i64 k, .string (s.extract q (q + n)), .int .i64 0, .int .i64 (q : Int), .int .i64 ((q : Int) + (n : Int))]) (acc.length + 1) (.int .i64 ((q : Int) + (n : Int)))) := grq_of HB.out HZ.out HO.out (below9 HB2.out (by have := z4; omega) _ _ _ _ _ _ _ _ _) (by simp; omega) (by go_simp) hown' hgrow3; have x4 := X.out.2.2.2; clear hown' hgrow3 hnil3) | (go_at_call 26; refine (HBk.out _).mono ?_; rintro e w4 ⟨rfl, rfl⟩))
                exact ⟨⟨Q, s.size - Q, acc ++ [TK], rfl, by rw [List.length_append, tkl_snoc, HTk.out]; exact X.out.1, X.out.2.1, X.out.2.2.1, HE.out, by omega, e2, HE3.out, HE4.out, by simp; omega⟩, by simp [intOf]; omega⟩
          · have h95 : ¬ (bt s.data.toList q : Int) = 95 := by omega
            clear H27
            have hw : (s.data.toList.drop q).take (nsz (s.data.toList.drop q)) ≠ [95] := fun e => h95e (by rw [← hbd]; have h := bt_take (s.data.toList.drop q) hpos; rw [e] at h; exact h.symm)
            have htl : ((s.data.toList.drop q).take (nsz (s.data.toList.drop q))).length = nsz (s.data.toList.drop q) := by rw [List.length_take]; have := nsz_le (s.data.toList.drop q); omega
            by_cases hlong : 64 < nsz (s.data.toList.drop q)
            · have hwd : wdB ((s.data.toList.drop q).take (nsz (s.data.toList.drop q))) = false := by
                apply Classical.byContradiction
                intro hx
                have := wd_short (by simpa using hx)
                omega
              have hfs : fsP s q = (0, nsz (s.data.toList.drop q), 0, 2) := by
                rw [fsP_word hd' hpos]
                unfold wdK wdE
                rw [if_neg hw, if_neg hw, hwd, htl, if_pos hlong]
                simp [hlong]
              have H31 := fun W => named31_long s q W (by omega) hq hlong
              unfold tkv dgv at H31
              have hS2 := hS.symm.trans (toks_bad f acc hlt hb hr0 (by rw [hfs]; simp))
              rw [hfs] at hS2
              simp only at hS2
              have HS : Hid (toks s s.size 0 [] = .bad 2 q (q + nsz (s.data.toList.drop q))) := hS2
              have HH : Hid (∀ W, Calls Tryd.prog 31 #[.string s, .int .i64 q] W fun e w' => e = .returned (.tuple #[.agg #[.int .i64 0, .string ⟨#[]⟩, .int .i64 0, .int .i64 0, .int .i64 0], .agg #[.int .i64 2, .int .i64 q, .int .i64 ((q + nsz (s.data.toList.drop q) : Nat) : Int)]]) ∧ Below W.heap.size W w') := H31
              clear H31 hfs hwd hw htl hS hS2 hb hr0 hd' hlong
              clear h95e hbd
              generalize nsz (s.data.toList.drop q) = n at *
              generalize bt s.data.toList q = b at *
              go_wp2_with (first | (go_at_call 28; refine (digit28 _ _).mono ?_; rintro e w' ⟨rfl, rfl⟩) | (go_at_call 30; refine (letter30 _ _).mono ?_; rintro e w' ⟨rfl, rfl⟩) | (go_at_call 31; refine (HH.out _).mono ?_; rintro e w2 ⟨rfl, hb2⟩; have HB2 : Hid (Below wr.heap.size wr w2) := (below_both wr).trans (hb2.mono (by simp; omega)); obtain ⟨y0, y1, y2, y3, y4, y5, y6⟩ := zer5_cells (keep_block (two_zero wr).1 hb2); obtain ⟨z0, z1, z2, z3, z4⟩ := zer_cells (keep_block (two_zero wr).2 hb2); obtain ⟨x0, x1, x2, x3, x4⟩ := zer_cells (keep_block HZ.out HB2.out); have x5 : w.heap.size < wr.heap.size := lt_of_block HZ.out; clear hb2))
              go_region
              go_wp2
              all_goals
                refine bodyPost_ret (v := .tuple #[.slice none 0 0, .agg #[.int .i64 2, .int .i64 q, .int .i64 ((q + n : Nat) : Int)]]) (by simp [results, Tryd.results10, go_sem, x0, x1, x2]) rfl ?_
                rw [HS.out]
                exact ⟨(below11 HB.out HB2.out _ _ _ _ _ _ _ _ _ _ _).drew, rfl⟩
            · have hfs : fsP s q = ((if wdB ((s.data.toList.drop q).take (nsz (s.data.toList.drop q))) then 2 else 1), nsz (s.data.toList.drop q), 0, 0) := by
                rw [fsP_word hd' hpos]
                unfold wdK wdE
                rw [if_neg hw, if_neg hw, htl, if_neg hlong]
                cases wdB ((s.data.toList.drop q).take (nsz (s.data.toList.drop q))) <;> simp <;> omega
              have H31 := fun W => named31_ok s q W (by omega) hq hlong
              unfold tkv dgv at H31
              generalize hk : (if wdB ((s.data.toList.drop q).take (nsz (s.data.toList.drop q))) then (2 : Int) else 1) = k at *
              have HH : Hid (∀ W, Calls Tryd.prog 31 #[.string s, .int .i64 q] W fun e w' => e = .returned (.tuple #[.agg #[.int .i64 k, .string (s.extract q (q + nsz (s.data.toList.drop q))), .int .i64 0, .int .i64 q, .int .i64 ((q + nsz (s.data.toList.drop q) : Nat) : Int)], .agg #[.int .i64 0, .int .i64 0, .int .i64 0]]) ∧ Below W.heap.size W w') := H31
              clear H31 hk hw htl hd'
              have hS1 := toks_ok f acc hlt hb hr0 (by rw [hfs])
              obtain ⟨t0, t1, t2⟩ := fsP_ok s q (by rw [hfs])
              have HTk : Hid (tkc (tokT s q) = [.int .i64 (fsP s q).1, .string (s.extract q (q + (fsP s q).2.1)), .int .i64 (fsP s q).2.2.1, .int .i64 (q : Nat), .int .i64 ((q + (fsP s q).2.1 : Nat) : Int)]) := rfl
              have hon2 : onw s (q + (fsP s q).2.1) := onw_skip s _ q _ (Nat.le_refl _) (by omega) ⟨t1, .inr t2⟩ HW.out
              have hS2 := hS1.symm.trans hS
              obtain ⟨e5, e1, e2, e3, e4⟩ := blk_spec s _ (q + (fsP s q).2.1) (s.size - (q + (fsP s q).2.1)) f (s.size - blk s (s.size - (q + (fsP s q).2.1)) (q + (fsP s q).2.1)) (acc ++ [tokT s q]) (Nat.le_refl _) t1 (by omega) (by omega) (by omega)
              rw [hfs] at HTk e5 e1 e2 e3 e4 hon2 hS2 t0 t1
              simp only at HTk e5 e1 e2 e3 e4 hon2 hS2 t0 t1
              have HBk : Hid (∀ W, Calls Tryd.prog 26 #[.string s, .int .i64 ((q : Int) + (nsz (s.data.toList.drop q) : Int))] W fun e w' => e = .returned (.int .i64 (blk s (s.size - (q + nsz (s.data.toList.drop q))) (q + nsz (s.data.toList.drop q)))) ∧ w' = W) := fun W => by
                have t := HBl.out W (q + nsz (s.data.toList.drop q)) t1
                rw [Int.natCast_add] at t
                exact t
              have HE : Hid (toks s (s.size - blk s (s.size - (q + nsz (s.data.toList.drop q))) (q + nsz (s.data.toList.drop q))) (blk s (s.size - (q + nsz (s.data.toList.drop q))) (q + nsz (s.data.toList.drop q))) (acc ++ [tokT s q]) = toks s s.size 0 []) := e5.symm.trans hS2
              have HE3 : Hid _ := e3
              have HE4 : Hid (onw s (blk s (s.size - (q + nsz (s.data.toList.drop q))) (q + nsz (s.data.toList.drop q)))) := e4 hon2
              clear hfs hS hS1 hS2 e5 e3 e4 hon2 t2 hb hr0
              generalize tokT s q = TK at HTk HE
              generalize hQ : blk s (s.size - (q + nsz (s.data.toList.drop q))) (q + nsz (s.data.toList.drop q)) = Q at *
              clear hQ
              clear h95e hbd
              generalize nsz (s.data.toList.drop q) = n at *
              generalize bt s.data.toList q = b at *
              go_wp2_with (first | (go_at_call 28; refine (digit28 _ _).mono ?_; rintro e w' ⟨rfl, rfl⟩) | (go_at_call 30; refine (letter30 _ _).mono ?_; rintro e w' ⟨rfl, rfl⟩) | (go_at_call 31; refine (HH.out _).mono ?_; rintro e w2 ⟨rfl, hb2⟩; have HB2 : Hid (Below wr.heap.size wr w2) := (below_both wr).trans (hb2.mono (by simp; omega)); obtain ⟨y0, y1, y2, y3, y4, y5, y6⟩ := zer5_cells (keep_block (two_zero wr).1 hb2); obtain ⟨z0, z1, z2, z3, z4⟩ := zer_cells (keep_block (two_zero wr).2 hb2); obtain ⟨x0, x1, x2, x3, x4⟩ := zer_cells (keep_block HZ.out HB2.out); have x5 : w.heap.size < wr.heap.size := lt_of_block HZ.out; clear hb2) | (at_builtin; refine wpList_append_own _ rfl _ _ 22 rfl (w.heap.size + 1) 42 i0 (.agg #[.int .i64 0, .string ⟨#[]⟩, .int .i64 0, .int .i64 0, .int .i64 0]) 5 48 Tryd.underlying22 hi hz0 hz1 hz2 rfl (by decide) _ _ _ rfl (own_below HO.out (below9 HB2.out (by have := z4; omega) _ _ _ _ _ _ _ _ _)) ⟨w2.heap.size, 0, none⟩ 1 1 [.int .i64 k, .string (s.extract q (q + n)), .int .i64 0, .int .i64 (q : Int), .int .i64 ((q : Int) + (n : Int))] rfl rfl (new5 _ _ _ _ _ _ _ _ (by simp)) (one5 _ _ _ _ _) (by unfold maxLen; omega) (by omega) (by have := HB.out.size; have := HB2.out.size; simp at this ⊢; omega) ?_; intro v' w3 hown' hgrow3 hnil3; have X : Hid (Grq w wr w3 v' (tkl acc ++ [.int .i64 k, .string (s.extract q (q + n)), .int .i64 0, .int .i64 (q : Int), .int .i64 ((q : Int) + (n : Int))]) (acc.length + 1) (.int .i64 ((q : Int) + (n : Int)))) := grq_of HB.out HZ.out HO.out (below9 HB2.out (by have := z4; omega) _ _ _ _ _ _ _ _ _) (by simp; omega) (by go_simp) hown' hgrow3; have x4 := X.out.2.2.2; clear hown' hgrow3 hnil3) | (go_at_call 26; refine (HBk.out _).mono ?_; rintro e w4 ⟨rfl, rfl⟩))
              exact ⟨⟨Q, s.size - Q, acc ++ [TK], rfl, by rw [List.length_append, tkl_snoc, HTk.out]; exact X.out.1, X.out.2.1, X.out.2.2.1, HE.out, by omega, e2, HE3.out, HE4.out, by simp; omega⟩, by simp [intOf]; omega⟩
      · -- a number
        have hd' : dgB (bt (s.data.toList.drop q) 0) = true := by rw [hbd]; exact hd
        have h95 : ¬ (bt s.data.toList q : Int) = 95 := by have := (dgB_iff _).1 hd; omega
        obtain ⟨hpos, hfs⟩ := fsP_num hd' hlt
        have H29 := fun W => numbered29 s q W (by omega) hlt hd'
        have hnle := nsz_le (s.data.toList.drop q)
        rw [List.length_drop, len_of] at hnle
        clear hd' hbd
        cases hv : nuO ((s.data.toList.drop q).take (nsz (s.data.toList.drop q))) with
        | some v =>
          rw [hv] at hfs H29
          simp only at hfs H29
          unfold tkv dgv at H29
          have HH : Hid (∀ W, Calls Tryd.prog 29 #[.string s, .int .i64 q] W fun e w' => e = .returned (.tuple #[.agg #[.int .i64 3, .string (s.extract q (q + nsz (s.data.toList.drop q))), .int .i64 v, .int .i64 q, .int .i64 ((q + nsz (s.data.toList.drop q) : Nat) : Int)], .agg #[.int .i64 0, .int .i64 0, .int .i64 0]]) ∧ Below W.heap.size W w') := H29
          clear H29 hv
          have hS1 := toks_ok f acc hlt hb hr0 (by rw [hfs])
          obtain ⟨t0, t1, t2⟩ := fsP_ok s q (by rw [hfs])
          have HTk : Hid (tkc (tokT s q) = [.int .i64 (fsP s q).1, .string (s.extract q (q + (fsP s q).2.1)), .int .i64 (fsP s q).2.2.1, .int .i64 (q : Nat), .int .i64 ((q + (fsP s q).2.1 : Nat) : Int)]) := rfl
          have hon2 : onw s (q + (fsP s q).2.1) := onw_skip s _ q _ (Nat.le_refl _) (by omega) ⟨t1, .inr t2⟩ HW.out
          have hS2 := hS1.symm.trans hS
          obtain ⟨e5, e1, e2, e3, e4⟩ := blk_spec s _ (q + (fsP s q).2.1) (s.size - (q + (fsP s q).2.1)) f (s.size - blk s (s.size - (q + (fsP s q).2.1)) (q + (fsP s q).2.1)) (acc ++ [tokT s q]) (Nat.le_refl _) t1 (by omega) (by omega) (by omega)
          rw [hfs] at HTk e5 e1 e2 e3 e4 hon2 hS2 t0 t1
          simp only at HTk e5 e1 e2 e3 e4 hon2 hS2 t0 t1
          have HBk : Hid (∀ W, Calls Tryd.prog 26 #[.string s, .int .i64 ((q : Int) + (nsz (s.data.toList.drop q) : Int))] W fun e w' => e = .returned (.int .i64 (blk s (s.size - (q + nsz (s.data.toList.drop q))) (q + nsz (s.data.toList.drop q)))) ∧ w' = W) := fun W => by
            have t := HBl.out W (q + nsz (s.data.toList.drop q)) t1
            rw [Int.natCast_add] at t
            exact t
          have HE : Hid (toks s (s.size - blk s (s.size - (q + nsz (s.data.toList.drop q))) (q + nsz (s.data.toList.drop q))) (blk s (s.size - (q + nsz (s.data.toList.drop q))) (q + nsz (s.data.toList.drop q))) (acc ++ [tokT s q]) = toks s s.size 0 []) := e5.symm.trans hS2
          have HE3 : Hid _ := e3
          have HE4 : Hid (onw s (blk s (s.size - (q + nsz (s.data.toList.drop q))) (q + nsz (s.data.toList.drop q)))) := e4 hon2
          clear hfs hS hS1 hS2 e5 e3 e4 hon2 t2 hb hr0
          generalize tokT s q = TK at HTk HE
          generalize hQ : blk s (s.size - (q + nsz (s.data.toList.drop q))) (q + nsz (s.data.toList.drop q)) = Q at *
          clear hQ
          generalize nsz (s.data.toList.drop q) = n at *
          generalize bt s.data.toList q = b at *
          go_wp2_with (first | (go_at_call 28; refine (digit28 _ _).mono ?_; rintro e w' ⟨rfl, rfl⟩) | (go_at_call 29; refine (HH.out _).mono ?_; rintro e w2 ⟨rfl, hb2⟩; have HB2 : Hid (Below wr.heap.size wr w2) := (below_both wr).trans (hb2.mono (by simp; omega)); obtain ⟨y0, y1, y2, y3, y4, y5, y6⟩ := zer5_cells (keep_block (two_zero wr).1 hb2); obtain ⟨z0, z1, z2, z3, z4⟩ := zer_cells (keep_block (two_zero wr).2 hb2); obtain ⟨x0, x1, x2, x3, x4⟩ := zer_cells (keep_block HZ.out HB2.out); have x5 : w.heap.size < wr.heap.size := lt_of_block HZ.out; clear hb2) | (at_builtin; refine wpList_append_own _ rfl _ _ 22 rfl (w.heap.size + 1) 42 i0 (.agg #[.int .i64 0, .string ⟨#[]⟩, .int .i64 0, .int .i64 0, .int .i64 0]) 5 48 Tryd.underlying22 hi hz0 hz1 hz2 rfl (by decide) _ _ _ rfl (own_below HO.out (below9 HB2.out (by have := z4; omega) _ _ _ _ _ _ _ _ _)) ⟨w2.heap.size, 0, none⟩ 1 1 [.int .i64 3, .string (s.extract q (q + n)), .int .i64 v, .int .i64 (q : Int), .int .i64 ((q : Int) + (n : Int))] rfl rfl (new5 _ _ _ _ _ _ _ _ (by simp)) (one5 _ _ _ _ _) (by unfold maxLen; omega) (by omega) (by have := HB.out.size; have := HB2.out.size; simp at this ⊢; omega) ?_; intro v' w3 hown' hgrow3 hnil3; have X : Hid (Grq w wr w3 v' (tkl acc ++ [.int .i64 3, .string (s.extract q (q + n)), .int .i64 v, .int .i64 (q : Int), .int .i64 ((q : Int) + (n : Int))]) (acc.length + 1) (.int .i64 ((q : Int) + (n : Int)))) := grq_of HB.out HZ.out HO.out (below9 HB2.out (by have := z4; omega) _ _ _ _ _ _ _ _ _) (by simp; omega) (by go_simp) hown' hgrow3; have x4 := X.out.2.2.2; clear hown' hgrow3 hnil3) | (go_at_call 26; refine (HBk.out _).mono ?_; rintro e w4 ⟨rfl, rfl⟩))
          exact ⟨⟨Q, s.size - Q, acc ++ [TK], rfl, by rw [List.length_append, tkl_snoc, HTk.out]; exact X.out.1, X.out.2.1, X.out.2.2.1, HE.out, by omega, e2, HE3.out, HE4.out, by simp; omega⟩, by simp [intOf]; omega⟩
        | none =>
          rw [hv] at hfs H29
          simp only at hfs H29
          unfold tkv dgv at H29
          have hS2 := hS.symm.trans (toks_bad f acc hlt hb hr0 (by rw [hfs]; simp))
          rw [hfs] at hS2
          simp only at hS2
          have HS : Hid (toks s s.size 0 [] = .bad 112 q (q + nsz (s.data.toList.drop q))) := hS2
          have HH : Hid (∀ W, Calls Tryd.prog 29 #[.string s, .int .i64 q] W fun e w' => e = .returned (.tuple #[.agg #[.int .i64 0, .string ⟨#[]⟩, .int .i64 0, .int .i64 0, .int .i64 0], .agg #[.int .i64 112, .int .i64 q, .int .i64 ((q + nsz (s.data.toList.drop q) : Nat) : Int)]]) ∧ Below W.heap.size W w') := H29
          clear H29 hfs hv hS hS2 hb hr0
          generalize nsz (s.data.toList.drop q) = n at *
          generalize bt s.data.toList q = b at *
          go_wp2_with (first | (go_at_call 28; refine (digit28 _ _).mono ?_; rintro e w' ⟨rfl, rfl⟩) | (go_at_call 29; refine (HH.out _).mono ?_; rintro e w2 ⟨rfl, hb2⟩; have HB2 : Hid (Below wr.heap.size wr w2) := (below_both wr).trans (hb2.mono (by simp; omega)); obtain ⟨y0, y1, y2, y3, y4, y5, y6⟩ := zer5_cells (keep_block (two_zero wr).1 hb2); obtain ⟨z0, z1, z2, z3, z4⟩ := zer_cells (keep_block (two_zero wr).2 hb2); obtain ⟨x0, x1, x2, x3, x4⟩ := zer_cells (keep_block HZ.out HB2.out); have x5 : w.heap.size < wr.heap.size := lt_of_block HZ.out; clear hb2))
          go_region
          go_wp2
          all_goals
            refine bodyPost_ret (v := .tuple #[.slice none 0 0, .agg #[.int .i64 112, .int .i64 q, .int .i64 ((q + n : Nat) : Int)]]) (by simp [results, Tryd.results10, go_sem, x0, x1, x2]) rfl ?_
            rw [HS.out]
            exact ⟨(below11 HB.out HB2.out _ _ _ _ _ _ _ _ _ _ _).drew, rfl⟩
    · have HS : Hid (toks s s.size 0 [] = .ok (acc ++ [endT s])) := hS.symm.trans (toks_end f acc hlt)
      have hac : acc.length ≤ 65536 := by omega
      clear hS hnb hf hal
      go_wp2_with (at_builtin; refine wpList_append_own _ rfl _ _ 22 rfl (w.heap.size + 1) 42 i0 (.agg #[.int .i64 0, .string ⟨#[]⟩, .int .i64 0, .int .i64 0, .int .i64 0]) 5 48 Tryd.underlying22 hi hz0 hz1 hz2 rfl (by decide) _ _ _ rfl (own_below HO.out ((Below.refl _ _).alloc (Nat.le_refl _) _)) ⟨wr.heap.size, 0, none⟩ 1 1 [.int .i64 5, .string ⟨#[]⟩, .int .i64 0, .int .i64 (s.size : Int), .int .i64 (s.size : Int)] rfl rfl (new5 _ _ _ _ _ _ _ _ rfl) (one5 _ _ _ _ _) (by unfold maxLen; omega) (by omega) (by have := lt_of_block HZ.out; simp; omega) ?_; intro v' w3 hown' hgrow3 hnil3; have X : Hid (Grq w wr w3 v' (tkl acc ++ [.int .i64 5, .string ⟨#[]⟩, .int .i64 0, .int .i64 (s.size : Int), .int .i64 (s.size : Int)]) (acc.length + 1) (.int .i64 (s.size : Int))) := grq_of HB.out HZ.out HO.out ((Below.refl _ _).alloc (Nat.le_refl _) _) (by simp) (by go_simp) hown' hgrow3; obtain ⟨z0, z1, z2, z3, z4⟩ := zer_cells X.out.2.1; clear hown' hgrow3 hnil3)
      refine bodyPost_ret (v := .tuple #[v', .agg #[.int .i64 0, .int .i64 0, .int .i64 0]]) (by simp [results, Tryd.results10, go_sem, z0, z1, z2]) rfl ?_
      rw [HS.out]
      refine ⟨((X.out.2.2.1.setCell (Nat.le_refl _) _).setCell (Nat.le_refl _) _).setCell (Nat.le_refl _) _, v', rfl, ?_⟩
      have t : w3.ownsRow (w.heap.size + 1) 42 5 v' (acc ++ [endT s]).length (tkl (acc ++ [endT s])) := by
        rw [List.length_append, tkl_snoc]
        exact X.out.1
      exact own_set3 t (Nat.lt_succ_self _)
end Go.Proofs.YtgdbfedagdlgkaaDoor
