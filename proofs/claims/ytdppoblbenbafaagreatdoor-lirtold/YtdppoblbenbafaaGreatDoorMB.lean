/- The words of a call's line. The words of any instruction's line, and a line written. -/
import Derived.Test.YtdppoblbenbafaaGreatDoorMA
import Derived.Test.YtdppoblbenbafaaGreatDoorLB
namespace Go.Proofs.YtdppoblbenbafaaGreatDoor
section
open Go.RowKit Go.Shelf
set_option maxHeartbeats 8000000
set_option maxRecDepth 20000 in
theorem wd_7 (i : Ins) (w : World) (h : i.op = 7) (h64 : Num64 i) (hp : Pow w) (hT : Tfa w) (hW : Twa w) (hA : ArA w i.ar i.ac i.gs) (hgl : i.gs.length ≤ 7) : Calls Tryz.prog 78 #[inV i] w (ToldW w (wdL i)) := by
  have HV : Hid (wdL i = [9 :: [99, 97, 108, 108]] ++ [Lib.itoa i.d] ++ [i.nm.data.toList] ++ i.gs.map Lib.itoa) := by show _ = _; unfold wdL; simp [h]
  have h3 : w.cell? ⟨0, 15, none⟩ = some (.string ⟨#[68, 83, 82]⟩) := hT.c 7 (by omega) (by omega)
  have h2 : w.cell? ⟨0, 14, none⟩ = some (.string ⟨#[99, 97, 108, 108]⟩) := hW.c 7 (by omega) (by omega)
  have hpos := hT.pos
  have KN : Hid (∀ n W, I64 n → Below w.heap.size w W → Calls Tryz.prog 77 #[.int .i64 n] W fun e w' => e = .returned (.string ⟨(Lib.itoa n).toArray⟩) ∧ G W w') := fun n W hn hb => number77 n W hn (hp.below hb)
  have KF : Hid (∀ W, Below w.heap.size w W → Calls Tryz.prog 110 #[.int .i64 i.n, .int .i64 10] W fun e w' => e = .returned (.string ⟨(Lib.itoa i.n).toArray⟩) ∧ G W w') := fun W hb => (Tryz.strconv_FormatInt_10 i.n h64.n.1 h64.n.2 W (hp.below hb)).mono fun e w' ⟨p, k, os, q⟩ => ⟨p, k, os, q⟩
  have H64 : Hid (Num64 i) := h64
  obtain ⟨i9, AN⟩ := info_parts info9
  have AN : Hid (Tryz.prog.info? 9 = some i9 ∧ i9.zero = some (.string ⟨#[]⟩) ∧ i9.size = 1 ∧ i9.bytes = 16) := AN
  generalize wdL i = L at *
  unfold inV
  have HA : Hid (ArA w i.ar i.ac i.gs) := hA
  have hac := hA.1
  have hac2 := hA.2.1
  have HL : Hid (∃ xs : List Int, xs = i.gs ∧ xs.length = i.gs.length) := ⟨_, rfl, rfl⟩
  clear hA
  generalize hal : i.gs.length = al at *
  have HAL : Hid (i.gs.length = al) := hal
  clear hal HL
  rw [h]
  clear h h64 hp hT hW
  have HW0 : Hid (∃ W0, W0 = (w.alloc (.cells #[.int .i64 7, .int .i64 i.d, .int .i64 i.a, .int .i64 i.b, .int .i64 i.n, .string i.nm, .slice i.ar al i.ac, .int .i64 i.to, .int .i64 i.el] 54)).alloc (.cells #[.string ⟨#[99, 97, 108, 108]⟩, .string ⟨#[68, 83, 82]⟩] 154) ∧ Below w.heap.size w W0 ∧ W0.heap.size = w.heap.size + 1 + 1 ∧ ∀ W, Below W0.heap.size W0 W → W.cell? ⟨w.heap.size, 1, none⟩ = some (.int .i64 i.d) ∧ W.cell? ⟨w.heap.size, 2, none⟩ = some (.int .i64 i.a) ∧ W.cell? ⟨w.heap.size, 3, none⟩ = some (.int .i64 i.b) ∧ W.cell? ⟨w.heap.size, 4, none⟩ = some (.int .i64 i.n) ∧ W.cell? ⟨w.heap.size, 5, none⟩ = some (.string i.nm) ∧ W.cell? ⟨w.heap.size, 6, none⟩ = some (.slice i.ar al i.ac) ∧ W.cell? ⟨w.heap.size, 7, none⟩ = some (.int .i64 i.to) ∧ W.cell? ⟨w.heap.size, 8, none⟩ = some (.int .i64 i.el) ∧ W.cell? ⟨w.heap.size + 1, 1, none⟩ = some (.string ⟨#[68, 83, 82]⟩)) := ⟨_, rfl, (((G.refl w).alloc _).alloc _).below, by simp, fun W hb => by
    have k := (bcell hb).1
    refine ⟨(k _ _ (by simp; omega)).trans (by go_simp), (k _ _ (by simp; omega)).trans (by go_simp), (k _ _ (by simp; omega)).trans (by go_simp), (k _ _ (by simp; omega)).trans (by go_simp), (k _ _ (by simp; omega)).trans (by go_simp), (k _ _ (by simp; omega)).trans (by go_simp), (k _ _ (by simp; omega)).trans (by go_simp), (k _ _ (by simp; omega)).trans (by go_simp), (k _ _ (by simp)).trans (by go_simp)⟩⟩
  obtain ⟨W0, hW0, hb0, hs0, HC⟩ := HW0.out
  clear HW0
  have HC : Hid (∀ W, Below W0.heap.size W0 W → W.cell? ⟨w.heap.size, 1, none⟩ = some (.int .i64 i.d) ∧ W.cell? ⟨w.heap.size, 2, none⟩ = some (.int .i64 i.a) ∧ W.cell? ⟨w.heap.size, 3, none⟩ = some (.int .i64 i.b) ∧ W.cell? ⟨w.heap.size, 4, none⟩ = some (.int .i64 i.n) ∧ W.cell? ⟨w.heap.size, 5, none⟩ = some (.string i.nm) ∧ W.cell? ⟨w.heap.size, 6, none⟩ = some (.slice i.ar al i.ac) ∧ W.cell? ⟨w.heap.size, 7, none⟩ = some (.int .i64 i.to) ∧ W.cell? ⟨w.heap.size, 8, none⟩ = some (.int .i64 i.el) ∧ W.cell? ⟨w.heap.size + 1, 1, none⟩ = some (.string ⟨#[68, 83, 82]⟩)) := HC
  have HB0 : Hid (Below w.heap.size w W0) := hb0
  have HE0 : Hid (W0 = (w.alloc (.cells #[.int .i64 7, .int .i64 i.d, .int .i64 i.a, .int .i64 i.b, .int .i64 i.n, .string i.nm, .slice i.ar al i.ac, .int .i64 i.to, .int .i64 i.el] 54)).alloc (.cells #[.string ⟨#[99, 97, 108, 108]⟩, .string ⟨#[68, 83, 82]⟩] 154)) := hW0
  have HZ0 : Hid (W0.heap.size = w.heap.size + 1 + 1) := hs0
  clear hb0 hW0 hs0
  generalize Lib.itoa = IT at *
  go_enter Tryz.func78, Tryz.ntmps78
  go_wp2
  rw [← HE0.out]
  have HS0 : Hid (WSt W0 (W0.alloc (.cells #[.string ⟨(9 :: [99, 97, 108, 108]).toArray⟩] 9)) (.slice (some ⟨W0.heap.size, 0, none⟩) 1 1) [9 :: [99, 97, 108, 108]]) := wst_new W0 _
  rw [← HZ0.out]
  have HX : (⟨#[9]⟩ ++ ⟨#[99, 97, 108, 108]⟩ : ByteArray) = ⟨(9 :: [99, 97, 108, 108]).toArray⟩ := rfl
  rw [HX]
  clear HX
  generalize W0.alloc (.cells #[.string ⟨(9 :: [99, 97, 108, 108]).toArray⟩] 9) = w0 at *
  generalize Value.slice (some ⟨W0.heap.size, 0, none⟩) 1 1 = v0 at *
  obtain ⟨f1, f2, f3, f4, f5, f6, f7, f8, f9⟩ := HC.out _ HS0.out.bel
  have x0 : ((⟨#[68, 83, 82]⟩ : ByteArray).extract 0 1).toList = [68] := by rw [ByteArray.toList_eq]; rfl
  have x1 : ((⟨#[68, 83, 82]⟩ : ByteArray).extract 1 2).toList = [83] := by rw [ByteArray.toList_eq]; rfl
  have x2 : ((⟨#[68, 83, 82]⟩ : ByteArray).extract 2 3).toList = [82] := by rw [ByteArray.toList_eq]; rfl
  refine wp_loop_rounds 4 ?_
  rw [rounds_succ]
  go_wp2_with fail
  refine (KN.out i.d w0 H64.out.d (HB0.out.trans (HS0.out.bel.mono HB0.out.size))).mono ?_
  rintro e w1 ⟨rfl, hg⟩
  have HS1 : Hid (WSt W0 w1 v0 ([9 :: [99, 97, 108, 108]])) := HS0.out.g hg.below
  clear hg f1 f2 f3 f4 f5 f6 f7 f8 f9
  obtain ⟨f1, f2, f3, f4, f5, f6, f7, f8, f9⟩ := HC.out _ HS1.out.bel
  go_wp2_with (at_builtin; refine wpList_append_own _ rfl _ _ 119 rfl W0.heap.size 9 i9 (.string ⟨#[]⟩) 1 16 Tryz.underlying119 AN.out.1 AN.out.2.1 AN.out.2.2.1 AN.out.2.2.2 rfl (by decide) _ _ _ rfl (HS1.out.own.alloc _) ⟨w1.heap.size, 0, none⟩ 1 1 [.string ⟨(IT i.d).toArray⟩] rfl (by rfl) (by intro j q hj; cases j with | zero => cases hj; exact new_one _ _ _ | succ j => cases hj) (by intro q hq; simp at hq; subst hq; rfl) (by unfold maxLen; simp) (by simp) (by have := HS1.out.bel.size; simp; omega) ?_)
  rintro v2 w2 ho2 hg2 _
  have st2 : WSt W0 w2 v2 ([9 :: [99, 97, 108, 108]] ++ [IT i.d]) := ⟨below_grown (Nat.le_refl _) (HS1.out.bel.alloc HS1.out.bel.size _) hg2 (fun g hg => own_base HS1.out.own hg), by rw [txC_app]; simpa [txC] using ho2⟩
  have HS2 : Hid (WSt W0 w2 v2 ([9 :: [99, 97, 108, 108]] ++ [IT i.d])) := st2
  clear ho2 hg2 st2
  clear f1 f2 f3 f4 f5 f6 f7 f8 f9
  obtain ⟨f1, f2, f3, f4, f5, f6, f7, f8, f9⟩ := HC.out _ HS2.out.bel
  go_wp2_with fail
  rw [rounds_succ]
  go_wp2_with (at_builtin; refine wpList_append_own _ rfl _ _ 119 rfl W0.heap.size 9 i9 (.string ⟨#[]⟩) 1 16 Tryz.underlying119 AN.out.1 AN.out.2.1 AN.out.2.2.1 AN.out.2.2.2 rfl (by decide) _ _ _ rfl (HS2.out.own.alloc _) ⟨w2.heap.size, 0, none⟩ 1 1 [.string ⟨(i.nm.data.toList).toArray⟩] rfl (by rfl) (by intro j q hj; cases j with | zero => cases hj; exact new_one _ _ _ | succ j => cases hj) (by intro q hq; simp at hq; subst hq; rfl) (by unfold maxLen; simp) (by simp) (by have := HS2.out.bel.size; simp; omega) ?_)
  rintro v3 w3 ho3 hg3 _
  have st3 : WSt W0 w3 v3 (([9 :: [99, 97, 108, 108]] ++ [IT i.d]) ++ [i.nm.data.toList]) := ⟨below_grown (Nat.le_refl _) (HS2.out.bel.alloc HS2.out.bel.size _) hg3 (fun g hg => own_base HS2.out.own hg), by rw [txC_app]; simpa [txC] using ho3⟩
  have HS3 : Hid (WSt W0 w3 v3 (([9 :: [99, 97, 108, 108]] ++ [IT i.d]) ++ [i.nm.data.toList])) := st3
  clear ho3 hg3 st3
  clear f1 f2 f3 f4 f5 f6 f7 f8 f9
  obtain ⟨f1, f2, f3, f4, f5, f6, f7, f8, f9⟩ := HC.out _ HS3.out.bel
  go_wp2_with fail
  rw [rounds_succ]
  have HSI : Hid (∀ j, ((([9 :: [99, 97, 108, 108]] ++ [IT i.d] ++ [i.nm.data.toList]) ++ (i.gs.take j).map IT) : List (List UInt8)).length ≤ 3 + j) := fun j => by simp [List.length_take]; omega
  go_wp2_with fail
  go_loopw [4, 7, 72] (fun v _ x wx => ∃ j : Nat, j ≤ al ∧ x = .int .i64 j ∧ WSt W0 wx v (([9 :: [99, 97, 108, 108]] ++ [IT i.d] ++ [i.nm.data.toList]) ++ (i.gs.take j).map IT)) (fun _ _ x _ => al - (intOf x).toNat)
  case atStart => exact ⟨0, Nat.zero_le _, rfl, by simpa using HS3.out⟩
  case round =>
    obtain ⟨j, hj, rfl, hSr⟩ := hrel
    have HSr : Hid _ := hSr
    clear hSr HS3 f1 f2 f3 f4 f5 f6 f7 f8 f9
    obtain ⟨f1, f2, f3, f4, f5, f6, f7, f8, f9⟩ := HC.out _ HSr.out.bel
    by_cases hlt : j < al
    · obtain ⟨u, hu⟩ : ∃ u, i.gs[j]? = some u := ⟨_, List.getElem?_eq_getElem (by have := HAL.out; omega)⟩
      have HLN : Hid ((([9 :: [99, 97, 108, 108]] ++ [IT i.d] ++ [i.nm.data.toList]) ++ (i.gs.take j).map IT).length ≤ 10) := by have := HSI.out j; show _ ≤ _; omega
      have HTK : Hid ((i.gs.take (j + 1)).map IT = (i.gs.take j).map IT ++ [IT u]) := by
        show _ = _
        rw [List.take_add_one, hu]
        simp
      have HU : Hid (I64 u) := H64.out.g u (List.mem_of_getElem? hu)
      obtain ⟨ga, oa, ha, hca⟩ := (HA.out.below (HB0.out.trans (HSr.out.bel.mono HB0.out.size))).2.2 (by have := HAL.out; omega)
      have e0 := hca j u hu
      clear hca hu
      generalize i.ar = ar at *
      subst ha
      go_wp2_with fail
      refine (KN.out u wr HU.out (HB0.out.trans (HSr.out.bel.mono HB0.out.size))).mono ?_
      rintro e w4 ⟨rfl, hg⟩
      have HS4 : Hid _ := HSr.out.g hg.below
      clear hg f1 f2 f3 f4 f5 f6 f7 f8 f9
      obtain ⟨f1, f2, f3, f4, f5, f6, f7, f8, f9⟩ := HC.out _ HS4.out.bel
      go_wp2_with (at_builtin; refine wpList_append_own _ rfl _ _ 119 rfl W0.heap.size 9 i9 (.string ⟨#[]⟩) 1 16 Tryz.underlying119 AN.out.1 AN.out.2.1 AN.out.2.2.1 AN.out.2.2.2 rfl (by decide) _ _ _ rfl (HS4.out.own.alloc _) ⟨w4.heap.size, 0, none⟩ 1 1 [.string ⟨(IT u).toArray⟩] rfl (by rfl) (by intro j q hj; cases j with | zero => cases hj; exact new_one _ _ _ | succ j => cases hj) (by intro q hq; simp at hq; subst hq; rfl) (by have := HLN.out; unfold maxLen; omega) (by have := HLN.out; omega) (by have := HS4.out.bel.size; simp; omega) ?_)
      rintro v5 w5 ho5 hg5 _
      have st5 : WSt W0 w5 v5 ((([9 :: [99, 97, 108, 108]] ++ [IT i.d] ++ [i.nm.data.toList]) ++ (i.gs.take j).map IT) ++ [IT u]) := ⟨below_grown (Nat.le_refl _) (HS4.out.bel.alloc HS4.out.bel.size _) hg5 (fun g hg => own_base HS4.out.own hg), by rw [txC_app]; simpa [txC] using ho5⟩
      have HS5 : Hid (WSt W0 w5 v5 ((([9 :: [99, 97, 108, 108]] ++ [IT i.d] ++ [i.nm.data.toList]) ++ (i.gs.take j).map IT) ++ [IT u])) := st5
      clear ho5 hg5 st5
      clear f1 f2 f3 f4 f5 f6 f7 f8 f9
      obtain ⟨f1, f2, f3, f4, f5, f6, f7, f8, f9⟩ := HC.out _ HS5.out.bel
      go_wp2_with fail
      go_round
      case rel =>
        refine ⟨j + 1, by omega, by norm_cast, ?_⟩
        have t := HS5.out
        rw [List.append_assoc, ← HTK.out] at t
        exact t
      case measure => simp [intOf]; omega
    · have he : j = al := by omega
      subst he
      have HT : Hid ((i.gs.take j).map IT = i.gs.map IT) := by show _ = _; rw [← HAL.out]; simp
      go_wp2_with fail
      rw [rounds_succ]
      go_wp2_with fail
      go_ret
      rw [HV.out]
      have t := HSr.out.told HB0.out (by simp)
      rw [HT.out] at t
      exact t
end
section
open Go.RowKit Go.Shelf
set_option maxHeartbeats 8000000
theorem words78 (i : Ins) (w : World) (hG : GoodI i) (hp : Pow w) (hT : Tfa w) (hW : Twa w) (hA : ArA w i.ar i.ac i.gs) : Calls Tryz.prog 78 #[inV i] w (ToldW w (wdL i)) := by
  have h64 := hG.num
  have o1 := hG.o1
  have o2 := hG.o2
  rcases (by omega : i.op = 1 ∨ i.op = 2 ∨ i.op = 3 ∨ i.op = 4 ∨ i.op = 5 ∨ i.op = 6 ∨ i.op = 7 ∨ i.op = 8 ∨ i.op = 9 ∨ i.op = 10 ∨ i.op = 11) with h | h | h | h | h | h | h | h | h | h | h
  · exact wd_1 i w h h64 hp hT hW
  · exact wd_2 i w h h64 hp hT hW
  · exact wd_3 i w h h64 hp hT hW
  · exact wd_4 i w h h64 hp hT hW
  · exact wd_5 i w h h64 hp hT hW
  · exact wd_6 i w h h64 hp hT hW
  · exact wd_7 i w h h64 hp hT hW hA hG.gl
  · exact wd_8 i w h h64 hp hT hW
  · exact wd_9 i w h h64 hp hT hW
  · exact wd_10 i w h h64 hp hT hW
  · exact wd_11 i w h h64 hp hT hW
/-- A line of words. -/
def lnJ (xs : List (List UInt8)) : List UInt8 := Lib.join xs [32] ++ [10]
theorem join_cons (x : List UInt8) : ∀ (r : List (List UInt8)), Lib.join (x :: r) [32] = x ++ r.flatMap (fun y => 32 :: y)
  | [] => by simp [Lib.join_one]
  | y :: r => by
    have t := join_cons y r
    unfold Lib.join at *
    rw [List.intercalate_cons_cons, t]
    simp
theorem lnJ_wdL (i : Ins) (h : GoodI i) : lnJ (wdL i) = lnL i := by
  have o1 := h.o1
  have o2 := h.o2
  unfold lnJ lnL lnS wdL
  rcases (by omega : i.op = 1 ∨ i.op = 2 ∨ i.op = 3 ∨ i.op = 4 ∨ i.op = 5 ∨ i.op = 6 ∨ i.op = 7 ∨ i.op = 8 ∨ i.op = 9 ∨ i.op = 10 ∨ i.op = 11) with h | h | h | h | h | h | h | h | h | h | h <;> simp [h, join_cons, List.flatMap_map]
theorem wdL_len (i : Ins) (h : GoodI i) : 0 < (wdL i).length ∧ (wdL i).length ≤ 10 := by
  have o1 := h.o1
  have o2 := h.o2
  have gl := h.gl
  unfold wdL
  rcases (by omega : i.op = 1 ∨ i.op = 2 ∨ i.op = 3 ∨ i.op = 4 ∨ i.op = 5 ∨ i.op = 6 ∨ i.op = 7 ∨ i.op = 8 ∨ i.op = 9 ∨ i.op = 10 ∨ i.op = 11) with h | h | h | h | h | h | h | h | h | h | h <;> simp [h] <;> omega
theorem hd_join (x : Fun) : lnJ [[102, 110], x.h.nm.data.toList, Lib.itoa x.h.pa, Lib.itoa x.h.rg, Lib.itoa x.h.fr] = hdL x := by
  unfold lnJ hdL
  simp [join_cons]
theorem bk_join (k : Nat) : lnJ [[98, 108, 111, 99, 107], Lib.itoa (k : Int)] = bkL k := by
  unfold lnJ bkL
  simp [join_cons]
theorem builder_below {B b : Nat} {bs : List Value} {W W' : World} (h : Lib.IsBuilder 116 5 B b bs W) (hb : Below W.heap.size W W') : Lib.IsBuilder 116 5 B b bs W' := by
  have key : ∀ p, Lib.BuilderAt 116 5 B b p bs W → Lib.BuilderAt 116 5 B b p bs W' := by
    rintro p ⟨hB, v, hbk, hown, hne⟩
    exact ⟨hB, v, (hb.block b (Array.getElem?_eq_some_iff.1 hbk).1).trans hbk, own_g hown hb, hne⟩
  rcases h with h | h
  · exact .inl (key _ h)
  · exact .inr (key _ h)
/-- What is no text keeps, but the builder's own box. -/
def Kp (b : Nat) (w w' : World) : Prop := ∀ (i : Nat) (cs : Array Value) (T : TypeId) (fr : Nat × Nat), w.heap[i]? = some (.cells cs T fr) → T ≠ 5 → i ≠ b → w'.heap[i]? = w.heap[i]?
theorem Kp.trans {b : Nat} {w w1 w2 : World} (h : Kp b w w1) (k : Kp b w1 w2) : Kp b w w2 := fun i cs T fr hi hT hb => by
  have t := h i cs T fr hi hT hb
  rw [k i cs T fr (t.trans hi) hT hb, t]
theorem Kp.below {b : Nat} {w w' : World} (h : Below w.heap.size w w') : Kp b w w' := fun i _ _ _ hi _ _ => h.block i (Array.getElem?_eq_some_iff.1 hi).1
set_option maxRecDepth 100000 in
set_option maxHeartbeats 4000000 in
theorem writeStringK (B b : Nat) (bs : List Value) (s : ByteArray) (w : World) (h : Lib.IsBuilder 116 5 B b bs w) (hlen : bs.length + s.size ≤ 140737488355328) (hBw : B ≤ w.heap.size) : Calls Tryz.prog 106 #[.pointer (some ⟨b, 0, none⟩), .string s] w fun e w' => e = .returned (.tuple #[.int .i64 s.size, .nilIface]) ∧ Lib.BuilderAt 116 5 B b (.pointer (some ⟨b, 0, none⟩)) (bs ++ Lib.strCells s) w' ∧ Below B w w' ∧ Kp b w w' := by
  obtain ⟨i0, hi, hz0, hz1, hz2⟩ := info_parts info5
  go_enter Tryz.func106, Tryz.ntmps106
  go_wp2_with (go_at_call 140; refine (check50 B b bs _ h).mono ?_)
  rintro e w1 ⟨rfl, ⟨hB, v, hbk, hown, hne⟩, hb1, hsame⟩
  have c0 : w1.cell? ⟨b, 0, none⟩ = some (.pointer (some ⟨b, 0, none⟩)) := Joins.cell_of_block hbk 0
  have c1 : w1.cell? ⟨b, 1, none⟩ = some v := Joins.cell_of_block hbk 1
  have hsz := hb1.size
  go_wp2_with (at_builtin; refine Lib.wpList_append_own_string _ rfl _ _ 33 9 rfl B 5 i0 Tryz.underlying33 Tryz.underlying9 hi hz0 hz1 hz2 _ _ _ rfl hown s rfl (by unfold maxLen; omega) (by omega) (by omega) ?_)
  intro v' w2 hown' hgrow _
  have hlt : b < w1.heap.size := (Array.getElem?_eq_some_iff.1 hbk).1
  have hb2 : w2.heap[b]? = some (.cells #[.pointer (some ⟨b, 0, none⟩), v] 116 (0, 0)) := by
    rw [hgrow.block b hlt (fun e => hne e.symm)]
    exact hbk
  have d0 : w2.cell? ⟨b, 0, none⟩ = some (.pointer (some ⟨b, 0, none⟩)) := Joins.cell_of_block hb2 0
  have d1 : w2.cell? ⟨b, 1, none⟩ = some v := Joins.cell_of_block hb2 1
  have f1 : w2.frozen? ⟨b, 1, none⟩ = false := Lib.frozen_of_heap hb2 1
  obtain ⟨ao, n', cap, rfl⟩ := own_slice hown'
  go_wp2
  go_ret2
  refine ⟨rfl, Lib.BuilderAt.put (T := 116) (e := 5) hB hb2 (bs' := bs ++ Lib.strCells s) (by simpa [Lib.strCells_length] using hown') (by decide), ?_, ?_⟩
  · exact (hb1.grown hgrow (by omega) (fun k hk => (hown.lt k hk).1)).setCell (p := ⟨b, 1, none⟩) hB _
  · intro i cs T fr hi hT hib
    have h1 : w1.heap[i]? = some (.cells cs T fr) := (hsame i hib).trans hi
    have hl1 : i < w1.heap.size := (Array.getElem?_eq_some_iff.1 h1).1
    rw [Go.Deep.blk_setCell_other _ ⟨b, 1, none⟩ _ i hib, hgrow.block i hl1 (fun e => Lib.ownBlock_ne hown h1 hT e.symm), h1, hi]
/-- A line is written. -/
theorem line76 (B b : Nat) (acc : List UInt8) (xs : List (List UInt8)) (g c : Nat) (w : World) (h : Lib.IsBuilder 116 5 B b (Lib.byteCells acc) w) (hB : B ≤ w.heap.size) (hx : 0 < xs.length) (hx2 : xs.length ≤ 1000) (hc : xs.length ≤ c) (hcells : ∀ (j : Nat) (x : List UInt8), xs[j]? = some x → w.cell? ⟨g, j, none⟩ = some (.string ⟨x.toArray⟩)) (hlen : acc.length + (lnJ xs).length ≤ 140737488355328) : Calls Tryz.prog 76 #[.pointer (some ⟨b, 0, none⟩), .slice (some ⟨g, 0, none⟩) xs.length c] w fun e w' => e = .returned (.tuple #[]) ∧ Lib.IsBuilder 116 5 B b (Lib.byteCells (acc ++ lnJ xs)) w' ∧ Below B w w' ∧ Kp b w w' := by
  have hl : (lnJ xs).length = (Lib.join xs [32]).length + 1 := by unfold lnJ; simp
  have hmm : (xs.map fun x => (⟨x.toArray⟩ : ByteArray)).map (·.data.toList) = xs := by
    rw [List.map_map]
    conv => rhs; rw [← List.map_id xs]
    exact List.map_congr_left (fun x _ => rfl)
  have HJ : Hid (Calls Tryz.prog 107 #[.slice (some ⟨g, 0, none⟩) xs.length c, .string ⟨#[32]⟩] w fun e w' => e = .returned (.string ⟨(Lib.join xs [32]).toArray⟩) ∧ Below w.heap.size w w') := by
    have t := Tryz.strings_Join g 0 c (xs.map fun x => (⟨x.toArray⟩ : ByteArray)) ⟨#[32]⟩ w (fun j x hj => by
      rw [List.getElem?_map] at hj
      obtain ⟨y, hy, rfl⟩ := Option.map_eq_some_iff.1 hj
      rw [Nat.zero_add]
      exact hcells j y hy) (by
      obtain ⟨y, hy⟩ : ∃ y, xs[0]? = some y := ⟨_, List.getElem?_eq_getElem hx⟩
      exact World.block_lt_of_cell? _ _ (hcells 0 y hy)) (by simp; omega) (by simpa using hc) (by rw [hmm]; show (Lib.join xs [32]).length ≤ _; omega)
    rw [hmm, List.length_map] at t
    exact t
  have HS : Hid (∀ W, B ≤ W.heap.size → Lib.IsBuilder 116 5 B b (Lib.byteCells acc) W → Calls Tryz.prog 106 #[.pointer (some ⟨b, 0, none⟩), .string ⟨(Lib.join xs [32]).toArray⟩] W fun e w' => (∃ k : Nat, e = .returned (.tuple #[.int .i64 k, .nilIface])) ∧ Lib.IsBuilder 116 5 B b (Lib.byteCells (acc ++ Lib.join xs [32])) w' ∧ Below B W w' ∧ Kp b W w') := fun W hW hb => (writeStringK B b (Lib.byteCells acc) ⟨(Lib.join xs [32]).toArray⟩ W hb (by rw [Lib.byteCells_length]; show _ + (Lib.join xs [32]).toArray.size ≤ _; simp; omega) hW).mono fun _ _ ⟨he, hd, hb, hk⟩ => ⟨⟨_, he⟩, by rw [Lib.byteCells_append]; rw [Lib.strCells_eq] at hd; exact .inr (by simpa using hd), hb, hk⟩
  have HW : Hid (∀ W, B ≤ W.heap.size → Lib.IsBuilder 116 5 B b (Lib.byteCells (acc ++ Lib.join xs [32])) W → Calls Tryz.prog 108 #[.pointer (some ⟨b, 0, none⟩), .int .u8 10] W fun e w' => e = .returned .nilIface ∧ Lib.IsBuilder 116 5 B b (Lib.byteCells (acc ++ lnJ xs)) w' ∧ Below B W w' ∧ Kp b W w') := fun W hW hb => (writeByte38 B b (Lib.byteCells (acc ++ Lib.join xs [32])) 10 W hb (by rw [Lib.byteCells_length, List.length_append]; omega) hW).mono fun _ _ ⟨he, hd, hb, hk⟩ => ⟨he, by unfold lnJ; rw [← List.append_assoc, Lib.byteCells_append]; exact .inr hd, hb, hk⟩
  have HB : Hid (Lib.IsBuilder 116 5 B b (Lib.byteCells acc) w) := h
  have hB0 := hB
  clear h hcells hlen hl hmm hx
  generalize lnJ xs = LJ at *
  generalize Lib.join xs [32] = JJ at *
  generalize xs.length = n at *
  go_enter Tryz.func76, Tryz.ntmps76
  go_wp2_with fail
  refine HJ.out.mono ?_
  rintro e w1 ⟨rfl, hb1⟩
  have h1 : B ≤ w1.heap.size := Nat.le_trans hB hb1.size
  have HB1 : Hid (Lib.IsBuilder 116 5 B b (Lib.byteCells acc) w1) := builder_below HB.out hb1
  have HL1 : Hid (Below B w w1) := hb1.mono hB
  have HK1 : Hid (Kp b w w1) := Kp.below hb1
  clear hb1
  go_wp2_with fail
  refine (HS.out w1 h1 HB1.out).mono ?_
  rintro e w2 ⟨⟨k, rfl⟩, hd, hb2, hk2⟩
  have h2 : B ≤ w2.heap.size := Nat.le_trans h1 hb2.size
  have HB2 : Hid (Lib.IsBuilder 116 5 B b (Lib.byteCells (acc ++ JJ)) w2) := hd
  have HL2 : Hid (Below B w w2) := HL1.out.trans hb2
  have HK2 : Hid (Kp b w w2) := HK1.out.trans hk2
  clear hb2 hd hk2
  go_wp2_with fail
  refine (HW.out w2 h2 HB2.out).mono ?_
  rintro e w3 ⟨rfl, hd, hb3, hk3⟩
  have HL3 : Hid (Below B w w3) := HL2.out.trans hb3
  have HD3 : Hid (Lib.IsBuilder 116 5 B b (Lib.byteCells (acc ++ LJ)) w3) := hd
  have HK3 : Hid (Kp b w w3) := HK2.out.trans hk3
  clear hb3 hd hk3
  go_wp2
  go_end0
  exact ⟨rfl, HD3.out, HL3.out, HK3.out⟩
end
end Go.Proofs.YtdppoblbenbafaaGreatDoor
