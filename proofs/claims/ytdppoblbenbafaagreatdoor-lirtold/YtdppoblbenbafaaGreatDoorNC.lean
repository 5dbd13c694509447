/- LirTold's law, given that equal texts of right programs mean the same program. Equal texts of right programs mean the same program: blocks, functions; LirTold's law. -/
import Derived.Test.YtdppoblbenbafaaGreatDoorNA
import Derived.Test.YtdppoblbenbafaaGreatDoorDD
namespace Go.Proofs.YtdppoblbenbafaaGreatDoor
section
open Go.RowKit Go.Shelf
set_option maxHeartbeats 8000000
set_option maxRecDepth 100000 in
theorem law6_of (l q : List Fun) (p qo : Option Addr) (pc qc : Nat) (w : World) (hI : FunA w p pc l) (hQ : FunA w qo qc q) (hN : N64 l) (hM : N64 q) (hp : Pow w) (hTf : Tfa w) (hTw : Twa w) (hTt : Tf w) (hE : prB l = true → prB q = true → ((txP l == txP q) = alE fnE l q)) : Calls Tryz.prog 6 #[.slice p l.length pc, .slice qo q.length qc] w fun e w' => e = .returned (.bool true) ∧ Below w.heap.size w w' := by
  have hxc := hI.1
  have hxd := hQ.1
  have K16 : Hid (Calls Tryz.prog 16 #[.slice p l.length pc] w fun e w' => e = .returned (.tuple #[.string ⟨(txV l).toArray⟩, .int .i64 (if prB l then 0 else 6)]) ∧ Below w.heap.size w w') := text16 l p pc w hI hN hp hTf hTw
  have K17 : Hid (∀ W, Below w.heap.size w W → Calls Tryz.prog 16 #[.slice qo q.length qc] W fun e w' => e = .returned (.tuple #[.string ⟨(txV q).toArray⟩, .int .i64 (if prB q then 0 else 6)]) ∧ Below W.heap.size W w') := fun W hW => text16 q qo qc W (hQ.below hW) hM (hp.below hW) (hTf.below hW) (hTw.below hW)
  have K21 : Hid (∀ W, Below w.heap.size w W → Calls Tryz.prog 21 #[.slice p l.length pc, .slice qo q.length qc] W fun e w' => e = .returned (.bool (alE fnE l q)) ∧ G W w') := fun W hW => same21 l q p qo pc qc W (hI.below hW) (hQ.below hW)
  have K11 : Hid (∀ W, Below w.heap.size w W → Calls Tryz.prog 11 #[] W fun e w' => e = .returned (.bool true) ∧ Below W.heap.size W w') := fun W hW => speaks6 W (hTt.below hW)
  unfold txV at K16 K17
  clear hI hQ hN hM hp hTf hTw hTt
  generalize q.length = qn at *
  generalize l.length = n at *
  cases hL : prB l with
  | false =>
    rw [hL] at K16
    generalize (if prB q then (0 : Int) else 6) = EE at *
    generalize (⟨((if prB q then txP q else []) : List UInt8).toArray⟩ : ByteArray) = TT at *
    clear hE
    go_enter Tryz.func6, Tryz.ntmps6
    go_wp2_with fail
    refine K16.out.mono ?_
    rintro e w1 ⟨rfl, hb1⟩
    have HB1 : Hid (Below w.heap.size w w1) := hb1
    clear hb1 K16
    go_wp2_with fail
    refine (K17.out w1 HB1.out).mono ?_
    rintro e w2 ⟨rfl, hb2⟩
    have HB2 : Hid (Below w.heap.size w w2) := HB1.out.trans (hb2.mono HB1.out.size)
    clear hb2 HB1 K17
    go_wp2_with fail
    refine (K11.out w2 HB2.out).mono ?_
    rintro e w3 ⟨rfl, hb3⟩
    have HB3 : Hid (Below w.heap.size w w3) := HB2.out.trans (hb3.mono HB2.out.size)
    clear hb3
    go_wp2
    go_ret
    exact ⟨rfl, HB3.out⟩
  | true =>
    rw [hL] at K16
    cases hR : prB q with
    | false =>
      rw [hR] at K17
      clear hE
      generalize txP l = TT at *
      go_enter Tryz.func6, Tryz.ntmps6
      go_wp2_with fail
      refine K16.out.mono ?_
      rintro e w1 ⟨rfl, hb1⟩
      have HB1 : Hid (Below w.heap.size w w1) := hb1
      clear hb1 K16
      go_wp2_with fail
      refine (K17.out w1 HB1.out).mono ?_
      rintro e w2 ⟨rfl, hb2⟩
      have HB2 : Hid (Below w.heap.size w w2) := HB1.out.trans (hb2.mono HB1.out.size)
      clear hb2 HB1 K17
      go_wp2_with fail
      refine (K11.out w2 HB2.out).mono ?_
      rintro e w3 ⟨rfl, hb3⟩
      have HB3 : Hid (Below w.heap.size w w3) := HB2.out.trans (hb3.mono HB2.out.size)
      clear hb3
      go_wp2
      go_ret
      exact ⟨rfl, HB3.out⟩
    | true =>
      rw [hR] at K17
      have hE := hE hL hR
      rw [← hE] at K21
      have hx : ((⟨(txP l).toArray⟩ : ByteArray).toList == (⟨(txP q).toArray⟩ : ByteArray).toList) = (txP l == txP q) := by rw [ByteArray.toList_eq, ByteArray.toList_eq]
      clear hE
      simp only [if_true] at K16 K17
      generalize (txP l == txP q) = SS at *
      generalize (⟨(txP l).toArray⟩ : ByteArray) = T1 at *
      generalize (⟨(txP q).toArray⟩ : ByteArray) = T2 at *
      have HS : Hid ((SS == SS) = true) := by show _ = _; simp
      go_enter Tryz.func6, Tryz.ntmps6
      go_wp2_with fail
      refine K16.out.mono ?_
      rintro e w1 ⟨rfl, hb1⟩
      have HB1 : Hid (Below w.heap.size w w1) := hb1
      clear hb1 K16
      go_wp2_with fail
      refine (K17.out w1 HB1.out).mono ?_
      rintro e w2 ⟨rfl, hb2⟩
      have HB2 : Hid (Below w.heap.size w w2) := HB1.out.trans (hb2.mono HB1.out.size)
      clear hb2 HB1 K17
      go_wp2_with fail
      refine (K21.out w2 HB2.out).mono ?_
      rintro e w4 ⟨rfl, hg⟩
      have HB4 : Hid (Below w.heap.size w w4) := HB2.out.trans (hg.below.mono HB2.out.size)
      clear hg
      go_wp2_with fail
      refine (K11.out w4 HB4.out).mono ?_
      rintro e w3 ⟨rfl, hb3⟩
      have HB3 : Hid (Below w.heap.size w w3) := HB4.out.trans (hb3.mono HB4.out.size)
      clear hb3
      go_wp2
      go_ret
      exact ⟨rfl, HB3.out⟩
end
section
open Go.RowKit Go.Shelf
set_option maxHeartbeats 4000000
theorem lnL_head (i : Ins) : ∃ r, lnL i = 9 :: r := ⟨_, rfl⟩
theorem ins_inj {f g : Fnh} : ∀ {a b : List Ins} {A B : List UInt8}, (∀ i ∈ a, inR f i = true ∧ GoodI i) → (∀ i ∈ b, inR g i = true ∧ GoodI i) → A.head? ≠ some 9 → B.head? ≠ some 9 → lnsT a ++ A = lnsT b ++ B → alE inE a b = true ∧ A = B
  | [], [], _, _, _, _, _, _, h => ⟨rfl, by simpa [lnsT] using h⟩
  | [], y :: b, A, B, _, _, hA, _, h => by
    obtain ⟨r, e⟩ := lnL_head y
    simp [lnsT, e] at h
    rw [h] at hA
    exact absurd rfl hA
  | x :: a, [], A, B, _, _, _, hB, h => by
    obtain ⟨r, e⟩ := lnL_head x
    simp [lnsT, e] at h
    rw [← h] at hB
    exact absurd rfl hB
  | x :: a, y :: b, A, B, ha, hb, hA, hB, h => by
    have px := ha x (by simp)
    have py := hb y (by simp)
    have h2 : lnL x ++ (lnsT a ++ A) = lnL y ++ (lnsT b ++ B) := by simpa [lnsT] using h
    rw [← lnJ_wdL x px.2, ← lnJ_wdL y py.2] at h2
    obtain ⟨e1, e2⟩ := line_inj (by have := (wdL_len x px.2).1; intro q; rw [q] at this; cases this) (by have := (wdL_len y py.2).1; intro q; rw [q] at this; cases this) (wd_noB px.1 px.2) (wd_noB py.1 py.2) h2
    obtain ⟨t1, t2⟩ := ins_inj (fun i hi => ha i (by simp [hi])) (fun i hi => hb i (by simp [hi])) hA hB e2
    refine ⟨?_, t2⟩
    unfold alE
    rw [wd_inE px.1 py.1 px.2 py.2 e1, t1]
    rfl
theorem bkL_head (k : Nat) : ∃ r, bkL k = 98 :: r := ⟨_, rfl⟩
theorem bls_head (k : Nat) (l : List Blk) (A : List UInt8) (h : A.head? ≠ some 9) : (blsT k l ++ A).head? ≠ some 9 := by
  cases l with
  | nil => simpa [blsT] using h
  | cons b l =>
    obtain ⟨r, e⟩ := bkL_head k
    simp [blsT, e]
theorem blk_inj {f g : Fnh} : ∀ {a b : List Blk} {A B : List UInt8} (k : Nat), (∀ c ∈ a, ∀ i ∈ c.l, inR f i = true ∧ GoodI i) → (∀ c ∈ b, ∀ i ∈ c.l, inR g i = true ∧ GoodI i) → A.head? ≠ some 9 → B.head? ≠ some 9 → A.head? ≠ some 98 → B.head? ≠ some 98 → blsT k a ++ A = blsT k b ++ B → alE blE a b = true ∧ A = B
  | [], [], _, _, _, _, _, _, _, _, _, h => ⟨rfl, by simpa [blsT] using h⟩
  | [], y :: b, A, B, k, _, _, _, _, hA, _, h => by
    obtain ⟨r, e⟩ := bkL_head k
    simp [blsT, e] at h
    rw [h] at hA
    exact absurd rfl hA
  | x :: a, [], A, B, k, _, _, _, _, _, hB, h => by
    obtain ⟨r, e⟩ := bkL_head k
    simp [blsT, e] at h
    rw [← h] at hB
    exact absurd rfl hB
  | x :: a, y :: b, A, B, k, ha, hb, h1, h2, h3, h4, h => by
    have h5 : bkL k ++ (lnsT x.l ++ (blsT (k + 1) a ++ A)) = bkL k ++ (lnsT y.l ++ (blsT (k + 1) b ++ B)) := by simpa [blsT] using h
    have h6 := List.append_cancel_left h5
    obtain ⟨t1, t2⟩ := ins_inj (ha x (by simp)) (hb y (by simp)) (bls_head _ a A h1) (bls_head _ b B h2) h6
    obtain ⟨t3, t4⟩ := blk_inj (k + 1) (fun c hc => ha c (by simp [hc])) (fun c hc => hb c (by simp [hc])) h1 h2 h3 h4 t2
    refine ⟨?_, t4⟩
    unfold alE
    rw [show blE x y = true from t1, t3]
    rfl
/-- Functions that are right, as their texts want it. -/
def TxG (l : List Fun) : Prop := ∀ x ∈ l, noB x.h.nm.data.toList ∧ ∀ c ∈ x.bs, ∀ i ∈ c.l, inR x.h i = true ∧ GoodI i
theorem txF_head (x : Fun) : ∃ r, txF x = 102 :: r := ⟨_, rfl⟩
theorem txP_head (l : List Fun) (c : UInt8) (h : c ≠ 102) : (txP l).head? ≠ some c := by
  cases l with
  | nil => simp [txP]
  | cons x l =>
    obtain ⟨r, e⟩ := txF_head x
    simp [txP, e]
    exact fun q => h q.symm
theorem fun_inj : ∀ {a b : List Fun}, TxG a → TxG b → txP a = txP b → alE fnE a b = true
  | [], [], _, _, _ => rfl
  | [], y :: b, _, _, h => by
    obtain ⟨r, e⟩ := txF_head y
    simp [txP, e] at h
  | x :: a, [], _, _, h => by
    obtain ⟨r, e⟩ := txF_head x
    simp [txP, e] at h
  | x :: a, y :: b, ha, hb, h => by
    have px := ha x (by simp)
    have py := hb y (by simp)
    have h2 : hdL x ++ (blsT 0 x.bs ++ txP a) = hdL y ++ (blsT 0 y.bs ++ txP b) := by simpa [txP, txF] using h
    rw [← hd_join, ← hd_join] at h2
    have kk : ∀ z : Fun, noB z.h.nm.data.toList → ∀ w ∈ [[102, 110], z.h.nm.data.toList, Lib.itoa z.h.pa, Lib.itoa z.h.rg, Lib.itoa z.h.fr], noB w := fun z hz w hw => by
      simp only [List.mem_cons, List.not_mem_nil, or_false] at hw
      rcases hw with e | e | e | e | e
      · rw [e]; unfold noB; decide
      · rw [e]; exact hz
      · rw [e]; exact itoa_noB _
      · rw [e]; exact itoa_noB _
      · rw [e]; exact itoa_noB _
    obtain ⟨e1, e2⟩ := line_inj (by simp) (by simp) (kk x px.1) (kk y py.1) h2
    obtain ⟨t3, t4⟩ := blk_inj 0 px.2 py.2 (txP_head a 9 (by decide)) (txP_head b 9 (by decide)) (txP_head a 98 (by decide)) (txP_head b 98 (by decide)) e2
    have t5 := fun_inj (fun z hz => ha z (by simp [hz])) (fun z hz => hb z (by simp [hz])) t4
    simp only [List.cons.injEq, true_and, and_true] at e1
    unfold alE
    rw [t5, Bool.and_true]
    unfold fnE
    rw [t3]
    simp [ba_ext e1.1, itoa_inj e1.2.1, itoa_inj e1.2.2.1, itoa_inj e1.2.2.2]
theorem txG_of {l : List Fun} (hl : ∀ x ∈ l, x.h.bl = x.bs.length) (hn : N64 l) (h : prB l = true) : TxG l := by
  have hG := goodP_of hl hn h
  rw [← ck_eq] at h
  unfold ckB at h
  simp only [Bool.and_eq_true] at h
  intro x hx
  obtain ⟨j, hj, e⟩ := List.mem_iff_getElem.1 hx
  have t := (okL_iff l l 0).1 h.2.2 j x (by rw [List.getElem?_eq_getElem hj, e])
  unfold okF at t
  simp only [Bool.and_eq_true] at t
  have t := t.1
  unfold fnB at t
  simp only [Bool.and_eq_true] at t
  refine ⟨nm_noB t.1, fun c hc i hi => ⟨?_, ((hG.2 x hx).bs c hc).2 i hi⟩⟩
  have t6 := t.2.2.2.2.2
  unfold blsB at t6
  rw [List.all_eq_true] at t6
  have t7 := t6 c hc
  unfold blkB at t7
  simp only [Bool.and_eq_true] at t7
  rw [inR_eq]
  exact up_all x.h _ c.l 0 t7.2 i hi
theorem law6 (l q : List Fun) (p qo : Option Addr) (pc qc : Nat) (w : World) (hI : FunA w p pc l) (hQ : FunA w qo qc q) (hN : N64 l) (hM : N64 q) (hp : Pow w) (hTf : Tfa w) (hTw : Twa w) (hTt : Tf w) : Calls Tryz.prog 6 #[.slice p l.length pc, .slice qo q.length qc] w fun e w' => e = .returned (.bool true) ∧ Below w.heap.size w w' :=
  law6_of l q p qo pc qc w hI hQ hN hM hp hTf hTw hTt fun h1 h2 => by
    rw [Bool.eq_iff_iff, beq_iff_eq]
    exact ⟨fun_inj (txG_of (fun x hx => (hI.2.2.1 x hx).1) hN h1) (txG_of (fun x hx => (hQ.2.2.1 x hx).1) hM h2), alE_text⟩
end
end Go.Proofs.YtdppoblbenbafaaGreatDoor
