/- What a run keeps; a machine that was made; one that stays. Pages of two machines, and their bytes: the document's own comparisons tell true. The law, where the numbers of steps are out of bounds, or no machine is made. -/
import Derived.Test.YtnmpbihpoefeoaaDoorKB
import Derived.Test.YtnmpbihpoefeoaaDoorNA
import Derived.Test.YtnmpbihpoefeoaaDoorLG
import Derived.Test.YtnmpbihpoefeoaaDoorNB
import Derived.Test.YtnmpbihpoefeoaaDoorCB
namespace Go.Proofs.YtnmpbihpoefeoaaDoor
section
open Go.RowKit Go.Shelf
/-- Bytes alone. -/
def AllB (xs : List Value) : Prop := ∀ v ∈ xs, ∃ y, v = .int .u8 y
def yOfX (xs : List Value) (j : Nat) : Int := match xs[j]? with
  | some (.int _ y) => y
  | _ => 0
theorem row_of {xs : List Value} (h : AllB xs) : xs = rowOf (yOfX xs) xs.length := by
  apply List.ext_getElem?
  intro j
  by_cases hj : j < xs.length
  · rw [rowOf_at hj, List.getElem?_eq_getElem hj]
    obtain ⟨y, e⟩ := h xs[j] (List.getElem_mem hj)
    have t : yOfX xs j = y := by unfold yOfX; rw [List.getElem?_eq_getElem hj, e]
    rw [t, e]
  · rw [List.getElem?_eq_none (by omega), List.getElem?_eq_none (by simp [rowOf]; omega)]
theorem allB_row (Y : Nat → Int) (n : Nat) : AllB (rowOf Y n) := fun v hv => by
  obtain ⟨j, _, rfl⟩ := List.mem_map.1 hv
  exact ⟨_, rfl⟩
theorem allB_nil : AllB [] := fun v hv => by cases hv
/-- Kept by an instruction: nothing but bytes is printed, register 0 is 0. -/
def KpD (d : Do) : Prop := AllB d.o ∧ d.s.x 0 = 0
theorem kp_ite {c : Prop} [Decidable c] {x y : Do} (hx : KpD x) (hy : KpD y) : KpD (if c then x else y) := by
  by_cases h : c
  · rw [if_pos h]; exact hx
  · rw [if_neg h]; exact hy
theorem nxt_zero (s : Sx) (rd : Nat) (v pc : Int) : (nxt s rd v pc).x 0 = 0 := by simp [nxt, upd]
theorem kp_nxt {f : Int} {s : Sx} {rd : Nat} {v pc : Int} {wr : Option (Int × Int × Int)} : KpD ⟨f, nxt s rd v pc, [], wr⟩ := ⟨allB_nil, nxt_zero _ _ _ _⟩
theorem kp_do {ld : Int → Int → Int × Int} {se : Int → Int → Int} {L : Nat} {ib : Nat → Int} {s : Sx} (op im : Int) (rd r1 r2 : Nat) (h : s.x 0 = 0) : KpD (doP ld se L ib s op im rd r1 r2) := by
  have hs : ∀ f : Int, KpD ⟨f, s, [], none⟩ := fun f => ⟨allB_nil, h⟩
  unfold doP ecP
  refine kp_ite kp_nxt (kp_ite kp_nxt (kp_ite kp_nxt (kp_ite kp_nxt (kp_ite kp_nxt (kp_ite (kp_ite kp_nxt (hs _)) (kp_ite (kp_ite kp_nxt (hs _)) (kp_ite kp_nxt (kp_ite kp_nxt (kp_ite (kp_ite kp_nxt (kp_ite ?_ (kp_ite kp_nxt (hs _)))) (hs _))))))))))
  exact ⟨fun v hv => by rw [List.mem_singleton.1 hv]; exact ⟨_, rfl⟩, nxt_zero _ _ _ _⟩
theorem kp_stp {ps : List Pgd} {bt : Nat → Nat → Int} {L : Nat} {ib : Nat → Int} {s : Sx} (h : s.x 0 = 0) : KpD (stpP ps bt L ib s) := by
  have t : KpD (nextP ps bt L ib s) := by
    unfold nextP
    refine kp_ite ?_ ⟨allB_nil, h⟩
    cases dk (fV ps bt s.pc) with
    | none => exact ⟨allB_nil, h⟩
    | some k => exact kp_do _ _ _ _ _ h
  exact ⟨t.1, t.2⟩
theorem kp_run (ps : List Pgd) (L : Nat) (ib : Nat → Int) (n : Nat) : ∀ (k : Nat) (q : Rn), q.s.x 0 = 0 → AllB q.xs → (runP ps L ib n k q).s.x 0 = 0 ∧ AllB (runP ps L ib n k q).xs
  | 0, _, h1, h2 => ⟨h1, h2⟩
  | k + 1, q, h1, h2 => by
    rw [runP]
    split
    · have t := kp_stp (ps := ps) (bt := q.bt) (L := L) (ib := ib) h1
      exact kp_run ps L ib n k _ t.2 (fun v hv => (List.mem_append.1 hv).elim (h2 v) (t.1 v))
    · exact ⟨h1, h2⟩
theorem len_run (ps : List Pgd) (L : Nat) (ib : Nat → Int) (n : Nat) : ∀ (k : Nat) (q : Rn), (runP ps L ib n k q).xs.length + q.c ≤ q.xs.length + (runP ps L ib n k q).c
  | 0, _ => Nat.le_refl _
  | k + 1, q => by
    rw [runP]
    split
    · have t := len_run ps L ib n k (rn1 ps L ib q)
      have o := stp_o ps q.bt L ib q.s
      have e1 : (rn1 ps L ib q).xs.length = q.xs.length + (stpP ps q.bt L ib q.s).o.length := List.length_append
      have e2 : (rn1 ps L ib q).c = q.c + (if (stpP ps q.bt L ib q.s).f = 0 then 1 else 0) := rfl
      omega
    · exact Nat.le_refl _
section
variable {N : Nat → Prop} {W : World} {m mem r : Nat} {ps : List Pgd} {bt : Nat → Nat → Int} {s : Sx} {ov iv : Value} {base : Nat} {xs : List Value} {L : Nat} {ib : Nat → Int}
/-- Where its blocks stay, a machine does. -/
theorem Bd.kept (H : Bd N W m mem r ps bt s ov iv base xs L ib) {W' : World} (hz : W.heap.size ≤ W'.heap.size) (h1 : W'.heap[m]? = W.heap[m]?) (h2 : W'.heap[mem]? = W.heap[mem]?) (h3 : W'.heap[r]? = W.heap[r]?) (h4 : ∀ x ∈ ps, W'.heap[x.g]? = W.heap[x.g]?) (h5 : ∀ g, ov.ownBlock = some g → W'.heap[g]? = W.heap[g]?) (h6 : ∀ g, iv.ownBlock = some g → W'.heap[g]? = W.heap[g]?) (h0 : W'.heap[0]? = W.heap[0]?) : Bd N W' m mem r ps bt s ov iv base xs L ib :=
  ⟨H.mch.keep h1, H.mo.keep h2 h3 h4, H.inb.keep h6, owns_keep H.own h5, H.tab.keep h0 hz, H.ok, H.ibs, Nat.le_trans H.base hz, H.ap1, fun g hg => ⟨Nat.lt_of_lt_of_le (H.ap2 g hg).1 hz, (H.ap2 g hg).2⟩, fun k hk => ⟨Nat.lt_of_lt_of_le (H.far k hk).1 hz, (H.far k hk).2⟩, H.zero, H.small, H.ap3⟩
/-- All that is not its own. -/
def Oth (W : World) (m : Nat) (ps : List Pgd) (ov : Value) : Nat → Prop := fun k => k < W.heap.size ∧ ¬ Fp m ps ov k
theorem Bd.oth (H : Bd N W m mem r ps bt s ov iv base xs L ib) : Bd (Oth W m ps ov) W m mem r ps bt s ov iv base xs L ib :=
  { H with
    far := fun k hk => ⟨hk.1, fun e => hk.2 (.inl e), fun x hx e => hk.2 (.inr (.inl ⟨x, hx, e⟩)), fun e => hk.2 (.inr (.inr e))⟩
    zero := by
      obtain ⟨a, b, c, d⟩ := H.far 0 H.zero
      exact ⟨a, fun h => h.elim b (fun h => h.elim (fun ⟨x, hx, e⟩ => c x hx e) d)⟩ }
end
/-- A machine that was made is one. -/
theorem Made.bd {w W' : World} {s : Sx} {n0 ni : Nat} {Y0 Yi : Nat → Int} {len : Nat} {k p : Nat → Int} {Y : Nat → Nat → Int} {m mem r : Nat} {ps : List Pgd} {ov iv : Value} (H : Made w s n0 ni Y0 Yi len k p Y m mem r ps ov iv W') (hY : ∀ i j, 0 ≤ Y i j ∧ Y i j < 256) (hYi : ∀ j, 0 ≤ Yi j ∧ Yi j < 256) (hT : Tab w) (hk : Okx s) (hni : (ni : Int) ≤ 9223372036854775807) : ∃ bt base, (∃ W0, bt = btOf W0 ∧ Fr W0 mem r len k p Y w.heap.size ps) ∧ Bd (fun i => i < w.heap.size) W' m mem r ps bt s ov iv base (rowOf Y0 n0) ni Yi ∧ Below w.heap.size w W' ∧ w.heap.size ≤ m ∧ w.heap.size ≤ mem ∧ w.heap.size ≤ r ∧ (∀ x ∈ ps, w.heap.size ≤ x.g) ∧ (∀ g, ov.ownBlock = some g → w.heap.size ≤ g) ∧ (∀ g, iv.ownBlock = some g → w.heap.size ≤ g) := by
  obtain ⟨W0, W1, b0, hF, b1, b2, ho, hol, hi, hm, l1, l2, l3, l4⟩ := H.fr
  have hB : Below w.heap.size w W' := (b0.trans (b1.mono b0.size)).trans (b2.mono (Nat.le_trans b0.size b1.size))
  have z0 := b0.size
  have z1 := b1.size
  have z2 := b2.size
  have hMo : Mo W' mem r ps (btOf W0) := ((hF.mo hY).below b1).below b2
  have hg : ∀ x ∈ ps, w.heap.size ≤ x.g ∧ x.g < W0.heap.size := fun x hx => by
    obtain ⟨t, ht, rfl⟩ := List.getElem_of_mem hx
    exact ⟨(hF.at_ t _ (List.getElem?_eq_getElem ht)).2.2.2, ((hF.mo hY).ne hx).2.2⟩
  have hov : ∀ g, ov.ownBlock = some g → W0.heap.size ≤ g := fun g hg => by
    obtain ⟨_, ⟨rfl, _⟩ | ⟨g', cap, cur, rfl, h2, _⟩⟩ := ho
    · cases hg
    · cases hg; exact h2
  have hiv : ∀ g, iv.ownBlock = some g → W1.heap.size ≤ g ∧ g < W'.heap.size := fun g hg => by
    obtain ⟨cur, hc⟩ := owns_lt hi hg
    refine ⟨?_, lt_of_some hc⟩
    obtain ⟨_, ⟨rfl, _⟩ | ⟨g', cap, cur, rfl, h2, _⟩⟩ := hi
    · cases hg
    · cases hg; exact h2
  have hin : InB W' iv ni Yi := by
    have t := hi
    obtain ⟨_, ⟨rfl, rfl⟩ | ⟨g, cap, cur, rfl, _, h2, h3, _, h4, h5⟩⟩ := t
    · exact ⟨none, 0, rfl, fun h => by omega⟩
    · refine ⟨_, _, rfl, fun _ => ⟨g, rfl, fun j hj => ?_⟩⟩
      simp only [World.cell?, h2]
      have t := congrArg (fun l => l[j]?) h5
      simp only [rowOf_at hj, Nat.mul_one] at t
      rw [List.getElem?_take_of_lt hj] at t
      simpa using t
  have hlen : (rowOf Y0 n0).length = n0 := by simp [rowOf]
  refine ⟨btOf W0, W0.heap.size, ⟨W0, rfl, hF⟩, ⟨H.mch, hMo, hin, by rw [hlen]; exact ho, hT.below hB, hk, hYi, by omega, fun x hx e => ?_, fun g hg' => ⟨(hiv g hg').2, fun x hx e => ?_, fun e => ?_⟩, fun i hi' => ⟨by omega, by omega, fun x hx e => ?_, fun e => ?_⟩, hT.1, hni, fun e => ?_⟩, hB, by omega, l1, l2, fun x hx => (hg x hx).1, fun g h => by have := hov g h; omega, fun g h => by have := hiv g h; omega⟩
  · have := hov _ e; have := hg x hx; omega
  · have := hiv g hg'; have := hg x hx; omega
  · have := hol _ e; have := hiv g hg'; omega
  · have := hg x hx; omega
  · have := hov _ e; omega
  · have := hov _ e; omega
end
section
open Go.RowKit Go.Shelf
theorem ByA.bytes {W : World} {v : Value} {n : Nat} {Y : Nat → Int} (h : ByA W v n Y) : ∃ p c, v = .slice p n c ∧ Lib.BytesIn W p n ((List.range n).map Y) := by
  obtain ⟨ao, c, rfl, h0, h1⟩ := h
  refine ⟨ao, c, rfl, ?_⟩
  cases ao with
  | none => obtain ⟨rfl, _⟩ := h0 rfl; exact Lib.BytesIn.nil _ _ _
  | some a => exact Lib.BytesIn.of_cells fun i hi => by rw [(h1 a rfl i hi).2]; simp [List.getD, hi]
theorem bytes31_any {w : World} {v1 v2 : Value} {n : Nat} {Y : Nat → Int} (h1 : ByA w v1 n Y) (h2 : ByA w v2 n Y) : Calls Tryd.prog 31 #[v1, v2] w fun e w' => e = .returned (.bool true) ∧ w' = w := by
  obtain ⟨p, c, rfl, b1⟩ := h1.bytes
  obtain ⟨q, d, rfl, b2⟩ := h2.bytes
  exact bytes24 p q n c d _ w (by simp) b1 b2
set_option maxHeartbeats 1000000 in
theorem pages17 {W : World} {m mem : Nat} {s : Sx} {ov iv : Value} {T : Value → World → Prop} (H : Mch W m s ov mem iv) (hp : Calls Tryd.prog 32 #[.pointer (some ⟨mem, 0, none⟩)] W fun e w' => ∃ v, e = .returned v ∧ T v w') : Calls Tryd.prog 17 #[.pointer (some ⟨m, 0, none⟩)] W fun e w' => ∃ v, e = .returned v ∧ T v w' := by
  have hs := H.lt
  have h39 := H.mem
  have HP : Hid (Calls Tryd.prog 32 #[.pointer (some ⟨mem, 0, none⟩)] W fun e w' => ∃ v, e = .returned v ∧ T v w') := hp
  clear H hp
  go_enter Tryd.func17, Tryd.ntmps17
  go_wp2_with fail
  refine HP.out.mono ?_
  rintro e w1 ⟨v, rfl, hT⟩
  have HT : Hid (T v w1) := hT
  clear hT
  go_wp2
  go_ret
  exact ⟨v, rfl, HT.out⟩
/-- What Pages tells. -/
def PgsV (ps : List Pgd) (bt : Nat → Nat → Int) (v : Value) (w : World) : Prop := (∃ a c, v = .slice a ps.length c) ∧ (0 < ps.length → ∃ la cap g c, v = .slice (some ⟨la, 0, none⟩) ps.length cap ∧ Row w la 0 ps.length (fun i => (ordP ps i).k) (fun i => (ordP ps i).p) (fun i j => bt (ordP ps i).g j) g (fun _ => 0) c ∧ la < w.heap.size ∧ ∀ i, i < ps.length → g i < w.heap.size)
theorem PgsV.below {ps : List Pgd} {bt : Nat → Nat → Int} {v : Value} {w w' : World} (h : PgsV ps bt v w) (hb : Below w.heap.size w w') : PgsV ps bt v w' := ⟨h.1, fun hl => by
  obtain ⟨la, cap, g, c, e, hr, h1, h2⟩ := h.2 hl
  exact ⟨la, cap, g, c, e, hr.below hb, Nat.lt_of_lt_of_le h1 hb.size, fun i hi => Nat.lt_of_lt_of_le (h2 i hi) hb.size⟩⟩
theorem owns_slice3 {W : World} {base : Nat} {v : Value} {n : Nat} {xs : List Value} (h : W.ownsRow base 51 3 v n xs) : ∃ a c, v = .slice a n c := by
  obtain ⟨_, ⟨rfl, rfl⟩ | ⟨g, cap, cur, rfl, _⟩⟩ := h
  · exact ⟨_, _, rfl⟩
  · exact ⟨_, _, rfl⟩
theorem pages17_any {W : World} {m mem r : Nat} {s : Sx} {ov iv : Value} {ps : List Pgd} {bt : Nat → Nat → Int} (H : Mch W m s ov mem iv) (h : Mo W mem r ps bt) (hl : ps.length ≤ 65536) : Calls Tryd.prog 17 #[.pointer (some ⟨m, 0, none⟩)] W fun e w' => ∃ v, e = .returned v ∧ PgsV ps bt v w' ∧ Below W.heap.size W w' := by
  refine pages17 H ((pages35 mem r ps bt W h.mm hl).mono ?_)
  rintro e w' ⟨v, qs, rfl, ho, hc, hb⟩
  refine ⟨v, rfl, ⟨owns_slice3 ho, fun hne => ?_⟩, hb⟩
  obtain ⟨la, cap, e, hr⟩ := row_made hne ho hc
  refine ⟨la, cap, _, _, e, hr, lt_of_cell (hr.c0 0 hne), fun i hi => ?_⟩
  have t := hr.cs i hi 0 (by omega)
  exact lt_of_cell t
theorem pages16_any {w : World} {ps qs : List Pgd} {bt ct : Nat → Nat → Int} {v1 v2 : Value} (h1 : PgsV ps bt v1 w) (h2 : PgsV qs ct v2 w) (hl : ps.length = qs.length) (hl2 : ps.length ≤ 65536) (hk : ∀ i, i < ps.length → (ordP qs i).k = (ordP ps i).k ∧ (ordP qs i).p = (ordP ps i).p ∧ ∀ j, j < 4096 → ct (ordP qs i).g j = bt (ordP ps i).g j) : Calls Tryd.prog 16 #[v1, v2] w fun e w' => e = .returned (.bool true) ∧ Below w.heap.size w w' := by
  by_cases h0 : 0 < ps.length
  · obtain ⟨la, ca, g, c, rfl, r1, _⟩ := h1.2 h0
    obtain ⟨lb, cb, g', c', rfl, r2, _⟩ := h2.2 (by omega)
    rw [← hl] at r2 ⊢
    exact pages34 la 0 lb 0 ps.length ca cb _ _ _ g (fun _ => 0) c g' (fun _ => 0) c' w r1 (r2.congr (fun i hi => (hk i hi).1) (fun i hi => (hk i hi).2.1) (fun i hi j hj => (hk i hi).2.2 j hj)) hl2
  · have e : ps.length = 0 := by omega
    obtain ⟨a1, c1, rfl⟩ := h1.1
    obtain ⟨a2, c2, rfl⟩ := h2.1
    rw [← hl, e]
    exact (pages34_zero a1 a2 c1 c2 w).mono fun _ _ h => ⟨h.1, by rw [h.2]; exact Below.refl _ _⟩
end
section
open Go.RowKit Go.Shelf
/-- The cells of a case. -/
def cs4 (s : Sx) (ov pv iv : Value) (n : Int) : List Value := cl s ov ++ [pv, iv, .int .i64 n]
set_option maxRecDepth 20000 in
set_option maxHeartbeats 1000000 in
theorem parts4_out {L : List Value} {n more : Int} {w : World} (hT : Tab w) (h41 : L[41]? = some (.int .i64 n)) (ho : ¬ (0 ≤ n ∧ n ≤ 5000 ∧ 0 ≤ more ∧ more ≤ 5000)) : Calls Tryd.prog 4 #[.agg L.toArray, .int .i64 more] w fun e w' => e = .returned (.bool true) ∧ Below w.heap.size w w' := by
  have HS : Hid (∀ x, Calls Tryd.prog 11 #[] (w.alloc (.cells L.toArray x)) fun e w' => e = .returned (.bool true) ∧ Below w.heap.size w w') := fun x => (small11 _ (hT.below ((Below.refl _ w).alloc (Nat.le_refl _) _))).mono fun _ _ h => ⟨h.1, ((Below.refl _ w).alloc (Nat.le_refl _) _).trans (h.2.mono (by simp))⟩
  clear hT
  rcases (by omega : n < 0 ∨ (¬ n < 0 ∧ 5000 < n) ∨ ((¬ n < 0 ∧ ¬ 5000 < n) ∧ more < 0) ∨ ((¬ n < 0 ∧ ¬ 5000 < n) ∧ ¬ more < 0 ∧ 5000 < more)) with h | ⟨h1, h2⟩ | ⟨⟨h1, h2⟩, h3⟩ | ⟨⟨h1, h2⟩, h3, h4⟩
  all_goals
    clear ho
    go_enter Tryd.func4, Tryd.ntmps4
    go_wp2_with ((go_at_call 11; refine (HS.out _).mono ?_; rintro e w' ⟨rfl, hb⟩; have HB : Hid (Below w.heap.size w w') := hb; clear hb))
    go_ret
    exact ⟨rfl, HB.out⟩
theorem range_cl {w : World} {s : Sx} {ov pv iv : Value} {n : Int} {t : TypeId} : (w.alloc (.cells (cs4 s ov pv iv n).toArray t)).rangeAt w.heap.size 0 (cl s ov) := fun j v hv => by
  rw [Nat.zero_add]
  have hj : j < (cl s ov).length := (List.getElem?_eq_some_iff.1 hv).1
  have t : (cs4 s ov pv iv n)[j]? = some v := by unfold cs4; rw [List.getElem?_append_left hj]; exact hv
  simpa using t
set_option maxRecDepth 20000 in
set_option maxHeartbeats 1000000 in
theorem parts4_err {s : Sx} {a0 ai pa : Option Addr} {n0 c0 ni ci pl pc : Nat} {n more er : Int} {w : World} (hT : Tab w) (hb : 0 ≤ n ∧ n ≤ 5000 ∧ 0 ≤ more ∧ more ≤ 5000) (he : ¬ er = 0) (hN : ∀ W, Below w.heap.size w W → Calls Tryd.prog 12 #[.agg (cl s (.slice a0 n0 c0)).toArray, .slice pa pl pc, .slice ai ni ci] W fun e w' => e = .returned (.tuple #[.pointer none, .int .i64 er]) ∧ Below W.heap.size W w') : Calls Tryd.prog 4 #[.agg (cs4 s (.slice a0 n0 c0) (.slice pa pl pc) (.slice ai ni ci) n).toArray, .int .i64 more] w fun e w' => e = .returned (.bool true) ∧ Below w.heap.size w w' := by
  obtain ⟨h1, h2, h3, h4⟩ := hb
  have he1 : (er != 0) = true := by simpa using he
  have q39 : (cs4 s (.slice a0 n0 c0) (.slice pa pl pc) (.slice ai ni ci) n)[39]? = some (.slice pa pl pc) := rfl
  have q40 : (cs4 s (.slice a0 n0 c0) (.slice pa pl pc) (.slice ai ni ci) n)[40]? = some (.slice ai ni ci) := rfl
  have q41 : (cs4 s (.slice a0 n0 c0) (.slice pa pl pc) (.slice ai ni ci) n)[41]? = some (.int .i64 n) := rfl
  have HR : Hid ((w.alloc (.cells (cs4 s (.slice a0 n0 c0) (.slice pa pl pc) (.slice ai ni ci) n).toArray 40)).rangeAt w.heap.size 0 (cl s (.slice a0 n0 c0))) := range_cl
  have hl : Hid ((cl s (.slice a0 n0 c0)).length = 39) := rfl
  have HN : Hid (∀ W, Below w.heap.size w W → Calls Tryd.prog 12 #[.agg (cl s (.slice a0 n0 c0)).toArray, .slice pa pl pc, .slice ai ni ci] W fun e w' => e = .returned (.tuple #[.pointer none, .int .i64 er]) ∧ Below W.heap.size W w') := hN
  have HT : Hid (Tab w) := hT
  clear hN hT he
  generalize cs4 s (.slice a0 n0 c0) (.slice pa pl pc) (.slice ai ni ci) n = L at *
  generalize cl s (.slice a0 n0 c0) = C at *
  go_enter Tryd.func4, Tryd.ntmps4
  go_wp2_with (first | (refine wpList_load_guard rfl 37 _ rfl w.heap.size 0 rfl C _ HR.out Tryd.underlying37 rfl (by rw [hl.out]; exact info37) ?_) | fail)
  refine (HN.out _ ((Below.refl _ w).alloc (Nat.le_refl _) _)).mono ?_
  rintro e w1 ⟨rfl, hb⟩
  have HR1 : Hid (w1.rangeAt w.heap.size 0 C) := range_below HR.out hb (by simp)
  have k39 : w1.cell? ⟨w.heap.size, 39, none⟩ = some (.slice pa pl pc) := (hb.cell (p := ⟨w.heap.size, 39, none⟩) (by simp)).trans (by simp [q39])
  have k40 : w1.cell? ⟨w.heap.size, 40, none⟩ = some (.slice ai ni ci) := (hb.cell (p := ⟨w.heap.size, 40, none⟩) (by simp)).trans (by simp [q40])
  have HB1 : Hid (Below w.heap.size w w1) := ((Below.refl _ w).alloc (Nat.le_refl _) _).trans (hb.mono (by simp))
  have hz1 : w.heap.size < w1.heap.size := by have := hb.size; simp at this; omega
  clear hb
  go_wp2_with (first | (refine wpList_load_guard rfl 37 _ rfl w.heap.size 0 rfl C _ HR1.out Tryd.underlying37 rfl (by rw [hl.out]; exact info37) ?_) | fail)
  refine (HN.out _ HB1.out).mono ?_
  rintro e w2 ⟨rfl, hb⟩
  have HB2 : Hid (Below w.heap.size w w2) := HB1.out.trans (hb.mono HB1.out.size)
  clear hb
  go_wp2_with fail
  refine (small11 _ (HT.out.below HB2.out)).mono ?_
  rintro e w3 ⟨rfl, hb⟩
  have HB3 : Hid (Below w.heap.size w w3) := HB2.out.trans (hb.mono HB2.out.size)
  clear hb
  go_wp2
  go_ret
  exact ⟨rfl, HB3.out⟩
end
end Go.Proofs.YtnmpbihpoefeoaaDoor
