/- Of a memory: From and Fetch (MB). -/
import Derived.Test.YtnmpbihpoefeoaaDoorMA
namespace Go.Proofs.YtnmpbihpoefeoaaDoor
open Go.RowKit Go.Shelf
/-- The Base of the piece i. -/
def pB (a : Int) (i : Nat) : Int := bs a + 4096 * (i : Int)
/-- Where the piece i begins. -/
def pl (a : Int) (i : Nat) : Int := max a (pB a i)
def pO (a : Int) (i : Nat) : Nat := (pl a i - pB a i).toNat
def pL (a n : Int) (i : Nat) : Nat := (min (pB a (i + 1)) (a + n) - pl a i).toNat
/-- Where i pieces end. -/
def pE (a n : Int) (i : Nat) : Int := min (pl a i) (a + n)
def pieceOf (a n : Int) (X : Nat → Pgd) (i : Nat) : Array Value := #[.slice (some ⟨(X i).g, pO a i, none⟩) (pL a n i) ((X i).c - pO a i)]
theorem p_facts {a n : Int} {i : Nat} (a0 : 0 ≤ a) (h : pl a i < a + n) : ∃ (q : Int) (o L : Nat), pB a i = q ∧ pl a i = q + o ∧ pO a i = o ∧ o < 4096 ∧ 0 ≤ q ∧ q % 4096 = 0 ∧ pE a n i = q + o ∧ a + n = q + o + L ∧ 0 < L ∧ pL a n i = min L (4096 - o) ∧ pE a n (i + 1) = q + o + (min L (4096 - o) : Nat) := by
  obtain ⟨f0, f1, f2, f3⟩ := bs_facts a0
  unfold pl pB at h
  refine ⟨bs a + 4096 * (i : Int), (max a (bs a + 4096 * (i : Int)) - (bs a + 4096 * (i : Int))).toNat, (a + n - max a (bs a + 4096 * (i : Int))).toNat, rfl, ?_⟩
  unfold pE pL pO pl pB
  rcases (by omega : (i : Int) = 0 ∨ 1 ≤ (i : Int)) with hi | hi <;> omega
theorem take_fin (m i : Nat) (h : i < m) : (List.finRange m).take (i + 1) = (List.finRange m).take i ++ [⟨i, h⟩] := by
  rw [List.take_succ_eq_append_getElem (by simpa using h)]
  simp
set_option maxRecDepth 100000 in
set_option maxHeartbeats 2000000 in
theorem runs_any (n0 b r A N M : Nat) (ps : List Pgd) (a n : Int) (m : Nat) (X : Nat → Pgd) (w : World) (hn : 2 ≤ n0) (hc0 : w.cell? ⟨b, 0, none⟩ = some (.map (some r))) (hr0 : w.heap[r]? = some (.map (entsFrom 0 ps).toArray ps.length)) (hA : A < w.heap.size) (hN : N < w.heap.size) (hM : M < w.heap.size)
    (ha : w.cell? ⟨A, 0, none⟩ = some (.int .u64 a)) (hno : w.cell? ⟨N, 0, none⟩ = some (.int .i64 n)) (hm : w.cell? ⟨M, 0, none⟩ = some (.pointer (some ⟨b, 0, none⟩)))
    (a0 : 0 ≤ a) (n0' : 0 ≤ n) (h48 : a + n ≤ 281474976710656) (hmm : ∀ i, i < m ↔ pl a i < a + n) (hX : ∀ i, i < m → pg ps (pB a i) = some (X i)) (hcap : ∀ i, i < m → 4096 ≤ (X i).c) :
    SeqStopsK Fence.wide n0 Tryd.prog 84 #[.pointer (some ⟨A, 0, none⟩), .pointer (some ⟨N, 0, none⟩), .pointer (some ⟨M, 0, none⟩)] (fun x : Fin m => pieceOf a n X x.1) (Keep b r M) (fun ys => ys = List.finRange m) (fun _ => True) m w := fun l J Jx W hW hJ hJx hY h0 => by
  have h1 : W.cell? ⟨A, 0, none⟩ = some (.int .u64 a) := (hW.cell (p := ⟨A, 0, none⟩) hA).trans ha
  have h2 : W.cell? ⟨N, 0, none⟩ = some (.int .i64 n) := (hW.cell (p := ⟨N, 0, none⟩) hN).trans hno
  have h3 : W.cell? ⟨M, 0, none⟩ = some (.pointer (some ⟨b, 0, none⟩)) := (hW.cell (p := ⟨M, 0, none⟩) hM).trans hm
  have HM : Hid (W.cell? ⟨M, 0, none⟩ = some (.pointer (some ⟨b, 0, none⟩))) := h3
  have HC : Hid (W.cell? ⟨b, 0, none⟩ = some (.map (some r))) := (hW.cell (p := ⟨b, 0, none⟩) (lt_of_cell hc0)).trans hc0
  have HR : Hid (W.heap[r]? = some (.map (entsFrom 0 ps).toArray ps.length)) := (hW.block r (lt_of_some hr0)).trans hr0
  have sM : M < W.heap.size := Nat.lt_of_lt_of_le hM hW.size
  have HJ : Hid (AbidesFrom W.heap.size J) := hJ
  have HY : Hid (∀ pre x W1, J pre W1 → pre.length < m → YieldAt Fence.wide (n0 - 1) Tryd.prog l (pieceOf a n X x.1) W1 fun e W' => (e = .returned (.bool true) ∧ J (pre ++ [x]) W' ∧ Keep b r M W1 W') ∨ (e = .returned (.bool false) ∧ Jx (pre ++ [x]) W')) := hY
  have H0 : Hid (J [] W) := h0
  have HF : Hid (∀ i, i < m → pl a i < a + n) := fun i h => (hmm i).1 h
  have HG : Hid (∀ i, ¬ i < m → ¬ pl a i < a + n) := fun i h => fun k => h ((hmm i).2 k)
  have HP : Hid (∀ i, i < m → pg ps (pB a i) = some (X i) ∧ 4096 ≤ (X i).c) := fun i h => ⟨hX i h, hcap i h⟩
  clear hJ hJx hY h0 ha hno hm hW h3 hc0 hr0 hmm hX hcap
  refine callsIn_of_wp Tryd.func84 rfl trivial ?_ rfl
  simp only [Tryd.ntmps84, List.size_toArray, List.length_cons, List.length_nil, Nat.reduceAdd, Nat.reduceSub, Array.replicate_succ, Array.replicate_zero, List.push_toArray, List.append_toArray, List.nil_append, List.cons_append]
  gi_wp2_with fail
  refine wpIn_wide.2 ?_
  go_quiet (fail)
  gi_wp2_with fail
  gi_loopw [5, 6] (fun x y wr => Keep b r M W wr ∧ ∃ i, i ≤ m ∧ x = .int .u64 (pE a n i) ∧ y = .int .i64 (a + n - pE a n i) ∧ J ((List.finRange m).take i) wr) (fun _ y _ => (intOf y).toNat)
  case atStart =>
    have e0 : pE a n 0 = a := by have := bs_facts a0; unfold pE pl pB; simp only [Int.natCast_zero]; omega
    exact ⟨⟨rfl, rfl, rfl, Nat.le_refl _⟩, 0, Nat.zero_le _, by rw [e0], by rw [e0]; congr 1; omega, HJ.out _ _ _ none H0.out ⟨rfl, rfl, rfl, Nat.le_refl _, fun _ _ _ => rfl⟩ (by intro j h; cases h)⟩
  case round =>
    obtain ⟨hk, i, him, rfl, rfl, hj⟩ := hrel
    have u1 : wr.cell? ⟨M, 0, none⟩ = some (.pointer (some ⟨b, 0, none⟩)) := hk.2.2.1.trans HM.out
    have u2 : wr.cell? ⟨b, 0, none⟩ = some (.map (some r)) := hk.2.1.trans HC.out
    have u3 : wr.heap[r]? = some (.map (entsFrom 0 ps).toArray ps.length) := hk.1.trans HR.out
    have u4 : b < wr.heap.size := lt_of_cell u2
    have u5 : M < wr.heap.size := lt_of_cell u1
    have HK : Hid (Keep b r M W wr) := hk
    have HJ1 : Hid (J ((List.finRange m).take i) wr) := hj
    clear hk hj
    by_cases hlt : i < m
    · obtain ⟨q, o, L, k1, k2, k3, k4, k5, k6, k7, k8, k9, k10, k11⟩ := p_facts (n := n) (i := i) a0 (HF.out i hlt)
      have HQ : Hid (pE a n (i + 1) = q + o + (min L (4096 - o) : Nat)) := k11
      have HQ2 : Hid (pieceOf a n X i = #[.slice (some ⟨(X i).g, o, none⟩) (min L (4096 - o)) ((X i).c - o)]) := (by unfold pieceOf; rw [k3, k10] : pieceOf a n X i = #[.slice (some ⟨(X i).g, o, none⟩) (min L (4096 - o)) ((X i).c - o)])
      have HQ3 : Hid (pg ps q = some (X i) ∧ 4096 ≤ (X i).c) := k1 ▸ HP.out i hlt
      rw [k7, show a + n - (q + (o : Int)) = (L : Int) by omega]
      clear k1 k2 k3 k10 k11 k7
      have HPg : Hid (∀ W1, Below wr.heap.size wr W1 → Calls Tryd.prog 83 #[.pointer (some ⟨b, 0, none⟩), .int .u64 q] W1 fun e w' => e = .returned (.tuple #[.agg #[.int .u64 q, .int .i64 (X i).p, .slice (some ⟨(X i).g, 0, none⟩) 4096 (X i).c], .bool true]) ∧ Below wr.heap.size wr w' ∧ w'.cell? ⟨M, 0, none⟩ = some (.pointer (some ⟨b, 0, none⟩)) ∧ M < w'.heap.size ∧ (∀ x o, x < W1.heap.size → w'.cell? ⟨x, o, none⟩ = W1.cell? ⟨x, o, none⟩) ∧ (∀ x o, x < W1.heap.size → w'.frozen? ⟨x, o, none⟩ = W1.frozen? ⟨x, o, none⟩)) := fun W1 hb => (page_some_of (b := b) (r := r) (ps := ps) ((hb.cell (p := ⟨b, 0, none⟩) u4).trans u2) ((hb.block r (lt_of_some u3)).trans u3) HQ3.out.1).mono fun e w' ⟨he, hb'⟩ => by have hb2 := hb.trans (hb'.mono hb.size); exact ⟨he, hb2, (hb2.cell (p := ⟨M, 0, none⟩) u5).trans u1, Nat.lt_of_lt_of_le u5 hb2.size, fun x o hx => hb'.cell (p := ⟨x, o, none⟩) hx, fun x o hx => hb'.frozen (p := ⟨x, o, none⟩) hx⟩
      have HBs : Hid (∀ W1, Calls Tryd.prog 82 #[.int .u64 (q + o)] W1 fun e w' => e = .returned (.int .u64 q) ∧ w' = W1) := fun W1 => by have t := base36 (q + o) (by omega) (by omega) W1; rw [show q + (o : Int) - (q + o) % 4096 = q by omega] at t; exact t
      have e6 : ¬ wr.heap.size = M := by omega
      have e7 : ¬ M = wr.heap.size := by omega
      have HE : Hid (r < wr.heap.size ∧ b < wr.heap.size ∧ M < wr.heap.size) := ⟨lt_of_some u3, u4, u5⟩
      generalize X i = x at *
      clear u2 u3
      obtain ⟨xp, g, c, hxp, hxg, hxc⟩ : ∃ xp g c, x.p = xp ∧ x.g = g ∧ x.c = c := ⟨_, _, _, rfl, rfl, rfl⟩
      rw [hxp, hxg, hxc] at HPg
      rw [hxg, hxc] at HQ2
      have hc1 : 4096 ≤ c := hxc ▸ HQ3.out.2
      obtain ⟨K, hK⟩ : ∃ K : Nat, 4096 - o = K := ⟨_, rfl⟩
      rw [hK] at HQ2 HQ
      have hsub : q + (o : Int) - q = (o : Int) := by omega
      have hK1 : 0 < K := by omega
      have hK2 : K ≤ c - o := by omega
      have hK3 : ¬ c = o := by omega
      have hK4 : ¬ c < o := by omega
      clear HQ3 hxp hxg hxc
      gi_wp2_with fail
      refine wpIn_wide.2 ?_
      go_region_held3 (fun w' => w'.cell? ⟨M, 0, none⟩ = some (.pointer (some ⟨b, 0, none⟩)) ∧ M < w'.heap.size) (first | (go_keep; done) | (refine ⟨?_, ?_⟩ <;> (first | (go_keep; done) | assumption | (simp; done) | (simp; omega) | (simp; assumption))))
        (first | (go_at_call 82; refine (HBs.out _).mono ?_; rintro e w3 ⟨rfl, q3⟩; subst q3) | (go_at_call 83; refine (HPg.out _ (by first | exact Below.refl _ _ | exact (Below.refl _ _).drew | exact ((Below.refl _ _).alloc (Nat.le_refl _) _) | exact ((Below.refl _ _).alloc (Nat.le_refl _) _).drew | exact (((Below.refl _ _).drew).alloc (Nat.le_refl _) _))).mono ?_; rintro e w4 ⟨rfl, hb4, _z1, _z3, _z4, _z5⟩; have _z6 := hb4.size; have _hb4 : Hid (Below wr.heap.size wr w4) := hb4; clear hb4))
      · have hbx : Below wr.heap.size wr (w4.alloc (.cells #[.int .u64 q, .int .i64 xp, .slice (some ⟨g, 0, none⟩) 4096 c] 51)) := _hb4.out.alloc _z6 _
        obtain ⟨fn, tmps, assign, body, hy, hR⟩ := HY.out _ ⟨i, hlt⟩ _ (HJ.out _ _ _ none HJ1.out (grown_of_below hbx) (by intro j h; cases h)) (by simp; omega)
        have HKx : Hid (Keep b r M W _) := HK.out.trans (Keep.below hbx HE.out.1 HE.out.2.1 HE.out.2.2)
        dsimp only at hy
        rw [HQ2.out] at hy
        clear hbx
        by_cases hLK : L ≤ K
        · rw [Nat.min_eq_left hLK] at hy
          have HQe : Hid (pE a n (i + 1) = q + o + (L : Int)) := by have t := HQ.out; rw [Nat.min_eq_left hLK] at t; exact t
          gi_wp2_with fail
          refine ⟨fun _ => by omega, ?_⟩
          refine hR.mono ?_
          rintro e W' (⟨rfl, hJ', hk'⟩ | ⟨rfl, hJx'⟩)
          · have HJ' : Hid (J ((List.finRange m).take i ++ [⟨i, hlt⟩]) W') := hJ'
            have HK' : Hid (Keep b r M W W') := HKx.out.trans hk'
            clear hJ' hk' HKx hy
            gi_wp2
            go_roundw
            case rel => exact ⟨HK'.out, i + 1, by omega, by rw [HQe.out], by rw [HQe.out]; congr 1; omega, (take_fin m i hlt) ▸ HJ'.out⟩
            case measure => simp [intOf]; omega
          · have HX' : Hid (Jx ((List.finRange m).take i ++ [⟨i, hlt⟩]) W') := hJx'
            clear hJx' HKx hy
            gi_wp2
            refine bodyPost_ret (results_none rfl _ _ _) rfl ?_
            exact ⟨⟨_, rfl⟩, .inr ⟨_, trivial, HX'.out⟩⟩
        · rw [Nat.min_eq_right (by omega)] at hy
          have HQe : Hid (pE a n (i + 1) = q + o + (K : Int)) := by have t := HQ.out; rw [Nat.min_eq_right (by omega)] at t; exact t
          gi_wp2_with fail
          refine ⟨fun _ => by omega, ?_⟩
          refine hR.mono ?_
          rintro e W' (⟨rfl, hJ', hk'⟩ | ⟨rfl, hJx'⟩)
          · have HJ' : Hid (J ((List.finRange m).take i ++ [⟨i, hlt⟩]) W') := hJ'
            have HK' : Hid (Keep b r M W W') := HKx.out.trans hk'
            clear hJ' hk' HKx hy
            gi_wp2
            go_roundw
            case rel => exact ⟨HK'.out, i + 1, by omega, by rw [HQe.out], by rw [HQe.out]; congr 1; omega, (take_fin m i hlt) ▸ HJ'.out⟩
            case measure => simp [intOf]; omega
          · have HX' : Hid (Jx ((List.finRange m).take i ++ [⟨i, hlt⟩]) W') := hJx'
            clear hJx' HKx hy
            gi_wp2
            refine bodyPost_ret (results_none rfl _ _ _) rfl ?_
            exact ⟨⟨_, rfl⟩, .inr ⟨_, trivial, HX'.out⟩⟩
      · have hbx : Below wr.heap.size wr (((w4.setCell ⟨wr.heap.size, 0, none⟩ (.int .u64 q)).setCell ⟨wr.heap.size, 1, none⟩ (.int .i64 xp)).setCell ⟨wr.heap.size, 2, none⟩ (.slice (some ⟨g, 0, none⟩) 4096 c)) := (((_hb4.out.setCell (p := ⟨wr.heap.size, 0, none⟩) (Nat.le_refl _) _).setCell (p := ⟨wr.heap.size, 1, none⟩) (Nat.le_refl _) _).setCell (p := ⟨wr.heap.size, 2, none⟩) (Nat.le_refl _) _)
        obtain ⟨fn, tmps, assign, body, hy, hR⟩ := HY.out _ ⟨i, hlt⟩ _ (HJ.out _ _ _ none HJ1.out (grown_of_below hbx) (by intro j h; cases h)) (by simp; omega)
        have HKx : Hid (Keep b r M W _) := HK.out.trans (Keep.below hbx HE.out.1 HE.out.2.1 HE.out.2.2)
        dsimp only at hy
        rw [HQ2.out] at hy
        clear hbx
        by_cases hLK : L ≤ K
        · rw [Nat.min_eq_left hLK] at hy
          have HQe : Hid (pE a n (i + 1) = q + o + (L : Int)) := by have t := HQ.out; rw [Nat.min_eq_left hLK] at t; exact t
          gi_wp2_with fail
          refine ⟨fun _ => by omega, ?_⟩
          refine hR.mono ?_
          rintro e W' (⟨rfl, hJ', hk'⟩ | ⟨rfl, hJx'⟩)
          · have HJ' : Hid (J ((List.finRange m).take i ++ [⟨i, hlt⟩]) W') := hJ'
            have HK' : Hid (Keep b r M W W') := HKx.out.trans hk'
            clear hJ' hk' HKx hy
            gi_wp2
            go_roundw
            case rel => exact ⟨HK'.out, i + 1, by omega, by rw [HQe.out], by rw [HQe.out]; congr 1; omega, (take_fin m i hlt) ▸ HJ'.out⟩
            case measure => simp [intOf]; omega
          · have HX' : Hid (Jx ((List.finRange m).take i ++ [⟨i, hlt⟩]) W') := hJx'
            clear hJx' HKx hy
            gi_wp2
            refine bodyPost_ret (results_none rfl _ _ _) rfl ?_
            exact ⟨⟨_, rfl⟩, .inr ⟨_, trivial, HX'.out⟩⟩
        · rw [Nat.min_eq_right (by omega)] at hy
          have HQe : Hid (pE a n (i + 1) = q + o + (K : Int)) := by have t := HQ.out; rw [Nat.min_eq_right (by omega)] at t; exact t
          gi_wp2_with fail
          refine ⟨fun _ => by omega, ?_⟩
          refine hR.mono ?_
          rintro e W' (⟨rfl, hJ', hk'⟩ | ⟨rfl, hJx'⟩)
          · have HJ' : Hid (J ((List.finRange m).take i ++ [⟨i, hlt⟩]) W') := hJ'
            have HK' : Hid (Keep b r M W W') := HKx.out.trans hk'
            clear hJ' hk' HKx hy
            gi_wp2
            go_roundw
            case rel => exact ⟨HK'.out, i + 1, by omega, by rw [HQe.out], by rw [HQe.out]; congr 1; omega, (take_fin m i hlt) ▸ HJ'.out⟩
            case measure => simp [intOf]; omega
          · have HX' : Hid (Jx ((List.finRange m).take i ++ [⟨i, hlt⟩]) W') := hJx'
            clear hJx' HKx hy
            gi_wp2
            refine bodyPost_ret (results_none rfl _ _ _) rfl ?_
            exact ⟨⟨_, rfl⟩, .inr ⟨_, trivial, HX'.out⟩⟩
      · have hbx : Below wr.heap.size wr (((w4.setCell ⟨wr.heap.size, 0, none⟩ (.int .u64 q)).setCell ⟨wr.heap.size, 1, none⟩ (.int .i64 xp)).setCell ⟨wr.heap.size, 2, none⟩ (.slice (some ⟨g, 0, none⟩) 4096 c)) := (((_hb4.out.setCell (p := ⟨wr.heap.size, 0, none⟩) (Nat.le_refl _) _).setCell (p := ⟨wr.heap.size, 1, none⟩) (Nat.le_refl _) _).setCell (p := ⟨wr.heap.size, 2, none⟩) (Nat.le_refl _) _)
        obtain ⟨fn, tmps, assign, body, hy, hR⟩ := HY.out _ ⟨i, hlt⟩ _ (HJ.out _ _ _ none HJ1.out (grown_of_below hbx) (by intro j h; cases h)) (by simp; omega)
        have HKx : Hid (Keep b r M W _) := HK.out.trans (Keep.below hbx HE.out.1 HE.out.2.1 HE.out.2.2)
        dsimp only at hy
        rw [HQ2.out] at hy
        clear hbx
        by_cases hLK : L ≤ K
        · rw [Nat.min_eq_left hLK] at hy
          have HQe : Hid (pE a n (i + 1) = q + o + (L : Int)) := by have t := HQ.out; rw [Nat.min_eq_left hLK] at t; exact t
          gi_wp2_with fail
          refine ⟨fun _ => by omega, ?_⟩
          refine hR.mono ?_
          rintro e W' (⟨rfl, hJ', hk'⟩ | ⟨rfl, hJx'⟩)
          · have HJ' : Hid (J ((List.finRange m).take i ++ [⟨i, hlt⟩]) W') := hJ'
            have HK' : Hid (Keep b r M W W') := HKx.out.trans hk'
            clear hJ' hk' HKx hy
            gi_wp2
            go_roundw
            case rel => exact ⟨HK'.out, i + 1, by omega, by rw [HQe.out], by rw [HQe.out]; congr 1; omega, (take_fin m i hlt) ▸ HJ'.out⟩
            case measure => simp [intOf]; omega
          · have HX' : Hid (Jx ((List.finRange m).take i ++ [⟨i, hlt⟩]) W') := hJx'
            clear hJx' HKx hy
            gi_wp2
            refine bodyPost_ret (results_none rfl _ _ _) rfl ?_
            exact ⟨⟨_, rfl⟩, .inr ⟨_, trivial, HX'.out⟩⟩
        · rw [Nat.min_eq_right (by omega)] at hy
          have HQe : Hid (pE a n (i + 1) = q + o + (K : Int)) := by have t := HQ.out; rw [Nat.min_eq_right (by omega)] at t; exact t
          gi_wp2_with fail
          refine ⟨fun _ => by omega, ?_⟩
          refine hR.mono ?_
          rintro e W' (⟨rfl, hJ', hk'⟩ | ⟨rfl, hJx'⟩)
          · have HJ' : Hid (J ((List.finRange m).take i ++ [⟨i, hlt⟩]) W') := hJ'
            have HK' : Hid (Keep b r M W W') := HKx.out.trans hk'
            clear hJ' hk' HKx hy
            gi_wp2
            go_roundw
            case rel => exact ⟨HK'.out, i + 1, by omega, by rw [HQe.out], by rw [HQe.out]; congr 1; omega, (take_fin m i hlt) ▸ HJ'.out⟩
            case measure => simp [intOf]; omega
          · have HX' : Hid (Jx ((List.finRange m).take i ++ [⟨i, hlt⟩]) W') := hJx'
            clear hJx' HKx hy
            gi_wp2
            refine bodyPost_ret (results_none rfl _ _ _) rfl ?_
            exact ⟨⟨_, rfl⟩, .inr ⟨_, trivial, HX'.out⟩⟩
    · obtain rfl : i = m := by omega
      have e0 : pE a n i = a + n := by have := HG.out i hlt; unfold pE; omega
      rw [e0, show a + n - (a + n) = 0 by omega]
      gi_wp2
      go_end0
      exact ⟨⟨_, rfl⟩, .inl ⟨_, rfl, by have t := HJ1.out; rwa [List.take_of_length_le (by simp)] at t⟩⟩
end Go.Proofs.YtnmpbihpoefeoaaDoor
