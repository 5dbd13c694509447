/- Of a memory: From and Fetch (MB). Of a memory: From and Fetch (MC). Of a memory: From and Fetch (MD). -/
import Derived.Test.YtnmpbihpoefeoaaDoorMA
namespace Go.Proofs.YtnmpbihpoefeoaaDoor
section
open Go.RowKit Go.Shelf
/-- The Base of the piece i. -/
def pB (a : Int) (i : Nat) : Int := bs a + 4096 * (i : Int)
/-- Where the piece i begins. -/
def pl (a : Int) (i : Nat) : Int := max a (pB a i)
def pO (a : Int) (i : Nat) : Nat := (pl a i - pB a i).toNat
def pL (a n : Int) (i : Nat) : Nat := (min (pB a (i + 1)) (a + n) - pl a i).toNat
/-- Where i pieces end. -/
def pE (a n : Int) (i : Nat) : Int := min (pl a i) (a + n)
def pieceOf (a n : Int) (X : Nat → Pgd) (i : Nat) : Array Value := #[.slice (some ⟨(X i).g, pO a i, none⟩) (pL a n i) ((X i).c - pO a i)]
theorem p_facts {a n : Int} {i : Nat} (a0 : 0 ≤ a) (h : pl a i < a + n) : ∃ (q : Int) (o L : Nat), pB a i = q ∧ pl a i = q + o ∧ pO a i = o ∧ o < 4096 ∧ 0 ≤ q ∧ q % 4096 = 0 ∧ pE a n i = q + o ∧ a + n = q + o + L ∧ 0 < L ∧ pL a n i = min L (4096 - o) ∧ pE a n (i + 1) = q + o + (min L (4096 - o) : Nat) := by
  obtain ⟨f0, f1, f2, f3⟩ := bs_facts a0
  unfold pl pB at h
  refine ⟨bs a + 4096 * (i : Int), (max a (bs a + 4096 * (i : Int)) - (bs a + 4096 * (i : Int))).toNat, (a + n - max a (bs a + 4096 * (i : Int))).toNat, rfl, ?_⟩
  unfold pE pL pO pl pB
  rcases (by omega : (i : Int) = 0 ∨ 1 ≤ (i : Int)) with hi | hi <;> omega
theorem take_fin (m i : Nat) (h : i < m) : (List.finRange m).take (i + 1) = (List.finRange m).take i ++ [⟨i, h⟩] := by
  rw [List.take_succ_eq_append_getElem (by simpa using h)]
  simp
set_option maxRecDepth 100000 in
set_option maxHeartbeats 2000000 in
theorem runs_any (n0 b r A N M : Nat) (ps : List Pgd) (a n : Int) (m : Nat) (X : Nat → Pgd) (w : World) (hn : 2 ≤ n0) (hc0 : w.cell? ⟨b, 0, none⟩ = some (.map (some r))) (hr0 : w.heap[r]? = some (.map (entsFrom 0 ps).toArray ps.length)) (hA : A < w.heap.size) (hN : N < w.heap.size) (hM : M < w.heap.size)
    (ha : w.cell? ⟨A, 0, none⟩ = some (.int .u64 a)) (hno : w.cell? ⟨N, 0, none⟩ = some (.int .i64 n)) (hm : w.cell? ⟨M, 0, none⟩ = some (.pointer (some ⟨b, 0, none⟩)))
    (a0 : 0 ≤ a) (n0' : 0 ≤ n) (h48 : a + n ≤ 281474976710656) (hmm : ∀ i, i < m ↔ pl a i < a + n) (hX : ∀ i, i < m → pg ps (pB a i) = some (X i)) (hcap : ∀ i, i < m → 4096 ≤ (X i).c) :
    SeqStopsK Fence.wide n0 Tryd.prog 84 #[.pointer (some ⟨A, 0, none⟩), .pointer (some ⟨N, 0, none⟩), .pointer (some ⟨M, 0, none⟩)] (fun x : Fin m => pieceOf a n X x.1) (Keep b r M) (fun ys => ys = List.finRange m) (fun _ => True) m w := fun l J Jx W hW hJ hJx hY h0 => by
  have h1 : W.cell? ⟨A, 0, none⟩ = some (.int .u64 a) := (hW.cell (p := ⟨A, 0, none⟩) hA).trans ha
  have h2 : W.cell? ⟨N, 0, none⟩ = some (.int .i64 n) := (hW.cell (p := ⟨N, 0, none⟩) hN).trans hno
  have h3 : W.cell? ⟨M, 0, none⟩ = some (.pointer (some ⟨b, 0, none⟩)) := (hW.cell (p := ⟨M, 0, none⟩) hM).trans hm
  have HM : Hid (W.cell? ⟨M, 0, none⟩ = some (.pointer (some ⟨b, 0, none⟩))) := h3
  have HC : Hid (W.cell? ⟨b, 0, none⟩ = some (.map (some r))) := (hW.cell (p := ⟨b, 0, none⟩) (lt_of_cell hc0)).trans hc0
  have HR : Hid (W.heap[r]? = some (.map (entsFrom 0 ps).toArray ps.length)) := (hW.block r (lt_of_some hr0)).trans hr0
  have sM : M < W.heap.size := Nat.lt_of_lt_of_le hM hW.size
  have HJ : Hid (AbidesFrom W.heap.size J) := hJ
  have HY : Hid (∀ pre x W1, J pre W1 → pre.length < m → YieldAt Fence.wide (n0 - 1) Tryd.prog l (pieceOf a n X x.1) W1 fun e W' => (e = .returned (.bool true) ∧ J (pre ++ [x]) W' ∧ Keep b r M W1 W') ∨ (e = .returned (.bool false) ∧ Jx (pre ++ [x]) W')) := hY
  have H0 : Hid (J [] W) := h0
  have HF : Hid (∀ i, i < m → pl a i < a + n) := fun i h => (hmm i).1 h
  have HG : Hid (∀ i, ¬ i < m → ¬ pl a i < a + n) := fun i h => fun k => h ((hmm i).2 k)
  have HP : Hid (∀ i, i < m → pg ps (pB a i) = some (X i) ∧ 4096 ≤ (X i).c) := fun i h => ⟨hX i h, hcap i h⟩
  clear hJ hJx hY h0 ha hno hm hW h3 hc0 hr0 hmm hX hcap
  refine callsIn_of_wp Tryd.func84 rfl trivial ?_ rfl
  simp only [Tryd.ntmps84, List.size_toArray, List.length_cons, List.length_nil, Nat.reduceAdd, Nat.reduceSub, Array.replicate_succ, Array.replicate_zero, List.push_toArray, List.append_toArray, List.nil_append, List.cons_append]
  gi_wp2_with fail
  refine wpIn_wide.2 ?_
  go_quiet (fail)
  gi_wp2_with fail
  gi_loopw [5, 6] (fun x y wr => Keep b r M W wr ∧ ∃ i, i ≤ m ∧ x = .int .u64 (pE a n i) ∧ y = .int .i64 (a + n - pE a n i) ∧ J ((List.finRange m).take i) wr) (fun _ y _ => (intOf y).toNat)
  case atStart =>
    have e0 : pE a n 0 = a := by have := bs_facts a0; unfold pE pl pB; simp only [Int.natCast_zero]; omega
    exact ⟨⟨rfl, rfl, rfl, Nat.le_refl _⟩, 0, Nat.zero_le _, by rw [e0], by rw [e0]; congr 1; omega, HJ.out _ _ _ none H0.out ⟨rfl, rfl, rfl, Nat.le_refl _, fun _ _ _ => rfl⟩ (by intro j h; cases h)⟩
  case round =>
    obtain ⟨hk, i, him, rfl, rfl, hj⟩ := hrel
    have u1 : wr.cell? ⟨M, 0, none⟩ = some (.pointer (some ⟨b, 0, none⟩)) := hk.2.2.1.trans HM.out
    have u2 : wr.cell? ⟨b, 0, none⟩ = some (.map (some r)) := hk.2.1.trans HC.out
    have u3 : wr.heap[r]? = some (.map (entsFrom 0 ps).toArray ps.length) := hk.1.trans HR.out
    have u4 : b < wr.heap.size := lt_of_cell u2
    have u5 : M < wr.heap.size := lt_of_cell u1
    have HK : Hid (Keep b r M W wr) := hk
    have HJ1 : Hid (J ((List.finRange m).take i) wr) := hj
    clear hk hj
    by_cases hlt : i < m
    · obtain ⟨q, o, L, k1, k2, k3, k4, k5, k6, k7, k8, k9, k10, k11⟩ := p_facts (n := n) (i := i) a0 (HF.out i hlt)
      have HQ : Hid (pE a n (i + 1) = q + o + (min L (4096 - o) : Nat)) := k11
      have HQ2 : Hid (pieceOf a n X i = #[.slice (some ⟨(X i).g, o, none⟩) (min L (4096 - o)) ((X i).c - o)]) := (by unfold pieceOf; rw [k3, k10] : pieceOf a n X i = #[.slice (some ⟨(X i).g, o, none⟩) (min L (4096 - o)) ((X i).c - o)])
      have HQ3 : Hid (pg ps q = some (X i) ∧ 4096 ≤ (X i).c) := k1 ▸ HP.out i hlt
      rw [k7, show a + n - (q + (o : Int)) = (L : Int) by omega]
      clear k1 k2 k3 k10 k11 k7
      have HPg : Hid (∀ W1, Below wr.heap.size wr W1 → Calls Tryd.prog 83 #[.pointer (some ⟨b, 0, none⟩), .int .u64 q] W1 fun e w' => e = .returned (.tuple #[.agg #[.int .u64 q, .int .i64 (X i).p, .slice (some ⟨(X i).g, 0, none⟩) 4096 (X i).c], .bool true]) ∧ Below wr.heap.size wr w' ∧ w'.cell? ⟨M, 0, none⟩ = some (.pointer (some ⟨b, 0, none⟩)) ∧ M < w'.heap.size ∧ (∀ x o, x < W1.heap.size → w'.cell? ⟨x, o, none⟩ = W1.cell? ⟨x, o, none⟩) ∧ (∀ x o, x < W1.heap.size → w'.frozen? ⟨x, o, none⟩ = W1.frozen? ⟨x, o, none⟩)) := fun W1 hb => (page_some_of (b := b) (r := r) (ps := ps) ((hb.cell (p := ⟨b, 0, none⟩) u4).trans u2) ((hb.block r (lt_of_some u3)).trans u3) HQ3.out.1).mono fun e w' ⟨he, hb'⟩ => by have hb2 := hb.trans (hb'.mono hb.size); exact ⟨he, hb2, (hb2.cell (p := ⟨M, 0, none⟩) u5).trans u1, Nat.lt_of_lt_of_le u5 hb2.size, fun x o hx => hb'.cell (p := ⟨x, o, none⟩) hx, fun x o hx => hb'.frozen (p := ⟨x, o, none⟩) hx⟩
      have HBs : Hid (∀ W1, Calls Tryd.prog 82 #[.int .u64 (q + o)] W1 fun e w' => e = .returned (.int .u64 q) ∧ w' = W1) := fun W1 => by have t := base36 (q + o) (by omega) (by omega) W1; rw [show q + (o : Int) - (q + o) % 4096 = q by omega] at t; exact t
      have e6 : ¬ wr.heap.size = M := by omega
      have e7 : ¬ M = wr.heap.size := by omega
      have HE : Hid (r < wr.heap.size ∧ b < wr.heap.size ∧ M < wr.heap.size) := ⟨lt_of_some u3, u4, u5⟩
      generalize X i = x at *
      clear u2 u3
      obtain ⟨xp, g, c, hxp, hxg, hxc⟩ : ∃ xp g c, x.p = xp ∧ x.g = g ∧ x.c = c := ⟨_, _, _, rfl, rfl, rfl⟩
      rw [hxp, hxg, hxc] at HPg
      rw [hxg, hxc] at HQ2
      have hc1 : 4096 ≤ c := hxc ▸ HQ3.out.2
      obtain ⟨K, hK⟩ : ∃ K : Nat, 4096 - o = K := ⟨_, rfl⟩
      rw [hK] at HQ2 HQ
      have hsub : q + (o : Int) - q = (o : Int) := by omega
      have hK1 : 0 < K := by omega
      have hK2 : K ≤ c - o := by omega
      have hK3 : ¬ c = o := by omega
      have hK4 : ¬ c < o := by omega
      clear HQ3 hxp hxg hxc
      gi_wp2_with fail
      refine wpIn_wide.2 ?_
      go_region_held3 (fun w' => w'.cell? ⟨M, 0, none⟩ = some (.pointer (some ⟨b, 0, none⟩)) ∧ M < w'.heap.size) (first | (go_keep; done) | (refine ⟨?_, ?_⟩ <;> (first | (go_keep; done) | assumption | (simp; done) | (simp; omega) | (simp; assumption))))
        (first | (go_at_call 82; refine (HBs.out _).mono ?_; rintro e w3 ⟨rfl, q3⟩; subst q3) | (go_at_call 83; refine (HPg.out _ (by first | exact Below.refl _ _ | exact (Below.refl _ _).drew | exact ((Below.refl _ _).alloc (Nat.le_refl _) _) | exact ((Below.refl _ _).alloc (Nat.le_refl _) _).drew | exact (((Below.refl _ _).drew).alloc (Nat.le_refl _) _))).mono ?_; rintro e w4 ⟨rfl, hb4, _z1, _z3, _z4, _z5⟩; have _z6 := hb4.size; have _hb4 : Hid (Below wr.heap.size wr w4) := hb4; clear hb4))
      · have hbx : Below wr.heap.size wr (w4.alloc (.cells #[.int .u64 q, .int .i64 xp, .slice (some ⟨g, 0, none⟩) 4096 c] 51)) := _hb4.out.alloc _z6 _
        obtain ⟨fn, tmps, assign, body, hy, hR⟩ := HY.out _ ⟨i, hlt⟩ _ (HJ.out _ _ _ none HJ1.out (grown_of_below hbx) (by intro j h; cases h)) (by simp; omega)
        have HKx : Hid (Keep b r M W _) := HK.out.trans (Keep.below hbx HE.out.1 HE.out.2.1 HE.out.2.2)
        dsimp only at hy
        rw [HQ2.out] at hy
        clear hbx
        by_cases hLK : L ≤ K
        · rw [Nat.min_eq_left hLK] at hy
          have HQe : Hid (pE a n (i + 1) = q + o + (L : Int)) := by have t := HQ.out; rw [Nat.min_eq_left hLK] at t; exact t
          gi_wp2_with fail
          refine ⟨fun _ => by omega, ?_⟩
          refine hR.mono ?_
          rintro e W' (⟨rfl, hJ', hk'⟩ | ⟨rfl, hJx'⟩)
          · have HJ' : Hid (J ((List.finRange m).take i ++ [⟨i, hlt⟩]) W') := hJ'
            have HK' : Hid (Keep b r M W W') := HKx.out.trans hk'
            clear hJ' hk' HKx hy
            gi_wp2
            go_roundw
            case rel => exact ⟨HK'.out, i + 1, by omega, by rw [HQe.out], by rw [HQe.out]; congr 1; omega, (take_fin m i hlt) ▸ HJ'.out⟩
            case measure => simp [intOf]; omega
          · have HX' : Hid (Jx ((List.finRange m).take i ++ [⟨i, hlt⟩]) W') := hJx'
            clear hJx' HKx hy
            gi_wp2
            refine bodyPost_ret (results_none rfl _ _ _) rfl ?_
            exact ⟨⟨_, rfl⟩, .inr ⟨_, trivial, HX'.out⟩⟩
        · rw [Nat.min_eq_right (by omega)] at hy
          have HQe : Hid (pE a n (i + 1) = q + o + (K : Int)) := by have t := HQ.out; rw [Nat.min_eq_right (by omega)] at t; exact t
          gi_wp2_with fail
          refine ⟨fun _ => by omega, ?_⟩
          refine hR.mono ?_
          rintro e W' (⟨rfl, hJ', hk'⟩ | ⟨rfl, hJx'⟩)
          · have HJ' : Hid (J ((List.finRange m).take i ++ [⟨i, hlt⟩]) W') := hJ'
            have HK' : Hid (Keep b r M W W') := HKx.out.trans hk'
            clear hJ' hk' HKx hy
            gi_wp2
            go_roundw
            case rel => exact ⟨HK'.out, i + 1, by omega, by rw [HQe.out], by rw [HQe.out]; congr 1; omega, (take_fin m i hlt) ▸ HJ'.out⟩
            case measure => simp [intOf]; omega
          · have HX' : Hid (Jx ((List.finRange m).take i ++ [⟨i, hlt⟩]) W') := hJx'
            clear hJx' HKx hy
            gi_wp2
            refine bodyPost_ret (results_none rfl _ _ _) rfl ?_
            exact ⟨⟨_, rfl⟩, .inr ⟨_, trivial, HX'.out⟩⟩
      · have hbx : Below wr.heap.size wr (((w4.setCell ⟨wr.heap.size, 0, none⟩ (.int .u64 q)).setCell ⟨wr.heap.size, 1, none⟩ (.int .i64 xp)).setCell ⟨wr.heap.size, 2, none⟩ (.slice (some ⟨g, 0, none⟩) 4096 c)) := (((_hb4.out.setCell (p := ⟨wr.heap.size, 0, none⟩) (Nat.le_refl _) _).setCell (p := ⟨wr.heap.size, 1, none⟩) (Nat.le_refl _) _).setCell (p := ⟨wr.heap.size, 2, none⟩) (Nat.le_refl _) _)
        obtain ⟨fn, tmps, assign, body, hy, hR⟩ := HY.out _ ⟨i, hlt⟩ _ (HJ.out _ _ _ none HJ1.out (grown_of_below hbx) (by intro j h; cases h)) (by simp; omega)
        have HKx : Hid (Keep b r M W _) := HK.out.trans (Keep.below hbx HE.out.1 HE.out.2.1 HE.out.2.2)
        dsimp only at hy
        rw [HQ2.out] at hy
        clear hbx
        by_cases hLK : L ≤ K
        · rw [Nat.min_eq_left hLK] at hy
          have HQe : Hid (pE a n (i + 1) = q + o + (L : Int)) := by have t := HQ.out; rw [Nat.min_eq_left hLK] at t; exact t
          gi_wp2_with fail
          refine ⟨fun _ => by omega, ?_⟩
          refine hR.mono ?_
          rintro e W' (⟨rfl, hJ', hk'⟩ | ⟨rfl, hJx'⟩)
          · have HJ' : Hid (J ((List.finRange m).take i ++ [⟨i, hlt⟩]) W') := hJ'
            have HK' : Hid (Keep b r M W W') := HKx.out.trans hk'
            clear hJ' hk' HKx hy
            gi_wp2
            go_roundw
            case rel => exact ⟨HK'.out, i + 1, by omega, by rw [HQe.out], by rw [HQe.out]; congr 1; omega, (take_fin m i hlt) ▸ HJ'.out⟩
            case measure => simp [intOf]; omega
          · have HX' : Hid (Jx ((List.finRange m).take i ++ [⟨i, hlt⟩]) W') := hJx'
            clear hJx' HKx hy
            gi_wp2
            refine bodyPost_ret (results_none rfl _ _ _) rfl ?_
            exact ⟨⟨_, rfl⟩, .inr ⟨_, trivial, HX'.out⟩⟩
        · rw [Nat.min_eq_right (by omega)] at hy
          have HQe : Hid (pE a n (i + 1) = q + o + (K : Int)) := by have t := HQ.out; rw [Nat.min_eq_right (by omega)] at t; exact t
          gi_wp2_with fail
          refine ⟨fun _ => by omega, ?_⟩
          refine hR.mono ?_
          rintro e W' (⟨rfl, hJ', hk'⟩ | ⟨rfl, hJx'⟩)
          · have HJ' : Hid (J ((List.finRange m).take i ++ [⟨i, hlt⟩]) W') := hJ'
            have HK' : Hid (Keep b r M W W') := HKx.out.trans hk'
            clear hJ' hk' HKx hy
            gi_wp2
            go_roundw
            case rel => exact ⟨HK'.out, i + 1, by omega, by rw [HQe.out], by rw [HQe.out]; congr 1; omega, (take_fin m i hlt) ▸ HJ'.out⟩
            case measure => simp [intOf]; omega
          · have HX' : Hid (Jx ((List.finRange m).take i ++ [⟨i, hlt⟩]) W') := hJx'
            clear hJx' HKx hy
            gi_wp2
            refine bodyPost_ret (results_none rfl _ _ _) rfl ?_
            exact ⟨⟨_, rfl⟩, .inr ⟨_, trivial, HX'.out⟩⟩
      · have hbx : Below wr.heap.size wr (((w4.setCell ⟨wr.heap.size, 0, none⟩ (.int .u64 q)).setCell ⟨wr.heap.size, 1, none⟩ (.int .i64 xp)).setCell ⟨wr.heap.size, 2, none⟩ (.slice (some ⟨g, 0, none⟩) 4096 c)) := (((_hb4.out.setCell (p := ⟨wr.heap.size, 0, none⟩) (Nat.le_refl _) _).setCell (p := ⟨wr.heap.size, 1, none⟩) (Nat.le_refl _) _).setCell (p := ⟨wr.heap.size, 2, none⟩) (Nat.le_refl _) _)
        obtain ⟨fn, tmps, assign, body, hy, hR⟩ := HY.out _ ⟨i, hlt⟩ _ (HJ.out _ _ _ none HJ1.out (grown_of_below hbx) (by intro j h; cases h)) (by simp; omega)
        have HKx : Hid (Keep b r M W _) := HK.out.trans (Keep.below hbx HE.out.1 HE.out.2.1 HE.out.2.2)
        dsimp only at hy
        rw [HQ2.out] at hy
        clear hbx
        by_cases hLK : L ≤ K
        · rw [Nat.min_eq_left hLK] at hy
          have HQe : Hid (pE a n (i + 1) = q + o + (L : Int)) := by have t := HQ.out; rw [Nat.min_eq_left hLK] at t; exact t
          gi_wp2_with fail
          refine ⟨fun _ => by omega, ?_⟩
          refine hR.mono ?_
          rintro e W' (⟨rfl, hJ', hk'⟩ | ⟨rfl, hJx'⟩)
          · have HJ' : Hid (J ((List.finRange m).take i ++ [⟨i, hlt⟩]) W') := hJ'
            have HK' : Hid (Keep b r M W W') := HKx.out.trans hk'
            clear hJ' hk' HKx hy
            gi_wp2
            go_roundw
            case rel => exact ⟨HK'.out, i + 1, by omega, by rw [HQe.out], by rw [HQe.out]; congr 1; omega, (take_fin m i hlt) ▸ HJ'.out⟩
            case measure => simp [intOf]; omega
          · have HX' : Hid (Jx ((List.finRange m).take i ++ [⟨i, hlt⟩]) W') := hJx'
            clear hJx' HKx hy
            gi_wp2
            refine bodyPost_ret (results_none rfl _ _ _) rfl ?_
            exact ⟨⟨_, rfl⟩, .inr ⟨_, trivial, HX'.out⟩⟩
        · rw [Nat.min_eq_right (by omega)] at hy
          have HQe : Hid (pE a n (i + 1) = q + o + (K : Int)) := by have t := HQ.out; rw [Nat.min_eq_right (by omega)] at t; exact t
          gi_wp2_with fail
          refine ⟨fun _ => by omega, ?_⟩
          refine hR.mono ?_
          rintro e W' (⟨rfl, hJ', hk'⟩ | ⟨rfl, hJx'⟩)
          · have HJ' : Hid (J ((List.finRange m).take i ++ [⟨i, hlt⟩]) W') := hJ'
            have HK' : Hid (Keep b r M W W') := HKx.out.trans hk'
            clear hJ' hk' HKx hy
            gi_wp2
            go_roundw
            case rel => exact ⟨HK'.out, i + 1, by omega, by rw [HQe.out], by rw [HQe.out]; congr 1; omega, (take_fin m i hlt) ▸ HJ'.out⟩
            case measure => simp [intOf]; omega
          · have HX' : Hid (Jx ((List.finRange m).take i ++ [⟨i, hlt⟩]) W') := hJx'
            clear hJx' HKx hy
            gi_wp2
            refine bodyPost_ret (results_none rfl _ _ _) rfl ?_
            exact ⟨⟨_, rfl⟩, .inr ⟨_, trivial, HX'.out⟩⟩
    · obtain rfl : i = m := by omega
      have e0 : pE a n i = a + n := by have := HG.out i hlt; unfold pE; omega
      rw [e0, show a + n - (a + n) = 0 by omega]
      gi_wp2
      go_end0
      exact ⟨⟨_, rfl⟩, .inl ⟨_, rfl, by have t := HJ1.out; rwa [List.take_of_length_le (by simp)] at t⟩⟩
end
section
open Go.RowKit Go.Shelf
attribute [local go_sem] Oper.semAt_some
def runV (a n : Int) (X : Nat → Pgd) (i : Nat) : Value := .slice (some ⟨(X i).g, pO a i, none⟩) (pL a n i) ((X i).c - pO a i)
/-- The bytes of a piece. -/
def pBy (a n : Int) (X : Nat → Pgd) (bt : Nat → Nat → Int) (i : Nat) : List Int := (List.range (pL a n i)).map fun j => bt (X i).g (pO a i + j)
/-- A byte more, behind k. -/
def shB (k : Nat) (y : Int) : Int := IntKind.u64.wrap (y * 2 ^ (min (8 * k) 64))
def orB (v : Int) (k : Nat) (y : Int) : Int := bits .or .u64 v (shB k y)
def accS (l : List Int) : Int × Nat := l.foldl (fun p y => (orB p.1 p.2 y, p.2 + 1)) (0, 0)
def accV (l : List Int) : Int := (accS l).1
theorem accS_len (l : List Int) : (accS l).2 = l.length := by
  have : ∀ (l : List Int) (p : Int × Nat), (l.foldl (fun p y => (orB p.1 p.2 y, p.2 + 1)) p).2 = p.2 + l.length := by
    intro l
    induction l with
    | nil => intro p; simp
    | cons x r ih => intro p; rw [List.foldl_cons, ih]; simp; omega
  simpa [accS] using this l (0, 0)
theorem accV_snoc (l : List Int) (y : Int) : accV (l ++ [y]) = orB (accV l) l.length y := by
  unfold accV
  rw [← accS_len l]
  simp [accS, List.foldl_append]
theorem pL_le {a n : Int} {i : Nat} (a0 : 0 ≤ a) (h : pl a i < a + n) : (pL a n i : Int) ≤ n ∧ pO a i + pL a n i ≤ 4096 := by
  obtain ⟨q, o, L, k1, k2, k3, k4, k5, k6, k7, k8, k9, k10, k11⟩ := p_facts (n := n) (i := i) a0 h
  have : a ≤ pl a i := by unfold pl; omega
  rw [k10, k3]
  omega
theorem pBy_len (a n : Int) (X : Nat → Pgd) (bt : Nat → Nat → Int) (i : Nat) : (pBy a n X bt i).length = pL a n i := by simp [pBy]
set_option maxRecDepth 100000 in
set_option maxHeartbeats 2000000 in
theorem value_any (b r : Nat) (ps : List Pgd) (bt : Nat → Nat → Int) (a n : Int) (m : Nat) (X : Nat → Pgd) (w : World) (h : Mm w b r ps bt) (a0 : 0 ≤ a) (n0 : 1 ≤ n) (n1 : n ≤ 8) (h48 : a + n ≤ 281474976710656) (hmm : ∀ i, i < m ↔ pl a i < a + n) (hm2 : m ≤ 2) (hX : ∀ i, i < m → pg ps (pB a i) = some (X i)) : Calls Tryd.prog 56 #[.pointer (some ⟨b, 0, none⟩), .int .u64 a, .int .i64 n] w fun e w' => e = .returned (.int .u64 (accV ((List.finRange m).flatMap fun x => pBy a n X bt x.1))) ∧ Below w.heap.size w w' := by
  have HH : Hid (Mm w b r ps bt) := h
  have l1 := lt_of_some h.map
  have l2 := lt_of_cell h.cell
  clear h
  refine (callsIn_wide (n := 4)).1 ?_
  refine callsIn_of_wp_marks Tryd.func56 rfl trivial ?_ rfl
  simp only [Tryd.ntmps56, List.size_toArray, List.length_cons, List.length_nil, Nat.reduceAdd, Nat.reduceSub, Array.replicate_succ, Array.replicate_zero, List.push_toArray, List.append_toArray, List.nil_append, List.cons_append]
  gi_wp2_with (refine ⟨trivial, ?_⟩; gi_at_call 70; refine (callsIn_wide.2 (runs29 b a n _)).mono ?_; rintro e w' ⟨rfl, rfl⟩)
  obtain ⟨W0, hW0⟩ : ∃ W0, (((((w.alloc (.cells #[.int .u64 0] 22)).alloc (.cells #[.int .i64 0] 3)).alloc (.cells #[.pointer (some ⟨b, 0, none⟩)] 66)).alloc (.cells #[.int .u64 a] 22)).alloc (.cells #[.int .i64 n] 3)) = W0 := ⟨_, rfl⟩
  have b0 : Boxed W0 w.heap.size 22 (.int .u64 0) := by rw [← hW0]; exact (((((Boxed.new w 22 (.int .u64 0)).alloc _).alloc _).alloc _).alloc _)
  have b1 : Boxed W0 (w.heap.size + 1) 3 (.int .i64 0) := by rw [← hW0]; have := ((((Boxed.new (w.alloc (.cells #[.int .u64 0] 22)) 3 (.int .i64 0)).alloc (.cells #[.pointer (some ⟨b, 0, none⟩)] 66)).alloc (.cells #[.int .u64 a] 22)).alloc (.cells #[.int .i64 n] 3)); simpa using this
  have b2 : Boxed W0 (w.heap.size + 1 + 1) 66 (.pointer (some ⟨b, 0, none⟩)) := by rw [← hW0]; have := (((Boxed.new ((w.alloc (.cells #[.int .u64 0] 22)).alloc (.cells #[.int .i64 0] 3)) 66 (.pointer (some ⟨b, 0, none⟩))).alloc (.cells #[.int .u64 a] 22)).alloc (.cells #[.int .i64 n] 3)); simpa using this
  have b3 : Boxed W0 (w.heap.size + 1 + 1 + 1) 22 (.int .u64 a) := by rw [← hW0]; have := ((Boxed.new (((w.alloc (.cells #[.int .u64 0] 22)).alloc (.cells #[.int .i64 0] 3)).alloc (.cells #[.pointer (some ⟨b, 0, none⟩)] 66)) 22 (.int .u64 a)).alloc (.cells #[.int .i64 n] 3)); simpa using this
  have b4 : Boxed W0 (w.heap.size + 1 + 1 + 1 + 1) 3 (.int .i64 n) := by rw [← hW0]; have := (Boxed.new ((((w.alloc (.cells #[.int .u64 0] 22)).alloc (.cells #[.int .i64 0] 3)).alloc (.cells #[.pointer (some ⟨b, 0, none⟩)] 66)).alloc (.cells #[.int .u64 a] 22)) 3 (.int .i64 n)); simpa using this
  have hs : W0.heap.size = w.heap.size + 5 := by rw [← hW0]; simp
  have hB0 : Below w.heap.size w W0 := by rw [← hW0]; exact (((((Below.refl _ w).alloc (Nat.le_refl _) _).alloc (by simp) _).alloc (by simp; omega) _).alloc (by simp; omega) _).alloc (by simp; omega) _
  rw [hW0]
  clear hW0
  have hM0 := HH.out.below hB0
  refine wpIn_rangeFunc_ownG rfl (by omega) (gf := 84) (lb := #[.pointer (some ⟨w.heap.size + 1 + 1 + 1, 0, none⟩), .pointer (some ⟨w.heap.size + 1 + 1 + 1 + 1, 0, none⟩), .pointer (some ⟨w.heap.size + 1 + 1, 0, none⟩)]) rfl trivial (enters_of Tryd.func84 (by kernel_rfl) rfl)
    (runs_any 3 b r (w.heap.size + 1 + 1 + 1) (w.heap.size + 1 + 1 + 1 + 1) (w.heap.size + 1 + 1) ps a n m X W0 (by omega) hM0.cell hM0.map (by omega) (by omega) (by omega) b3.cell b4.cell b2.cell a0 (by omega) h48 hmm hX (fun i hi => HH.out.caps _ (pg_k (hX i hi)).2))
    (fun h k => h.trans k)
    (fun W l o o' hl ho _ _ => by have := lt_of_some ho; exact Keep.grown (grownBy_putObj' W l o') (by omega) (by omega) (by omega) (by intro e; cases e; omega) (by intro e; cases e; omega) (by intro e; cases e; omega))
    (Below.refl _ _) (fun _ => rfl)
    (fun pre W => (Boxed W w.heap.size 22 (.int .u64 (accV (pre.flatMap fun x => pBy a n X bt x.1))) ∧ Boxed W (w.heap.size + 1) 3 (.int .i64 (8 * ((pre.flatMap fun x => pBy a n X bt x.1).length : Int)))) ∧ W0.heap.size ≤ W.heap.size ∧ Below w.heap.size w W)
    (fun _ _ _ => False)
    (fun s A B row hh hg hr => ⟨⟨hh.1.1.kept hg (by intro e; have := (hr _ e.symm).1; omega), hh.1.2.kept hg (by intro e; have := (hr _ e.symm).1; omega)⟩, Nat.le_trans hh.2.1 hg.size, hh.2.2.grown hg hh.2.2.size (fun k e => by have := (hr k e).1; omega)⟩)
    (fun _ _ _ _ _ hs _ _ => hs)
    ⟨⟨b0, b1⟩, Nat.le_refl _, hB0⟩
    (fun z => { tmps := #[.pointer (some ⟨b, 0, none⟩), .int .u64 a, .int .i64 n, undef, undef, undef, .int .u64 0, .pointer (some ⟨w.heap.size, 0, none⟩), .pointer (some ⟨w.heap.size + 1, 0, none⟩), runV a n X z.1, undef, undef, .pointer (some ⟨b, 0, none⟩), .int .u64 a, .int .i64 n, .func (.func 84) #[] #[.pointer (some ⟨w.heap.size + 1 + 1 + 1, 0, none⟩), .pointer (some ⟨w.heap.size + 1 + 1 + 1 + 1, 0, none⟩), .pointer (some ⟨w.heap.size + 1 + 1, 0, none⟩)], runV a n X z.1, undef, undef, undef, undef, undef, undef, undef, undef, undef, undef, undef, undef, undef, undef, undef, undef], defers := [] }) ?assign ?body ?done ?stop
  case assign =>
    intro l z W K hK
    dsimp only [pieceOf, runV] at hK ⊢
    gi_wp2
    exact hK
  case body =>
    rintro l pre z W ⟨⟨e1, e2⟩, hsz, hB⟩ hlt
    have hpl : (pre.flatMap fun x => pBy a n X bt x.1).length ≤ 8 := by
      rcases pre with _ | ⟨y, _ | ⟨y', r'⟩⟩
      · simp
      · have := (pL_le a0 ((hmm y.1).1 y.2)).1
        simp [pBy_len]; omega
      · simp at hlt; omega
    have hzm := pg_k (hX z.1 z.2)
    have hL4 := (pL_le a0 ((hmm z.1).1 z.2))
    have hL8 : pL a n z.1 ≤ 8 := by omega
    have hbz : ∀ j, j < pL a n z.1 → w.cell? ⟨(X z.1).g, pO a z.1 + j, none⟩ = some (.int .u8 (bt (X z.1).g (pO a z.1 + j))) := fun j hj => HH.out.data _ hzm.2 _ (by omega)
    have hgl : (X z.1).g < w.heap.size := lt_of_cell (HH.out.data _ hzm.2 0 (by omega))
    have hbl : Hid (pBy a n X bt z.1 = (List.range (pL a n z.1)).map fun j => bt (X z.1).g (pO a z.1 + j)) := rfl
    have hsm : ∀ j, 0 ≤ bt (X z.1).g (pO a z.1 + j) ∧ bt (X z.1).g (pO a z.1 + j) < 256 := fun j => HH.out.small _ _
    clear hzm hL4
    dsimp only [runV]
    generalize (X z.1).g = g at *
    generalize (X z.1).c - pO a z.1 = c at *
    generalize pO a z.1 = o at *
    generalize pL a n z.1 = L at *
    obtain ⟨l0, hl0⟩ : ∃ l0, (pre.flatMap fun x => pBy a n X bt x.1) = l0 := ⟨_, rfl⟩
    rw [hl0] at hpl e1 e2
    have HL0 : Hid ((pre.flatMap fun x => pBy a n X bt x.1) = l0) := hl0
    clear hl0
    gi_wp2
    gi_loopw [19] (fun x wr => ∃ j : Nat, j ≤ L ∧ x = .int .i64 j ∧ St w W0 W b r (accV (l0 ++ (List.range j).map fun j => bt g (o + j))) (8 * ((l0.length + j : Nat) : Int)) wr) (fun x _ => L - (intOf x).toNat)
    case atStart => exact ⟨0, Nat.zero_le _, rfl, by simpa using St.start e1 e2 hB⟩
    case round =>
      obtain ⟨j, hj, rfl, hst⟩ := hrel
      have c1' := hst.b1.cell
      have c2' := hst.b2.cell
      have f1' := hst.b1.frozen
      have f2' := hst.b2.frozen
      by_cases hjl : j < L
      · have hc : wr.cell? ⟨g, o + j, none⟩ = some (.int .u8 (bt g (o + j))) := (hst.below.cell (p := ⟨g, o + j, none⟩) hgl).trans (hbz j hjl)
        have HS : Hid (St w W0 W b r (accV (l0 ++ (List.range j).map fun j => bt g (o + j))) (8 * ((l0.length + j : Nat) : Int)) wr) := hst
        have hv : accV (l0 ++ (List.range (j + 1)).map fun j => bt g (o + j)) = orB (accV (l0 ++ (List.range j).map fun j => bt g (o + j))) (l0.length + j) (bt g (o + j)) := by
          have t := accV_snoc (l0 ++ (List.range j).map fun j => bt g (o + j)) (bt g (o + j))
          rw [List.append_assoc] at t
          rw [List.range_succ, List.map_append, List.map_singleton]
          simpa using t
        have hy1 := hsm j
        have hs0 : 8 * ((l0.length + (j + 1) : Nat) : Int) = (8 * ((l0.length + j : Nat) : Int)) + 8 := by omega
        have hsn : (8 * ((l0.length + j : Nat) : Int)).toNat = 8 * (l0.length + j) := by omega
        have hs1 : (8 * ((l0.length + j : Nat) : Int)) ≤ 128 := by omega
        have hs2 : 0 ≤ (8 * ((l0.length + j : Nat) : Int)) := by omega
        generalize accV (l0 ++ (List.range j).map fun j => bt g (o + j)) = v0 at *
        generalize (8 * ((l0.length + j : Nat) : Int)) = s at *
        generalize hyy : bt g (o + j) = y at *
        have hwr : IntKind.u64.wrap y = y := by simp [IntKind.wrap, IntKind.signed, IntKind.bits]; omega
        have HV : Hid (accV (l0 ++ (List.range (j + 1)).map fun j => bt g (o + j)) = bits .or .u64 v0 (IntKind.u64.wrap (y * 2 ^ min s.toNat 64))) := (by rw [hv, hsn]; rfl : accV (l0 ++ (List.range (j + 1)).map fun j => bt g (o + j)) = bits .or .u64 v0 (IntKind.u64.wrap (y * 2 ^ min s.toNat 64)))
        have HSs : Hid (8 * ((l0.length + (j + 1) : Nat) : Int) = s + 8) := hs0
        clear hst hs0 hsn hv hyy
        gi_wp2
        gi_region
        all_goals
          gi_wp2
          go_roundw
          case rel => exact ⟨j + 1, by omega, by go_num, by repeat (first | exact HS.out | refine St.drew ?_ | refine St.set2 (v := s) ?_ HSs.out.symm l1 l2 hs hsz | refine St.set1 (u := v0) ?_ HV.out.symm l1 l2 hs hsz)⟩
          case measure => simp [intOf]; omega
      · obtain rfl : j = L := by omega
        have HR : Hid (St w W0 W b r (accV (l0 ++ (List.range j).map fun j => bt g (o + j))) (8 * ((l0.length + j : Nat) : Int)) wr) := hst
        clear hst c1' c2' f1' f2'
        gi_wp2
        refine ⟨HR.out.keeps, HR.out.keep, ⟨?_, ?_⟩, Nat.le_trans hsz HR.out.keeps.size, HR.out.below⟩
        · rw [List.flatMap_append, HL0.out, List.flatMap_singleton, hbl.out]; exact HR.out.b1
        · rw [List.flatMap_append, HL0.out, List.flatMap_singleton, hbl.out, List.length_append, List.length_map, List.length_range]; exact HR.out.b2
  case done =>
    rintro D ys W hD rfl ⟨⟨e1, e2⟩, hsz, hB⟩ hK
    have e3 := e1.cell
    gi_wp2
    refine ⟨by simp, .inl ⟨_, _, rfl, run_takeDeferred hK, ?_⟩⟩
    exact ⟨_, results_tmp rfl _ _ _, rfl, hB.trans (belowK_b (w := w) (Nat.le_refl _) W D _ _ (by omega) hK rfl rfl)⟩
  case stop =>
    rintro D c pre W _ _ h _
    exact h.elim
end
section
open Go.RowKit Go.Shelf
/-- The number of bytes, the lowest first. -/
def sumV : List Int → Int
  | [] => 0
  | x :: r => x + 256 * sumV r
def isBytes (l : List Int) : Prop := ∀ x ∈ l, 0 ≤ x ∧ x < 256
theorem sumV_bound : ∀ (l : List Int), isBytes l → 0 ≤ sumV l ∧ sumV l < 256 ^ l.length
  | [], _ => by simp [sumV]
  | x :: r, h => by
    have h1 := h x (by simp)
    have h2 := sumV_bound r (fun y hy => h y (by simp [hy]))
    simp only [sumV, List.length_cons, Int.pow_succ]
    omega
theorem sumV_append (l : List Int) : ∀ (k : List Int), sumV (k ++ l) = sumV k + 256 ^ k.length * sumV l
  | [] => by simp [sumV]
  | x :: r => by
    simp only [List.cons_append, sumV, sumV_append l r, List.length_cons, Int.pow_succ]
    rw [Int.mul_add, Int.mul_comm (256 ^ r.length) 256, Int.mul_assoc]
    omega
theorem pow_le7 {k : Nat} (h : k ≤ 7) : (256 : Int) ^ k = ((2 ^ (8 * k) : Nat) : Int) ∧ 2 ^ (8 * k) * 256 ≤ 18446744073709551616 := by
  rcases (by omega : k = 0 ∨ k = 1 ∨ k = 2 ∨ k = 3 ∨ k = 4 ∨ k = 5 ∨ k = 6 ∨ k = 7) with rfl | rfl | rfl | rfl | rfl | rfl | rfl | rfl <;> exact ⟨by decide, by decide⟩
theorem orB_sum (v : Int) (k : Nat) (y : Int) (hk : k ≤ 7) (v0 : 0 ≤ v) (v1 : v < 256 ^ k) (y0 : 0 ≤ y) (y1 : y < 256) : orB v k y = v + 256 ^ k * y := by
  obtain ⟨e, hb⟩ := pow_le7 hk
  obtain ⟨vn, rfl⟩ := Int.eq_ofNat_of_zero_le v0
  obtain ⟨yn, rfl⟩ := Int.eq_ofNat_of_zero_le y0
  have hy : yn < 256 := by omega
  have hv : vn < 2 ^ (8 * k) := by rw [e] at v1; exact_mod_cast v1
  have hm : yn * 2 ^ (8 * k) ≤ 255 * 2 ^ (8 * k) := Nat.mul_le_mul_right _ (by omega)
  have hs : shB k (yn : Int) = ((2 ^ (8 * k) * yn : Nat) : Int) := by
    unfold shB
    rw [show min (8 * k) 64 = 8 * k by omega]
    have t : (yn : Int) * 2 ^ (8 * k) = ((yn * 2 ^ (8 * k) : Nat) : Int) := by simp
    rw [t, Nat.mul_comm]
    simp only [IntKind.wrap, IntKind.signed, IntKind.bits, Bool.false_and]
    rw [Nat.mul_comm] at hm
    simp only [Bool.false_eq_true, if_false]
    generalize 2 ^ (8 * k) * yn = z at *
    omega
  unfold orB
  rw [hs, u64_or_nat vn _ (by omega) (by rw [Nat.mul_comm]; omega), Nat.or_comm, ← Nat.two_pow_add_eq_or_of_lt hv, e]
  simp
  omega
theorem accV_sum : ∀ (n : Nat) (l : List Int), l.length = n → isBytes l → l.length ≤ 8 → accV l = sumV l
  | 0, l, hn, _, _ => by rw [List.length_eq_zero_iff.1 hn]; rfl
  | n + 1, l, hn, h, h8 => by
    rcases List.eq_nil_or_concat l with rfl | ⟨l, y, rfl⟩
    · cases hn
    · have hl : isBytes l := fun x hx => h x (by simp [hx])
      have hy := h y (by simp)
      simp only [List.concat_eq_append, List.length_append, List.length_singleton] at h8 hn ⊢
      have hb := sumV_bound l hl
      rw [accV_snoc, accV_sum n l (by omega) hl (by omega), orB_sum _ _ _ (by omega) hb.1 hb.2 hy.1 hy.2, sumV_append]
      simp [sumV]
/-- No page. -/
def noP : Pgd := ⟨0, 0, 0, 0⟩
def pgX (ps : List Pgd) (a : Int) (i : Nat) : Pgd := (pg ps (pB a i)).getD noP
/-- The byte at a place. -/
def byt (ps : List Pgd) (bt : Nat → Nat → Int) (p : Int) : Int := bt ((pg ps (bs p)).getD noP).g (p - bs p).toNat
/-- In how many pages n bytes lie (n is 1 to 8). -/
def pM (a n : Int) : Nat := if a + n ≤ bs a + 4096 then 1 else 2
theorem pM_iff {a n : Int} (a0 : 0 ≤ a) (n0 : 1 ≤ n) (n1 : n ≤ 8) (i : Nat) : i < pM a n ↔ pl a i < a + n := by
  obtain ⟨f0, f1, f2, f3⟩ := bs_facts a0
  unfold pM pl pB
  split
  · constructor
    · intro h; obtain rfl : i = 0 := by omega
      simp only [Int.natCast_zero]; omega
    · intro h; omega
  · constructor
    · intro h
      rcases (by omega : i = 0 ∨ i = 1) with rfl | rfl
      · simp only [Int.natCast_zero]; omega
      · simp only [Int.natCast_one]; omega
    · intro h; omega
def byts (ps : List Pgd) (bt : Nat → Nat → Int) (a : Int) (n : Nat) : List Int := (List.range n).map fun (j : Nat) => byt ps bt (a + (j : Int))
theorem byts_len (ps : List Pgd) (bt : Nat → Nat → Int) (a : Int) (n : Nat) : (byts ps bt a n).length = n := by simp [byts]
theorem byts_add (ps : List Pgd) (bt : Nat → Nat → Int) (a : Int) (n m : Nat) : byts ps bt a (n + m) = byts ps bt a n ++ byts ps bt (a + n) m := by
  unfold byts
  rw [List.range_add, List.map_append, List.map_map]
  congr 1
  apply List.map_congr_left
  intro j _
  simp only [Function.comp]
  congr 1
  omega
theorem byt_in {ps : List Pgd} {bt : Nat → Nat → Int} {p q : Int} (hq : q % 4096 = 0) (h1 : q ≤ p) (h2 : p < q + 4096) : byt ps bt p = bt ((pg ps q).getD noP).g (p - q).toNat := by
  have e : bs p = q := by unfold bs; omega
  unfold byt
  rw [e]
theorem pieces_byts {ps : List Pgd} {bt : Nat → Nat → Int} {a : Int} {n : Nat} (a0 : 0 ≤ a) (n0 : 1 ≤ n) (n1 : n ≤ 8) : ((List.finRange (pM a n)).flatMap fun x => pBy a n (pgX ps a) bt x.1) = byts ps bt a n := by
  obtain ⟨f0, f1, f2, f3⟩ := bs_facts a0
  have hp : ∀ i, pl a i < a + n → pBy a n (pgX ps a) bt i = byts ps bt (pl a i) (pL a n i) := by
    intro i h
    obtain ⟨q, o, L, k1, k2, k3, k4, k5, k6, k7, k8, k9, k10, k11⟩ := p_facts (n := n) (i := i) a0 h
    unfold pBy byts
    apply List.map_congr_left
    intro j hj
    rw [List.mem_range] at hj
    unfold pgX
    rw [byt_in (q := q) k6 (by omega) (by omega), k1, k3, k2]
    congr 1
    omega
  have e0 : pl a 0 = a := by unfold pl pB; simp only [Int.natCast_zero]; omega
  by_cases h : a + n ≤ bs a + 4096
  · have em : pM a n = 1 := by unfold pM; rw [if_pos h]
    rw [em]
    simp only [List.finRange_succ, List.finRange_zero, List.map_nil, List.flatMap_cons, List.flatMap_nil, List.append_nil]
    rw [show ((0 : Fin 1) : Nat) = 0 from rfl, hp 0 (by omega), e0]
    congr 1
    unfold pL pB
    rw [e0]
    omega
  · have em : pM a n = 2 := by unfold pM; rw [if_neg h]
    rw [em]
    have e1 : pl a 1 = bs a + 4096 := by unfold pl pB; simp only [Int.natCast_one]; omega
    simp only [List.finRange_succ, List.finRange_zero, List.map_nil, List.map_cons, List.flatMap_cons, List.flatMap_nil, List.append_nil]
    rw [show ((0 : Fin 2) : Nat) = 0 from rfl, show ((Fin.succ 0 : Fin 2) : Nat) = 1 from rfl, hp 0 (by omega), hp 1 (by omega), e0, e1]
    have l0 : pL a n 0 = (bs a + 4096 - a).toNat := by unfold pL pB; rw [e0]; omega
    have l1 : pL a n 1 = (a + n - bs a - 4096).toNat := by unfold pL pB; rw [e1]; omega
    rw [l0, l1]
    have t := byts_add ps bt a (bs a + 4096 - a).toNat (a + n - bs a - 4096).toNat
    rw [show (bs a + 4096 - a).toNat + (a + n - bs a - 4096).toNat = n by omega, show a + ((bs a + 4096 - a).toNat : Int) = bs a + 4096 by omega] at t
    exact t.symm
def isN (n : Nat) : Prop := n = 1 ∨ n = 2 ∨ n = 4 ∨ n = 8
set_option maxHeartbeats 1000000 in
theorem number_any (b r : Nat) (ps : List Pgd) (bt : Nat → Nat → Int) (a : Int) (n : Nat) (perm : Int) (w : World) (h : Mm w b r ps bt) (a0 : 0 ≤ a) (hn : isN n) (h1 : a + n ≤ 281474976710656) : Calls Tryd.prog 55 #[.pointer (some ⟨b, 0, none⟩), .int .u64 a, .int .i64 n, .int .i64 perm] w fun e w' => e = .returned (.int .i64 (useE ps a n perm)) ∧ Below w.heap.size w w' := by
  have HU : Hid (Calls Tryd.prog 69 #[.pointer (some ⟨b, 0, none⟩), .int .u64 a, .int .i64 n, .int .i64 perm] w fun e w' => e = .returned (.int .i64 (useE ps a n perm)) ∧ Below w.heap.size w w') := usable_any b r ps bt a n perm w h a0 (by unfold isN at hn; omega) (by unfold isN at hn; omega) h1
  generalize useE ps a n perm = res at *
  clear h
  rcases hn with rfl | rfl | rfl | rfl
  all_goals
    go_enter Tryd.func55, Tryd.ntmps55
    go_wp2_with fail
    refine HU.out.mono ?_
    rintro e w1 ⟨rfl, hb⟩
    go_wp2
    go_ret
    exact ⟨rfl, hb⟩
theorem useE_zero {ps : List Pgd} {a n perm : Int} (h : useE ps a n perm = 0) (i : Nat) (hi : i < pM a n) : pg ps (pB a i) = some (pgX ps a i) := by
  have key : ∀ k, pg ps k ≠ none → pg ps k = some ((pg ps k).getD noP) := by
    intro k hk
    cases h : pg ps k with
    | none => exact absurd h hk
    | some x => rfl
  refine key _ ?_
  unfold useE at h
  unfold pM at hi
  intro hn
  cases h1 : pg ps (bs a) with
  | none => rw [h1] at h; simp at h
  | some x =>
    rw [h1] at h
    simp only [] at h
    split at hi
    · obtain rfl : i = 0 := by omega
      unfold pB at hn
      rw [show bs a + 4096 * ((0 : Nat) : Int) = bs a by omega, h1] at hn
      cases hn
    · rename_i hle
      rw [if_neg hle] at h
      rcases (by omega : i = 0 ∨ i = 1) with rfl | rfl
      · unfold pB at hn
        rw [show bs a + 4096 * ((0 : Nat) : Int) = bs a by omega, h1] at hn
        cases hn
      · unfold pB at hn
        rw [show bs a + 4096 * ((1 : Nat) : Int) = bs a + 4096 by omega] at hn
        rw [hn] at h
        simp at h
theorem info5 : (Tryd.prog.info? 5).map (fun i => (i.zero, i.size, i.bytes)) = some (some (.int .u8 0), 1, 1) := by kernel_rfl
def rowOf (Y : Nat → Int) (n : Nat) : List Value := (List.range n).map fun j => Value.int .u8 (Y j)
theorem rowOf_at {Y : Nat → Int} {n j : Nat} (h : j < n) : (rowOf Y n)[j]? = some (Value.int .u8 (Y j)) := by simp [rowOf, h]
set_option maxHeartbeats 2000000 in
set_option maxRecDepth 100000 in
theorem clone48 (gs os c n : Nat) (Y : Nat → Int) (w : World) (hn : 0 < n) (hn2 : n ≤ 65536) (hc : ∀ j, j < n → w.cell? ⟨gs, os + j, none⟩ = some (.int .u8 (Y j))) :
    Calls Tryd.prog 29 #[.slice (some ⟨gs, os, none⟩) n c] w fun e w' => ∃ g cap cur, e = .returned (.slice (some ⟨g, 0, none⟩) n cap) ∧ w.heap.size ≤ g ∧ n ≤ cap ∧ w'.heap[g]? = some (.cells cur 5 (0, 0)) ∧ cur.size = cap ∧ (∀ j, j < n → w'.cell? ⟨g, j, none⟩ = some (.int .u8 (Y j))) ∧ Below w.heap.size w w' := by
  obtain ⟨i0, hi, hz0, hz1, hz2⟩ := info_parts info5
  have q48 : ∀ (w : World) (a : Option Addr) (n c n' c' : Nat), (binOp .eql 35 (.slice a n c) (.slice none n' c')).run Tryd.prog w = .ok (.bool a.isNone) w := fun w a n c n' c' => Lib.run_eql_slice_nil w _ _ a n c n' c' Tryd.underlying35
  have A : Hid (∀ j, j < n → w.cell? ⟨gs, os + j, none⟩ = some (.int .u8 (Y j))) := hc
  clear hc
  go_enter Tryd.func29, Tryd.ntmps29
  go_wp2_with (at_builtin; refine wpList_append_own _ rfl _ _ 35 rfl w.heap.size 5 i0 (.int .u8 0) 1 1 Tryd.underlying35 hi hz0 hz1 hz2 rfl (by decide) _ _ _ rfl (World.ownsRow_made w #[] 0 (Nat.le_refl _) (Nat.zero_le _) rfl) ⟨gs, os, none⟩ n c (rowOf Y n) rfl ?qc1 ?qc2 ?qc3 ?qc4 ?qc5 ?qc6 ?_)
  case qc1 => simp [rowOf]
  case qc2 =>
    intro j u hj
    have hjn : j < n := by
      have := (List.getElem?_eq_some_iff.1 hj).1
      simpa [rowOf] using this
    rw [rowOf_at hjn] at hj
    cases hj
    rw [Addr.add_lit]
    have t := A.out j hjn
    exact (((Below.refl _ w).alloc (Nat.le_refl _) _).cell (p := ⟨gs, os + j, none⟩) (lt_of_cell t)).trans t
  case qc3 => intro u hu; obtain ⟨x, _, rfl⟩ := List.mem_map.1 hu; rfl
  case qc4 => unfold maxLen; omega
  case qc5 => omega
  case qc6 => simp
  intro v' w1 hown hgrow hnil
  rcases hown.2 with ⟨_, h0⟩ | ⟨g, cap, cur, rfl, hg, hh, hnc, _, hcs, htk⟩
  · omega
  have hB : Below w.heap.size w w1 := ((Below.refl _ w).alloc (Nat.le_refl _) _).grown hgrow (by simp) (by intro k hk; simp [Value.ownBlock] at hk; omega)
  have HB : Hid (Below w.heap.size w w1 ∧ w1.heap[g]? = some (.cells cur 5 (0, 0)) ∧ cur.size = cap * 1 ∧ cur.toList.take ((0 + n) * 1) = [] ++ rowOf Y n) := ⟨hB, hh, hcs, by simpa using htk⟩
  clear hB hh hcs htk hown hgrow hnil
  go_wp2
  go_ret
  obtain ⟨h1, h2, h3, h4⟩ := HB.out
  refine ⟨g, cap, cur, by simp, hg, by omega, h2, by omega, fun j hj => ?_, h1⟩
  simp only [World.cell?, h2]
  have e : cur.toList[j]? = some (Value.int .u8 (Y j)) := by
    have t := congrArg (fun l => l[j]?) h4
    simp only [List.nil_append, rowOf_at hj] at t
    rw [List.getElem?_take_of_lt (by omega)] at t
    exact t
  simpa using e
theorem grownBy_setAny (W : World) (b o : Nat) (v : Value) : W.grownBy (W.setCell ⟨b, o, none⟩ v) (some b) :=
  ⟨rfl, rfl, rfl, (KeepsWalks.setCell W _ v).size, fun k _ hk => Below.heap_setCell _ _ _ k (fun e => hk (by rw [e]))⟩
set_option maxHeartbeats 2000000 in
set_option maxRecDepth 100000 in
theorem copied29 (k p : Int) (gs os c : Nat) (Y : Nat → Int) (w : World) (hc : ∀ j, j < 4096 → w.cell? ⟨gs, os + j, none⟩ = some (.int .u8 (Y j))) :
    Calls Tryd.prog 43 #[.agg #[.int .u64 k, .int .i64 p, .slice (some ⟨gs, os, none⟩) 4096 c]] w fun e w' => ∃ g cap cur, e = .returned (.agg #[.int .u64 k, .int .i64 p, .slice (some ⟨g, 0, none⟩) 4096 cap]) ∧ w.heap.size ≤ g ∧ 4096 ≤ cap ∧ w'.heap[g]? = some (.cells cur 5 (0, 0)) ∧ cur.size = cap ∧ (∀ j, j < 4096 → w'.cell? ⟨g, j, none⟩ = some (.int .u8 (Y j))) ∧ Below w.heap.size w w' := by
  have A : Hid (∀ j, j < 4096 → w.cell? ⟨gs, os + j, none⟩ = some (.int .u8 (Y j))) := hc
  clear hc
  go_enter Tryd.func43, Tryd.ntmps43
  go_wp2_with fail
  obtain ⟨w0, hw0⟩ : ∃ w0, ((w.alloc (.cells #[.int .u64 k, .int .i64 p, .slice (some ⟨gs, os, none⟩) 4096 c] 51)).alloc (.cells #[.int .u64 0, .int .i64 0, .slice none 0 0] 51)) = w0 := ⟨_, rfl⟩
  have hB0 : Below w.heap.size w w0 := by rw [← hw0]; exact ((Below.refl _ w).alloc (Nat.le_refl _) _).alloc (by simp) _
  have h1 : w0.heap[w.heap.size]? = some (.cells #[.int .u64 k, .int .i64 p, .slice (some ⟨gs, os, none⟩) 4096 c] 51 (0, 0)) := by rw [← hw0]; exact heap_on (heap_at w _) _
  have h2 : w0.heap[w.heap.size + 1]? = some (.cells #[.int .u64 0, .int .i64 0, .slice none 0 0] 51 (0, 0)) := by rw [← hw0]; have t := heap_at (w.alloc (.cells #[.int .u64 k, .int .i64 p, .slice (some ⟨gs, os, none⟩) 4096 c] 51)) (.cells #[.int .u64 0, .int .i64 0, .slice none 0 0] 51); simpa using t
  have hs0 : w0.heap.size = w.heap.size + 2 := by rw [← hw0]; simp
  rw [hw0]
  clear hw0
  refine (clone48 gs os c 4096 Y w0 (by omega) (by omega) (fun j hj => (hB0.cell (p := ⟨gs, os + j, none⟩) (lt_of_cell (A.out j hj))).trans (A.out j hj))).mono ?_
  rintro e w1 ⟨g, cap, cur, rfl, hg, hcap, hh, hsz, hcell, hb⟩
  have d1 : w1.heap[w.heap.size]? = some (.cells #[.int .u64 k, .int .i64 p, .slice (some ⟨gs, os, none⟩) 4096 c] 51 (0, 0)) := (hb.block _ (by omega)).trans h1
  have d2 : w1.heap[w.heap.size + 1]? = some (.cells #[.int .u64 0, .int .i64 0, .slice none 0 0] 51 (0, 0)) := (hb.block _ (by omega)).trans h2
  have s1 : w.heap.size + 2 ≤ w1.heap.size := by have := hb.size; omega
  have HX : Hid (Below w.heap.size w w1 ∧ w1.heap[g]? = some (.cells cur 5 (0, 0)) ∧ cur.size = cap ∧ (∀ j, j < 4096 → w1.cell? ⟨g, j, none⟩ = some (.int .u8 (Y j)))) := ⟨hB0.trans (hb.mono (by omega)), hh, hsz, hcell⟩
  clear hb hh hsz hcell h1 h2
  have c10 : w1.cell? ⟨w.heap.size, 0, none⟩ = some (.int .u64 k) := by simp [World.cell?, d1]
  have c11 : w1.cell? ⟨w.heap.size, 1, none⟩ = some (.int .i64 p) := by simp [World.cell?, d1]
  have c12 : w1.cell? ⟨w.heap.size, 2, none⟩ = some (.slice (some ⟨gs, os, none⟩) 4096 c) := by simp [World.cell?, d1]
  have c20 : w1.cell? ⟨w.heap.size + 1, 0, none⟩ = some (.int .u64 0) := by simp [World.cell?, d2]
  have c21 : w1.cell? ⟨w.heap.size + 1, 1, none⟩ = some (.int .i64 0) := by simp [World.cell?, d2]
  have c22 : w1.cell? ⟨w.heap.size + 1, 2, none⟩ = some (.slice none 0 0) := by simp [World.cell?, d2]
  have f12 : w1.frozen? ⟨w.heap.size, 2, none⟩ = false := by simp [World.frozen?, d1]
  have f20 : w1.frozen? ⟨w.heap.size + 1, 0, none⟩ = false := by simp [World.frozen?, d2]
  have f21 : w1.frozen? ⟨w.heap.size + 1, 1, none⟩ = false := by simp [World.frozen?, d2]
  have f22 : w1.frozen? ⟨w.heap.size + 1, 2, none⟩ = false := by simp [World.frozen?, d2]
  clear d1 d2
  go_wp2
  obtain ⟨h1, h2, h3, h4⟩ := HX.out
  have gl := lt_of_some h2
  have hblk : ∀ (W : World) (b o : Nat) (v : Value), b ≠ g → g < W.heap.size → (W.setCell ⟨b, o, none⟩ v).heap[g]? = W.heap[g]? ∧ g < (W.setCell ⟨b, o, none⟩ v).heap.size := fun W b o v hb hl => ⟨(grownBy_setAny W b o v).block g hl (by intro e; cases e; exact hb rfl), Nat.lt_of_lt_of_le hl (grownBy_setAny W b o v).size⟩
  obtain ⟨q1, r1⟩ := hblk w1 w.heap.size 2 (.slice (some ⟨g, 0, none⟩) 4096 cap) (by omega) gl
  obtain ⟨q2, r2⟩ := hblk _ (w.heap.size + 1) 0 (.int .u64 k) (by omega) r1
  obtain ⟨q3, r3⟩ := hblk _ (w.heap.size + 1) 1 (.int .i64 p) (by omega) r2
  obtain ⟨q4, r4⟩ := hblk _ (w.heap.size + 1) 2 (.slice (some ⟨g, 0, none⟩) 4096 cap) (by omega) r3
  have q := q4.trans (q3.trans (q2.trans q1))
  refine bodyPost_ret (v := .agg #[.int .u64 k, .int .i64 p, .slice (some ⟨g, 0, none⟩) 4096 cap]) (by simp [results, Tryd.results43, go_sem, c20, c21, c22]) rfl ⟨g, cap, cur, rfl, by omega, hcap, q.trans h2, h3, fun j hj => ?_, ?_⟩
  · simp only [World.cell?, q]; exact h4 j hj
  · exact (((h1.setCell (p := ⟨w.heap.size, 2, none⟩) (Nat.le_refl _) _).setCell (p := ⟨w.heap.size + 1, 0, none⟩) (Nat.le_succ _) _).setCell (p := ⟨w.heap.size + 1, 1, none⟩) (Nat.le_succ _) _).setCell (p := ⟨w.heap.size + 1, 2, none⟩) (Nat.le_succ _) _
/-- Is a number what may be done to a page? -/
def permB (p : Int) : Bool := decide (0 < p) && (decide (p ≤ 7) && (bits .and .i64 p 3 != 3))
set_option maxHeartbeats 1000000 in
theorem perm28 (p : Int) (w : World) : Calls Tryd.prog 42 #[.int .i64 p] w fun e w' => e = .returned (.bool (permB p)) ∧ w' = w := by
  by_cases h1 : 0 < p
  · by_cases h2 : p ≤ 7
    · go_enter Tryd.func42, Tryd.ntmps42
      go_wp2
      all_goals go_ret
      all_goals exact ⟨ret_bool (by simp [permB, h1, h2]), rfl⟩
    · go_enter Tryd.func42, Tryd.ntmps42
      go_wp2
      all_goals go_ret
      all_goals exact ⟨ret_bool (by unfold permB; rw [decide_eq_false (p := p ≤ 7) (by omega)]; simp), rfl⟩
  · go_enter Tryd.func42, Tryd.ntmps42
    go_wp2
    all_goals go_ret
    all_goals exact ⟨ret_bool (by unfold permB; rw [decide_eq_false (p := 0 < p) (by omega)]; rfl), rfl⟩
/-- Pages that lie in a slice: their Bases, their Perms, their Bytes. -/
structure PgSrc (W : World) (lb lo len : Nat) (k p : Nat → Int) (ao : Nat → Option Addr) (bl bc : Nat → Nat) (Y : Nat → Nat → Int) : Prop where
  c0 : ∀ i, i < len → W.cell? ⟨lb, lo + i * 3, none⟩ = some (.int .u64 (k i))
  c1 : ∀ i, i < len → W.cell? ⟨lb, lo + i * 3 + 1, none⟩ = some (.int .i64 (p i))
  c2 : ∀ i, i < len → W.cell? ⟨lb, lo + i * 3 + 2, none⟩ = some (.slice (ao i) (bl i) (bc i))
  cs : ∀ i, i < len → bl i = 4096 → ∃ g o, ao i = some ⟨g, o, none⟩ ∧ ∀ j, j < 4096 → W.cell? ⟨g, o + j, none⟩ = some (.int .u8 (Y i j))
  by_ : ∀ i j, 0 ≤ Y i j ∧ Y i j < 256
  rk : ∀ i, i < len → 0 ≤ k i ∧ k i < 18446744073709551616
theorem PgSrc.below {W W' : World} {lb lo len : Nat} {k p : Nat → Int} {ao : Nat → Option Addr} {bl bc : Nat → Nat} {Y : Nat → Nat → Int} (h : PgSrc W lb lo len k p ao bl bc Y) (hb : Below W.heap.size W W') : PgSrc W' lb lo len k p ao bl bc Y :=
  ⟨fun i hi => (hb.cell (p := ⟨lb, lo + i * 3, none⟩) (lt_of_cell (h.c0 i hi))).trans (h.c0 i hi), fun i hi => (hb.cell (p := ⟨lb, lo + i * 3 + 1, none⟩) (lt_of_cell (h.c1 i hi))).trans (h.c1 i hi), fun i hi => (hb.cell (p := ⟨lb, lo + i * 3 + 2, none⟩) (lt_of_cell (h.c2 i hi))).trans (h.c2 i hi),
   fun i hi hl => by obtain ⟨g, o, e, hc⟩ := h.cs i hi hl; exact ⟨g, o, e, fun j hj => (hb.cell (p := ⟨g, o + j, none⟩) (lt_of_cell (hc j hj))).trans (hc j hj)⟩, h.by_, h.rk⟩
/-- Is a page refused by its place or its length? -/
def badB (k : Nat → Int) (bl : Nat → Nat) (i : Nat) : Bool := decide (¬ k i % 4096 = 0) || (decide (281474976710656 ≤ k i) || ((decide (0 < i) && decide (k i ≤ k (i - 1))) || decide (¬ bl i = 4096)))
def stepE (k p : Nat → Int) (bl : Nat → Nat) (i : Nat) : Int := if badB k bl i then 20 else if permB (p i) then 0 else 21
/-- What is wrong first with the first n pages. -/
def fromE (k p : Nat → Int) (bl : Nat → Nat) : Nat → Int
  | 0 => 0
  | n + 1 => if fromE k p bl n = 0 then stepE k p bl n else fromE k p bl n
theorem fromE_stays {k p : Nat → Int} {bl : Nat → Nat} {i : Nat} (h : ¬ fromE k p bl i = 0) : ∀ n, i ≤ n → fromE k p bl n = fromE k p bl i
  | 0, hn => by obtain rfl : i = 0 := by omega
                rfl
  | n + 1, hn => by
    by_cases e : i = n + 1
    · rw [e]
    · have t := fromE_stays h n (by omega)
      rw [fromE, t, if_neg h]
theorem fromE_bad {k p : Nat → Int} {bl : Nat → Nat} {i n : Nat} (h0 : fromE k p bl i = 0) (hi : i < n) {v : Int} (hv : stepE k p bl i = v) (hv0 : ¬ v = 0) : fromE k p bl n = v := by
  have e : fromE k p bl (i + 1) = v := by rw [fromE, if_pos h0, hv]
  rw [fromE_stays (i := i + 1) (by rw [e]; exact hv0) n (by omega), e]
/-- A memory that is being made: its first i pages. -/
structure Fr (W : World) (b r i : Nat) (k p : Nat → Int) (Y : Nat → Nat → Int) (base : Nat) (ps : List Pgd) : Prop where
  len : ps.length = i
  cell : W.cell? ⟨b, 0, none⟩ = some (.map (some r))
  map : W.heap[r]? = some (.map (entsFrom 0 ps).toArray ps.length)
  at_ : ∀ j x, ps[j]? = some x → x.k = k j ∧ x.p = p j ∧ 4096 ≤ x.c ∧ base ≤ x.g
  data : ∀ j x, ps[j]? = some x → (∃ cur, W.heap[x.g]? = some (.cells cur 5 (0, 0)) ∧ cur.size = x.c) ∧ ∀ t, t < 4096 → W.cell? ⟨x.g, t, none⟩ = some (.int .u8 (Y j t))
  apart : ps.Pairwise (fun x y => x.g < y.g)
  up : ps.Pairwise (fun x y => x.k < y.k)
theorem Fr.below_k {W : World} {b r i : Nat} {k p : Nat → Int} {Y : Nat → Nat → Int} {base : Nat} {ps : List Pgd} (h : Fr W b r i k p Y base ps) (hup : 0 < i → k (i - 1) < k i) : ∀ y ∈ ps, y.k < k i := by
  intro y hy
  obtain ⟨j, hj, rfl⟩ := List.getElem_of_mem hy
  have hl := h.len
  have hlast := h.at_ (i - 1) ps[i - 1] (List.getElem?_eq_getElem (by omega))
  by_cases e : j = i - 1
  · subst e; rw [hlast.1]; exact hup (by omega)
  · have := (List.pairwise_iff_getElem.1 h.up) j (i - 1) hj (by omega) (by omega)
    rw [hlast.1] at this
    have := hup (by omega)
    omega
theorem pg_none_of {ps : List Pgd} {q : Int} (h : ∀ y ∈ ps, y.k < q) : pg ps q = none := by
  unfold pg
  rw [List.find?_eq_none]
  intro y hy
  have := h y hy
  simp only [beq_iff_eq]
  omega
theorem Fr.lt {W : World} {b r i : Nat} {k p : Nat → Int} {Y : Nat → Nat → Int} {base : Nat} {ps : List Pgd} (h : Fr W b r i k p Y base ps) : ∀ y ∈ ps, y.g < W.heap.size := by
  intro y hy
  obtain ⟨j, hj, rfl⟩ := List.getElem_of_mem hy
  obtain ⟨cur, hc, _⟩ := (h.data j _ (List.getElem?_eq_getElem hj)).1
  exact lt_of_some hc
/-- A page more. -/
theorem Fr.snoc {W W1 : World} {b r i : Nat} {k p : Nat → Int} {Y : Nat → Nat → Int} {base : Nat} {ps : List Pgd} (h : Fr W b r i k p Y base ps) (hup : 0 < i → k (i - 1) < k i) (g c : Nat) (cur : Array Value) (hB : Below W.heap.size W W1) (hg : W.heap.size ≤ g) (hbase : base ≤ W.heap.size) (hc : 4096 ≤ c)
    (hcur : W1.heap[g]? = some (.cells cur 5 (0, 0))) (hcs : cur.size = c) (hY : ∀ t, t < 4096 → W1.cell? ⟨g, t, none⟩ = some (.int .u8 (Y i t))) (hbr : b ≠ r) :
    Fr (W1.putObj r (.map ((entsFrom 0 ps).toArray.push { key := .int .u64 (k i), val := .agg #[.int .u64 (k i), .int .i64 (p i), .slice (some ⟨g, 0, none⟩) 4096 c], born := ps.length }) (ps.length + 1))) b r (i + 1) k p Y base (ps ++ [⟨k i, p i, g, c⟩]) := by
  have hrl := lt_of_some h.map
  have hne : ∀ y : Nat, y ≠ r → (W1.putObj r (.map ((entsFrom 0 ps).toArray.push { key := .int .u64 (k i), val := .agg #[.int .u64 (k i), .int .i64 (p i), .slice (some ⟨g, 0, none⟩) 4096 c], born := ps.length }) (ps.length + 1))).heap[y]? = W1.heap[y]? := fun y hy => World.putObj_heap_other hy
  have hgr : g ≠ r := by omega
  have hold : ∀ y ∈ ps, y.g ≠ r := by
    intro y hy e
    obtain ⟨j, hj, rfl⟩ := List.getElem_of_mem hy
    obtain ⟨cur', hc', _⟩ := (h.data j _ (List.getElem?_eq_getElem hj)).1
    rw [e, h.map] at hc'
    cases hc'
  refine ⟨by simp [h.len], ?_, ?_, ?_, ?_, ?_, ?_⟩
  · simp only [World.cell?, hne b hbr]
    exact (hB.cell (p := ⟨b, 0, none⟩) (lt_of_cell h.cell)).trans h.cell
  · rw [World.putObj_heap_same (Nat.lt_of_lt_of_le hrl hB.size), entsFrom_snoc]
    simp [pval]
  · intro j x hx
    rcases Nat.lt_or_ge j ps.length with hj | hj
    · rw [List.getElem?_append_left hj] at hx; exact h.at_ j x hx
    · rw [List.getElem?_append_right hj] at hx
      obtain ⟨e, rfl⟩ : j - ps.length = 0 ∧ ⟨k i, p i, g, c⟩ = x := by
        rcases Nat.eq_zero_or_pos (j - ps.length) with e | e
        · rw [e] at hx; exact ⟨e, by simpa using hx⟩
        · rw [List.getElem?_eq_none (by simp; omega)] at hx; cases hx
      obtain rfl : j = i := by have := h.len; omega
      exact ⟨rfl, rfl, hc, by show base ≤ g; omega⟩
  · intro j x hx
    rcases Nat.lt_or_ge j ps.length with hj | hj
    · rw [List.getElem?_append_left hj] at hx
      obtain ⟨⟨cur', hc', hs'⟩, hd⟩ := h.data j x hx
      have hxm : x ∈ ps := List.mem_of_getElem? hx
      have e : (W1.putObj r (.map ((entsFrom 0 ps).toArray.push { key := .int .u64 (k i), val := .agg #[.int .u64 (k i), .int .i64 (p i), .slice (some ⟨g, 0, none⟩) 4096 c], born := ps.length }) (ps.length + 1))).heap[x.g]? = W.heap[x.g]? := (hne x.g (hold x hxm)).trans (hB.block x.g (h.lt x hxm))
      refine ⟨⟨cur', e.trans hc', hs'⟩, fun t ht => ?_⟩
      have := hd t ht
      simp only [World.cell?] at this ⊢
      rw [e]; exact this
    · rw [List.getElem?_append_right hj] at hx
      obtain ⟨e, rfl⟩ : j - ps.length = 0 ∧ ⟨k i, p i, g, c⟩ = x := by
        rcases Nat.eq_zero_or_pos (j - ps.length) with e | e
        · rw [e] at hx; exact ⟨e, by simpa using hx⟩
        · rw [List.getElem?_eq_none (by simp; omega)] at hx; cases hx
      obtain rfl : j = i := by have := h.len; omega
      refine ⟨⟨cur, (hne g hgr).trans hcur, hcs⟩, fun t ht => ?_⟩
      have := hY t ht
      simp only [World.cell?] at this ⊢
      rw [hne g hgr]; exact this
  · rw [List.pairwise_append]
    refine ⟨h.apart, List.pairwise_singleton _ _, fun x hx y hy => ?_⟩
    rw [List.mem_singleton] at hy
    subst hy
    exact Nat.lt_of_lt_of_le (h.lt x hx) hg
  · rw [List.pairwise_append]
    refine ⟨h.up, List.pairwise_singleton _ _, fun x hx y hy => ?_⟩
    rw [List.mem_singleton] at hy
    subst hy
    exact h.below_k hup x hx
theorem below_drewN {B : Nat} {a w : World} (h : Below B a w) (n : Nat) : Below B a (w.drewN n) := h.trans ⟨rfl, rfl, rfl, Nat.le_refl _, fun _ _ => rfl⟩
theorem fr_below {W W' : World} {b r i : Nat} {k p : Nat → Int} {Y : Nat → Nat → Int} {base : Nat} {ps : List Pgd} (h : Fr W b r i k p Y base ps) (hB : Below W.heap.size W W') : Fr W' b r i k p Y base ps := by
  refine ⟨h.len, (hB.cell (p := ⟨b, 0, none⟩) (lt_of_cell h.cell)).trans h.cell, (hB.block r (lt_of_some h.map)).trans h.map, h.at_, fun j x hx => ?_, h.apart, h.up⟩
  obtain ⟨⟨cur, hc, hs⟩, hd⟩ := h.data j x hx
  exact ⟨⟨cur, (hB.block _ (lt_of_some hc)).trans hc, hs⟩, fun t ht => (hB.cell (p := ⟨x.g, t, none⟩) (lt_of_some hc)).trans (hd t ht)⟩
/-- What the walk wants of a page's copy: the copy, what it keeps, and the store into the map behind it. -/
theorem copied_stored {b r i : Nat} {k p : Nat → Int} {Y : Nat → Nat → Int} {base P : Nat} {ps : List Pgd} (g o c : Nat) (W : World) (hF : Fr W b r i k p Y base ps) (hbase : base ≤ W.heap.size) (hup : 0 < i → k (i - 1) < k i) (hbr : b ≠ r) (hPr : P ≠ r) (hY : ∀ j, j < 4096 → W.cell? ⟨g, o + j, none⟩ = some (.int .u8 (Y i j)))
    (h0 : W.cell? ⟨P, 0, none⟩ = some (.int .u64 (k i))) (h1 : W.cell? ⟨P, 1, none⟩ = some (.int .i64 (p i))) (h2 : W.cell? ⟨P, 2, none⟩ = some (.slice (some ⟨g, o, none⟩) 4096 c)) :
    Calls Tryd.prog 43 #[.agg #[.int .u64 (k i), .int .i64 (p i), .slice (some ⟨g, o, none⟩) 4096 c]] W fun e w' => ∃ g' c' X, e = .returned (.agg #[.int .u64 (k i), .int .i64 (p i), .slice (some ⟨g', 0, none⟩) 4096 c']) ∧ w'.cell? ⟨b, 0, none⟩ = some (.map (some r)) ∧ w'.cell? ⟨P, 0, none⟩ = some (.int .u64 (k i)) ∧ w'.cell? ⟨P, 1, none⟩ = some (.int .i64 (p i)) ∧ w'.cell? ⟨P, 2, none⟩ = some (.slice (some ⟨g, o, none⟩) 4096 c) ∧
      (Instr.mapUpdate 82 (.map (some r)) (.int .u64 (k i)) (.agg #[.int .u64 (k i), .int .i64 (p i), .slice (some ⟨g', 0, none⟩) 4096 c'])).run Tryd.prog w' = .ok () (w'.putObj r X) ∧ (w'.putObj r X).cell? ⟨b, 0, none⟩ = some (.map (some r)) ∧ (w'.putObj r X).cell? ⟨P, 0, none⟩ = some (.int .u64 (k i)) ∧ (w'.putObj r X).cell? ⟨P, 1, none⟩ = some (.int .i64 (p i)) ∧ (w'.putObj r X).cell? ⟨P, 2, none⟩ = some (.slice (some ⟨g, o, none⟩) 4096 c) ∧ Hid (Below W.heap.size W w' ∧ Fr (w'.putObj r X) b r (i + 1) k p Y base (ps ++ [⟨k i, p i, g', c'⟩])) := by
  refine (copied29 (k i) (p i) g o c (Y i) W hY).mono ?_
  rintro e w' ⟨g', c', cur, rfl, hg, hc, hcur, hcs, hd, hB⟩
  refine ⟨g', c', _, rfl, (hB.cell (p := ⟨b, 0, none⟩) (lt_of_cell hF.cell)).trans hF.cell, (hB.cell (p := ⟨P, 0, none⟩) (lt_of_cell h0)).trans h0, (hB.cell (p := ⟨P, 1, none⟩) (lt_of_cell h0)).trans h1, (hB.cell (p := ⟨P, 2, none⟩) (lt_of_cell h0)).trans h2,
    upd42 r (k i) _ _ _ w' ((hB.block r (lt_of_some hF.map)).trans hF.map) (by rw [List.toList_toArray]; exact find_none _ _ (pg_none_of (hF.below_k hup)) 0 0), by rw [put_cell hbr]; exact (hB.cell (p := ⟨b, 0, none⟩) (lt_of_cell hF.cell)).trans hF.cell, by rw [put_cell hPr]; exact (hB.cell (p := ⟨P, 0, none⟩) (lt_of_cell h0)).trans h0, by rw [put_cell hPr]; exact (hB.cell (p := ⟨P, 1, none⟩) (lt_of_cell h0)).trans h1, by rw [put_cell hPr]; exact (hB.cell (p := ⟨P, 2, none⟩) (lt_of_cell h0)).trans h2, hB, ?_⟩
  exact hF.snoc hup g' c' cur hB hg hbase hc hcur hcs hd hbr
set_option maxHeartbeats 2000000 in
set_option maxRecDepth 100000 in
theorem from_some (lb lo len cap : Nat) (k p : Nat → Int) (ao : Nat → Option Addr) (bl bc : Nat → Nat) (Y : Nat → Nat → Int) (w : World) (hS : PgSrc w lb lo len k p ao bl bc Y) (hl : len ≤ 4096) (hl0 : 0 < len) (hlc : len ≤ cap) :
    Calls Tryd.prog 27 #[.slice (some ⟨lb, lo, none⟩) len cap] w fun e w' => Below w.heap.size w w' ∧ ((∃ v, ¬ v = 0 ∧ fromE k p bl len = v ∧ e = .returned (.tuple #[.pointer none, .int .i64 v])) ∨ (fromE k p bl len = 0 ∧ e = .returned (.tuple #[.pointer (some ⟨w.heap.size + 1, 0, none⟩), .int .i64 0]) ∧ ∃ ps, Fr w' (w.heap.size + 1) w.heap.size len k p Y w.heap.size ps)) := by
  have HS : Hid (PgSrc w lb lo len k p ao bl bc Y) := hS
  clear hS
  go_enter Tryd.func27, Tryd.ntmps27
  go_wp2_with fail
  refine (new21 w).mono ?_
  rintro e w0 ⟨rfl, e0⟩
  have hs0 : w0.heap.size = w.heap.size + 2 := by rw [e0]; simp
  have HB0 : Hid (Below w.heap.size w w0) := (by rw [e0]; exact ((Below.refl _ w).alloc (Nat.le_refl _) _).alloc (by simp) _ : Below w.heap.size w w0)
  have HF0 : Hid (Fr w0 (w.heap.size + 1) w.heap.size 0 k p Y w.heap.size []) := by
    refine (⟨rfl, ?_, ?_, fun j x h => by simp at h, fun j x h => by simp at h, List.Pairwise.nil, List.Pairwise.nil⟩ : Fr w0 (w.heap.size + 1) w.heap.size 0 k p Y w.heap.size [])
    · rw [e0]
      have := World.alloc_heap_new (w.alloc (.map #[] 0)) (.cells #[.map (some w.heap.size)] 84)
      simp at this
      simp [World.cell?, this]
    · rw [e0]; exact heap_on (heap_at w _) _
  clear e0
  go_wp2_with fail
  go_loopw [13] (fun x wr => ∃ i : Nat, i ≤ len ∧ x = .int .i64 i ∧ fromE k p bl i = 0 ∧ Below w.heap.size w wr ∧ w.heap.size + 2 ≤ wr.heap.size ∧ ∃ ps, Fr wr (w.heap.size + 1) w.heap.size i k p Y w.heap.size ps) (fun x _ => len - (intOf x).toNat)
  case atStart => exact ⟨0, Nat.zero_le _, rfl, rfl, HB0.out, by omega, [], HF0.out⟩
  case round =>
    obtain ⟨i, hi, rfl, h0, hbl, hsz, ps, hfr⟩ := hrel
    have HB : Hid (Below w.heap.size w wr) := hbl
    have HF : Hid (Fr wr (w.heap.size + 1) w.heap.size i k p Y w.heap.size ps) := hfr
    have H0 : Hid (fromE k p bl i = 0) := h0
    clear hbl hfr h0
    by_cases hlt : i < len
    · have hSr := HS.out.below HB.out
      have d0 := hSr.c0 i hlt
      have d1 := hSr.c1 i hlt
      have d2 := hSr.c2 i hlt
      have hlb : lb < wr.heap.size := lt_of_cell d0
      have rk := hSr.rk i hlt
      have HC : Hid (bl i = 4096 → ∃ g o, ao i = some ⟨g, o, none⟩ ∧ ∀ j, j < 4096 → wr.cell? ⟨g, o + j, none⟩ = some (.int .u8 (Y i j))) := hSr.cs i hlt
      have HE : Hid (stepE k p bl i = if badB k bl i then 20 else if permB (p i) then 0 else 21) := rfl
      have HK1 : Hid (badB k bl i = (decide (¬ k i % 4096 = 0) || (decide (281474976710656 ≤ k i) || ((decide (0 < i) && decide (k i ≤ k (i - 1))) || decide (¬ bl i = 4096))))) := rfl
      clear hSr
      obtain ⟨rk0, rk1⟩ := rk
      have HX : Hid (∀ v, ¬ v = 0 → stepE k p bl i = v → fromE k p bl len = v) := fun v hv he => fromE_bad H0.out hlt he hv
      by_cases hk : k i % 4096 = 0
      · have hkb : (k i % 4096 != 0) = false := by simpa using hk
        by_cases hk2 : 281474976710656 ≤ k i
        · have hk2b : decide (281474976710656 ≤ k i) = true := by simpa using hk2
          go_wp2_with fail
          go_quiet (fail)
          go_wp2
          go_ret2
          exact ⟨below_drewN (HB.out.alloc HB.out.size _) _, .inl ⟨20, by decide, HX.out 20 (by decide) (by rw [HE.out, HK1.out]; simp [hk2]), rfl⟩⟩
        · have hk2b : decide (281474976710656 ≤ k i) = false := by simpa using hk2
          by_cases hi0 : 0 < i
          · have dm : wr.cell? ⟨lb, lo + (i - 1) * 3, none⟩ = some (.int .u64 (k (i - 1))) := (HS.out.below HB.out).c0 (i - 1) (by omega)
            by_cases hk3 : k i ≤ k (i - 1)
            · have hk3b : decide (k i ≤ k (i - 1)) = true := by simpa using hk3
              go_wp2_with fail
              go_quiet (fail)
              go_wp2
              go_ret2
              exact ⟨below_drewN (HB.out.alloc HB.out.size _) _, .inl ⟨20, by decide, HX.out 20 (by decide) (by rw [HE.out, HK1.out]; simp [hi0, hk3]), rfl⟩⟩
            · have hk3b : decide (k i ≤ k (i - 1)) = false := by simpa using hk3
              by_cases hb : bl i = 4096
              · have hbb : (((bl i : Nat) : Int) != 4096) = false := by simp [hb]
                have HOK : Hid (badB k bl i = false) := (by rw [HK1.out]; simp [hk, hk2, hk3, hb] : badB k bl i = false)
                obtain ⟨g, o, hao, hY⟩ := HC.out hb
                have HY : Hid (∀ j, j < 4096 → wr.cell? ⟨g, o + j, none⟩ = some (.int .u8 (Y i j))) := hY
                have HUP : Hid (0 < i → k (i - 1) < k i) := fun _ => by omega
                rw [hao, hb] at d2
                clear hY
                go_wp2_with fail
                go_quiet (fail)
                go_wp2_with fail
                refine (perm28 (p i) _).mono ?_
                rintro e w5 ⟨rfl, e5⟩
                have HB5 : Hid (Below wr.heap.size wr w5) := (by rw [e5]; exact below_drewN ((Below.refl _ wr).alloc (Nat.le_refl _) _) _ : Below wr.heap.size wr w5)
                have x0 : w5.cell? ⟨wr.heap.size, 0, none⟩ = some (.int .u64 (k i)) := by rw [e5]; simp
                have x1 : w5.cell? ⟨wr.heap.size, 1, none⟩ = some (.int .i64 (p i)) := by rw [e5]; simp
                have x2 : w5.cell? ⟨wr.heap.size, 2, none⟩ = some (.slice (some ⟨g, o, none⟩) 4096 (bc i)) := by rw [e5]; simp
                have HB6 : Hid (Below w.heap.size w w5) := HB.out.trans (HB5.out.mono HB.out.size)
                have HF5 : Hid (Fr w5 (w.heap.size + 1) w.heap.size i k p Y w.heap.size ps) := fr_below HF.out HB5.out
                have xb : w5.cell? ⟨w.heap.size + 1, 0, none⟩ = some (.map (some w.heap.size)) := HF5.out.cell
                clear e5 d0 d1 d2
                cases hpm : permB (p i)
                · go_wp2
                  go_ret2
                  exact ⟨HB6.out, .inl ⟨21, by decide, HX.out 21 (by decide) (by rw [HE.out, HOK.out, hpm]; rfl), rfl⟩⟩
                · have HC2 : Hid (∀ W1, Below w5.heap.size w5 W1 → Calls Tryd.prog 43 #[.agg #[.int .u64 (k i), .int .i64 (p i), .slice (some ⟨g, o, none⟩) 4096 (bc i)]] W1 fun e w' => ∃ g' c' X, e = .returned (.agg #[.int .u64 (k i), .int .i64 (p i), .slice (some ⟨g', 0, none⟩) 4096 c']) ∧ w'.cell? ⟨w.heap.size + 1, 0, none⟩ = some (.map (some w.heap.size)) ∧ w'.cell? ⟨wr.heap.size, 0, none⟩ = some (.int .u64 (k i)) ∧ w'.cell? ⟨wr.heap.size, 1, none⟩ = some (.int .i64 (p i)) ∧ w'.cell? ⟨wr.heap.size, 2, none⟩ = some (.slice (some ⟨g, o, none⟩) 4096 (bc i)) ∧
                      (Instr.mapUpdate 82 (.map (some w.heap.size)) (.int .u64 (k i)) (.agg #[.int .u64 (k i), .int .i64 (p i), .slice (some ⟨g', 0, none⟩) 4096 c'])).run Tryd.prog w' = .ok () (w'.putObj w.heap.size X) ∧ (w'.putObj w.heap.size X).cell? ⟨w.heap.size + 1, 0, none⟩ = some (.map (some w.heap.size)) ∧ (w'.putObj w.heap.size X).cell? ⟨wr.heap.size, 0, none⟩ = some (.int .u64 (k i)) ∧ (w'.putObj w.heap.size X).cell? ⟨wr.heap.size, 1, none⟩ = some (.int .i64 (p i)) ∧ (w'.putObj w.heap.size X).cell? ⟨wr.heap.size, 2, none⟩ = some (.slice (some ⟨g, o, none⟩) 4096 (bc i)) ∧ Hid (Below W1.heap.size W1 w' ∧ Fr (w'.putObj w.heap.size X) (w.heap.size + 1) w.heap.size (i + 1) k p Y w.heap.size (ps ++ [⟨k i, p i, g', c'⟩]))) := fun W1 hb1 =>
                    copied_stored g o (bc i) W1 (fr_below HF5.out hb1) (Nat.le_trans HB6.out.size hb1.size) HUP.out (by omega) (by omega) (fun j hj => by have t := HY.out j hj; have t5 := (HB5.out.cell (p := ⟨g, o + j, none⟩) (lt_of_cell t)).trans t; exact (hb1.cell (p := ⟨g, o + j, none⟩) (lt_of_cell t5)).trans t5) ((hb1.cell (p := ⟨wr.heap.size, 0, none⟩) (lt_of_cell x0)).trans x0) ((hb1.cell (p := ⟨wr.heap.size, 1, none⟩) (lt_of_cell x0)).trans x1) ((hb1.cell (p := ⟨wr.heap.size, 2, none⟩) (lt_of_cell x0)).trans x2)
                  have HST : Hid (fromE k p bl (i + 1) = 0) := (by rw [fromE, if_pos H0.out, HE.out, HOK.out, hpm]; rfl : fromE k p bl (i + 1) = 0)
                  have s5 := HB6.out.size
                  go_wp2_with fail
                  go_region_held3 (fun w' => w'.cell? ⟨w.heap.size + 1, 0, none⟩ = some (.map (some w.heap.size)) ∧ w'.cell? ⟨wr.heap.size, 0, none⟩ = some (.int .u64 (k i)) ∧ w'.cell? ⟨wr.heap.size, 1, none⟩ = some (.int .i64 (p i)) ∧ w'.cell? ⟨wr.heap.size, 2, none⟩ = some (.slice (some ⟨g, o, none⟩) 4096 (bc i))) (first | (go_keep; done) | (refine ⟨?_, ?_, ?_, ?_⟩ <;> (first | (go_keep; done) | assumption | (simp; done))))
                    (first | (go_at_call 43; refine (HC2.out _ (by first | exact Below.refl _ _ | exact (Below.refl _ _).drew)).mono ?_; rintro e w6 ⟨g', c', X, rfl, _y0, _y1, _y2, _y3, _yu, _y4, _y5, _y6, _y7, _yh⟩))
                  go_wp2
                  go_roundw
                  case rel => exact ⟨i + 1, by omega, by go_num, HST.out, below_putObj (HB6.out.drew.trans (_yh.out.1.mono HB6.out.size)) (Nat.le_refl _) _, by have := _yh.out.1.size; have := HB5.out.size; simp [World.putObj] at *; omega, _, _yh.out.2⟩
                  case measure => simp [intOf]; omega
              · have hbb : (((bl i : Nat) : Int) != 4096) = true := by simp; omega
                go_wp2_with fail
                go_quiet (fail)
                go_wp2
                go_ret2
                exact ⟨below_drewN (HB.out.alloc HB.out.size _) _, .inl ⟨20, by decide, HX.out 20 (by decide) (by rw [HE.out, HK1.out]; simp [hb]), rfl⟩⟩
          · have hi1 : decide (0 < (i : Int)) = false := by simp; omega
            by_cases hb : bl i = 4096
            · have hbb : (((bl i : Nat) : Int) != 4096) = false := by simp [hb]
              have HOK : Hid (badB k bl i = false) := (by rw [HK1.out]; simp [hk, hk2, hi0, hb] : badB k bl i = false)
              obtain ⟨g, o, hao, hY⟩ := HC.out hb
              have HY : Hid (∀ j, j < 4096 → wr.cell? ⟨g, o + j, none⟩ = some (.int .u8 (Y i j))) := hY
              have HUP : Hid (0 < i → k (i - 1) < k i) := fun h => absurd h hi0
              rw [hao, hb] at d2
              clear hY
              go_wp2_with fail
              go_quiet (fail)
              go_wp2_with fail
              refine (perm28 (p i) _).mono ?_
              rintro e w5 ⟨rfl, e5⟩
              have HB5 : Hid (Below wr.heap.size wr w5) := (by rw [e5]; exact below_drewN ((Below.refl _ wr).alloc (Nat.le_refl _) _) _ : Below wr.heap.size wr w5)
              have x0 : w5.cell? ⟨wr.heap.size, 0, none⟩ = some (.int .u64 (k i)) := by rw [e5]; simp
              have x1 : w5.cell? ⟨wr.heap.size, 1, none⟩ = some (.int .i64 (p i)) := by rw [e5]; simp
              have x2 : w5.cell? ⟨wr.heap.size, 2, none⟩ = some (.slice (some ⟨g, o, none⟩) 4096 (bc i)) := by rw [e5]; simp
              have HB6 : Hid (Below w.heap.size w w5) := HB.out.trans (HB5.out.mono HB.out.size)
              have HF5 : Hid (Fr w5 (w.heap.size + 1) w.heap.size i k p Y w.heap.size ps) := fr_below HF.out HB5.out
              have xb : w5.cell? ⟨w.heap.size + 1, 0, none⟩ = some (.map (some w.heap.size)) := HF5.out.cell
              clear e5 d0 d1 d2
              cases hpm : permB (p i)
              · go_wp2
                go_ret2
                exact ⟨HB6.out, .inl ⟨21, by decide, HX.out 21 (by decide) (by rw [HE.out, HOK.out, hpm]; rfl), rfl⟩⟩
              · have HC2 : Hid (∀ W1, Below w5.heap.size w5 W1 → Calls Tryd.prog 43 #[.agg #[.int .u64 (k i), .int .i64 (p i), .slice (some ⟨g, o, none⟩) 4096 (bc i)]] W1 fun e w' => ∃ g' c' X, e = .returned (.agg #[.int .u64 (k i), .int .i64 (p i), .slice (some ⟨g', 0, none⟩) 4096 c']) ∧ w'.cell? ⟨w.heap.size + 1, 0, none⟩ = some (.map (some w.heap.size)) ∧ w'.cell? ⟨wr.heap.size, 0, none⟩ = some (.int .u64 (k i)) ∧ w'.cell? ⟨wr.heap.size, 1, none⟩ = some (.int .i64 (p i)) ∧ w'.cell? ⟨wr.heap.size, 2, none⟩ = some (.slice (some ⟨g, o, none⟩) 4096 (bc i)) ∧
                    (Instr.mapUpdate 82 (.map (some w.heap.size)) (.int .u64 (k i)) (.agg #[.int .u64 (k i), .int .i64 (p i), .slice (some ⟨g', 0, none⟩) 4096 c'])).run Tryd.prog w' = .ok () (w'.putObj w.heap.size X) ∧ (w'.putObj w.heap.size X).cell? ⟨w.heap.size + 1, 0, none⟩ = some (.map (some w.heap.size)) ∧ (w'.putObj w.heap.size X).cell? ⟨wr.heap.size, 0, none⟩ = some (.int .u64 (k i)) ∧ (w'.putObj w.heap.size X).cell? ⟨wr.heap.size, 1, none⟩ = some (.int .i64 (p i)) ∧ (w'.putObj w.heap.size X).cell? ⟨wr.heap.size, 2, none⟩ = some (.slice (some ⟨g, o, none⟩) 4096 (bc i)) ∧ Hid (Below W1.heap.size W1 w' ∧ Fr (w'.putObj w.heap.size X) (w.heap.size + 1) w.heap.size (i + 1) k p Y w.heap.size (ps ++ [⟨k i, p i, g', c'⟩]))) := fun W1 hb1 =>
                  copied_stored g o (bc i) W1 (fr_below HF5.out hb1) (Nat.le_trans HB6.out.size hb1.size) HUP.out (by omega) (by omega) (fun j hj => by have t := HY.out j hj; have t5 := (HB5.out.cell (p := ⟨g, o + j, none⟩) (lt_of_cell t)).trans t; exact (hb1.cell (p := ⟨g, o + j, none⟩) (lt_of_cell t5)).trans t5) ((hb1.cell (p := ⟨wr.heap.size, 0, none⟩) (lt_of_cell x0)).trans x0) ((hb1.cell (p := ⟨wr.heap.size, 1, none⟩) (lt_of_cell x0)).trans x1) ((hb1.cell (p := ⟨wr.heap.size, 2, none⟩) (lt_of_cell x0)).trans x2)
                have HST : Hid (fromE k p bl (i + 1) = 0) := (by rw [fromE, if_pos H0.out, HE.out, HOK.out, hpm]; rfl : fromE k p bl (i + 1) = 0)
                have s5 := HB6.out.size
                go_wp2_with fail
                go_region_held3 (fun w' => w'.cell? ⟨w.heap.size + 1, 0, none⟩ = some (.map (some w.heap.size)) ∧ w'.cell? ⟨wr.heap.size, 0, none⟩ = some (.int .u64 (k i)) ∧ w'.cell? ⟨wr.heap.size, 1, none⟩ = some (.int .i64 (p i)) ∧ w'.cell? ⟨wr.heap.size, 2, none⟩ = some (.slice (some ⟨g, o, none⟩) 4096 (bc i))) (first | (go_keep; done) | (refine ⟨?_, ?_, ?_, ?_⟩ <;> (first | (go_keep; done) | assumption | (simp; done))))
                  (first | (go_at_call 43; refine (HC2.out _ (by first | exact Below.refl _ _ | exact (Below.refl _ _).drew)).mono ?_; rintro e w6 ⟨g', c', X, rfl, _y0, _y1, _y2, _y3, _yu, _y4, _y5, _y6, _y7, _yh⟩))
                go_wp2
                go_roundw
                case rel => exact ⟨i + 1, by omega, by go_num, HST.out, below_putObj (HB6.out.drew.trans (_yh.out.1.mono HB6.out.size)) (Nat.le_refl _) _, by have := _yh.out.1.size; have := HB5.out.size; simp [World.putObj] at *; omega, _, _yh.out.2⟩
                case measure => simp [intOf]; omega
            · have hbb : (((bl i : Nat) : Int) != 4096) = true := by simp; omega
              go_wp2_with fail
              go_quiet (fail)
              go_wp2
              go_ret2
              exact ⟨below_drewN (HB.out.alloc HB.out.size _) _, .inl ⟨20, by decide, HX.out 20 (by decide) (by rw [HE.out, HK1.out]; simp [hb]), rfl⟩⟩
      · have hkb : (k i % 4096 != 0) = true := by simpa using hk
        go_wp2_with fail
        go_quiet (fail)
        go_wp2
        go_ret2
        exact ⟨below_drewN (HB.out.alloc HB.out.size _) _, .inl ⟨20, by decide, HX.out 20 (by decide) (by rw [HE.out, HK1.out]; simp [hk]), rfl⟩⟩
    · obtain rfl : i = len := by omega
      go_wp2
      go_ret2
      exact ⟨HB.out, .inr ⟨H0.out, rfl, ps, HF.out⟩⟩
set_option maxHeartbeats 1000000 in
theorem from_great (ao : Option Addr) (len cap : Nat) (w : World) (hl : 4096 < len) : Calls Tryd.prog 27 #[.slice ao len cap] w fun e w' => e = .returned (.tuple #[.pointer none, .int .i64 20]) ∧ w' = w := by
  go_enter Tryd.func27, Tryd.ntmps27
  go_wp2
  go_ret2
  exact ⟨rfl, rfl⟩
set_option maxHeartbeats 1000000 in
theorem from_empty (ao : Option Addr) (cap : Nat) (k p : Nat → Int) (Y : Nat → Nat → Int) (w : World) : Calls Tryd.prog 27 #[.slice ao 0 cap] w fun e w' => Below w.heap.size w w' ∧ e = .returned (.tuple #[.pointer (some ⟨w.heap.size + 1, 0, none⟩), .int .i64 0]) ∧ Fr w' (w.heap.size + 1) w.heap.size 0 k p Y w.heap.size [] := by
  go_enter Tryd.func27, Tryd.ntmps27
  go_wp2_with fail
  refine (new21 w).mono ?_
  rintro e w0 ⟨rfl, e0⟩
  have HB0 : Hid (Below w.heap.size w w0) := (by rw [e0]; exact ((Below.refl _ w).alloc (Nat.le_refl _) _).alloc (by simp) _ : Below w.heap.size w w0)
  have HF0 : Hid (Fr w0 (w.heap.size + 1) w.heap.size 0 k p Y w.heap.size []) := by
    refine (⟨rfl, ?_, ?_, fun j x h => by simp at h, fun j x h => by simp at h, List.Pairwise.nil, List.Pairwise.nil⟩ : Fr w0 (w.heap.size + 1) w.heap.size 0 k p Y w.heap.size [])
    · rw [e0]
      have := World.alloc_heap_new (w.alloc (.map #[] 0)) (.cells #[.map (some w.heap.size)] 84)
      simp at this
      simp [World.cell?, this]
    · rw [e0]; exact heap_on (heap_at w _) _
  clear e0
  go_wp2_with fail
  go_loopw [13] (fun x wr => x = .int .i64 0 ∧ wr = w0) (fun _ _ => 0)
  case atStart => exact ⟨rfl, rfl⟩
  case round =>
    obtain ⟨rfl, rfl⟩ := hrel
    go_wp2
    go_ret2
    exact ⟨HB0.out, rfl, HF0.out⟩
/-- The bytes as the world has them. -/
def btOf (W : World) (g j : Nat) : Int := match W.cell? ⟨g, j, none⟩ with
  | some (.int .u8 y) => if 0 ≤ y ∧ y < 256 then y else 0
  | _ => 0
theorem btOf_small (W : World) (g j : Nat) : 0 ≤ btOf W g j ∧ btOf W g j < 256 := by
  unfold btOf
  split
  · split <;> omega
  · omega
theorem btOf_at {W : World} {g j : Nat} {y : Int} (h : W.cell? ⟨g, j, none⟩ = some (.int .u8 y)) (h1 : 0 ≤ y ∧ y < 256) : btOf W g j = y := by
  unfold btOf
  rw [h]
  simp [h1]
theorem Fr.mm {W : World} {b r i : Nat} {k p : Nat → Int} {Y : Nat → Nat → Int} {base : Nat} {ps : List Pgd} (h : Fr W b r i k p Y base ps) (hY : ∀ i j, 0 ≤ Y i j ∧ Y i j < 256) : Mm W b r ps (btOf W) := by
  refine ⟨h.cell, h.map, fun x hx j hj => ?_, btOf_small W, fun x hx => ?_⟩
  · obtain ⟨t, ht, rfl⟩ := List.getElem_of_mem hx
    have e := (h.data t _ (List.getElem?_eq_getElem ht)).2 j hj
    rw [e, btOf_at e (hY t j)]
  · obtain ⟨t, ht, rfl⟩ := List.getElem_of_mem hx
    exact (h.at_ t _ (List.getElem?_eq_getElem ht)).2.2.1
/-- Pages that came in, whatever they are. -/
structure PgArg (W : World) (v : Value) (len : Nat) (k p : Nat → Int) (ao : Nat → Option Addr) (bl bc : Nat → Nat) (Y : Nat → Nat → Int) : Prop where
  shape : ∃ a cap, v = .slice a len cap ∧ len ≤ cap ∧ (0 < len → ∃ lb lo, a = some ⟨lb, lo, none⟩ ∧ PgSrc W lb lo len k p ao bl bc Y)
  by_ : ∀ i j, 0 ≤ Y i j ∧ Y i j < 256
theorem PgArg.below {W W' : World} {v : Value} {len : Nat} {k p : Nat → Int} {ao : Nat → Option Addr} {bl bc : Nat → Nat} {Y : Nat → Nat → Int} (h : PgArg W v len k p ao bl bc Y) (hb : Below W.heap.size W W') : PgArg W' v len k p ao bl bc Y := by
  obtain ⟨⟨a, cap, e, hc, hs⟩, hy⟩ := h
  exact ⟨⟨a, cap, e, hc, fun h0 => by obtain ⟨lb, lo, e1, s⟩ := hs h0; exact ⟨lb, lo, e1, s.below hb⟩⟩, hy⟩
/-- What From tells. -/
def errE (len : Nat) (k p : Nat → Int) (bl : Nat → Nat) : Int := if 4096 < len then 20 else fromE k p bl len
theorem from_any {v : Value} {len : Nat} {k p : Nat → Int} {ao : Nat → Option Addr} {bl bc : Nat → Nat} {Y : Nat → Nat → Int} (w : World) (h : PgArg w v len k p ao bl bc Y) :
    Calls Tryd.prog 27 #[v] w fun e w' => Below w.heap.size w w' ∧ ((¬ errE len k p bl = 0 ∧ e = .returned (.tuple #[.pointer none, .int .i64 (errE len k p bl)])) ∨ (errE len k p bl = 0 ∧ len ≤ 4096 ∧ e = .returned (.tuple #[.pointer (some ⟨w.heap.size + 1, 0, none⟩), .int .i64 0]) ∧ ∃ ps, Fr w' (w.heap.size + 1) w.heap.size len k p Y w.heap.size ps)) := by
  obtain ⟨⟨a, cap, rfl, hc, hs⟩, hy⟩ := h
  unfold errE
  by_cases hg : 4096 < len
  · rw [if_pos hg]
    refine (from_great a len cap w hg).mono ?_
    rintro e w' ⟨rfl, rfl⟩
    exact ⟨Below.refl _ _, .inl ⟨by decide, rfl⟩⟩
  · rw [if_neg hg]
    rcases Nat.eq_zero_or_pos len with rfl | h0
    · refine (from_empty a cap k p Y w).mono ?_
      rintro e w' ⟨hb, rfl, hf⟩
      exact ⟨hb, .inr ⟨rfl, by omega, rfl, [], hf⟩⟩
    · obtain ⟨lb, lo, rfl, hS⟩ := hs h0
      refine (from_some lb lo len cap k p ao bl bc Y w hS (by omega) h0 hc).mono ?_
      rintro e w' ⟨hb, ⟨v, hv, hf, rfl⟩ | ⟨hf, rfl, ps, hF⟩⟩
      · exact ⟨hb, .inl ⟨by rw [hf]; exact hv, by rw [hf]⟩⟩
      · exact ⟨hb, .inr ⟨hf, by omega, rfl, ps, hF⟩⟩
def farB (a n : Int) : Prop := 281474976710656 ≤ a ∨ 281474976710656 - a < n
set_option maxHeartbeats 1000000 in
theorem usable_far (v : Value) (a perm : Int) (n : Nat) (w : World) (a0 : 0 ≤ a) (a1 : a < 18446744073709551616) (n1 : n ≤ 8) (hf : farB a n) : Calls Tryd.prog 69 #[v, .int .u64 a, .int .i64 n, .int .i64 perm] w fun e w' => e = .returned (.int .i64 1) ∧ Below w.heap.size w w' := by
  have HB : Hid (∀ W, Calls Tryd.prog 81 #[.int .u64 a, .int .u64 (n : Int)] W fun e w' => e = .returned (.bool true) ∧ w' = W) := fun W => by
    unfold farB at hf
    by_cases h1 : 281474976710656 ≤ a
    · have h1b : decide (281474976710656 ≤ a) = true := by simpa using h1
      go_enter Tryd.func81, Tryd.ntmps81
      go_wp2
      go_ret
      exact ⟨rfl, rfl⟩
    · have h1b : decide (281474976710656 ≤ a) = false := by simpa using h1
      have h2 : 281474976710656 - a < (n : Int) := by omega
      go_enter Tryd.func81, Tryd.ntmps81
      go_wp2
      go_ret
      exact ⟨by simp, rfl⟩
  go_enter Tryd.func69, Tryd.ntmps69
  go_wp2_with fail
  refine (HB.out _).mono ?_
  rintro e w1 ⟨rfl, e1⟩
  subst e1
  go_wp2
  go_ret
  exact ⟨rfl, Below.refl _ _⟩
set_option maxHeartbeats 1000000 in
theorem number_far (v : Value) (a perm : Int) (n : Nat) (w : World) (a0 : 0 ≤ a) (a1 : a < 18446744073709551616) (hn : isN n) (hf : farB a n) : Calls Tryd.prog 55 #[v, .int .u64 a, .int .i64 n, .int .i64 perm] w fun e w' => e = .returned (.int .i64 1) ∧ Below w.heap.size w w' := by
  have HU : Hid (Calls Tryd.prog 69 #[v, .int .u64 a, .int .i64 n, .int .i64 perm] w fun e w' => e = .returned (.int .i64 1) ∧ Below w.heap.size w w') := usable_far v a perm n w a0 a1 (by unfold isN at hn; omega) hf
  clear hf
  rcases hn with rfl | rfl | rfl | rfl
  all_goals
    go_enter Tryd.func55, Tryd.ntmps55
    go_wp2_with fail
    refine HU.out.mono ?_
    rintro e w1 ⟨rfl, hb⟩
    go_wp2
    go_ret
    exact ⟨rfl, hb⟩
def fE (ps : List Pgd) (a : Int) : Int := if a % 4 = 0 then (if 281474976710656 ≤ a then 1 else useE ps a 4 1) else 1
def fV (ps : List Pgd) (bt : Nat → Nat → Int) (a : Int) : Int := if fE ps a = 0 then sumV (byts ps bt a 4) else 0
theorem sum4_bound (ps : List Pgd) (bt : Nat → Nat → Int) (hbt : ∀ g j, 0 ≤ bt g j ∧ bt g j < 256) (a : Int) : 0 ≤ sumV (byts ps bt a 4) ∧ sumV (byts ps bt a 4) < 4294967296 := by
  have t := sumV_bound (byts ps bt a 4) (fun x hx => by obtain ⟨j, _, rfl⟩ := List.mem_map.1 hx; exact hbt _ _)
  rw [byts_len] at t
  exact t
set_option maxHeartbeats 1000000 in
theorem fetch_odd (v : Value) (a : Int) (w : World) (a0 : 0 ≤ a) (h : ¬ a % 4 = 0) : Calls Tryd.prog 45 #[v, .int .u64 a] w fun e w' => e = .returned (.tuple #[.int .u32 0, .int .i64 1]) ∧ w' = w := by
  have hb : (a % 4 != 0) = true := by simpa using h
  go_enter Tryd.func45, Tryd.ntmps45
  go_wp2
  go_ret2
  exact ⟨rfl, rfl⟩
set_option maxHeartbeats 1000000 in
theorem fetch_err (v : Value) (a x : Int) (w : World) (a0 : 0 ≤ a) (h : a % 4 = 0) (hx : ¬ x = 0) (hN : Calls Tryd.prog 55 #[v, .int .u64 a, .int .i64 4, .int .i64 1] w fun e w' => e = .returned (.int .i64 x) ∧ Below w.heap.size w w') : Calls Tryd.prog 45 #[v, .int .u64 a] w fun e w' => e = .returned (.tuple #[.int .u32 0, .int .i64 x]) ∧ Below w.heap.size w w' := by
  have HN : Hid (Calls Tryd.prog 55 #[v, .int .u64 a, .int .i64 4, .int .i64 1] w fun e w' => e = .returned (.int .i64 x) ∧ Below w.heap.size w w') := hN
  have hxb : (x != 0) = true := by simpa using hx
  have hb : (a % 4 != 0) = false := by simpa using h
  clear hN
  go_enter Tryd.func45, Tryd.ntmps45
  go_wp2_with fail
  refine HN.out.mono ?_
  rintro e w1 ⟨rfl, hb1⟩
  have HB : Hid (Below w.heap.size w w1) := hb1
  clear hb1
  go_wp2
  go_ret2
  exact ⟨rfl, HB.out⟩
set_option maxHeartbeats 1000000 in
theorem fetch_ok (v : Value) (a y : Int) (w : World) (a0 : 0 ≤ a) (h : a % 4 = 0) (y0 : 0 ≤ y) (y1 : y < 4294967296) (hN : Calls Tryd.prog 55 #[v, .int .u64 a, .int .i64 4, .int .i64 1] w fun e w' => e = .returned (.int .i64 0) ∧ Below w.heap.size w w') (hV : ∀ W, Below w.heap.size w W → Calls Tryd.prog 56 #[v, .int .u64 a, .int .i64 4] W fun e w' => e = .returned (.int .u64 y) ∧ Below W.heap.size W w') : Calls Tryd.prog 45 #[v, .int .u64 a] w fun e w' => e = .returned (.tuple #[.int .u32 y, .int .i64 0]) ∧ Below w.heap.size w w' := by
  have HN : Hid (Calls Tryd.prog 55 #[v, .int .u64 a, .int .i64 4, .int .i64 1] w fun e w' => e = .returned (.int .i64 0) ∧ Below w.heap.size w w') := hN
  have HV : Hid (∀ W, Below w.heap.size w W → Calls Tryd.prog 56 #[v, .int .u64 a, .int .i64 4] W fun e w' => e = .returned (.int .u64 y) ∧ Below W.heap.size W w') := hV
  have hb : (a % 4 != 0) = false := by simpa using h
  clear hN hV
  go_enter Tryd.func45, Tryd.ntmps45
  go_wp2_with fail
  refine HN.out.mono ?_
  rintro e w1 ⟨rfl, hb1⟩
  have HB : Hid (Below w.heap.size w w1) := hb1
  clear hb1
  go_wp2_with fail
  refine (HV.out w1 HB.out).mono ?_
  rintro e w2 ⟨rfl, hb2⟩
  have HB2 : Hid (Below w.heap.size w w2) := HB.out.trans (hb2.mono HB.out.size)
  clear hb2
  go_wp2
  go_ret2
  exact ⟨rfl, HB2.out⟩
theorem fetch_all (b r : Nat) (ps : List Pgd) (bt : Nat → Nat → Int) (a : Int) (w : World) (h : Mm w b r ps bt) (a0 : 0 ≤ a) (a1 : a < 18446744073709551616) : Calls Tryd.prog 45 #[.pointer (some ⟨b, 0, none⟩), .int .u64 a] w fun e w' => e = .returned (.tuple #[.int .u32 (fV ps bt a), .int .i64 (fE ps a)]) ∧ Below w.heap.size w w' := by
  unfold fV
  have h4 : isN 4 := by unfold isN; omega
  by_cases hm : a % 4 = 0
  · by_cases hf : 281474976710656 ≤ a
    · have e : fE ps a = 1 := by unfold fE; rw [if_pos hm, if_pos hf]
      rw [e, if_neg (by decide)]
      exact fetch_err _ a 1 w a0 hm (by decide) (number_far _ a 1 4 w a0 a1 h4 (.inl hf))
    · have e : fE ps a = useE ps a 4 1 := by unfold fE; rw [if_pos hm, if_neg hf]
      rw [e]
      have hN := number_any b r ps bt a 4 1 w h a0 h4 (by omega)
      by_cases hu : useE ps a 4 1 = 0
      · rw [if_pos hu]
        have hu' : useE ps a ((4 : Nat) : Int) 1 = 0 := hu
        rw [hu'] at hN
        rw [hu]
        have bd := sum4_bound ps bt h.small a
        refine fetch_ok _ a _ w a0 hm bd.1 bd.2 hN (fun W hb => ?_)
        have t := value_any b r ps bt a 4 (pM a 4) (pgX ps a) W (h.below hb) a0 (by omega) (by omega) (by omega) (pM_iff a0 (by omega) (by omega)) (by unfold pM; split <;> omega) (useE_zero hu')
        have pb := pieces_byts (ps := ps) (bt := bt) (n := 4) a0 (by omega) (by omega)
        have pb' : ((List.finRange (pM a 4)).flatMap fun x => pBy a 4 (pgX ps a) bt x.1) = byts ps bt a 4 := pb
        rw [pb', accV_sum _ _ rfl (fun x hx => by obtain ⟨j, _, rfl⟩ := List.mem_map.1 hx; exact h.small _ _) (by rw [byts_len]; omega)] at t
        exact t
      · rw [if_neg hu]
        exact fetch_err _ a _ w a0 hm hu hN
  · have e : fE ps a = 1 := by unfold fE; rw [if_neg hm]
    rw [e, if_neg (by decide)]
    exact (fetch_odd _ a w a0 hm).mono fun e w' ⟨h1, h2⟩ => ⟨h1, h2 ▸ Below.refl _ _⟩
end
end Go.Proofs.YtnmpbihpoefeoaaDoor
