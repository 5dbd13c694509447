/- Walks of the first question of every statement (speaks): the pieces of pages. -/
import Derived.Test.YtndbkkldfinggabM9
namespace Go.Proofs.Ytndbkkldfinggab
open Go.RowKit Go.Shelf
set_option maxHeartbeats 1000000 in
theorem number17_w (b r g1 g2 : Nat) (c1 c2 : Array Value) (w : World) (h : Two w b r g1 g2 c1 c2) : Calls Try.prog 30 #[.pointer (some ⟨b, 0, none⟩), .int .u64 8190, .int .i64 4, .int .i64 2] w fun e w' => e = .returned (.int .i64 0) ∧ Below w.heap.size w w' := by
  have HH : Hid (Two w b r g1 g2 c1 c2) := h
  clear h
  go_enter Try.func30, Try.ntmps30
  go_wp2_with fail
  refine (usable28_w b r g1 g2 c1 c2 _ HH.out).mono ?_
  rintro e w1 ⟨rfl, hb⟩
  go_wp2
  go_ret
  exact ⟨rfl, hb⟩
set_option maxHeartbeats 1000000 in
theorem number17_r (b r g1 g2 : Nat) (c1 c2 : Array Value) (w : World) (h : Two w b r g1 g2 c1 c2) : Calls Try.prog 30 #[.pointer (some ⟨b, 0, none⟩), .int .u64 8191, .int .i64 2, .int .i64 4] w fun e w' => e = .returned (.int .i64 0) ∧ Below w.heap.size w w' := by
  have HH : Hid (Two w b r g1 g2 c1 c2) := h
  clear h
  go_enter Try.func30, Try.ntmps30
  go_wp2_with fail
  refine (usable28_r b r g1 g2 c1 c2 _ HH.out).mono ?_
  rintro e w1 ⟨rfl, hb⟩
  go_wp2
  go_ret
  exact ⟨rfl, hb⟩
set_option maxHeartbeats 1000000 in
theorem number17_m (b r g1 g2 : Nat) (c1 c2 : Array Value) (w : World) (h : Two w b r g1 g2 c1 c2) : Calls Try.prog 30 #[.pointer (some ⟨b, 0, none⟩), .int .u64 12288, .int .i64 1, .int .i64 4] w fun e w' => e = .returned (.int .i64 20) ∧ Below w.heap.size w w' := by
  have HH : Hid (Two w b r g1 g2 c1 c2) := h
  clear h
  go_enter Try.func30, Try.ntmps30
  go_wp2_with fail
  refine (usable28_m b r g1 g2 c1 c2 _ HH.out).mono ?_
  rintro e w1 ⟨rfl, hb⟩
  go_wp2
  go_ret
  exact ⟨rfl, hb⟩
set_option maxHeartbeats 1000000 in
theorem runs29 (b : Nat) (p n : Int) (w : World) : Calls Try.prog 37 #[.pointer (some ⟨b, 0, none⟩), .int .u64 p, .int .i64 n] w fun e w' => e = .returned (.func (.func 53) #[] #[.pointer (some ⟨w.heap.size + 1, 0, none⟩), .pointer (some ⟨w.heap.size + 1 + 1, 0, none⟩), .pointer (some ⟨w.heap.size, 0, none⟩)]) ∧ w' = (((w.alloc (.cells #[.pointer (some ⟨b, 0, none⟩)] 26)).alloc (.cells #[.int .u64 p] 23)).alloc (.cells #[.int .i64 n] 3)) := by
  go_enter Try.func37, Try.ntmps37
  go_wp2
  go_ret
  exact ⟨rfl, rfl⟩
/-- What an iterator over pieces of pages asks of a round: the map of pages and where it is kept stay. -/
def Keep (b r m : Nat) (W W' : World) : Prop := W'.heap[r]? = W.heap[r]? ∧ W'.cell? ⟨b, 0, none⟩ = W.cell? ⟨b, 0, none⟩ ∧ W'.cell? ⟨m, 0, none⟩ = W.cell? ⟨m, 0, none⟩ ∧ W.heap.size ≤ W'.heap.size
theorem Keep.trans {b r m : Nat} {A B C : World} (h : Keep b r m A B) (k : Keep b r m B C) : Keep b r m A C := ⟨k.1.trans h.1, k.2.1.trans h.2.1, k.2.2.1.trans h.2.2.1, Nat.le_trans h.2.2.2 k.2.2.2⟩
theorem Keep.below {b r m : Nat} {A B : World} (hb : Below A.heap.size A B) (h1 : r < A.heap.size) (h2 : b < A.heap.size) (h3 : m < A.heap.size) : Keep b r m A B := ⟨hb.block r h1, hb.cell (p := ⟨b, 0, none⟩) h2, hb.cell (p := ⟨m, 0, none⟩) h3, hb.size⟩
theorem grown_of_below {A B : World} (hb : Below A.heap.size A B) : A.grownBy B none := ⟨hb.os, hb.tape, hb.output, hb.size, fun k hk _ => hb.block k hk⟩
def piece (g1 g2 o k : Nat) : Bool → Array Value
  | false => #[.slice (some ⟨g1, o, none⟩) k k]
  | true => #[.slice (some ⟨g2, 0, none⟩) k 4096]
set_option maxRecDepth 100000 in
set_option maxHeartbeats 2000000 in
theorem runs37_2 (n b r g1 g2 A N M : Nat) (c1 c2 : Array Value) (w : World) (hn : 2 ≤ n) (hT : Two w b r g1 g2 c1 c2) (hA : A < w.heap.size) (hN : N < w.heap.size) (hM : M < w.heap.size)
    (ha : w.cell? ⟨A, 0, none⟩ = some (.int .u64 8190)) (hno : w.cell? ⟨N, 0, none⟩ = some (.int .i64 4)) (hm : w.cell? ⟨M, 0, none⟩ = some (.pointer (some ⟨b, 0, none⟩))) :
    SeqStopsK Fence.wide n Try.prog 53 #[.pointer (some ⟨A, 0, none⟩), .pointer (some ⟨N, 0, none⟩), .pointer (some ⟨M, 0, none⟩)] (piece g1 g2 4094 2) (Keep b r M) (fun ys => ys = [false, true]) (fun _ => True) 2 w := fun l J Jx W hW hJ hJx hY h0 => by
  have h1 : W.cell? ⟨A, 0, none⟩ = some (.int .u64 8190) := (hW.cell (p := ⟨A, 0, none⟩) hA).trans ha
  have h2 : W.cell? ⟨N, 0, none⟩ = some (.int .i64 4) := (hW.cell (p := ⟨N, 0, none⟩) hN).trans hno
  have h3 : W.cell? ⟨M, 0, none⟩ = some (.pointer (some ⟨b, 0, none⟩)) := (hW.cell (p := ⟨M, 0, none⟩) hM).trans hm
  have HT : Hid (Two W b r g1 g2 c1 c2) := hT.below hW
  have HM : Hid (W.cell? ⟨M, 0, none⟩ = some (.pointer (some ⟨b, 0, none⟩))) := h3
  have sM : M < W.heap.size := Nat.lt_of_lt_of_le hM hW.size
  have HJ : Hid (AbidesFrom W.heap.size J) := hJ
  have HY : Hid (∀ pre x W1, J pre W1 → pre.length < 2 → YieldAt Fence.wide (n - 1) Try.prog l (piece g1 g2 4094 2 x) W1 fun e W' => (e = .returned (.bool true) ∧ J (pre ++ [x]) W' ∧ Keep b r M W1 W') ∨ (e = .returned (.bool false) ∧ Jx (pre ++ [x]) W')) := hY
  have H0 : Hid (J [] W) := h0
  clear hJ hJx hY h0 ha hno hm hT hW h3
  refine callsIn_of_wp Try.func53 rfl trivial ?_ rfl
  simp only [Try.ntmps53, List.size_toArray, List.length_cons, List.length_nil, Nat.reduceAdd, Nat.reduceSub, Array.replicate_succ, Array.replicate_zero, List.push_toArray, List.append_toArray, List.nil_append, List.cons_append]
  gi_wp2_with fail
  refine wpIn_wide.2 ?_
  go_quiet (fail)
  gi_wp2_with fail
  gi_loopw [5, 6] (fun x y wr => Keep b r M W wr ∧ ((x = .int .u64 8190 ∧ y = .int .i64 4 ∧ J [] wr) ∨ (x = .int .u64 8192 ∧ y = .int .i64 2 ∧ J [false] wr) ∨ (x = .int .u64 8194 ∧ y = .int .i64 0 ∧ J [false, true] wr))) (fun _ y _ => (intOf y).toNat)
  case atStart => exact ⟨⟨rfl, rfl, rfl, Nat.le_refl _⟩, .inl ⟨rfl, rfl, HJ.out _ _ _ none H0.out ⟨rfl, rfl, rfl, Nat.le_refl _, fun _ _ _ => rfl⟩ (by intro j h; cases h)⟩⟩
  case round =>
    obtain ⟨hk, hx⟩ := hrel
    have e1 : wr.cell? ⟨M, 0, none⟩ = some (.pointer (some ⟨b, 0, none⟩)) := hk.2.2.1.trans HM.out
    have e2 : wr.cell? ⟨b, 0, none⟩ = some (.map (some r)) := hk.2.1.trans HT.out.cell
    have e3 : wr.heap[r]? = some (.map #[ent 4096 g1 0, ent 8192 g2 1] 2) := hk.1.trans HT.out.map
    have e4 : b < wr.heap.size := by have := HT.out.sizes; have := hk.2.2.2; omega
    have e5 : M < wr.heap.size := by have := hk.2.2.2; omega
    have HK : Hid (Keep b r M W wr) := hk
    clear hk
    rcases hx with ⟨rfl, rfl, hj⟩ | ⟨rfl, rfl, hj⟩ | ⟨rfl, rfl, hj⟩
    · have HJ1 : Hid (J [] wr) := hj
      have HP : Hid (∀ W1, Below wr.heap.size wr W1 → Calls Try.prog 40 #[.pointer (some ⟨b, 0, none⟩), .int .u64 4096] W1 fun e w' => e = .returned (.tuple #[.agg #[.int .u64 4096, .int .i64 6, .slice (some ⟨g1, 0, none⟩) 4096 4096], .bool true]) ∧ Below wr.heap.size wr w' ∧ w'.cell? ⟨M, 0, none⟩ = some (.pointer (some ⟨b, 0, none⟩)) ∧ M < w'.heap.size ∧ (∀ x o, x < W1.heap.size → w'.cell? ⟨x, o, none⟩ = W1.cell? ⟨x, o, none⟩) ∧ (∀ x o, x < W1.heap.size → w'.frozen? ⟨x, o, none⟩ = W1.frozen? ⟨x, o, none⟩)) := fun W1 hb => (page25_hit b r g1 0 4096 _ 2 W1 ((hb.cell (p := ⟨b, 0, none⟩) e4).trans e2) (by have := hb.size; omega) ((hb.block r (lt_of_some e3)).trans e3) rfl).mono fun e w' ⟨he, hb'⟩ => by have hb2 := hb.trans (hb'.mono hb.size); exact ⟨he, hb2, (hb2.cell (p := ⟨M, 0, none⟩) e5).trans e1, Nat.lt_of_lt_of_le e5 hb2.size, fun x o hx => hb'.cell (p := ⟨x, o, none⟩) hx, fun x o hx => hb'.frozen (p := ⟨x, o, none⟩) hx⟩
      have e6 : ¬ wr.heap.size = M := by omega
      have e7 : ¬ M = wr.heap.size := by omega
      have HE : Hid (r < wr.heap.size ∧ b < wr.heap.size ∧ M < wr.heap.size) := ⟨lt_of_some e3, e4, e5⟩
      clear hj e2 e3
      gi_wp2_with fail
      refine wpIn_wide.2 ?_
      go_region_held3 (fun w' => w'.cell? ⟨M, 0, none⟩ = some (.pointer (some ⟨b, 0, none⟩)) ∧ M < w'.heap.size) (first | (go_keep; done) | (refine ⟨?_, ?_⟩ <;> (first | (go_keep; done) | assumption | (simp; done) | (simp; omega) | (simp; assumption))))
        (first | (go_at_call 54; refine (base36 8190 (by omega) (by omega) _).mono ?_; rintro e w3 ⟨rfl, q3⟩; subst q3) | (go_at_call 40; refine (HP.out _ (by first | exact Below.refl _ _ | exact (Below.refl _ _).drew | exact ((Below.refl _ _).alloc (Nat.le_refl _) _) | exact ((Below.refl _ _).alloc (Nat.le_refl _) _).drew | exact (((Below.refl _ _).drew).alloc (Nat.le_refl _) _))).mono ?_; rintro e w4 ⟨rfl, hb4, _z1, _z3, _z4, _z5⟩; have _z6 := hb4.size; have _hb4 : Hid (Below wr.heap.size wr w4) := hb4; clear hb4))
      · have hbx : Below wr.heap.size wr (w4.alloc (.cells #[.int .u64 4096, .int .i64 6, .slice (some ⟨g1, 0, none⟩) 4096 4096] 62)) := _hb4.out.alloc _z6 _
        obtain ⟨fn, tmps, assign, body, hy, hR⟩ := HY.out [] false _ (HJ.out _ _ _ none HJ1.out (grown_of_below hbx) (by intro j h; cases h)) (by decide)
        have HKx : Hid (Keep b r M W _) := HK.out.trans (Keep.below hbx HE.out.1 HE.out.2.1 HE.out.2.2)
        dsimp only [piece] at hy
        clear hbx
        gi_wp2_with fail
        refine ⟨fun _ => by omega, ?_⟩
        refine hR.mono ?_
        rintro e W' (⟨rfl, hJ', hk'⟩ | ⟨rfl, hJx'⟩)
        · have HJ' : Hid (J [false] W') := hJ'
          have HK' : Hid (Keep b r M W W') := HKx.out.trans hk'
          clear hJ' hk' HKx hy
          gi_wp2
          go_roundw
          case rel => exact ⟨HK'.out, .inr (.inl ⟨rfl, rfl, HJ'.out⟩)⟩
          case measure => simp [intOf]
        · have HX' : Hid (Jx [false] W') := hJx'
          clear hJx' HKx hy
          gi_wp2
          refine bodyPost_ret (results_none rfl _ _ _) rfl ?_
          exact ⟨⟨_, rfl⟩, .inr ⟨_, trivial, HX'.out⟩⟩
      · have hbx : Below wr.heap.size wr (((w4.setCell ⟨wr.heap.size, 0, none⟩ (.int .u64 4096)).setCell ⟨wr.heap.size, 1, none⟩ (.int .i64 6)).setCell ⟨wr.heap.size, 2, none⟩ (.slice (some ⟨g1, 0, none⟩) 4096 4096)) := (((_hb4.out.setCell (p := ⟨wr.heap.size, 0, none⟩) (Nat.le_refl _) _).setCell (p := ⟨wr.heap.size, 1, none⟩) (Nat.le_refl _) _).setCell (p := ⟨wr.heap.size, 2, none⟩) (Nat.le_refl _) _)
        obtain ⟨fn, tmps, assign, body, hy, hR⟩ := HY.out [] false _ (HJ.out _ _ _ none HJ1.out (grown_of_below hbx) (by intro j h; cases h)) (by decide)
        have HKx : Hid (Keep b r M W _) := HK.out.trans (Keep.below hbx HE.out.1 HE.out.2.1 HE.out.2.2)
        dsimp only [piece] at hy
        clear hbx
        gi_wp2_with fail
        refine ⟨fun _ => by omega, ?_⟩
        refine hR.mono ?_
        rintro e W' (⟨rfl, hJ', hk'⟩ | ⟨rfl, hJx'⟩)
        · have HJ' : Hid (J [false] W') := hJ'
          have HK' : Hid (Keep b r M W W') := HKx.out.trans hk'
          clear hJ' hk' HKx hy
          gi_wp2
          go_roundw
          case rel => exact ⟨HK'.out, .inr (.inl ⟨rfl, rfl, HJ'.out⟩)⟩
          case measure => simp [intOf]
        · have HX' : Hid (Jx [false] W') := hJx'
          clear hJx' HKx hy
          gi_wp2
          refine bodyPost_ret (results_none rfl _ _ _) rfl ?_
          exact ⟨⟨_, rfl⟩, .inr ⟨_, trivial, HX'.out⟩⟩
      · have hbx : Below wr.heap.size wr (((w4.setCell ⟨wr.heap.size, 0, none⟩ (.int .u64 4096)).setCell ⟨wr.heap.size, 1, none⟩ (.int .i64 6)).setCell ⟨wr.heap.size, 2, none⟩ (.slice (some ⟨g1, 0, none⟩) 4096 4096)) := (((_hb4.out.setCell (p := ⟨wr.heap.size, 0, none⟩) (Nat.le_refl _) _).setCell (p := ⟨wr.heap.size, 1, none⟩) (Nat.le_refl _) _).setCell (p := ⟨wr.heap.size, 2, none⟩) (Nat.le_refl _) _)
        obtain ⟨fn, tmps, assign, body, hy, hR⟩ := HY.out [] false _ (HJ.out _ _ _ none HJ1.out (grown_of_below hbx) (by intro j h; cases h)) (by decide)
        have HKx : Hid (Keep b r M W _) := HK.out.trans (Keep.below hbx HE.out.1 HE.out.2.1 HE.out.2.2)
        dsimp only [piece] at hy
        clear hbx
        gi_wp2_with fail
        refine ⟨fun _ => by omega, ?_⟩
        refine hR.mono ?_
        rintro e W' (⟨rfl, hJ', hk'⟩ | ⟨rfl, hJx'⟩)
        · have HJ' : Hid (J [false] W') := hJ'
          have HK' : Hid (Keep b r M W W') := HKx.out.trans hk'
          clear hJ' hk' HKx hy
          gi_wp2
          go_roundw
          case rel => exact ⟨HK'.out, .inr (.inl ⟨rfl, rfl, HJ'.out⟩)⟩
          case measure => simp [intOf]
        · have HX' : Hid (Jx [false] W') := hJx'
          clear hJx' HKx hy
          gi_wp2
          refine bodyPost_ret (results_none rfl _ _ _) rfl ?_
          exact ⟨⟨_, rfl⟩, .inr ⟨_, trivial, HX'.out⟩⟩
    · have HJ1 : Hid (J [false] wr) := hj
      have HP : Hid (∀ W1, Below wr.heap.size wr W1 → Calls Try.prog 40 #[.pointer (some ⟨b, 0, none⟩), .int .u64 8192] W1 fun e w' => e = .returned (.tuple #[.agg #[.int .u64 8192, .int .i64 6, .slice (some ⟨g2, 0, none⟩) 4096 4096], .bool true]) ∧ Below wr.heap.size wr w' ∧ w'.cell? ⟨M, 0, none⟩ = some (.pointer (some ⟨b, 0, none⟩)) ∧ M < w'.heap.size ∧ (∀ x o, x < W1.heap.size → w'.cell? ⟨x, o, none⟩ = W1.cell? ⟨x, o, none⟩) ∧ (∀ x o, x < W1.heap.size → w'.frozen? ⟨x, o, none⟩ = W1.frozen? ⟨x, o, none⟩)) := fun W1 hb => (page25_hit b r g2 1 8192 _ 2 W1 ((hb.cell (p := ⟨b, 0, none⟩) e4).trans e2) (by have := hb.size; omega) ((hb.block r (lt_of_some e3)).trans e3) rfl).mono fun e w' ⟨he, hb'⟩ => by have hb2 := hb.trans (hb'.mono hb.size); exact ⟨he, hb2, (hb2.cell (p := ⟨M, 0, none⟩) e5).trans e1, Nat.lt_of_lt_of_le e5 hb2.size, fun x o hx => hb'.cell (p := ⟨x, o, none⟩) hx, fun x o hx => hb'.frozen (p := ⟨x, o, none⟩) hx⟩
      have e6 : ¬ wr.heap.size = M := by omega
      have e7 : ¬ M = wr.heap.size := by omega
      have HE : Hid (r < wr.heap.size ∧ b < wr.heap.size ∧ M < wr.heap.size) := ⟨lt_of_some e3, e4, e5⟩
      clear hj e2 e3
      gi_wp2_with fail
      refine wpIn_wide.2 ?_
      go_region_held3 (fun w' => w'.cell? ⟨M, 0, none⟩ = some (.pointer (some ⟨b, 0, none⟩)) ∧ M < w'.heap.size) (first | (go_keep; done) | (refine ⟨?_, ?_⟩ <;> (first | (go_keep; done) | assumption | (simp; done) | (simp; omega) | (simp; assumption))))
        (first | (go_at_call 54; refine (base36 8192 (by omega) (by omega) _).mono ?_; rintro e w3 ⟨rfl, q3⟩; subst q3) | (go_at_call 40; refine (HP.out _ (by first | exact Below.refl _ _ | exact (Below.refl _ _).drew | exact ((Below.refl _ _).alloc (Nat.le_refl _) _) | exact ((Below.refl _ _).alloc (Nat.le_refl _) _).drew | exact (((Below.refl _ _).drew).alloc (Nat.le_refl _) _))).mono ?_; rintro e w4 ⟨rfl, hb4, _z1, _z3, _z4, _z5⟩; have _z6 := hb4.size; have _hb4 : Hid (Below wr.heap.size wr w4) := hb4; clear hb4))
      · have hbx : Below wr.heap.size wr (w4.alloc (.cells #[.int .u64 8192, .int .i64 6, .slice (some ⟨g2, 0, none⟩) 4096 4096] 62)) := _hb4.out.alloc _z6 _
        obtain ⟨fn, tmps, assign, body, hy, hR⟩ := HY.out [false] true _ (HJ.out _ _ _ none HJ1.out (grown_of_below hbx) (by intro j h; cases h)) (by decide)
        have HKx : Hid (Keep b r M W _) := HK.out.trans (Keep.below hbx HE.out.1 HE.out.2.1 HE.out.2.2)
        dsimp only [piece] at hy
        clear hbx
        gi_wp2_with fail
        refine ⟨fun _ => by omega, ?_⟩
        refine hR.mono ?_
        rintro e W' (⟨rfl, hJ', hk'⟩ | ⟨rfl, hJx'⟩)
        · have HJ' : Hid (J [false, true] W') := hJ'
          have HK' : Hid (Keep b r M W W') := HKx.out.trans hk'
          clear hJ' hk' HKx hy
          gi_wp2
          go_roundw
          case rel => exact ⟨HK'.out, .inr (.inr ⟨rfl, rfl, HJ'.out⟩)⟩
          case measure => simp [intOf]
        · have HX' : Hid (Jx [false, true] W') := hJx'
          clear hJx' HKx hy
          gi_wp2
          refine bodyPost_ret (results_none rfl _ _ _) rfl ?_
          exact ⟨⟨_, rfl⟩, .inr ⟨_, trivial, HX'.out⟩⟩
      · have hbx : Below wr.heap.size wr (((w4.setCell ⟨wr.heap.size, 0, none⟩ (.int .u64 8192)).setCell ⟨wr.heap.size, 1, none⟩ (.int .i64 6)).setCell ⟨wr.heap.size, 2, none⟩ (.slice (some ⟨g2, 0, none⟩) 4096 4096)) := (((_hb4.out.setCell (p := ⟨wr.heap.size, 0, none⟩) (Nat.le_refl _) _).setCell (p := ⟨wr.heap.size, 1, none⟩) (Nat.le_refl _) _).setCell (p := ⟨wr.heap.size, 2, none⟩) (Nat.le_refl _) _)
        obtain ⟨fn, tmps, assign, body, hy, hR⟩ := HY.out [false] true _ (HJ.out _ _ _ none HJ1.out (grown_of_below hbx) (by intro j h; cases h)) (by decide)
        have HKx : Hid (Keep b r M W _) := HK.out.trans (Keep.below hbx HE.out.1 HE.out.2.1 HE.out.2.2)
        dsimp only [piece] at hy
        clear hbx
        gi_wp2_with fail
        refine ⟨fun _ => by omega, ?_⟩
        refine hR.mono ?_
        rintro e W' (⟨rfl, hJ', hk'⟩ | ⟨rfl, hJx'⟩)
        · have HJ' : Hid (J [false, true] W') := hJ'
          have HK' : Hid (Keep b r M W W') := HKx.out.trans hk'
          clear hJ' hk' HKx hy
          gi_wp2
          go_roundw
          case rel => exact ⟨HK'.out, .inr (.inr ⟨rfl, rfl, HJ'.out⟩)⟩
          case measure => simp [intOf]
        · have HX' : Hid (Jx [false, true] W') := hJx'
          clear hJx' HKx hy
          gi_wp2
          refine bodyPost_ret (results_none rfl _ _ _) rfl ?_
          exact ⟨⟨_, rfl⟩, .inr ⟨_, trivial, HX'.out⟩⟩
      · have hbx : Below wr.heap.size wr (((w4.setCell ⟨wr.heap.size, 0, none⟩ (.int .u64 8192)).setCell ⟨wr.heap.size, 1, none⟩ (.int .i64 6)).setCell ⟨wr.heap.size, 2, none⟩ (.slice (some ⟨g2, 0, none⟩) 4096 4096)) := (((_hb4.out.setCell (p := ⟨wr.heap.size, 0, none⟩) (Nat.le_refl _) _).setCell (p := ⟨wr.heap.size, 1, none⟩) (Nat.le_refl _) _).setCell (p := ⟨wr.heap.size, 2, none⟩) (Nat.le_refl _) _)
        obtain ⟨fn, tmps, assign, body, hy, hR⟩ := HY.out [false] true _ (HJ.out _ _ _ none HJ1.out (grown_of_below hbx) (by intro j h; cases h)) (by decide)
        have HKx : Hid (Keep b r M W _) := HK.out.trans (Keep.below hbx HE.out.1 HE.out.2.1 HE.out.2.2)
        dsimp only [piece] at hy
        clear hbx
        gi_wp2_with fail
        refine ⟨fun _ => by omega, ?_⟩
        refine hR.mono ?_
        rintro e W' (⟨rfl, hJ', hk'⟩ | ⟨rfl, hJx'⟩)
        · have HJ' : Hid (J [false, true] W') := hJ'
          have HK' : Hid (Keep b r M W W') := HKx.out.trans hk'
          clear hJ' hk' HKx hy
          gi_wp2
          go_roundw
          case rel => exact ⟨HK'.out, .inr (.inr ⟨rfl, rfl, HJ'.out⟩)⟩
          case measure => simp [intOf]
        · have HX' : Hid (Jx [false, true] W') := hJx'
          clear hJx' HKx hy
          gi_wp2
          refine bodyPost_ret (results_none rfl _ _ _) rfl ?_
          exact ⟨⟨_, rfl⟩, .inr ⟨_, trivial, HX'.out⟩⟩
    · have HJ1 : Hid (J [false, true] wr) := hj
      clear hj
      gi_wp2
      go_end0
      exact ⟨⟨_, rfl⟩, .inl ⟨_, rfl, HJ1.out⟩⟩
set_option maxRecDepth 100000 in
set_option maxHeartbeats 2000000 in
theorem runs37_1 (n b r g1 g2 A N M : Nat) (c1 c2 : Array Value) (w : World) (hn : 2 ≤ n) (hT : Two w b r g1 g2 c1 c2) (hA : A < w.heap.size) (hN : N < w.heap.size) (hM : M < w.heap.size)
    (ha : w.cell? ⟨A, 0, none⟩ = some (.int .u64 8191)) (hno : w.cell? ⟨N, 0, none⟩ = some (.int .i64 2)) (hm : w.cell? ⟨M, 0, none⟩ = some (.pointer (some ⟨b, 0, none⟩))) :
    SeqStopsK Fence.wide n Try.prog 53 #[.pointer (some ⟨A, 0, none⟩), .pointer (some ⟨N, 0, none⟩), .pointer (some ⟨M, 0, none⟩)] (piece g1 g2 4095 1) (Keep b r M) (fun ys => ys = [false, true]) (fun _ => True) 2 w := fun l J Jx W hW hJ hJx hY h0 => by
  have h1 : W.cell? ⟨A, 0, none⟩ = some (.int .u64 8191) := (hW.cell (p := ⟨A, 0, none⟩) hA).trans ha
  have h2 : W.cell? ⟨N, 0, none⟩ = some (.int .i64 2) := (hW.cell (p := ⟨N, 0, none⟩) hN).trans hno
  have h3 : W.cell? ⟨M, 0, none⟩ = some (.pointer (some ⟨b, 0, none⟩)) := (hW.cell (p := ⟨M, 0, none⟩) hM).trans hm
  have HT : Hid (Two W b r g1 g2 c1 c2) := hT.below hW
  have HM : Hid (W.cell? ⟨M, 0, none⟩ = some (.pointer (some ⟨b, 0, none⟩))) := h3
  have sM : M < W.heap.size := Nat.lt_of_lt_of_le hM hW.size
  have HJ : Hid (AbidesFrom W.heap.size J) := hJ
  have HY : Hid (∀ pre x W1, J pre W1 → pre.length < 2 → YieldAt Fence.wide (n - 1) Try.prog l (piece g1 g2 4095 1 x) W1 fun e W' => (e = .returned (.bool true) ∧ J (pre ++ [x]) W' ∧ Keep b r M W1 W') ∨ (e = .returned (.bool false) ∧ Jx (pre ++ [x]) W')) := hY
  have H0 : Hid (J [] W) := h0
  clear hJ hJx hY h0 ha hno hm hT hW h3
  refine callsIn_of_wp Try.func53 rfl trivial ?_ rfl
  simp only [Try.ntmps53, List.size_toArray, List.length_cons, List.length_nil, Nat.reduceAdd, Nat.reduceSub, Array.replicate_succ, Array.replicate_zero, List.push_toArray, List.append_toArray, List.nil_append, List.cons_append]
  gi_wp2_with fail
  refine wpIn_wide.2 ?_
  go_quiet (fail)
  gi_wp2_with fail
  gi_loopw [5, 6] (fun x y wr => Keep b r M W wr ∧ ((x = .int .u64 8191 ∧ y = .int .i64 2 ∧ J [] wr) ∨ (x = .int .u64 8192 ∧ y = .int .i64 1 ∧ J [false] wr) ∨ (x = .int .u64 8193 ∧ y = .int .i64 0 ∧ J [false, true] wr))) (fun _ y _ => (intOf y).toNat)
  case atStart => exact ⟨⟨rfl, rfl, rfl, Nat.le_refl _⟩, .inl ⟨rfl, rfl, HJ.out _ _ _ none H0.out ⟨rfl, rfl, rfl, Nat.le_refl _, fun _ _ _ => rfl⟩ (by intro j h; cases h)⟩⟩
  case round =>
    obtain ⟨hk, hx⟩ := hrel
    have e1 : wr.cell? ⟨M, 0, none⟩ = some (.pointer (some ⟨b, 0, none⟩)) := hk.2.2.1.trans HM.out
    have e2 : wr.cell? ⟨b, 0, none⟩ = some (.map (some r)) := hk.2.1.trans HT.out.cell
    have e3 : wr.heap[r]? = some (.map #[ent 4096 g1 0, ent 8192 g2 1] 2) := hk.1.trans HT.out.map
    have e4 : b < wr.heap.size := by have := HT.out.sizes; have := hk.2.2.2; omega
    have e5 : M < wr.heap.size := by have := hk.2.2.2; omega
    have HK : Hid (Keep b r M W wr) := hk
    clear hk
    rcases hx with ⟨rfl, rfl, hj⟩ | ⟨rfl, rfl, hj⟩ | ⟨rfl, rfl, hj⟩
    · have HJ1 : Hid (J [] wr) := hj
      have HP : Hid (∀ W1, Below wr.heap.size wr W1 → Calls Try.prog 40 #[.pointer (some ⟨b, 0, none⟩), .int .u64 4096] W1 fun e w' => e = .returned (.tuple #[.agg #[.int .u64 4096, .int .i64 6, .slice (some ⟨g1, 0, none⟩) 4096 4096], .bool true]) ∧ Below wr.heap.size wr w' ∧ w'.cell? ⟨M, 0, none⟩ = some (.pointer (some ⟨b, 0, none⟩)) ∧ M < w'.heap.size ∧ (∀ x o, x < W1.heap.size → w'.cell? ⟨x, o, none⟩ = W1.cell? ⟨x, o, none⟩) ∧ (∀ x o, x < W1.heap.size → w'.frozen? ⟨x, o, none⟩ = W1.frozen? ⟨x, o, none⟩)) := fun W1 hb => (page25_hit b r g1 0 4096 _ 2 W1 ((hb.cell (p := ⟨b, 0, none⟩) e4).trans e2) (by have := hb.size; omega) ((hb.block r (lt_of_some e3)).trans e3) rfl).mono fun e w' ⟨he, hb'⟩ => by have hb2 := hb.trans (hb'.mono hb.size); exact ⟨he, hb2, (hb2.cell (p := ⟨M, 0, none⟩) e5).trans e1, Nat.lt_of_lt_of_le e5 hb2.size, fun x o hx => hb'.cell (p := ⟨x, o, none⟩) hx, fun x o hx => hb'.frozen (p := ⟨x, o, none⟩) hx⟩
      have e6 : ¬ wr.heap.size = M := by omega
      have e7 : ¬ M = wr.heap.size := by omega
      have HE : Hid (r < wr.heap.size ∧ b < wr.heap.size ∧ M < wr.heap.size) := ⟨lt_of_some e3, e4, e5⟩
      clear hj e2 e3
      gi_wp2_with fail
      refine wpIn_wide.2 ?_
      go_region_held3 (fun w' => w'.cell? ⟨M, 0, none⟩ = some (.pointer (some ⟨b, 0, none⟩)) ∧ M < w'.heap.size) (first | (go_keep; done) | (refine ⟨?_, ?_⟩ <;> (first | (go_keep; done) | assumption | (simp; done) | (simp; omega) | (simp; assumption))))
        (first | (go_at_call 54; refine (base36 8191 (by omega) (by omega) _).mono ?_; rintro e w3 ⟨rfl, q3⟩; subst q3) | (go_at_call 40; refine (HP.out _ (by first | exact Below.refl _ _ | exact (Below.refl _ _).drew | exact ((Below.refl _ _).alloc (Nat.le_refl _) _) | exact ((Below.refl _ _).alloc (Nat.le_refl _) _).drew | exact (((Below.refl _ _).drew).alloc (Nat.le_refl _) _))).mono ?_; rintro e w4 ⟨rfl, hb4, _z1, _z3, _z4, _z5⟩; have _z6 := hb4.size; have _hb4 : Hid (Below wr.heap.size wr w4) := hb4; clear hb4))
      · have hbx : Below wr.heap.size wr (w4.alloc (.cells #[.int .u64 4096, .int .i64 6, .slice (some ⟨g1, 0, none⟩) 4096 4096] 62)) := _hb4.out.alloc _z6 _
        obtain ⟨fn, tmps, assign, body, hy, hR⟩ := HY.out [] false _ (HJ.out _ _ _ none HJ1.out (grown_of_below hbx) (by intro j h; cases h)) (by decide)
        have HKx : Hid (Keep b r M W _) := HK.out.trans (Keep.below hbx HE.out.1 HE.out.2.1 HE.out.2.2)
        dsimp only [piece] at hy
        clear hbx
        gi_wp2_with fail
        refine ⟨fun _ => by omega, ?_⟩
        refine hR.mono ?_
        rintro e W' (⟨rfl, hJ', hk'⟩ | ⟨rfl, hJx'⟩)
        · have HJ' : Hid (J [false] W') := hJ'
          have HK' : Hid (Keep b r M W W') := HKx.out.trans hk'
          clear hJ' hk' HKx hy
          gi_wp2
          go_roundw
          case rel => exact ⟨HK'.out, .inr (.inl ⟨rfl, rfl, HJ'.out⟩)⟩
          case measure => simp [intOf]
        · have HX' : Hid (Jx [false] W') := hJx'
          clear hJx' HKx hy
          gi_wp2
          refine bodyPost_ret (results_none rfl _ _ _) rfl ?_
          exact ⟨⟨_, rfl⟩, .inr ⟨_, trivial, HX'.out⟩⟩
      · have hbx : Below wr.heap.size wr (((w4.setCell ⟨wr.heap.size, 0, none⟩ (.int .u64 4096)).setCell ⟨wr.heap.size, 1, none⟩ (.int .i64 6)).setCell ⟨wr.heap.size, 2, none⟩ (.slice (some ⟨g1, 0, none⟩) 4096 4096)) := (((_hb4.out.setCell (p := ⟨wr.heap.size, 0, none⟩) (Nat.le_refl _) _).setCell (p := ⟨wr.heap.size, 1, none⟩) (Nat.le_refl _) _).setCell (p := ⟨wr.heap.size, 2, none⟩) (Nat.le_refl _) _)
        obtain ⟨fn, tmps, assign, body, hy, hR⟩ := HY.out [] false _ (HJ.out _ _ _ none HJ1.out (grown_of_below hbx) (by intro j h; cases h)) (by decide)
        have HKx : Hid (Keep b r M W _) := HK.out.trans (Keep.below hbx HE.out.1 HE.out.2.1 HE.out.2.2)
        dsimp only [piece] at hy
        clear hbx
        gi_wp2_with fail
        refine ⟨fun _ => by omega, ?_⟩
        refine hR.mono ?_
        rintro e W' (⟨rfl, hJ', hk'⟩ | ⟨rfl, hJx'⟩)
        · have HJ' : Hid (J [false] W') := hJ'
          have HK' : Hid (Keep b r M W W') := HKx.out.trans hk'
          clear hJ' hk' HKx hy
          gi_wp2
          go_roundw
          case rel => exact ⟨HK'.out, .inr (.inl ⟨rfl, rfl, HJ'.out⟩)⟩
          case measure => simp [intOf]
        · have HX' : Hid (Jx [false] W') := hJx'
          clear hJx' HKx hy
          gi_wp2
          refine bodyPost_ret (results_none rfl _ _ _) rfl ?_
          exact ⟨⟨_, rfl⟩, .inr ⟨_, trivial, HX'.out⟩⟩
      · have hbx : Below wr.heap.size wr (((w4.setCell ⟨wr.heap.size, 0, none⟩ (.int .u64 4096)).setCell ⟨wr.heap.size, 1, none⟩ (.int .i64 6)).setCell ⟨wr.heap.size, 2, none⟩ (.slice (some ⟨g1, 0, none⟩) 4096 4096)) := (((_hb4.out.setCell (p := ⟨wr.heap.size, 0, none⟩) (Nat.le_refl _) _).setCell (p := ⟨wr.heap.size, 1, none⟩) (Nat.le_refl _) _).setCell (p := ⟨wr.heap.size, 2, none⟩) (Nat.le_refl _) _)
        obtain ⟨fn, tmps, assign, body, hy, hR⟩ := HY.out [] false _ (HJ.out _ _ _ none HJ1.out (grown_of_below hbx) (by intro j h; cases h)) (by decide)
        have HKx : Hid (Keep b r M W _) := HK.out.trans (Keep.below hbx HE.out.1 HE.out.2.1 HE.out.2.2)
        dsimp only [piece] at hy
        clear hbx
        gi_wp2_with fail
        refine ⟨fun _ => by omega, ?_⟩
        refine hR.mono ?_
        rintro e W' (⟨rfl, hJ', hk'⟩ | ⟨rfl, hJx'⟩)
        · have HJ' : Hid (J [false] W') := hJ'
          have HK' : Hid (Keep b r M W W') := HKx.out.trans hk'
          clear hJ' hk' HKx hy
          gi_wp2
          go_roundw
          case rel => exact ⟨HK'.out, .inr (.inl ⟨rfl, rfl, HJ'.out⟩)⟩
          case measure => simp [intOf]
        · have HX' : Hid (Jx [false] W') := hJx'
          clear hJx' HKx hy
          gi_wp2
          refine bodyPost_ret (results_none rfl _ _ _) rfl ?_
          exact ⟨⟨_, rfl⟩, .inr ⟨_, trivial, HX'.out⟩⟩
    · have HJ1 : Hid (J [false] wr) := hj
      have HP : Hid (∀ W1, Below wr.heap.size wr W1 → Calls Try.prog 40 #[.pointer (some ⟨b, 0, none⟩), .int .u64 8192] W1 fun e w' => e = .returned (.tuple #[.agg #[.int .u64 8192, .int .i64 6, .slice (some ⟨g2, 0, none⟩) 4096 4096], .bool true]) ∧ Below wr.heap.size wr w' ∧ w'.cell? ⟨M, 0, none⟩ = some (.pointer (some ⟨b, 0, none⟩)) ∧ M < w'.heap.size ∧ (∀ x o, x < W1.heap.size → w'.cell? ⟨x, o, none⟩ = W1.cell? ⟨x, o, none⟩) ∧ (∀ x o, x < W1.heap.size → w'.frozen? ⟨x, o, none⟩ = W1.frozen? ⟨x, o, none⟩)) := fun W1 hb => (page25_hit b r g2 1 8192 _ 2 W1 ((hb.cell (p := ⟨b, 0, none⟩) e4).trans e2) (by have := hb.size; omega) ((hb.block r (lt_of_some e3)).trans e3) rfl).mono fun e w' ⟨he, hb'⟩ => by have hb2 := hb.trans (hb'.mono hb.size); exact ⟨he, hb2, (hb2.cell (p := ⟨M, 0, none⟩) e5).trans e1, Nat.lt_of_lt_of_le e5 hb2.size, fun x o hx => hb'.cell (p := ⟨x, o, none⟩) hx, fun x o hx => hb'.frozen (p := ⟨x, o, none⟩) hx⟩
      have e6 : ¬ wr.heap.size = M := by omega
      have e7 : ¬ M = wr.heap.size := by omega
      have HE : Hid (r < wr.heap.size ∧ b < wr.heap.size ∧ M < wr.heap.size) := ⟨lt_of_some e3, e4, e5⟩
      clear hj e2 e3
      gi_wp2_with fail
      refine wpIn_wide.2 ?_
      go_region_held3 (fun w' => w'.cell? ⟨M, 0, none⟩ = some (.pointer (some ⟨b, 0, none⟩)) ∧ M < w'.heap.size) (first | (go_keep; done) | (refine ⟨?_, ?_⟩ <;> (first | (go_keep; done) | assumption | (simp; done) | (simp; omega) | (simp; assumption))))
        (first | (go_at_call 54; refine (base36 8192 (by omega) (by omega) _).mono ?_; rintro e w3 ⟨rfl, q3⟩; subst q3) | (go_at_call 40; refine (HP.out _ (by first | exact Below.refl _ _ | exact (Below.refl _ _).drew | exact ((Below.refl _ _).alloc (Nat.le_refl _) _) | exact ((Below.refl _ _).alloc (Nat.le_refl _) _).drew | exact (((Below.refl _ _).drew).alloc (Nat.le_refl _) _))).mono ?_; rintro e w4 ⟨rfl, hb4, _z1, _z3, _z4, _z5⟩; have _z6 := hb4.size; have _hb4 : Hid (Below wr.heap.size wr w4) := hb4; clear hb4))
      · have hbx : Below wr.heap.size wr (w4.alloc (.cells #[.int .u64 8192, .int .i64 6, .slice (some ⟨g2, 0, none⟩) 4096 4096] 62)) := _hb4.out.alloc _z6 _
        obtain ⟨fn, tmps, assign, body, hy, hR⟩ := HY.out [false] true _ (HJ.out _ _ _ none HJ1.out (grown_of_below hbx) (by intro j h; cases h)) (by decide)
        have HKx : Hid (Keep b r M W _) := HK.out.trans (Keep.below hbx HE.out.1 HE.out.2.1 HE.out.2.2)
        dsimp only [piece] at hy
        clear hbx
        gi_wp2_with fail
        refine ⟨fun _ => by omega, ?_⟩
        refine hR.mono ?_
        rintro e W' (⟨rfl, hJ', hk'⟩ | ⟨rfl, hJx'⟩)
        · have HJ' : Hid (J [false, true] W') := hJ'
          have HK' : Hid (Keep b r M W W') := HKx.out.trans hk'
          clear hJ' hk' HKx hy
          gi_wp2
          go_roundw
          case rel => exact ⟨HK'.out, .inr (.inr ⟨rfl, rfl, HJ'.out⟩)⟩
          case measure => simp [intOf]
        · have HX' : Hid (Jx [false, true] W') := hJx'
          clear hJx' HKx hy
          gi_wp2
          refine bodyPost_ret (results_none rfl _ _ _) rfl ?_
          exact ⟨⟨_, rfl⟩, .inr ⟨_, trivial, HX'.out⟩⟩
      · have hbx : Below wr.heap.size wr (((w4.setCell ⟨wr.heap.size, 0, none⟩ (.int .u64 8192)).setCell ⟨wr.heap.size, 1, none⟩ (.int .i64 6)).setCell ⟨wr.heap.size, 2, none⟩ (.slice (some ⟨g2, 0, none⟩) 4096 4096)) := (((_hb4.out.setCell (p := ⟨wr.heap.size, 0, none⟩) (Nat.le_refl _) _).setCell (p := ⟨wr.heap.size, 1, none⟩) (Nat.le_refl _) _).setCell (p := ⟨wr.heap.size, 2, none⟩) (Nat.le_refl _) _)
        obtain ⟨fn, tmps, assign, body, hy, hR⟩ := HY.out [false] true _ (HJ.out _ _ _ none HJ1.out (grown_of_below hbx) (by intro j h; cases h)) (by decide)
        have HKx : Hid (Keep b r M W _) := HK.out.trans (Keep.below hbx HE.out.1 HE.out.2.1 HE.out.2.2)
        dsimp only [piece] at hy
        clear hbx
        gi_wp2_with fail
        refine ⟨fun _ => by omega, ?_⟩
        refine hR.mono ?_
        rintro e W' (⟨rfl, hJ', hk'⟩ | ⟨rfl, hJx'⟩)
        · have HJ' : Hid (J [false, true] W') := hJ'
          have HK' : Hid (Keep b r M W W') := HKx.out.trans hk'
          clear hJ' hk' HKx hy
          gi_wp2
          go_roundw
          case rel => exact ⟨HK'.out, .inr (.inr ⟨rfl, rfl, HJ'.out⟩)⟩
          case measure => simp [intOf]
        · have HX' : Hid (Jx [false, true] W') := hJx'
          clear hJx' HKx hy
          gi_wp2
          refine bodyPost_ret (results_none rfl _ _ _) rfl ?_
          exact ⟨⟨_, rfl⟩, .inr ⟨_, trivial, HX'.out⟩⟩
      · have hbx : Below wr.heap.size wr (((w4.setCell ⟨wr.heap.size, 0, none⟩ (.int .u64 8192)).setCell ⟨wr.heap.size, 1, none⟩ (.int .i64 6)).setCell ⟨wr.heap.size, 2, none⟩ (.slice (some ⟨g2, 0, none⟩) 4096 4096)) := (((_hb4.out.setCell (p := ⟨wr.heap.size, 0, none⟩) (Nat.le_refl _) _).setCell (p := ⟨wr.heap.size, 1, none⟩) (Nat.le_refl _) _).setCell (p := ⟨wr.heap.size, 2, none⟩) (Nat.le_refl _) _)
        obtain ⟨fn, tmps, assign, body, hy, hR⟩ := HY.out [false] true _ (HJ.out _ _ _ none HJ1.out (grown_of_below hbx) (by intro j h; cases h)) (by decide)
        have HKx : Hid (Keep b r M W _) := HK.out.trans (Keep.below hbx HE.out.1 HE.out.2.1 HE.out.2.2)
        dsimp only [piece] at hy
        clear hbx
        gi_wp2_with fail
        refine ⟨fun _ => by omega, ?_⟩
        refine hR.mono ?_
        rintro e W' (⟨rfl, hJ', hk'⟩ | ⟨rfl, hJx'⟩)
        · have HJ' : Hid (J [false, true] W') := hJ'
          have HK' : Hid (Keep b r M W W') := HKx.out.trans hk'
          clear hJ' hk' HKx hy
          gi_wp2
          go_roundw
          case rel => exact ⟨HK'.out, .inr (.inr ⟨rfl, rfl, HJ'.out⟩)⟩
          case measure => simp [intOf]
        · have HX' : Hid (Jx [false, true] W') := hJx'
          clear hJx' HKx hy
          gi_wp2
          refine bodyPost_ret (results_none rfl _ _ _) rfl ?_
          exact ⟨⟨_, rfl⟩, .inr ⟨_, trivial, HX'.out⟩⟩
    · have HJ1 : Hid (J [false, true] wr) := hj
      clear hj
      gi_wp2
      go_end0
      exact ⟨⟨_, rfl⟩, .inl ⟨_, rfl, HJ1.out⟩⟩
end Go.Proofs.Ytndbkkldfinggab
