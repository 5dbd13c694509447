/- State, of whatever machine. Two states, the same: the document's own comparison. Two states, the same: the document's own comparison tells true. -/
import Derived.Test.YtnmpbihpoefeoaaDoorNA
import Derived.ChangeKeysEq
namespace Go.Proofs.YtnmpbihpoefeoaaDoor
section
open Go.RowKit Go.Shelf
theorem Mch.range {W : World} {m : Nat} {s : Sx} {ov : Value} {mem : Nat} {iv : Value} (H : Mch W m s ov mem iv) : W.rangeAt m 0 (cl s ov) := fun j v hv => by
  rw [Nat.zero_add]
  have hj : j < 39 := (List.getElem?_eq_some_iff.1 hv).1
  rcases (by omega : j = 0 ∨ (1 ≤ j ∧ j ≤ 32) ∨ j = 33 ∨ j = 34 ∨ j = 35 ∨ j = 36 ∨ j = 37 ∨ j = 38) with rfl | h | rfl | rfl | rfl | rfl | rfl | rfl
  · exact H.pc.trans hv
  · obtain ⟨r, rfl⟩ : ∃ r, j = 1 + r := ⟨j - 1, by omega⟩
    rw [cl_reg s ov (by omega)] at hv
    exact (H.reg r (by omega)).trans hv
  · exact H.st.trans hv
  · exact H.h.trans hv
  · exact H.code.trans hv
  · exact H.ft.trans hv
  · exact H.out.trans hv
  · exact H.inn.trans hv
/-- A row that is owned, as bytes that are handed in. -/
theorem owns_bya {W : World} {base : Nat} {v : Value} {n : Nat} {Y : Nat → Int} (h : W.ownsRow base 5 1 v n (rowOf Y n)) : ByA W v n Y := by
  obtain ⟨_, ⟨rfl, rfl⟩ | ⟨g, cap, cur, rfl, _, h2, h3, _, h4, h5⟩⟩ := h
  · exact ⟨none, 0, rfl, fun _ => ⟨rfl, rfl⟩, fun a e => by cases e⟩
  · refine ⟨_, _, rfl, (fun e => by cases e), fun a e j hj => ?_⟩
    cases e
    rw [Addr.add_lit]
    refine ⟨lt_of_some h2, ?_⟩
    simp only [World.cell?, h2, Nat.zero_add]
    have t := congrArg (fun l => l[j]?) h5
    simp only [rowOf_at hj, Nat.mul_one] at t
    rw [List.getElem?_take_of_lt hj] at t
    simpa using t
set_option maxRecDepth 20000 in
set_option maxHeartbeats 1000000 in
theorem state14_any {W : World} {m : Nat} {s : Sx} {a : Option Addr} {n c : Nat} {mem : Nat} {iv : Value} {Y : Nat → Int} (H : Mch W m s (.slice a n c) mem iv) (h : ByA W (.slice a n c) n Y) (hn : n ≤ 1099511627776) : Calls Tryd.prog 14 #[.pointer (some ⟨m, 0, none⟩)] W fun e w' => ∃ ov, e = .returned (.agg (cl s ov).toArray) ∧ w'.ownsRow W.heap.size 5 1 ov n (rowOf Y n) ∧ Below W.heap.size W w' := by
  have hl : Hid ((cl s (.slice a n c)).length = 39) := rfl
  have hs := H.lt
  have HR : Hid (W.rangeAt m 0 (cl s (.slice a n c))) := H.range
  have HC : Hid (∀ w, Below W.heap.size W w → Calls Tryd.prog 28 #[.agg (cl s (.slice a n c)).toArray] w fun e w' => ∃ ov, e = .returned (.agg (cl s ov).toArray) ∧ w'.ownsRow w.heap.size 5 1 ov n (rowOf Y n) ∧ Below w.heap.size w w') := fun w hb => copied28_any (h.below hb) hn
  clear H h
  generalize cl s (.slice a n c) = L at *
  go_enter Tryd.func14, Tryd.ntmps14
  go_wp2_with (first | (refine wpList_load_guard rfl 37 _ rfl m 0 rfl L _ (range_below HR.out ((Below.refl _ _).alloc (Nat.le_refl _) _) hs) Tryd.underlying37 rfl (by rw [hl.out]; exact info37) ?_) | fail)
  refine (HC.out _ ((Below.refl _ _).alloc (Nat.le_refl _) _)).mono ?_
  rintro e w1 ⟨ov, rfl, ho, hb⟩
  obtain ⟨a', c', rfl⟩ := owns_slice ho
  have ht : Hid (w1.there W.heap.size 0 39) := there_below (there_new W zC 37) hb (by simp)
  have HB : Hid (Below W.heap.size W w1) := ((Below.refl _ W).alloc (Nat.le_refl _) _).trans (hb.mono (by simp))
  have HO : Hid (w1.ownsRow W.heap.size 5 1 (.slice a' n c') n (rowOf Y n) ∧ (Value.slice a' n c').ownBlock ≠ some W.heap.size) := by
    obtain ⟨h1, ⟨e, e2⟩ | ⟨g, cap, cur, e, h2, h3⟩⟩ := ho
    · rw [e]; exact ⟨⟨h1, .inl ⟨rfl, e2⟩⟩, by simp [Value.ownBlock]⟩
    · simp at h2
      rw [e]; exact ⟨⟨h1, .inr ⟨g, cap, cur, rfl, by omega, h3⟩⟩, by simp [Value.ownBlock]; omega⟩
  have H1 : Hid ((cl s (.slice a' n c')).toArray.all (·.oneCell') = true) := cl_one s a' n c'
  have HL : Hid ((cl s (.slice a' n c')).length = 39) := cl_len s _
  have hzz : W.heap.size < w1.heap.size := by have := hb.size; simp at this; omega
  clear hb ho
  obtain ⟨L', hL'⟩ : ∃ L', cl s (.slice a' n c') = L' := ⟨_, rfl⟩
  have HE : Hid (cl s (.slice a' n c') = L') := hL'
  rw [hL'] at H1 HL ⊢
  clear hL'
  go_wp2_with (first | (refine wpList_store_mid rfl 37 _ _ rfl W.heap.size 0 L'.toArray rfl rfl (by rw [show L'.toArray.size = 39 from HL.out]; exact ht.out) (by rw [show L'.toArray.size = 39 from HL.out]; exact info37) H1.out ?_) | go_in)
  refine bodyPost_ret (v := .agg L'.toArray) (results_cell Tryd.results14 W.heap.size rfl L' _ (World.rangeAt_setCells_same _ _ _ L' (by rw [HL.out]; exact ht.out)) Tryd.underlying37 rfl (by rw [HL.out]; exact info37)) rfl ⟨.slice a' n c', by rw [HE.out], ?_, ?_⟩
  · refine owns_keep HO.out.1 fun g hg => ?_
    obtain ⟨cur, hc⟩ := owns_lt HO.out.1 hg
    exact World.heap_setCells_other _ _ _ _ (lt_of_some hc) (fun e => HO.out.2 (by rw [hg, e]))
  · exact below_setCells HB.out _ _ (Nat.le_refl _) _
end
section
open Go.RowKit Go.Shelf
theorem info22 : ∃ i, Tryd.prog.info? 22 = some i ∧ i.size = 1 := by
  have h : (Tryd.prog.info? 22).map (·.size) = some 1 := by kernel_rfl
  cases hi : Tryd.prog.info? 22 with
  | none => rw [hi] at h; cases h
  | some i => rw [hi] at h; simp at h; exact ⟨i, rfl, h⟩
theorem cells22 : Tryd.prog.cellsOf 22 = 1 := by kernel_rfl
theorem part22 (xs : Array Value) (i : Nat) (v : Int) (w : World) (h : xs[i]? = some (.int .u64 v)) : (part 22 xs i).run Tryd.prog w = .ok (.int .u64 v) w := by
  unfold part
  simp [go_sem]
  rw [h]
  rfl
/-- The registers. -/
def rgs (x : Nat → Int) : List Value := (List.range 32).map (fun r => Value.int .u64 (x r))
theorem rgs_at (x : Nat → Int) {r : Nat} (hr : r < 32) : (rgs x).toArray[r]? = some (.int .u64 (x r)) := by
  unfold rgs
  simp [hr]
theorem items_same (x : Nat → Int) (w : World) : ∀ (is : List Nat), (∀ i ∈ is, i < 32) → (Op.eqItems 9999 22 1 (rgs x).toArray (rgs x).toArray is).run Tryd.prog w = .ok true w
  | [], _ => by simp [Op.eqItems]
  | i :: is, h => by
    have hp := part22 (rgs x).toArray (i * 1) (x i) w (by rw [Nat.mul_one]; exact rgs_at x (h i (by simp)))
    have he := run_equalIn_int w 9998 22 .u64 .u64 (x i) (x i) Tryd.underlying22
    have t := items_same x w is (fun j hj => h j (by simp [hj]))
    simp only [Op.eqItems, Sem.run_bind, hp, he, Result.andThen_ok]
    simpa using t
theorem eql_regs (x : Nat → Int) (w : World) : (Op.equalIn 10000 34 (.agg (rgs x).toArray) (.agg (rgs x).toArray)).run Tryd.prog w = .ok true w := by
  obtain ⟨j, hj, hs⟩ := info22
  have t := run_equalIn_array w 9999 (rgs x).toArray (rgs x).toArray Tryd.underlying34 hj
  rw [t, cells22]
  exact items_same x w _ (fun i hi => List.mem_range.1 hi)
end
section
open Go.RowKit Go.Shelf
theorem info34' : (Tryd.prog.info? 34).map (·.size) = some 32 := info34
theorem rgs_len (x : Nat → Int) : (rgs x).length = 32 := rfl
theorem cl_rgs (s : Sx) (ov : Value) {j : Nat} {v : Value} (h : (rgs s.x)[j]? = some v) : (cl s ov)[1 + j]? = some v := by
  have hj : j < 32 := (List.getElem?_eq_some_iff.1 h).1
  rw [cl_reg s ov hj, ← h]
  unfold rgs
  simp [hj]
theorem range_one (w : World) (L1 L2 : List Value) (R : List Value) (h : ∀ j v, R[j]? = some v → L1[1 + j]? = some v) : ((w.alloc (.cells L1.toArray 37)).alloc (.cells L2.toArray 37)).rangeAt w.heap.size 1 R := fun j v hv => by
  have t := h j v hv
  simpa using t
theorem range_two (w : World) (L1 L2 : List Value) (R : List Value) (h : ∀ j v, R[j]? = some v → L2[1 + j]? = some v) : ((w.alloc (.cells L1.toArray 37)).alloc (.cells L2.toArray 37)).rangeAt (w.heap.size + 1) 1 R := fun j v hv => by
  have t := h j v hv
  have e : w.heap.size + 1 = (w.alloc (.cells L1.toArray 37)).heap.size := by simp
  rw [e]
  simpa using t
set_option maxRecDepth 20000 in
set_option maxHeartbeats 1000000 in
theorem cpu15_any (s : Sx) (ov1 ov2 : Value) (w : World) (hb : ∀ w', Below w.heap.size w w' → Calls Tryd.prog 31 #[ov1, ov2] w' fun e w'' => e = .returned (.bool true) ∧ w'' = w') : Calls Tryd.prog 15 #[.agg (cl s ov1).toArray, .agg (cl s ov2).toArray] w fun e w' => e = .returned (.bool true) ∧ Below w.heap.size w w' := by
  have p0 : (cl s ov1)[0]? = some (.int .u64 s.pc) := rfl
  have p33 : (cl s ov1)[33]? = some (.int .i64 s.st) := rfl
  have p34 : (cl s ov1)[34]? = some (.bool s.h) := rfl
  have p35 : (cl s ov1)[35]? = some (.int .i64 s.code) := rfl
  have p36 : (cl s ov1)[36]? = some (.int .i64 s.ft) := rfl
  have p37 : (cl s ov1)[37]? = some ov1 := rfl
  have p38 : (cl s ov1)[38]? = some (.int .i64 s.inn) := rfl
  have q0 : (cl s ov2)[0]? = some (.int .u64 s.pc) := rfl
  have q33 : (cl s ov2)[33]? = some (.int .i64 s.st) := rfl
  have q34 : (cl s ov2)[34]? = some (.bool s.h) := rfl
  have q35 : (cl s ov2)[35]? = some (.int .i64 s.code) := rfl
  have q36 : (cl s ov2)[36]? = some (.int .i64 s.ft) := rfl
  have q37 : (cl s ov2)[37]? = some ov2 := rfl
  have q38 : (cl s ov2)[38]? = some (.int .i64 s.inn) := rfl
  have HR1 : Hid (∀ j v, (rgs s.x)[j]? = some v → (cl s ov1)[1 + j]? = some v) := fun j v h => cl_rgs s ov1 h
  have HR2 : Hid (∀ j v, (rgs s.x)[j]? = some v → (cl s ov2)[1 + j]? = some v) := fun j v h => cl_rgs s ov2 h
  have heql := eql_regs s.x
  have hrl : Hid ((rgs s.x).length = 32) := rgs_len s.x
  have HBy : Hid (∀ w', Below w.heap.size w w' → Calls Tryd.prog 31 #[ov1, ov2] w' fun e w'' => e = .returned (.bool true) ∧ w'' = w') := hb
  clear hb
  generalize cl s ov1 = L1 at *
  generalize cl s ov2 = L2 at *
  generalize rgs s.x = R at *
  obtain ⟨pc, e0⟩ : ∃ x, s.pc = x := ⟨_, rfl⟩
  obtain ⟨st, e1⟩ : ∃ x, s.st = x := ⟨_, rfl⟩
  obtain ⟨sh, e5⟩ : ∃ x, s.h = x := ⟨_, rfl⟩
  obtain ⟨co, e2⟩ : ∃ x, s.code = x := ⟨_, rfl⟩
  obtain ⟨ft, e3⟩ : ∃ x, s.ft = x := ⟨_, rfl⟩
  obtain ⟨ii, e4⟩ : ∃ x, s.inn = x := ⟨_, rfl⟩
  rw [e0] at p0 q0
  rw [e1] at p33 q33
  rw [e5] at p34 q34
  rw [e2] at p35 q35
  rw [e3] at p36 q36
  rw [e4] at p38 q38
  clear e0 e1 e2 e3 e4 e5
  go_enter Tryd.func15, Tryd.ntmps15
  go_wp2_with (first | (refine wpList_load_guard rfl 34 _ rfl w.heap.size 1 rfl R _ (range_one w L1 L2 R HR1.out) Tryd.underlying34 rfl (by rw [hrl.out]; exact info34) ?_) | (refine wpList_load_guard rfl 34 _ rfl (w.heap.size + 1) 1 rfl R _ (range_two w L1 L2 R HR2.out) Tryd.underlying34 rfl (by rw [hrl.out]; exact info34) ?_) | (go_at_call 31; refine (HBy.out _ (((Below.refl _ _).alloc (Nat.le_refl _) _).alloc (by simp) _)).mono ?_; rintro e w' ⟨rfl, h'⟩; subst h') | go_in)
  go_ret
  exact ⟨rfl, ((Below.refl _ _).alloc (Nat.le_refl _) _).alloc (by simp) _⟩
end
end Go.Proofs.YtnmpbihpoefeoaaDoor
