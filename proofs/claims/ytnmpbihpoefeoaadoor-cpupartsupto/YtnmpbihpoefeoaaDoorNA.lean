/- A copy of bytes; a state, whatever it is. Whether a state is right; a machine is made. New, of whatever is handed in. -/
import Derived.Test.YtnmpbihpoefeoaaDoorKA
import Derived.Test.YtnmpbihpoefeoaaDoorCB
import Derived.Deep.Upon
namespace Go.Proofs.YtnmpbihpoefeoaaDoor
section
open Go.RowKit Go.Shelf
/-- Bytes that were handed in. -/
def ByA (W : World) (v : Value) (n : Nat) (Y : Nat → Int) : Prop := ∃ ao c, v = .slice ao n c ∧ (ao = none → n = 0 ∧ c = 0) ∧ ∀ a, ao = some a → ∀ j, j < n → (a.add j).block < W.heap.size ∧ W.cell? (a.add j) = some (.int .u8 (Y j))
theorem ByA.below {W W' : World} {v : Value} {n : Nat} {Y : Nat → Int} (h : ByA W v n Y) (hb : Below W.heap.size W W') : ByA W' v n Y := by
  obtain ⟨ao, c, e, h0, h1⟩ := h
  exact ⟨ao, c, e, h0, fun a ha j hj => ⟨Nat.lt_of_lt_of_le (h1 a ha j hj).1 hb.size, (hb.cell (p := a.add j) (h1 a ha j hj).1).trans (h1 a ha j hj).2⟩⟩
set_option maxHeartbeats 1000000 in
theorem clone29_some (a : Addr) (c n : Nat) (Y : Nat → Int) (w : World) (hn2 : n ≤ 1099511627776) (hc : ∀ j, j < n → (a.add j).block < w.heap.size ∧ w.cell? (a.add j) = some (.int .u8 (Y j))) :
    Calls Tryd.prog 29 #[.slice (some a) n c] w fun e w' => ∃ v, e = .returned v ∧ w'.ownsRow w.heap.size 5 1 v n (rowOf Y n) ∧ Below w.heap.size w w' := by
  obtain ⟨i0, hi, hz0, hz1, hz2⟩ := info_parts info5
  have q48 : ∀ (w : World) (a : Option Addr) (n c n' c' : Nat), (binOp .eql 35 (.slice a n c) (.slice none n' c')).run Tryd.prog w = .ok (.bool a.isNone) w := fun w a n c n' c' => Lib.run_eql_slice_nil w _ _ a n c n' c' Tryd.underlying35
  have A : Hid (∀ j, j < n → (a.add j).block < w.heap.size ∧ w.cell? (a.add j) = some (.int .u8 (Y j))) := hc
  clear hc
  go_enter Tryd.func29, Tryd.ntmps29
  go_wp2_with (at_builtin; refine wpList_append_own _ rfl _ _ 35 rfl w.heap.size 5 i0 (.int .u8 0) 1 1 Tryd.underlying35 hi hz0 hz1 hz2 rfl (by decide) _ _ _ rfl (World.ownsRow_made w #[] 0 (Nat.le_refl _) (Nat.zero_le _) rfl) a n c (rowOf Y n) rfl ?qc1 ?qc2 ?qc3 ?qc4 ?qc5 ?qc6 ?_)
  case qc1 => simp [rowOf]
  case qc2 =>
    intro j u hj
    have hjn : j < n := by
      have := (List.getElem?_eq_some_iff.1 hj).1
      simpa [rowOf] using this
    rw [rowOf_at hjn] at hj
    cases hj
    exact (((Below.refl _ w).alloc (Nat.le_refl _) _).cell (p := a.add j) (A.out j hjn).1).trans (A.out j hjn).2
  case qc3 => intro u hu; obtain ⟨x, _, rfl⟩ := List.mem_map.1 hu; rfl
  case qc4 => unfold maxLen; omega
  case qc5 => omega
  case qc6 => simp
  intro v' w1 hown hgrow hnil
  have hB : Below w.heap.size w w1 := ((Below.refl _ w).alloc (Nat.le_refl _) _).grown hgrow (by simp) (by intro k hk; simp [Value.ownBlock] at hk; omega)
  have HB : Hid (Below w.heap.size w w1 ∧ w1.ownsRow w.heap.size 5 1 v' n (rowOf Y n)) := ⟨hB, by simpa using hown⟩
  clear hB hown hgrow hnil
  go_wp2
  go_ret
  exact ⟨v', by simp, HB.out.2, HB.out.1⟩
theorem clone29_any {v : Value} {n : Nat} {Y : Nat → Int} {w : World} (h : ByA w v n Y) (hn : n ≤ 1099511627776) : Calls Tryd.prog 29 #[v] w fun e w' => ∃ v', e = .returned v' ∧ w'.ownsRow w.heap.size 5 1 v' n (rowOf Y n) ∧ Below w.heap.size w w' := by
  obtain ⟨ao, c, rfl, h0, h1⟩ := h
  cases ao with
  | none =>
    obtain ⟨rfl, rfl⟩ := h0 rfl
    refine (clone29_nil w).mono ?_
    rintro e w' ⟨rfl, rfl⟩
    exact ⟨_, rfl, ⟨rfl, .inl ⟨rfl, rfl⟩⟩, Below.refl _ _⟩
  | some a => exact clone29_some a c n Y w hn (h1 a rfl)
/-- The cells of a state. -/
def cl (s : Sx) (ov : Value) : List Value := .int .u64 s.pc :: ((List.range 32).map (fun r => Value.int .u64 (s.x r)) ++ [.int .i64 s.st, .bool s.h, .int .i64 s.code, .int .i64 s.ft, ov, .int .i64 s.inn])
theorem cl_len (s : Sx) (ov : Value) : (cl s ov).length = 39 := rfl
theorem cl_37 (s : Sx) (ov : Value) : (cl s ov)[37]? = some ov := rfl
theorem cl_set (s : Sx) (ov ov' : Value) : (cl s ov).set 37 ov' = cl s ov' := rfl
theorem cl_one (s : Sx) (a : Option Addr) (n c : Nat) : ((cl s (.slice a n c)).toArray.all (·.oneCell')) = true := by kernel_rfl
theorem owns_slice {W : World} {base : Nat} {v : Value} {n : Nat} {xs : List Value} (h : W.ownsRow base 5 1 v n xs) : ∃ a c, v = .slice a n c := by
  obtain ⟨_, ⟨rfl, rfl⟩ | ⟨g, cap, cur, rfl, _⟩⟩ := h
  · exact ⟨_, _, rfl⟩
  · exact ⟨_, _, rfl⟩
theorem range_set {W : World} {b : Nat} {L L' : List Value} {v : Value} (h : W.rangeAt b 0 L) (hs : L.set 37 v = L') (hl : 37 < L.length) : (W.setCell ⟨b, 37, none⟩ v).rangeAt b 0 L' := fun j u hu => by
  rw [Nat.zero_add]
  subst hs
  by_cases e : j = 37
  · subst e
    rw [List.getElem?_set_self hl] at hu
    cases hu
    have t := h 37 L[37] (List.getElem?_eq_getElem hl)
    rw [Nat.zero_add] at t
    exact World.cell?_setCell_same _ _ _ t
  · rw [List.getElem?_set_ne (Ne.symm e)] at hu
    have t := h j u hu
    rw [Nat.zero_add] at t
    rw [World.cell?_setCell_other _ _ _ _ (by intro k; injection k with k1 k2; exact e (by omega))]
    exact t
theorem there_set {W : World} {b o n b' k : Nat} {v : Value} (h : W.there b o n) (hne : b ≠ b') (hl : b < W.heap.size) : (W.setCell ⟨b', k, none⟩ v).there b o n := fun j hj => by
  have e := (grown_set W b' k v).block b hl (fun e => hne (by cases e; rfl))
  have t := h j hj
  simp only [World.cell?, World.frozen?, e] at t ⊢
  exact t
set_option maxRecDepth 20000 in
set_option maxHeartbeats 1000000 in
theorem copied28_any {s : Sx} {a : Option Addr} {n c : Nat} {Y : Nat → Int} {w : World} (h : ByA w (.slice a n c) n Y) (hn : n ≤ 1099511627776) : Calls Tryd.prog 28 #[.agg (cl s (.slice a n c)).toArray] w fun e w' => ∃ ov, e = .returned (.agg (cl s ov).toArray) ∧ w'.ownsRow w.heap.size 5 1 ov n (rowOf Y n) ∧ Below w.heap.size w w' := by
  have q37 := cl_37 s (.slice a n c)
  have HH : Hid (ByA w (.slice a n c) n Y) := h
  have hl : Hid ((cl s (.slice a n c)).length = 39) := rfl
  have hset : Hid (∀ ov', (cl s (.slice a n c)).set 37 ov' = cl s ov') := fun ov' => cl_set s _ ov'
  obtain ⟨L, hL⟩ : ∃ L, cl s (.slice a n c) = L := ⟨_, rfl⟩
  rw [hL] at q37 hl hset ⊢
  clear h hL
  go_enter Tryd.func28, Tryd.ntmps28
  go_wp2_with fail
  refine (clone29_any (HH.out.below (((Below.refl _ w).alloc (Nat.le_refl _) _).alloc (by simp) _)) hn).mono ?_
  rintro e w1 ⟨v', rfl, ho, hb⟩
  obtain ⟨a', c', rfl⟩ := owns_slice ho
  have k37 : w1.cell? ⟨w.heap.size, 37, none⟩ = some (.slice a n c) := (hb.cell (p := ⟨w.heap.size, 37, none⟩) (by simp; omega)).trans (by simp [q37])
  have f37 : w1.frozen? ⟨w.heap.size, 37, none⟩ = false := (hb.frozen (p := ⟨w.heap.size, 37, none⟩) (by simp; omega)).trans (by simp)
  have hz : w.heap.size + 2 ≤ w1.heap.size := by have := hb.size; simpa using this
  have HR : Hid ((w1.setCell ⟨w.heap.size, 37, none⟩ (.slice a' n c')).rangeAt w.heap.size 0 (cl s (.slice a' n c'))) := range_set (fun j u hu => by rw [Nat.zero_add]; exact (hb.cell (p := ⟨w.heap.size, j, none⟩) (by simp; omega)).trans (by simpa using hu)) (hset.out _) (by rw [hl.out]; omega)
  have HT : Hid ((w1.setCell ⟨w.heap.size, 37, none⟩ (.slice a' n c')).there (w.heap.size + 1) 0 39) := there_set (there_below (there_new2 w _ zC 37 rfl rfl) hb (by simp)) (by omega) (by have := hb.size; simp at this; omega)
  have HB : Hid (Below w.heap.size w w1) := (((Below.refl _ w).alloc (Nat.le_refl _) _).alloc (by simp) _).trans (hb.mono (by simp; omega))
  have HO : Hid (w1.ownsRow w.heap.size 5 1 (.slice a' n c') n (rowOf Y n) ∧ (Value.slice a' n c').ownBlock ≠ some w.heap.size ∧ (Value.slice a' n c').ownBlock ≠ some (w.heap.size + 1)) := by
    obtain ⟨h1, ⟨e, e2⟩ | ⟨g, cap, cur, e, h2, h3⟩⟩ := ho
    · rw [e]; exact ⟨⟨h1, .inl ⟨rfl, e2⟩⟩, by simp [Value.ownBlock], by simp [Value.ownBlock]⟩
    · simp at h2
      rw [e]; exact ⟨⟨h1, .inr ⟨g, cap, cur, rfl, by omega, h3⟩⟩, by simp [Value.ownBlock]; omega, by simp [Value.ownBlock]; omega⟩
  have H1 : Hid ((cl s (.slice a' n c')).toArray.all (·.oneCell') = true) := cl_one s a' n c'
  have HL : Hid ((cl s (.slice a' n c')).length = 39) := cl_len s _
  clear hb ho
  obtain ⟨L', hL'⟩ : ∃ L', cl s (.slice a' n c') = L' := ⟨_, rfl⟩
  have HE : Hid (cl s (.slice a' n c') = L') := hL'
  rw [hL'] at HR H1 HL
  clear hL'
  go_wp2_with (first | (refine wpList_load_guard rfl 37 _ rfl w.heap.size 0 rfl L' _ HR.out Tryd.underlying37 rfl (by rw [HL.out]; exact info37) ?_) | (refine wpList_store_mid rfl 37 _ _ rfl (w.heap.size + 1) 0 L'.toArray rfl rfl (by rw [show L'.toArray.size = 39 from HL.out]; exact HT.out) (by rw [show L'.toArray.size = 39 from HL.out]; exact info37) H1.out ?_) | go_in)
  refine bodyPost_ret (v := .agg L'.toArray) (results_cell Tryd.results28 (w.heap.size + 1) rfl L' _ (World.rangeAt_setCells_same _ _ _ L' (by rw [HL.out]; exact HT.out)) Tryd.underlying37 rfl (by rw [HL.out]; exact info37)) rfl ⟨.slice a' n c', by rw [HE.out], ?_, ?_⟩
  · refine owns_keep HO.out.1 fun g hg => ?_
    have n1 : g ≠ w.heap.size := fun e => HO.out.2.1 (by rw [hg, e])
    have n2 : g ≠ w.heap.size + 1 := fun e => HO.out.2.2 (by rw [hg, e])
    obtain ⟨cur, hc⟩ := owns_lt HO.out.1 hg
    have l := lt_of_some hc
    have e := (grown_set w1 w.heap.size 37 (.slice a' n c')).block g l (fun e => n1 (by cases e; rfl))
    rw [World.heap_setCells_other _ _ _ _ (by simpa using l) n2]
    exact e
  · exact below_setCells (HB.out.setCell (p := ⟨w.heap.size, 37, none⟩) (Nat.le_refl _) _) _ _ (by omega) _
end
section
open Go.RowKit Go.Shelf
/-- Is a state right, of a machine with so many bytes to read? -/
def ftB (f : Int) : Bool := decide (f = 0) || (decide (30 ≤ f) && decide (f ≤ 34))
def srB (s : Sx) (n : Nat) : Bool := decide (s.x 0 = 0) && (decide (0 ≤ s.st) && (decide (0 ≤ s.code) && (decide (s.code ≤ 255) && (ftB s.ft && (decide (0 ≤ s.inn) && decide (s.inn ≤ n))))))
set_option maxRecDepth 20000 in
set_option maxHeartbeats 2000000 in
theorem right26_any (s : Sx) (ov : Value) (n : Nat) (w : World) : Calls Tryd.prog 26 #[.agg (cl s ov).toArray, .int .i64 n] w fun e w' => e = .returned (.bool (srB s n)) ∧ Below w.heap.size w w' := by
  have q1 : (cl s ov)[1]? = some (.int .u64 (s.x 0)) := rfl
  have q33 : (cl s ov)[33]? = some (.int .i64 s.st) := rfl
  have q35 : (cl s ov)[35]? = some (.int .i64 s.code) := rfl
  have q36 : (cl s ov)[36]? = some (.int .i64 s.ft) := rfl
  have q38 : (cl s ov)[38]? = some (.int .i64 s.inn) := rfl
  have HB : Hid (Below w.heap.size w (w.alloc (.cells (cl s ov).toArray 37))) := (Below.refl _ _).alloc (Nat.le_refl _) _
  generalize cl s ov = L at *
  unfold srB ftB
  obtain ⟨x0, e0⟩ : ∃ x0, s.x 0 = x0 := ⟨_, rfl⟩
  obtain ⟨st, e1⟩ : ∃ x0, s.st = x0 := ⟨_, rfl⟩
  obtain ⟨co, e2⟩ : ∃ x0, s.code = x0 := ⟨_, rfl⟩
  obtain ⟨ft, e3⟩ : ∃ x0, s.ft = x0 := ⟨_, rfl⟩
  obtain ⟨ii, e4⟩ : ∃ x0, s.inn = x0 := ⟨_, rfl⟩
  rw [e0] at q1
  rw [e1] at q33
  rw [e2] at q35
  rw [e3] at q36
  rw [e4] at q38
  rw [e0, e1, e2, e3, e4]
  clear e0 e1 e2 e3 e4
  obtain ⟨B, hB⟩ : ∃ B, (decide (x0 = 0) && (decide (0 ≤ st) && (decide (0 ≤ co) && (decide (co ≤ 255) && ((decide (ft = 0) || (decide (30 ≤ ft) && decide (ft ≤ 34))) && (decide (0 ≤ ii) && decide (ii ≤ n))))))) = B := ⟨_, rfl⟩
  rw [hB]
  have HQ : Hid ((decide (x0 = 0) && (decide (0 ≤ st) && (decide (0 ≤ co) && (decide (co ≤ 255) && ((decide (ft = 0) || (decide (30 ≤ ft) && decide (ft ≤ 34))) && (decide (0 ≤ ii) && decide (ii ≤ n))))))) = B) := hB
  clear hB
  go_enter Tryd.func26, Tryd.ntmps26
  go_wp2
  all_goals (
    go_ret
    refine ⟨ret_bool ?_, HB.out⟩
    rw [← HQ.out]
    first | (simp_all; done) | (simp_all; omega))
end
section
open Go.RowKit Go.Shelf
section
variable {s : Sx} {a0 ai : Option Addr} {n0 c0 ni ci : Nat} {Y0 Yi : Nat → Int} {pv : Value} {len : Nat} {k p : Nat → Int} {ao : Nat → Option Addr} {bl bc : Nat → Nat} {Y : Nat → Nat → Int} {w : World}
set_option maxRecDepth 20000 in
set_option maxHeartbeats 1000000 in
theorem new12_wrong (hr : srB s ni = false) : Calls Tryd.prog 12 #[.agg (cl s (.slice a0 n0 c0)).toArray, pv, .slice ai ni ci] w fun e w' => e = .returned (.tuple #[.pointer none, .int .i64 1]) ∧ Below w.heap.size w w' := by
  have hR : Hid (∀ w, Calls Tryd.prog 26 #[.agg (cl s (.slice a0 n0 c0)).toArray, .int .i64 ni] w fun e w' => e = .returned (.bool false) ∧ Below w.heap.size w w') := fun w => by have t := right26_any s (.slice a0 n0 c0) ni w; rw [hr] at t; exact t
  have hl : Hid ((cl s (.slice a0 n0 c0)).length = 39) := rfl
  generalize cl s (.slice a0 n0 c0) = L at *
  clear hr
  go_enter Tryd.func12, Tryd.ntmps12
  go_wp2_with (first | (refine wpList_load_guard rfl 37 _ rfl w.heap.size 0 rfl L _ (range_new w L 37) Tryd.underlying37 rfl (by rw [hl.out]; exact info37) ?_) | fail)
  refine (hR.out _).mono ?_
  rintro e w1 ⟨rfl, hb⟩
  have HB : Hid (Below w.heap.size w w1) := ((Below.refl _ w).alloc (Nat.le_refl _) _).trans (hb.mono (by simp))
  clear hb
  go_wp2_with fail
  go_ret2
  exact ⟨rfl, HB.out⟩
set_option maxRecDepth 20000 in
set_option maxHeartbeats 1000000 in
theorem new12_pages (hr : srB s ni = true) (hP : PgArg w pv len k p ao bl bc Y) (he : ¬ errE len k p bl = 0) : Calls Tryd.prog 12 #[.agg (cl s (.slice a0 n0 c0)).toArray, pv, .slice ai ni ci] w fun e w' => e = .returned (.tuple #[.pointer none, .int .i64 (errE len k p bl)]) ∧ Below w.heap.size w w' := by
  have hR : Hid (∀ w, Calls Tryd.prog 26 #[.agg (cl s (.slice a0 n0 c0)).toArray, .int .i64 ni] w fun e w' => e = .returned (.bool true) ∧ Below w.heap.size w w') := fun w => by have t := right26_any s (.slice a0 n0 c0) ni w; rw [hr] at t; exact t
  have hl : Hid ((cl s (.slice a0 n0 c0)).length = 39) := rfl
  have HFr : Hid (∀ w1, Below w.heap.size w w1 → Calls Tryd.prog 27 #[pv] w1 fun e w' => e = .returned (.tuple #[.pointer none, .int .i64 (errE len k p bl)]) ∧ Below w1.heap.size w1 w') := fun w1 hb => (from_any w1 (hP.below hb)).mono fun e w' h => by
    rcases h with ⟨hb, ⟨_, h⟩ | ⟨h, _⟩⟩
    · exact ⟨h, hb⟩
    · exact absurd h he
  have he1 : (errE len k p bl != 0) = true := by simpa using he
  generalize cl s (.slice a0 n0 c0) = L at *
  generalize errE len k p bl = E at *
  clear hr hP he
  go_enter Tryd.func12, Tryd.ntmps12
  go_wp2_with (first | (refine wpList_load_guard rfl 37 _ rfl w.heap.size 0 rfl L _ (range_new w L 37) Tryd.underlying37 rfl (by rw [hl.out]; exact info37) ?_) | fail)
  refine (hR.out _).mono ?_
  rintro e w1 ⟨rfl, hb⟩
  have HB : Hid (Below w.heap.size w w1) := ((Below.refl _ w).alloc (Nat.le_refl _) _).trans (hb.mono (by simp))
  clear hb
  go_wp2_with fail
  refine (HFr.out _ HB.out).mono ?_
  rintro e w2 ⟨rfl, hb⟩
  have HB2 : Hid (Below w.heap.size w w2) := HB.out.trans (hb.mono HB.out.size)
  clear hb
  go_wp2_with fail
  go_ret2
  exact ⟨rfl, HB2.out⟩
theorem fold_size : ∀ (l : List (Value × Nat)) (A : Array Value), (List.foldl (fun (cs : Array Value) (x : Value × Nat) => cs.setIfInBounds x.snd x.fst) A l).size = A.size
  | [], _ => rfl
  | x :: l, A => by rw [List.foldl_cons, fold_size l]; simp
/-- All cells of a machine. -/
def ml (s : Sx) (ov : Value) (mem : Nat) (iv : Value) : List Value := cl s ov ++ [.pointer (some ⟨mem, 0, none⟩), iv]
theorem cl_reg (s : Sx) (ov : Value) {r : Nat} (hr : r < 32) : (cl s ov)[1 + r]? = some (.int .u64 (s.x r)) := by
  unfold cl
  rw [show 1 + r = r + 1 by omega, List.getElem?_cons_succ, List.getElem?_append_left (by simpa using hr)]
  simp [hr]
theorem mch_made {W : World} {m : Nat} {s : Sx} {ov : Value} {mem : Nat} {iv : Value} (h : W.heap[m]? = some (.cells (ml s ov mem iv).toArray 72)) : Mch W m s ov mem iv := by
  have c : ∀ o, W.cell? ⟨m, o, none⟩ = (ml s ov mem iv)[o]? := fun o => by simp [World.cell?, h]
  have e : ∀ o, o < 39 → (ml s ov mem iv)[o]? = (cl s ov)[o]? := fun o ho => by unfold ml; exact List.getElem?_append_left (by rw [cl_len]; exact ho)
  exact ⟨⟨_, h, rfl⟩, (c 0).trans rfl, fun r hr => (c _).trans ((e _ (by omega)).trans (cl_reg s ov hr)), (c 33).trans rfl, (c 34).trans rfl, (c 35).trans rfl, (c 36).trans rfl, (c 37).trans rfl, (c 38).trans rfl, (c 39).trans rfl, (c 40).trans rfl⟩
theorem mach_made (s : Sx) (a2 a' : Option Addr) (n0 c2 ni c' mem : Nat) : some (Obj.cells (((List.foldl (fun (cs : Array Value) (x : Value × Nat) => cs.setIfInBounds x.snd x.fst) #[.int .u64 0, .int .u64 0, .int .u64 0, .int .u64 0, .int .u64 0, .int .u64 0, .int .u64 0, .int .u64 0, .int .u64 0, .int .u64 0, .int .u64 0, .int .u64 0, .int .u64 0, .int .u64 0, .int .u64 0, .int .u64 0, .int .u64 0, .int .u64 0, .int .u64 0, .int .u64 0, .int .u64 0, .int .u64 0, .int .u64 0, .int .u64 0, .int .u64 0, .int .u64 0, .int .u64 0, .int .u64 0, .int .u64 0, .int .u64 0, .int .u64 0, .int .u64 0, .int .u64 0, .int .i64 0, .bool false, .int .i64 0, .int .i64 0, .slice none 0 0, .int .i64 0, .pointer none, .slice none 0 0] (cl s (.slice a2 n0 c2)).zipIdx).setIfInBounds 39 (.pointer (some ⟨mem, 0, none⟩))).setIfInBounds 40 (.slice a' ni c')) 72) = some (Obj.cells (ml s (.slice a2 n0 c2) mem (.slice a' ni c')).toArray 72) := by kernel_rfl
/-- A machine was made. -/
structure Made (w : World) (s : Sx) (n0 ni : Nat) (Y0 Yi : Nat → Int) (len : Nat) (k p : Nat → Int) (Y : Nat → Nat → Int) (m mem r : Nat) (ps : List Pgd) (ov iv : Value) (W' : World) : Prop where
  mch : Mch W' m s ov mem iv
  fr : ∃ W0 W1, Below w.heap.size w W0 ∧ Fr W0 mem r len k p Y w.heap.size ps ∧ Below W0.heap.size W0 W1 ∧ Below W1.heap.size W1 W' ∧ W'.ownsRow W0.heap.size 5 1 ov n0 (rowOf Y0 n0) ∧ (∀ g, ov.ownBlock = some g → g < W1.heap.size) ∧ W'.ownsRow W1.heap.size 5 1 iv ni (rowOf Yi ni) ∧ W1.heap.size ≤ m ∧ w.heap.size ≤ mem ∧ w.heap.size ≤ r ∧ mem < W0.heap.size ∧ r < W0.heap.size
set_option maxRecDepth 20000 in
set_option maxHeartbeats 2000000 in
theorem new12_good (hr : srB s ni = true) (hP : PgArg w pv len k p ao bl bc Y) (he : errE len k p bl = 0) (h0 : ByA w (.slice a0 n0 c0) n0 Y0) (hn0 : n0 ≤ 1099511627776) (h1 : ByA w (.slice ai ni ci) ni Yi) (hn1 : ni ≤ 1099511627776) : Calls Tryd.prog 12 #[.agg (cl s (.slice a0 n0 c0)).toArray, pv, .slice ai ni ci] w fun e w' => ∃ m mem r ps ov iv, e = .returned (.tuple #[.pointer (some ⟨m, 0, none⟩), .int .i64 0]) ∧ Made w s n0 ni Y0 Yi len k p Y m mem r ps ov iv w' := by
  have hR : Hid (∀ w, Calls Tryd.prog 26 #[.agg (cl s (.slice a0 n0 c0)).toArray, .int .i64 ni] w fun e w' => e = .returned (.bool true) ∧ Below w.heap.size w w') := fun w => by have t := right26_any s (.slice a0 n0 c0) ni w; rw [hr] at t; exact t
  have hl : Hid ((cl s (.slice a0 n0 c0)).length = 39) := rfl
  have HFr : Hid (∀ w1, Below w.heap.size w w1 → Calls Tryd.prog 27 #[pv] w1 fun e w' => e = .returned (.tuple #[.pointer (some ⟨w1.heap.size + 1, 0, none⟩), .int .i64 0]) ∧ Below w1.heap.size w1 w' ∧ ∃ ps, Fr w' (w1.heap.size + 1) w1.heap.size len k p Y w1.heap.size ps) := fun w1 hb => (from_any w1 (hP.below hb)).mono fun e w' h => by
    rcases h with ⟨hb, ⟨h, _⟩ | ⟨_, _, h, hF⟩⟩
    · exact absurd he h
    · exact ⟨h, hb, hF⟩
  have HC : Hid (∀ W0, Below w.heap.size w W0 → Calls Tryd.prog 28 #[.agg (cl s (.slice a0 n0 c0)).toArray] W0 fun e w' => ∃ ov, e = .returned (.agg (cl s ov).toArray) ∧ w'.ownsRow W0.heap.size 5 1 ov n0 (rowOf Y0 n0) ∧ Below W0.heap.size W0 w') := fun W0 hb => copied28_any (h0.below hb) hn0
  have HI : Hid (∀ W1, Below w.heap.size w W1 → Calls Tryd.prog 29 #[.slice ai ni ci] W1 fun e w' => ∃ iv, e = .returned iv ∧ w'.ownsRow W1.heap.size 5 1 iv ni (rowOf Yi ni) ∧ Below W1.heap.size W1 w') := fun W1 hb => clone29_any (h1.below hb) hn1
  generalize cl s (.slice a0 n0 c0) = L at *
  clear hr hP he h0 h1
  go_enter Tryd.func12, Tryd.ntmps12
  go_wp2_with (first | (refine wpList_load_guard rfl 37 _ rfl w.heap.size 0 rfl L _ (range_new w L 37) Tryd.underlying37 rfl (by rw [hl.out]; exact info37) ?_) | fail)
  refine (hR.out _).mono ?_
  rintro e w1 ⟨rfl, hb⟩
  have hc : Hid (w1.rangeAt w.heap.size 0 L) := range_below (range_new w L 37) hb (by simp)
  have hz : w.heap.size < w1.heap.size := by have := hb.size; simp at this; omega
  have HB : Hid (Below w.heap.size w w1) := ((Below.refl _ w).alloc (Nat.le_refl _) _).trans (hb.mono (by simp))
  clear hb
  go_wp2_with fail
  refine (HFr.out _ HB.out).mono ?_
  rintro e W0 ⟨rfl, hb0, ps, hF⟩
  have hc0 : Hid (W0.rangeAt w.heap.size 0 L) := range_below hc.out hb0 hz
  have HF : Hid (Fr W0 (w1.heap.size + 1) w1.heap.size len k p Y w1.heap.size ps) := hF
  have hz0 : w1.heap.size ≤ W0.heap.size := hb0.size
  have HB0 : Hid (Below w.heap.size w W0) := HB.out.trans (hb0.mono (Nat.le_of_lt hz))
  clear hb0 hF hc
  go_wp2_with (first | (refine wpList_load_guard rfl 37 _ rfl w.heap.size 0 rfl L _ hc0.out Tryd.underlying37 rfl (by rw [hl.out]; exact info37) ?_) | fail)
  refine (HC.out W0 HB0.out).mono ?_
  rintro e W1 ⟨ov, rfl, hov, hb1⟩
  have hz1 := hb1.size
  have HB1 : Hid (Below W0.heap.size W0 W1) := hb1
  have HOV : Hid (W1.ownsRow W0.heap.size 5 1 ov n0 (rowOf Y0 n0)) := hov
  obtain ⟨L1, hL1⟩ : ∃ L1, cl s ov = L1 := ⟨_, rfl⟩
  rw [hL1]
  have HL1 : Hid (cl s ov = L1) := hL1
  have hl1 : L1.length = 39 := by rw [← hL1]; rfl
  have hfs : (List.foldl (fun (cs : Array Value) (x : Value × Nat) => cs.setIfInBounds x.snd x.fst) #[.int .u64 0, .int .u64 0, .int .u64 0, .int .u64 0, .int .u64 0, .int .u64 0, .int .u64 0, .int .u64 0, .int .u64 0, .int .u64 0, .int .u64 0, .int .u64 0, .int .u64 0, .int .u64 0, .int .u64 0, .int .u64 0, .int .u64 0, .int .u64 0, .int .u64 0, .int .u64 0, .int .u64 0, .int .u64 0, .int .u64 0, .int .u64 0, .int .u64 0, .int .u64 0, .int .u64 0, .int .u64 0, .int .u64 0, .int .u64 0, .int .u64 0, .int .u64 0, .int .u64 0, .int .i64 0, .bool false, .int .i64 0, .int .i64 0, .slice none 0 0, .int .i64 0, .pointer none, .slice none 0 0] L1.zipIdx).size = 41 := fold_size _ _
  clear hb1 hov hL1
  go_wp2_with fail
  refine (HI.out W1 (HB0.out.trans (HB1.out.mono HB0.out.size))).mono ?_
  rintro e W2 ⟨iv, rfl, hiv, hb2⟩
  have HB2 : Hid (Below W1.heap.size W1 W2) := hb2
  have HIV : Hid (W2.ownsRow W1.heap.size 5 1 iv ni (rowOf Yi ni)) := hiv
  obtain ⟨a', c', rfl⟩ := owns_slice hiv
  obtain ⟨a2, c2, rfl⟩ := owns_slice HOV.out
  clear hb2 hiv
  go_wp2_with fail
  go_ret2
  have HM : Mch (W2.alloc (Obj.cells (ml s (.slice a2 n0 c2) (w1.heap.size + 1) (.slice a' ni c')).toArray 72)) W2.heap.size s (.slice a2 n0 c2) (w1.heap.size + 1) (.slice a' ni c') := mch_made (heap_at _ _)
  refine ⟨W2.heap.size, w1.heap.size + 1, w1.heap.size, ps, .slice a2 n0 c2, .slice a' ni c', rfl, ?_⟩
  rw [← HL1.out, show Obj.cells _ 72 = Obj.cells (ml s (.slice a2 n0 c2) (w1.heap.size + 1) (.slice a' ni c')).toArray 72 from Option.some.inj (mach_made s a2 a' n0 c2 ni c' (w1.heap.size + 1))]
  have B2 : Below W1.heap.size W1 (W2.alloc (Obj.cells (ml s (.slice a2 n0 c2) (w1.heap.size + 1) (.slice a' ni c')).toArray 72)) := HB2.out.alloc HB2.out.size _
  have lo : ∀ g, (Value.slice a2 n0 c2).ownBlock = some g → g < W1.heap.size := fun g hg => by obtain ⟨cur, hc⟩ := owns_lt HOV.out hg; exact lt_of_some hc
  refine ⟨HM, W0, W1, HB0.out, ?_, HB1.out, B2, owns_keep HOV.out fun g hg => B2.block g (lo g hg), lo, owns_keep HIV.out fun g hg => ?_, HB2.out.size, by omega, by omega, ?_, ?_⟩
  · exact ⟨HF.out.len, HF.out.cell, HF.out.map, fun j x h => ⟨(HF.out.at_ j x h).1, (HF.out.at_ j x h).2.1, (HF.out.at_ j x h).2.2.1, by have := (HF.out.at_ j x h).2.2.2; omega⟩, HF.out.data, HF.out.apart, HF.out.up⟩
  · obtain ⟨cur, hc⟩ := owns_lt HIV.out hg; exact (Below.heap_alloc W2 _ g (lt_of_some hc))
  · exact lt_of_cell HF.out.cell
  · exact lt_of_some HF.out.map
end
end
end Go.Proofs.YtnmpbihpoefeoaaDoor
