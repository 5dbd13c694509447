/- Of a memory: its pages in order (T7). Of a memory: its pages in order (T8). Of a memory: its pages in order (U1). -/
import Derived.Test.YtnmpbihpoefeoaaDoorLD
import Derived.Test.YtnmpbihpoefeoaaDoorLE
import Derived.Test.YtnmpbihpoefeoaaDoorJJ
import Derived.Test.YtnmpbihpoefeoaaDoorShelf
namespace Go.Proofs.YtnmpbihpoefeoaaDoor
section
open Go.RowKit Go.Shelf Go.Sort
/-- The Bases, rising. -/
def keysS (ps : List Pgd) : List Int := (ps.map (·.k)).mergeSort (fun x y => decide (x ≤ y))
theorem keysS_len (ps : List Pgd) : (keysS ps).length = ps.length := by simp [keysS, List.length_mergeSort]
theorem sort_perm {ps : List Pgd} {ys : List (Fin ps.length)} (h : ys.Perm (List.finRange ps.length)) : (ys.map fun x => ps[x.1].k).mergeSort (fun x y => decide (x ≤ y)) = keysS ps := by
  have hp : (ys.map fun x => ps[x.1].k).Perm (ps.map (·.k)) := by
    refine (h.map _).trans ?_
    have : (List.finRange ps.length).map (fun x => ps[x.1].k) = ps.map (·.k) := by
      apply List.ext_getElem
      · simp
      · intro i h1 h2; simp
    rw [this]
  have tr : ∀ a b c : Int, decide (a ≤ b) = true → decide (b ≤ c) = true → decide (a ≤ c) = true := fun a b c h1 h2 => by simp at *; omega
  have tot : ∀ a b : Int, (decide (a ≤ b) || decide (b ≤ a)) = true := fun a b => by simp; omega
  have s1 := List.pairwise_mergeSort (le := fun x y : Int => decide (x ≤ y)) tr tot (ys.map fun x => ps[x.1].k)
  have s2 := List.pairwise_mergeSort (le := fun x y : Int => decide (x ≤ y)) tr tot (ps.map (·.k))
  unfold keysS
  refine List.Perm.eq_of_pairwise (le := fun x y => decide (x ≤ y) = true) ?_ s1 s2 ((List.mergeSort_perm _ _).trans (hp.trans (List.mergeSort_perm _ _).symm))
  intro a b _ _ h1 h2
  simp at h1 h2
  omega
set_option maxHeartbeats 1000000 in
theorem sorted51 (r Bm : Nat) (ps : List Pgd) (w : World) (hm : w.cell? ⟨Bm, 0, none⟩ = some (.map (some r))) (hr : w.heap[r]? = some (.map (entsFrom 0 ps).toArray ps.length)) (hlen : ps.length ≤ 65536) (hne : ps ≠ []) :
    Calls Tryd.prog 53 #[.func (.func 68) #[] #[.pointer (some ⟨Bm, 0, none⟩)]] w fun e w' => ∃ g cap, e = .returned (.slice (some ⟨g, 0, none⟩) ps.length cap) ∧ w.heap.size ≤ g ∧ (∃ cur, w'.heap[g]? = some (.cells cur 22 (0, 0))) ∧ (∀ t, t < ps.length → w'.cell? ⟨g, 0 + t, none⟩ = some (.int .u64 ((keysS ps).getD t 0))) ∧ Below w.heap.size w w' := by
  have HA : Hid (Calls Tryd.prog 66 #[.func (.func 68) #[] #[.pointer (some ⟨Bm, 0, none⟩)]] w fun e w' => ∃ v, ∃ ys : List (Fin ps.length), e = .returned v ∧ ys.Perm (List.finRange ps.length) ∧ w'.ownsRow w.heap.size 22 1 v ys.length (ys.map (keyV ps)) ∧ (v = .slice none 0 0 ↔ ys = []) ∧ Below w.heap.size w w') := collect55 r Bm ps w hm hr hlen
  clear hm hr
  go_enter Tryd.func53, Tryd.ntmps53
  go_wp2_with fail
  refine HA.out.mono ?_
  rintro e w1 ⟨v, ys, rfl, h1, h2, h3, h4⟩
  have hl : ys.length = ps.length := by rw [h1.length_eq]; simp
  have hpos : 0 < ps.length := List.length_pos_iff.2 hne
  rcases h2.2 with ⟨_, hz⟩ | ⟨g, cap, cur, rfl, hg, hh, hnc, _, hcs, htk⟩
  · omega
  rw [hl] at hnc htk
  have hrow : Rw w1 g 0 (ys.map fun x => ps[x.1].k).toArray w1 := by
    refine ⟨World.grownBy.refl _ _, fun t ht => ?_, fun t ht => ?_, ⟨cur, hh⟩⟩
    · have ht' : t < ys.length := by simpa using ht
      have e : cur.toList[t]? = some (.int .u64 (ys.map fun x => ps[x.1].k).toArray[t]!) := by
        have t1 := congrArg (fun l => l[t]?) htk
        rw [List.getElem?_take_of_lt (by omega)] at t1
        rw [t1]
        simp [keyV, ht', getElem!_pos]
      simp only [World.cell?, hh, Nat.zero_add]
      simpa using e
    · simp [World.frozen?, hh]
  have HS : Hid (Calls Tryd.prog 67 #[.slice (some ⟨g, 0, none⟩) ys.length cap] w1 fun e w' => e = .returned (.tuple #[]) ∧ Rw w1 g 0 (Sort.sort ltInt (ys.map fun x => ps[x.1].k).toArray) w') := sort56 g 0 ys.length cap _ w1 hrow (by simp) (by omega)
  have HX : Hid (ys.Perm (List.finRange ps.length) ∧ Below w.heap.size w w1 ∧ w.heap.size ≤ g) := ⟨h1, h4, hg⟩
  rw [hl] at HS ⊢
  clear h1 h2 h3 h4 hh hcs htk hrow HA
  go_wp2_with fail
  refine HS.out.mono ?_
  rintro e w2 ⟨rfl, hr2⟩
  have H2 : Hid (Rw w1 g 0 (Sort.sort ltInt (ys.map fun x => ps[x.1].k).toArray) w2) := hr2
  clear hr2
  go_wp2
  go_ret
  obtain ⟨hp, hB, hg⟩ := HX.out
  have hsl := sort_list (ys.map fun x => ps[x.1].k)
  rw [sort_perm hp] at hsl
  have hsz : (Sort.sort ltInt (ys.map fun x => ps[x.1].k).toArray).size = ps.length := by rw [← Array.length_toList, hsl, keysS_len]
  refine ⟨g, cap, rfl, hg, H2.out.ty, fun t ht => ?_, hB.grown H2.out.grown hB.size (fun k e => by cases e; exact hg)⟩
  rw [H2.out.cell t (by omega)]
  congr 2
  rw [← hsl, getElem!_pos _ _ (by omega)]
  simp [List.getD, ht, hsz]
set_option maxHeartbeats 1000000 in
theorem sorted51_nil (r Bm : Nat) (w : World) (hm : w.cell? ⟨Bm, 0, none⟩ = some (.map (some r))) (hr : w.heap[r]? = some (.map #[] 0)) :
    Calls Tryd.prog 53 #[.func (.func 68) #[] #[.pointer (some ⟨Bm, 0, none⟩)]] w fun e w' => e = .returned (.slice none 0 0) ∧ Below w.heap.size w w' := by
  have HA : Hid (Calls Tryd.prog 66 #[.func (.func 68) #[] #[.pointer (some ⟨Bm, 0, none⟩)]] w fun e w' => ∃ v, ∃ ys : List (Fin ([] : List Pgd).length), e = .returned v ∧ ys.Perm (List.finRange ([] : List Pgd).length) ∧ w'.ownsRow w.heap.size 22 1 v ys.length (ys.map (keyV [])) ∧ (v = .slice none 0 0 ↔ ys = []) ∧ Below w.heap.size w w') := collect55 r Bm [] w hm hr (by simp)
  clear hm hr
  go_enter Tryd.func53, Tryd.ntmps53
  go_wp2_with fail
  refine HA.out.mono ?_
  rintro e w1 ⟨v, ys, rfl, h1, h2, h3, h4⟩
  obtain rfl : v = .slice none 0 0 := h3.2 (List.eq_nil_of_length_eq_zero (by rw [h1.length_eq]; simp))
  have HX : Hid (Below w.heap.size w w1) := h4
  clear h1 h2 h3 h4
  go_wp2_with fail
  refine (sort56_nil _).mono ?_
  rintro e w2 ⟨rfl, e2⟩
  subst e2
  go_wp2
  go_ret
  exact ⟨rfl, HX.out⟩
end
section
open Go.RowKit Go.Shelf
/-- The page that comes as the i-th. -/
def ordP (ps : List Pgd) (i : Nat) : Pgd := (pg ps ((keysS ps).getD i 0)).getD noP
theorem ordP_some (ps : List Pgd) (i : Nat) (h : i < ps.length) : pg ps ((keysS ps).getD i 0) = some (ordP ps i) := by
  have hmem : (keysS ps).getD i 0 ∈ ps.map (·.k) := by
    have h1 : (keysS ps).getD i 0 ∈ keysS ps := by
      rw [List.getD_eq_getElem?_getD, List.getElem?_eq_getElem (by rw [keysS_len]; exact h)]
      exact List.getElem_mem _
    exact (List.mergeSort_perm _ _).mem_iff.1 h1
  obtain ⟨x, hx, hk⟩ := List.mem_map.1 hmem
  unfold ordP
  cases hp : pg ps ((keysS ps).getD i 0) with
  | some y => rfl
  | none =>
    unfold pg at hp
    rw [List.find?_eq_none] at hp
    exact absurd (by simp [hk]) (hp x hx)
/-- What an iterator over the pages asks of a round: the memory, and rows of numbers, stay. -/
structure KeepO (b r M : Nat) (W W' : World) : Prop where
  size : W.heap.size ≤ W'.heap.size
  map : W'.heap[r]? = W.heap[r]?
  cb : W'.cell? ⟨b, 0, none⟩ = W.cell? ⟨b, 0, none⟩
  cm : W'.cell? ⟨M, 0, none⟩ = W.cell? ⟨M, 0, none⟩
  rows : ∀ (k : Nat) (cur : Array Value), W.heap[k]? = some (Obj.cells cur 22 (0, 0)) → W'.heap[k]? = some (Obj.cells cur 22 (0, 0))
theorem KeepO.refl (b r M : Nat) (W : World) : KeepO b r M W W := ⟨Nat.le_refl _, rfl, rfl, rfl, fun _ _ h => h⟩
theorem KeepO.trans {b r M : Nat} {A B C : World} (h : KeepO b r M A B) (k : KeepO b r M B C) : KeepO b r M A C := ⟨Nat.le_trans h.size k.size, k.map.trans h.map, k.cb.trans h.cb, k.cm.trans h.cm, fun j c e => k.rows j c (h.rows j c e)⟩
set_option maxHeartbeats 1000000 in
theorem inOrder36 (b : Nat) (w : World) : Calls Tryd.prog 44 #[.pointer (some ⟨b, 0, none⟩)] w fun e w' => e = .returned (.func (.func 52) #[] #[.pointer (some ⟨w.heap.size, 0, none⟩)]) ∧ w' = w.alloc (.cells #[.pointer (some ⟨b, 0, none⟩)] 66) := by
  go_enter Tryd.func44, Tryd.ntmps44
  go_wp2
  go_ret
  exact ⟨rfl, rfl⟩
theorem look_val (r : Nat) (k : Int) (ps : List Pgd) (x : Pgd) (W : World) (hr : W.heap[r]? = some (.map (entsFrom 0 ps).toArray ps.length)) (hx : pg ps k = some x) : (Instr.lookup 82 (.map (some r)) (.int .u64 k) false).run Tryd.prog W = .ok (pval x) W := by
  obtain ⟨j, hj⟩ := find_some k x ps hx 0 0
  unfold Instr.lookup
  simp [Sem.run_bind, run_underlying und42', run_getObj_map W r _ _ hr, check23, Go.MapKept.run_findKey Tryd.underlying22 hj]
set_option maxRecDepth 100000 in
set_option maxHeartbeats 2000000 in
theorem order50 (n0 b r M : Nat) (ps : List Pgd) (w : World) (hn : 6 ≤ n0) (hM : w.cell? ⟨M, 0, none⟩ = some (.pointer (some ⟨b, 0, none⟩))) (hc : w.cell? ⟨b, 0, none⟩ = some (.map (some r))) (hr : w.heap[r]? = some (.map (entsFrom 0 ps).toArray ps.length)) (hlen : ps.length ≤ 65536) :
    SeqStopsK Fence.wide n0 Tryd.prog 52 #[.pointer (some ⟨M, 0, none⟩)] (fun x : Fin ps.length => #[pval (ordP ps x.1)]) (KeepO b r M) (fun ys => ys = List.finRange ps.length) (fun _ => True) ps.length w := fun l J Jx W hW hJ hJx hY h0 => by
  have h1 : W.cell? ⟨M, 0, none⟩ = some (.pointer (some ⟨b, 0, none⟩)) := (hW.cell (p := ⟨M, 0, none⟩) (lt_of_cell hM)).trans hM
  have h2 : W.cell? ⟨b, 0, none⟩ = some (.map (some r)) := (hW.cell (p := ⟨b, 0, none⟩) (lt_of_cell hc)).trans hc
  have h3 : W.heap[r]? = some (.map (entsFrom 0 ps).toArray ps.length) := (hW.block r (lt_of_some hr)).trans hr
  have HA : Hid (W.cell? ⟨M, 0, none⟩ = some (.pointer (some ⟨b, 0, none⟩)) ∧ W.cell? ⟨b, 0, none⟩ = some (.map (some r)) ∧ W.heap[r]? = some (.map (entsFrom 0 ps).toArray ps.length)) := ⟨h1, h2, h3⟩
  have HJ : Hid (AbidesFrom W.heap.size J) := hJ
  have HY : Hid (∀ pre x W1, J pre W1 → pre.length < ps.length → YieldAt Fence.wide (n0 - 1) Tryd.prog l #[pval (ordP ps x.1)] W1 fun e W' => (e = .returned (.bool true) ∧ J (pre ++ [x]) W' ∧ KeepO b r M W1 W') ∨ (e = .returned (.bool false) ∧ Jx (pre ++ [x]) W')) := hY
  have H0 : Hid (J [] W) := h0
  clear hJ hJx hY h0 hM hc hr hW h3
  refine callsIn_of_wp Tryd.func52 rfl trivial ?_ rfl
  simp only [Tryd.ntmps52, List.size_toArray, List.length_cons, List.length_nil, Nat.reduceAdd, Nat.reduceSub, Array.replicate_succ, Array.replicate_zero, List.push_toArray, List.append_toArray, List.nil_append, List.cons_append]
  gi_wp2_with fail
  refine ⟨trivial, fun _ => by omega, ?_⟩
  refine (callsIn_wide.2 (keys52 (some r) _)).mono ?_
  rintro e w1 ⟨rfl, e1⟩
  subst e1
  gi_wp2_with fail
  refine ⟨trivial, fun _ => by omega, ?_⟩
  have hs1 : W.heap.size < (W.alloc (.cells #[.map (some r)] 82)).heap.size := by simp
  have hB1 : Below W.heap.size W (W.alloc (.cells #[.map (some r)] 82)) := (Below.refl _ W).alloc (Nat.le_refl _) _
  have hm1 : (W.alloc (.cells #[.map (some r)] 82)).cell? ⟨W.heap.size, 0, none⟩ = some (.map (some r)) := by simp
  have hr1 : (W.alloc (.cells #[.map (some r)] 82)).heap[r]? = some (.map (entsFrom 0 ps).toArray ps.length) := heap_on HA.out.2.2 _
  by_cases hne : ps = []
  · subst hne
    refine (callsIn_wide.2 (sorted51_nil r _ _ hm1 hr1)).mono ?_
    rintro e w2 ⟨rfl, hB2⟩
    have HB : Hid (Below W.heap.size W w2) := hB1.trans (hB2.mono (by simp))
    have HJ2 : Hid (J [] w2) := HJ.out _ _ _ none H0.out (grown_of_below HB.out) (by intro j h; cases h)
    clear hB2 hB1 hm1 hr1
    gi_wp2_with fail
    gi_loopw [14] (fun x wr => x = .int .i64 0 ∧ J [] wr) (fun _ _ => 0)
    case atStart => exact ⟨rfl, HJ2.out⟩
    case round =>
      obtain ⟨rfl, hj⟩ := hrel
      gi_wp2
      go_end0
      exact ⟨⟨_, rfl⟩, .inl ⟨[], rfl, hj⟩⟩
  · refine (callsIn_wide.2 (sorted51 r _ ps _ hm1 hr1 hlen hne)).mono ?_
    rintro e w2 ⟨g, cap, rfl, hg, ⟨cur, hcur⟩, hcs, hB2⟩
    have HB : Hid (Below W.heap.size W w2) := hB1.trans (hB2.mono (by simp))
    have HJ2 : Hid (J [] w2) := HJ.out _ _ _ none H0.out (grown_of_below HB.out) (by intro j h; cases h)
    have HG : Hid (w2.heap[g]? = some (.cells cur 22 (0, 0)) ∧ ∀ t, t < ps.length → w2.cell? ⟨g, 0 + t, none⟩ = some (.int .u64 ((keysS ps).getD t 0))) := ⟨hcur, hcs⟩
    have HA2 : Hid (w2.cell? ⟨M, 0, none⟩ = some (.pointer (some ⟨b, 0, none⟩)) ∧ w2.cell? ⟨b, 0, none⟩ = some (.map (some r)) ∧ w2.heap[r]? = some (.map (entsFrom 0 ps).toArray ps.length)) := ⟨(HB.out.cell (p := ⟨M, 0, none⟩) (lt_of_cell h1)).trans h1, (HB.out.cell (p := ⟨b, 0, none⟩) (lt_of_cell h2)).trans h2, (HB.out.block r (lt_of_some HA.out.2.2)).trans HA.out.2.2⟩
    clear hB2 hB1 hm1 hr1 hcur hcs h1 h2
    gi_wp2_with fail
    gi_loopw [14] (fun x wr => KeepO b r M w2 wr ∧ ∃ i, i ≤ ps.length ∧ x = .int .i64 i ∧ J ((List.finRange ps.length).take i) wr) (fun x _ => ps.length - (intOf x).toNat)
    case atStart => exact ⟨KeepO.refl _ _ _ _, 0, Nat.zero_le _, rfl, HJ2.out⟩
    case round =>
      obtain ⟨hk, i, hi, rfl, hj⟩ := hrel
      by_cases hlt : i < ps.length
      · have u1 : wr.cell? ⟨M, 0, none⟩ = some (.pointer (some ⟨b, 0, none⟩)) := hk.cm.trans HA2.out.1
        have u2 : wr.cell? ⟨b, 0, none⟩ = some (.map (some r)) := hk.cb.trans HA2.out.2.1
        have u3 : wr.heap[r]? = some (.map (entsFrom 0 ps).toArray ps.length) := hk.map.trans HA2.out.2.2
        obtain ⟨q, hq⟩ : ∃ q, (keysS ps).getD i 0 = q := ⟨_, rfl⟩
        have u4 : wr.cell? ⟨g, i, none⟩ = some (.int .u64 q) := by
          have t1 := HG.out.2 i hlt
          have t2 := hk.rows _ _ HG.out.1
          simp only [World.cell?, HG.out.1, Nat.zero_add, hq] at t1
          simp only [World.cell?, t2]
          exact t1
        have u5 := look_val r q ps (ordP ps i) wr u3 (hq ▸ ordP_some ps i hlt)
        have HK : Hid (KeepO b r M w2 wr) := hk
        have HJ1 : Hid (J ((List.finRange ps.length).take i) wr) := hj
        obtain ⟨fn, tmps, assign, body, hy, hR⟩ := HY.out _ ⟨i, hlt⟩ wr hj (by simp; omega)
        dsimp only at hy hR
        simp only [pval] at u5 hy hR
        clear hk hj u3
        gi_wp2_with fail
        first | refine ⟨fun _ => by omega, ?_⟩ | skip
        refine hR.mono ?_
        rintro e W' (⟨rfl, hJ', hk'⟩ | ⟨rfl, hJx'⟩)
        · have HJ' : Hid (J ((List.finRange ps.length).take i ++ [⟨i, hlt⟩]) W') := hJ'
          have HK' : Hid (KeepO b r M w2 W') := HK.out.trans hk'
          clear hJ' hk' hy u5
          gi_wp2
          go_roundw
          case rel => exact ⟨HK'.out, i + 1, by omega, rfl, (take_fin _ i hlt) ▸ HJ'.out⟩
          case measure => simp [intOf]; omega
        · have HX' : Hid (Jx ((List.finRange ps.length).take i ++ [⟨i, hlt⟩]) W') := hJx'
          clear hJx' hy u5
          gi_wp2
          refine bodyPost_ret (results_none rfl _ _ _) rfl ?_
          exact ⟨⟨_, rfl⟩, .inr ⟨_, trivial, HX'.out⟩⟩
      · have : i = ps.length := by omega
        subst this
        have HJ1 : Hid (J (List.finRange ps.length) wr) := (by rw [List.take_of_length_le (by simp)] at hj; exact hj : J (List.finRange ps.length) wr)
        clear hj hk
        gi_wp2
        go_end0
        exact ⟨⟨_, rfl⟩, .inl ⟨_, rfl, HJ1.out⟩⟩
end
section
open Go.RowKit Go.Shelf
attribute [local go_sem] Oper.semAt_some
theorem ordP_k (ps : List Pgd) (i : Nat) (h : i < ps.length) : pg ps (ordP ps i).k = some (ordP ps i) := by
  have t := ordP_some ps i h
  rw [(pg_k t).1]
  exact t
theorem KeepO.put {b r M B : Nat} (W : World) (l : Nat) (o o' : Obj) (hb : b < B) (hr : r < B) (hM : M < B) (hl : B ≤ l) (ho : W.heap[l]? = some o) (hc : o.isCells = false) : KeepO b r M W (W.putObj l o') := by
  have F : ∀ k, k ≠ l → (W.putObj l o').heap[k]? = W.heap[k]? := fun k hk => World.putObj_heap_other hk
  refine ⟨by simp [World.putObj], F r (by omega), ?_, ?_, fun k cur h => ?_⟩
  · simp only [World.cell?, F b (by omega)]
  · simp only [World.cell?, F M (by omega)]
  · rw [F k (by rintro rfl; rw [h] at ho; cases ho; cases hc)]; exact h
theorem KeepO.below {b r M B : Nat} {W W' : World} (h : Below B W W') (hb : b < B) (hr : r < B) (hM : M < B) (hrow : ∀ (k : Nat) (cur : Array Value), W.heap[k]? = some (Obj.cells cur 22 (0, 0)) → W'.heap[k]? = some (Obj.cells cur 22 (0, 0))) : KeepO b r M W W' := ⟨h.size, h.block r hr, h.cell (p := ⟨b, 0, none⟩) hb, h.cell (p := ⟨M, 0, none⟩) hM, hrow⟩
theorem KeepO.grown {b r M : Nat} {W W' : World} (h : W.grownBy W' none) (hb : b < W.heap.size) (hr : r < W.heap.size) (hM : M < W.heap.size) : KeepO b r M W W' := by
  have F : ∀ k, k < W.heap.size → W'.heap[k]? = W.heap[k]? := fun k hk => h.block k hk (by intro e; cases e)
  exact ⟨h.size, F r hr, by simp only [World.cell?, F b hb], by simp only [World.cell?, F M hM], fun k cur hk => (F k (lt_of_some hk)).trans hk⟩
end
end Go.Proofs.YtnmpbihpoefeoaaDoor
