/- Any program, looked at. Any program: what the door answers. -/
import Derived.Test.YtdppoblbenbafaaGreatDoorIJ
namespace Go.Proofs.YtdppoblbenbafaaGreatDoor
section
open Go.RowKit Go.Shelf
/-- The checker, as it lies. -/
structure PK (w wx : World) (es : Array MapEntry) (c : Nat) : Prop where
  bel : Below w.heap.size w wx
  sz : w.heap.size + 1 + 1 < wx.heap.size
  mo : wx.heap[w.heap.size]? = some (.map oes 14)
  mp : wx.heap[w.heap.size + 1]? = some (.map es c)
  c0 : wx.cell? ⟨w.heap.size + 1 + 1, 0, none⟩ = some (.map (some w.heap.size))
  c1 : wx.cell? ⟨w.heap.size + 1 + 1, 1, none⟩ = some (.map (some (w.heap.size + 1)))
theorem PK.below {w wx w' : World} {es : Array MapEntry} {c : Nat} (h : PK w wx es c) (hb : Below wx.heap.size wx w') : PK w w' es c :=
  ⟨h.bel.trans (hb.mono h.bel.size), Nat.lt_of_lt_of_le h.sz hb.size, by rw [hb.block _ (by have := h.sz; omega)]; exact h.mo, by rw [hb.block _ (by have := h.sz; omega)]; exact h.mp, by rw [hb.cell (p := ⟨w.heap.size + 1 + 1, 0, none⟩) h.sz]; exact h.c0, by rw [hb.cell (p := ⟨w.heap.size + 1 + 1, 1, none⟩) h.sz]; exact h.c1⟩
theorem PK.upd {w wx : World} {es es' : Array MapEntry} {c c' : Nat} (h : PK w wx es c) : PK w (swp wx (w.heap.size + 1) (.map es' c')) es' c' := by
  have hs := h.sz
  refine ⟨swp_below h.bel _ _ (by omega), by rw [swp_size]; exact hs, by rw [swp_heap _ _ _ _ (by omega)]; exact h.mo, ?_, by rw [swp_cell _ _ _ _ _ (by omega)]; exact h.c0, by rw [swp_cell _ _ _ _ _ (by omega)]; exact h.c1⟩
  show (wx.heap.setIfInBounds _ _)[w.heap.size + 1]? = _
  rw [Array.getElem?_setIfInBounds_self, if_pos (by omega)]
theorem pk_start (w : World) : PK w (((w.alloc (.map oes 14)).alloc (.map #[] 0)).alloc (.cells #[.map (some w.heap.size), .map (some (w.heap.size + 1))] 60)) #[] 0 := by
  refine ⟨(((G.refl w).alloc _).alloc _ |>.alloc _).below, by simp, ?_, ?_, by go_simp, by go_simp⟩
  · rw [(Go.MapKept.heap_alloc _ _).2 _ (by simp; omega), (Go.MapKept.heap_alloc _ _).2 _ (by simp), (Go.MapKept.heap_alloc _ _).1]
  · rw [(Go.MapKept.heap_alloc _ _).2 _ (by simp), (show w.heap.size + 1 = (w.alloc (.map oes 14)).heap.size by simp), (Go.MapKept.heap_alloc _ _).1]
theorem below_of_g {w w' : World} (h : G w w') : Below w.heap.size w w' := h.below
set_option maxRecDepth 20000 in
set_option maxHeartbeats 8000000 in
theorem programRight32g (l : List Fun) (p : Option Addr) (pc : Nat) (w : World) (hT : Tfa w) (hI : FunA w p pc l) : Calls Tryz.prog 26 #[.slice p l.length pc] w fun e w' => e = .returned (.bool (prB l)) ∧ Below w.heap.size w w' := by
  have HT : Hid (Tfa w) := hT
  have HI : Hid (FunA w p pc l) := hI
  have hxc := hI.1
  have hxc2 := hI.2.1
  have HV : Hid (prB l = ((decide (1 ≤ l.length) && decide (l.length ≤ 1024)) && ((l.head?.all fun x => x.h.pa == 0) && (nodB [] l && fnsB (fdF l) l)))) := rfl
  obtain ⟨n, hn⟩ : ∃ n, n = l.length := ⟨_, rfl⟩
  have HN : Hid (n = l.length) := hn
  rw [← hn] at hxc HV ⊢
  clear hT hI hn
  generalize prB l = R at *
  by_cases hn0 : n = 0
  · have HE : Hid (false = R) := by show _ = _; rw [HV.out, hn0]; rfl
    subst hn0
    go_enter Tryz.func26, Tryz.ntmps26
    go_wp2
    go_ret
    exact ⟨ret_bool HE.out, Below.refl _ _⟩
  by_cases hn2 : 1024 < n
  · have HE : Hid (false = R) := by show _ = _; rw [HV.out, show decide (n ≤ 1024) = false by simp; omega]; simp
    go_enter Tryz.func26, Tryz.ntmps26
    go_wp2
    go_ret
    exact ⟨ret_bool HE.out, Below.refl _ _⟩
  obtain ⟨g, oo, hxo, hcc⟩ := HI.out.2.2.2 (by have := HN.out; omega)
  have HI2 : Hid (FunA w (some ⟨g, oo, none⟩) pc l) := by have := HI.out; rw [hxo] at this; exact this
  subst hxo
  obtain ⟨x0, hx0⟩ : ∃ x, l[0]? = some x := ⟨_, List.getElem?_eq_getElem (by have := HN.out; omega)⟩
  have a0 := hcc 0 x0 hx0 1 _ rfl
  rw [show oo + 0 * 5 + 1 = oo + 1 by omega] at a0
  have hh : (l.head?.all fun x => x.h.pa == 0) = (x0.h.pa == 0) := by
    cases l with
    | nil => cases hx0
    | cons y r => cases hx0; rfl
  rw [hh, show (decide (1 ≤ n) && decide (n ≤ 1024)) = true by simp; omega] at HV
  clear hh hx0 hcc
  generalize x0.h.pa = P0 at *
  have e1 : ((n : Int) == 0) = false := by simp; omega
  have e2 : decide ((1024 : Int) < (n : Int)) = false := by simp; omega
  by_cases hp0 : P0 = 0
  · subst hp0
    have HE : Hid (R = (nodB (l.take 0) (l.drop 0) && fnsB (fdF l) l)) := by show _ = _; rw [HV.out]; simp
    clear HV
    have hmm := @run_makeMap Tryz.prog
    have HW : Hid (∃ W, W = ((w.alloc (.map oes 14)).alloc (.map #[] 0)).alloc (.cells #[.map (some w.heap.size), .map (some (w.heap.size + 1))] 60) ∧ PK w W (entsF 0 (l.take 0)).toArray 0) := ⟨_, rfl, pk_start w⟩
    go_enter Tryz.func26, Tryz.ntmps26
    go_wp2_with (first | (go_at_call 23; refine (operations7 _).mono ?_; rintro e w' ⟨rfl, rfl⟩))
    obtain ⟨W, hWe, hK⟩ := HW.out
    rw [← hWe]
    have HK0 : Hid (PK w W (entsF 0 (l.take 0)).toArray 0) := hK
    clear hWe hK HW a0 hmm
    go_loopw [30] (fun v wx => ∃ j : Nat, j ≤ n ∧ v = .int .i64 j ∧ PK w wx (entsF 0 (l.take j)).toArray j ∧ R = (nodB (l.take j) (l.drop j) && fnsB (fdF l) l)) (fun v _ => n - (intOf v).toNat)
    case atStart => exact ⟨0, Nat.zero_le _, rfl, HK0.out, HE.out⟩
    case round =>
      obtain ⟨j, hj, rfl, hK, hRu⟩ := hrel
      have HK : Hid (PK w wr (entsF 0 (l.take j)).toArray j) := hK
      have HRu : Hid (R = (nodB (l.take j) (l.drop j) && fnsB (fdF l) l)) := hRu
      obtain ⟨hbel, hsz, hmo, hmp, c0, c1⟩ := hK
      clear hRu HE HK0 W
      by_cases hlt : j < n
      · obtain ⟨x, hi⟩ : ∃ x, l[j]? = some x := ⟨_, List.getElem?_eq_getElem (by have := HN.out; omega)⟩
        obtain ⟨g', oo', hxo', hcc⟩ := (HI2.out.below hbel).2.2.2 (by have := HN.out; omega)
        cases hxo'
        have d0 := hcc j x hi 0 _ rfl
        have d1 := hcc j x hi 1 _ rfl
        have d2 := hcc j x hi 2 _ rfl
        have d3 := hcc j x hi 3 _ rfl
        have d4 := hcc j x hi 4 _ rfl
        rw [Nat.add_zero] at d0
        have f0 := acell hsz c0
        have f1 := acell hsz c1
        have HU : Hid (nodB (l.take j) (l.drop j) = ((fnOf (l.take j) x.h.nm).isNone && nodB (l.take (j + 1)) (l.drop (j + 1)))) := nodB_at hi
        have hKa := HK.out.below (((Below.refl _ _).alloc (Nat.le_refl _) (.cells #[.string x.h.nm, .int .i64 x.h.pa, .int .i64 x.h.rg, .int .i64 x.h.fr, .slice x.h.ba x.h.bl x.h.bc] 27)) : Below wr.heap.size wr _)
        have hEq := entsF_at hi
        clear hcc hi hbel hmo hmp
        cases hf : fnOf (l.take j) x.h.nm with
        | some y =>
          obtain ⟨q, hq⟩ := fnOf_some x.h.nm y (l.take j) hf 0 0
          have HE : Hid (false = R) := by show _ = _; rw [HRu.out, HU.out, hf]; rfl
          have hl := look59f (w.heap.size + 1) q x.h.nm y.h.pa (entsF 0 (l.take j)).toArray j _ hKa.mp (by simpa using hq)
          have HB : Hid (Below w.heap.size w (wr.alloc (.cells #[.string x.h.nm, .int .i64 x.h.pa, .int .i64 x.h.rg, .int .i64 x.h.fr, .slice x.h.ba x.h.bl x.h.bc] 27))) := hKa.bel
          clear hf hq hKa hEq
          go_wp2
          go_ret
          exact ⟨ret_bool HE.out, HB.out⟩
        | none =>
          have hq := fnOf_none x.h.nm (l.take j) hf 0 0
          have HE : Hid (R = (nodB (l.take (j + 1)) (l.drop (j + 1)) && fnsB (fdF l) l)) := by show _ = _; rw [HRu.out, HU.out, hf]; simp
          have hl := look59 (w.heap.size + 1) x.h.nm (entsF 0 (l.take j)).toArray j _ hKa.mp (by simpa using hq)
          have hu := upd59 (w.heap.size + 1) x.h.nm (.int .i64 x.h.pa) (entsF 0 (l.take j)).toArray j _ hKa.mp (by simpa using hq)
          have hKb := hKa.upd (es' := (entsF 0 (l.take (j + 1))).toArray) (c' := j + 1)
          rw [hEq] at hu
          obtain ⟨V, hV⟩ : ∃ V, V = swp (wr.alloc (.cells #[.string x.h.nm, .int .i64 x.h.pa, .int .i64 x.h.rg, .int .i64 x.h.fr, .slice x.h.ba x.h.bl x.h.bc] 27)) (w.heap.size + 1) (.map (entsF 0 (l.take (j + 1))).toArray (j + 1)) := ⟨_, rfl⟩
          rw [← hV] at hu hKb
          have HKb : Hid (PK w V (entsF 0 (l.take (j + 1))).toArray (j + 1)) := hKb
          clear hf hq hKa hEq hV hKb
          go_wp2
          go_round
          case rel => exact ⟨j + 1, by omega, by go_num, HKb.out, HE.out⟩
          case measure => simp [intOf]; omega
      · obtain rfl : n = j := by omega
        have HK1 : Hid (PK w wr (entsF 0 l).toArray n) := by
          have := HK.out
          rw [List.take_of_length_le (by have := HN.out; omega)] at this
          exact this
        have HE : Hid (R = fnsB (fdF l) (l.drop 0)) := by show _ = _; rw [HRu.out, List.drop_eq_nil_of_le (by have := HN.out; omega)]; simp [nodB]
        clear hbel hmo hmp c0 c1 hsz HK HRu
        generalize wr = V at *
        go_wp2
        go_loopw [52] (fun v wx => ∃ j : Nat, j ≤ n ∧ v = .int .i64 j ∧ G V wx ∧ R = fnsB (fdF l) (l.drop j)) (fun v _ => n - (intOf v).toNat)
        case atStart => exact ⟨0, Nat.zero_le _, rfl, G.refl _, HE.out⟩
        case round =>
          obtain ⟨j, hj, rfl, hGx, hRu⟩ := hrel
          have HX : Hid (G V wr) := hGx
          have HRu : Hid (R = fnsB (fdF l) (l.drop j)) := hRu
          have HK2 : Hid (PK w wr (entsF 0 l).toArray n) := HK1.out.below hGx.below
          obtain ⟨hbel, hsz, hmo, hmp, c0, c1⟩ := HK2.out
          clear hRu HE hGx hmo hmp
          by_cases hlt : j < n
          · obtain ⟨x, hi⟩ : ∃ x, l[j]? = some x := ⟨_, List.getElem?_eq_getElem (by have := HN.out; omega)⟩
            obtain ⟨g', oo', hxo', hcc⟩ := (HI2.out.below hbel).2.2.2 (by have := HN.out; omega)
            cases hxo'
            have d0 := hcc j x hi 0 _ rfl
            have d1 := hcc j x hi 1 _ rfl
            have d2 := hcc j x hi 2 _ rfl
            have d3 := hcc j x hi 3 _ rfl
            have d4 := hcc j x hi 4 _ rfl
            rw [Nat.add_zero] at d0
            have f0 := acell hsz c0
            have f1 := acell hsz c1
            have hmem : x ∈ l := List.mem_of_getElem? hi
            have HU : Hid (fnsB (fdF l) (l.drop j) = (fnB x.h (fdF l) x.bs && fnsB (fdF l) (l.drop (j + 1)))) := fnsB_at (fdF l) hi
            have hC : Hid (∀ W', G wr W' → Calls Tryz.prog 24 #[.agg #[.map (some w.heap.size), .map (some (w.heap.size + 1))], .agg #[.string x.h.nm, .int .i64 x.h.pa, .int .i64 x.h.rg, .int .i64 x.h.fr, .slice x.h.ba x.h.bl x.h.bc]] W' fun e w' => e = .returned (.bool (fnB x.h (fdF l) x.bs)) ∧ G W' w') := fun W' hW' => by
              have hk := HK2.out.below hW'.below
              obtain ⟨t1, t2, t3⟩ := (HI2.out.below hk.bel).2.2.1 x hmem
              exact function38g x.h w.heap.size (some (w.heap.size + 1)) (fdF l) x.bs W' t1 t2 (HT.out.below hk.bel) t3 hk.mo (fun b _ i _ => fdF_pm l hk.mp i.nm)
            have HB : Hid (Below w.heap.size w wr) := hbel
            clear hcc hi hmem hbel
            generalize fnB x.h (fdF l) x.bs = IB at *
            cases IB with
            | false =>
              have HE : Hid (false = R) := by show _ = _; rw [HRu.out, HU.out]; rfl
              go_wp2_with (first | (go_at_call 24; refine (hC.out _ ((G.refl _).alloc _)).mono ?_; rintro e w' ⟨rfl, hg⟩))
              go_ret
              exact ⟨ret_bool HE.out, HB.out.trans ((((G.refl _).alloc _).trans hg).below.mono HB.out.size)⟩
            | true =>
              have HE : Hid (R = fnsB (fdF l) (l.drop (j + 1))) := by show _ = _; rw [HRu.out, HU.out]; rfl
              go_wp2_with (first | (go_at_call 24; refine (hC.out _ ((G.refl _).alloc _)).mono ?_; rintro e w' ⟨rfl, hg⟩))
              go_round
              case rel => exact ⟨j + 1, by omega, by go_num, (HX.out.alloc _).trans hg, HE.out⟩
              case measure => simp [intOf]; omega
          · obtain rfl : j = n := by omega
            have HE : Hid (true = R) := by show _ = _; rw [HRu.out, List.drop_eq_nil_of_le (by have := HN.out; omega)]; rfl
            have HB : Hid (Below w.heap.size w wr) := hbel
            go_wp2
            go_ret
            exact ⟨ret_bool HE.out, HB.out⟩
  · have HE : Hid (false = R) := by show _ = _; rw [HV.out, show (P0 == 0) = false by simpa using hp0]; rfl
    have e3 : (P0 == 0) = false := by simpa using hp0
    go_enter Tryz.func26, Tryz.ntmps26
    go_wp2
    go_ret
    exact ⟨ret_bool HE.out, Below.refl _ _⟩
end
section
open Go.RowKit Go.Shelf
set_option maxHeartbeats 1000000 in
theorem check28g (l : List Fun) (p : Option Addr) (pc : Nat) (w : World) (hT : Tfa w) (hI : FunA w p pc l) : Calls Tryz.prog 9 #[.slice p l.length pc] w fun e w' => e = .returned (.int .i64 (if prB l then 0 else 6)) ∧ Below w.heap.size w w' := by
  have HC : Hid (Calls Tryz.prog 26 #[.slice p l.length pc] w fun e w' => e = .returned (.bool (prB l)) ∧ Below w.heap.size w w') := programRight32g l p pc w hT hI
  clear hI hT
  generalize prB l = R at *
  cases R with
  | true =>
    go_enter Tryz.func9, Tryz.ntmps9
    go_wp2_with (first | (go_at_call 26; refine HC.out.mono ?_; rintro e w1 ⟨rfl, hb⟩))
    go_ret
    exact ⟨rfl, hb⟩
  | false =>
    go_enter Tryz.func9, Tryz.ntmps9
    go_wp2_with (first | (go_at_call 26; refine HC.out.mono ?_; rintro e w1 ⟨rfl, hb⟩))
    go_ret
    exact ⟨rfl, hb⟩
end
end Go.Proofs.YtdppoblbenbafaaGreatDoor
