/- A kid's kind; kids of a form: the document's own. -/
import Derived.Test.YtkkmeogehapjoaaGreatDoorR1
namespace Go.Proofs.YtkkmeogehapjoaaGreatDoor
open Go.RowKit Go.Shelf
/-- A node as a value. -/
def nwv (x : Nd) : Value := .agg #[.int .i64 x.k, .string x.nm, .int .i64 x.v, .slice x.ka x.ks.length x.kc, .int .i64 x.fr, .int .i64 x.en]
set_option maxRecDepth 100000 in
set_option maxHeartbeats 4000000 in
theorem kid103 (l : List Nd) (x : Nd) (ao : Option Addr) (c i : Nat) (y : Int) (w : World) (hl : NdS w ao c l) (hk : IsA w x.ka x.kc x.ks) (hi : Inn l x.ks) (hy : x.ks[i]? = some y) : Calls Tryz.prog 103 #[.agg #[.slice ao l.length c], nwv x, .int .i64 i] w fun e w' => e = .returned (.int .i64 (kdK l y)) ∧ Below w.heap.size w w' := by
  obtain ⟨y0, y1⟩ := hi y (List.mem_of_getElem? hy)
  obtain ⟨q, rfl⟩ : ∃ q : Nat, y = q := ⟨y.toNat, by omega⟩
  obtain ⟨l1, l2, _, l4⟩ := hl
  obtain ⟨k1, k2, k3⟩ := hk
  have him : i < x.ks.length := (List.getElem?_eq_some_iff.1 hy).1
  have hqn : q < l.length := by omega
  obtain ⟨z, hz⟩ : ∃ z, l[q]? = some z := ⟨_, List.getElem?_eq_getElem hqn⟩
  obtain ⟨gn, on, rfl, hnc⟩ := l4 (by omega)
  obtain ⟨gk, ok, hka, hkc⟩ := k3 (by omega)
  obtain ⟨b0, _⟩ := nd_cells hnc hz
  have a0 := hkc i q hy
  have hgn : gn < w.heap.size := World.block_lt_of_cell? _ _ b0
  have hgk : gk < w.heap.size := World.block_lt_of_cell? _ _ a0
  have hB : ∀ o o', Below w.heap.size w ((w.alloc o).alloc o') := fun o o' => ((Below.refl _ w).alloc (Nat.le_refl _) o).alloc (by simp) o'
  have f1 : ∀ o o' i, ((w.alloc o).alloc o').cell? ⟨gn, i, none⟩ = w.cell? ⟨gn, i, none⟩ := fun o o' i => (bcell (hB o o')).1 gn i hgn
  have f2 : ∀ o o' i, ((w.alloc o).alloc o').cell? ⟨gk, i, none⟩ = w.cell? ⟨gk, i, none⟩ := fun o o' i => (bcell (hB o o')).1 gk i hgk
  have HB : Hid (∀ o o', Below w.heap.size w ((w.alloc o).alloc o')) := hB
  have hkd : kdK l (q : Int) = z.k := by unfold kdK; rw [Int.toNat_natCast, hz]
  rw [hkd]
  have c53 := cells53
  have c3 := cells3'
  have hq2 : (q : Int) < (l.length : Int) := by omega
  have hi2 : (i : Int) < (x.ks.length : Int) := by omega
  unfold nwv
  clear hnc hz hkd l4 hkc k3 hy hi y1 y0 hB
  obtain ⟨xk, xn, xv, xa, xc, xs, xf, xe⟩ := x
  simp only at *
  subst hka
  generalize z.k = K at *
  generalize l.length = n at *
  generalize xs.length = m at *
  go_enter Tryz.func103, Tryz.ntmps103
  go_wp2
  go_quiet (fail)
  go_wp2
  go_ret
  exact ⟨rfl, (HB.out _ _).trans ((drew_below _ nq).mono (HB.out _ _).size)⟩
/-- Whether kinds are of a form's letters; a star: any number of the next one. -/
def fitG : List UInt8 → List Int → Bool
  | [], ks => ks.isEmpty
  | c :: f, ks => if c = 42 then ks.all fun k => isB k (bt f 0) else match ks with
    | [] => false
    | k :: r => isB k c.toNat && fitG f r
/-- What the walks of a node's kids lean on: the tree and the node, in boxes. -/
structure Fx (W0 : World) (b : Nat) (tv kv : Value) (K : Int) (T : ByteArray) (V F E : Int) (W : World) : Prop where
  bl : Below W0.heap.size W0 W
  t0 : W.cell? ⟨b, 0, none⟩ = some tv
  n0 : W.cell? ⟨b + 1, 0, none⟩ = some (.int .i64 K)
  n1 : W.cell? ⟨b + 1, 1, none⟩ = some (.string T)
  n2 : W.cell? ⟨b + 1, 2, none⟩ = some (.int .i64 V)
  n3 : W.cell? ⟨b + 1, 3, none⟩ = some kv
  n4 : W.cell? ⟨b + 1, 4, none⟩ = some (.int .i64 F)
  n5 : W.cell? ⟨b + 1, 5, none⟩ = some (.int .i64 E)
theorem Fx.go {W0 : World} {b : Nat} {tv kv : Value} {K : Int} {T : ByteArray} {V F E : Int} {W' : World} (hb : Below W0.heap.size W0 W') (hz : b + 1 < W0.heap.size) (h0 : Fx W0 b tv kv K T V F E W0) : Fx W0 b tv kv K T V F E W' :=
  ⟨hb, ((bcell hb).1 _ _ (by omega)).trans h0.t0, ((bcell hb).1 _ _ hz).trans h0.n0, ((bcell hb).1 _ _ hz).trans h0.n1, ((bcell hb).1 _ _ hz).trans h0.n2, ((bcell hb).1 _ _ hz).trans h0.n3, ((bcell hb).1 _ _ hz).trans h0.n4, ((bcell hb).1 _ _ hz).trans h0.n5⟩
theorem fx_new (w : World) (tv kv : Value) (K : Int) (T : ByteArray) (V F E : Int) : Fx ((w.alloc (.cells #[tv] 24)).alloc (.cells #[.int .i64 K, .string T, .int .i64 V, kv, .int .i64 F, .int .i64 E] 53)) w.heap.size tv kv K T V F E ((w.alloc (.cells #[tv] 24)).alloc (.cells #[.int .i64 K, .string T, .int .i64 V, kv, .int .i64 F, .int .i64 E] 53)) :=
  ⟨Below.refl _ _, by simp, by simp, by simp, by simp, by simp, by simp, by simp⟩
set_option maxRecDepth 100000 in
set_option maxHeartbeats 4000000 in
theorem fits_gen (l : List Nd) (x : Nd) (ao : Option Addr) (c : Nat) (s : ByteArray) (w : World) (hl : NdS w ao c l) (hk : IsA w x.ka x.kc x.ks) (hi : Inn l x.ks) (hs1 : ¬ s.data.toList = [102, 110]) (hs2 : ¬ s.data.toList = [98, 108, 111, 99, 107]) (hs3 : s.size ≤ 10) (hs4 : ∀ j : Nat, s.data.toList[j]? = some 42 → j + 1 < s.size) : Calls Tryz.prog 78 #[.agg #[.slice ao l.length c], nwv x, .string s] w fun e w' => e = .returned (.bool (fitG s.data.toList (x.ks.map (kdK l)))) ∧ Below w.heap.size w w' := by
  have HK : Hid (∀ W (i : Nat) y, (x.ks.map (kdK l))[i]? = some y → Below w.heap.size w W → Calls Tryz.prog 103 #[.agg #[.slice ao l.length c], .agg #[.int .i64 x.k, .string x.nm, .int .i64 x.v, .slice x.ka x.ks.length x.kc, .int .i64 x.fr, .int .i64 x.en], .int .i64 i] W fun e w' => e = .returned (.int .i64 y) ∧ Below W.heap.size W w') := fun W i y hy hW => by
    rw [List.getElem?_map] at hy
    obtain ⟨z, hz, rfl⟩ := Option.map_eq_some_iff.1 hy
    exact kid103 l x ao c i z W (hl.below hW) (hk.below hW) hi hz
  have HI : Hid (∀ W k (c : Nat), Calls Tryz.prog 102 #[.int .i64 k, .int .u8 c] W fun e w' => e = .returned (.bool (isB k c)) ∧ w' = W) := fun W k c => is102 k c W
  have h1 := ByteArray.toList_eq s
  have hL := len_of s
  have e1 : (s.data.toList == [102, 110]) = false := by simpa using hs1
  have e2 : (s.data.toList == [98, 108, 111, 99, 107]) = false := by simpa using hs2
  have hm : (x.ks.map (kdK l)).length = x.ks.length := by simp
  have hmx : x.ks.length ≤ 9223372036854775807 := Nat.le_trans hk.1 hk.2.1
  have hbt : ∀ j (h : j < s.size), s[j].toNat = bt s.data.toList j := fun j h => at_bt s j h
  unfold nwv
  generalize s.data.toList = f at *
  generalize x.ks.map (kdK l) = kk at *
  obtain ⟨xk, xn, xv, xa, xc, xs, xf, xe⟩ := x
  simp only at *
  generalize xs.length = m at *
  generalize l.length = n at *
  have HF : Hid (f.length = s.size ∧ kk.length = m ∧ (∀ j : Nat, f[j]? = some 42 → j + 1 < s.size) ∧ ∀ j (h : j < s.size), s[j].toNat = bt f j) := ⟨hL, hm, hs4, hbt⟩
  clear hl hk hi hs1 hs2 hL hm hs4 hbt
  have HB : Hid (∀ o o', Below w.heap.size w ((w.alloc o).alloc o')) := fun o o' => ((Below.refl _ w).alloc (Nat.le_refl _) o).alloc (by simp) o'
  obtain ⟨R, hR⟩ : ∃ R, R = fitG f kk := ⟨_, rfl⟩
  rw [← hR]
  have HR : Hid (R = fitG f kk) := hR
  clear hR
  go_enter Tryz.func78, Tryz.ntmps78
  go_wp2
  have hX0 := fx_new w (.slice ao n c) (.slice xa m xc) xk xn xv xf xe
  have hbw := HB.out (.cells #[.slice ao n c] 24) (.cells #[.int .i64 xk, .string xn, .int .i64 xv, .slice xa m xc, .int .i64 xf, .int .i64 xe] 53)
  have hzz : w.heap.size + 1 < ((w.alloc (.cells #[.slice ao n c] 24)).alloc (.cells #[.int .i64 xk, .string xn, .int .i64 xv, .slice xa m xc, .int .i64 xf, .int .i64 xe] 53)).heap.size := by simp
  clear HB
  generalize (w.alloc (.cells #[.slice ao n c] 24)).alloc (.cells #[.int .i64 xk, .string xn, .int .i64 xv, .slice xa m xc, .int .i64 xf, .int .i64 xe] 53) = W0 at *
  have HX : Hid (∀ W, Below W0.heap.size W0 W → Fx W0 w.heap.size (.slice ao n c) (.slice xa m xc) xk xn xv xf xe W) := fun W hW => Fx.go hW hzz hX0
  have HBW : Hid (Below w.heap.size w W0) := hbw
  have HC : Hid (∀ W (i : Nat) y, kk[i]? = some y → Below W0.heap.size W0 W → Calls Tryz.prog 103 #[.agg #[.slice ao n c], .agg #[.int .i64 xk, .string xn, .int .i64 xv, .slice xa m xc, .int .i64 xf, .int .i64 xe], .int .i64 i] W fun e w' => e = .returned (.int .i64 y) ∧ Below W0.heap.size W0 w') := fun W i y hy hW => (HK.out W i y hy (hbw.trans (hW.mono hbw.size))).mono fun _ _ ⟨he, hb⟩ => ⟨he, hW.trans (hb.mono hW.size)⟩
  clear hX0 hbw HK
  go_loopw [10, 11] (fun i j wx => ∃ k : Nat, k ≤ s.size ∧ k ≤ m ∧ i = .int .i64 k ∧ j = .int .i64 k ∧ Below W0.heap.size W0 wx ∧ R = fitG (f.drop k) (kk.drop k)) (fun _ j _ => s.size - (intOf j).toNat)
  case atStart => exact ⟨0, Nat.zero_le _, Nat.zero_le _, rfl, rfl, Below.refl _ _, HR.out⟩
  case round =>
    obtain ⟨k, hk, hkm, rfl, rfl, hB, hE⟩ := hrel
    have HBr : Hid (Below W0.heap.size W0 wr) := hB
    obtain ⟨_, t0, n0, n1, n2, n3, n4, n5⟩ := HX.out wr hB
    by_cases hlt : k < s.size
    · obtain ⟨ch, hch⟩ : ∃ ch, f[k]? = some ch := ⟨_, List.getElem?_eq_getElem (by have := HF.out.1; omega)⟩
      have hdk : f.drop k = ch :: f.drop (k + 1) := by
        obtain ⟨hk', e⟩ := List.getElem?_eq_some_iff.1 hch
        rw [← e]
        exact List.drop_eq_getElem_cons hk'
      have hcb : bt f k = ch.toNat := by simp [bt, List.getD, hch]
      have hsk : s[k].toNat = ch.toNat := by rw [HF.out.2.2.2 k hlt, hcb]
      rw [hdk] at hE
      unfold fitG at hE
      by_cases h42 : ch = 42
      · rw [if_pos h42] at hE
        subst h42
        have hk1 := HF.out.2.2.1 k hch
        have hsk2 : s[k].toNat = 42 := hsk
        obtain ⟨k1, hk1e⟩ : ∃ k1, k1 = k + 1 := ⟨_, rfl⟩
        have hk1' : k1 < s.size := by omega
        have hs1 : s[k1].toNat = bt f (k + 1) := by rw [HF.out.2.2.2 k1 hk1', hk1e]
        have hwk : IntKind.i64.wrap ((k : Int) + 1) = (k1 : Int) := by simp [IntKind.wrap, IntKind.bits, IntKind.signed]; omega
        have hk1i : (k1 : Int) < (s.size : Int) := by omega
        have hk1z : (0 : Int) ≤ (k1 : Int) := by omega
        clear hk1e hk1
        have hbt0 : bt (f.drop (k + 1)) 0 = bt f (k + 1) := by simp [bt, List.getD, List.getElem?_drop]
        rw [hbt0] at hE
        have HE : Hid (R = (kk.drop k).all fun z => isB z (bt f (k + 1))) := hE
        clear hE hdk hcb hsk hch hbt0 hB
        generalize bt f (k + 1) = cl at *
        go_wp2
        go_loopw [10] (fun i wx => ∃ q : Nat, k ≤ q ∧ q ≤ m ∧ i = .int .i64 q ∧ Below W0.heap.size W0 wx ∧ R = (kk.drop q).all fun z => isB z cl) (fun i _ => m - (intOf i).toNat)
        case atStart => exact ⟨k, Nat.le_refl _, hkm, rfl, HBr.out, HE.out⟩
        case round =>
          obtain ⟨q, hkq, hqm, rfl, hB, hE⟩ := hrel
          have HBq : Hid (Below W0.heap.size W0 wr) := hB
          clear t0 n0 n1 n2 n3 n4 n5
          obtain ⟨_, t0, n0, n1, n2, n3, n4, n5⟩ := HX.out wr hB
          by_cases hlt2 : q < m
          · obtain ⟨y, hy⟩ : ∃ y, kk[q]? = some y := ⟨_, List.getElem?_eq_getElem (by have := HF.out.2.1; omega)⟩
            have hdq : kk.drop q = y :: kk.drop (q + 1) := by
              obtain ⟨hk', e⟩ := List.getElem?_eq_some_iff.1 hy
              rw [← e]
              exact List.drop_eq_getElem_cons hk'
            rw [hdq, List.all_cons] at hE
            have HCq : Hid (∀ W, Below W0.heap.size W0 W → Calls Tryz.prog 103 #[.agg #[.slice ao n c], .agg #[.int .i64 xk, .string xn, .int .i64 xv, .slice xa m xc, .int .i64 xf, .int .i64 xe], .int .i64 q] W fun e w' => e = .returned (.int .i64 y) ∧ Below W0.heap.size W0 w') := fun W hW => HC.out W q y hy hW
            have HIq : Hid (∀ W, Calls Tryz.prog 102 #[.int .i64 y, .int .u8 (cl : Nat)] W fun e w' => e = .returned (.bool (isB y cl)) ∧ w' = W) := fun W => HI.out W y cl
            have HE2 : Hid (R = (isB y cl && (kk.drop (q + 1)).all fun z => isB z cl)) := hE
            clear hE hdq hy hB
            generalize isB y cl = b at *
            cases b
            · obtain rfl : R = false := HE2.out
              go_wp2_with fail
              go_region_held3 (fun w' => Below W0.heap.size W0 w' ∧ w'.cell? ⟨w.heap.size, 0, none⟩ = some (.slice ao n c) ∧ w'.cell? ⟨w.heap.size + 1, 0, none⟩ = some (.int .i64 xk) ∧ w'.cell? ⟨w.heap.size + 1, 1, none⟩ = some (.string xn) ∧ w'.cell? ⟨w.heap.size + 1, 2, none⟩ = some (.int .i64 xv) ∧ w'.cell? ⟨w.heap.size + 1, 3, none⟩ = some (.slice xa m xc) ∧ w'.cell? ⟨w.heap.size + 1, 4, none⟩ = some (.int .i64 xf) ∧ w'.cell? ⟨w.heap.size + 1, 5, none⟩ = some (.int .i64 xe)) (first | assumption | (refine ⟨?_, ?_, ?_, ?_, ?_, ?_, ?_, ?_⟩ <;> (first | assumption | (exact HBq.out) | (exact HBq.out.trans ⟨rfl, rfl, rfl, Nat.le_refl _, fun _ _ => rfl⟩) | (simp; done) | (simp; assumption)))) (first | (go_at_call 103; refine (HCq.out _ (by first | exact HBq.out.trans ⟨rfl, rfl, rfl, Nat.le_refl _, fun _ _ => rfl⟩ | assumption | exact And.left (by assumption))).mono ?_; rintro e w5 ⟨rfl, hB5⟩; obtain ⟨_, p0, p1, p2, p3, p4, p5, p6⟩ := HX.out w5 hB5) | (go_at_call 102; refine (HIq.out _).mono ?_; rintro e w6 ⟨rfl, rfl⟩))
              all_goals go_wp2
              all_goals go_ret
              all_goals exact ⟨rfl, HBW.out.trans (hB5.mono HBW.out.size)⟩
            · have HE3 : Hid (R = (kk.drop (q + 1)).all fun z => isB z cl) := HE2.out
              go_wp2_with fail
              go_region_held3 (fun w' => Below W0.heap.size W0 w' ∧ w'.cell? ⟨w.heap.size, 0, none⟩ = some (.slice ao n c) ∧ w'.cell? ⟨w.heap.size + 1, 0, none⟩ = some (.int .i64 xk) ∧ w'.cell? ⟨w.heap.size + 1, 1, none⟩ = some (.string xn) ∧ w'.cell? ⟨w.heap.size + 1, 2, none⟩ = some (.int .i64 xv) ∧ w'.cell? ⟨w.heap.size + 1, 3, none⟩ = some (.slice xa m xc) ∧ w'.cell? ⟨w.heap.size + 1, 4, none⟩ = some (.int .i64 xf) ∧ w'.cell? ⟨w.heap.size + 1, 5, none⟩ = some (.int .i64 xe)) (first | assumption | (refine ⟨?_, ?_, ?_, ?_, ?_, ?_, ?_, ?_⟩ <;> (first | assumption | (exact HBq.out) | (exact HBq.out.trans ⟨rfl, rfl, rfl, Nat.le_refl _, fun _ _ => rfl⟩) | (simp; done) | (simp; assumption)))) (first | (go_at_call 103; refine (HCq.out _ (by first | exact HBq.out.trans ⟨rfl, rfl, rfl, Nat.le_refl _, fun _ _ => rfl⟩ | assumption | exact And.left (by assumption))).mono ?_; rintro e w5 ⟨rfl, hB5⟩; obtain ⟨_, p0, p1, p2, p3, p4, p5, p6⟩ := HX.out w5 hB5) | (go_at_call 102; refine (HIq.out _).mono ?_; rintro e w6 ⟨rfl, rfl⟩))
              all_goals go_wp2
              all_goals exact ⟨⟨q + 1, by omega, by omega, by go_num, hB5, HE3.out⟩, by simp [intOf]; omega⟩
          · obtain rfl : q = m := by omega
            have hdn : kk.drop q = [] := List.drop_eq_nil_of_le (by have := HF.out.2.1; omega)
            rw [hdn] at hE
            have hR : R = true := hE
            subst hR
            clear hdn hE hB
            go_wp2
            go_ret
            exact ⟨rfl, HBW.out.trans (HBq.out.mono HBW.out.size)⟩
      · rw [if_neg h42] at hE
        have hn42 : ¬ ch.toNat = 42 := fun h => h42 (UInt8.toNat_inj.1 (by rw [h]; rfl))
        have hsk3 : ((s[k].toNat : Int) == 42) = false := by rw [beq_eq_false_iff_ne, hsk]; omega
        have hsk4 : ¬ (s[k].toNat : Int) = 42 := by rw [hsk]; omega
        have hki : (k : Int) < (s.size : Int) := by omega
        have hkz : (0 : Int) ≤ (k : Int) := by omega
        by_cases hkm2 : k < m
        · obtain ⟨y, hy⟩ : ∃ y, kk[k]? = some y := ⟨_, List.getElem?_eq_getElem (by have := HF.out.2.1; omega)⟩
          have hdq : kk.drop k = y :: kk.drop (k + 1) := by
            obtain ⟨hk', e⟩ := List.getElem?_eq_some_iff.1 hy
            rw [← e]
            exact List.drop_eq_getElem_cons hk'
          rw [hdq] at hE
          simp only at hE
          have HCk : Hid (∀ W, Below W0.heap.size W0 W → Calls Tryz.prog 103 #[.agg #[.slice ao n c], .agg #[.int .i64 xk, .string xn, .int .i64 xv, .slice xa m xc, .int .i64 xf, .int .i64 xe], .int .i64 k] W fun e w' => e = .returned (.int .i64 y) ∧ Below W0.heap.size W0 w') := fun W hW => HC.out W k y hy hW
          have HIk : Hid (∀ W, Calls Tryz.prog 102 #[.int .i64 y, .int .u8 (s[k].toNat : Nat)] W fun e w' => e = .returned (.bool (isB y ch.toNat)) ∧ w' = W) := fun W => by
            have t := HI.out W y s[k].toNat
            rw [hsk] at t ⊢
            exact t
          have HE2 : Hid (R = (isB y ch.toNat && fitG (f.drop (k + 1)) (kk.drop (k + 1)))) := hE
          have hkn : ((k : Int) == (m : Int)) = false := by rw [beq_eq_false_iff_ne]; omega
          have hkn2 : ¬ (k : Int) = (m : Int) := by omega
          clear hE hdq hy hB hdk hcb hch hsk hn42
          generalize isB y ch.toNat = b at *
          cases b
          · obtain rfl : R = false := HE2.out
            go_wp2_with fail
            go_region_held3 (fun w' => Below W0.heap.size W0 w' ∧ w'.cell? ⟨w.heap.size, 0, none⟩ = some (.slice ao n c) ∧ w'.cell? ⟨w.heap.size + 1, 0, none⟩ = some (.int .i64 xk) ∧ w'.cell? ⟨w.heap.size + 1, 1, none⟩ = some (.string xn) ∧ w'.cell? ⟨w.heap.size + 1, 2, none⟩ = some (.int .i64 xv) ∧ w'.cell? ⟨w.heap.size + 1, 3, none⟩ = some (.slice xa m xc) ∧ w'.cell? ⟨w.heap.size + 1, 4, none⟩ = some (.int .i64 xf) ∧ w'.cell? ⟨w.heap.size + 1, 5, none⟩ = some (.int .i64 xe)) (first | assumption | (refine ⟨?_, ?_, ?_, ?_, ?_, ?_, ?_, ?_⟩ <;> (first | assumption | (exact HBr.out) | (exact HBr.out.trans ⟨rfl, rfl, rfl, Nat.le_refl _, fun _ _ => rfl⟩) | (simp; done) | (simp; assumption)))) (first | (go_at_call 103; refine (HCk.out _ (by first | exact HBr.out.trans ⟨rfl, rfl, rfl, Nat.le_refl _, fun _ _ => rfl⟩ | assumption | exact And.left (by assumption))).mono ?_; rintro e w5 ⟨rfl, hB5⟩; obtain ⟨_, p0, p1, p2, p3, p4, p5, p6⟩ := HX.out w5 hB5) | (go_at_call 102; refine (HIk.out _).mono ?_; rintro e w6 ⟨rfl, rfl⟩))
            all_goals go_wp2
            all_goals go_ret
            all_goals exact ⟨rfl, HBW.out.trans (hB5.mono HBW.out.size)⟩
          · have HE3 : Hid (R = fitG (f.drop (k + 1)) (kk.drop (k + 1))) := HE2.out
            go_wp2_with fail
            go_region_held3 (fun w' => Below W0.heap.size W0 w' ∧ w'.cell? ⟨w.heap.size, 0, none⟩ = some (.slice ao n c) ∧ w'.cell? ⟨w.heap.size + 1, 0, none⟩ = some (.int .i64 xk) ∧ w'.cell? ⟨w.heap.size + 1, 1, none⟩ = some (.string xn) ∧ w'.cell? ⟨w.heap.size + 1, 2, none⟩ = some (.int .i64 xv) ∧ w'.cell? ⟨w.heap.size + 1, 3, none⟩ = some (.slice xa m xc) ∧ w'.cell? ⟨w.heap.size + 1, 4, none⟩ = some (.int .i64 xf) ∧ w'.cell? ⟨w.heap.size + 1, 5, none⟩ = some (.int .i64 xe)) (first | assumption | (refine ⟨?_, ?_, ?_, ?_, ?_, ?_, ?_, ?_⟩ <;> (first | assumption | (exact HBr.out) | (exact HBr.out.trans ⟨rfl, rfl, rfl, Nat.le_refl _, fun _ _ => rfl⟩) | (simp; done) | (simp; assumption)))) (first | (go_at_call 103; refine (HCk.out _ (by first | exact HBr.out.trans ⟨rfl, rfl, rfl, Nat.le_refl _, fun _ _ => rfl⟩ | assumption | exact And.left (by assumption))).mono ?_; rintro e w5 ⟨rfl, hB5⟩; obtain ⟨_, p0, p1, p2, p3, p4, p5, p6⟩ := HX.out w5 hB5) | (go_at_call 102; refine (HIk.out _).mono ?_; rintro e w6 ⟨rfl, rfl⟩))
            all_goals go_wp2
            all_goals exact ⟨⟨k + 1, by omega, by omega, by go_num, by go_num, hB5, HE3.out⟩, by simp [intOf]; omega⟩
        · obtain rfl : k = m := by omega
          have hdn : kk.drop k = [] := List.drop_eq_nil_of_le (by have := HF.out.2.1; omega)
          rw [hdn] at hE
          obtain rfl : R = false := hE
          clear hdn hB hdk hcb hch hsk hn42
          have HBd : Hid (Below W0.heap.size W0 wr.drew) := HBr.out.drew
          go_wp2_with fail
          refine wp_region_any (by kernel_rfl) ?_
          change wpAny _ _ _ _ _ _ _ (World.drew _)
          refine wpAny_take (i := 0) (v := ?_) rfl (by kernel_rfl) (by kernel_rfl) (by kernel_rfl) (fun _ _ _ h => h) (Or.inl ⟨by rfl, ?_⟩) ?_
          case refine_2 => ((intro w; go_simp) <;> with_reducible rfl)
          go_simp
          refine wpAny_take (i := 1) (v := ?_) rfl (by kernel_rfl) (by kernel_rfl) (by kernel_rfl) (fun _ _ _ h => h) (Or.inl ⟨by rfl, ?_⟩) ?_
          case refine_2 => ((intro w; go_simp) <;> with_reducible rfl)
          go_simp
          refine wpAny_take (i := 2) (v := ?_) rfl (by kernel_rfl) (by kernel_rfl) (by kernel_rfl) (fun _ _ _ h => h) (Or.inl ⟨by rfl, ?_⟩) ?_
          case refine_2 => ((intro w; go_simp) <;> with_reducible rfl)
          go_simp
          refine wpAny_take (i := 3) (v := ?_) rfl (by kernel_rfl) (by kernel_rfl) (by kernel_rfl) (fun _ _ _ h => h) (Or.inl ⟨by rfl, ?_⟩) ?_
          case refine_2 => ((intro w; go_simp) <;> with_reducible rfl)
          go_simp
          refine wpAny_take (i := 4) (v := undef) rfl (by kernel_rfl) (by kernel_rfl) (by kernel_rfl) (fun _ _ _ h => h) (Or.inr ⟨by rfl, rfl⟩) ?_
          go_simp
          refine wpAny_take (i := 5) (v := undef) rfl (by kernel_rfl) (by kernel_rfl) (by kernel_rfl) (fun _ _ _ h => h) (Or.inr ⟨by rfl, rfl⟩) ?_
          go_simp
          refine wpAny_take (i := 6) (v := undef) rfl (by kernel_rfl) (by kernel_rfl) (by kernel_rfl) (fun _ _ _ h => h) (Or.inr ⟨by rfl, rfl⟩) ?_
          go_simp
          refine wpAny_take (i := 7) (v := undef) rfl (by kernel_rfl) (by kernel_rfl) (by kernel_rfl) (fun _ _ _ h => h) (Or.inr ⟨by rfl, rfl⟩) ?_
          go_simp
          refine wpAny_take (i := 8) (v := undef) rfl (by kernel_rfl) (by kernel_rfl) (by kernel_rfl) (fun _ _ _ h => h) (Or.inr ⟨by rfl, rfl⟩) ?_
          go_simp
          refine wpAny_take (i := 9) (v := undef) rfl (by kernel_rfl) (by kernel_rfl) (by kernel_rfl) (fun _ _ _ h => h) (Or.inr ⟨by rfl, rfl⟩) ?_
          go_simp
          refine wpAny_take (i := 10) (v := undef) rfl (by kernel_rfl) (by kernel_rfl) (by kernel_rfl) (fun _ _ _ h => h) (Or.inr ⟨by rfl, rfl⟩) ?_
          go_simp
          refine wpAny_take (i := 11) (v := undef) rfl (by kernel_rfl) (by kernel_rfl) (by kernel_rfl) (fun _ _ _ h => h) (Or.inr ⟨by rfl, rfl⟩) ?_
          go_simp
          refine wpAny_take (i := 12) (v := undef) rfl (by kernel_rfl) (by kernel_rfl) (by kernel_rfl) (fun _ _ _ h => h) (Or.inr ⟨by rfl, rfl⟩) ?_
          go_simp
          refine wpAny_take (i := 13) (v := ?_) rfl (by kernel_rfl) (by kernel_rfl) (by kernel_rfl) (fun _ _ _ h => h) (Or.inl ⟨by rfl, ?_⟩) ?_
          case refine_2 => ((intro w; go_simp) <;> with_reducible rfl)
          go_simp
          refine wpAny_done (by kernel_rfl) ?_ _
          go_wp2
          go_ret
          exact ⟨rfl, HBW.out.trans (HBd.out.mono HBW.out.size)⟩
    · obtain rfl : k = s.size := by omega
      have hdn : f.drop s.size = [] := List.drop_eq_nil_of_le (by have := HF.out.1; omega)
      rw [hdn] at hE
      unfold fitG at hE
      have hR : R = decide ((s.size : Int) = (m : Int)) := by
        rw [hE]
        have hl := HF.out.2.1
        by_cases hh : s.size = m
        · rw [List.drop_eq_nil_of_le (by omega)]
          simp [hh]
        · have hne : kk.drop s.size ≠ [] := fun h => by
            have := List.drop_eq_nil_iff.1 h
            omega
          have : ¬ (s.size : Int) = (m : Int) := by omega
          rw [decide_eq_false this]
          simpa using hne
      have HR2 : Hid (R = decide ((s.size : Int) = (m : Int))) := hR
      clear hR hE hdn hB HR
      go_wp2
      all_goals go_ret
      all_goals exact ⟨ret_bool (by rw [HR2.out, deq]), HBW.out.trans (HBr.out.mono HBW.out.size)⟩
end Go.Proofs.YtkkmeogehapjoaaGreatDoor
