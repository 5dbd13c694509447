/- The document's own look for a word. The document's own blocks: one is made, one ends. The document's own return. -/
import Derived.Test.YtdppoblbenbafaaGreatDoorYAD
import Derived.Test.YtdppoblbenbafaaGreatDoorYAZ
namespace Go.Proofs.YtdppoblbenbafaaGreatDoor
section
open Go.RowKit Go.Shelf
set_option maxRecDepth 20000
set_option maxHeartbeats 4000000
/-- The document's parts, as they lie. -/
def obC (x : Nat × Ob) : List Value := [.int .i64 x.2.ad, .slice (some ⟨x.1, 0, none⟩) x.2.ws.length x.2.ws.length, .bool x.2.bk, .bool x.2.ed]
def flO : List (Nat × Ob) → List Value
  | [] => []
  | x :: l => obC x ++ flO l
theorem flO_len : ∀ l, (flO l).length = l.length * 4
  | [] => rfl
  | x :: l => by simp [flO, flO_len l, obC]; omega
theorem flO_app : ∀ l l', flO (l ++ l') = flO l ++ flO l'
  | [], _ => rfl
  | x :: l, l' => by simp [flO, flO_app l l']
theorem flO_at : ∀ (l : List (Nat × Ob)) (k : Nat) (x : Nat × Ob), l[k]? = some x → ∀ t v, (obC x)[t]? = some v → (flO l)[k * 4 + t]? = some v
  | [], k, x, h, _, _, _ => by cases h
  | y :: l, 0, x, h, t, v, ht => by
    cases h
    have : t < 4 := (List.getElem?_eq_some_iff.1 ht).1
    rw [flO, List.getElem?_append_left (by show 0 * 4 + t < 4; omega), Nat.zero_mul, Nat.zero_add, ht]
  | y :: l, k + 1, x, h, t, v, ht => by
    rw [flO, List.getElem?_append_right (by show 4 ≤ _; omega), show (k + 1) * 4 + t - (obC y).length = k * 4 + t by show _ - 4 = _; omega]
    exact flO_at l k x (by simpa using h) t v ht
theorem flO_set : ∀ (l : List (Nat × Ob)) (k : Nat) (x y : Nat × Ob) (t : Nat) (v : Value), l[k]? = some x → t < 4 → obC y = (obC x).set t v → flO (l.set k y) = (flO l).set (k * 4 + t) v
  | [], k, x, y, t, v, h, _, _ => by cases h
  | z :: l, 0, x, y, t, v, h, ht, e => by
    cases h
    rw [List.set_cons_zero, flO, flO, e, Nat.zero_mul, Nat.zero_add, List.set_append_left _ _ (by show t < 4; exact ht)]
  | z :: l, k + 1, x, y, t, v, h, ht, e => by
    rw [List.set_cons_succ, flO, flO, flO_set l k x y t v (by simpa using h) ht e, List.set_append_right _ _ (by show 4 ≤ _; omega), show (k + 1) * 4 + t - (obC z).length = k * 4 + t by show _ - 4 = _; omega]
def ObA (W : World) (P : Nat) (l : List (Nat × Ob)) : Prop := ∀ k x, l[k]? = some x → ∀ t v, (obC x)[t]? = some v → W.cell? ⟨P, k * 4 + t, none⟩ = some v
theorem ObA.below {W W' : World} {P : Nat} {l : List (Nat × Ob)} (h : ObA W P l) (hP : P < W.heap.size) (hb : Below W.heap.size W W') : ObA W' P l := fun k x hk t v ht => (World.cell?_of_block (hb.block P hP)).trans (h k x hk t v ht)
theorem lastF_at {α : Type} (f : α → Bool) : ∀ (l : List α) (k : Nat) (x : α), l[k]? = some x → f x = true → (∀ j y, k < j → l[j]? = some y → f y = false) → lastF f l = some k
  | [], k, x, h, _, _ => by cases h
  | y :: l, 0, x, h, hx, hn => by
    cases h
    have : lastF f l = none := by
      cases e : lastF f l with
      | none => rfl
      | some j =>
        obtain ⟨z, h1, h2⟩ := lastF_some f l j e
        rw [hn (j + 1) z (by omega) (by simpa using h1)] at h2
        cases h2
    rw [lastF, this]
    simp [hx]
  | y :: l, k + 1, x, h, hx, hn => by
    rw [lastF, lastF_at f l k x (by simpa using h) hx (fun j z hj hz => hn (j + 1) z (by omega) (by simpa using hz))]
theorem lastF_no {α : Type} (f : α → Bool) (l : List α) (hn : ∀ (j : Nat) y, l[j]? = some y → f y = false) : lastF f l = none := by
  cases e : lastF f l with
  | none => rfl
  | some j =>
    obtain ⟨z, h1, h2⟩ := lastF_some f l j e
    rw [hn j z h1] at h2
    cases h2
/-- What a look for a word tells. -/
def woV (l : List Ob) (t : Int) : Value := match woR l t with
  | some (k, m) => .tuple #[.int .i64 (k : Nat), .int .i64 (m : Nat), .bool true]
  | none => .tuple #[.int .i64 0, .int .i64 0, .bool false]
theorem woV_none {l : List Ob} {t : Int} (hn : ∀ (j : Nat) y, l[j]? = some y → inO t y = false) : woV l t = .tuple #[.int .i64 0, .int .i64 0, .bool false] := by
  unfold woV woR
  rw [lastF_no _ _ hn]
  rfl
theorem woV_some {l : List Ob} {t : Int} {k : Nat} {x : Ob} (hk : l[k]? = some x) (hx : inO t x = true) (hn : ∀ j y, k < j → l[j]? = some y → inO t y = false) : woV l t = .tuple #[.int .i64 (k : Nat), .int .i64 ((t - x.ad) / 8), .bool true] := by
  have h := inO_is.1 hx
  have h2 : x.ad ≤ t := h.2.1.1
  unfold woV woR
  rw [lastF_at _ _ k x hk hx hn, Option.bind_some, hk, Option.map_some]
  show Value.tuple #[_, .int .i64 (((t - x.ad) / 8).toNat : Nat), _] = _
  rw [Int.toNat_of_nonneg (by omega)]
theorem rword138 (R P n pa : Nat) (l : List (Nat × Ob)) (t : Int) (w : World) (h3 : w.cell? ⟨R, 3, none⟩ = some (.slice (some ⟨P, 0, none⟩) n pa)) (hl : n = l.length) (hA : ObA w P l) (hP : P < w.heap.size) (hRl : R < w.heap.size) (hn : n ≤ 1000000) (h64 : I64 t) (had : ∀ x ∈ l, 0 ≤ x.2.ad) : Calls Tryz.prog 138 #[.pointer (some ⟨R, 0, none⟩), .int .i64 t] w fun e w' => e = .returned (woV (l.map (·.2)) t) ∧ Below w.heap.size w w' := by
  have HL : Hid (n = l.length ∧ n ≤ 1000000 ∧ P < w.heap.size ∧ R < w.heap.size ∧ (∀ x ∈ l, 0 ≤ x.2.ad)) := ⟨hl, hn, hP, hRl, had⟩
  have HA : Hid (ObA w P l) := hA
  have H3 : Hid (w.cell? ⟨R, 3, none⟩ = some (.slice (some ⟨P, 0, none⟩) n pa)) := h3
  have H64 : Hid (I64 t) := h64
  obtain ⟨RV, hRV⟩ : ∃ RV, RV = woV (l.map (·.2)) t := ⟨_, rfl⟩
  have HRV : Hid (RV = woV (l.map (·.2)) t) := hRV
  rw [← hRV]
  have wn : IntKind.i64.wrap ((n : Int) - 1) = (n : Int) - 1 := wrapI _ (by omega) (by omega)
  clear hl hA hP hRl hn h64 had hRV
  go_enter Tryz.func138, Tryz.ntmps138
  go_wp2
  clear h3
  go_loopw [7] (fun v wx => ∃ k : Nat, k ≤ n ∧ v = .int .i64 ((k : Int) - 1) ∧ Below w.heap.size w wx ∧ ∀ (j : Nat) y, k ≤ j → l[j]? = some y → inO t y.2 = false) (fun v _ => ((intOf v) + 1).toNat)
  case atStart => exact ⟨n, Nat.le_refl _, rfl, Below.refl _ _, fun j y hj hy => by rw [HL.out.1] at hj; rw [List.getElem?_eq_none hj] at hy; cases hy⟩
  case round =>
    obtain ⟨k, hk, rfl, hb, hno⟩ := hrel
    have HB : Hid (Below w.heap.size w wr) := hb
    have HNo : Hid (∀ (j : Nat) y, k ≤ j → l[j]? = some y → inO t y.2 = false) := hno
    clear hb hno
    cases k with
    | zero =>
      have HE : Hid (RV = .tuple #[.int .i64 0, .int .i64 0, .bool false]) := by
        show _ = _
        rw [HRV.out]
        refine woV_none (fun j y hj => ?_)
        rw [List.getElem?_map] at hj
        obtain ⟨z, hz, rfl⟩ := Option.map_eq_some_iff.1 hj
        exact HNo.out j z (Nat.zero_le _) hz
      go_wp2
      go_returns
      exact ⟨by rw [HE.out]; rfl, HB.out⟩
    | succ k =>
      obtain ⟨x, hx⟩ : ∃ x, l[k]? = some x := ⟨_, List.getElem?_eq_getElem (by have := HL.out.1; omega)⟩
      have hx0 := HL.out.2.2.2.2 x (List.mem_of_getElem? hx)
      have r3 : wr.cell? ⟨R, 3, none⟩ = some (.slice (some ⟨P, 0, none⟩) n pa) := (World.cell?_of_block (HB.out.block R HL.out.2.2.2.1)).trans H3.out
      have hA := HA.out.below HL.out.2.2.1 HB.out
      have d0 := hA k x hx 0 _ rfl
      have d1 := hA k x hx 1 _ rfl
      have d2 := hA k x hx 2 _ rfl
      have d3 := hA k x hx 3 _ rfl
      have HX : Hid (l[k]? = some x) := hx
      clear hA hx
      have ek : (((k + 1 : Nat) : Int) - 1) = (k : Int) := by omega
      have hkl : k < 1000000 := by have := HL.out.2.1; omega
      have wk : IntKind.i64.wrap ((k : Int) - 1) = (k : Int) - 1 := wrapI _ (by omega) (by omega)
      simp only [ek]
      have hkn : (k : Int) < n := by omega
      rw [Nat.add_zero] at d0
      obtain ⟨xb, ⟨ad, ws, bk, ed⟩⟩ := x
      simp only [] at d0 d1 d2 d3 hx0
      have HM : Hid (ed = true ∨ (ed = false ∧ ¬ ad ≤ t) ∨ (ed = false ∧ ad ≤ t ∧ ¬ t % 8 = 0) ∨ (ed = false ∧ ad ≤ t ∧ t % 8 = 0 ∧ ¬ (t - ad) / 8 < (ws.length : Int)) ∨ (ed = false ∧ ad ≤ t ∧ t % 8 = 0 ∧ (t - ad) / 8 < (ws.length : Int))) := by
        show _ ∨ _
        cases ed
        · by_cases h1 : ad ≤ t <;> by_cases h2 : t % 8 = 0 <;> by_cases h3 : (t - ad) / 8 < (ws.length : Int) <;> simp [h1, h2, h3]
        · exact .inl rfl
      have HNX : Hid (inO t (⟨ad, ws, bk, ed⟩ : Ob) = false → ∀ (j : Nat) (y : Nat × Ob), k ≤ j → l[j]? = some y → inO t y.2 = false) := fun h j y hj hy => by
        by_cases e : j = k
        · subst e
          rw [HX.out] at hy
          cases hy
          exact h
        · exact HNo.out j y (by omega) hy
      have hi : I64 (t - ad) ∨ ¬ ad ≤ t := by
        by_cases h : ad ≤ t
        · have := H64.out
          unfold I64 at this ⊢
          exact .inl (by omega)
        · exact .inr h
      have HIn : Hid (∀ ed', inO t (⟨ad, ws, bk, ed'⟩ : Ob) = (!ed' && (decide (ad ≤ t) && (decide (t % 8 = 0) && decide ((t - ad) / 8 < (ws.length : Int)))))) := fun _ => rfl
      rcases HM.out with rfl | ⟨rfl, h1⟩ | ⟨rfl, h1, h2⟩ | ⟨rfl, h1, h2, h3⟩ | ⟨rfl, h1, h2, h3⟩
      · clear hi HM
        go_wp2
        exact ⟨⟨k, by omega, rfl, HB.out.alloc HB.out.size _, HNX.out (by rw [HIn.out]; rfl)⟩, by simp [intOf] <;> omega⟩
      · clear hi HM
        go_wp2
        exact ⟨⟨k, by omega, rfl, HB.out.alloc HB.out.size _, HNX.out (by rw [HIn.out]; simp [h1])⟩, by simp [intOf] <;> omega⟩
      · have HE2 : Hid (inO t (⟨ad, ws, bk, false⟩ : Ob) = false) := by show _ = _; rw [HIn.out]; simp [h2]
        clear hi HM
        go_wp2
        exact ⟨⟨k, by omega, rfl, HB.out.alloc HB.out.size _, HNX.out HE2.out⟩, by simp [intOf] <;> omega⟩
      · have HE2 : Hid (inO t (⟨ad, ws, bk, false⟩ : Ob) = false) := by show _ = _; rw [HIn.out]; simp [h3]
        have hw : IntKind.i64.wrap (t - ad) = t - ad := by rcases hi with h | h; (unfold I64 at h; exact wrapI _ h.1 h.2); exact absurd h1 h
        have hw3 : wrap64 ((t - ad).tdiv 8) = (t - ad) / 8 := by
          rw [Int.tdiv_eq_ediv_of_nonneg (by omega)]
          have : I64 (t - ad) := by rcases hi with h | h; exact h; exact absurd h1 h
          unfold I64 at this
          unfold wrap64
          omega
        have h3' : ¬ wrap64 ((t - ad).tdiv 8) < (ws.length : Int) := by rw [hw3]; exact h3
        clear hi HM h3 hw3
        go_wp2
        exact ⟨⟨k, by omega, rfl, HB.out.alloc HB.out.size _, HNX.out HE2.out⟩, by simp [intOf] <;> omega⟩
      · have HE2 : Hid (inO t (⟨ad, ws, bk, false⟩ : Ob) = true) := by show _ = _; rw [HIn.out]; simp [h1, h2, h3]
        have hw : IntKind.i64.wrap (t - ad) = t - ad := by rcases hi with h | h; (unfold I64 at h; exact wrapI _ h.1 h.2); exact absurd h1 h
        have hw3 : wrap64 ((t - ad).tdiv 8) = (t - ad) / 8 := by
          rw [Int.tdiv_eq_ediv_of_nonneg (by omega)]
          have : I64 (t - ad) := by rcases hi with h | h; exact h; exact absurd h1 h
          unfold I64 at this
          unfold wrap64
          omega
        have HQ : Hid (wrap64 ((t - ad).tdiv 8) = (t - ad) / 8) := hw3
        have h3' : wrap64 ((t - ad).tdiv 8) < (ws.length : Int) := by rw [HQ.out]; exact h3
        have HE : Hid (RV = .tuple #[.int .i64 (k : Nat), .int .i64 ((t - ad) / 8), .bool true]) := by
          show _ = _
          rw [HRV.out]
          refine woV_some (k := k) (x := ⟨ad, ws, bk, false⟩) (by rw [List.getElem?_map, HX.out]; rfl) HE2.out (fun j y hj hy => ?_)
          rw [List.getElem?_map] at hy
          obtain ⟨z, hz, rfl⟩ := Option.map_eq_some_iff.1 hy
          exact HNo.out j z (by omega) hz
        clear hi HM h3 hw3
        go_wp2
        go_quiet (fail)
        go_wp2
        go_returns
        exact ⟨by rw [HE.out, ← HQ.out]; rfl, below_drewN (HB.out.alloc HB.out.size _) _⟩
end
section
open Go.RowKit Go.Shelf
set_option maxRecDepth 20000
set_option maxHeartbeats 4000000
/-- A block that may not be made. -/
theorem ralloc_no (R : Nat) (n : Int) (r : Rq) (w : World) (hR : Rqb w R r) (_h64 : I64 n) (hh : 0 ≤ r.hp ∧ r.hp ≤ 8192) (hb : n < 0 ∨ 64 < n ∨ 8192 < r.hp + n) : Calls Tryz.prog 156 #[.pointer (some ⟨R, 0, none⟩), .int .i64 n] w fun e w' => e = .returned (.int .i64 0) ∧ Onl (fun b => b = R) w w' ∧ Rqb w' R { r with en := 1, cd := 110, ovr := true } := by
  have HS : Hid (∀ k, Calls Tryz.prog 32 #[.pointer (some ⟨R, 0, none⟩), .int .i64 1, .int .i64 110] (w.drewN k) fun e w' => e = .returned (.tuple #[]) ∧ Onl (fun b => b = R) (w.drewN k) w' ∧ Rqb w' R { r with en := 1, cd := 110, ovr := true }) := fun k => rstop32 R 1 110 r _ (hR.drewN k)
  have HS0 := HS.out 0
  have HS1 : Hid (Calls Tryz.prog 32 #[.pointer (some ⟨R, 0, none⟩), .int .i64 1, .int .i64 110] w fun e w' => e = .returned (.tuple #[]) ∧ Onl (fun b => b = R) w w' ∧ Rqb w' R { r with en := 1, cd := 110, ovr := true }) := rstop32 R 1 110 r _ hR
  have r11 := hR.cell (j := 11) rfl
  have c3 : n < 0 ∨ (¬ n < 0 ∧ 64 < n) ∨ (¬ n < 0 ∧ ¬ 64 < n ∧ 8192 < r.hp + n) := by omega
  clear hR hb HS0
  rcases c3 with h | ⟨h1, h2⟩ | ⟨h1, h2, h3⟩
  · go_enter Tryz.func156, Tryz.ntmps156
    go_wp2_with (first | (go_at_call 32; refine HS1.out.mono ?_; rintro e w1 ⟨rfl, ho, hr⟩))
    go_ret
    exact ⟨rfl, ho, hr⟩
  · go_enter Tryz.func156, Tryz.ntmps156
    go_wp2_with (first | (go_at_call 32; refine HS1.out.mono ?_; rintro e w1 ⟨rfl, ho, hr⟩))
    go_ret
    exact ⟨rfl, ho, hr⟩
  · have hw : IntKind.i64.wrap (r.hp + n) = r.hp + n := wrapI _ (by omega) (by omega)
    go_enter Tryz.func156, Tryz.ntmps156
    go_wp2_with (first | (go_at_call 32; refine HS1.out.mono ?_; rintro e w1 ⟨rfl, ho, hr⟩))
    go_ret
    exact ⟨rfl, ho, hr⟩
/-- A block that is made. -/
theorem ralloc_ok (R B np : Nat) (n : Nat) (r : Rq) (px : List Value) (w : World) (hR : Rqb w R r) (hP : w.ownsRow B 146 4 r.ob np px) (hpx : px.length = np * 4) (hB : B ≤ w.heap.size) (hnp : np ≤ 1000000) (n0 : 0 ≤ r.nx) (n1 : r.nx ≤ 1099511627776) (hh : 0 ≤ r.hp) (h1 : n ≤ 64) (h2 : r.hp + n ≤ 8192) : Calls Tryz.prog 156 #[.pointer (some ⟨R, 0, none⟩), .int .i64 n] w fun e w' => e = .returned (.int .i64 r.nx) ∧ ∃ g ob, Onl (fun b => b = R ∨ r.ob.ownBlock = some b) w w' ∧ Rqb w' R { r with ob := ob, nx := r.nx + 8 * ((n : Int) + 1), hp := r.hp + n } ∧ w'.ownsRow B 146 4 ob (np + 1) (px ++ [.int .i64 r.nx, .slice (some ⟨g, 0, none⟩) n n, .bool true, .bool false]) ∧ Bk w' g 2 (List.replicate n (.int .i64 0)) ∧ w.heap.size ≤ g := by
  have HRP : Hid (r.ob.ownBlock ≠ some R) := own_ne hP hR (by decide)
  have hw : IntKind.i64.wrap (r.hp + n) = r.hp + n := wrapI _ (by omega) (by omega)
  have r11 := hR.cell (j := 11) rfl
  have z11 := hR.fz 11
  have hlt := hR.lt
  have c1 : ¬ (n : Int) < 0 := by omega
  have c2 : ¬ (64 : Int) < n := by omega
  have c3 : ¬ 8192 < r.hp + n := by omega
  have HL : Hid (px.length = np * 4 ∧ np ≤ 1000000) := ⟨hpx, hnp⟩
  have HM : Hid (Calls Tryz.prog 73 #[.pointer (some ⟨R, 0, none⟩), .int .i64 n, .bool true] (w.setCell ⟨R, 11, none⟩ (.int .i64 (r.hp + n))) fun e w' => e = .returned (.int .i64 np) ∧ ∃ g ob, Onl (fun b => b = R ∨ r.ob.ownBlock = some b) (w.setCell ⟨R, 11, none⟩ (.int .i64 (r.hp + n))) w' ∧ Rqb w' R { r with hp := r.hp + n, ob := ob, nx := r.nx + 8 * ((n : Int) + 1) } ∧ w'.ownsRow B 146 4 ob (np + 1) (px ++ [.int .i64 r.nx, .slice (some ⟨g, 0, none⟩) n n, .bool true, .bool false]) ∧ Bk w' g 2 (List.replicate n (.int .i64 0)) ∧ w.heap.size ≤ g) := (rmake73 R B np n true { r with hp := r.hp + n } px (w.setCell ⟨R, 11, none⟩ (.int .i64 (r.hp + n))) (hR.set 11 _) (own_set hP HRP.out) (by simpa using hB) (by omega) hnp n0 n1).mono fun e w' h => by simpa using h
  have HO : Hid (Onl (fun b => b = R ∨ r.ob.ownBlock = some b) w (w.setCell ⟨R, 11, none⟩ (.int .i64 (r.hp + n)))) := (Onl.of_below (Below.refl _ _)).set (S := fun b => b = R ∨ r.ob.ownBlock = some b) (b := R) (.inl rfl)
  clear hR hP hB hnp n0 n1 hh h1 h2 hpx
  go_enter Tryz.func156, Tryz.ntmps156
  go_wp2_with fail
  refine HM.out.mono ?_
  rintro e w1 ⟨rfl, g, ob, ho, hr, hp, hq, hg⟩
  have HF : Hid (Onl (fun b => b = R ∨ r.ob.ownBlock = some b) (w.setCell ⟨R, 11, none⟩ (.int .i64 (r.hp + n))) w1 ∧ Rqb w1 R { r with hp := r.hp + n, ob := ob, nx := r.nx + 8 * ((n : Int) + 1) } ∧ w1.ownsRow B 146 4 ob (np + 1) (px ++ [.int .i64 r.nx, .slice (some ⟨g, 0, none⟩) n n, .bool true, .bool false]) ∧ Bk w1 g 2 (List.replicate n (.int .i64 0)) ∧ w.heap.size ≤ g) := ⟨ho, hr, hp, hq, hg⟩
  obtain ⟨C, cap, hob⟩ : ∃ C cap, ob = .slice (some ⟨C, 0, none⟩) (np + 1) cap := by
    obtain ⟨_, ⟨_, h0⟩ | ⟨C, cap, cur, e, _⟩⟩ := hp
    · omega
    · exact ⟨C, cap, e⟩
  subst hob
  have r3 := hr.cell (j := 3) (v := .slice (some ⟨C, 0, none⟩) (np + 1) cap) rfl
  have d0 : w1.cell? ⟨C, np * 4, none⟩ = some (.int .i64 r.nx) := by
    have := hp.cellAt (np * 4) (by omega)
    rw [this, List.getElem?_append_right (by rw [HL.out.1]; exact Nat.le_refl _), HL.out.1, Nat.sub_self]
    rfl
  have hnn : (np : Int) < (np : Int) + 1 := by omega
  clear ho hr hp hq hg r11 z11
  go_wp2
  go_ret
  obtain ⟨q1, q2, q3, q4, q5⟩ := HF.out
  exact ⟨rfl, g, _, HO.out.trans q1, q2, q3, q4, q5⟩
theorem fr_first : ∀ (l : List Ob) (k : Nat) (x : Ob) (f : Ob → Bool), l[k]? = some x → f x = true → (∀ j y, j < k → l[j]? = some y → f y = false) → l.findIdx? f = some k := fun l k x f h hx hn => by
  rw [List.findIdx?_eq_some_iff_getElem]
  obtain ⟨hk, e⟩ := List.getElem?_eq_some_iff.1 h
  refine ⟨hk, by rw [e]; exact hx, fun j hj => ?_⟩
  have := hn j (l[j]'(by omega)) hj (List.getElem?_eq_getElem (by omega))
  simp [this]
theorem fr_nil (l : List Ob) (f : Ob → Bool) (hn : ∀ (j : Nat) y, l[j]? = some y → f y = false) : l.findIdx? f = none := by
  rw [List.findIdx?_eq_none_iff]
  intro x hx
  obtain ⟨j, hj⟩ := List.getElem?_of_mem hx
  exact hn j x hj
/-- Is it the block that is to end? -/
def isB (t c : Int) (o : Ob) : Bool := o.bk && (!o.ed && (decide (o.ad = t) && decide ((o.ws.length : Int) = c)))
/-- What a block's end leaves. -/
def FreP (R P : Nat) (r : Rq) (cs : List Value) (c : Int) (w w' : World) : Option Nat → Prop
  | some k => Onl (fun b => b = R ∨ b = P) w w' ∧ Rqb w' R { r with hp := r.hp - c } ∧ Bk w' P 146 (cs.set (k * 4 + 3) (.bool true))
  | none => Onl (fun b => b = R) w w' ∧ Rqb w' R { r with en := 3, cd := 0, ovr := true }
theorem rfree157 (R P n pa : Nat) (l : List (Nat × Ob)) (t c : Int) (r : Rq) (w : World) (hR : Rqb w R r) (hob : r.ob = .slice (some ⟨P, 0, none⟩) n pa) (hl : n = l.length) (hA : ObA w P l) (cs : List Value) (hB : Bk w P 146 cs) (hn : n ≤ 1000000) (hc : -1000000 ≤ r.hp - c ∧ r.hp - c ≤ 1000000 ∨ frR (l.map (·.2)) t c = none) : Calls Tryz.prog 157 #[.pointer (some ⟨R, 0, none⟩), .int .i64 t, .int .i64 c] w fun e w' => e = .returned (.tuple #[]) ∧ FreP R P r cs c w w' (frR (l.map (·.2)) t c) := by
  have hP := hB.lt
  have hPR : P ≠ R := hB.ne hR (by decide)
  have hz := hB.fz
  have HBk : Hid (Bk w P 146 cs) := hB
  have HL : Hid (n = l.length ∧ n ≤ 1000000 ∧ P < w.heap.size ∧ P ≠ R) := ⟨hl, hn, hP, hPR⟩
  have HA : Hid (ObA w P l) := hA
  have HR : Hid (Rqb w R r) := hR
  have HO : Hid (r.ob = .slice (some ⟨P, 0, none⟩) n pa) := hob
  have HZ : Hid (∀ i, w.frozen? ⟨P, i, none⟩ = false) := hz
  have HC : Hid (-1000000 ≤ r.hp - c ∧ r.hp - c ≤ 1000000 ∨ frR (l.map (·.2)) t c = none) := hc
  obtain ⟨FV, hFV⟩ : ∃ FV, FV = frR (l.map (·.2)) t c := ⟨_, rfl⟩
  have HF : Hid (FV = frR (l.map (·.2)) t c) := hFV
  rw [← hFV]
  clear hFV hc hR hl hA hP hz hPR hob hn hB
  go_enter Tryz.func157, Tryz.ntmps157
  go_wp2
  go_loopw [6] (fun v wx => ∃ k : Nat, k ≤ n ∧ v = .int .i64 (k : Int) ∧ Below w.heap.size w wx ∧ ∀ (j : Nat) y, j < k → l[j]? = some y → isB t c y.2 = false) (fun v _ => n - (intOf v).toNat)
  case atStart => exact ⟨0, Nat.zero_le _, rfl, Below.refl _ _, fun j y hj => by omega⟩
  case round =>
    obtain ⟨k, hk, rfl, hb, hno⟩ := hrel
    have HB : Hid (Below w.heap.size w wr) := hb
    have HNo : Hid (∀ (j : Nat) y, j < k → l[j]? = some y → isB t c y.2 = false) := hno
    have HRr : Hid (Rqb wr R r) := HR.out.below hb
    have r3 := HRr.out.cell (j := 3) (v := .slice (some ⟨P, 0, none⟩) n pa) (by rw [← HO.out]; rfl)
    clear hb hno
    by_cases hkn : k < n
    · obtain ⟨x, hx⟩ : ∃ x, l[k]? = some x := ⟨_, List.getElem?_eq_getElem (by have := HL.out.1; omega)⟩
      have hA := HA.out.below HL.out.2.2.1 HB.out
      have d0 := hA k x hx 0 _ rfl
      have d1 := hA k x hx 1 _ rfl
      have d2 := hA k x hx 2 _ rfl
      have d3 := hA k x hx 3 _ rfl
      have HX : Hid (l[k]? = some x) := hx
      clear hA hx
      have hkl : k < 1000000 := by have := HL.out.2.1; omega
      have hkn' : (k : Int) < n := by omega
      rw [Nat.add_zero] at d0
      obtain ⟨xb, ⟨ad, ws, bk, ed⟩⟩ := x
      simp only [] at d0 d1 d2 d3
      have HNX : Hid (isB t c (⟨ad, ws, bk, ed⟩ : Ob) = false → ∀ (j : Nat) (y : Nat × Ob), j < k + 1 → l[j]? = some y → isB t c y.2 = false) := fun h j y hj hy => by
        by_cases e : j = k
        · subst e
          rw [HX.out] at hy
          cases hy
          exact h
        · exact HNo.out j y (by omega) hy
      have HM : Hid (bk = false ∨ (bk = true ∧ ed = true) ∨ (bk = true ∧ ed = false ∧ ¬ ad = t) ∨ (bk = true ∧ ed = false ∧ ad = t ∧ ¬ (ws.length : Int) = c) ∨ (bk = true ∧ ed = false ∧ ad = t ∧ (ws.length : Int) = c)) := by
        show _ ∨ _
        cases bk <;> cases ed <;> by_cases h1 : ad = t <;> by_cases h2 : (ws.length : Int) = c <;> simp [h1, h2]
      rcases HM.out with rfl | ⟨rfl, rfl⟩ | ⟨rfl, rfl, h1⟩ | ⟨rfl, rfl, h1, h2⟩ | ⟨rfl, rfl, h1, h2⟩
      · have HE : Hid (isB t c (⟨ad, ws, false, ed⟩ : Ob) = false) := rfl
        clear HM
        go_wp2
        exact ⟨⟨k + 1, by omega, by simp, HB.out.alloc HB.out.size _, HNX.out HE.out⟩, by simp [intOf] <;> omega⟩
      · have HE : Hid (isB t c (⟨ad, ws, true, true⟩ : Ob) = false) := rfl
        clear HM
        go_wp2
        exact ⟨⟨k + 1, by omega, by simp, HB.out.alloc HB.out.size _, HNX.out HE.out⟩, by simp [intOf] <;> omega⟩
      · have HE : Hid (isB t c (⟨ad, ws, true, false⟩ : Ob) = false) := by show _ = _; unfold isB; simp [h1]
        clear HM
        go_wp2
        exact ⟨⟨k + 1, by omega, by simp, HB.out.alloc HB.out.size _, HNX.out HE.out⟩, by simp [intOf] <;> omega⟩
      · have HE : Hid (isB t c (⟨ad, ws, true, false⟩ : Ob) = false) := by show _ = _; unfold isB; simp [h2]
        clear HM
        go_wp2
        exact ⟨⟨k + 1, by omega, by simp, HB.out.alloc HB.out.size _, HNX.out HE.out⟩, by simp [intOf] <;> omega⟩
      · have HE : Hid (FV = some k) := by
          show _ = _
          rw [HF.out]
          unfold frR
          refine fr_first _ k ⟨ad, ws, true, false⟩ _ (by rw [List.getElem?_map, HX.out]; rfl) (by simp [h1, h2]) (fun j y hj hy => ?_)
          rw [List.getElem?_map] at hy
          obtain ⟨z, hz, rfl⟩ := Option.map_eq_some_iff.1 hy
          exact HNo.out j z hj hz
        have hw : IntKind.i64.wrap (r.hp - c) = r.hp - c := by
          rcases HC.out with h | h
          · exact wrapI _ (by omega) (by omega)
          · rw [← HF.out, HE.out] at h; cases h
        have r11 := HRr.out.cell (j := 11) rfl
        have z11 := HRr.out.fz 11
        have z3 : wr.frozen? ⟨P, k * 4 + 3, none⟩ = false := (World.frozen?_of_block (HB.out.block P HL.out.2.2.1)).trans (HZ.out _)
        have n1 : ¬ P = R := HL.out.2.2.2
        have n2 : ¬ R = P := fun e => n1 e.symm
        have hPl : P < wr.heap.size := by have := HB.out.size; have := HL.out.2.2.1; omega
        have hRl := HRr.out.lt
        clear HM
        go_wp2
        go_returns
        refine ⟨rfl, ?_⟩
        rw [HE.out]
        refine ⟨((((Onl.of_below HB.out).set (S := fun b => b = R ∨ b = P) (b := P) (.inr rfl)).set (b := R) (.inl rfl)).alloc _), ((HRr.out.other n2).set 11 _).alloc _, (((HBk.out.below HB.out).set _ _).other n1).alloc _⟩
    · obtain rfl : k = n := by omega
      have HE : Hid (FV = none) := by
        show _ = _
        rw [HF.out]
        refine fr_nil _ _ (fun j y hj => ?_)
        rw [List.getElem?_map] at hj
        obtain ⟨z, hz, rfl⟩ := Option.map_eq_some_iff.1 hj
        exact HNo.out j z (by have := HL.out.1; have := (List.getElem?_eq_some_iff.1 hz).1; omega) hz
      have HS : Hid (Calls Tryz.prog 32 #[.pointer (some ⟨R, 0, none⟩), .int .i64 3, .int .i64 0] wr fun e w' => e = .returned (.tuple #[]) ∧ Onl (fun b => b = R) wr w' ∧ Rqb w' R { r with en := 3, cd := 0, ovr := true }) := rstop32 R 3 0 r wr HRr.out
      go_wp2_with (first | (go_at_call 32; refine HS.out.mono ?_; rintro e w1 ⟨rfl, ho, hr⟩))
      go_returns
      refine ⟨rfl, ?_⟩
      rw [HE.out]
      exact ⟨(Onl.of_below HB.out).trans ho, hr⟩
end
section
open Go.RowKit Go.Shelf
set_option maxRecDepth 20000
set_option maxHeartbeats 2000000
theorem wrapN (n : Nat) (h : n ≤ 2000000) : IntKind.i64.wrap (n : Int) = n := wrapI _ (by omega) (by omega)
theorem wrapN1 (n : Nat) (h : n ≤ 2000000) : IntKind.i64.wrap ((n : Int) + 1) = (n : Int) + 1 := wrapI _ (by omega) (by omega)
/-- A frame of the document's, as it lies. -/
def fmC (f : Int) (q m : Nat) (ob b i an : Int) : List Value := [.int .i64 f, .slice (some ⟨q, 0, none⟩) m m, .int .i64 ob, .int .i64 b, .int .i64 i, .int .i64 an]
/-- What a return reads. -/
structure BakF (R C ca P np pa n q m kob : Nat) (f b i an : Int) (r : Rq) (cs os : List Value) (w : World) : Prop where
  rb : Rqb w R r
  cv : r.cv = .slice (some ⟨C, 0, none⟩) (n + 1) ca
  ob : r.ob = .slice (some ⟨P, 0, none⟩) np pa
  bc : Bk w C 109 cs
  bo : Bk w P 146 os
  fc : ∀ t v, (fmC f q m kob b i an)[t]? = some v → cs[n * 6 + t]? = some v
  ed : ∃ u, os[kob * 4 + 3]? = some u
  lt : kob < np
  hn : n ≤ 1000000
  hk : kob ≤ 1000000
  hc : n + 1 ≤ ca
theorem rback_last (R C ca P np pa q m kob : Nat) (f b i an v : Int) (r : Rq) (cs os : List Value) (w : World) (h : BakF R C ca P np pa 0 q m kob f b i an r cs os w) : Calls Tryz.prog 74 #[.pointer (some ⟨R, 0, none⟩), .int .i64 v] w fun e w' => e = .returned (.tuple #[]) ∧ Onl (fun b => b = R ∨ b = P) w w' ∧ ∃ cv, Rqb w' R { r with cv := cv, en := 1, cd := 0, ovr := true } := by
  have H : Hid (BakF R C ca P np pa 0 q m kob f b i an r cs os w) := h
  have r4 := h.rb.cell (j := 4) (v := .slice (some ⟨C, 0, none⟩) 1 ca) (by rw [← h.cv]; rfl)
  have r3 := h.rb.cell (j := 3) (v := .slice (some ⟨P, 0, none⟩) np pa) (by rw [← h.ob]; rfl)
  have z4 := h.rb.fz 4
  have c0 := h.bc.cell (j := 0) (h.fc 0 _ rfl)
  have c1 := h.bc.cell (j := 1) (h.fc 1 _ rfl)
  have c2 := h.bc.cell (j := 2) (h.fc 2 _ rfl)
  have c3 := h.bc.cell (j := 3) (h.fc 3 _ rfl)
  have c4 := h.bc.cell (j := 4) (h.fc 4 _ rfl)
  have c5 := h.bc.cell (j := 5) (h.fc 5 _ rfl)
  obtain ⟨u, hu⟩ := h.ed
  have o3 := h.bo.cell hu
  have y3 := h.bo.fz (kob * 4 + 3)
  have n1 : ¬ P = R := h.bo.ne h.rb (by decide)
  have n2 : ¬ R = P := fun e => n1 e.symm
  have lP := h.bo.lt
  have lR := h.rb.lt
  have lC := h.bc.lt
  have hkn : (kob : Int) < np := by have := h.lt; omega
  clear h hu
  go_enter Tryz.func74, Tryz.ntmps74
  go_wp2
  go_region
  go_wp2
  go_region
  go_wp2
  go_region
  go_wp2_with fail
  refine (rstop32 R 1 0 { r with cv := .slice (some ⟨C, 0, none⟩) 0 ca } _ (((((H.out.rb.other n2).set 4 _).alloc _).drew).drew).drew).mono ?_
  rintro e w1 ⟨rfl, ho, hr⟩
  have HO : Hid (Onl (fun b => b = R ∨ b = P) w w1) := (((((((Onl.of_below (Below.refl _ _)).set (S := fun b => b = R ∨ b = P) (b := P) (.inr rfl)).set (b := R) (.inl rfl)).alloc _).drewN 1).drewN 1).drewN 1).trans (ho.mono fun b h => .inl h)
  have HR1 : Hid (∃ cv, Rqb w1 R { r with cv := cv, en := 1, cd := 0, ovr := true }) := ⟨_, hr⟩
  clear ho hr
  go_wp2
  go_returns
  exact ⟨rfl, HO.out, HR1.out⟩
/-- What a return leaves that comes back to a call. -/
structure BakG (R C P q2 kob k ca : Nat) (r : Rq) (cs os : List Value) (rg : List Int) (w w' : World) : Prop where
  onl : Onl (fun b => b = R ∨ b = P ∨ b = q2) w w'
  rb : Rqb w' R { r with cv := .slice (some ⟨C, 0, none⟩) (k + 1) ca }
  bo : Bk w' P 146 (os.set (kob * 4 + 3) (.bool true))
  bc : Bk w' C 109 cs
  rg : Bk w' q2 2 (rg.map (Value.int .i64))
end
end Go.Proofs.YtdppoblbenbafaaGreatDoor
