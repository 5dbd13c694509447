/- A machine's call, but for what it prints. A machine's call that prints a byte. -/
import Derived.Test.YtnmpbihpoefeoaaDoorGA
import Derived.Deep.RegionHeld3
import Derived.RegionTactic
import Derived.Deep.AppendLies
import Derived.Deep.RegionLawGrows
namespace Go.Proofs.YtnmpbihpoefeoaaDoor
section
open Go.RowKit Go.Shelf
/-- What a machine may read. -/
def InB (W : World) (iv : Value) (L : Nat) (ib : Nat → Int) : Prop := ∃ ao c, iv = .slice ao L c ∧ (0 < L → ∃ g, ao = some ⟨g, 0, none⟩ ∧ ∀ j, j < L → W.cell? ⟨g, j, none⟩ = some (.int .u8 (ib j)))
theorem Mch.drewN {W : World} {m mem : Nat} {s : Sx} {ov iv : Value} (H : Mch W m s ov mem iv) (n : Nat) : Mch (W.drewN n) m s ov mem iv := H.below (below_drewN (Below.refl _ _) n)
theorem Onl.drewN {S : Nat → Prop} {w W : World} (h : Onl S w W) (n : Nat) : Onl S w (W.drewN n) := h.trans (Onl.of_below (below_drewN (Below.refl _ _) n))
/-- The byte that is read next, or all bits; and where reading then stands. -/
def rdV (L : Nat) (ib : Nat → Int) (i : Int) : Int := if (L : Int) ≤ i then 18446744073709551615 else ib i.toNat
def rdI (L : Nat) (i : Int) : Int := if (L : Int) ≤ i then i else wrap64 (i + 1)
set_option maxHeartbeats 1000000 in
theorem read77_end {W : World} {m mem : Nat} {s : Sx} {ov iv : Value} {L : Nat} {ib : Nat → Int} (H : Mch W m s ov mem iv) (hi : InB W iv L ib) (hL : (L : Int) ≤ s.inn) : Calls Tryd.prog 77 #[.pointer (some ⟨m, 0, none⟩)] W fun e w' => e = .returned (.int .u64 18446744073709551615) ∧ Onl (Im m) W w' ∧ Mch w' m s ov mem iv := by
  obtain ⟨ao, c, rfl, _⟩ := hi
  have hs := H.lt
  have h38 := H.inn
  have h40 := H.iv
  have HM : Hid (Mch W m s ov mem (.slice ao L c)) := H
  clear H
  go_enter Tryd.func77, Tryd.ntmps77
  go_wp2
  go_quiet (fail)
  go_wp2
  go_ret
  exact ⟨rfl, (Onl.of_below (Below.refl _ _)).drewN nq, HM.out.drewN nq⟩
set_option maxHeartbeats 1000000 in
theorem read77_in {W : World} {m mem : Nat} {s : Sx} {ov iv : Value} {L : Nat} {ib : Nat → Int} {k : Nat} (H : Mch W m s ov mem iv) (hi : InB W iv L ib) (hk : s.inn = k) (hL : k < L) (hb : ∀ j, 0 ≤ ib j ∧ ib j < 256) : Calls Tryd.prog 77 #[.pointer (some ⟨m, 0, none⟩)] W fun e w' => e = .returned (.int .u64 (ib k)) ∧ Onl (Im m) W w' ∧ Mch w' m { s with inn := wrap64 (s.inn + 1) } ov mem iv := by
  obtain ⟨ao, c, rfl, h⟩ := hi
  obtain ⟨g, rfl, hc⟩ := h (by omega)
  have hcell := hc k hL
  have hs := H.lt
  have h38 := H.inn
  have h40 := H.iv
  have b0 := (hb k).1
  have b1 := (hb k).2
  have hkL : (k : Int) < (L : Int) := by omega
  have HM : Hid (Mch W m s ov mem (.slice (some ⟨g, 0, none⟩) L c)) := H
  rw [hk] at h38 ⊢
  have HK : Hid (s.inn = k) := hk
  have hgs := lt_of_cell hcell
  clear H hb hc h hk
  go_enter Tryd.func77, Tryd.ntmps77
  go_wp2
  go_quiet (fail)
  obtain ⟨wq, hwq⟩ : ∃ wq, W.drewN nq = wq := ⟨_, rfl⟩
  have MQ : Hid (Mch wq m s ov mem (.slice (some ⟨g, 0, none⟩) L c)) := by rw [← hwq]; exact HM.out.drewN nq
  have OQ : Hid (Onl (Im m) W wq) := by rw [← hwq]; exact (Onl.of_below (Below.refl _ _)).drewN nq
  have c0 : wq.cell? ⟨g, k, none⟩ = some (.int .u8 (ib k)) := by rw [← hwq]; exact ((below_drewN (Below.refl _ W) nq).cell (p := ⟨g, k, none⟩) hgs).trans hcell
  rw [hwq]
  clear hwq hcell h38 h40
  have h38 := MQ.out.inn
  rw [HK.out] at h38
  have h40 := MQ.out.iv
  go_wp2
  go_quiet (fail)
  obtain ⟨wz, hwz⟩ : ∃ wz, wq.drewN nq = wz := ⟨_, rfl⟩
  have MZ : Hid (Mch wz m s ov mem (.slice (some ⟨g, 0, none⟩) L c)) := by rw [← hwz]; exact MQ.out.drewN nq
  have OZ : Hid (Onl (Im m) W wz) := by rw [← hwz]; exact OQ.out.drewN nq
  rw [hwz]
  clear hwz c0 h38 h40
  have h38 := MZ.out.inn
  have f38 := MZ.out.fz 38
  rw [HK.out] at h38
  go_wp2
  go_ret
  exact ⟨rfl, OZ.out.set Im.self, MZ.out.setInn _⟩
theorem read77 {W : World} {m mem : Nat} {s : Sx} {ov iv : Value} {L : Nat} {ib : Nat → Int} (H : Mch W m s ov mem iv) (hi : InB W iv L ib) (h0 : 0 ≤ s.inn) (hb : ∀ j, 0 ≤ ib j ∧ ib j < 256) : Calls Tryd.prog 77 #[.pointer (some ⟨m, 0, none⟩)] W fun e w' => e = .returned (.int .u64 (rdV L ib s.inn)) ∧ Onl (Im m) W w' ∧ Mch w' m { s with inn := rdI L s.inn } ov mem iv := by
  unfold rdV rdI
  by_cases h : (L : Int) ≤ s.inn
  · rw [if_pos h, if_pos h]
    exact read77_end H hi h
  · rw [if_neg h, if_neg h]
    exact read77_in H hi (k := s.inn.toNat) (by omega) (by omega) hb
set_option maxHeartbeats 1000000 in
set_option maxRecDepth 20000 in
theorem call63_r {W : World} {m mem : Nat} {s : Sx} {ov iv : Value} {L : Nat} {ib : Nat → Int} (H : Mch W m s ov mem iv) (hi : InB W iv L ib) (h0 : 0 ≤ s.inn) (hb : ∀ j, 0 ≤ ib j ∧ ib j < 256) (h17 : s.x 17 = 63) : Calls Tryd.prog 63 #[.pointer (some ⟨m, 0, none⟩)] W fun e w' => e = .returned (.int .i64 0) ∧ Onl (Im m) W w' ∧ Mch w' m { s with inn := rdI L s.inn, x := upd s.x 10 (rdV L ib s.inn) } ov mem iv := by
  have hs := H.lt
  have k17 : W.cell? ⟨m, 18, none⟩ = some (.int .u64 63) := by rw [← h17]; exact H.reg 17 (by omega)
  have k10 : W.cell? ⟨m, 11, none⟩ = some (.int .u64 (s.x 10)) := H.reg 10 (by omega)
  have f10 := H.fz 11
  have HR : Hid (Calls Tryd.prog 77 #[.pointer (some ⟨m, 0, none⟩)] W.drew fun e w' => e = .returned (.int .u64 (rdV L ib s.inn)) ∧ Onl (Im m) W.drew w' ∧ Mch w' m { s with inn := rdI L s.inn } ov mem iv) := read77 (H.below (Below.refl _ _).drew) (by obtain ⟨ao, c, e, h⟩ := hi; exact ⟨ao, c, e, h⟩) h0 hb
  clear H hi h17 hb h0
  go_enter Tryd.func63, Tryd.ntmps63
  go_wp2
  go_region_with ((go_at_call 77; refine HR.out.mono ?_; rintro e w1 ⟨rfl, o1, m1⟩; have _g0 : w1.cell? ⟨m, 11, none⟩ = some (.int .u64 (s.x 10)) := m1.reg 10 (by omega); have _g1 := m1.fz 11; have HO : Hid (Onl (Im m) W.drew w1) := o1; have HM : Hid (Mch w1 m { s with inn := rdI L s.inn } ov mem iv) := m1; clear o1 m1))
  go_wp2
  go_ret
  exact ⟨rfl, ((Onl.of_below (Below.refl _ _).drew).trans HO.out).set Im.self, HM.out.setReg 10 (by omega) _⟩
set_option maxHeartbeats 1000000 in
set_option maxRecDepth 20000 in
theorem call63_e {W : World} {m mem : Nat} {s : Sx} {ov iv : Value} (H : Mch W m s ov mem iv) (h17 : s.x 17 = 93) : Calls Tryd.prog 63 #[.pointer (some ⟨m, 0, none⟩)] W fun e w' => e = .returned (.int .i64 0) ∧ Onl (Im m) W w' ∧ Mch w' m { s with h := true, code := s.x 10 % 256 } ov mem iv := by
  have hs := H.lt
  have k17 : W.cell? ⟨m, 18, none⟩ = some (.int .u64 93) := by rw [← h17]; exact H.reg 17 (by omega)
  have k10 : W.cell? ⟨m, 11, none⟩ = some (.int .u64 (s.x 10)) := H.reg 10 (by omega)
  have h34 := H.h
  have h35 := H.code
  have f34 := H.fz 34
  have f35 := H.fz 35
  have HM : Hid (Mch W m s ov mem iv) := H
  clear H h17
  go_enter Tryd.func63, Tryd.ntmps63
  go_wp2
  go_ret
  exact ⟨rfl, ((Onl.of_below (Below.refl _ _)).set Im.self).set Im.self, (HM.out.setH true).setCode _⟩
set_option maxHeartbeats 1000000 in
set_option maxRecDepth 20000 in
theorem call63_o {W : World} {m mem : Nat} {s : Sx} {ov iv : Value} (H : Mch W m s ov mem iv) (n1 : ¬ s.x 17 = 63) (n2 : ¬ s.x 17 = 64) (n3 : ¬ s.x 17 = 93) : Calls Tryd.prog 63 #[.pointer (some ⟨m, 0, none⟩)] W fun e w' => e = .returned (.int .i64 34) ∧ w' = W := by
  have hs := H.lt
  have k17 : W.cell? ⟨m, 18, none⟩ = some (.int .u64 (s.x 17)) := H.reg 17 (by omega)
  have e1 : (s.x 17 == 63) = false := by simpa using n1
  have e2 : (s.x 17 == 64) = false := by simpa using n2
  have e3 : (s.x 17 == 93) = false := by simpa using n3
  clear H n1 n2 n3
  go_enter Tryd.func63, Tryd.ntmps63
  go_wp2
  go_ret
  exact ⟨rfl, rfl⟩
end
section
open Go.RowKit Go.Shelf
theorem info5' : ∃ i, Tryd.prog.info? 5 = some i ∧ i.zero = some (.int .u8 0) ∧ i.size = 1 ∧ i.bytes = 1 := by
  have h := info5
  cases hi : Tryd.prog.info? 5 with
  | none => rw [hi] at h; cases h
  | some i => rw [hi] at h; simp at h; exact ⟨i, rfl, h⟩
theorem owns_keep {W W' : World} {base : Nat} {v : Value} {n : Nat} {xs : List Value} (h : W.ownsRow base 5 1 v n xs) (k : ∀ g, v.ownBlock = some g → W'.heap[g]? = W.heap[g]?) : W'.ownsRow base 5 1 v n xs := by
  obtain ⟨hl, h⟩ := h
  refine ⟨hl, h.imp id ?_⟩
  rintro ⟨g, cap, cur, rfl, h1, h2, h3⟩
  exact ⟨g, cap, cur, rfl, h1, (k g rfl).trans h2, h3⟩
theorem owns_lt {W : World} {base : Nat} {v : Value} {n : Nat} {xs : List Value} (h : W.ownsRow base 5 1 v n xs) {g : Nat} (hg : v.ownBlock = some g) : ∃ cur, W.heap[g]? = some (.cells cur 5 (0, 0)) := by
  obtain ⟨hl, ⟨rfl, rfl⟩ | ⟨g', cap, cur, rfl, h1, h2, h3⟩⟩ := h
  · cases hg
  · cases hg; exact ⟨cur, h2⟩
theorem owns_ne {W : World} {base m : Nat} {v : Value} {n : Nat} {xs : List Value} {s : Sx} {ov iv : Value} {mem : Nat} (h : W.ownsRow base 5 1 v n xs) (H : Mch W m s ov mem iv) : v.ownBlock ≠ some m := fun e => by
  obtain ⟨cur, h⟩ := owns_lt h e
  obtain ⟨cs, k, _⟩ := H.blk
  rw [h] at k
  cases k
theorem new_one (W : World) (v : Value) (t : TypeId) : (W.alloc (.cells #[v] t)).cell? ((⟨W.heap.size, 0, none⟩ : Addr).add 0) = some v ∧ (W.drew.alloc (.cells #[v] t)).cell? ((⟨W.heap.size, 0, none⟩ : Addr).add 0) = some v := by
  have h : ∀ V : World, (V.alloc (.cells #[v] t)).cell? ⟨V.heap.size, 0, none⟩ = some v := fun V => by simp only [World.cell?, heap_at]; rfl
  exact ⟨h W, h W.drew⟩
set_option maxHeartbeats 2000000 in
set_option maxRecDepth 20000 in
theorem call63_w {W : World} {m mem base n : Nat} {s : Sx} {ov iv : Value} {xs : List Value} (H : Mch W m s ov mem iv) (h17 : s.x 17 = 64) (hx : ∀ r, 0 ≤ s.x r ∧ s.x r < 18446744073709551616) (ho : W.ownsRow base 5 1 ov n xs) (hb : base ≤ W.heap.size) (hn : n < 140737488355328) : Calls Tryd.prog 63 #[.pointer (some ⟨m, 0, none⟩)] W fun e w' => e = .returned (.int .i64 0) ∧ Onl (Or1 m fun k => ov.ownBlock = some k) W w' ∧ ∃ ov', Mch w' m s ov' mem iv ∧ w'.ownsRow base 5 1 ov' (n + 1) (xs ++ [.int .u8 (IntKind.u8.wrap (s.x 10))]) ∧ (ov'.ownBlock = ov.ownBlock ∨ ∃ g, ov'.ownBlock = some g ∧ W.heap.size ≤ g) := by
  have hs := H.lt
  have k17 : W.cell? ⟨m, 18, none⟩ = some (.int .u64 64) := by rw [← h17]; exact H.reg 17 (by omega)
  have k10 : W.cell? ⟨m, 11, none⟩ = some (.int .u64 (s.x 10)) := H.reg 10 (by omega)
  have k37 := H.out
  have f37 := H.fz 37
  have x0 := (hx 10).1
  have x1 := (hx 10).2
  have hne := owns_ne ho H
  have HM : Hid (Mch W m s ov mem iv) := H
  have HO : Hid (W.ownsRow base 5 1 ov n xs) := ho
  have HOB : Hid (∀ W2, Below W.heap.size W W2 → W2.ownsRow base 5 1 ov n xs) := fun W2 h => owns_keep ho fun g hg => by obtain ⟨cur, hc⟩ := owns_lt ho hg; exact h.block g (lt_of_some hc)
  have HKM : Hid (∀ W2 w3, Below W.heap.size W W2 → W2.grownBy w3 ov.ownBlock → Mch w3 m s ov mem iv ∧ Onl (Or1 m fun k => ov.ownBlock = some k) W w3) := fun W2 w3 h g => ⟨H.keep ((g.block m (Nat.lt_of_lt_of_le hs h.size) (fun e => hne e.symm)).trans (h.block m hs)), (Onl.of_below h).trans ⟨g.os, g.tape, g.output, g.size, fun k hk hx => g.block k hk (fun e => hx (.inr e.symm))⟩⟩
  obtain ⟨i5, AN⟩ := info5'
  have AN : Hid (Tryd.prog.info? 5 = some i5 ∧ i5.zero = some (.int .u8 0) ∧ i5.size = 1 ∧ i5.bytes = 1) := AN
  clear H h17 ho hx
  go_enter Tryd.func63, Tryd.ntmps63
  go_wp2
  go_region_law
    (first | (refine step_append_lies _ rfl (.tmp 26) (.tmp 33) 35 rfl base 5 i5 (.int .u8 0) 1 1 Tryd.underlying35 AN.out.1 AN.out.2.1 AN.out.2.2.1 AN.out.2.2.2 rfl (by decide) ov n xs rfl (HOB.out _ (by first | exact (Below.refl _ _).alloc (Nat.le_refl _) _ | exact ((Below.refl _ _).drew).alloc (Nat.le_refl _) _)) ⟨W.heap.size, 0, none⟩ 1 1 [.int .u8 (IntKind.u8.wrap (s.x 10))] rfl rfl (by intro j u h; cases j with | zero => cases h; (first | exact (new_one _ _ _).1 | exact (new_one _ _ _).2) | succ j => cases h) (by intro u hu; rw [List.mem_singleton.1 hu]; rfl) (by decide) (by unfold maxLen; omega) (by omega) (by simp; omega) _ rfl ?_; intro g cap w3 hown hgrow hat hlt; obtain ⟨y1, y2⟩ := HKM.out _ w3 (by first | exact (Below.refl _ _).alloc (Nat.le_refl _) _ | exact ((Below.refl _ _).drew).alloc (Nat.le_refl _) _) hgrow; have _g0 := y1.out; have _g1 := y1.fz 37; have Y1 : Hid (Mch w3 m s ov mem iv) := y1; have Y2 : Hid (Onl (Or1 m fun k => ov.ownBlock = some k) W w3) := y2; have Y3 : Hid (w3.ownsRow base 5 1 (.slice (some ⟨g, 0, none⟩) (n + 1) cap) (n + 1) (xs ++ [.int .u8 (IntKind.u8.wrap (s.x 10))]) ∧ (ov.ownBlock = some g ∨ W.heap.size ≤ g)) := ⟨hown, hat.imp id (fun e => by simp at e; omega)⟩; clear y1 y2 hown hgrow hat))
  all_goals (
    go_wp2
    go_ret
    exact ⟨rfl, Y2.out.set Or1.self, _, Y1.out.setOut _, owns_keep Y3.out.1 (fun k hk => (grown_set _ m 37 _).block k (by cases hk; exact hlt) (fun e => owns_ne Y3.out.1 Y1.out (hk.trans e))), Y3.out.2.imp (fun e => e.symm) (fun e => ⟨_, rfl, e⟩)⟩)
end
end Go.Proofs.YtnmpbihpoefeoaaDoor
