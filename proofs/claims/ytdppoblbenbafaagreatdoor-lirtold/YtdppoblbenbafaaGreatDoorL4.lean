/- The document's own line of an instruction. -/
import Derived.Test.YtdppoblbenbafaaGreatDoorLA
namespace Go.Proofs.YtdppoblbenbafaaGreatDoor
open Go.RowKit Go.Shelf
set_option maxHeartbeats 8000000
theorem lex37a : Region.lexB .any (opsOf (Tryz.f37.body.getD .skip) 1).toArray = true := by kernel_rfl
/-- A number of 64 bits. -/
def I64 (n : Int) : Prop := -9223372036854775808 ≤ n ∧ n ≤ 9223372036854775807
/-- An instruction whose numbers are of 64 bits. -/
structure Num64 (i : Ins) : Prop where
  d : I64 i.d
  a : I64 i.a
  b : I64 i.b
  n : I64 i.n
  t : I64 i.to
  e : I64 i.el
  g : ∀ y ∈ i.gs, I64 y
theorem dec_len : ∀ (k u : Nat), u < 10 ^ k → 0 < k → (Lib.decDigits u).length ≤ k
  | 0, _, _, h => absurd h (by omega)
  | k + 1, u, hu, _ => by
    rw [Lib.decDigits]
    by_cases h : u < 10
    · rw [dif_pos h]; simp
    · rw [dif_neg h]
      have hk : 0 < k := by
        apply Classical.byContradiction
        intro hz
        have : k = 0 := by omega
        subst this
        simp at hu
        omega
      have := dec_len k (u / 10) (by rw [Nat.pow_succ] at hu; omega) hk
      simp
      omega
theorem itoa_len {n : Int} (h : I64 n) : (Lib.itoa n).length ≤ 21 := by
  unfold I64 at h
  unfold Lib.itoa
  have h3 : (10 : Nat) ^ 20 = 100000000000000000000 := by decide
  split
  · have := dec_len 20 n.natAbs (by omega) (by omega)
    simp
    omega
  · have := dec_len 20 n.toNat (by omega) (by omega)
    omega
theorem ba_ext {a b : ByteArray} (h : a.data.toList = b.data.toList) : a = b := by
  cases a; cases b
  simp at h
  rw [h]
theorem ret_str {a : ByteArray} {l : List UInt8} (h : a.data.toList = l) : Ending.returned (.string a) = .returned (.string ⟨l.toArray⟩) := by rw [show a = ⟨l.toArray⟩ from ba_ext (by simpa using h)]
theorem ba_app (a b : ByteArray) : (a ++ b).data.toList = a.data.toList ++ b.data.toList := by simp
/-- What a line of the text says of an instruction. -/
def lnS (i : Ins) : List UInt8 := if i.op = 1 then [99, 111, 110, 115, 116, 32] ++ (Lib.itoa i.d) ++ [32] ++ (Lib.itoa i.n) else if i.op = 2 then [109, 111, 118, 101, 32] ++ (Lib.itoa i.d) ++ [32] ++ (Lib.itoa i.a) else if i.op = 3 then [98, 105, 110, 32] ++ (Lib.itoa i.d) ++ [32] ++ (i.nm.data.toList) ++ [32] ++ (Lib.itoa i.a) ++ [32] ++ (Lib.itoa i.b) else if i.op = 4 then [108, 111, 97, 100, 32] ++ (Lib.itoa i.d) ++ [32] ++ (Lib.itoa i.a) ++ [32] ++ (Lib.itoa i.n) else if i.op = 5 then [115, 116, 111, 114, 101, 32] ++ (Lib.itoa i.a) ++ [32] ++ (Lib.itoa i.n) ++ [32] ++ (Lib.itoa i.b) else if i.op = 6 then [102, 114, 97, 109, 101, 32] ++ (Lib.itoa i.d) ++ [32] ++ (Lib.itoa i.n) else if i.op = 7 then [99, 97, 108, 108, 32] ++ (Lib.itoa i.d) ++ [32] ++ i.nm.data.toList ++ i.gs.flatMap (fun y => 32 :: Lib.itoa y) else if i.op = 8 then [106, 117, 109, 112, 32] ++ (Lib.itoa i.to) else if i.op = 9 then [105, 102, 32] ++ (Lib.itoa i.a) ++ [32] ++ (Lib.itoa i.to) ++ [32] ++ (Lib.itoa i.el) else if i.op = 10 then [114, 101, 116, 32] ++ (Lib.itoa i.a) else if i.op = 11 then [116, 114, 97, 112, 32] ++ (Lib.itoa i.n) else []
def lnL (i : Ins) : List UInt8 := 9 :: (lnS i ++ [10])
/-- A text, and how long it is. -/
theorem tx_of (l : List UInt8) (k : Nat) (h : l.length ≤ k) : ∃ t : ByteArray, t = ⟨l.toArray⟩ ∧ t.size ≤ k ∧ t.data.toList = l := ⟨_, rfl, by show l.toArray.size ≤ k; simpa using h, by simp⟩
set_option maxRecDepth 20000 in
theorem rline_1 (i : Ins) (w : World) (h : i.op = 1) (h64 : Num64 i) (_hm : i.nm.size ≤ 1000) : Calls Tryz.prog 37 #[inV i] w fun e w' => e = .returned (.string ⟨(lnL i).toArray⟩) ∧ Below w.heap.size w w' := by
  unfold inV
  generalize i.gs.length = al
  obtain ⟨td, hd1, hd2, hd3⟩ := tx_of (Lib.itoa i.d) 21 (itoa_len h64.d)
  obtain ⟨ta, ha1, ha2, ha3⟩ := tx_of (Lib.itoa i.a) 21 (itoa_len h64.a)
  obtain ⟨tb, hb1, hb2, hb3⟩ := tx_of (Lib.itoa i.b) 21 (itoa_len h64.b)
  obtain ⟨tn, hn1, hn2, hn3⟩ := tx_of (Lib.itoa i.n) 21 (itoa_len h64.n)
  have kd := fun p : Bw (w.alloc (.cells #[.int .i64 1, .int .i64 i.d, .int .i64 i.a, .int .i64 i.b, .int .i64 i.n, .string i.nm, .slice i.ar al i.ac, .int .i64 i.to, .int .i64 i.el] 54)) => Bw.to (num36 i.d p.W h64.d.1 h64.d.2)
  have ka := fun p : Bw (w.alloc (.cells #[.int .i64 1, .int .i64 i.d, .int .i64 i.a, .int .i64 i.b, .int .i64 i.n, .string i.nm, .slice i.ar al i.ac, .int .i64 i.to, .int .i64 i.el] 54)) => Bw.to (num36 i.a p.W h64.a.1 h64.a.2)
  have kb := fun p : Bw (w.alloc (.cells #[.int .i64 1, .int .i64 i.d, .int .i64 i.a, .int .i64 i.b, .int .i64 i.n, .string i.nm, .slice i.ar al i.ac, .int .i64 i.to, .int .i64 i.el] 54)) => Bw.to (num36 i.b p.W h64.b.1 h64.b.2)
  have kn := fun p : Bw (w.alloc (.cells #[.int .i64 1, .int .i64 i.d, .int .i64 i.a, .int .i64 i.b, .int .i64 i.n, .string i.nm, .slice i.ar al i.ac, .int .i64 i.to, .int .i64 i.el] 54)) => Bw.to (num36 i.n p.W h64.n.1 h64.n.2)
  rw [← hd1] at kd
  rw [← ha1] at ka
  rw [← hb1] at kb
  rw [← hn1] at kn
  have HV : Hid (lnL i = 9 :: (([99, 111, 110, 115, 116, 32] ++ (Lib.itoa i.d) ++ [32] ++ (Lib.itoa i.n)) ++ [10])) := by show _ = _; unfold lnL lnS; simp [h]
  have HT : Hid (td.data.toList = Lib.itoa i.d ∧ ta.data.toList = Lib.itoa i.a ∧ tb.data.toList = Lib.itoa i.b ∧ tn.data.toList = Lib.itoa i.n) := ⟨hd3, ha3, hb3, hn3⟩
  generalize lnL i = L at *
  rw [h]
  clear h h64 hd1 hd3 ha1 ha3 hb1 hb3 hn1 hn3
  go_enter Tryz.func37, Tryz.ntmps37
  go_wp2_with fail
  obtain ⟨W, hW⟩ : ∃ W, W = w.alloc (.cells #[.int .i64 1, .int .i64 i.d, .int .i64 i.a, .int .i64 i.b, .int .i64 i.n, .string i.nm, .slice i.ar al i.ac, .int .i64 i.to, .int .i64 i.el] 54) := ⟨_, rfl⟩
  have HBW : Hid (Below w.heap.size w W) := by show Below _ _ _; rw [hW]; exact ((G.refl w).alloc _).below
  have hsz : w.heap.size < W.heap.size := by rw [hW]; simp
  have c1 : W.cell? ⟨w.heap.size, 1, none⟩ = some (.int .i64 i.d) := by rw [hW]; go_simp
  have c2 : W.cell? ⟨w.heap.size, 2, none⟩ = some (.int .i64 i.a) := by rw [hW]; go_simp
  have c3 : W.cell? ⟨w.heap.size, 3, none⟩ = some (.int .i64 i.b) := by rw [hW]; go_simp
  have c4 : W.cell? ⟨w.heap.size, 4, none⟩ = some (.int .i64 i.n) := by rw [hW]; go_simp
  have c0 : W.cell? ⟨w.heap.size, 0, none⟩ = some (.int .i64 1) := by rw [hW]; go_simp
  have c5 : W.cell? ⟨w.heap.size, 5, none⟩ = some (.string i.nm) := by rw [hW]; go_simp
  have c6 : W.cell? ⟨w.heap.size, 6, none⟩ = some (.slice i.ar al i.ac) := by rw [hW]; go_simp
  have c7 : W.cell? ⟨w.heap.size, 7, none⟩ = some (.int .i64 i.to) := by rw [hW]; go_simp
  have c8 : W.cell? ⟨w.heap.size, 8, none⟩ = some (.int .i64 i.el) := by rw [hW]; go_simp
  rw [← hW] at kd ka kb kn ⊢
  clear hW
  have b1 := Bw.cell hsz c1
  have b2 := Bw.cell hsz c2
  have b3 := Bw.cell hsz c3
  have b4 := Bw.cell hsz c4
  have b0 := Bw.cell hsz c0
  have b5 := Bw.cell hsz c5
  have b6 := Bw.cell hsz c6
  have b7 := Bw.cell hsz c7
  have b8 := Bw.cell hsz c8
  have hne := Bw.some W
  refine wp_region_quiet_below (by kernel_rfl) (by exact lex37a) ?_
  repeat (go_big_quiet_step ((first | (go_at_call 36; first | with_reducible exact kd _ | with_reducible exact ka _ | with_reducible exact kb _ | with_reducible exact kn _))))
  refine wpQuiet_nil ?_
  intro wz hwz
  obtain ⟨p, hp⟩ := hwz
  subst hp
  have HB : Hid (Below w.heap.size w p.W) := HBW.out.trans (p.h.mono HBW.out.size)
  have hsz1 : w.heap.size < p.W.heap.size := Nat.lt_of_lt_of_le hsz p.h.size
  replace b0 := b0 p
  replace b1 := b1 p
  replace b2 := b2 p
  replace b3 := b3 p
  replace b4 := b4 p
  replace b5 := b5 p
  replace b6 := b6 p
  replace b7 := b7 p
  replace b8 := b8 p
  clear kd ka kb kn c0 c1 c2 c3 c4 c5 c6 c7 c8 hne hsz HBW
  generalize p.W = V at *
  go_wp2
  go_ret
  obtain ⟨e1, -, -, e4⟩ := HT.out
  exact ⟨ret_str (by simp [HV.out, e1, e4]), HB.out⟩
set_option maxRecDepth 20000 in
theorem rline_2 (i : Ins) (w : World) (h : i.op = 2) (h64 : Num64 i) (_hm : i.nm.size ≤ 1000) : Calls Tryz.prog 37 #[inV i] w fun e w' => e = .returned (.string ⟨(lnL i).toArray⟩) ∧ Below w.heap.size w w' := by
  unfold inV
  generalize i.gs.length = al
  obtain ⟨td, hd1, hd2, hd3⟩ := tx_of (Lib.itoa i.d) 21 (itoa_len h64.d)
  obtain ⟨ta, ha1, ha2, ha3⟩ := tx_of (Lib.itoa i.a) 21 (itoa_len h64.a)
  obtain ⟨tb, hb1, hb2, hb3⟩ := tx_of (Lib.itoa i.b) 21 (itoa_len h64.b)
  obtain ⟨tn, hn1, hn2, hn3⟩ := tx_of (Lib.itoa i.n) 21 (itoa_len h64.n)
  have kd := fun p : Bw (w.alloc (.cells #[.int .i64 2, .int .i64 i.d, .int .i64 i.a, .int .i64 i.b, .int .i64 i.n, .string i.nm, .slice i.ar al i.ac, .int .i64 i.to, .int .i64 i.el] 54)) => Bw.to (num36 i.d p.W h64.d.1 h64.d.2)
  have ka := fun p : Bw (w.alloc (.cells #[.int .i64 2, .int .i64 i.d, .int .i64 i.a, .int .i64 i.b, .int .i64 i.n, .string i.nm, .slice i.ar al i.ac, .int .i64 i.to, .int .i64 i.el] 54)) => Bw.to (num36 i.a p.W h64.a.1 h64.a.2)
  have kb := fun p : Bw (w.alloc (.cells #[.int .i64 2, .int .i64 i.d, .int .i64 i.a, .int .i64 i.b, .int .i64 i.n, .string i.nm, .slice i.ar al i.ac, .int .i64 i.to, .int .i64 i.el] 54)) => Bw.to (num36 i.b p.W h64.b.1 h64.b.2)
  have kn := fun p : Bw (w.alloc (.cells #[.int .i64 2, .int .i64 i.d, .int .i64 i.a, .int .i64 i.b, .int .i64 i.n, .string i.nm, .slice i.ar al i.ac, .int .i64 i.to, .int .i64 i.el] 54)) => Bw.to (num36 i.n p.W h64.n.1 h64.n.2)
  rw [← hd1] at kd
  rw [← ha1] at ka
  rw [← hb1] at kb
  rw [← hn1] at kn
  have HV : Hid (lnL i = 9 :: (([109, 111, 118, 101, 32] ++ (Lib.itoa i.d) ++ [32] ++ (Lib.itoa i.a)) ++ [10])) := by show _ = _; unfold lnL lnS; simp [h]
  have HT : Hid (td.data.toList = Lib.itoa i.d ∧ ta.data.toList = Lib.itoa i.a ∧ tb.data.toList = Lib.itoa i.b ∧ tn.data.toList = Lib.itoa i.n) := ⟨hd3, ha3, hb3, hn3⟩
  generalize lnL i = L at *
  rw [h]
  clear h h64 hd1 hd3 ha1 ha3 hb1 hb3 hn1 hn3
  go_enter Tryz.func37, Tryz.ntmps37
  go_wp2_with fail
  obtain ⟨W, hW⟩ : ∃ W, W = w.alloc (.cells #[.int .i64 2, .int .i64 i.d, .int .i64 i.a, .int .i64 i.b, .int .i64 i.n, .string i.nm, .slice i.ar al i.ac, .int .i64 i.to, .int .i64 i.el] 54) := ⟨_, rfl⟩
  have HBW : Hid (Below w.heap.size w W) := by show Below _ _ _; rw [hW]; exact ((G.refl w).alloc _).below
  have hsz : w.heap.size < W.heap.size := by rw [hW]; simp
  have c1 : W.cell? ⟨w.heap.size, 1, none⟩ = some (.int .i64 i.d) := by rw [hW]; go_simp
  have c2 : W.cell? ⟨w.heap.size, 2, none⟩ = some (.int .i64 i.a) := by rw [hW]; go_simp
  have c3 : W.cell? ⟨w.heap.size, 3, none⟩ = some (.int .i64 i.b) := by rw [hW]; go_simp
  have c4 : W.cell? ⟨w.heap.size, 4, none⟩ = some (.int .i64 i.n) := by rw [hW]; go_simp
  have c0 : W.cell? ⟨w.heap.size, 0, none⟩ = some (.int .i64 2) := by rw [hW]; go_simp
  have c5 : W.cell? ⟨w.heap.size, 5, none⟩ = some (.string i.nm) := by rw [hW]; go_simp
  have c6 : W.cell? ⟨w.heap.size, 6, none⟩ = some (.slice i.ar al i.ac) := by rw [hW]; go_simp
  have c7 : W.cell? ⟨w.heap.size, 7, none⟩ = some (.int .i64 i.to) := by rw [hW]; go_simp
  have c8 : W.cell? ⟨w.heap.size, 8, none⟩ = some (.int .i64 i.el) := by rw [hW]; go_simp
  rw [← hW] at kd ka kb kn ⊢
  clear hW
  have b1 := Bw.cell hsz c1
  have b2 := Bw.cell hsz c2
  have b3 := Bw.cell hsz c3
  have b4 := Bw.cell hsz c4
  have b0 := Bw.cell hsz c0
  have b5 := Bw.cell hsz c5
  have b6 := Bw.cell hsz c6
  have b7 := Bw.cell hsz c7
  have b8 := Bw.cell hsz c8
  have hne := Bw.some W
  refine wp_region_quiet_below (by kernel_rfl) (by exact lex37a) ?_
  repeat (go_big_quiet_step ((first | (go_at_call 36; first | with_reducible exact kd _ | with_reducible exact ka _ | with_reducible exact kb _ | with_reducible exact kn _))))
  refine wpQuiet_nil ?_
  intro wz hwz
  obtain ⟨p, hp⟩ := hwz
  subst hp
  have HB : Hid (Below w.heap.size w p.W) := HBW.out.trans (p.h.mono HBW.out.size)
  have hsz1 : w.heap.size < p.W.heap.size := Nat.lt_of_lt_of_le hsz p.h.size
  replace b0 := b0 p
  replace b1 := b1 p
  replace b2 := b2 p
  replace b3 := b3 p
  replace b4 := b4 p
  replace b5 := b5 p
  replace b6 := b6 p
  replace b7 := b7 p
  replace b8 := b8 p
  clear kd ka kb kn c0 c1 c2 c3 c4 c5 c6 c7 c8 hne hsz HBW
  generalize p.W = V at *
  go_wp2
  go_ret
  obtain ⟨e1, e2, -, -⟩ := HT.out
  exact ⟨ret_str (by simp [HV.out, e1, e2]), HB.out⟩
set_option maxRecDepth 20000 in
theorem rline_3 (i : Ins) (w : World) (h : i.op = 3) (h64 : Num64 i) (hm : i.nm.size ≤ 1000) : Calls Tryz.prog 37 #[inV i] w fun e w' => e = .returned (.string ⟨(lnL i).toArray⟩) ∧ Below w.heap.size w w' := by
  unfold inV
  generalize i.gs.length = al
  obtain ⟨td, hd1, hd2, hd3⟩ := tx_of (Lib.itoa i.d) 21 (itoa_len h64.d)
  obtain ⟨ta, ha1, ha2, ha3⟩ := tx_of (Lib.itoa i.a) 21 (itoa_len h64.a)
  obtain ⟨tb, hb1, hb2, hb3⟩ := tx_of (Lib.itoa i.b) 21 (itoa_len h64.b)
  obtain ⟨tn, hn1, hn2, hn3⟩ := tx_of (Lib.itoa i.n) 21 (itoa_len h64.n)
  have kd := fun p : Bw (w.alloc (.cells #[.int .i64 3, .int .i64 i.d, .int .i64 i.a, .int .i64 i.b, .int .i64 i.n, .string i.nm, .slice i.ar al i.ac, .int .i64 i.to, .int .i64 i.el] 54)) => Bw.to (num36 i.d p.W h64.d.1 h64.d.2)
  have ka := fun p : Bw (w.alloc (.cells #[.int .i64 3, .int .i64 i.d, .int .i64 i.a, .int .i64 i.b, .int .i64 i.n, .string i.nm, .slice i.ar al i.ac, .int .i64 i.to, .int .i64 i.el] 54)) => Bw.to (num36 i.a p.W h64.a.1 h64.a.2)
  have kb := fun p : Bw (w.alloc (.cells #[.int .i64 3, .int .i64 i.d, .int .i64 i.a, .int .i64 i.b, .int .i64 i.n, .string i.nm, .slice i.ar al i.ac, .int .i64 i.to, .int .i64 i.el] 54)) => Bw.to (num36 i.b p.W h64.b.1 h64.b.2)
  have kn := fun p : Bw (w.alloc (.cells #[.int .i64 3, .int .i64 i.d, .int .i64 i.a, .int .i64 i.b, .int .i64 i.n, .string i.nm, .slice i.ar al i.ac, .int .i64 i.to, .int .i64 i.el] 54)) => Bw.to (num36 i.n p.W h64.n.1 h64.n.2)
  rw [← hd1] at kd
  rw [← ha1] at ka
  rw [← hb1] at kb
  rw [← hn1] at kn
  have HV : Hid (lnL i = 9 :: (([98, 105, 110, 32] ++ (Lib.itoa i.d) ++ [32] ++ (i.nm.data.toList) ++ [32] ++ (Lib.itoa i.a) ++ [32] ++ (Lib.itoa i.b)) ++ [10])) := by show _ = _; unfold lnL lnS; simp [h]
  have HT : Hid (td.data.toList = Lib.itoa i.d ∧ ta.data.toList = Lib.itoa i.a ∧ tb.data.toList = Lib.itoa i.b ∧ tn.data.toList = Lib.itoa i.n) := ⟨hd3, ha3, hb3, hn3⟩
  generalize lnL i = L at *
  rw [h]
  clear h h64 hd1 hd3 ha1 ha3 hb1 hb3 hn1 hn3
  go_enter Tryz.func37, Tryz.ntmps37
  go_wp2_with fail
  obtain ⟨W, hW⟩ : ∃ W, W = w.alloc (.cells #[.int .i64 3, .int .i64 i.d, .int .i64 i.a, .int .i64 i.b, .int .i64 i.n, .string i.nm, .slice i.ar al i.ac, .int .i64 i.to, .int .i64 i.el] 54) := ⟨_, rfl⟩
  have HBW : Hid (Below w.heap.size w W) := by show Below _ _ _; rw [hW]; exact ((G.refl w).alloc _).below
  have hsz : w.heap.size < W.heap.size := by rw [hW]; simp
  have c1 : W.cell? ⟨w.heap.size, 1, none⟩ = some (.int .i64 i.d) := by rw [hW]; go_simp
  have c2 : W.cell? ⟨w.heap.size, 2, none⟩ = some (.int .i64 i.a) := by rw [hW]; go_simp
  have c3 : W.cell? ⟨w.heap.size, 3, none⟩ = some (.int .i64 i.b) := by rw [hW]; go_simp
  have c4 : W.cell? ⟨w.heap.size, 4, none⟩ = some (.int .i64 i.n) := by rw [hW]; go_simp
  have c0 : W.cell? ⟨w.heap.size, 0, none⟩ = some (.int .i64 3) := by rw [hW]; go_simp
  have c5 : W.cell? ⟨w.heap.size, 5, none⟩ = some (.string i.nm) := by rw [hW]; go_simp
  have c6 : W.cell? ⟨w.heap.size, 6, none⟩ = some (.slice i.ar al i.ac) := by rw [hW]; go_simp
  have c7 : W.cell? ⟨w.heap.size, 7, none⟩ = some (.int .i64 i.to) := by rw [hW]; go_simp
  have c8 : W.cell? ⟨w.heap.size, 8, none⟩ = some (.int .i64 i.el) := by rw [hW]; go_simp
  rw [← hW] at kd ka kb kn ⊢
  clear hW
  have b1 := Bw.cell hsz c1
  have b2 := Bw.cell hsz c2
  have b3 := Bw.cell hsz c3
  have b4 := Bw.cell hsz c4
  have b0 := Bw.cell hsz c0
  have b5 := Bw.cell hsz c5
  have b6 := Bw.cell hsz c6
  have b7 := Bw.cell hsz c7
  have b8 := Bw.cell hsz c8
  have hne := Bw.some W
  refine wp_region_quiet_below (by kernel_rfl) (by exact lex37a) ?_
  repeat (go_big_quiet_step ((first | (go_at_call 36; first | with_reducible exact kd _ | with_reducible exact ka _ | with_reducible exact kb _ | with_reducible exact kn _))))
  refine wpQuiet_nil ?_
  intro wz hwz
  obtain ⟨p, hp⟩ := hwz
  subst hp
  have HB : Hid (Below w.heap.size w p.W) := HBW.out.trans (p.h.mono HBW.out.size)
  have hsz1 : w.heap.size < p.W.heap.size := Nat.lt_of_lt_of_le hsz p.h.size
  replace b0 := b0 p
  replace b1 := b1 p
  replace b2 := b2 p
  replace b3 := b3 p
  replace b4 := b4 p
  replace b5 := b5 p
  replace b6 := b6 p
  replace b7 := b7 p
  replace b8 := b8 p
  clear kd ka kb kn c0 c1 c2 c3 c4 c5 c6 c7 c8 hne hsz HBW
  generalize p.W = V at *
  go_wp2
  go_ret
  obtain ⟨e1, e2, e3, -⟩ := HT.out
  exact ⟨ret_str (by simp [HV.out, e1, e2, e3]), HB.out⟩
set_option maxRecDepth 20000 in
theorem rline_4 (i : Ins) (w : World) (h : i.op = 4) (h64 : Num64 i) (_hm : i.nm.size ≤ 1000) : Calls Tryz.prog 37 #[inV i] w fun e w' => e = .returned (.string ⟨(lnL i).toArray⟩) ∧ Below w.heap.size w w' := by
  unfold inV
  generalize i.gs.length = al
  obtain ⟨td, hd1, hd2, hd3⟩ := tx_of (Lib.itoa i.d) 21 (itoa_len h64.d)
  obtain ⟨ta, ha1, ha2, ha3⟩ := tx_of (Lib.itoa i.a) 21 (itoa_len h64.a)
  obtain ⟨tb, hb1, hb2, hb3⟩ := tx_of (Lib.itoa i.b) 21 (itoa_len h64.b)
  obtain ⟨tn, hn1, hn2, hn3⟩ := tx_of (Lib.itoa i.n) 21 (itoa_len h64.n)
  have kd := fun p : Bw (w.alloc (.cells #[.int .i64 4, .int .i64 i.d, .int .i64 i.a, .int .i64 i.b, .int .i64 i.n, .string i.nm, .slice i.ar al i.ac, .int .i64 i.to, .int .i64 i.el] 54)) => Bw.to (num36 i.d p.W h64.d.1 h64.d.2)
  have ka := fun p : Bw (w.alloc (.cells #[.int .i64 4, .int .i64 i.d, .int .i64 i.a, .int .i64 i.b, .int .i64 i.n, .string i.nm, .slice i.ar al i.ac, .int .i64 i.to, .int .i64 i.el] 54)) => Bw.to (num36 i.a p.W h64.a.1 h64.a.2)
  have kb := fun p : Bw (w.alloc (.cells #[.int .i64 4, .int .i64 i.d, .int .i64 i.a, .int .i64 i.b, .int .i64 i.n, .string i.nm, .slice i.ar al i.ac, .int .i64 i.to, .int .i64 i.el] 54)) => Bw.to (num36 i.b p.W h64.b.1 h64.b.2)
  have kn := fun p : Bw (w.alloc (.cells #[.int .i64 4, .int .i64 i.d, .int .i64 i.a, .int .i64 i.b, .int .i64 i.n, .string i.nm, .slice i.ar al i.ac, .int .i64 i.to, .int .i64 i.el] 54)) => Bw.to (num36 i.n p.W h64.n.1 h64.n.2)
  rw [← hd1] at kd
  rw [← ha1] at ka
  rw [← hb1] at kb
  rw [← hn1] at kn
  have HV : Hid (lnL i = 9 :: (([108, 111, 97, 100, 32] ++ (Lib.itoa i.d) ++ [32] ++ (Lib.itoa i.a) ++ [32] ++ (Lib.itoa i.n)) ++ [10])) := by show _ = _; unfold lnL lnS; simp [h]
  have HT : Hid (td.data.toList = Lib.itoa i.d ∧ ta.data.toList = Lib.itoa i.a ∧ tb.data.toList = Lib.itoa i.b ∧ tn.data.toList = Lib.itoa i.n) := ⟨hd3, ha3, hb3, hn3⟩
  generalize lnL i = L at *
  rw [h]
  clear h h64 hd1 hd3 ha1 ha3 hb1 hb3 hn1 hn3
  go_enter Tryz.func37, Tryz.ntmps37
  go_wp2_with fail
  obtain ⟨W, hW⟩ : ∃ W, W = w.alloc (.cells #[.int .i64 4, .int .i64 i.d, .int .i64 i.a, .int .i64 i.b, .int .i64 i.n, .string i.nm, .slice i.ar al i.ac, .int .i64 i.to, .int .i64 i.el] 54) := ⟨_, rfl⟩
  have HBW : Hid (Below w.heap.size w W) := by show Below _ _ _; rw [hW]; exact ((G.refl w).alloc _).below
  have hsz : w.heap.size < W.heap.size := by rw [hW]; simp
  have c1 : W.cell? ⟨w.heap.size, 1, none⟩ = some (.int .i64 i.d) := by rw [hW]; go_simp
  have c2 : W.cell? ⟨w.heap.size, 2, none⟩ = some (.int .i64 i.a) := by rw [hW]; go_simp
  have c3 : W.cell? ⟨w.heap.size, 3, none⟩ = some (.int .i64 i.b) := by rw [hW]; go_simp
  have c4 : W.cell? ⟨w.heap.size, 4, none⟩ = some (.int .i64 i.n) := by rw [hW]; go_simp
  have c0 : W.cell? ⟨w.heap.size, 0, none⟩ = some (.int .i64 4) := by rw [hW]; go_simp
  have c5 : W.cell? ⟨w.heap.size, 5, none⟩ = some (.string i.nm) := by rw [hW]; go_simp
  have c6 : W.cell? ⟨w.heap.size, 6, none⟩ = some (.slice i.ar al i.ac) := by rw [hW]; go_simp
  have c7 : W.cell? ⟨w.heap.size, 7, none⟩ = some (.int .i64 i.to) := by rw [hW]; go_simp
  have c8 : W.cell? ⟨w.heap.size, 8, none⟩ = some (.int .i64 i.el) := by rw [hW]; go_simp
  rw [← hW] at kd ka kb kn ⊢
  clear hW
  have b1 := Bw.cell hsz c1
  have b2 := Bw.cell hsz c2
  have b3 := Bw.cell hsz c3
  have b4 := Bw.cell hsz c4
  have b0 := Bw.cell hsz c0
  have b5 := Bw.cell hsz c5
  have b6 := Bw.cell hsz c6
  have b7 := Bw.cell hsz c7
  have b8 := Bw.cell hsz c8
  have hne := Bw.some W
  refine wp_region_quiet_below (by kernel_rfl) (by exact lex37a) ?_
  repeat (go_big_quiet_step ((first | (go_at_call 36; first | with_reducible exact kd _ | with_reducible exact ka _ | with_reducible exact kb _ | with_reducible exact kn _))))
  refine wpQuiet_nil ?_
  intro wz hwz
  obtain ⟨p, hp⟩ := hwz
  subst hp
  have HB : Hid (Below w.heap.size w p.W) := HBW.out.trans (p.h.mono HBW.out.size)
  have hsz1 : w.heap.size < p.W.heap.size := Nat.lt_of_lt_of_le hsz p.h.size
  replace b0 := b0 p
  replace b1 := b1 p
  replace b2 := b2 p
  replace b3 := b3 p
  replace b4 := b4 p
  replace b5 := b5 p
  replace b6 := b6 p
  replace b7 := b7 p
  replace b8 := b8 p
  clear kd ka kb kn c0 c1 c2 c3 c4 c5 c6 c7 c8 hne hsz HBW
  generalize p.W = V at *
  go_wp2
  go_ret
  obtain ⟨e1, e2, -, e4⟩ := HT.out
  exact ⟨ret_str (by simp [HV.out, e1, e2, e4]), HB.out⟩
set_option maxRecDepth 20000 in
theorem rline_5 (i : Ins) (w : World) (h : i.op = 5) (h64 : Num64 i) (_hm : i.nm.size ≤ 1000) : Calls Tryz.prog 37 #[inV i] w fun e w' => e = .returned (.string ⟨(lnL i).toArray⟩) ∧ Below w.heap.size w w' := by
  unfold inV
  generalize i.gs.length = al
  obtain ⟨td, hd1, hd2, hd3⟩ := tx_of (Lib.itoa i.d) 21 (itoa_len h64.d)
  obtain ⟨ta, ha1, ha2, ha3⟩ := tx_of (Lib.itoa i.a) 21 (itoa_len h64.a)
  obtain ⟨tb, hb1, hb2, hb3⟩ := tx_of (Lib.itoa i.b) 21 (itoa_len h64.b)
  obtain ⟨tn, hn1, hn2, hn3⟩ := tx_of (Lib.itoa i.n) 21 (itoa_len h64.n)
  have kd := fun p : Bw (w.alloc (.cells #[.int .i64 5, .int .i64 i.d, .int .i64 i.a, .int .i64 i.b, .int .i64 i.n, .string i.nm, .slice i.ar al i.ac, .int .i64 i.to, .int .i64 i.el] 54)) => Bw.to (num36 i.d p.W h64.d.1 h64.d.2)
  have ka := fun p : Bw (w.alloc (.cells #[.int .i64 5, .int .i64 i.d, .int .i64 i.a, .int .i64 i.b, .int .i64 i.n, .string i.nm, .slice i.ar al i.ac, .int .i64 i.to, .int .i64 i.el] 54)) => Bw.to (num36 i.a p.W h64.a.1 h64.a.2)
  have kb := fun p : Bw (w.alloc (.cells #[.int .i64 5, .int .i64 i.d, .int .i64 i.a, .int .i64 i.b, .int .i64 i.n, .string i.nm, .slice i.ar al i.ac, .int .i64 i.to, .int .i64 i.el] 54)) => Bw.to (num36 i.b p.W h64.b.1 h64.b.2)
  have kn := fun p : Bw (w.alloc (.cells #[.int .i64 5, .int .i64 i.d, .int .i64 i.a, .int .i64 i.b, .int .i64 i.n, .string i.nm, .slice i.ar al i.ac, .int .i64 i.to, .int .i64 i.el] 54)) => Bw.to (num36 i.n p.W h64.n.1 h64.n.2)
  rw [← hd1] at kd
  rw [← ha1] at ka
  rw [← hb1] at kb
  rw [← hn1] at kn
  have HV : Hid (lnL i = 9 :: (([115, 116, 111, 114, 101, 32] ++ (Lib.itoa i.a) ++ [32] ++ (Lib.itoa i.n) ++ [32] ++ (Lib.itoa i.b)) ++ [10])) := by show _ = _; unfold lnL lnS; simp [h]
  have HT : Hid (td.data.toList = Lib.itoa i.d ∧ ta.data.toList = Lib.itoa i.a ∧ tb.data.toList = Lib.itoa i.b ∧ tn.data.toList = Lib.itoa i.n) := ⟨hd3, ha3, hb3, hn3⟩
  generalize lnL i = L at *
  rw [h]
  clear h h64 hd1 hd3 ha1 ha3 hb1 hb3 hn1 hn3
  go_enter Tryz.func37, Tryz.ntmps37
  go_wp2_with fail
  obtain ⟨W, hW⟩ : ∃ W, W = w.alloc (.cells #[.int .i64 5, .int .i64 i.d, .int .i64 i.a, .int .i64 i.b, .int .i64 i.n, .string i.nm, .slice i.ar al i.ac, .int .i64 i.to, .int .i64 i.el] 54) := ⟨_, rfl⟩
  have HBW : Hid (Below w.heap.size w W) := by show Below _ _ _; rw [hW]; exact ((G.refl w).alloc _).below
  have hsz : w.heap.size < W.heap.size := by rw [hW]; simp
  have c1 : W.cell? ⟨w.heap.size, 1, none⟩ = some (.int .i64 i.d) := by rw [hW]; go_simp
  have c2 : W.cell? ⟨w.heap.size, 2, none⟩ = some (.int .i64 i.a) := by rw [hW]; go_simp
  have c3 : W.cell? ⟨w.heap.size, 3, none⟩ = some (.int .i64 i.b) := by rw [hW]; go_simp
  have c4 : W.cell? ⟨w.heap.size, 4, none⟩ = some (.int .i64 i.n) := by rw [hW]; go_simp
  have c0 : W.cell? ⟨w.heap.size, 0, none⟩ = some (.int .i64 5) := by rw [hW]; go_simp
  have c5 : W.cell? ⟨w.heap.size, 5, none⟩ = some (.string i.nm) := by rw [hW]; go_simp
  have c6 : W.cell? ⟨w.heap.size, 6, none⟩ = some (.slice i.ar al i.ac) := by rw [hW]; go_simp
  have c7 : W.cell? ⟨w.heap.size, 7, none⟩ = some (.int .i64 i.to) := by rw [hW]; go_simp
  have c8 : W.cell? ⟨w.heap.size, 8, none⟩ = some (.int .i64 i.el) := by rw [hW]; go_simp
  rw [← hW] at kd ka kb kn ⊢
  clear hW
  have b1 := Bw.cell hsz c1
  have b2 := Bw.cell hsz c2
  have b3 := Bw.cell hsz c3
  have b4 := Bw.cell hsz c4
  have b0 := Bw.cell hsz c0
  have b5 := Bw.cell hsz c5
  have b6 := Bw.cell hsz c6
  have b7 := Bw.cell hsz c7
  have b8 := Bw.cell hsz c8
  have hne := Bw.some W
  refine wp_region_quiet_below (by kernel_rfl) (by exact lex37a) ?_
  repeat (go_big_quiet_step ((first | (go_at_call 36; first | with_reducible exact kd _ | with_reducible exact ka _ | with_reducible exact kb _ | with_reducible exact kn _))))
  refine wpQuiet_nil ?_
  intro wz hwz
  obtain ⟨p, hp⟩ := hwz
  subst hp
  have HB : Hid (Below w.heap.size w p.W) := HBW.out.trans (p.h.mono HBW.out.size)
  have hsz1 : w.heap.size < p.W.heap.size := Nat.lt_of_lt_of_le hsz p.h.size
  replace b0 := b0 p
  replace b1 := b1 p
  replace b2 := b2 p
  replace b3 := b3 p
  replace b4 := b4 p
  replace b5 := b5 p
  replace b6 := b6 p
  replace b7 := b7 p
  replace b8 := b8 p
  clear kd ka kb kn c0 c1 c2 c3 c4 c5 c6 c7 c8 hne hsz HBW
  generalize p.W = V at *
  go_wp2
  go_ret
  obtain ⟨-, e2, e3, e4⟩ := HT.out
  exact ⟨ret_str (by simp [HV.out, e2, e3, e4]), HB.out⟩
set_option maxRecDepth 20000 in
theorem rline_6 (i : Ins) (w : World) (h : i.op = 6) (h64 : Num64 i) (_hm : i.nm.size ≤ 1000) : Calls Tryz.prog 37 #[inV i] w fun e w' => e = .returned (.string ⟨(lnL i).toArray⟩) ∧ Below w.heap.size w w' := by
  unfold inV
  generalize i.gs.length = al
  obtain ⟨td, hd1, hd2, hd3⟩ := tx_of (Lib.itoa i.d) 21 (itoa_len h64.d)
  obtain ⟨ta, ha1, ha2, ha3⟩ := tx_of (Lib.itoa i.a) 21 (itoa_len h64.a)
  obtain ⟨tb, hb1, hb2, hb3⟩ := tx_of (Lib.itoa i.b) 21 (itoa_len h64.b)
  obtain ⟨tn, hn1, hn2, hn3⟩ := tx_of (Lib.itoa i.n) 21 (itoa_len h64.n)
  have kd := fun p : Bw (w.alloc (.cells #[.int .i64 6, .int .i64 i.d, .int .i64 i.a, .int .i64 i.b, .int .i64 i.n, .string i.nm, .slice i.ar al i.ac, .int .i64 i.to, .int .i64 i.el] 54)) => Bw.to (num36 i.d p.W h64.d.1 h64.d.2)
  have ka := fun p : Bw (w.alloc (.cells #[.int .i64 6, .int .i64 i.d, .int .i64 i.a, .int .i64 i.b, .int .i64 i.n, .string i.nm, .slice i.ar al i.ac, .int .i64 i.to, .int .i64 i.el] 54)) => Bw.to (num36 i.a p.W h64.a.1 h64.a.2)
  have kb := fun p : Bw (w.alloc (.cells #[.int .i64 6, .int .i64 i.d, .int .i64 i.a, .int .i64 i.b, .int .i64 i.n, .string i.nm, .slice i.ar al i.ac, .int .i64 i.to, .int .i64 i.el] 54)) => Bw.to (num36 i.b p.W h64.b.1 h64.b.2)
  have kn := fun p : Bw (w.alloc (.cells #[.int .i64 6, .int .i64 i.d, .int .i64 i.a, .int .i64 i.b, .int .i64 i.n, .string i.nm, .slice i.ar al i.ac, .int .i64 i.to, .int .i64 i.el] 54)) => Bw.to (num36 i.n p.W h64.n.1 h64.n.2)
  rw [← hd1] at kd
  rw [← ha1] at ka
  rw [← hb1] at kb
  rw [← hn1] at kn
  have HV : Hid (lnL i = 9 :: (([102, 114, 97, 109, 101, 32] ++ (Lib.itoa i.d) ++ [32] ++ (Lib.itoa i.n)) ++ [10])) := by show _ = _; unfold lnL lnS; simp [h]
  have HT : Hid (td.data.toList = Lib.itoa i.d ∧ ta.data.toList = Lib.itoa i.a ∧ tb.data.toList = Lib.itoa i.b ∧ tn.data.toList = Lib.itoa i.n) := ⟨hd3, ha3, hb3, hn3⟩
  generalize lnL i = L at *
  rw [h]
  clear h h64 hd1 hd3 ha1 ha3 hb1 hb3 hn1 hn3
  go_enter Tryz.func37, Tryz.ntmps37
  go_wp2_with fail
  obtain ⟨W, hW⟩ : ∃ W, W = w.alloc (.cells #[.int .i64 6, .int .i64 i.d, .int .i64 i.a, .int .i64 i.b, .int .i64 i.n, .string i.nm, .slice i.ar al i.ac, .int .i64 i.to, .int .i64 i.el] 54) := ⟨_, rfl⟩
  have HBW : Hid (Below w.heap.size w W) := by show Below _ _ _; rw [hW]; exact ((G.refl w).alloc _).below
  have hsz : w.heap.size < W.heap.size := by rw [hW]; simp
  have c1 : W.cell? ⟨w.heap.size, 1, none⟩ = some (.int .i64 i.d) := by rw [hW]; go_simp
  have c2 : W.cell? ⟨w.heap.size, 2, none⟩ = some (.int .i64 i.a) := by rw [hW]; go_simp
  have c3 : W.cell? ⟨w.heap.size, 3, none⟩ = some (.int .i64 i.b) := by rw [hW]; go_simp
  have c4 : W.cell? ⟨w.heap.size, 4, none⟩ = some (.int .i64 i.n) := by rw [hW]; go_simp
  have c0 : W.cell? ⟨w.heap.size, 0, none⟩ = some (.int .i64 6) := by rw [hW]; go_simp
  have c5 : W.cell? ⟨w.heap.size, 5, none⟩ = some (.string i.nm) := by rw [hW]; go_simp
  have c6 : W.cell? ⟨w.heap.size, 6, none⟩ = some (.slice i.ar al i.ac) := by rw [hW]; go_simp
  have c7 : W.cell? ⟨w.heap.size, 7, none⟩ = some (.int .i64 i.to) := by rw [hW]; go_simp
  have c8 : W.cell? ⟨w.heap.size, 8, none⟩ = some (.int .i64 i.el) := by rw [hW]; go_simp
  rw [← hW] at kd ka kb kn ⊢
  clear hW
  have b1 := Bw.cell hsz c1
  have b2 := Bw.cell hsz c2
  have b3 := Bw.cell hsz c3
  have b4 := Bw.cell hsz c4
  have b0 := Bw.cell hsz c0
  have b5 := Bw.cell hsz c5
  have b6 := Bw.cell hsz c6
  have b7 := Bw.cell hsz c7
  have b8 := Bw.cell hsz c8
  have hne := Bw.some W
  refine wp_region_quiet_below (by kernel_rfl) (by exact lex37a) ?_
  repeat (go_big_quiet_step ((first | (go_at_call 36; first | with_reducible exact kd _ | with_reducible exact ka _ | with_reducible exact kb _ | with_reducible exact kn _))))
  refine wpQuiet_nil ?_
  intro wz hwz
  obtain ⟨p, hp⟩ := hwz
  subst hp
  have HB : Hid (Below w.heap.size w p.W) := HBW.out.trans (p.h.mono HBW.out.size)
  have hsz1 : w.heap.size < p.W.heap.size := Nat.lt_of_lt_of_le hsz p.h.size
  replace b0 := b0 p
  replace b1 := b1 p
  replace b2 := b2 p
  replace b3 := b3 p
  replace b4 := b4 p
  replace b5 := b5 p
  replace b6 := b6 p
  replace b7 := b7 p
  replace b8 := b8 p
  clear kd ka kb kn c0 c1 c2 c3 c4 c5 c6 c7 c8 hne hsz HBW
  generalize p.W = V at *
  go_wp2
  go_ret
  obtain ⟨e1, -, -, e4⟩ := HT.out
  exact ⟨ret_str (by simp [HV.out, e1, e4]), HB.out⟩
set_option maxRecDepth 20000 in
theorem rline_7 (i : Ins) (w : World) (h : i.op = 7) (h64 : Num64 i) (hm : i.nm.size ≤ 1000) (hA : ArA w i.ar i.ac i.gs) (hgl : i.gs.length ≤ 7) : Calls Tryz.prog 37 #[inV i] w fun e w' => e = .returned (.string ⟨(lnL i).toArray⟩) ∧ Below w.heap.size w w' := by
  unfold inV
  have HA : Hid (ArA w i.ar i.ac i.gs) := hA
  have hac := hA.1
  have hac2 := hA.2.1
  obtain ⟨al, hal⟩ : ∃ al, al = i.gs.length := ⟨_, rfl⟩
  have HL : Hid (al = i.gs.length) := hal
  rw [← hal] at hac hgl ⊢
  clear hal hA
  obtain ⟨td, hd1, hd2, hd3⟩ := tx_of (Lib.itoa i.d) 21 (itoa_len h64.d)
  obtain ⟨ta, ha1, ha2, ha3⟩ := tx_of (Lib.itoa i.a) 21 (itoa_len h64.a)
  obtain ⟨tb, hb1, hb2, hb3⟩ := tx_of (Lib.itoa i.b) 21 (itoa_len h64.b)
  obtain ⟨tn, hn1, hn2, hn3⟩ := tx_of (Lib.itoa i.n) 21 (itoa_len h64.n)
  have kd := fun p : Bw (w.alloc (.cells #[.int .i64 7, .int .i64 i.d, .int .i64 i.a, .int .i64 i.b, .int .i64 i.n, .string i.nm, .slice i.ar al i.ac, .int .i64 i.to, .int .i64 i.el] 54)) => Bw.to (num36 i.d p.W h64.d.1 h64.d.2)
  have ka := fun p : Bw (w.alloc (.cells #[.int .i64 7, .int .i64 i.d, .int .i64 i.a, .int .i64 i.b, .int .i64 i.n, .string i.nm, .slice i.ar al i.ac, .int .i64 i.to, .int .i64 i.el] 54)) => Bw.to (num36 i.a p.W h64.a.1 h64.a.2)
  have kb := fun p : Bw (w.alloc (.cells #[.int .i64 7, .int .i64 i.d, .int .i64 i.a, .int .i64 i.b, .int .i64 i.n, .string i.nm, .slice i.ar al i.ac, .int .i64 i.to, .int .i64 i.el] 54)) => Bw.to (num36 i.b p.W h64.b.1 h64.b.2)
  have kn := fun p : Bw (w.alloc (.cells #[.int .i64 7, .int .i64 i.d, .int .i64 i.a, .int .i64 i.b, .int .i64 i.n, .string i.nm, .slice i.ar al i.ac, .int .i64 i.to, .int .i64 i.el] 54)) => Bw.to (num36 i.n p.W h64.n.1 h64.n.2)
  rw [← hd1] at kd
  rw [← ha1] at ka
  rw [← hb1] at kb
  rw [← hn1] at kn
  have HV : Hid (lnL i = 9 :: (([99, 97, 108, 108, 32] ++ (Lib.itoa i.d) ++ [32] ++ i.nm.data.toList ++ i.gs.flatMap (fun y => 32 :: Lib.itoa y)) ++ [10])) := by show _ = _; unfold lnL lnS; simp [h]
  have HK : Hid (∀ y ∈ i.gs, ∃ t : ByteArray, t.size ≤ 21 ∧ t.data.toList = Lib.itoa y ∧ ∀ W, Calls Tryz.prog 36 #[.int .i64 y] W fun e w' => e = .returned (.string t) ∧ Below W.heap.size W w') := fun y hy => by
    obtain ⟨t, h1, h2, h3⟩ := tx_of (Lib.itoa y) 21 (itoa_len (h64.g y hy))
    refine ⟨t, h2, h3, fun W => ?_⟩
    rw [h1]
    exact num36 y W (h64.g y hy).1 (h64.g y hy).2
  have HT : Hid (td.data.toList = Lib.itoa i.d) := hd3
  generalize lnL i = L at *
  rw [h]
  clear h h64 hd1 hd3 ha1 ha3 hb1 hb3 hn1 hn3
  go_enter Tryz.func37, Tryz.ntmps37
  go_wp2_with fail
  obtain ⟨W, hW⟩ : ∃ W, W = w.alloc (.cells #[.int .i64 7, .int .i64 i.d, .int .i64 i.a, .int .i64 i.b, .int .i64 i.n, .string i.nm, .slice i.ar al i.ac, .int .i64 i.to, .int .i64 i.el] 54) := ⟨_, rfl⟩
  have HBW : Hid (Below w.heap.size w W) := by show Below _ _ _; rw [hW]; exact ((G.refl w).alloc _).below
  have hsz : w.heap.size < W.heap.size := by rw [hW]; simp
  have c1 : W.cell? ⟨w.heap.size, 1, none⟩ = some (.int .i64 i.d) := by rw [hW]; go_simp
  have c2 : W.cell? ⟨w.heap.size, 2, none⟩ = some (.int .i64 i.a) := by rw [hW]; go_simp
  have c3 : W.cell? ⟨w.heap.size, 3, none⟩ = some (.int .i64 i.b) := by rw [hW]; go_simp
  have c4 : W.cell? ⟨w.heap.size, 4, none⟩ = some (.int .i64 i.n) := by rw [hW]; go_simp
  have c0 : W.cell? ⟨w.heap.size, 0, none⟩ = some (.int .i64 7) := by rw [hW]; go_simp
  have c5 : W.cell? ⟨w.heap.size, 5, none⟩ = some (.string i.nm) := by rw [hW]; go_simp
  have c6 : W.cell? ⟨w.heap.size, 6, none⟩ = some (.slice i.ar al i.ac) := by rw [hW]; go_simp
  have c7 : W.cell? ⟨w.heap.size, 7, none⟩ = some (.int .i64 i.to) := by rw [hW]; go_simp
  have c8 : W.cell? ⟨w.heap.size, 8, none⟩ = some (.int .i64 i.el) := by rw [hW]; go_simp
  rw [← hW] at kd ka kb kn ⊢
  clear hW
  have b1 := Bw.cell hsz c1
  have b2 := Bw.cell hsz c2
  have b3 := Bw.cell hsz c3
  have b4 := Bw.cell hsz c4
  have b0 := Bw.cell hsz c0
  have b5 := Bw.cell hsz c5
  have b6 := Bw.cell hsz c6
  have b7 := Bw.cell hsz c7
  have b8 := Bw.cell hsz c8
  have hne := Bw.some W
  refine wp_region_quiet_below (by kernel_rfl) (by exact lex37a) ?_
  repeat (go_big_quiet_step ((first | (go_at_call 36; first | with_reducible exact kd _ | with_reducible exact ka _ | with_reducible exact kb _ | with_reducible exact kn _))))
  refine wpQuiet_nil ?_
  intro wz hwz
  obtain ⟨p, hp⟩ := hwz
  subst hp
  have HB : Hid (Below w.heap.size w p.W) := HBW.out.trans (p.h.mono HBW.out.size)
  have hsz1 : w.heap.size < p.W.heap.size := Nat.lt_of_lt_of_le hsz p.h.size
  replace b0 := b0 p
  replace b1 := b1 p
  replace b2 := b2 p
  replace b3 := b3 p
  replace b4 := b4 p
  replace b5 := b5 p
  replace b6 := b6 p
  replace b7 := b7 p
  replace b8 := b8 p
  clear kd ka kb kn c0 c1 c2 c3 c4 c5 c6 c7 c8 hne hsz HBW
  generalize p.W = V at *
  have HC6 : Hid (V.cell? ⟨w.heap.size, 6, none⟩ = some (.slice i.ar al i.ac)) := b6
  go_wp2
  go_loopw [7, 8] (fun sv kv wx => ∃ (j : Nat) (t : ByteArray), j ≤ al ∧ kv = .int .i64 j ∧ sv = .string t ∧ Below V.heap.size V wx ∧ t.data.toList = [99, 97, 108, 108, 32] ++ (Lib.itoa i.d) ++ [32] ++ i.nm.data.toList ++ (i.gs.take j).flatMap (fun y => 32 :: Lib.itoa y) ∧ t.size ≤ 1100 + 22 * j) (fun _ kv _ => al - (intOf kv).toNat)
  case atStart => exact ⟨0, _, Nat.zero_le _, rfl, rfl, Below.refl _ _, by simp [HT.out], by simp; have z1 : (⟨#[32]⟩ : ByteArray).size = 1 := rfl; have z2 : (⟨#[99, 97, 108, 108, 32]⟩ : ByteArray).size = 5 := rfl; omega⟩
  case round =>
    obtain ⟨j, t, hj, rfl, rfl, hb, htx, hts⟩ := hrel
    have HB3 : Hid (Below V.heap.size V wr) := hb
    have HTX : Hid (t.data.toList = [99, 97, 108, 108, 32] ++ (Lib.itoa i.d) ++ [32] ++ i.nm.data.toList ++ (i.gs.take j).flatMap (fun y => 32 :: Lib.itoa y)) := htx
    have hsz2 : w.heap.size < wr.heap.size := Nat.lt_of_lt_of_le hsz1 hb.size
    clear htx b0 b1 b2 b3 b4 b5 b6 b7 b8
    have b6 := ((bcell hb).1 _ 6 hsz1).trans HC6.out
    clear hb
    by_cases hlt : j < al
    · obtain ⟨y, hy⟩ : ∃ y, i.gs[j]? = some y := ⟨_, List.getElem?_eq_getElem (by have := HL.out; omega)⟩
      obtain ⟨g, oo, hao, hcc⟩ := (HA.out.below (HB.out.trans (HB3.out.mono HB.out.size))).2.2 (by have := HL.out; omega)
      have d0 := hcc j y hy
      obtain ⟨ty, hy1, hy2, hy3⟩ := HK.out y (List.mem_of_getElem? hy)
      have HY : Hid ((i.gs.take (j + 1)).flatMap (fun y => 32 :: Lib.itoa y) = (i.gs.take j).flatMap (fun y => 32 :: Lib.itoa y) ++ 32 :: Lib.itoa y ∧ ty.data.toList = Lib.itoa y) := by
        refine ⟨?_, hy2⟩
        rw [List.take_add_one, hy]
        simp
      have HC : Hid (∀ W, Calls Tryz.prog 36 #[.int .i64 y] W fun e w' => e = .returned (.string ty) ∧ Below W.heap.size W w') := hy3
      rw [hao] at b6
      clear hcc hy hao hy2 hy3
      go_wp2_with fail
      refine (HC.out _).mono ?_
      rintro e w1 ⟨rfl, hb1⟩
      have HB4 : Hid (Below V.heap.size V w1) := HB3.out.trans (hb1.mono HB3.out.size)
      clear hb1
      go_wp2
      refine ⟨?_, ?_⟩
      · exact ⟨j + 1, _, by omega, by go_num, rfl, HB4.out, by simp [HTX.out, HY.out.1, HY.out.2], by simp; have z1 : (⟨#[32]⟩ : ByteArray).size = 1 := rfl; omega⟩
      · simp [intOf]; omega
    · obtain rfl : j = al := by omega
      have HE : Hid (L = 9 :: (t.data.toList ++ [10])) := by
        show _ = _
        rw [HV.out, HTX.out, List.take_of_length_le (by have := HL.out; omega)]
      have HBz : Hid (Below w.heap.size w wr) := HB.out.trans (HB3.out.mono HB.out.size)
      go_wp2
      go_ret
      exact ⟨ret_str (by simp [HE.out]), HBz.out⟩
set_option maxRecDepth 20000 in
theorem rline_8 (i : Ins) (w : World) (h : i.op = 8) (h64 : Num64 i) (_hm : i.nm.size ≤ 1000) : Calls Tryz.prog 37 #[inV i] w fun e w' => e = .returned (.string ⟨(lnL i).toArray⟩) ∧ Below w.heap.size w w' := by
  unfold inV
  generalize i.gs.length = al
  obtain ⟨td, hd1, hd2, hd3⟩ := tx_of (Lib.itoa i.d) 21 (itoa_len h64.d)
  obtain ⟨ta, ha1, ha2, ha3⟩ := tx_of (Lib.itoa i.a) 21 (itoa_len h64.a)
  obtain ⟨tb, hb1, hb2, hb3⟩ := tx_of (Lib.itoa i.b) 21 (itoa_len h64.b)
  obtain ⟨tn, hn1, hn2, hn3⟩ := tx_of (Lib.itoa i.n) 21 (itoa_len h64.n)
  have kd := fun p : Bw (w.alloc (.cells #[.int .i64 8, .int .i64 i.d, .int .i64 i.a, .int .i64 i.b, .int .i64 i.n, .string i.nm, .slice i.ar al i.ac, .int .i64 i.to, .int .i64 i.el] 54)) => Bw.to (num36 i.d p.W h64.d.1 h64.d.2)
  have ka := fun p : Bw (w.alloc (.cells #[.int .i64 8, .int .i64 i.d, .int .i64 i.a, .int .i64 i.b, .int .i64 i.n, .string i.nm, .slice i.ar al i.ac, .int .i64 i.to, .int .i64 i.el] 54)) => Bw.to (num36 i.a p.W h64.a.1 h64.a.2)
  have kb := fun p : Bw (w.alloc (.cells #[.int .i64 8, .int .i64 i.d, .int .i64 i.a, .int .i64 i.b, .int .i64 i.n, .string i.nm, .slice i.ar al i.ac, .int .i64 i.to, .int .i64 i.el] 54)) => Bw.to (num36 i.b p.W h64.b.1 h64.b.2)
  have kn := fun p : Bw (w.alloc (.cells #[.int .i64 8, .int .i64 i.d, .int .i64 i.a, .int .i64 i.b, .int .i64 i.n, .string i.nm, .slice i.ar al i.ac, .int .i64 i.to, .int .i64 i.el] 54)) => Bw.to (num36 i.n p.W h64.n.1 h64.n.2)
  rw [← hd1] at kd
  rw [← ha1] at ka
  rw [← hb1] at kb
  rw [← hn1] at kn
  have HV : Hid (lnL i = 9 :: (([106, 117, 109, 112, 32] ++ (Lib.itoa i.to)) ++ [10])) := by show _ = _; unfold lnL lnS; simp [h]
  obtain ⟨tt, ht1, ht2, ht3⟩ := tx_of (Lib.itoa i.to) 21 (itoa_len h64.t)
  have HK : Hid (∀ W, Calls Tryz.prog 36 #[.int .i64 i.to] W fun e w' => e = .returned (.string tt) ∧ Below W.heap.size W w') := fun W => by
    rw [ht1]
    exact num36 i.to W h64.t.1 h64.t.2
  have HT : Hid (tt.data.toList = Lib.itoa i.to) := ht3
  generalize lnL i = L at *
  rw [h]
  clear h h64 hd1 hd3 ha1 ha3 hb1 hb3 hn1 hn3 ht1 ht3
  go_enter Tryz.func37, Tryz.ntmps37
  go_wp2_with fail
  obtain ⟨W, hW⟩ : ∃ W, W = w.alloc (.cells #[.int .i64 8, .int .i64 i.d, .int .i64 i.a, .int .i64 i.b, .int .i64 i.n, .string i.nm, .slice i.ar al i.ac, .int .i64 i.to, .int .i64 i.el] 54) := ⟨_, rfl⟩
  have HBW : Hid (Below w.heap.size w W) := by show Below _ _ _; rw [hW]; exact ((G.refl w).alloc _).below
  have hsz : w.heap.size < W.heap.size := by rw [hW]; simp
  have c1 : W.cell? ⟨w.heap.size, 1, none⟩ = some (.int .i64 i.d) := by rw [hW]; go_simp
  have c2 : W.cell? ⟨w.heap.size, 2, none⟩ = some (.int .i64 i.a) := by rw [hW]; go_simp
  have c3 : W.cell? ⟨w.heap.size, 3, none⟩ = some (.int .i64 i.b) := by rw [hW]; go_simp
  have c4 : W.cell? ⟨w.heap.size, 4, none⟩ = some (.int .i64 i.n) := by rw [hW]; go_simp
  have c0 : W.cell? ⟨w.heap.size, 0, none⟩ = some (.int .i64 8) := by rw [hW]; go_simp
  have c5 : W.cell? ⟨w.heap.size, 5, none⟩ = some (.string i.nm) := by rw [hW]; go_simp
  have c6 : W.cell? ⟨w.heap.size, 6, none⟩ = some (.slice i.ar al i.ac) := by rw [hW]; go_simp
  have c7 : W.cell? ⟨w.heap.size, 7, none⟩ = some (.int .i64 i.to) := by rw [hW]; go_simp
  have c8 : W.cell? ⟨w.heap.size, 8, none⟩ = some (.int .i64 i.el) := by rw [hW]; go_simp
  rw [← hW] at kd ka kb kn ⊢
  clear hW
  have b1 := Bw.cell hsz c1
  have b2 := Bw.cell hsz c2
  have b3 := Bw.cell hsz c3
  have b4 := Bw.cell hsz c4
  have b0 := Bw.cell hsz c0
  have b5 := Bw.cell hsz c5
  have b6 := Bw.cell hsz c6
  have b7 := Bw.cell hsz c7
  have b8 := Bw.cell hsz c8
  have hne := Bw.some W
  refine wp_region_quiet_below (by kernel_rfl) (by exact lex37a) ?_
  repeat (go_big_quiet_step ((first | (go_at_call 36; first | with_reducible exact kd _ | with_reducible exact ka _ | with_reducible exact kb _ | with_reducible exact kn _))))
  refine wpQuiet_nil ?_
  intro wz hwz
  obtain ⟨p, hp⟩ := hwz
  subst hp
  have HB : Hid (Below w.heap.size w p.W) := HBW.out.trans (p.h.mono HBW.out.size)
  have hsz1 : w.heap.size < p.W.heap.size := Nat.lt_of_lt_of_le hsz p.h.size
  replace b0 := b0 p
  replace b1 := b1 p
  replace b2 := b2 p
  replace b3 := b3 p
  replace b4 := b4 p
  replace b5 := b5 p
  replace b6 := b6 p
  replace b7 := b7 p
  replace b8 := b8 p
  clear kd ka kb kn c0 c1 c2 c3 c4 c5 c6 c7 c8 hne hsz HBW
  generalize p.W = V at *
  go_wp2_with fail
  refine (HK.out _).mono ?_
  rintro e w1 ⟨rfl, hb1⟩
  have HB1 : Hid (Below w.heap.size w w1) := HB.out.trans (hb1.mono HB.out.size)
  clear hb1
  go_wp2
  go_ret
  exact ⟨ret_str (by simp [HV.out, HT.out]), HB1.out⟩
theorem lex37b : Region.lexB .any (opsOf (Tryz.f37.body.getD .skip) 25).toArray = true := by kernel_rfl
set_option maxRecDepth 20000 in
theorem rline_9 (i : Ins) (w : World) (h : i.op = 9) (h64 : Num64 i) (_hm : i.nm.size ≤ 1000) : Calls Tryz.prog 37 #[inV i] w fun e w' => e = .returned (.string ⟨(lnL i).toArray⟩) ∧ Below w.heap.size w w' := by
  unfold inV
  generalize i.gs.length = al
  obtain ⟨td, hd1, hd2, hd3⟩ := tx_of (Lib.itoa i.d) 21 (itoa_len h64.d)
  obtain ⟨ta, ha1, ha2, ha3⟩ := tx_of (Lib.itoa i.a) 21 (itoa_len h64.a)
  obtain ⟨tb, hb1, hb2, hb3⟩ := tx_of (Lib.itoa i.b) 21 (itoa_len h64.b)
  obtain ⟨tn, hn1, hn2, hn3⟩ := tx_of (Lib.itoa i.n) 21 (itoa_len h64.n)
  have kd := fun p : Bw (w.alloc (.cells #[.int .i64 9, .int .i64 i.d, .int .i64 i.a, .int .i64 i.b, .int .i64 i.n, .string i.nm, .slice i.ar al i.ac, .int .i64 i.to, .int .i64 i.el] 54)) => Bw.to (num36 i.d p.W h64.d.1 h64.d.2)
  have ka := fun p : Bw (w.alloc (.cells #[.int .i64 9, .int .i64 i.d, .int .i64 i.a, .int .i64 i.b, .int .i64 i.n, .string i.nm, .slice i.ar al i.ac, .int .i64 i.to, .int .i64 i.el] 54)) => Bw.to (num36 i.a p.W h64.a.1 h64.a.2)
  have kb := fun p : Bw (w.alloc (.cells #[.int .i64 9, .int .i64 i.d, .int .i64 i.a, .int .i64 i.b, .int .i64 i.n, .string i.nm, .slice i.ar al i.ac, .int .i64 i.to, .int .i64 i.el] 54)) => Bw.to (num36 i.b p.W h64.b.1 h64.b.2)
  have kn := fun p : Bw (w.alloc (.cells #[.int .i64 9, .int .i64 i.d, .int .i64 i.a, .int .i64 i.b, .int .i64 i.n, .string i.nm, .slice i.ar al i.ac, .int .i64 i.to, .int .i64 i.el] 54)) => Bw.to (num36 i.n p.W h64.n.1 h64.n.2)
  rw [← hd1] at kd
  rw [← ha1] at ka
  rw [← hb1] at kb
  rw [← hn1] at kn
  have HV : Hid (lnL i = 9 :: (([105, 102, 32] ++ (Lib.itoa i.a) ++ [32] ++ (Lib.itoa i.to) ++ [32] ++ (Lib.itoa i.el)) ++ [10])) := by show _ = _; unfold lnL lnS; simp [h]
  obtain ⟨tt, ht1, ht2, ht3⟩ := tx_of (Lib.itoa i.to) 21 (itoa_len h64.t)
  obtain ⟨te, he1, he2, he3⟩ := tx_of (Lib.itoa i.el) 21 (itoa_len h64.e)
  have HKt : Hid (∀ W, Calls Tryz.prog 36 #[.int .i64 i.to] W fun e w' => e = .returned (.string tt) ∧ Below W.heap.size W w') := fun W => by
    rw [ht1]
    exact num36 i.to W h64.t.1 h64.t.2
  have HKe : Hid (∀ W, Calls Tryz.prog 36 #[.int .i64 i.el] W fun e w' => e = .returned (.string te) ∧ Below W.heap.size W w') := fun W => by
    rw [he1]
    exact num36 i.el W h64.e.1 h64.e.2
  have HT : Hid (ta.data.toList = Lib.itoa i.a ∧ tt.data.toList = Lib.itoa i.to ∧ te.data.toList = Lib.itoa i.el) := ⟨ha3, ht3, he3⟩
  generalize lnL i = L at *
  rw [h]
  clear h h64 hd1 hd3 ha1 ha3 hb1 hb3 hn1 hn3 ht1 ht3 he1 he3
  go_enter Tryz.func37, Tryz.ntmps37
  go_wp2_with fail
  obtain ⟨W, hW⟩ : ∃ W, W = w.alloc (.cells #[.int .i64 9, .int .i64 i.d, .int .i64 i.a, .int .i64 i.b, .int .i64 i.n, .string i.nm, .slice i.ar al i.ac, .int .i64 i.to, .int .i64 i.el] 54) := ⟨_, rfl⟩
  have HBW : Hid (Below w.heap.size w W) := by show Below _ _ _; rw [hW]; exact ((G.refl w).alloc _).below
  have hsz : w.heap.size < W.heap.size := by rw [hW]; simp
  have c1 : W.cell? ⟨w.heap.size, 1, none⟩ = some (.int .i64 i.d) := by rw [hW]; go_simp
  have c2 : W.cell? ⟨w.heap.size, 2, none⟩ = some (.int .i64 i.a) := by rw [hW]; go_simp
  have c3 : W.cell? ⟨w.heap.size, 3, none⟩ = some (.int .i64 i.b) := by rw [hW]; go_simp
  have c4 : W.cell? ⟨w.heap.size, 4, none⟩ = some (.int .i64 i.n) := by rw [hW]; go_simp
  have c0 : W.cell? ⟨w.heap.size, 0, none⟩ = some (.int .i64 9) := by rw [hW]; go_simp
  have c5 : W.cell? ⟨w.heap.size, 5, none⟩ = some (.string i.nm) := by rw [hW]; go_simp
  have c6 : W.cell? ⟨w.heap.size, 6, none⟩ = some (.slice i.ar al i.ac) := by rw [hW]; go_simp
  have c7 : W.cell? ⟨w.heap.size, 7, none⟩ = some (.int .i64 i.to) := by rw [hW]; go_simp
  have c8 : W.cell? ⟨w.heap.size, 8, none⟩ = some (.int .i64 i.el) := by rw [hW]; go_simp
  rw [← hW] at kd ka kb kn ⊢
  clear hW
  have b1 := Bw.cell hsz c1
  have b2 := Bw.cell hsz c2
  have b3 := Bw.cell hsz c3
  have b4 := Bw.cell hsz c4
  have b0 := Bw.cell hsz c0
  have b5 := Bw.cell hsz c5
  have b6 := Bw.cell hsz c6
  have b7 := Bw.cell hsz c7
  have b8 := Bw.cell hsz c8
  have hne := Bw.some W
  refine wp_region_quiet_below (by kernel_rfl) (by exact lex37a) ?_
  repeat (go_big_quiet_step ((first | (go_at_call 36; first | with_reducible exact kd _ | with_reducible exact ka _ | with_reducible exact kb _ | with_reducible exact kn _))))
  refine wpQuiet_nil ?_
  intro wz hwz
  obtain ⟨p, hp⟩ := hwz
  subst hp
  have HB : Hid (Below w.heap.size w p.W) := HBW.out.trans (p.h.mono HBW.out.size)
  have hsz1 : w.heap.size < p.W.heap.size := Nat.lt_of_lt_of_le hsz p.h.size
  replace b0 := b0 p
  replace b1 := b1 p
  replace b2 := b2 p
  replace b3 := b3 p
  replace b4 := b4 p
  replace b5 := b5 p
  replace b6 := b6 p
  replace b7 := b7 p
  replace b8 := b8 p
  clear kd ka kb kn c0 c1 c2 c3 c4 c5 c6 c7 c8 hne hsz HBW
  generalize p.W = V at *
  go_wp2_with fail
  have kt := fun q : Bw V => Bw.to (HKt.out q.W)
  have ke := fun q : Bw V => Bw.to (HKe.out q.W)
  replace b7 := Bw.cell hsz1 b7
  replace b8 := Bw.cell hsz1 b8
  have hne := Bw.some V
  refine wp_region_quiet_below (by kernel_rfl) (by exact lex37b) ?_
  repeat (go_big_quiet_step ((first | (go_at_call 36; first | with_reducible exact kt _ | with_reducible exact ke _))))
  refine wpQuiet_nil ?_
  intro wz hwz
  obtain ⟨q, hq⟩ := hwz
  subst hq
  have HB1 : Hid (Below w.heap.size w q.W) := HB.out.trans (q.h.mono HB.out.size)
  go_wp2
  go_ret
  obtain ⟨e1, e2, e3⟩ := HT.out
  exact ⟨ret_str (by simp [HV.out, e1, e2, e3]), HB1.out⟩
set_option maxRecDepth 20000 in
theorem rline_10 (i : Ins) (w : World) (h : i.op = 10) (h64 : Num64 i) (_hm : i.nm.size ≤ 1000) : Calls Tryz.prog 37 #[inV i] w fun e w' => e = .returned (.string ⟨(lnL i).toArray⟩) ∧ Below w.heap.size w w' := by
  unfold inV
  generalize i.gs.length = al
  obtain ⟨td, hd1, hd2, hd3⟩ := tx_of (Lib.itoa i.d) 21 (itoa_len h64.d)
  obtain ⟨ta, ha1, ha2, ha3⟩ := tx_of (Lib.itoa i.a) 21 (itoa_len h64.a)
  obtain ⟨tb, hb1, hb2, hb3⟩ := tx_of (Lib.itoa i.b) 21 (itoa_len h64.b)
  obtain ⟨tn, hn1, hn2, hn3⟩ := tx_of (Lib.itoa i.n) 21 (itoa_len h64.n)
  have kd := fun p : Bw (w.alloc (.cells #[.int .i64 10, .int .i64 i.d, .int .i64 i.a, .int .i64 i.b, .int .i64 i.n, .string i.nm, .slice i.ar al i.ac, .int .i64 i.to, .int .i64 i.el] 54)) => Bw.to (num36 i.d p.W h64.d.1 h64.d.2)
  have ka := fun p : Bw (w.alloc (.cells #[.int .i64 10, .int .i64 i.d, .int .i64 i.a, .int .i64 i.b, .int .i64 i.n, .string i.nm, .slice i.ar al i.ac, .int .i64 i.to, .int .i64 i.el] 54)) => Bw.to (num36 i.a p.W h64.a.1 h64.a.2)
  have kb := fun p : Bw (w.alloc (.cells #[.int .i64 10, .int .i64 i.d, .int .i64 i.a, .int .i64 i.b, .int .i64 i.n, .string i.nm, .slice i.ar al i.ac, .int .i64 i.to, .int .i64 i.el] 54)) => Bw.to (num36 i.b p.W h64.b.1 h64.b.2)
  have kn := fun p : Bw (w.alloc (.cells #[.int .i64 10, .int .i64 i.d, .int .i64 i.a, .int .i64 i.b, .int .i64 i.n, .string i.nm, .slice i.ar al i.ac, .int .i64 i.to, .int .i64 i.el] 54)) => Bw.to (num36 i.n p.W h64.n.1 h64.n.2)
  rw [← hd1] at kd
  rw [← ha1] at ka
  rw [← hb1] at kb
  rw [← hn1] at kn
  have HV : Hid (lnL i = 9 :: (([114, 101, 116, 32] ++ (Lib.itoa i.a)) ++ [10])) := by show _ = _; unfold lnL lnS; simp [h]
  have HT : Hid (td.data.toList = Lib.itoa i.d ∧ ta.data.toList = Lib.itoa i.a ∧ tb.data.toList = Lib.itoa i.b ∧ tn.data.toList = Lib.itoa i.n) := ⟨hd3, ha3, hb3, hn3⟩
  generalize lnL i = L at *
  rw [h]
  clear h h64 hd1 hd3 ha1 ha3 hb1 hb3 hn1 hn3
  go_enter Tryz.func37, Tryz.ntmps37
  go_wp2_with fail
  obtain ⟨W, hW⟩ : ∃ W, W = w.alloc (.cells #[.int .i64 10, .int .i64 i.d, .int .i64 i.a, .int .i64 i.b, .int .i64 i.n, .string i.nm, .slice i.ar al i.ac, .int .i64 i.to, .int .i64 i.el] 54) := ⟨_, rfl⟩
  have HBW : Hid (Below w.heap.size w W) := by show Below _ _ _; rw [hW]; exact ((G.refl w).alloc _).below
  have hsz : w.heap.size < W.heap.size := by rw [hW]; simp
  have c1 : W.cell? ⟨w.heap.size, 1, none⟩ = some (.int .i64 i.d) := by rw [hW]; go_simp
  have c2 : W.cell? ⟨w.heap.size, 2, none⟩ = some (.int .i64 i.a) := by rw [hW]; go_simp
  have c3 : W.cell? ⟨w.heap.size, 3, none⟩ = some (.int .i64 i.b) := by rw [hW]; go_simp
  have c4 : W.cell? ⟨w.heap.size, 4, none⟩ = some (.int .i64 i.n) := by rw [hW]; go_simp
  have c0 : W.cell? ⟨w.heap.size, 0, none⟩ = some (.int .i64 10) := by rw [hW]; go_simp
  have c5 : W.cell? ⟨w.heap.size, 5, none⟩ = some (.string i.nm) := by rw [hW]; go_simp
  have c6 : W.cell? ⟨w.heap.size, 6, none⟩ = some (.slice i.ar al i.ac) := by rw [hW]; go_simp
  have c7 : W.cell? ⟨w.heap.size, 7, none⟩ = some (.int .i64 i.to) := by rw [hW]; go_simp
  have c8 : W.cell? ⟨w.heap.size, 8, none⟩ = some (.int .i64 i.el) := by rw [hW]; go_simp
  rw [← hW] at kd ka kb kn ⊢
  clear hW
  have b1 := Bw.cell hsz c1
  have b2 := Bw.cell hsz c2
  have b3 := Bw.cell hsz c3
  have b4 := Bw.cell hsz c4
  have b0 := Bw.cell hsz c0
  have b5 := Bw.cell hsz c5
  have b6 := Bw.cell hsz c6
  have b7 := Bw.cell hsz c7
  have b8 := Bw.cell hsz c8
  have hne := Bw.some W
  refine wp_region_quiet_below (by kernel_rfl) (by exact lex37a) ?_
  repeat (go_big_quiet_step ((first | (go_at_call 36; first | with_reducible exact kd _ | with_reducible exact ka _ | with_reducible exact kb _ | with_reducible exact kn _))))
  refine wpQuiet_nil ?_
  intro wz hwz
  obtain ⟨p, hp⟩ := hwz
  subst hp
  have HB : Hid (Below w.heap.size w p.W) := HBW.out.trans (p.h.mono HBW.out.size)
  have hsz1 : w.heap.size < p.W.heap.size := Nat.lt_of_lt_of_le hsz p.h.size
  replace b0 := b0 p
  replace b1 := b1 p
  replace b2 := b2 p
  replace b3 := b3 p
  replace b4 := b4 p
  replace b5 := b5 p
  replace b6 := b6 p
  replace b7 := b7 p
  replace b8 := b8 p
  clear kd ka kb kn c0 c1 c2 c3 c4 c5 c6 c7 c8 hne hsz HBW
  generalize p.W = V at *
  go_wp2
  go_ret
  obtain ⟨-, e2, -, -⟩ := HT.out
  exact ⟨ret_str (by simp [HV.out, e2]), HB.out⟩
set_option maxRecDepth 20000 in
theorem rline_11 (i : Ins) (w : World) (h : i.op = 11) (h64 : Num64 i) (_hm : i.nm.size ≤ 1000) : Calls Tryz.prog 37 #[inV i] w fun e w' => e = .returned (.string ⟨(lnL i).toArray⟩) ∧ Below w.heap.size w w' := by
  unfold inV
  generalize i.gs.length = al
  obtain ⟨td, hd1, hd2, hd3⟩ := tx_of (Lib.itoa i.d) 21 (itoa_len h64.d)
  obtain ⟨ta, ha1, ha2, ha3⟩ := tx_of (Lib.itoa i.a) 21 (itoa_len h64.a)
  obtain ⟨tb, hb1, hb2, hb3⟩ := tx_of (Lib.itoa i.b) 21 (itoa_len h64.b)
  obtain ⟨tn, hn1, hn2, hn3⟩ := tx_of (Lib.itoa i.n) 21 (itoa_len h64.n)
  have kd := fun p : Bw (w.alloc (.cells #[.int .i64 11, .int .i64 i.d, .int .i64 i.a, .int .i64 i.b, .int .i64 i.n, .string i.nm, .slice i.ar al i.ac, .int .i64 i.to, .int .i64 i.el] 54)) => Bw.to (num36 i.d p.W h64.d.1 h64.d.2)
  have ka := fun p : Bw (w.alloc (.cells #[.int .i64 11, .int .i64 i.d, .int .i64 i.a, .int .i64 i.b, .int .i64 i.n, .string i.nm, .slice i.ar al i.ac, .int .i64 i.to, .int .i64 i.el] 54)) => Bw.to (num36 i.a p.W h64.a.1 h64.a.2)
  have kb := fun p : Bw (w.alloc (.cells #[.int .i64 11, .int .i64 i.d, .int .i64 i.a, .int .i64 i.b, .int .i64 i.n, .string i.nm, .slice i.ar al i.ac, .int .i64 i.to, .int .i64 i.el] 54)) => Bw.to (num36 i.b p.W h64.b.1 h64.b.2)
  have kn := fun p : Bw (w.alloc (.cells #[.int .i64 11, .int .i64 i.d, .int .i64 i.a, .int .i64 i.b, .int .i64 i.n, .string i.nm, .slice i.ar al i.ac, .int .i64 i.to, .int .i64 i.el] 54)) => Bw.to (num36 i.n p.W h64.n.1 h64.n.2)
  rw [← hd1] at kd
  rw [← ha1] at ka
  rw [← hb1] at kb
  rw [← hn1] at kn
  have HV : Hid (lnL i = 9 :: (([116, 114, 97, 112, 32] ++ (Lib.itoa i.n)) ++ [10])) := by show _ = _; unfold lnL lnS; simp [h]
  have HT : Hid (td.data.toList = Lib.itoa i.d ∧ ta.data.toList = Lib.itoa i.a ∧ tb.data.toList = Lib.itoa i.b ∧ tn.data.toList = Lib.itoa i.n) := ⟨hd3, ha3, hb3, hn3⟩
  generalize lnL i = L at *
  rw [h]
  clear h h64 hd1 hd3 ha1 ha3 hb1 hb3 hn1 hn3
  go_enter Tryz.func37, Tryz.ntmps37
  go_wp2_with fail
  obtain ⟨W, hW⟩ : ∃ W, W = w.alloc (.cells #[.int .i64 11, .int .i64 i.d, .int .i64 i.a, .int .i64 i.b, .int .i64 i.n, .string i.nm, .slice i.ar al i.ac, .int .i64 i.to, .int .i64 i.el] 54) := ⟨_, rfl⟩
  have HBW : Hid (Below w.heap.size w W) := by show Below _ _ _; rw [hW]; exact ((G.refl w).alloc _).below
  have hsz : w.heap.size < W.heap.size := by rw [hW]; simp
  have c1 : W.cell? ⟨w.heap.size, 1, none⟩ = some (.int .i64 i.d) := by rw [hW]; go_simp
  have c2 : W.cell? ⟨w.heap.size, 2, none⟩ = some (.int .i64 i.a) := by rw [hW]; go_simp
  have c3 : W.cell? ⟨w.heap.size, 3, none⟩ = some (.int .i64 i.b) := by rw [hW]; go_simp
  have c4 : W.cell? ⟨w.heap.size, 4, none⟩ = some (.int .i64 i.n) := by rw [hW]; go_simp
  have c0 : W.cell? ⟨w.heap.size, 0, none⟩ = some (.int .i64 11) := by rw [hW]; go_simp
  have c5 : W.cell? ⟨w.heap.size, 5, none⟩ = some (.string i.nm) := by rw [hW]; go_simp
  have c6 : W.cell? ⟨w.heap.size, 6, none⟩ = some (.slice i.ar al i.ac) := by rw [hW]; go_simp
  have c7 : W.cell? ⟨w.heap.size, 7, none⟩ = some (.int .i64 i.to) := by rw [hW]; go_simp
  have c8 : W.cell? ⟨w.heap.size, 8, none⟩ = some (.int .i64 i.el) := by rw [hW]; go_simp
  rw [← hW] at kd ka kb kn ⊢
  clear hW
  have b1 := Bw.cell hsz c1
  have b2 := Bw.cell hsz c2
  have b3 := Bw.cell hsz c3
  have b4 := Bw.cell hsz c4
  have b0 := Bw.cell hsz c0
  have b5 := Bw.cell hsz c5
  have b6 := Bw.cell hsz c6
  have b7 := Bw.cell hsz c7
  have b8 := Bw.cell hsz c8
  have hne := Bw.some W
  refine wp_region_quiet_below (by kernel_rfl) (by exact lex37a) ?_
  repeat (go_big_quiet_step ((first | (go_at_call 36; first | with_reducible exact kd _ | with_reducible exact ka _ | with_reducible exact kb _ | with_reducible exact kn _))))
  refine wpQuiet_nil ?_
  intro wz hwz
  obtain ⟨p, hp⟩ := hwz
  subst hp
  have HB : Hid (Below w.heap.size w p.W) := HBW.out.trans (p.h.mono HBW.out.size)
  have hsz1 : w.heap.size < p.W.heap.size := Nat.lt_of_lt_of_le hsz p.h.size
  replace b0 := b0 p
  replace b1 := b1 p
  replace b2 := b2 p
  replace b3 := b3 p
  replace b4 := b4 p
  replace b5 := b5 p
  replace b6 := b6 p
  replace b7 := b7 p
  replace b8 := b8 p
  clear kd ka kb kn c0 c1 c2 c3 c4 c5 c6 c7 c8 hne hsz HBW
  generalize p.W = V at *
  go_wp2
  go_ret
  obtain ⟨-, -, -, e4⟩ := HT.out
  exact ⟨ret_str (by simp [HV.out, e4]), HB.out⟩
end Go.Proofs.YtdppoblbenbafaaGreatDoor
