/- Two lists of tokens, held against each other; the law of tokens. -/
import Derived.Test.YtgdbfedagdlgkaaDoorJ1
import Derived.Laws.StructEq
namespace Go.Proofs.YtgdbfedagdlgkaaDoor
open Go.RowKit Go.Shelf
def tkF : List Field := [⟨"Kind", 3, 0, false, "", "", 0⟩, ⟨"Text", 9, 1, false, "", "", 8⟩, ⟨"Num", 2, 2, false, "", "", 24⟩, ⟨"From", 3, 3, false, "", "", 32⟩, ⟨"To", 3, 4, false, "", "", 40⟩]
theorem tkF_eq : (Tryd.prog.fieldsOf 42).toList = tkF := by kernel_rfl
theorem st42 : Tryd.prog.underlying 42 = some (.struct (Tryd.prog.fieldsOf 42)) := by kernel_rfl
theorem sh42 : Tryd.prog.stoodInHeld 42 = false := by kernel_rfl
theorem neq_tk (k v a b : Int) (t : ByteArray) (w : World) : (binOp .neq 42 (.agg #[.int .i64 k, .string t, .int .i64 v, .int .i64 a, .int .i64 b]) (.agg #[.int .i64 k, .string t, .int .i64 v, .int .i64 a, .int .i64 b])).run Tryd.prog w = .ok (.bool false) w := by
  rw [run_neq_struct, run_equalIn_agg (d := 9999) (ht := st42) (hp := sh42), tkF_eq]
  simp [tkF, Op.eqFields, go_sem, Tryd.underlying3, Tryd.underlying9, Tryd.underlying2, run_equalIn_int, run_equalIn_string]
theorem tk_cells {W : World} {g : Nat} {l : List Tk} {k : Nat} {x : Tk} (h : ∀ i x, l[i]? = some x → ∀ j y, (tkc x)[j]? = some y → W.cell? ⟨g, i * 5 + j, none⟩ = some y) (hx : l[k]? = some x) : W.cell? ⟨g, k * 5, none⟩ = some (.int .i64 x.k) ∧ W.cell? ⟨g, k * 5 + 1, none⟩ = some (.string x.t) ∧ W.cell? ⟨g, k * 5 + 2, none⟩ = some (.int .i64 x.v) ∧ W.cell? ⟨g, k * 5 + 3, none⟩ = some (.int .i64 x.fr) ∧ W.cell? ⟨g, k * 5 + 4, none⟩ = some (.int .i64 x.en) :=
  ⟨h k x hx 0 _ rfl, h k x hx 1 _ rfl, h k x hx 2 _ rfl, h k x hx 3 _ rfl, h k x hx 4 _ rfl⟩
theorem cells42 : Tryd.prog.cellsOf 42 = 5 := by kernel_rfl
set_option maxRecDepth 100000 in
set_option maxHeartbeats 4000000 in
theorem plain11_some (g h c d : Nat) (l : List Tk) (w : World) (hl : l.length ≤ 9223372036854775807) (hc : l.length ≤ c) (hd : l.length ≤ d) (h1 : ∀ i x, l[i]? = some x → ∀ j y, (tkc x)[j]? = some y → w.cell? ⟨g, i * 5 + j, none⟩ = some y) (h2 : ∀ i x, l[i]? = some x → ∀ j y, (tkc x)[j]? = some y → w.cell? ⟨h, i * 5 + j, none⟩ = some y) : Calls Tryd.prog 11 #[.slice (some ⟨g, 0, none⟩) l.length c, .slice (some ⟨h, 0, none⟩) l.length d] w fun e w' => e = .returned (.bool true) ∧ ∃ n, w' = w.drewN n := by
  have H1 : Hid (∀ i x, l[i]? = some x → ∀ j y, (tkc x)[j]? = some y → w.cell? ⟨g, i * 5 + j, none⟩ = some y) := h1
  have H2 : Hid (∀ i x, l[i]? = some x → ∀ j y, (tkc x)[j]? = some y → w.cell? ⟨h, i * 5 + j, none⟩ = some y) := h2
  clear h1 h2
  obtain ⟨n, hn⟩ : ∃ n, n = l.length := ⟨_, rfl⟩
  rw [← hn] at hl hc hd ⊢
  have HN : Hid (n = l.length) := hn
  have c42 := cells42
  have hq := neq_tk
  clear hn
  go_enter Tryd.func11, Tryd.ntmps11
  go_wp2
  go_loopw [13] (fun i wx => ∃ k m : Nat, k ≤ n ∧ i = .int .i64 k ∧ wx = w.drewN m) (fun i _ => n - (intOf i).toNat)
  case atStart => exact ⟨0, 0, Nat.zero_le _, rfl, rfl⟩
  case round =>
    obtain ⟨k, m, hk, rfl, rfl⟩ := hrel
    by_cases hlt : k < n
    · obtain ⟨x, hx⟩ : ∃ x, l[k]? = some x := ⟨_, List.getElem?_eq_getElem (by have := HN.out; omega)⟩
      obtain ⟨a0, a1, a2, a3, a4⟩ := tk_cells H1.out hx
      obtain ⟨b0, b1, b2, b3, b4⟩ := tk_cells H2.out hx
      clear hx
      go_wp2
      go_quiet (fail)
      go_wp2
      exact ⟨⟨k + 1, m + nq, by omega, by go_num, rfl⟩, by simp [intOf]; omega⟩
    · obtain rfl : k = n := by omega
      go_wp2
      go_ret
      exact ⟨rfl, m, rfl⟩
set_option maxRecDepth 100000 in
set_option maxHeartbeats 2000000 in
theorem plain11_zero (a b : Option Addr) (c d : Nat) (w : World) : Calls Tryd.prog 11 #[.slice a 0 c, .slice b 0 d] w fun e w' => e = .returned (.bool true) ∧ ∃ n, w' = w.drewN n := by
  go_enter Tryd.func11, Tryd.ntmps11
  go_wp2
  go_loop [13] (fun i => i = .int .i64 0) (fun _ => 0)
  case atStart => exact rfl
  case round =>
    subst hrel
    go_wp2
    go_ret
    exact ⟨rfl, 0, rfl⟩
theorem plain11 {l : List Tk} {va vb : Value} {w : World} (h1 : TkS w va l) (h2 : TkS w vb l) : Calls Tryd.prog 11 #[va, vb] w fun e w' => e = .returned (.bool true) ∧ ∃ n, w' = w.drewN n := by
  rcases h1 with ⟨rfl, rfl⟩ | ⟨g, c, rfl, hc, h1⟩
  · rcases h2 with ⟨rfl, _⟩ | ⟨h, d, rfl, _, _⟩
    · exact plain11_zero _ _ _ _ w
    · exact plain11_zero _ _ _ _ w
  · rcases h2 with ⟨rfl, rfl⟩ | ⟨h, d, rfl, hd, h2⟩
    · exact plain11_zero _ _ _ _ w
    · exact plain11_some g h c d l w (by omega) hc.1 hd.1 h1 h2
theorem TkS.below {W W' : World} {B : Nat} {v : Value} {l : List Tk} (h : TkS W v l) (hb : Below B W W') (hB : W.heap.size ≤ B) : TkS W' v l := by
  rcases h with h | ⟨g, c, e, hc, h⟩
  · exact .inl h
  · refine .inr ⟨g, c, e, hc, fun i x hx j y hy => ?_⟩
    have t := h i x hx j y hy
    rw [(hb.mono hB).cell (p := ⟨g, i * 5 + j, none⟩) (World.block_lt_of_cell? _ _ t)]
    exact t
end Go.Proofs.YtgdbfedagdlgkaaDoor
