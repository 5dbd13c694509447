/- Small rules on codes: where one ends, and with what. -/
import Derived.Test.YtnmpbihpoefeoaaDoorV3
namespace Go.Proofs.YtnmpbihpoefeoaaDoor
open Go.RowKit Go.Shelf
def At (e : Exit) (A : Act) (W : World) : Exit → Act → World → Prop := fun e' a' w' => e' = e ∧ a' = A ∧ w' = W
theorem At.mk {e : Exit} {A : Act} {W : World} : At e A W e A W := ⟨rfl, rfl, rfl⟩
theorem seq_to {P : Program} {x y : Code} {Q : Exit → Act → World → Prop} {a A : Act} {w W : World} (h : x.wp P (At .normal A W) a w) (k : y.wp P Q A W) : (Code.seq x y).wp P Q a w :=
  wp_seq (wp_mono h fun _ _ _ q => by obtain ⟨rfl, rfl, rfl⟩ := q; exact k)
theorem seq_exit {P : Program} {x y : Code} {n : Nat} {a A : Act} {w W : World} (h : x.wp P (At (.exit n) A W) a w) : (Code.seq x y).wp P (At (.exit n) A W) a w :=
  wp_seq (wp_mono h fun _ _ _ q => by obtain ⟨rfl, rfl, rfl⟩ := q; exact At.mk)
theorem blk_catch {P : Program} {c : Code} {n : Nat} {a A : Act} {w W : World} (h : c.wp P (At (.exit n) A W) a w) : (Code.block n c).wp P (At .normal A W) a w :=
  wp_block (wp_mono h fun _ _ _ q => by obtain ⟨rfl, rfl, rfl⟩ := q; simp only [Exit.inBlock, if_true]; exact At.mk)
theorem blk_pass {P : Program} {c : Code} {j n : Nat} {a A : Act} {w W : World} (hn : n ≠ j) (h : c.wp P (At (.exit n) A W) a w) : (Code.block j c).wp P (At (.exit n) A W) a w :=
  wp_block (wp_mono h fun _ _ _ q => by obtain ⟨rfl, rfl, rfl⟩ := q; simp only [Exit.inBlock, hn, if_false]; exact At.mk)
theorem blk_norm {P : Program} {c : Code} {j : Nat} {a A : Act} {w W : World} (h : c.wp P (At .normal A W) a w) : (Code.block j c).wp P (At .normal A W) a w :=
  wp_block (wp_mono h fun _ _ _ q => by obtain ⟨rfl, rfl, rfl⟩ := q; exact At.mk)
end Go.Proofs.YtnmpbihpoefeoaaDoor
