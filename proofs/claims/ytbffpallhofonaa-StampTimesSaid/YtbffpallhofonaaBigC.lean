/- times: a row for each digit. -/
import Derived.Test.YtbffpallhofonaaBigB
import Derived.BigQuiet
import Derived.Deep.QuietTactic
import Derived.OwnWalk
namespace Go.Proofs.Ytbffpallhofonaa
open Go.RowKit

theorem made_zeros (n : Nat) : (madeCells (Value.int .u64 0).cells (n * 1)).toList = cl (List.replicate n 0) := by
  refine List.ext_getElem (by simp [cl, madeCells]) fun i h1 h2 => ?_
  simp [cl, madeCells, Value.cells, Nat.mod_one]

theorem make_digits {ops : Array Oper} {rest : List Oper} {o : Oper} {a : Act} {Q : Exit → Act → World → Prop} (W : World) (l c : Operand) (base n : Nat)
    (hn : n ≤ 10000) (hbase : base ≤ W.heap.size) (hg : o.guard = none) (hop : o.op = Op.makeSlice 74 l c) (hl : a.eval l = .int .i64 n) (hc : a.eval c = .int .i64 n)
    (h : ∀ v' w', Own w' base v' (List.replicate n 0) → Below base W w' → wpList Try.prog ops Q rest (a.put o.dst v') w') :
    wpList Try.prog ops Q (o :: rest) a W := by
  obtain ⟨i0, hi0, hz0, hz1, hz2⟩ := info_parts info64
  refine wpList_make_full W hg l c 74 hop base 26 i0 _ 1 Try.underlying74 hi0 hz0 hz1 .i64 .i64 n n n hl hc rfl rfl (by rw [hz2]; omega) (by unfold maxLen; omega) hbase ?_
  intro w' h1 h2
  rw [made_zeros] at h1
  refine h _ w' (by unfold Own; rw [List.length_replicate]; exact h1) ?_
  exact (Below.refl _ _).grown h2 hbase (fun k hk => by cases hk)

theorem outer_step {o r xs ys : List Nat} {i : Nat} {T : Nat} (h : nv o + 65536 ^ i * (nv xs * vd ys i) = T) (hr : nv r = nv xs * dg ys i * 65536 ^ i) :
    nv o + nv r + 65536 ^ (i + 1) * (nv xs * vd ys (i + 1)) = T := by
  rw [hr, ← h, vd_step ys i, Nat.pow_succ, Nat.add_assoc]
  congr 1
  generalize 65536 ^ i = P
  generalize nv xs = x
  generalize dg ys i = y
  generalize vd ys (i + 1) = z
  rw [Nat.mul_add x, Nat.mul_add P, Nat.mul_comm (x * y) P, Nat.mul_assoc P 65536, ← Nat.mul_assoc 65536 x z, Nat.mul_comm 65536 x, Nat.mul_assoc x 65536 z]

end Go.Proofs.Ytbffpallhofonaa
