/- One act: the blocks that it makes. (Written by gen2.py.) -/
import Derived.Test.YtelogbkhplegaaaActA
namespace Go.Proofs.Ytelogbkhplegaaa
open Go.RowKit
set_option linter.unusedVariables false

theorem three (w : World) (s : ByteArray) (k : Nat) (e : Int) (a : ActD) :
    Dk (((w.alloc (.cells #[.string s, .int .i64 (k : Int), .int .i64 e] Td)).alloc (.cells a.cells Ta)).alloc (.cells #[.string ⟨#[]⟩, .int .i64 0, .int .i64 0] Td)) w.heap.size s k e ∧
    Ak (((w.alloc (.cells #[.string s, .int .i64 (k : Int), .int .i64 e] Td)).alloc (.cells a.cells Ta)).alloc (.cells #[.string ⟨#[]⟩, .int .i64 0, .int .i64 0] Td)) (w.heap.size + 1) a ∧
    Dk (((w.alloc (.cells #[.string s, .int .i64 (k : Int), .int .i64 e] Td)).alloc (.cells a.cells Ta)).alloc (.cells #[.string ⟨#[]⟩, .int .i64 0, .int .i64 0] Td)) (w.heap.size + 1 + 1) ⟨#[]⟩ 0 0 ∧
    Below w.heap.size w (((w.alloc (.cells #[.string s, .int .i64 (k : Int), .int .i64 e] Td)).alloc (.cells a.cells Ta)).alloc (.cells #[.string ⟨#[]⟩, .int .i64 0, .int .i64 0] Td)) := by
  have h1 := heap_alloc_new w (.cells #[.string s, .int .i64 (k : Int), .int .i64 e] Td)
  have h2 := heap_alloc_new (w.alloc (.cells #[.string s, .int .i64 (k : Int), .int .i64 e] Td)) (.cells a.cells Ta)
  have h3 := heap_alloc_new ((w.alloc (.cells #[.string s, .int .i64 (k : Int), .int .i64 e] Td)).alloc (.cells a.cells Ta)) (.cells #[.string ⟨#[]⟩, .int .i64 0, .int .i64 0] Td)
  rw [World.size_alloc] at h2
  rw [World.size_alloc, World.size_alloc] at h3
  exact ⟨(Below.heap_alloc _ _ _ (by simp; omega)).trans ((Below.heap_alloc _ _ _ (by simp)).trans h1), (Below.heap_alloc _ _ _ (by simp)).trans h2, h3,
    (((Below.refl _ _).alloc (Nat.le_refl _) _).alloc (by simp) _).alloc (by simp; omega) _⟩

end Go.Proofs.Ytelogbkhplegaaa
