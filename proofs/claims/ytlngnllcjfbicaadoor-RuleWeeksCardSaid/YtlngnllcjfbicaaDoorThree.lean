/- Three integers in an array: the argument, opened; their block. -/
import Derived.Test.YtlngnllcjfbicaaDoorErr
import Derived.WideKeyPair
import Derived.OpenShut
namespace Go.Proofs.YtlngnllcjfbicaaDoor
open Go.RowKit Go.ChangeShapes Go.WideShapes Go.WideMaps
set_option linter.unusedVariables false

/-- A block of three cells, kept over what leaves all below as it was. -/
theorem three_cells {W0 w1 : World} {b : Nat} {x y z : Value} {T : TypeId} (h : W0.heap[b]? = some (.cells #[x, y, z] T (0, 0))) (hb : b < W0.heap.size) (hB : Below W0.heap.size W0 w1) :
    w1.cell? ⟨b, 0, none⟩ = some x ∧ w1.cell? ⟨b, 1, none⟩ = some y ∧ w1.cell? ⟨b, 2, none⟩ = some z := by
  have k : ∀ i v, W0.cell? ⟨b, i, none⟩ = some v → w1.cell? ⟨b, i, none⟩ = some v := fun i v e => (hB.cell (p := ⟨b, i, none⟩) hb).trans e
  exact ⟨k 0 x (by simp [World.cell?, h]), k 1 y (by simp [World.cell?, h]), k 2 z (by simp [World.cell?, h])⟩

theorem three_key : Go.WideMaps.ArrKey Tryd.prog 53 3 3 := ⟨Tryd.underlying53, by kernel_rfl, by kernel_rfl, by kernel_rfl⟩

/-- An array of three integers that reads as data. -/
theorem open_three {H : Type} {enc : TypeId × Value → H} {P : Program} {k e : TypeId} {q : IntKind} {W : World} {base : Nat} {sp : Nat → Bool} {held : Bool} (A : ArrKey P k e 3) (he : P.underlying e = some (.int q)) {r : Reach} {b0 : Nat} {v : Value} {d : DataW H} {ps : List MemPlace}
    (hval : Value.okWide P W r b0 k v) (hd : DataW.Trod enc P W base sp held k v d ps) :
    ∃ a b c : Int, v = .agg #[.int q a, .int q b, .int q c] ∧ d = .agg [.lit (.int q a), .lit (.int q b), .lit (.int q c)] ∧ ps = [] ∧ (Lit.int q a).wf = true ∧ (Lit.int q b).wf = true ∧ (Lit.int q c).wf = true := by
  simp only [Value.okWide, A.hu] at hval
  obtain ⟨cs, rfl, h2, _⟩ := hval
  rw [A.size] at h2
  obtain ⟨l⟩ := cs
  match l, h2 with
  | [c0, c1, c2], _ =>
    obtain ⟨fuel, hf⟩ := hd
    cases fuel with
    | zero => simp [DataW.trod] at hf
    | succ n =>
      rw [DataW.trod_step] at hf
      unfold DataW.trodStep at hf
      simp only [A.hu, Value.cells] at hf
      rw [if_pos (by rw [A.size]; rfl)] at hf
      simp only [Option.map_eq_some_iff] at hf
      obtain ⟨xs, hx, e1⟩ := hf
      rw [show List.range 3 = [0, 1, 2] from rfl] at hx
      simp only [List.mapM_cons, List.mapM_nil, bind, Option.bind_eq_some_iff, pure, Option.some.injEq, A.one] at hx
      obtain ⟨y0, h0, _, ⟨y1, h1, _, ⟨y2, h2, _, rfl, rfl⟩, rfl⟩, rfl⟩ := hx
      obtain ⟨a, ea, rfl, wa⟩ := DataW.trod_int he h0
      obtain ⟨b, eb, rfl, wb⟩ := DataW.trod_int he h1
      obtain ⟨c, ec, rfl, wc⟩ := DataW.trod_int he h2
      simp at ea eb ec
      subst ea; subst eb; subst ec
      simp only [Prod.mk.injEq] at e1
      exact ⟨a, b, c, rfl, by rw [← e1.1]; rfl, by rw [← e1.2]; rfl, wa, wb, wc⟩

end Go.Proofs.YtlngnllcjfbicaaDoor
