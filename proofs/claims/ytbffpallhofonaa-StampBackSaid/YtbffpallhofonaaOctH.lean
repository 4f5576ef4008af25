/- alive; the calls by cases; append of bytes; the walk of OctetsCuts. (Written by gen4.py.) -/
import Derived.Test.YtbffpallhofonaaOctG
namespace Go.Proofs.Ytbffpallhofonaa
open Go.RowKit Go.WideShapes Go.ChangeShapes
set_option linter.unusedVariables false

theorem wk_new {k : IntKind} {e : TypeId} (w : World) (zs : List Int) : Wk k e (w.alloc (.cells (cz k zs).toArray e)) w.heap.size zs := heap_alloc_new w _
theorem bk_wk {w : World} {g : Nat} {L : List UInt8} (h : Bk w g L) : Wk .u8 5 w g (nums L) := by
  unfold Wk
  have e : cz .u8 (nums L) = bc L := by unfold cz nums bc; rw [List.map_map]; rfl
  rw [e]; exact h
theorem list16_yes (A : Option Addr) (l : List UInt8) (c : Nat) (at_ many : Int) (w : World) (h : Rb w A l) (hA : A = none → c = 0) (hc : l.length ≤ c) (hl : l.length ≤ 1000000) (ha : fits at_) (hm : fits many) (hz : rm l.length at_ many 2 = 0) :
    Calls Try.prog 70 #[.slice A l.length c, .int .i64 at_, .int .i64 many] w fun e w' =>
      ∃ g, w.heap.size ≤ g ∧ e = .returned (.tuple #[.slice (some ⟨g, 0, none⟩) many.toNat many.toNat, .nilIface]) ∧ Wk .u16 29 w' g (wl (l.drop at_.toNat) 2 many.toNat) ∧ Below w.heap.size w w' := by
  refine (list16_any A l c at_ many w h hA hc hl ha hm).mono ?_
  rintro e w' (⟨h0, _⟩ | ⟨_, h1⟩)
  · exact absurd hz h0
  · exact h1
theorem list16_no (A : Option Addr) (l : List UInt8) (c : Nat) (at_ many : Int) (w : World) (h : Rb w A l) (hA : A = none → c = 0) (hc : l.length ≤ c) (hl : l.length ≤ 1000000) (ha : fits at_) (hm : fits many) (hz : rm l.length at_ many 2 ≠ 0) :
    Calls Try.prog 70 #[.slice A l.length c, .int .i64 at_, .int .i64 many] w fun e w' =>
      e = .returned (.tuple #[.slice none 0 0, ev (rm l.length at_ many 2)]) ∧ w = w' := by
  refine (list16_any A l c at_ many w h hA hc hl ha hm).mono ?_
  rintro e w' (⟨_, h1⟩ | ⟨h0, _⟩)
  · exact h1
  · exact absurd h0 hz
theorem list32_yes (A : Option Addr) (l : List UInt8) (c : Nat) (at_ many : Int) (w : World) (h : Rb w A l) (hA : A = none → c = 0) (hc : l.length ≤ c) (hl : l.length ≤ 1000000) (ha : fits at_) (hm : fits many) (hz : rm l.length at_ many 4 = 0) :
    Calls Try.prog 69 #[.slice A l.length c, .int .i64 at_, .int .i64 many] w fun e w' =>
      ∃ g, w.heap.size ≤ g ∧ e = .returned (.tuple #[.slice (some ⟨g, 0, none⟩) many.toNat many.toNat, .nilIface]) ∧ Wk .u32 22 w' g (wl (l.drop at_.toNat) 4 many.toNat) ∧ Below w.heap.size w w' := by
  refine (list32_any A l c at_ many w h hA hc hl ha hm).mono ?_
  rintro e w' (⟨h0, _⟩ | ⟨_, h1⟩)
  · exact absurd hz h0
  · exact h1
theorem list32_no (A : Option Addr) (l : List UInt8) (c : Nat) (at_ many : Int) (w : World) (h : Rb w A l) (hA : A = none → c = 0) (hc : l.length ≤ c) (hl : l.length ≤ 1000000) (ha : fits at_) (hm : fits many) (hz : rm l.length at_ many 4 ≠ 0) :
    Calls Try.prog 69 #[.slice A l.length c, .int .i64 at_, .int .i64 many] w fun e w' =>
      e = .returned (.tuple #[.slice none 0 0, ev (rm l.length at_ many 4)]) ∧ w = w' := by
  refine (list32_any A l c at_ many w h hA hc hl ha hm).mono ?_
  rintro e w' (⟨_, h1⟩ | ⟨h0, _⟩)
  · exact h1
  · exact absurd h0 hz
theorem nsame_any (A B : Option Addr) (l : List UInt8) (c d : Nat) (w : World) (h : Rb w A l) (hA : A = none → c = 0) (k : Rb w B l) (hB : B = none → d = 0) :
    Calls Try.prog 26 #[.slice A l.length c, .slice B l.length d] w fun e w' => e = .returned (.bool true) ∧ w = w' := by
  refine (nbytes_any A B l l c d w h hA k hB).mono ?_
  rintro e w' ⟨h1, h2⟩
  exact ⟨by rw [h1, decide_eq_true rfl], h2⟩

/-! ### append -/
theorem elb : El Try.prog 56 5 .u8 := el_mk Try.underlying56 info8 (by decide)
theorem own_nil (w : World) : Oz (w.alloc (.cells #[] 5)) w.heap.size 5 .u8 (.slice (some ⟨w.heap.size, 0, none⟩) 0 0) (nums []) :=
  ⟨rfl, .inr ⟨w.heap.size, 0, #[], rfl, Nat.le_refl _, heap_alloc_new w _, Nat.le_refl _, Nat.zero_le _, rfl, rfl⟩⟩
theorem nums_app (a b : List UInt8) : nums (a ++ b) = nums a ++ nums b := by simp [nums]
theorem nums_wf (l : List UInt8) : ∀ z ∈ nums l, (Lit.int .u8 z).wf = true := by
  intro z hz
  obtain ⟨b, _, rfl⟩ := List.mem_map.1 hz
  have := b.toNat_lt
  simp [Lit.wf, IntKind.min, IntKind.max, IntKind.signed, IntKind.bits]
  omega
theorem own_reads {w : World} {base : Nat} {v : Value} {l : List UInt8} (h : Oz w base 5 .u8 v (nums l)) : ∃ A c, v = .slice A l.length c ∧ Rb w A l ∧ (A = none → c = 0) ∧ l.length ≤ c := by
  obtain ⟨A, c, h1, h2, h3, h4, _⟩ := h.reads (nums_wf l)
  rw [nums_len] at h1 h4
  exact ⟨A, c, h1, h2, h3, h4⟩
/-- append of bytes to a row of the call's own, in a plain region. -/
theorem app_bytes {ops : Array Oper} {rest : List Oper} {o : Oper} {a : Act} {Q : Exit → Act → World → Prop} {w : World} (s x : Operand) (base : Nat) (v : Value) (m : List UInt8) (hown : Oz w base 5 .u8 v (nums m))
    (A : Option Addr) (l : List UInt8) (c : Nat) (hr : Rb w A l) (hA : A = none → c = 0) (hm : m.length ≤ 1000000000) (hl : l.length ≤ 1000000000) (hbase : base ≤ w.heap.size)
    (hgd : o.guard = none) (ho : o.op = .call { callee := .builtin .append, args := #[s, x], argTypes := #[56, 56] }) (hs : a.eval s = v) (hx : a.eval x = .slice A l.length c)
    (h : ∀ A' c' w', Oz w' base 5 .u8 (.slice A' (m ++ l).length c') (nums (m ++ l)) → Rb w' A' (m ++ l) → (A' = none → c' = 0) → (m ++ l).length ≤ c' → Below base w w' → wpList Try.prog ops Q rest (a.put o.dst (.slice A' (m ++ l).length c')) w') :
    wpList Try.prog ops Q (o :: rest) a w := by
  refine app_list hgd s x 56 5 .u8 elb ho base v (nums m) hs hown A (nums l) c (by rw [nums_len]; exact hx) hr hA (by rw [nums_len]; exact hm) (by rw [nums_len]; exact hl) hbase ?_
  intro v' w' h1 h2
  rw [← nums_app] at h1
  obtain ⟨A', c', rfl, h3, h4, h5⟩ := own_reads h1
  exact h A' c' w' h1 h3 h4 h5 h2

end Go.Proofs.Ytbffpallhofonaa
