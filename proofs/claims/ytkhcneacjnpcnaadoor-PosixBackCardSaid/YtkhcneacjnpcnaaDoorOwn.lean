/- Rows of integers that the call itself makes: made, appended to, read. -/
import Derived.Test.YtkhcneacjnpcnaaDoorRow
import Derived.Laws.AppendOwnNone
import Derived.Deep.RegionLaw
namespace Go.Proofs.YtkhcneacjnpcnaaDoor
open Go.RowKit Go.WideShapes Go.ChangeShapes
set_option linter.unusedVariables false

/-- t is the type of slices of e, whose elements are integers of kind k, one cell each. -/
def El (P : Program) (t e : TypeId) (k : IntKind) : Prop :=
  ∃ i, P.underlying t = some (.slice e) ∧ P.info? e = some i ∧ i.zero = some (.int k 0) ∧ i.size = 1 ∧ i.bytes ≤ 8
theorem el_mk {P : Program} {t e : TypeId} {k : IntKind} {b : Nat} (ht : P.underlying t = some (.slice e)) (h : (P.info? e).map (fun i => (i.zero, i.size, i.bytes)) = some (some (.int k 0), 1, b)) (hb : b ≤ 8) : El P t e k := by
  cases hi : P.info? e with
  | none => rw [hi] at h; cases h
  | some i =>
    rw [hi] at h
    simp only [Option.map_some, Option.some.injEq, Prod.mk.injEq] at h
    exact ⟨i, ht, hi, h.1, h.2.1, by omega⟩

def cz (k : IntKind) (zs : List Int) : List Value := zs.map fun z => Value.int k z
theorem cz_len (k : IntKind) (zs : List Int) : (cz k zs).length = zs.length := by simp [cz]
theorem cz_append (k : IntKind) (a b : List Int) : cz k (a ++ b) = cz k a ++ cz k b := by simp [cz]
theorem cz_at {k : IntKind} {zs : List Int} {j : Nat} {u : Value} (h : (cz k zs)[j]? = some u) : ∃ z, zs[j]? = some z ∧ u = .int k z := by
  unfold cz at h
  rw [List.getElem?_map] at h
  cases hz : zs[j]? with
  | none => rw [hz] at h; cases h
  | some z => rw [hz] at h; exact ⟨z, rfl, by simpa using h.symm⟩
/-- The value v is a row of the call's own that holds the numbers zs. -/
def Oz (w : World) (base : Nat) (e : TypeId) (k : IntKind) (v : Value) (zs : List Int) : Prop := w.ownsRow base e 1 v zs.length (cz k zs)
theorem Oz.below {w w' : World} {base B : Nat} {e : TypeId} {k : IntKind} {v : Value} {zs : List Int} (h : Oz w base e k v zs) (hb : Below B w w') (hB : w.heap.size ≤ B) : Oz w' base e k v zs := by
  refine ⟨h.1, ?_⟩
  rcases h.2 with h0 | ⟨g, cap, cur, h1, h2, h3, h4⟩
  · exact .inl h0
  · refine .inr ⟨g, cap, cur, h1, h2, ?_, h4⟩
    have hlt : g < w.heap.size := by
      rcases Nat.lt_or_ge g w.heap.size with hlt | hge
      · exact hlt
      · rw [Array.getElem?_eq_none hge] at h3; cases h3
    rw [hb.block g (by omega)]; exact h3
theorem Oz.drewN {w : World} {base : Nat} {e : TypeId} {k : IntKind} {v : Value} {zs : List Int} (h : Oz w base e k v zs) (n : Nat) : Oz (w.drewN n) base e k v zs := h
theorem Oz.nil {w : World} (base : Nat) (e : TypeId) (k : IntKind) : Oz w base e k (.slice none 0 0) [] := ⟨rfl, .inl ⟨rfl, rfl⟩⟩
/-- It reads as its numbers. -/
theorem Oz.reads {w : World} {base : Nat} {e : TypeId} {k : IntKind} {v : Value} {zs : List Int} (h : Oz w base e k v zs) (hf : ∀ z ∈ zs, (Lit.int k z).wf = true) :
    ∃ A c, v = .slice A zs.length c ∧ Rz k w A zs ∧ (A = none → c = 0) ∧ zs.length ≤ c ∧ c ≤ maxLen := by
  rcases h.2 with ⟨hv, hn⟩ | ⟨g, cap, cur, hv, hb, hh, hc, hm, _, _⟩
  · obtain rfl : zs = [] := List.eq_nil_of_length_eq_zero hn
    exact ⟨none, 0, hv, ⟨hf, .inl rfl⟩, fun _ => rfl, Nat.le_refl _, by decide⟩
  · refine ⟨_, cap, hv, ⟨hf, .inr ⟨g, 0, rfl, ?_, fun j z hj => ?_⟩⟩, (fun h => by cases h), hc, hm⟩
    · rcases Nat.lt_or_ge g w.heap.size with hlt | hge
      · exact hlt
      · rw [Array.getElem?_eq_none hge] at hh; cases hh
    · have hz : (cz k zs)[j]? = some (.int k z) := by unfold cz; rw [List.getElem?_map, hj]; rfl
      have := World.ownsRow.cells h (g := g) (by rw [hv]; rfl) j _ hz
      rw [← this]
      unfold Addr.add
      by_cases h0 : j = 0
      · subst h0; rfl
      · simp [h0]
theorem Oz.block {w : World} {base : Nat} {e : TypeId} {k : IntKind} {v : Value} {zs : List Int} (h : Oz w base e k v zs) : ∀ g, v.ownBlock = some g → base ≤ g := by
  intro g hg
  rcases h.2 with ⟨hv, _⟩ | ⟨g', cap, cur, hv, hb, _⟩
  · rw [hv] at hg; simp [Value.ownBlock] at hg
  · rw [hv] at hg
    have : g' = g := by simpa [Value.ownBlock] using hg
    omega

/-- append of whatever reads as numbers to a row of the call's own. -/
theorem run_app {P : Program} (w : World) (base : Nat) (t ty e : TypeId) (k : IntKind) (E : El P t e k) (v : Value) (xs : List Int) (hown : Oz w base e k v xs)
    (A : Option Addr) (zs : List Int) (c : Nat) (hr : Rz k w A zs) (hA : A = none → c = 0) (hx : xs.length ≤ 1000000000) (hz : zs.length ≤ 1000000000) (hbase : base ≤ w.heap.size) :
    ∃ v' w', (Builtin.append_ #[t, t] ty #[v, .slice A zs.length c]).run P w = .ok v' w' ∧ Oz w' base e k v' (xs ++ zs) ∧ Below base w w' := by
  obtain ⟨i, ht, hi, hz0, hz1, hz2⟩ := E
  cases A with
  | none =>
    obtain rfl := hA rfl
    obtain rfl := hr.none_
    refine ⟨v, w, run_append_owned_none (P := P) (w := w) base t ty e i 1 ht hi v xs.length (cz k xs) hown, by simpa using hown, Below.refl _ _⟩
  | some ad =>
    obtain ⟨v', w', h1, h2, h3, _, _⟩ := run_append_own_at (P := P) w base t ty e i (.int k 0) 1 i.bytes ht hi hz0 hz1 rfl rfl (by decide) v xs.length (cz k xs) hown ad zs.length c (cz k zs) (by rw [cz_len, Nat.mul_one])
      (fun j u hu => by
        obtain ⟨z, h4, rfl⟩ := cz_at hu
        rcases hr.2 with h0 | ⟨b, off, h5, _, h6⟩
        · rw [h0] at h4; cases h4
        · injection h5 with h5
          subst h5
          rw [add_plain]; exact h6 j z h4)
      (fun u hu => by
        unfold cz at hu
        obtain ⟨z, _, rfl⟩ := List.mem_map.mp hu
        rfl)
      (by unfold maxLen; omega) (by
        have := Nat.mul_le_mul_left (xs.length + zs.length) hz2
        omega) hbase
    refine ⟨v', w', h1, ?_, (Below.refl _ _).grown h3 hbase fun g hg => hown.block g hg⟩
    unfold Oz
    rw [List.length_append, cz_append]; exact h2
theorem app_list {P : Program} {ops : Array Oper} {rest : List Oper} {o : Oper} {a : Act} {Q : Exit → Act → World → Prop} {w : World} (hgd : o.guard = none) (s x : Operand) (t e : TypeId) (k : IntKind) (E : El P t e k)
    (ho : o.op = .call { callee := .builtin .append, args := #[s, x], argTypes := #[t, t] }) (base : Nat) (v : Value) (xs : List Int) (hs : a.eval s = v) (hown : Oz w base e k v xs)
    (A : Option Addr) (zs : List Int) (c : Nat) (hx : a.eval x = .slice A zs.length c) (hr : Rz k w A zs) (hA : A = none → c = 0) (hxl : xs.length ≤ 1000000000) (hzl : zs.length ≤ 1000000000) (hbase : base ≤ w.heap.size)
    (h : ∀ v' w', Oz w' base e k v' (xs ++ zs) → Below base w w' → wpList P ops Q rest (a.put o.dst v') w') : wpList P ops Q (o :: rest) a w := by
  refine wpList_plain hgd fun K hK => ?_
  obtain ⟨v', w', hrun, h2, h3⟩ := run_app (P := P) w base t o.type e k E v xs hown A zs c hr hA hxl hzl hbase
  unfold Oper.wp execOp
  simp only [ho, resolve, invoke, builtin, Sem.run_bind, Sem.run_pure, Result.andThen_ok, List.map_toArray, List.map_cons, List.map_nil, hs, hx, hrun]
  exact hK _ _ (h v' w' h2 h3)
theorem app_step {P : Program} {ops : Array Oper} {o : Oper} {a : Act} {w : World} {K : Act → World → Prop} {Q : Exit → Act → World → Prop} {X : Prop} (hgd : o.guard = none) (s x : Operand) (t e : TypeId) (k : IntKind) (E : El P t e k)
    (ho : o.op = .call { callee := .builtin .append, args := #[s, x], argTypes := #[t, t] }) (base : Nat) (v : Value) (xs : List Int) (hs : a.eval s = v) (hown : Oz w base e k v xs)
    (A : Option Addr) (zs : List Int) (c : Nat) (hx : a.eval x = .slice A zs.length c) (hr : Rz k w A zs) (hA : A = none → c = 0) (hxl : xs.length ≤ 1000000000) (hzl : zs.length ≤ 1000000000) (hbase : base ≤ w.heap.size)
    (h : ∀ v' w', Oz w' base e k v' (xs ++ zs) → Below base w w' → K (a.put o.dst v') w') : if Region.wanted o (yielded ops a.tmps) = true then Oper.wp P o a w K Q else X := by
  have hw : Region.wanted o (yielded ops a.tmps) = true := by simp [Region.wanted, hgd]
  rw [if_pos hw]
  obtain ⟨v', w', hrun, h2, h3⟩ := run_app (P := P) w base t o.type e k E v xs hown A zs c hr hA hxl hzl hbase
  unfold Oper.wp execOp
  simp only [ho, resolve, invoke, builtin, Sem.run_bind, Sem.run_pure, Result.andThen_ok, List.map_toArray, List.map_cons, List.map_nil, hs, hx, hrun]
  exact h v' w' h2 h3
end Go.Proofs.YtkhcneacjnpcnaaDoor
