/- The document's answer for digests: Step. -/
import Derived.Test.YtijopeacgpmicaaDoorShaR
import Derived.Test.YtijopeacgpmicaaDoorBlk
import Derived.Maps.AppendAt
import Derived.StillTailTactics
import Derived.Deep.DeepCutAuto
import Derived.Deep.CutRange
import Derived.Deep.CutBlock
import Derived.Deep.LoopGhost
import Derived.BigQuiet
namespace Go.Proofs.YtijopeacgpmicaaDoor
open Go.RowKit Go.WideShapes Go.ChangeShapes
set_option linter.unusedVariables false

theorem info32 : (Tryd.prog.info? 27).map (fun i => (i.zero, i.size, i.bytes)) = some (some (.int .u32 0), 1, 4) := by kernel_rfl
theorem elw : El Tryd.prog 48 27 .u32 := el_mk Tryd.underlying48 info32 (by decide)
theorem u_wf (x : BitVec 32) : (Lit.int .u32 (u x)).wf = true := by
  have := u_lo x; have := u_hi x
  simp [Lit.wf, IntKind.min, IntKind.max, IntKind.signed, IntKind.bits]
  omega
/-- A row of words of the call's own. -/
def Wo (w : World) (base : Nat) (v : Value) (p : List (BitVec 32)) : Prop := Oz w base 27 .u32 v (p.map u)
theorem Wo.reads {w : World} {base : Nat} {v : Value} {p : List (BitVec 32)} (h : Wo w base v p) : ∃ A c, v = .slice A p.length c ∧ Rz .u32 w A (p.map u) ∧ (A = none → c = 0) ∧ p.length ≤ c ∧ c ≤ maxLen := by
  have := Oz.reads h (fun z hz => by obtain ⟨x, _, rfl⟩ := List.mem_map.mp hz; exact u_wf x)
  rwa [List.length_map] at this
/-- append of one word. -/
theorem app_word {ops : Array Oper} {rest : List Oper} {o : Oper} {a : Act} {Q : Exit → Act → World → Prop} {W : World} (s x : Operand) (base : Nat) (v : Value) (p : List (BitVec 32)) (d : Int) (y : BitVec 32)
    (hown : Wo W base v p) (hd : d = u y) (hlen : p.length ≤ 10000) (hbase : base ≤ W.heap.size)
    (hgd : o.guard = none) (ho : o.op = .call { callee := .builtin .append, args := #[s, x], argTypes := #[48, 48] })
    (hs : a.eval s = v) (hx : a.eval x = .slice (some ⟨W.heap.size, 0, none⟩) 1 1)
    (h : ∀ v' w', Wo w' base v' (p ++ [y]) → Below base W w' → wpList Tryd.prog ops Q rest (a.put o.dst v') w') :
    wpList Tryd.prog ops Q (o :: rest) a (W.alloc (.cells #[.int .u32 d] 27)) := by
  subst hd
  have hA : Below base W (W.alloc (.cells #[.int .u32 (u y)] 27)) := (Below.refl _ _).alloc hbase _
  refine app_list hgd s x 48 27 .u32 elw ho base v (p.map u) hs (Oz.below hown ((Below.refl _ _).alloc (Nat.le_refl _) _) (Nat.le_refl _)) (some ⟨W.heap.size, 0, none⟩) [u y] 1 hx
    ⟨fun z hz => by rw [List.mem_singleton.mp hz]; exact u_wf y, .inr ⟨W.heap.size, 0, rfl, by simp, fun j z hj => ?_⟩⟩ (fun e => by cases e) (by rw [List.length_map]; omega) (by simp) (by simp; omega) ?_
  · cases j with
    | zero =>
      obtain rfl : u y = z := by simpa using hj
      exact bk_cell (heap_alloc_new W _) 0
    | succ j => simp at hj
  · intro v' w' h1 h2
    exact h v' w' (by unfold Wo; rw [List.map_append]; exact h1) (hA.trans (h2.mono (Nat.le_refl _)))

/-- A row of words that isn't empty: its block. -/
theorem Wo.open_ {w : World} {base : Nat} {v : Value} {p : List (BitVec 32)} (h : Wo w base v p) (h0 : 0 < p.length) :
    ∃ b c, v = .slice (some ⟨b, 0, none⟩) p.length c ∧ base ≤ b ∧ b < w.heap.size ∧ (∀ i y, p[i]? = some y → w.cell? ⟨b, i, none⟩ = some (.int .u32 (u y))) ∧ p.length ≤ c ∧ c ≤ maxLen := by
  rcases h.2 with ⟨hv, hn⟩ | ⟨g, cap, cur, hv, hb, hh, hc, hm, _, _⟩
  · rw [List.length_map] at hn; omega
  · rw [List.length_map] at hv hc
    refine ⟨g, cap, hv, hb, bk_lt hh, fun i y hy => ?_, hc, hm⟩
    have := World.ownsRow.cells h (g := g) (by rw [hv]; rfl) i (.int .u32 (u y)) (by unfold cz; rw [List.getElem?_map, List.getElem?_map, hy]; rfl)
    rw [← this]
    unfold Addr.add
    by_cases h0 : i = 0
    · subst h0; rfl
    · simp [h0]
/-- append of one word; what the row held lies on. -/
theorem run_app_kept (w : World) (base : Nat) (ty : TypeId) (b c : Nat) (p : List (BitVec 32)) (hown : Wo w base (.slice (some ⟨b, 0, none⟩) p.length c) p)
    (g cc : Nat) (y : BitVec 32) (hy : w.cell? ⟨g, 0, none⟩ = some (.int .u32 (u y))) (hp : p.length ≤ 10000) (hbase : base ≤ w.heap.size) :
    ∃ v' w', (Builtin.append_ #[48, 48] ty #[.slice (some ⟨b, 0, none⟩) p.length c, .slice (some ⟨g, 0, none⟩) 1 cc]).run Tryd.prog w = .ok v' w' ∧ Wo w' base v' (p ++ [y]) ∧ Below base w w' ∧
      ∀ i z, p[i]? = some z → w'.cell? ⟨b, i, none⟩ = some (.int .u32 (u z)) := by
  obtain ⟨i, ht, hi, hz0, hz1, hz2⟩ := elw
  have hnews : ∀ j v, [Value.int .u32 (u y)][j]? = some v → w.cell? ((⟨g, 0, none⟩ : Addr).add j) = some v := fun j v hv => by
    cases j with
    | zero =>
      obtain rfl : Value.int .u32 (u y) = v := by simpa using hv
      exact hy
    | succ j => simp at hv
  have h1 : ∀ v ∈ [Value.int .u32 (u y)], v.oneCell' = true := fun v hv => by rw [List.mem_singleton.mp hv]; rfl
  have ha : ∀ (v : Nat) (j : Nat), (⟨v, 0, none⟩ : Addr).add j = ⟨v, j, none⟩ := fun v j => by rw [add_plain, Nat.zero_add]
  have hown0 := hown
  unfold Wo Oz at hown0
  rw [List.length_map] at hown0
  obtain ⟨v', w', hr, h2, h3, _, h5⟩ := run_append_own_at (P := Tryd.prog) w base 48 ty 27 i (.int .u32 0) 1 i.bytes ht hi hz0 hz1 rfl rfl (by decide) _ p.length (cz .u32 (p.map u)) hown0 ⟨g, 0, none⟩ 1 cc [.int .u32 (u y)] rfl hnews h1
    (by unfold maxLen; omega) (by have := Nat.mul_le_mul_left (p.length + 1) hz2; omega) hbase
  have hw : Wo w' base v' (p ++ [y]) := by
    unfold Wo Oz
    rw [List.length_map, List.length_append, List.map_append, cz_append]; exact h2
  have hbb : base ≤ b := by
    rcases hown0.2 with ⟨hv, _⟩ | ⟨g', cap, cur, hv, hb, _⟩
    · cases hv
    · injection hv with hv _; injection hv with hv; injection hv with hv; omega
  refine ⟨v', w', hr, hw, (Below.refl _ _).grown h3 hbase (fun g' hg' => (show b = g' by simpa [Value.ownBlock] using hg') ▸ hbb), fun j z hz => ?_⟩
  have hc : (cz .u32 (p.map u))[j]? = some (.int .u32 (u z)) := by unfold cz; rw [List.getElem?_map, List.getElem?_map, hz]; rfl
  rcases h5 with h5 | h5
  · have := World.ownsRow.cells h2 (g := b) (by rw [h5]; rfl) j (.int .u32 (u z)) (by rw [List.getElem?_append_left (List.getElem?_eq_some_iff.1 hc).1]; exact hc)
    rw [ha] at this; exact this
  · have hold := World.ownsRow.cells hown0 (g := b) rfl j _ hc
    rw [ha] at hold
    have hlt : b < w.heap.size := World.block_lt_of_cell? _ _ hold
    rcases hown0.2 with ⟨hv, _⟩ | ⟨g', cap, cur, hv, hb, hg, hnc, hcm, hcs, htake⟩
    · cases hv
    · injection hv with hv _ hv2
      injection hv with hv; injection hv with hv
      subst hv; subst hv2
      by_cases hroom : p.length + 1 ≤ c
      · have hr2 := run_append_room (P := Tryd.prog) w 48 ty 27 i ht hi b p.length c cur hg ⟨g, 0, none⟩ 1 cc [.int .u32 (u y)] (by simp [hz1]) hnews h1 hroom (by simp [hz1, hcs]; omega)
        rw [hr2] at hr
        injection hr with hr _
        rw [← hr] at h5
        simp [Value.ownBlock] at h5
        omega
      · have hr2 := run_append_grow (P := Tryd.prog) w 48 ty 27 i (.int .u32 0) ht hi hz0 ⟨b, 0, none⟩ p.length c (cz .u32 (p.map u)) (by simp [cz, hz1]) (World.ownsRow.cells hown0 rfl) ⟨g, 0, none⟩ 1 cc [.int .u32 (u y)] (by simp [hz1]) hnews (by omega) (by omega)
          (growslice_fits (by omega) (by have := Nat.mul_le_mul_left (p.length + 1) hz2; omega))
        rw [hr2] at hr
        injection hr with _ hr
        rw [← hr]
        have : ∀ o, (w.drew.alloc o).cell? ⟨b, j, none⟩ = w.cell? ⟨b, j, none⟩ := fun o => ((Below.refl w.heap.size w).drew.alloc (Nat.le_refl _) o).cell hlt
        rw [this]; exact hold
/-- The same as a step of a region that draws. -/
theorem app_step_w {ops : Array Oper} {o : Oper} {a : Act} {w : World} {K : Act → World → Prop} {Q : Exit → Act → World → Prop} {X : Prop} (s x : Operand) (base b c : Nat) (p : List (BitVec 32)) (hown : Wo w base (.slice (some ⟨b, 0, none⟩) p.length c) p)
    (g cc : Nat) (y : BitVec 32) (hy : w.cell? ⟨g, 0, none⟩ = some (.int .u32 (u y))) (hp : p.length ≤ 10000) (hbase : base ≤ w.heap.size)
    (hw : Region.wanted o (yielded ops a.tmps) = true) (ho : o.op = .call { callee := .builtin .append, args := #[s, x], argTypes := #[48, 48] }) (hs : a.eval s = .slice (some ⟨b, 0, none⟩) p.length c) (hx : a.eval x = .slice (some ⟨g, 0, none⟩) 1 cc)
    (h : ∀ v' w', Wo w' base v' (p ++ [y]) → Below base w w' → (∀ i z, p[i]? = some z → w'.cell? ⟨b, i, none⟩ = some (.int .u32 (u z))) → K (a.put o.dst v') w') :
    if Region.wanted o (yielded ops a.tmps) = true then Oper.wp Tryd.prog o a w K Q else X := by
  rw [if_pos hw]
  obtain ⟨v', w', hrun, h2, h3, h4⟩ := run_app_kept w base o.type b c p hown g cc y hy hp hbase
  unfold Oper.wp execOp
  simp only [ho, resolve, invoke, builtin, Sem.run_bind, Sem.run_pure, Result.andThen_ok, List.map_toArray, List.map_cons, List.map_nil, hs, hx, hrun]
  exact h v' w' h2 h3 h4

end Go.Proofs.YtijopeacgpmicaaDoor
