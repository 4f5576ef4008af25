/- Merged: ShaP. -/
import Derived.Test.YtiamggjebaabkaaGreatDoorGListRemarks26
import Derived.Lib.AppendZeros
import Derived.Maps.AppendAt
namespace Go.Proofs.YtiamggjebaabkaaGreatDoor
open Go.RowKit Go.WideShapes Go.ChangeShapes
set_option linter.unusedVariables false

set_option maxRecDepth 100000 in
theorem einfo : (Tryz.prog.info? 59).map (fun i => (i.zero, i.size, i.bytes)) = some (some (.slice none 0 0), 1, 24) := by kernel_rfl
set_option maxRecDepth 100000 in
theorem eund : Tryz.prog.underlying 154 = some (.slice 59) := by kernel_rfl
set_option maxRecDepth 100000 in
theorem iund : Tryz.prog.underlying 3 = some (.int .i64) := by kernel_rfl
/-- A row of slices of the call's own. -/
def Ov (w : World) (base : Nat) (v : Value) (vs : List Value) : Prop := w.ownsRow base 59 1 v vs.length vs
set_option maxRecDepth 100000 in
/-- append of a made slice's zeros, by its run. -/
theorem app_zeros {ops : Array Oper} {rest : List Oper} {o : Oper} {a : Act} {Q : Exit → Act → World → Prop} {w w' : World} {v' v x : Value} (hgd : o.guard = none) (s z : Operand) (ho : o.op = .call { callee := .builtin .append, args := #[s, z], argTypes := #[154, 3] })
    (hs : a.eval s = v) (hx : a.eval z = x) (hrun : ∀ ty, (Builtin.append_ #[154, 3] ty #[v, x]).run Tryz.prog w = .ok v' w') (h : wpList Tryz.prog ops Q rest (a.put o.dst v') w') : wpList Tryz.prog ops Q (o :: rest) a w := by
  refine wpList_plain hgd fun K hK => ?_
  unfold Oper.wp execOp
  simp only [ho, resolve, invoke, builtin, Sem.run_bind, Sem.run_pure, Result.andThen_ok, List.map_toArray, List.map_cons, List.map_nil, hs, hx, hrun]
  exact hK _ _ h
set_option maxRecDepth 100000 in
theorem grow_any (k : Nat) (hk : 1 ≤ k) (hk2 : k ≤ 1000) (w : World) :
    Calls Tryz.prog 156 #[.slice none 0 0, .int .i64 (k : Int)] w fun e w' => ∃ v', e = .returned v' ∧ Ov w' w.heap.size v' [] ∧ Below w.heap.size w w' := by
  obtain ⟨i, hi, hzz⟩ := Option.map_eq_some_iff.1 einfo
  simp only [Prod.mk.injEq] at hzz
  obtain ⟨hz, hs, hb⟩ := hzz
  have hrz : ∀ ty, (Builtin.append_ #[154, 3] ty #[.slice none 0 0, .int .i64 (k : Int)]).run Tryz.prog w = .ok (.slice (some ⟨w.heap.size, 0, none⟩) k (grownCap w k 0 59)) (w.drew.alloc (.cells (Builtin.zeroCells (Value.slice none 0 0).cells k ++ Builtin.zeroCells (Value.slice none 0 0).cells (grownCap w k 0 59 - k)) 59)) :=
    fun ty => Lib.run_append_nil_zeros w 154 3 ty 59 i (.slice none 0 0) .i64 .i64 eund iund hi hz k (by omega) (by omega) (by omega) (by rw [hb]; omega)
  have hge := grownCap_ge w k 0 59
  have hle := grownCap_le_maxLen w k 0 59 (by unfold maxLen; omega)
  have hsz : (Builtin.zeroCells (Value.slice none 0 0).cells k ++ Builtin.zeroCells (Value.slice none 0 0).cells (grownCap w k 0 59 - k)).size = grownCap w k 0 59 := by
    rw [Array.size_append, size_zeroCells, size_zeroCells, show (Value.slice none 0 0).cells.size = 1 from rfl]; omega
  generalize grownCap w k 0 59 = C at *
  generalize Builtin.zeroCells (Value.slice none 0 0).cells k ++ Builtin.zeroCells (Value.slice none 0 0).cells (C - k) = Z at *
  have HSZ := Lib.hid hsz; have HLE := Lib.hid hle; have HGE := Lib.hid hge
  have HRZ := Lib.hid hrz
  clear hsz hle hi hz hs hb hrz hge
  go_enter Tryz.func156, Tryz.ntmps156
  go_wp2_with (refine app_zeros rfl (.tmp 20) (.tmp 21) rfl rfl rfl HRZ.out ?_)
  go_ret
  refine ⟨_, rfl, ⟨rfl, .inr ⟨w.heap.size, C, Z, rfl, Nat.le_refl _, ?_, Nat.zero_le _, HLE.out, by rw [HSZ.out, Nat.mul_one], rfl⟩⟩, ?_⟩
  · exact heap_alloc_new w.drew _
  · exact (Below.refl _ w).drew.alloc (Nat.le_refl _) _

/-- The slice at A reads as the values vs. -/
def Rv (w : World) (A : Option Addr) (vs : List Value) : Prop := vs = [] ∨ ∃ b off, A = some ⟨b, off, none⟩ ∧ b < w.heap.size ∧ ∀ j v, vs[j]? = some v → w.cell? ⟨b, off + j, none⟩ = some v
set_option maxRecDepth 100000 in
theorem Rv.below {w w' : World} {A : Option Addr} {vs : List Value} (h : Rv w A vs) (hb : Below w.heap.size w w') : Rv w' A vs := by
  rcases h with h | ⟨b, off, h1, h2, h3⟩
  · exact .inl h
  · exact .inr ⟨b, off, h1, Nat.lt_of_lt_of_le h2 hb.size, fun j v hj => (hb.cell (p := ⟨b, off + j, none⟩) h2).trans (h3 j v hj)⟩
set_option maxRecDepth 100000 in
/-- append of slices to a row of the call's own. -/
theorem app_vals {ops : Array Oper} {rest : List Oper} {o : Oper} {a : Act} {Q : Exit → Act → World → Prop} {w : World} (s x : Operand) (base : Nat) (v : Value) (vs : List Value) (hown : Ov w base v vs) (A : Option Addr) (us : List Value) (n c : Nat) (hn : us.length = n)
    (hr : Rv w A us) (hA : A = none → c = 0) (h1 : ∀ u ∈ us, u.oneCell' = true) (hx1 : A = none → us = []) (hv : vs.length ≤ 10000) (hu : us.length ≤ 10000) (hbase : base ≤ w.heap.size) (hgd : o.guard = none)
    (ho : o.op = .call { callee := .builtin .append, args := #[s, x], argTypes := #[154, 154] }) (hs : a.eval s = v) (hx : a.eval x = .slice A n c)
    (h : ∀ v' w', Ov w' base v' (vs ++ us) → Below base w w' → wpList Tryz.prog ops Q rest (a.put o.dst v') w') : wpList Tryz.prog ops Q (o :: rest) a w := by
  obtain ⟨i, hi, hzz⟩ := Option.map_eq_some_iff.1 einfo
  simp only [Prod.mk.injEq] at hzz
  obtain ⟨hz, hsz, hb⟩ := hzz
  have hrun : ∃ v' w', (Builtin.append_ #[154, 154] o.type #[v, .slice A n c]).run Tryz.prog w = .ok v' w' ∧ Ov w' base v' (vs ++ us) ∧ Below base w w' := by
    subst hn
    cases A with
    | none =>
      obtain rfl := hA rfl
      obtain rfl := hx1 rfl
      exact ⟨v, w, run_append_owned_none (P := Tryz.prog) (w := w) base 154 o.type 59 i 1 eund hi v vs.length vs hown, by simpa using hown, Below.refl _ _⟩
    | some ad =>
      obtain ⟨v', w', e1, e2, e3, _, _⟩ := run_append_own_at (P := Tryz.prog) w base 154 o.type 59 i (.slice none 0 0) 1 24 eund hi hz hsz hb rfl (by decide) v vs.length vs hown ad us.length c us (by rw [Nat.mul_one])
        (fun j u hj => by
          rcases hr with h0 | ⟨b, off, h2, _, h3⟩
          · rw [h0] at hj; cases hj
          · injection h2 with h2
            subst h2
            rw [add_plain]; exact h3 j u hj) h1 (by unfold maxLen; omega) (by omega) hbase
      refine ⟨v', w', e1, by unfold Ov; rw [List.length_append]; exact e2, (Below.refl _ _).grown e3 hbase fun g hg => ?_⟩
      rcases hown.2 with ⟨hv, _⟩ | ⟨g', cap, cur, hv, hb', _⟩
      · rw [hv] at hg; simp [Value.ownBlock] at hg
      · rw [hv] at hg
        have : g' = g := by simpa [Value.ownBlock] using hg
        omega
  refine wpList_plain hgd fun K hK => ?_
  obtain ⟨v', w', e1, e2, e3⟩ := hrun
  unfold Oper.wp execOp
  simp only [ho, resolve, invoke, builtin, Sem.run_bind, Sem.run_pure, Result.andThen_ok, List.map_toArray, List.map_cons, List.map_nil, hs, hx, e1]
  exact hK _ _ (h v' w' e2 e3)

set_option maxRecDepth 100000 in
set_option maxHeartbeats 2000000 in
theorem concat_any (g : Nat) (A1 A2 : Option Addr) (c1 c2 : Nat) (us1 us2 : List Value) (w : World) (h0 : w.cell? ⟨g, 0, none⟩ = some (.slice A1 us1.length c1)) (h1 : w.cell? ⟨g, 1, none⟩ = some (.slice A2 us2.length c2))
    (r1 : Rv w A1 us1) (r2 : Rv w A2 us2) (n1 : A1 = none → c1 = 0) (n2 : A2 = none → c2 = 0) (m1 : A1 = none → us1 = []) (m2 : A2 = none → us2 = []) (o1 : ∀ u ∈ us1, u.oneCell' = true) (o2 : ∀ u ∈ us2, u.oneCell' = true) (l1 : us1.length ≤ 900) (l2 : us2.length = 1) :
    Calls Tryz.prog 124 #[.slice (some ⟨g, 0, none⟩) 2 2] w fun e w' => ∃ v', e = .returned v' ∧ Ov w' w.heap.size v' (us1 ++ us2) ∧ Below w.heap.size w w' := by
  obtain ⟨N1, hN1⟩ : ∃ N1, N1 = us1.length := ⟨_, rfl⟩
  have HG := Lib.hid (grow_any (N1 + 1) (by omega) (by omega) w)
  rw [show ((N1 + 1 : Nat) : Int) = (N1 : Int) + 1 by omega] at HG
  rw [l2] at h1
  rw [← hN1] at h0 l1
  have H0 := Lib.hid h0; have H1 := Lib.hid h1; have R1 := Lib.hid r1; have R2 := Lib.hid r2; have HN1 := Lib.hid hN1; have L2 := Lib.hid l2
  have M1 := Lib.hid m1; have M2 := Lib.hid m2; have O1 := Lib.hid o1; have O2 := Lib.hid o2; have E1 := Lib.hid n1; have E2 := Lib.hid n2
  clear r1 r2 m1 m2 o1 o2 n1 n2 hN1 l2
  go_enter Tryz.func124, Tryz.ntmps124
  go_wp2
  go_loopw [3, 11] (fun s i wr => ∃ j z : Nat, s = .int .i64 z ∧ i = .int .i64 j ∧ (j = 0 ∧ z = 0 ∨ j = 1 ∧ z = N1 ∨ j = 2 ∧ z = N1 + 1) ∧ w = wr) (fun _ i _ => 2 - (intOf i).toNat)
  case atStart => exact ⟨0, 0, rfl, rfl, .inl ⟨rfl, rfl⟩, rfl⟩
  case round =>
    obtain ⟨j, z, rfl, rfl, hj, rfl⟩ := hrel
    rcases hj with ⟨rfl, rfl⟩ | ⟨rfl, rfl⟩ | ⟨rfl, rfl⟩
    · have h0 := H0.out
      clear H1
      go_wp2
      exact ⟨⟨1, N1, rfl, rfl, by omega, trivial⟩, by simp [intOf]⟩
    · have h1 := H1.out
      clear H0
      go_wp2
      exact ⟨⟨2, z + 1, by go_num, rfl, by omega, trivial⟩, by simp [intOf]⟩
    · clear h0 h1
      go_wp2_with (go_at_call 156; refine HG.out.mono ?_; rintro e w2 ⟨v2, rfl, hov, hb⟩; have V2 := Lib.hid hov; have B2 := Lib.hid hb; clear hov hb)
      go_loopw [6, 27] (fun v i wr => ∃ (j : Nat) (vs : List Value), i = .int .i64 j ∧ (j = 0 ∨ j = 1 ∨ j = 2) ∧ Hid (j = 0 ∧ vs = [] ∨ j = 1 ∧ vs = us1 ∨ j = 2 ∧ vs = us1 ++ us2) ∧ Hid (Ov wr w.heap.size v vs) ∧ Hid (Below w.heap.size w wr)) (fun _ i _ => 2 - (intOf i).toNat)
      case atStart => exact ⟨0, [], rfl, .inl rfl, Lib.hid (.inl ⟨rfl, rfl⟩), V2, B2⟩
      case round =>
        clear V2 B2
        obtain ⟨j, vs, rfl, hj, HV, V, B⟩ := hrel
        rcases hj with rfl | rfl | rfl
        · obtain rfl : vs = [] := by rcases HV.out with h | h | h <;> first | exact h.2 | (have := h.1; omega)
          have h0 := (B.out.cell (p := ⟨g, 0, none⟩) (World.block_lt_of_cell? _ _ H0.out)).trans H0.out
          go_wp2_with (refine app_vals (.tmp 31) (.tmp 32) w.heap.size _ [] V.out A1 us1 N1 c1 HN1.out.symm (R1.out.below B.out) E1.out O1.out M1.out (by simp) (by have := HN1.out; omega) B.out.size rfl rfl rfl rfl ?_; intro v3 w3 hv3 hb3; have V3 := Lib.hid hv3; have B3 := Lib.hid (B.out.trans hb3); clear hv3 hb3)
          exact ⟨⟨1, us1, rfl, .inr (.inl rfl), Lib.hid (.inr (.inl ⟨rfl, rfl⟩)), V3, B3⟩, by simp [intOf]⟩
        · obtain rfl : vs = us1 := by rcases HV.out with h | h | h <;> first | exact h.2 | (have := h.1; omega)
          have h1 := (B.out.cell (p := ⟨g, 1, none⟩) (World.block_lt_of_cell? _ _ H1.out)).trans H1.out
          go_wp2_with (refine app_vals (.tmp 31) (.tmp 32) w.heap.size _ vs V.out A2 us2 1 c2 L2.out (R2.out.below B.out) E2.out O2.out M2.out (by have := HN1.out; omega) (by have := L2.out; omega) B.out.size rfl rfl rfl rfl ?_; intro v3 w3 hv3 hb3; have V3 := Lib.hid hv3; have B3 := Lib.hid (B.out.trans hb3); clear hv3 hb3)
          exact ⟨⟨2, vs ++ us2, rfl, .inr (.inr rfl), Lib.hid (.inr (.inr ⟨rfl, rfl⟩)), V3, B3⟩, by simp [intOf]⟩
        · obtain rfl : vs = us1 ++ us2 := by rcases HV.out with h | h | h <;> first | exact h.2 | (have := h.1; omega)
          go_wp2
          go_ret
          exact ⟨_, rfl, V.out, B.out⟩

end Go.Proofs.YtiamggjebaabkaaGreatDoor
