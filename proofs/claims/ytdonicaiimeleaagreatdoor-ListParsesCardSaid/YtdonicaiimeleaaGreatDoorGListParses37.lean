/- Merged: ShaL, ShaP. -/
import Derived.Test.YtdonicaiimeleaaGreatDoorGListParses36
import Derived.Lib.AppendZeros
import Derived.Maps.AppendAt
namespace Go.Proofs.YtdonicaiimeleaaGreatDoor
open Go.RowKit Go.WideShapes Go.ChangeShapes
set_option linter.unusedVariables false

/-- What isn't one's own, and lay below W's end, lies as it lay. -/
def KB (own : Nat → Prop) (W w : World) : Prop := ∀ j o, ¬ own j → W.heap[j]? = some o → o.isCells = true → w.heap[j]? = some o
theorem KB.refl (own : Nat → Prop) (W : World) : KB own W W := fun _ _ _ h _ => h
theorem KB.keeps {own : Nat → Prop} {W A B : World} (h : KB own W A) (k : Keeps own A B) : KB own W B := fun j o h1 h2 h3 => k j o h1 (h j o h1 h2 h3) h3
theorem KB.below {own : Nat → Prop} {W A B : World} (h : KB own W A) (k : Below W.heap.size A B) : KB own W B := fun j o h1 h2 h3 => (k.block j (Array.getElem?_eq_some_iff.1 h2).1).trans (h j o h1 h2 h3)
theorem KB.cell {own : Nat → Prop} {W A : World} (h : KB own W A) {p : Addr} {v : Value} (hp : ¬ own p.block) (hc : W.cell? p = some v) : A.cell? p = some v := by
  unfold World.cell? at hc
  cases e : W.heap[p.block]? with
  | none => rw [e] at hc; cases hc
  | some o =>
    rw [e] at hc
    cases o with
    | cells cs t fr =>
      have h2 := h _ _ hp e rfl
      unfold World.cell?
      rw [h2]; exact hc
    | _ => cases hc
/-- An address that lies in no block of one's own. -/
def NO (own : Nat → Prop) (A : Option Addr) (l : List UInt8) : Prop := l = [] ∨ ∀ a, A = some a → ¬ own a.block
theorem NO.take {own : Nat → Prop} {A : Option Addr} {l : List UInt8} (h : NO own A l) (n : Nat) : NO own A (l.take n) := by
  rcases h with h | h
  · left; rw [h]; simp
  · exact .inr h
theorem Rb.kb {own : Nat → Prop} {W w : World} {A : Option Addr} {l : List UInt8} (h : Rb W A l) (hn : NO own A l) (k : KB own W w) : Rb w A l := by
  refine ⟨h.1, ?_⟩
  rcases h.2 with h0 | ⟨b, off, h1, h2, h3⟩
  · exact .inl h0
  · cases hz : nums l with
    | nil => exact .inl rfl
    | cons z zs =>
      have hn : ∀ a, A = some a → ¬ own a.block := by
        rcases hn with e | e
        · rw [e] at hz; cases hz
        · exact e
      have c0 := k.cell (p := ⟨b, off + 0, none⟩) (show ¬ own b from hn _ h1) (h3 0 z (by rw [hz]; rfl))
      exact .inr ⟨b, off, h1, World.block_lt_of_cell? _ _ c0, fun j y hj => k.cell (p := ⟨b, off + j, none⟩) (show ¬ own b from hn _ h1) (h3 j y (by rw [hz]; exact hj))⟩
/-- What is left behind n bytes. -/
theorem rest_of {own : Nat → Prop} {W : World} {A : Option Addr} {l : List UInt8} {c n : Nat} (h : Rb W A l) (hn : NO own A l) (hA : A = none → c = 0) (hc : l.length ≤ c) (hl : n ≤ l.length) :
    ∃ A' c', (∀ w', (Instr.slice 84 (.slice A l.length c) (some (.int .i64 (n : Int))) none none).run Tryz.prog w' = .ok (.slice A' (l.drop n).length c') w') ∧ Rb W A' (l.drop n) ∧ (A' = none → c' = 0) ∧ (l.drop n).length ≤ c' ∧ NO own A' (l.drop n) := by
  refine ⟨if c = n then A else A.map (·.add n), c - n, fun w' => ?_, ?_, ?_, by simp; omega, ?_⟩
  · rw [run_slice_l w' 84 A l.length c bslice .i64 (n : Int) (by omega) (by omega), bsize]
    simp [Result.andThen, sliced]
  · split
    · rename_i e
      have : l.drop n = [] := List.drop_eq_nil_of_le (by omega)
      rw [this]; exact Rb.nil _
    · cases A with
      | none =>
        rw [h.none_]
        simp only [List.drop_nil]
        exact Rb.nil _
      | some a =>
        rcases h.2 with h0 | ⟨b, off, e, _⟩
        · have e : l = [] := by unfold nums at h0; simpa using h0
          rw [e]
          simp only [List.drop_nil]
          exact Rb.nil _
        · injection e with e
          subst e
          rw [Option.map_some, add_plain]
          exact h.drop_ n
  · split
    · intro e; have := hA e; omega
    · intro e
      have : A = none := by simpa using e
      have := hA this; omega
  · rcases hn with e | hn
    · left; rw [e]; simp
    right
    split
    · exact hn
    · intro a ha
      cases A with
      | none => cases ha
      | some a0 =>
        rw [Option.map_some] at ha
        injection ha with ha
        rw [← ha]
        have hb : (a0.add n).block = a0.block := by unfold Addr.add; split <;> rfl
        rw [hb]; exact hn a0 rfl

/-- Parts: where each lies, its bytes, its room. -/
abbrev Pt := Option Addr × List UInt8 × Nat
def cat (ps : List Pt) : List UInt8 := ps.flatMap fun p => p.2.1
/-- The slice at Ap reads as the parts ps. -/
def Ps (own : Nat → Prop) (W : World) (Ap : Option Addr) (ps : List Pt) : Prop := ∀ j A l c, ps[j]? = some (A, l, c) →
  (∃ b off, Ap = some ⟨b, off, none⟩ ∧ ¬ own b ∧ W.cell? ⟨b, off + j, none⟩ = some (.slice A l.length c)) ∧ Rb W A l ∧ (A = none → c = 0) ∧ l.length ≤ c ∧ NO own A l
/-- A text's blocks. -/
def blk9 (T : List UInt8) (k : Nat) : List UInt8 := (T.drop (64 * k)).take 64
def blks (T : List UInt8) (K : Nat) : List (List UInt8) := (List.range K).map (blk9 T)
theorem blks_len (T : List UInt8) (K : Nat) : (blks T K).length = K := by simp [blks]
theorem blks_at {T : List UInt8} {K k : Nat} (h : k < K) : (blks T K)[k]? = some (blk9 T k) := by simp [blks, h]
/-- Bytes behind those that fill a block's beginning. -/
theorem fills9 {T Z r rest : List UInt8} {f k t : Nat} (hZ : Z.length = 64) (hf : f + t ≤ 64) (ht : t ≤ r.length) (h1 : Z.take f = (T.drop (64 * k)).take f) (h2 : T.drop (64 * k + f) = r ++ rest) :
    (splice Z f (r.take t)).length = 64 ∧ (splice Z f (r.take t)).take (f + t) = (T.drop (64 * k)).take (f + t) ∧ T.drop (64 * k + (f + t)) = r.drop t ++ rest := by
  have e1 : (r.take t).length = t := by rw [List.length_take]; omega
  refine ⟨by rw [splice_len (by rw [e1]; omega)]; exact hZ, ?_, ?_⟩
  · unfold splice
    rw [← List.append_assoc, List.take_append_of_le_length (by rw [List.length_append, List.length_take, e1]; omega), List.take_of_length_le (by rw [List.length_append, List.length_take, e1]; omega), h1]
    have e2 : r.take t = ((T.drop (64 * k)).drop f).take t := by rw [List.drop_drop, h2, List.take_append_of_le_length ht]
    rw [e2, ← List.take_add]
  · rw [← Nat.add_assoc, ← List.drop_drop, h2, List.drop_append_of_le_length ht]

/-- A load of a whole array, in a fenced walk. -/
theorem load_in {F : Fence} {n : Nat} {ops : Array Oper} {rest : List Oper} {o : Oper} {a : Act} {w : World} {Q : Exit → Act → World → Prop} (hgd : o.guard = none) (ty : TypeId) (x : Operand) (ho : o.op = .load ty x)
    (g : Nat) (hx : a.eval x = .pointer (some ⟨g, 0, none⟩)) (t : TypeId) (cs : Array Value) (fr : Nat × Nat) (len : Nat) (el : TypeId) (hg : w.heap[g]? = some (.cells cs t fr))
    (hu : Tryz.prog.underlying ty = some (.array len el)) (hi : (Tryz.prog.info? ty).map (·.size) = some cs.size)
    (h : wpListIn F n Tryz.prog ops Q rest (a.put o.dst (.agg cs)) w) : wpListIn F n Tryz.prog ops Q (o :: rest) a w := by
  refine wpListIn_plain hgd fun K hK => ?_
  unfold Oper.wpIn
  refine ⟨?_, ?_⟩
  · simp [Oper.about, ho]
  · rw [Oper.semAt_plain F _ _ (by rw [ho]; intro c hc'; cases hc')]
    simp only [execOp, ho, hx, Instr.loadAt, Instr.sureAddr, Sem.run_bind, Sem.run_pure, Result.andThen_ok, run_loadVar_row w g t ty cs fr _ hg hu rfl hi]
    exact hK _ _ h

end Go.Proofs.YtdonicaiimeleaaGreatDoor

namespace Go.Proofs.YtdonicaiimeleaaGreatDoor
open Go.RowKit Go.WideShapes Go.ChangeShapes
set_option linter.unusedVariables false

set_option maxRecDepth 100000 in
theorem einfo : (Tryz.prog.info? 84).map (fun i => (i.zero, i.size, i.bytes)) = some (some (.slice none 0 0), 1, 24) := by kernel_rfl
set_option maxRecDepth 100000 in
theorem eund : Tryz.prog.underlying 173 = some (.slice 84) := by kernel_rfl
set_option maxRecDepth 100000 in
theorem iund : Tryz.prog.underlying 3 = some (.int .i64) := by kernel_rfl
/-- A row of slices of the call's own. -/
def Ov (w : World) (base : Nat) (v : Value) (vs : List Value) : Prop := w.ownsRow base 84 1 v vs.length vs
set_option maxRecDepth 100000 in
/-- append of a made slice's zeros, by its run. -/
theorem app_zeros {ops : Array Oper} {rest : List Oper} {o : Oper} {a : Act} {Q : Exit → Act → World → Prop} {w w' : World} {v' v x : Value} (hgd : o.guard = none) (s z : Operand) (ho : o.op = .call { callee := .builtin .append, args := #[s, z], argTypes := #[173, 3] })
    (hs : a.eval s = v) (hx : a.eval z = x) (hrun : ∀ ty, (Builtin.append_ #[173, 3] ty #[v, x]).run Tryz.prog w = .ok v' w') (h : wpList Tryz.prog ops Q rest (a.put o.dst v') w') : wpList Tryz.prog ops Q (o :: rest) a w := by
  refine wpList_plain hgd fun K hK => ?_
  unfold Oper.wp execOp
  simp only [ho, resolve, invoke, builtin, Sem.run_bind, Sem.run_pure, Result.andThen_ok, List.map_toArray, List.map_cons, List.map_nil, hs, hx, hrun]
  exact hK _ _ h
set_option maxRecDepth 100000 in
theorem grow_any (k : Nat) (hk : 1 ≤ k) (hk2 : k ≤ 1000) (w : World) :
    Calls Tryz.prog 172 #[.slice none 0 0, .int .i64 (k : Int)] w fun e w' => ∃ v', e = .returned v' ∧ Ov w' w.heap.size v' [] ∧ Below w.heap.size w w' := by
  obtain ⟨i, hi, hzz⟩ := Option.map_eq_some_iff.1 einfo
  simp only [Prod.mk.injEq] at hzz
  obtain ⟨hz, hs, hb⟩ := hzz
  have hrz : ∀ ty, (Builtin.append_ #[173, 3] ty #[.slice none 0 0, .int .i64 (k : Int)]).run Tryz.prog w = .ok (.slice (some ⟨w.heap.size, 0, none⟩) k (grownCap w k 0 84)) (w.drew.alloc (.cells (Builtin.zeroCells (Value.slice none 0 0).cells k ++ Builtin.zeroCells (Value.slice none 0 0).cells (grownCap w k 0 84 - k)) 84)) :=
    fun ty => Lib.run_append_nil_zeros w 173 3 ty 84 i (.slice none 0 0) .i64 .i64 eund iund hi hz k (by omega) (by omega) (by omega) (by rw [hb]; omega)
  have hge := grownCap_ge w k 0 84
  have hle := grownCap_le_maxLen w k 0 84 (by unfold maxLen; omega)
  have hsz : (Builtin.zeroCells (Value.slice none 0 0).cells k ++ Builtin.zeroCells (Value.slice none 0 0).cells (grownCap w k 0 84 - k)).size = grownCap w k 0 84 := by
    rw [Array.size_append, size_zeroCells, size_zeroCells, show (Value.slice none 0 0).cells.size = 1 from rfl]; omega
  generalize grownCap w k 0 84 = C at *
  generalize Builtin.zeroCells (Value.slice none 0 0).cells k ++ Builtin.zeroCells (Value.slice none 0 0).cells (C - k) = Z at *
  have HSZ := Lib.hid hsz; have HLE := Lib.hid hle; have HGE := Lib.hid hge
  have HRZ := Lib.hid hrz
  clear hsz hle hi hz hs hb hrz hge
  go_enter Tryz.func172, Tryz.ntmps172
  go_wp2_with (refine app_zeros rfl (.tmp 20) (.tmp 21) rfl rfl rfl HRZ.out ?_)
  go_ret
  refine ⟨_, rfl, ⟨rfl, .inr ⟨w.heap.size, C, Z, rfl, Nat.le_refl _, ?_, Nat.zero_le _, HLE.out, by rw [HSZ.out, Nat.mul_one], rfl⟩⟩, ?_⟩
  · exact heap_alloc_new w.drew _
  · exact (Below.refl _ w).drew.alloc (Nat.le_refl _) _

/-- The slice at A reads as the values vs. -/
def Rv (w : World) (A : Option Addr) (vs : List Value) : Prop := vs = [] ∨ ∃ b off, A = some ⟨b, off, none⟩ ∧ b < w.heap.size ∧ ∀ j v, vs[j]? = some v → w.cell? ⟨b, off + j, none⟩ = some v
set_option maxRecDepth 100000 in
theorem Rv.below {w w' : World} {A : Option Addr} {vs : List Value} (h : Rv w A vs) (hb : Below w.heap.size w w') : Rv w' A vs := by
  rcases h with h | ⟨b, off, h1, h2, h3⟩
  · exact .inl h
  · exact .inr ⟨b, off, h1, Nat.lt_of_lt_of_le h2 hb.size, fun j v hj => (hb.cell (p := ⟨b, off + j, none⟩) h2).trans (h3 j v hj)⟩
set_option maxRecDepth 100000 in
/-- append of slices to a row of the call's own. -/
theorem app_vals {ops : Array Oper} {rest : List Oper} {o : Oper} {a : Act} {Q : Exit → Act → World → Prop} {w : World} (s x : Operand) (base : Nat) (v : Value) (vs : List Value) (hown : Ov w base v vs) (A : Option Addr) (us : List Value) (n c : Nat) (hn : us.length = n)
    (hr : Rv w A us) (hA : A = none → c = 0) (h1 : ∀ u ∈ us, u.oneCell' = true) (hx1 : A = none → us = []) (hv : vs.length ≤ 10000) (hu : us.length ≤ 10000) (hbase : base ≤ w.heap.size) (hgd : o.guard = none)
    (ho : o.op = .call { callee := .builtin .append, args := #[s, x], argTypes := #[173, 173] }) (hs : a.eval s = v) (hx : a.eval x = .slice A n c)
    (h : ∀ v' w', Ov w' base v' (vs ++ us) → Below base w w' → wpList Tryz.prog ops Q rest (a.put o.dst v') w') : wpList Tryz.prog ops Q (o :: rest) a w := by
  obtain ⟨i, hi, hzz⟩ := Option.map_eq_some_iff.1 einfo
  simp only [Prod.mk.injEq] at hzz
  obtain ⟨hz, hsz, hb⟩ := hzz
  have hrun : ∃ v' w', (Builtin.append_ #[173, 173] o.type #[v, .slice A n c]).run Tryz.prog w = .ok v' w' ∧ Ov w' base v' (vs ++ us) ∧ Below base w w' := by
    subst hn
    cases A with
    | none =>
      obtain rfl := hA rfl
      obtain rfl := hx1 rfl
      exact ⟨v, w, run_append_owned_none (P := Tryz.prog) (w := w) base 173 o.type 84 i 1 eund hi v vs.length vs hown, by simpa using hown, Below.refl _ _⟩
    | some ad =>
      obtain ⟨v', w', e1, e2, e3, _, _⟩ := run_append_own_at (P := Tryz.prog) w base 173 o.type 84 i (.slice none 0 0) 1 24 eund hi hz hsz hb rfl (by decide) v vs.length vs hown ad us.length c us (by rw [Nat.mul_one])
        (fun j u hj => by
          rcases hr with h0 | ⟨b, off, h2, _, h3⟩
          · rw [h0] at hj; cases hj
          · injection h2 with h2
            subst h2
            rw [add_plain]; exact h3 j u hj) h1 (by unfold maxLen; omega) (by omega) hbase
      refine ⟨v', w', e1, by unfold Ov; rw [List.length_append]; exact e2, (Below.refl _ _).grown e3 hbase fun g hg => ?_⟩
      rcases hown.2 with ⟨hv, _⟩ | ⟨g', cap, cur, hv, hb', _⟩
      · rw [hv] at hg; simp [Value.ownBlock] at hg
      · rw [hv] at hg
        have : g' = g := by simpa [Value.ownBlock] using hg
        omega
  refine wpList_plain hgd fun K hK => ?_
  obtain ⟨v', w', e1, e2, e3⟩ := hrun
  unfold Oper.wp execOp
  simp only [ho, resolve, invoke, builtin, Sem.run_bind, Sem.run_pure, Result.andThen_ok, List.map_toArray, List.map_cons, List.map_nil, hs, hx, e1]
  exact hK _ _ (h v' w' e2 e3)

set_option maxRecDepth 100000 in
set_option maxHeartbeats 2000000 in
theorem concat_any (g : Nat) (A1 A2 : Option Addr) (c1 c2 : Nat) (us1 us2 : List Value) (w : World) (h0 : w.cell? ⟨g, 0, none⟩ = some (.slice A1 us1.length c1)) (h1 : w.cell? ⟨g, 1, none⟩ = some (.slice A2 us2.length c2))
    (r1 : Rv w A1 us1) (r2 : Rv w A2 us2) (n1 : A1 = none → c1 = 0) (n2 : A2 = none → c2 = 0) (m1 : A1 = none → us1 = []) (m2 : A2 = none → us2 = []) (o1 : ∀ u ∈ us1, u.oneCell' = true) (o2 : ∀ u ∈ us2, u.oneCell' = true) (l1 : us1.length ≤ 900) (l2 : us2.length = 1) :
    Calls Tryz.prog 138 #[.slice (some ⟨g, 0, none⟩) 2 2] w fun e w' => ∃ v', e = .returned v' ∧ Ov w' w.heap.size v' (us1 ++ us2) ∧ Below w.heap.size w w' := by
  obtain ⟨N1, hN1⟩ : ∃ N1, N1 = us1.length := ⟨_, rfl⟩
  have HG := Lib.hid (grow_any (N1 + 1) (by omega) (by omega) w)
  rw [show ((N1 + 1 : Nat) : Int) = (N1 : Int) + 1 by omega] at HG
  rw [l2] at h1
  rw [← hN1] at h0 l1
  have H0 := Lib.hid h0; have H1 := Lib.hid h1; have R1 := Lib.hid r1; have R2 := Lib.hid r2; have HN1 := Lib.hid hN1; have L2 := Lib.hid l2
  have M1 := Lib.hid m1; have M2 := Lib.hid m2; have O1 := Lib.hid o1; have O2 := Lib.hid o2; have E1 := Lib.hid n1; have E2 := Lib.hid n2
  clear r1 r2 m1 m2 o1 o2 n1 n2 hN1 l2
  go_enter Tryz.func138, Tryz.ntmps138
  go_wp2
  go_loopw [3, 11] (fun s i wr => ∃ j z : Nat, s = .int .i64 z ∧ i = .int .i64 j ∧ (j = 0 ∧ z = 0 ∨ j = 1 ∧ z = N1 ∨ j = 2 ∧ z = N1 + 1) ∧ w = wr) (fun _ i _ => 2 - (intOf i).toNat)
  case atStart => exact ⟨0, 0, rfl, rfl, .inl ⟨rfl, rfl⟩, rfl⟩
  case round =>
    obtain ⟨j, z, rfl, rfl, hj, rfl⟩ := hrel
    rcases hj with ⟨rfl, rfl⟩ | ⟨rfl, rfl⟩ | ⟨rfl, rfl⟩
    · have h0 := H0.out
      clear H1
      go_wp2
      exact ⟨⟨1, N1, rfl, rfl, by omega, trivial⟩, by simp [intOf]⟩
    · have h1 := H1.out
      clear H0
      go_wp2
      exact ⟨⟨2, z + 1, by go_num, rfl, by omega, trivial⟩, by simp [intOf]⟩
    · clear h0 h1
      go_wp2_with (go_at_call 172; refine HG.out.mono ?_; rintro e w2 ⟨v2, rfl, hov, hb⟩; have V2 := Lib.hid hov; have B2 := Lib.hid hb; clear hov hb)
      go_loopw [6, 27] (fun v i wr => ∃ (j : Nat) (vs : List Value), i = .int .i64 j ∧ (j = 0 ∨ j = 1 ∨ j = 2) ∧ Hid (j = 0 ∧ vs = [] ∨ j = 1 ∧ vs = us1 ∨ j = 2 ∧ vs = us1 ++ us2) ∧ Hid (Ov wr w.heap.size v vs) ∧ Hid (Below w.heap.size w wr)) (fun _ i _ => 2 - (intOf i).toNat)
      case atStart => exact ⟨0, [], rfl, .inl rfl, Lib.hid (.inl ⟨rfl, rfl⟩), V2, B2⟩
      case round =>
        clear V2 B2
        obtain ⟨j, vs, rfl, hj, HV, V, B⟩ := hrel
        rcases hj with rfl | rfl | rfl
        · obtain rfl : vs = [] := by rcases HV.out with h | h | h <;> first | exact h.2 | (have := h.1; omega)
          have h0 := (B.out.cell (p := ⟨g, 0, none⟩) (World.block_lt_of_cell? _ _ H0.out)).trans H0.out
          go_wp2_with (refine app_vals (.tmp 31) (.tmp 32) w.heap.size _ [] V.out A1 us1 N1 c1 HN1.out.symm (R1.out.below B.out) E1.out O1.out M1.out (by simp) (by have := HN1.out; omega) B.out.size rfl rfl rfl rfl ?_; intro v3 w3 hv3 hb3; have V3 := Lib.hid hv3; have B3 := Lib.hid (B.out.trans hb3); clear hv3 hb3)
          exact ⟨⟨1, us1, rfl, .inr (.inl rfl), Lib.hid (.inr (.inl ⟨rfl, rfl⟩)), V3, B3⟩, by simp [intOf]⟩
        · obtain rfl : vs = us1 := by rcases HV.out with h | h | h <;> first | exact h.2 | (have := h.1; omega)
          have h1 := (B.out.cell (p := ⟨g, 1, none⟩) (World.block_lt_of_cell? _ _ H1.out)).trans H1.out
          go_wp2_with (refine app_vals (.tmp 31) (.tmp 32) w.heap.size _ vs V.out A2 us2 1 c2 L2.out (R2.out.below B.out) E2.out O2.out M2.out (by have := HN1.out; omega) (by have := L2.out; omega) B.out.size rfl rfl rfl rfl ?_; intro v3 w3 hv3 hb3; have V3 := Lib.hid hv3; have B3 := Lib.hid (B.out.trans hb3); clear hv3 hb3)
          exact ⟨⟨2, vs ++ us2, rfl, .inr (.inr rfl), Lib.hid (.inr (.inr ⟨rfl, rfl⟩)), V3, B3⟩, by simp [intOf]⟩
        · obtain rfl : vs = us1 ++ us2 := by rcases HV.out with h | h | h <;> first | exact h.2 | (have := h.1; omega)
          go_wp2
          go_ret
          exact ⟨_, rfl, V.out, B.out⟩

end Go.Proofs.YtdonicaiimeleaaGreatDoor
