/- Merged: LeapA, DayA, DayB. -/
import Derived.Test.YtdonicaiimeleaaGreatDoorGListParses13
import Derived.Test.YtdonicaiimeleaaGreatDoorGListParses1
import Derived.Deep.LoopGhost
import Derived.Deep.Draws
import Derived.Deep.QuietTactic
import Derived.BigQuiet
import Derived.Shelf.Abstract
import Derived.Laws.AppendOwn
import Derived.Laws.AppendOwnNone
import Derived.Laws.OwnMore
import Derived.Laws.StructEq
import Derived.OwnWalk
import Derived.Carry
import Derived.Lib.SliceRun
import Derived.Lib.LaidTab
import Derived.Lib.SmallJoins
namespace Go.Proofs.YtdonicaiimeleaaGreatDoor
open Go.RowKit Go.WideShapes Go.ChangeShapes
set_option linter.unusedVariables false

/-- The slice at A, in a block below B, reads as the rows L. -/
def Rp (B : Nat) (w : World) (A : Option Addr) (L : List Rw) : Prop :=
  L = [] ∨ ∃ b off, A = some ⟨b, off, none⟩ ∧ b < B ∧ b < w.heap.size ∧ ∀ j, j < L.length → w.cell? ⟨b, off + j * 2, none⟩ = some (.int .i64 (rd L j)) ∧ w.cell? ⟨b, off + j * 2 + 1, none⟩ = some (.int .i64 (ro L j))
theorem Rp.below {B : Nat} {w w' : World} {A : Option Addr} {L : List Rw} (h : Rp B w A L) (hb : Below B w w') : Rp B w' A L := by
  rcases h with h | ⟨b, off, h1, h2, h4, h3⟩
  · exact .inl h
  · exact .inr ⟨b, off, h1, h2, Nat.lt_of_lt_of_le h4 hb.size, fun j hj => ⟨(hb.cell (p := ⟨b, off + j * 2, none⟩) h2).trans (h3 j hj).1, (hb.cell (p := ⟨b, off + j * 2 + 1, none⟩) h2).trans (h3 j hj).2⟩⟩
theorem Rp.mono {B C : Nat} {w : World} {A : Option Addr} {L : List Rw} (h : Rp B w A L) (hb : B ≤ C) : Rp C w A L := by
  rcases h with h | ⟨b, off, h1, h2, h4, h3⟩
  · exact .inl h
  · exact .inr ⟨b, off, h1, Nat.lt_of_lt_of_le h2 hb, h4, h3⟩
/-- It lies below the heap's size. -/
theorem Rp.low {B : Nat} {w : World} {A : Option Addr} {L : List Rw} (h : Rp B w A L) : Rp w.heap.size w A L := by
  rcases h with h | ⟨b, off, h1, h2, h4, h3⟩
  · exact .inl h
  · exact .inr ⟨b, off, h1, h4, h4, h3⟩
theorem Rp.keep {B : Nat} {w w' : World} {A : Option Addr} {L : List Rw} (h : Rp B w A L) (hb : Below w.heap.size w w') : Rp w.heap.size w' A L := h.low.below hb
theorem Rp.pos {B : Nat} {w : World} {A : Option Addr} {L : List Rw} (h : Rp B w A L) (hL : 0 < L.length) : ∃ b off, A = some ⟨b, off, none⟩ ∧ b < B ∧ b < w.heap.size ∧ ∀ j, j < L.length → w.cell? ⟨b, off + j * 2, none⟩ = some (.int .i64 (rd L j)) ∧ w.cell? ⟨b, off + j * 2 + 1, none⟩ = some (.int .i64 (ro L j)) := by
  rcases h with h | h
  · rw [h] at hL; simp at hL
  · exact h
theorem Rp.drop {B : Nat} {w : World} {b off : Nat} {L : List Rw} (h : Rp B w (some ⟨b, off, none⟩) L) (k : Nat) : Rp B w (some ⟨b, off + k * 2, none⟩) (L.drop k) := by
  rcases h with h | ⟨b', off', h1, h2, h4, h3⟩
  · exact .inl (by rw [h]; simp)
  · injection h1 with h1
    injection h1 with h1 h5
    subst h1; subst h5
    refine .inr ⟨b, off + k * 2, rfl, h2, h4, fun j hj => ?_⟩
    rw [rd_drop, ro_drop, show off + k * 2 + j * 2 = off + (k + j) * 2 by omega]
    exact h3 (k + j) (by simp at hj; omega)

/-- A row's value. -/
def rv (L : List Rw) (j : Nat) : Value := .agg #[.int .i64 (rd L j), .int .i64 (ro L j)]

open Classical in
set_option maxHeartbeats 4000000 in
/-- The first row that a function of rows tells true of, if there is one: the function may change what lies at B and above; I k: what stands there when k rows were told false of. -/
theorem index_any (g : Nat) (lb : Array Value) (B : Nat) (A : Option Addr) (c : Nat) (L : List Rw) (I : Nat → World → Prop) (p : Nat → Bool) (w : World) (eg : ∀ args w, (callFunc g args).run Tryz.prog w = .ok (.enter g args) w)
    (hn : L.length < 4611686018427387904) (hr : Rp B w A L) (hB : B ≤ w.heap.size) (h0 : I 0 w)
    (hf : ∀ (j : Nat) (W : World), j < L.length → I j W → Below B w W → Calls Tryz.prog g (#[rv L j] ++ lb) W fun e w' => e = .returned (.bool (p j)) ∧ Below B w w' ∧ (p j = false → I (j + 1) w')) :
    Calls Tryz.prog 100 #[.slice A L.length c, .func (.func g) #[] lb] w fun e w' => ∃ r : Int, e = .returned (.int .i64 r) ∧ decide (0 ≤ r) = decide (∃ j, j < L.length ∧ p j = true) ∧ Below B w w' := by
  have HF := Lib.hid hf
  have HR := Lib.hid hr
  have H0 := Lib.hid h0
  clear hf hr h0
  go_enter Tryz.func100, Tryz.ntmps100
  go_wp2
  go_loopg [5, 8] L.length (fun gg _ s8 wr => ∃ kk : Nat, kk ≤ L.length ∧ L.length - kk ≤ gg ∧ s8 = .int .i64 kk ∧ Hid (Below B w wr) ∧ Hid (I kk wr) ∧ Hid (∀ j, j < kk → p j = false))
  case atStart => exact ⟨0, Nat.zero_le _, by omega, rfl, Lib.hid (Below.refl _ w), H0, Lib.hid fun j hj => absurd hj (Nat.not_lt_zero _)⟩
  case round =>
    obtain ⟨kk, hkk, hg, rfl, BW, IW, F⟩ := hrel
    by_cases hlt : kk < L.length
    · have hltz : (kk : Int) < (L.length : Int) := by omega
      obtain ⟨b, off, rfl, hb1, hb2, hc⟩ := (HR.out.below BW.out).pos (by omega)
      obtain ⟨c1, c2⟩ := hc kk hlt
      have hcall := HF.out kk wr hlt IW.out BW.out
      unfold rv at hcall
      clear hc HR hb1 hb2
      have HC := Lib.hid hcall
      clear hcall
      cases hq : p kk with
      | true =>
        go_wp2_with (go_at_fn g; refine HC.out.mono ?_; rintro e w' ⟨rfl, hb', -⟩; rw [hq])
        go_ret
        exact ⟨_, rfl, by rw [decide_eq_true (p := (0 : Int) ≤ (kk : Int)) (by omega), decide_eq_true ⟨kk, hlt, hq⟩], hb'⟩
      | false =>
        go_wp2_with (go_at_fn g; refine HC.out.mono ?_; rintro e w' ⟨rfl, hb', hi'⟩; rw [hq]; have IW' := Lib.hid (hi' hq); clear hi')
        go_roundg (L.length - (kk + 1))
        case measure => omega
        case rel =>
          refine ⟨kk + 1, by omega, by omega, by go_num, Lib.hid hb', IW', Lib.hid fun j hj => ?_⟩
          by_cases e : j = kk
          · subst e; exact hq
          · exact F.out j (by omega)
    · have hltz : ¬ (kk : Int) < (L.length : Int) := by omega
      obtain rfl : L.length = kk := by omega
      go_wp2
      go_ret
      refine ⟨_, rfl, ?_, BW.out⟩
      suffices hno : ¬ ∃ j, j < L.length ∧ p j = true by
        exact ⟨fun h => absurd h (by decide), fun h => absurd h hno⟩
      rintro ⟨j, hj, hp⟩
      rw [F.out j hj] at hp
      cases hp

open Classical in
set_option maxHeartbeats 1000000 in
theorem contains_any (g : Nat) (lb : Array Value) (B : Nat) (A : Option Addr) (c : Nat) (L : List Rw) (I : Nat → World → Prop) (p : Nat → Bool) (w : World) (eg : ∀ args w, (callFunc g args).run Tryz.prog w = .ok (.enter g args) w)
    (hn : L.length < 4611686018427387904) (hr : Rp B w A L) (hB : B ≤ w.heap.size) (h0 : I 0 w)
    (hf : ∀ (j : Nat) (W : World), j < L.length → I j W → Below B w W → Calls Tryz.prog g (#[rv L j] ++ lb) W fun e w' => e = .returned (.bool (p j)) ∧ Below B w w' ∧ (p j = false → I (j + 1) w')) :
    Calls Tryz.prog 72 #[.slice A L.length c, .func (.func g) #[] lb] w fun e w' => e = .returned (.bool (decide (∃ j, j < L.length ∧ p j = true))) ∧ Below B w w' := by
  have HI := Lib.hid (index_any g lb B A c L I p w eg hn hr hB h0 hf)
  clear hf hr h0
  generalize decide (∃ j, j < L.length ∧ p j = true) = q at *
  go_enter Tryz.func72, Tryz.ntmps72
  go_wp2_with (go_at_call 100; refine HI.out.mono ?_; rintro e w' ⟨r, rfl, hq, hb'⟩; have HQ := Lib.hid hq; clear hq)
  go_ret
  exact ⟨ret1_eq (bool_eq HQ.out), hb'⟩

theorem eq_doc10 (a b x y : Int) (w : World) : (Op.equalIn 10000 77 (.agg #[.int .i64 a, .int .i64 b]) (.agg #[.int .i64 x, .int .i64 y])).run Tryz.prog w = .ok (a == x && b == y) w := by
  have u2 := Tryz.underlying2
  have a2 := Tryz.isAgg2
  have z2 := Tryz.sizeOf2
  have u3 := Tryz.underlying3
  have a3 := Tryz.isAgg3
  have z3 := Tryz.sizeOf3
  rw [show (10000 : Nat) = 9999 + 1 from rfl, Op.equalIn]
  simp only [Sem.run_bind, run_underlying Tryz.underlying77, Result.andThen_ok]
  go_simp
  by_cases h : a = x <;> by_cases k : b = y <;> simp [h, k]

open Classical in
/-- Are two lists of rows the same? -/
noncomputable def eqL (L M : List Rw) : Bool := decide (L = M)
open Classical in
theorem eqL_self (L : List Rw) : eqL L L = true := decide_eq_true rfl
open Classical in
theorem eqL_len {L M : List Rw} (h : L.length ≠ M.length) : eqL L M = false := decide_eq_false (fun e => h (by rw [e]))
open Classical in
theorem eqL_at {L M : List Rw} {j : Nat} (h : (rd L j == rd M j && ro L j == ro M j) = false) : eqL L M = false := decide_eq_false (fun e => by subst e; simp at h)
open Classical in
theorem eqL_all {L M : List Rw} (h : L.length = M.length) (hj : ∀ j, j < L.length → (rd L j == rd M j && ro L j == ro M j) = true) : eqL L M = true := decide_eq_true (rw_ext h fun j hl => by
  have := hj j hl
  simpa using this)

/-- A row of rows of the call's own, of elements of type T. -/
def Ow (T : TypeId) (w : World) (base : Nat) (v : Value) (L : List Rw) : Prop := w.ownsRow base T 2 v L.length (cw L)
theorem Ow.below {T : TypeId} {w w' : World} {base B : Nat} {v : Value} {L : List Rw} (h : Ow T w base v L) (hb : Below B w w') (hB : w.heap.size ≤ B) : Ow T w' base v L := by
  refine ⟨h.1, ?_⟩
  rcases h.2 with h0 | ⟨g, cap, cur, h1, h2, h3, h4⟩
  · exact .inl h0
  · exact .inr ⟨g, cap, cur, h1, h2, (hb.block g (Nat.lt_of_lt_of_le (bk_lt h3) hB)).trans h3, h4⟩
theorem Ow.nil (T : TypeId) (w : World) (base : Nat) : Ow T w base (.slice none 0 0) [] := ⟨rfl, .inl ⟨rfl, rfl⟩⟩
/-- It reads as its rows. -/
theorem Ow.reads {T : TypeId} {w : World} {base : Nat} {v : Value} {L : List Rw} (h : Ow T w base v L) :
    ∃ A c, v = .slice A L.length c ∧ Rp w.heap.size w A L ∧ (A = none → c = 0 ∧ L = []) ∧ L.length ≤ c ∧ c ≤ maxLen ∧ ∀ b off, A = some ⟨b, off, none⟩ → base ≤ b ∧ b < w.heap.size ∧ off = 0 ∧ ∀ i, w.frozen? ⟨b, i, none⟩ = false := by
  rcases h.2 with ⟨hv, hn⟩ | ⟨g, cap, cur, hv, hb, hh, hc, hm, hs, ht⟩
  · obtain rfl : L = [] := List.eq_nil_of_length_eq_zero hn
    exact ⟨none, 0, hv, .inl rfl, fun _ => ⟨rfl, rfl⟩, Nat.le_refl _, Nat.zero_le _, fun b off e => by cases e⟩
  · have hlt := bk_lt hh
    refine ⟨_, cap, hv, .inr ⟨g, 0, rfl, hlt, hlt, fun j hj => ?_⟩, fun h => (by cases h), hc, hm, fun b off e => ?_⟩
    · have hk : ∀ i u, (cw L)[i]? = some u → w.cell? ⟨g, i, none⟩ = some u := by
        intro i u hu
        have h1 : i < L.length * 2 := by
          have := (List.getElem?_eq_some_iff.1 hu).1
          rwa [cw_len] at this
        rw [← ht, List.getElem?_take, if_pos h1] at hu
        rw [bk_cell hh]
        simpa using hu
      obtain ⟨a1, a2⟩ := cw_at L j hj
      rw [Nat.zero_add]
      exact ⟨hk _ _ a1, hk _ _ a2⟩
    · injection e with e
      injection e with e e2
      subst e
      exact ⟨hb, hlt, e2.symm, fun i => bk_free hh i⟩
theorem Ow.block {T : TypeId} {w : World} {base : Nat} {v : Value} {L : List Rw} (h : Ow T w base v L) : ∀ g, v.ownBlock = some g → base ≤ g := fun g hg => (World.ownsRow.lt h g hg).1

/-- T is a type of rows: two integers; S the slices of these. -/
def Et (P : Program) (S T : TypeId) : Prop := ∃ i, P.underlying S = some (.slice T) ∧ P.info? T = some i ∧ i.zero = some (.agg #[.int .i64 0, .int .i64 0]) ∧ i.size = 2 ∧ i.bytes = 16
theorem et_mk {P : Program} {S T : TypeId} (ht : P.underlying S = some (.slice T)) (h : (P.info? T).map (fun i => (i.zero, i.size, i.bytes)) = some (some (.agg #[.int .i64 0, .int .i64 0]), 2, 16)) : Et P S T := by
  cases hi : P.info? T with
  | none => rw [hi] at h; cases h
  | some i =>
    rw [hi] at h
    simp only [Option.map_some, Option.some.injEq, Prod.mk.injEq] at h
    exact ⟨i, ht, hi, h.1, h.2.1, h.2.2⟩
theorem et_prog : Et Tryz.prog 47 43 := et_mk Tryz.underlying47 (by kernel_rfl)
theorem et_doc : Et Tryz.prog 28 77 := et_mk Tryz.underlying28 (by kernel_rfl)
set_option maxRecDepth 100000 in
/-- append of rows to a row of the call's own. -/
theorem run_app2 (w : World) (base : Nat) (S T ty : TypeId) (E : Et Tryz.prog S T) (v : Value) (xs : List Rw) (hown : Ow T w base v xs) (A : Option Addr) (zs : List Rw) (c : Nat) (hr : Rp w.heap.size w A zs) (hA : A = none → c = 0 ∧ zs = [])
    (hx : xs.length ≤ 100000) (hz : zs.length ≤ 100000) (hbase : base ≤ w.heap.size) :
    ∃ v' w', (Builtin.append_ #[S, S] ty #[v, .slice A zs.length c]).run Tryz.prog w = .ok v' w' ∧ Ow T w' base v' (xs ++ zs) ∧ Below base w w' := by
  obtain ⟨i, ht, hi, hz0, hz1, hz2⟩ := E
  cases A with
  | none =>
    obtain ⟨rfl, rfl⟩ := hA rfl
    refine ⟨v, w, run_append_owned_none (P := Tryz.prog) (w := w) base S ty T i 2 ht hi v xs.length (cw xs) hown, by simpa using hown, Below.refl _ _⟩
  | some ad =>
    obtain ⟨v', w', h1, h2, h3, _, _⟩ := run_append_own_at (P := Tryz.prog) w base S ty T i (.agg #[.int .i64 0, .int .i64 0]) 2 i.bytes ht hi hz0 hz1 rfl rfl (by decide) v xs.length (cw xs) hown ad zs.length c (cw zs) (cw_len zs)
      (fun j u hu => by
        have hj : j < zs.length * 2 := by
          have := (List.getElem?_eq_some_iff.1 hu).1
          rwa [cw_len] at this
        obtain ⟨b, off, h5, _, _, h6⟩ := hr.pos (by omega)
        injection h5 with h5
        subst h5
        rw [add_plain]
        obtain ⟨k1, k2⟩ := h6 (j / 2) (by omega)
        obtain ⟨a1, a2⟩ := cw_at zs (j / 2) (by omega)
        rcases (by omega : j = j / 2 * 2 ∨ j = j / 2 * 2 + 1) with e | e
        · rw [e] at hu
          rw [a1] at hu
          injection hu with hu
          rw [← hu, e]
          have : j / 2 * 2 / 2 = j / 2 := by omega
          simpa [this] using k1
        · rw [e] at hu
          rw [a2] at hu
          injection hu with hu
          rw [← hu, e]
          have : (j / 2 * 2 + 1) / 2 = j / 2 := by omega
          simpa [this, Nat.add_assoc] using k2)
      (fun u hu => by obtain ⟨z, rfl⟩ := cw_mem hu; rfl)
      (by unfold maxLen; omega) (by rw [hz2]; omega) hbase
    refine ⟨v', w', h1, ?_, (Below.refl _ _).grown h3 hbase fun g hg => hown.block g hg⟩
    unfold Ow
    rw [List.length_append, cw_append]; exact h2
theorem app_rows {ops : Array Oper} {rest : List Oper} {o : Oper} {a : Act} {Q : Exit → Act → World → Prop} {w : World} (S T : TypeId) (E : Et Tryz.prog S T) (s x : Operand) (base : Nat) (v : Value) (xs : List Rw) (hown : Ow T w base v xs)
    (A : Option Addr) (zs : List Rw) (n c : Nat) (hn : zs.length = n) (hr : Rp w.heap.size w A zs) (hA : A = none → c = 0 ∧ zs = []) (hx : xs.length ≤ 100000) (hz : zs.length ≤ 100000) (hbase : base ≤ w.heap.size) (hgd : o.guard = none)
    (ho : o.op = .call { callee := .builtin .append, args := #[s, x], argTypes := #[S, S] }) (hs : a.eval s = v) (hxe : a.eval x = .slice A n c)
    (h : ∀ v' w', Ow T w' base v' (xs ++ zs) → Below base w w' → wpList Tryz.prog ops Q rest (a.put o.dst v') w') : wpList Tryz.prog ops Q (o :: rest) a w := by
  subst hn
  refine wpList_plain hgd fun K hK => ?_
  obtain ⟨v', w', e1, e2, e3⟩ := run_app2 w base S T o.type E v xs hown A zs c hr hA hx hz hbase
  unfold Oper.wp execOp
  simp only [ho, resolve, invoke, builtin, Sem.run_bind, Sem.run_pure, Result.andThen_ok, List.map_toArray, List.map_cons, List.map_nil, hs, hxe, e1]
  exact hK _ _ (h v' w' e2 e3)

set_option maxHeartbeats 4000000 in
set_option maxRecDepth 100000 in
/-- slices.Clone: the same rows in memory of the call's own. -/
theorem clone_any (A : Option Addr) (c : Nat) (L : List Rw) (w : World) (hn : L.length ≤ 100000) (hr : Rp w.heap.size w A L) (hA : A = none → c = 0 ∧ L = []) :
    Calls Tryz.prog 39 #[.slice A L.length c] w fun e w' => ∃ v', e = .returned v' ∧ Ow 43 w' w.heap.size v' L ∧ Below w.heap.size w w' := by
  have q22 : ∀ (w : World) (a : Option Addr) (n c n' c' : Nat), (binOp .eql 47 (.slice a n c) (.slice none n' c')).run Tryz.prog w = .ok (.bool a.isNone) w := fun w a n c n' c' => Lib.run_eql_slice_nil w _ _ a n c n' c' Tryz.underlying47
  cases A with
  | none =>
    obtain ⟨rfl, rfl⟩ := hA rfl
    clear hr hA hn
    go_enter Tryz.func39, Tryz.ntmps39
    go_wp2
    go_ret
    exact ⟨_, rfl, Ow.nil _ _ _, Below.refl _ _⟩
  | some ad =>
    have HR := Lib.hid hr
    have HN := Lib.hid hn
    clear hr hA hn
    obtain ⟨N, hN⟩ : ∃ N, N = L.length := ⟨_, rfl⟩
    rw [← hN]
    have HL := Lib.hid hN
    clear hN
    go_enter Tryz.func39, Tryz.ntmps39
    go_wp2_with (at_builtin; refine app_rows 47 43 et_prog _ _ w.heap.size _ [] (World.ownsRow_made w #[] 0 (Nat.le_refl _) (Nat.zero_le _) rfl) (some ad) L N c HL.out.symm (HR.out.keep ((Below.refl _ w).alloc (Nat.le_refl _) _)).low (fun h => by cases h) (by simp) HN.out (by simp) rfl rfl rfl rfl ?_; intro v' w1 hv hb; have HV := Lib.hid hv; have HB := Lib.hid hb; clear hv hb)
    go_ret
    exact ⟨_, rfl, HV.out, ((Below.refl _ w).alloc (Nat.le_refl _) _).trans HB.out⟩

end Go.Proofs.YtdonicaiimeleaaGreatDoor

namespace Go.Proofs.YtdonicaiimeleaaGreatDoor
open Go.RowKit
set_option linter.unusedVariables false

/-- The table of months' ends. -/
def Ends (w : World) : Prop := Lib.TabIs Tryz.prog w "horologe/day.ends" .i64 endsL
theorem gends : Tryz.prog.globalNamed "horologe/day.ends" = some 5 := by kernel_rfl
theorem Ends.below {w w' : World} (h : Ends w) (hb : Below w.heap.size w w') : Ends w' := Joins.tab_stays gends h hb (Nat.le_refl _)
theorem Ends.at {w : World} (h : Ends w) {m : Int} (hm : 0 ≤ m) (hm' : m ≤ 12) : w.cell? ⟨5, m.toNat, none⟩ = some (.int .i64 (e0 m)) :=
  Lib.TabIs.cell h gends m.toNat (by show m.toNat < 13; omega)

theorem leap_any (y : Int) (w : World) : Calls Tryz.prog 163 #[.int .i64 y] w fun e w' => e = .returned (.bool (lp y)) ∧ w = w' := by
  have h4 := tm_zero y 4; have h100 := tm_zero y 100; have h400 := tm_zero y 400
  by_cases a : y % 4 = 0
  · rw [decide_eq_true a] at h4
    by_cases b : y % 100 = 0
    · rw [decide_eq_true b] at h100
      have h100' : (y.tmod 100 != 0) = false := by rw [bne, h100]; rfl
      by_cases c : y % 400 = 0
      · rw [decide_eq_true c] at h400
        rw [lp_yes.2 ⟨a, Or.inr c⟩]
        clear a b c
        go_enter Tryz.func163, Tryz.ntmps163
        go_wp2
        go_ret
        exact ⟨rfl, rfl⟩
      · rw [decide_eq_false c] at h400
        rw [lp_no.2 (by omega)]
        clear a b c
        go_enter Tryz.func163, Tryz.ntmps163
        go_wp2
        go_ret
        exact ⟨rfl, rfl⟩
    · rw [decide_eq_false b] at h100
      have h100' : (y.tmod 100 != 0) = true := by rw [bne, h100]; rfl
      rw [lp_yes.2 ⟨a, Or.inl b⟩]
      clear a b h400
      go_enter Tryz.func163, Tryz.ntmps163
      go_wp2
      go_ret
      exact ⟨rfl, rfl⟩
  · rw [decide_eq_false a] at h4
    rw [lp_no.2 (by omega)]
    clear a h100 h400
    go_enter Tryz.func163, Tryz.ntmps163
    go_wp2
    go_ret
    exact ⟨rfl, rfl⟩

theorem start_any (y : Int) (w : World) (h : -20000 ≤ y) (h' : y ≤ 20001) : Calls Tryz.prog 128 #[.int .i64 y] w fun e w' => e = .returned (.int .i64 (st y)) ∧ w = w' := by
  have e : st y = -8024378 + 365 * (y + 20000) + ((y + 20000 + 3) / 4 - (y + 20000 + 99) / 100 + (y + 20000 + 399) / 400) := by unfold st; omega
  have E := Lib.hid e; clear e
  go_enter Tryz.func128, Tryz.ntmps128
  go_wp2
  go_ret
  exact ⟨ret1_eq (int_eq E.out.symm), rfl⟩

theorem end_any (y m : Int) (w : World) (h : 0 ≤ m) (h' : m ≤ 12) (he : Ends w) : Calls Tryz.prog 130 #[.int .i64 y, .int .i64 m] w fun e w' => e = .returned (.int .i64 (em y m)) ∧ w = w' := by
  have hc := he.at h h'
  clear he
  obtain ⟨k, rfl⟩ : ∃ k : Nat, m = k := ⟨m.toNat, by omega⟩
  have hk : k < 13 := by omega
  have hb : 0 ≤ e0 k ∧ e0 k ≤ 365 := by
    unfold e0
    rcases (by omega : (k : Int) = 0 ∨ 1 ≤ (k : Int)) with h0 | h1
    · rw [h0]; decide
    · rcases twelve h1 h' with g | g | g | g | g | g | g | g | g | g | g | g <;> (rw [g]; decide)
  rw [show ((k : Int)).toNat = k from Int.toNat_natCast k] at hc
  have E : Hid (em y k = if 2 ≤ (k : Int) ∧ lp y = true then e0 k + 1 else e0 k) := Lib.hid rfl
  generalize e0 k = z at *
  generalize em y k = r at *
  by_cases a : 2 ≤ (k : Int)
  · cases hl : lp y with
    | true =>
      have E2 : Hid (r = z + 1) := Lib.hid (by rw [E.out, if_pos ⟨a, hl⟩])
      clear E
      have hL := leap_any y w
      rw [hl] at hL
      clear hl
      go_enter Tryz.func130, Tryz.ntmps130
      go_wp2_with (go_at_call 163; refine hL.mono ?_; rintro e w' ⟨rfl, rfl⟩)
      go_ret
      exact ⟨ret1_eq (int_eq E2.out.symm), rfl⟩
    | false =>
      have E2 : Hid (r = z) := Lib.hid (by rw [E.out, if_neg (by rw [hl]; simp)])
      clear E
      have hL := leap_any y w
      rw [hl] at hL
      clear hl
      go_enter Tryz.func130, Tryz.ntmps130
      go_wp2_with (go_at_call 163; refine hL.mono ?_; rintro e w' ⟨rfl, rfl⟩)
      go_ret
      exact ⟨ret1_eq (int_eq E2.out.symm), rfl⟩
  · have E2 : Hid (r = z) := Lib.hid (by rw [E.out, if_neg (by omega)])
    clear E
    go_enter Tryz.func130, Tryz.ntmps130
    go_wp2
    go_ret
    exact ⟨ret1_eq (int_eq E2.out.symm), rfl⟩

end Go.Proofs.YtdonicaiimeleaaGreatDoor

namespace Go.Proofs.YtdonicaiimeleaaGreatDoor
open Go.RowKit
set_option linter.unusedVariables false

theorem first_any (w : World) : Calls Tryz.prog 118 #[] w fun e w' => e = .returned (.int .i64 (-4371587)) ∧ w = w' := by
  have hS := start_any (-9999) w (by omega) (by omega)
  rw [st_first] at hS
  go_enter Tryz.func118, Tryz.ntmps118
  go_wp2_with (go_at_call 128; refine hS.mono ?_; rintro e w' ⟨rfl, rfl⟩)
  go_ret
  exact ⟨rfl, rfl⟩
theorem last_any (w : World) : Calls Tryz.prog 119 #[] w fun e w' => e = .returned (.int .i64 2932896) ∧ w = w' := by
  have hS := start_any 10000 w (by omega) (by omega)
  rw [st_end] at hS
  go_enter Tryz.func119, Tryz.ntmps119
  go_wp2_with (go_at_call 128; refine hS.mono ?_; rintro e w' ⟨rfl, rfl⟩)
  go_ret
  exact ⟨rfl, rfl⟩

/-! weekdays -/
end Go.Proofs.YtdonicaiimeleaaGreatDoor
