/- Merged: LeapA, DayC. -/
import Derived.Test.YtiamggjebaabkaaGreatDoorGListPuts29
import Derived.Test.YtiamggjebaabkaaGreatDoorGListPuts1
import Derived.Test.YtiamggjebaabkaaGreatDoorGListPuts10
import Derived.Deep.LoopGhost
import Derived.Deep.Draws
import Derived.Deep.QuietTactic
import Derived.BigQuiet
import Derived.Shelf.Abstract
import Derived.Laws.AppendOwn
import Derived.Laws.AppendOwnNone
import Derived.Laws.OwnMore
import Derived.Laws.StructEq
import Derived.OwnWalk
import Derived.Carry
import Derived.Lib.SliceRun
import Derived.Test.YtiamggjebaabkaaGreatDoorGListPuts19
namespace Go.Proofs.YtiamggjebaabkaaGreatDoor
open Go.RowKit Go.WideShapes Go.ChangeShapes
set_option linter.unusedVariables false

/-- The slice at A, in a block below B, reads as the rows L. -/
def Rp (B : Nat) (w : World) (A : Option Addr) (L : List Rw) : Prop :=
  L = [] ∨ ∃ b off, A = some ⟨b, off, none⟩ ∧ b < B ∧ b < w.heap.size ∧ ∀ j, j < L.length → w.cell? ⟨b, off + j * 2, none⟩ = some (.int .i64 (rd L j)) ∧ w.cell? ⟨b, off + j * 2 + 1, none⟩ = some (.int .i64 (ro L j))
theorem Rp.below {B : Nat} {w w' : World} {A : Option Addr} {L : List Rw} (h : Rp B w A L) (hb : Below B w w') : Rp B w' A L := by
  rcases h with h | ⟨b, off, h1, h2, h4, h3⟩
  · exact .inl h
  · exact .inr ⟨b, off, h1, h2, Nat.lt_of_lt_of_le h4 hb.size, fun j hj => ⟨(hb.cell (p := ⟨b, off + j * 2, none⟩) h2).trans (h3 j hj).1, (hb.cell (p := ⟨b, off + j * 2 + 1, none⟩) h2).trans (h3 j hj).2⟩⟩
theorem Rp.mono {B C : Nat} {w : World} {A : Option Addr} {L : List Rw} (h : Rp B w A L) (hb : B ≤ C) : Rp C w A L := by
  rcases h with h | ⟨b, off, h1, h2, h4, h3⟩
  · exact .inl h
  · exact .inr ⟨b, off, h1, Nat.lt_of_lt_of_le h2 hb, h4, h3⟩
/-- It lies below the heap's size. -/
theorem Rp.low {B : Nat} {w : World} {A : Option Addr} {L : List Rw} (h : Rp B w A L) : Rp w.heap.size w A L := by
  rcases h with h | ⟨b, off, h1, h2, h4, h3⟩
  · exact .inl h
  · exact .inr ⟨b, off, h1, h4, h4, h3⟩
theorem Rp.keep {B : Nat} {w w' : World} {A : Option Addr} {L : List Rw} (h : Rp B w A L) (hb : Below w.heap.size w w') : Rp w.heap.size w' A L := h.low.below hb
theorem Rp.pos {B : Nat} {w : World} {A : Option Addr} {L : List Rw} (h : Rp B w A L) (hL : 0 < L.length) : ∃ b off, A = some ⟨b, off, none⟩ ∧ b < B ∧ b < w.heap.size ∧ ∀ j, j < L.length → w.cell? ⟨b, off + j * 2, none⟩ = some (.int .i64 (rd L j)) ∧ w.cell? ⟨b, off + j * 2 + 1, none⟩ = some (.int .i64 (ro L j)) := by
  rcases h with h | h
  · rw [h] at hL; simp at hL
  · exact h
theorem Rp.drop {B : Nat} {w : World} {b off : Nat} {L : List Rw} (h : Rp B w (some ⟨b, off, none⟩) L) (k : Nat) : Rp B w (some ⟨b, off + k * 2, none⟩) (L.drop k) := by
  rcases h with h | ⟨b', off', h1, h2, h4, h3⟩
  · exact .inl (by rw [h]; simp)
  · injection h1 with h1
    injection h1 with h1 h5
    subst h1; subst h5
    refine .inr ⟨b, off + k * 2, rfl, h2, h4, fun j hj => ?_⟩
    rw [rd_drop, ro_drop, show off + k * 2 + j * 2 = off + (k + j) * 2 by omega]
    exact h3 (k + j) (by simp at hj; omega)

/-- A row's value. -/
def rv (L : List Rw) (j : Nat) : Value := .agg #[.int .i64 (rd L j), .int .i64 (ro L j)]

open Classical in
set_option maxHeartbeats 4000000 in
/-- The first row that a function of rows tells true of, if there is one: the function may change what lies at B and above; I k: what stands there when k rows were told false of. -/
theorem index_any (g : Nat) (lb : Array Value) (B : Nat) (A : Option Addr) (c : Nat) (L : List Rw) (I : Nat → World → Prop) (p : Nat → Bool) (w : World) (eg : ∀ args w, (callFunc g args).run Tryz.prog w = .ok (.enter g args) w)
    (hn : L.length < 4611686018427387904) (hr : Rp B w A L) (hB : B ≤ w.heap.size) (h0 : I 0 w)
    (hf : ∀ (j : Nat) (W : World), j < L.length → I j W → Below B w W → Calls Tryz.prog g (#[rv L j] ++ lb) W fun e w' => e = .returned (.bool (p j)) ∧ Below B w w' ∧ (p j = false → I (j + 1) w')) :
    Calls Tryz.prog 99 #[.slice A L.length c, .func (.func g) #[] lb] w fun e w' => ∃ r : Int, e = .returned (.int .i64 r) ∧ decide (0 ≤ r) = decide (∃ j, j < L.length ∧ p j = true) ∧ Below B w w' := by
  have HF := Lib.hid hf
  have HR := Lib.hid hr
  have H0 := Lib.hid h0
  clear hf hr h0
  go_enter Tryz.func99, Tryz.ntmps99
  go_wp2
  go_loopg [5, 8] L.length (fun gg _ s8 wr => ∃ kk : Nat, kk ≤ L.length ∧ L.length - kk ≤ gg ∧ s8 = .int .i64 kk ∧ Hid (Below B w wr) ∧ Hid (I kk wr) ∧ Hid (∀ j, j < kk → p j = false))
  case atStart => exact ⟨0, Nat.zero_le _, by omega, rfl, Lib.hid (Below.refl _ w), H0, Lib.hid fun j hj => absurd hj (Nat.not_lt_zero _)⟩
  case round =>
    obtain ⟨kk, hkk, hg, rfl, BW, IW, F⟩ := hrel
    by_cases hlt : kk < L.length
    · have hltz : (kk : Int) < (L.length : Int) := by omega
      obtain ⟨b, off, rfl, hb1, hb2, hc⟩ := (HR.out.below BW.out).pos (by omega)
      obtain ⟨c1, c2⟩ := hc kk hlt
      have hcall := HF.out kk wr hlt IW.out BW.out
      unfold rv at hcall
      clear hc HR hb1 hb2
      have HC := Lib.hid hcall
      clear hcall
      cases hq : p kk with
      | true =>
        go_wp2_with (go_at_fn g; refine HC.out.mono ?_; rintro e w' ⟨rfl, hb', -⟩; rw [hq])
        go_ret
        exact ⟨_, rfl, by rw [decide_eq_true (p := (0 : Int) ≤ (kk : Int)) (by omega), decide_eq_true ⟨kk, hlt, hq⟩], hb'⟩
      | false =>
        go_wp2_with (go_at_fn g; refine HC.out.mono ?_; rintro e w' ⟨rfl, hb', hi'⟩; rw [hq]; have IW' := Lib.hid (hi' hq); clear hi')
        go_roundg (L.length - (kk + 1))
        case measure => omega
        case rel =>
          refine ⟨kk + 1, by omega, by omega, by go_num, Lib.hid hb', IW', Lib.hid fun j hj => ?_⟩
          by_cases e : j = kk
          · subst e; exact hq
          · exact F.out j (by omega)
    · have hltz : ¬ (kk : Int) < (L.length : Int) := by omega
      obtain rfl : L.length = kk := by omega
      go_wp2
      go_ret
      refine ⟨_, rfl, ?_, BW.out⟩
      suffices hno : ¬ ∃ j, j < L.length ∧ p j = true by
        exact ⟨fun h => absurd h (by decide), fun h => absurd h hno⟩
      rintro ⟨j, hj, hp⟩
      rw [F.out j hj] at hp
      cases hp

open Classical in
set_option maxHeartbeats 1000000 in
theorem contains_any (g : Nat) (lb : Array Value) (B : Nat) (A : Option Addr) (c : Nat) (L : List Rw) (I : Nat → World → Prop) (p : Nat → Bool) (w : World) (eg : ∀ args w, (callFunc g args).run Tryz.prog w = .ok (.enter g args) w)
    (hn : L.length < 4611686018427387904) (hr : Rp B w A L) (hB : B ≤ w.heap.size) (h0 : I 0 w)
    (hf : ∀ (j : Nat) (W : World), j < L.length → I j W → Below B w W → Calls Tryz.prog g (#[rv L j] ++ lb) W fun e w' => e = .returned (.bool (p j)) ∧ Below B w w' ∧ (p j = false → I (j + 1) w')) :
    Calls Tryz.prog 71 #[.slice A L.length c, .func (.func g) #[] lb] w fun e w' => e = .returned (.bool (decide (∃ j, j < L.length ∧ p j = true))) ∧ Below B w w' := by
  have HI := Lib.hid (index_any g lb B A c L I p w eg hn hr hB h0 hf)
  clear hf hr h0
  generalize decide (∃ j, j < L.length ∧ p j = true) = q at *
  go_enter Tryz.func71, Tryz.ntmps71
  go_wp2_with (go_at_call 99; refine HI.out.mono ?_; rintro e w' ⟨r, rfl, hq, hb'⟩; have HQ := Lib.hid hq; clear hq)
  go_ret
  exact ⟨ret1_eq (bool_eq HQ.out), hb'⟩

/-- A row of rows of the call's own, of elements of type T. -/
def Ow (T : TypeId) (w : World) (base : Nat) (v : Value) (L : List Rw) : Prop := w.ownsRow base T 2 v L.length (cw L)
theorem Ow.below {T : TypeId} {w w' : World} {base B : Nat} {v : Value} {L : List Rw} (h : Ow T w base v L) (hb : Below B w w') (hB : w.heap.size ≤ B) : Ow T w' base v L := by
  refine ⟨h.1, ?_⟩
  rcases h.2 with h0 | ⟨g, cap, cur, h1, h2, h3, h4⟩
  · exact .inl h0
  · exact .inr ⟨g, cap, cur, h1, h2, (hb.block g (Nat.lt_of_lt_of_le (bk_lt h3) hB)).trans h3, h4⟩
theorem Ow.nil (T : TypeId) (w : World) (base : Nat) : Ow T w base (.slice none 0 0) [] := ⟨rfl, .inl ⟨rfl, rfl⟩⟩
/-- It reads as its rows. -/
theorem Ow.reads {T : TypeId} {w : World} {base : Nat} {v : Value} {L : List Rw} (h : Ow T w base v L) :
    ∃ A c, v = .slice A L.length c ∧ Rp w.heap.size w A L ∧ (A = none → c = 0 ∧ L = []) ∧ L.length ≤ c ∧ c ≤ maxLen ∧ ∀ b off, A = some ⟨b, off, none⟩ → base ≤ b ∧ b < w.heap.size ∧ off = 0 ∧ ∀ i, w.frozen? ⟨b, i, none⟩ = false := by
  rcases h.2 with ⟨hv, hn⟩ | ⟨g, cap, cur, hv, hb, hh, hc, hm, hs, ht⟩
  · obtain rfl : L = [] := List.eq_nil_of_length_eq_zero hn
    exact ⟨none, 0, hv, .inl rfl, fun _ => ⟨rfl, rfl⟩, Nat.le_refl _, Nat.zero_le _, fun b off e => by cases e⟩
  · have hlt := bk_lt hh
    refine ⟨_, cap, hv, .inr ⟨g, 0, rfl, hlt, hlt, fun j hj => ?_⟩, fun h => (by cases h), hc, hm, fun b off e => ?_⟩
    · have hk : ∀ i u, (cw L)[i]? = some u → w.cell? ⟨g, i, none⟩ = some u := by
        intro i u hu
        have h1 : i < L.length * 2 := by
          have := (List.getElem?_eq_some_iff.1 hu).1
          rwa [cw_len] at this
        rw [← ht, List.getElem?_take, if_pos h1] at hu
        rw [bk_cell hh]
        simpa using hu
      obtain ⟨a1, a2⟩ := cw_at L j hj
      rw [Nat.zero_add]
      exact ⟨hk _ _ a1, hk _ _ a2⟩
    · injection e with e
      injection e with e e2
      subst e
      exact ⟨hb, hlt, e2.symm, fun i => bk_free hh i⟩
theorem Ow.block {T : TypeId} {w : World} {base : Nat} {v : Value} {L : List Rw} (h : Ow T w base v L) : ∀ g, v.ownBlock = some g → base ≤ g := fun g hg => (World.ownsRow.lt h g hg).1

/-- T is a type of rows: two integers; S the slices of these. -/
def Et (P : Program) (S T : TypeId) : Prop := ∃ i, P.underlying S = some (.slice T) ∧ P.info? T = some i ∧ i.zero = some (.agg #[.int .i64 0, .int .i64 0]) ∧ i.size = 2 ∧ i.bytes = 16
theorem et_mk {P : Program} {S T : TypeId} (ht : P.underlying S = some (.slice T)) (h : (P.info? T).map (fun i => (i.zero, i.size, i.bytes)) = some (some (.agg #[.int .i64 0, .int .i64 0]), 2, 16)) : Et P S T := by
  cases hi : P.info? T with
  | none => rw [hi] at h; cases h
  | some i =>
    rw [hi] at h
    simp only [Option.map_some, Option.some.injEq, Prod.mk.injEq] at h
    exact ⟨i, ht, hi, h.1, h.2.1, h.2.2⟩
theorem et_prog : Et Tryz.prog 42 70 := et_mk Tryz.underlying42 (by kernel_rfl)
theorem et_doc : Et Tryz.prog 28 97 := et_mk Tryz.underlying28 (by kernel_rfl)
set_option maxRecDepth 100000 in
/-- append of rows to a row of the call's own. -/
theorem run_app2 (w : World) (base : Nat) (S T ty : TypeId) (E : Et Tryz.prog S T) (v : Value) (xs : List Rw) (hown : Ow T w base v xs) (A : Option Addr) (zs : List Rw) (c : Nat) (hr : Rp w.heap.size w A zs) (hA : A = none → c = 0 ∧ zs = [])
    (hx : xs.length ≤ 100000) (hz : zs.length ≤ 100000) (hbase : base ≤ w.heap.size) :
    ∃ v' w', (Builtin.append_ #[S, S] ty #[v, .slice A zs.length c]).run Tryz.prog w = .ok v' w' ∧ Ow T w' base v' (xs ++ zs) ∧ Below base w w' := by
  obtain ⟨i, ht, hi, hz0, hz1, hz2⟩ := E
  cases A with
  | none =>
    obtain ⟨rfl, rfl⟩ := hA rfl
    refine ⟨v, w, run_append_owned_none (P := Tryz.prog) (w := w) base S ty T i 2 ht hi v xs.length (cw xs) hown, by simpa using hown, Below.refl _ _⟩
  | some ad =>
    obtain ⟨v', w', h1, h2, h3, _, _⟩ := run_append_own_at (P := Tryz.prog) w base S ty T i (.agg #[.int .i64 0, .int .i64 0]) 2 i.bytes ht hi hz0 hz1 rfl rfl (by decide) v xs.length (cw xs) hown ad zs.length c (cw zs) (cw_len zs)
      (fun j u hu => by
        have hj : j < zs.length * 2 := by
          have := (List.getElem?_eq_some_iff.1 hu).1
          rwa [cw_len] at this
        obtain ⟨b, off, h5, _, _, h6⟩ := hr.pos (by omega)
        injection h5 with h5
        subst h5
        rw [add_plain]
        obtain ⟨k1, k2⟩ := h6 (j / 2) (by omega)
        obtain ⟨a1, a2⟩ := cw_at zs (j / 2) (by omega)
        rcases (by omega : j = j / 2 * 2 ∨ j = j / 2 * 2 + 1) with e | e
        · rw [e] at hu
          rw [a1] at hu
          injection hu with hu
          rw [← hu, e]
          have : j / 2 * 2 / 2 = j / 2 := by omega
          simpa [this] using k1
        · rw [e] at hu
          rw [a2] at hu
          injection hu with hu
          rw [← hu, e]
          have : (j / 2 * 2 + 1) / 2 = j / 2 := by omega
          simpa [this, Nat.add_assoc] using k2)
      (fun u hu => by obtain ⟨z, rfl⟩ := cw_mem hu; rfl)
      (by unfold maxLen; omega) (by rw [hz2]; omega) hbase
    refine ⟨v', w', h1, ?_, (Below.refl _ _).grown h3 hbase fun g hg => hown.block g hg⟩
    unfold Ow
    rw [List.length_append, cw_append]; exact h2
theorem app_rows {ops : Array Oper} {rest : List Oper} {o : Oper} {a : Act} {Q : Exit → Act → World → Prop} {w : World} (S T : TypeId) (E : Et Tryz.prog S T) (s x : Operand) (base : Nat) (v : Value) (xs : List Rw) (hown : Ow T w base v xs)
    (A : Option Addr) (zs : List Rw) (n c : Nat) (hn : zs.length = n) (hr : Rp w.heap.size w A zs) (hA : A = none → c = 0 ∧ zs = []) (hx : xs.length ≤ 100000) (hz : zs.length ≤ 100000) (hbase : base ≤ w.heap.size) (hgd : o.guard = none)
    (ho : o.op = .call { callee := .builtin .append, args := #[s, x], argTypes := #[S, S] }) (hs : a.eval s = v) (hxe : a.eval x = .slice A n c)
    (h : ∀ v' w', Ow T w' base v' (xs ++ zs) → Below base w w' → wpList Tryz.prog ops Q rest (a.put o.dst v') w') : wpList Tryz.prog ops Q (o :: rest) a w := by
  subst hn
  refine wpList_plain hgd fun K hK => ?_
  obtain ⟨v', w', e1, e2, e3⟩ := run_app2 w base S T o.type E v xs hown A zs c hr hA hx hz hbase
  unfold Oper.wp execOp
  simp only [ho, resolve, invoke, builtin, Sem.run_bind, Sem.run_pure, Result.andThen_ok, List.map_toArray, List.map_cons, List.map_nil, hs, hxe, e1]
  exact hK _ _ (h v' w' e2 e3)

set_option maxHeartbeats 4000000 in
set_option maxRecDepth 100000 in
/-- slices.Clone: the same rows in memory of the call's own. -/
theorem clone_any (A : Option Addr) (c : Nat) (L : List Rw) (w : World) (hn : L.length ≤ 100000) (hr : Rp w.heap.size w A L) (hA : A = none → c = 0 ∧ L = []) :
    Calls Tryz.prog 52 #[.slice A L.length c] w fun e w' => ∃ v', e = .returned v' ∧ Ow 70 w' w.heap.size v' L ∧ Below w.heap.size w w' := by
  have q22 : ∀ (w : World) (a : Option Addr) (n c n' c' : Nat), (binOp .eql 42 (.slice a n c) (.slice none n' c')).run Tryz.prog w = .ok (.bool a.isNone) w := fun w a n c n' c' => Lib.run_eql_slice_nil w _ _ a n c n' c' Tryz.underlying42
  cases A with
  | none =>
    obtain ⟨rfl, rfl⟩ := hA rfl
    clear hr hA hn
    go_enter Tryz.func52, Tryz.ntmps52
    go_wp2
    go_ret
    exact ⟨_, rfl, Ow.nil _ _ _, Below.refl _ _⟩
  | some ad =>
    have HR := Lib.hid hr
    have HN := Lib.hid hn
    clear hr hA hn
    obtain ⟨N, hN⟩ : ∃ N, N = L.length := ⟨_, rfl⟩
    rw [← hN]
    have HL := Lib.hid hN
    clear hN
    go_enter Tryz.func52, Tryz.ntmps52
    go_wp2_with (at_builtin; refine app_rows 42 70 et_prog _ _ w.heap.size _ [] (World.ownsRow_made w #[] 0 (Nat.le_refl _) (Nat.zero_le _) rfl) (some ad) L N c HL.out.symm (HR.out.keep ((Below.refl _ w).alloc (Nat.le_refl _) _)).low (fun h => by cases h) (by simp) HN.out (by simp) rfl rfl rfl rfl ?_; intro v' w1 hv hb; have HV := Lib.hid hv; have HB := Lib.hid hb; clear hv hb)
    go_ret
    exact ⟨_, rfl, HV.out, ((Below.refl _ w).alloc (Nat.le_refl _) _).trans HB.out⟩

end Go.Proofs.YtiamggjebaabkaaGreatDoor

namespace Go.Proofs.YtiamggjebaabkaaGreatDoor
open Go.RowKit
set_option linter.unusedVariables false

set_option maxHeartbeats 4000000 in
/-- A search among the first n numbers: r of them are told false, and all behind these true. -/
theorem search_any (g : Nat) (cb : Array Value) (n r : Nat) (p : Nat → Bool) (w : World) (eg : ∀ args w, (callFunc g args).run Tryz.prog w = .ok (.enter g args) w) (hn : n < 4611686018427387904) (hr : r ≤ n)
    (hf : ∀ (m i : Nat), i < n → Calls Tryz.prog g (#[.int .i64 i] ++ cb) (w.drewN m) fun e w' => e = .returned (.bool (p i)) ∧ ∃ q, w' = (w.drewN m).drewN q)
    (hlo : ∀ i, i < r → p i = false) (hhi : ∀ i, r ≤ i → i < n → p i = true) :
    Calls Tryz.prog 164 #[.int .i64 n, .func (.func g) #[] cb] w fun e w' => e = .returned (.int .i64 r) ∧ ∃ q, w' = w.drewN q := by
  have HF := Lib.hid hf; have L := Lib.hid hlo; have H := Lib.hid hhi
  clear hf hlo hhi
  go_enter Tryz.func164, Tryz.ntmps164
  go_wp2
  go_loopg [5, 6] n (fun kx s5 s6 wr => ∃ (lo hi q : Nat), s5 = .int .i64 lo ∧ s6 = .int .i64 hi ∧ lo ≤ r ∧ r ≤ hi ∧ hi ≤ n ∧ hi - lo ≤ kx ∧ wr = w.drewN q)
  case atStart => exact ⟨0, n, 0, rfl, rfl, Nat.zero_le _, hr, Nat.le_refl _, by omega, rfl⟩
  case round =>
    obtain ⟨lo, hi, q, rfl, rfl, h1, h2, h3, h4, rfl⟩ := hrel
    by_cases hlt : lo < hi
    · have hc := HF.out q ((lo + hi) / 2) (by omega)
      rw [show (((lo + hi) / 2 : Nat) : Int) = ((lo : Int) + (hi : Int)) / 2 by omega] at hc
      by_cases hp : (lo + hi) / 2 < r
      · rw [L.out _ hp] at hc
        go_wp2_with (go_at_fn g; refine hc.mono ?_; rintro e w' ⟨rfl, nq, rfl⟩)
        go_roundg (hi - ((lo + hi) / 2 + 1))
        case measure => omega
        case rel => exact ⟨(lo + hi) / 2 + 1, hi, q + nq, by rw [show ((lo : Int) + (hi : Int)) / 2 + 1 = (((lo + hi) / 2 + 1 : Nat) : Int) by omega], rfl, by omega, h2, h3, Nat.le_refl _, rfl⟩
      · rw [H.out _ (by omega) (by omega)] at hc
        go_wp2_with (go_at_fn g; refine hc.mono ?_; rintro e w' ⟨rfl, nq, rfl⟩)
        go_roundg ((lo + hi) / 2 - lo)
        case measure => omega
        case rel => exact ⟨lo, (lo + hi) / 2, q + nq, rfl, by rw [show ((lo : Int) + (hi : Int)) / 2 = (((lo + hi) / 2 : Nat) : Int) by omega], h1, by omega, by omega, Nat.le_refl _, rfl⟩
    · obtain rfl : r = lo := by omega
      go_wp2
      go_ret
      exact ⟨rfl, q, rfl⟩

set_option maxHeartbeats 1000000 in
/-- Of a year: does it end behind the day? -/
theorem year_closure (b : Nat) (n : Int) (i : Nat) (W : World) (hi : i < 19998) (hc : W.cell? ⟨b, 0, none⟩ = some (.int .i64 n)) :
    Calls Tryz.prog 165 (#[.int .i64 i] ++ #[.pointer (some ⟨b, 0, none⟩)]) W fun e w' => e = .returned (.bool (decide (n < st (-9999 + i + 1)))) ∧ ∃ q, w' = W.drewN q := by
  have hs := fun w => start_any (-9999 + i + 1) w (by omega) (by omega)
  have hz : (i : Int) < 19998 := by omega
  have HS := Lib.hid hs; clear hs
  generalize st (-9999 + i + 1) = v at *
  have s1 : IntKind.i64.wrap (-9999 + (i : Int)) = -9999 + i := IntWalk.i64_in _ (by omega)
  have s2 : IntKind.i64.wrap (-9999 + (i : Int) + 1) = -9999 + i + 1 := IntWalk.i64_in _ (by omega)
  go_enter Tryz.func165, Tryz.ntmps165
  go_wp2
  go_quiet ((go_at_call 131; exact Calls.quiet_of_same ((HS.out _).mono fun _ _ h => ⟨h.1, h.2.symm⟩)))
  go_wp2
  go_ret
  exact ⟨rfl, _, rfl⟩

set_option maxHeartbeats 1000000 in
/-- Of a month: does it end with the day, or behind it? -/
theorem month_closure (a b : Nat) (y k : Int) (i : Nat) (W : World) (hi : i < 11) (hk : W.cell? ⟨a, 0, none⟩ = some (.int .i64 k)) (hy : W.cell? ⟨b, 0, none⟩ = some (.int .i64 y)) (he : Ends W) :
    Calls Tryz.prog 166 (#[.int .i64 i] ++ #[.pointer (some ⟨a, 0, none⟩), .pointer (some ⟨b, 0, none⟩)]) W fun e w' => e = .returned (.bool (decide (k ≤ em y (i + 1)))) ∧ ∃ q, w' = W.drewN q := by
  have hs : ∀ m, Calls Tryz.prog 133 #[.int .i64 y, .int .i64 (i + 1)] (W.drewN m) fun e w' => e = .returned (.int .i64 (em y (i + 1))) ∧ W.drewN m = w' := fun m => end_any y (i + 1) (W.drewN m) (by omega) (by omega) he
  have hz : (i : Int) < 11 := by omega
  have HS := Lib.hid hs; clear hs he
  generalize em y (i + 1) = v at *
  have s1 : IntKind.i64.wrap ((i : Int) + 1) = i + 1 := IntWalk.i64_in _ (by omega)
  go_enter Tryz.func166, Tryz.ntmps166
  go_wp2
  go_quiet ((go_at_call 133; exact Calls.quiet_of_same ((HS.out _).mono fun _ _ h => ⟨h.1, h.2.symm⟩)))
  go_wp2
  go_ret
  exact ⟨rfl, _, rfl⟩

/-- A box just laid. -/
theorem dbox_cell (W : World) (v : Value) (t : TypeId) : (W.alloc (.cells #[v] t)).cell? ⟨W.heap.size, 0, none⟩ = some v := by
  rw [World.cell?_alloc_at _ _ _ _ (by simp)]; rfl
theorem drewN_below (B : Nat) (w : World) (q : Nat) : Below B w (w.drewN q) := ⟨rfl, rfl, rfl, Nat.le_refl _, fun _ _ => rfl⟩

theorem enters_year : ∀ args w, (callFunc 165 args).run Tryz.prog w = .ok (.enter 165 args) w := enters_of Tryz.func165 (by kernel_rfl) rfl
theorem enters_month : ∀ args w, (callFunc 166 args).run Tryz.prog w = .ok (.enter 166 args) w := enters_of Tryz.func166 (by kernel_rfl) rfl

set_option maxHeartbeats 1000000 in
theorem yearof_any (n y : Int) (w : World) (hy : isy y) (h1 : st y ≤ n) (h2 : n < st (y + 1)) :
    Calls Tryz.prog 130 #[.int .i64 n] w fun e w' => e = .returned (.int .i64 y) ∧ Below w.heap.size w w' := by
  unfold isy at hy
  obtain ⟨r, rfl⟩ : ∃ r : Nat, y = -9999 + r := ⟨(y + 9999).toNat, by omega⟩
  obtain ⟨W0, hW0⟩ : ∃ W0, W0 = w.alloc (.cells #[.int .i64 n] 2) := ⟨_, rfl⟩
  have hc : W0.cell? ⟨w.heap.size, 0, none⟩ = some (.int .i64 n) := by rw [hW0]; exact dbox_cell w _ _
  have hB : Hid (Below w.heap.size w W0) := Lib.hid (by rw [hW0]; exact (Below.refl _ w).alloc (Nat.le_refl _) _)
  have hS := search_any 165 #[.pointer (some ⟨w.heap.size, 0, none⟩)] 19998 r (fun i => decide (n < st (-9999 + i + 1))) W0 enters_year (by omega) (by omega)
    (fun m i hi => year_closure w.heap.size n i (W0.drewN m) hi hc)
    (fun i hi => decide_eq_false (by have := st_mono (a := -9999 + i + 1) (b := -9999 + r) (by omega); omega))
    (fun i hi hi' => decide_eq_true (by have := st_mono (a := -9999 + r + 1) (b := -9999 + i + 1) (by omega); omega))
  have hr : (r : Int) ≤ 19998 := by omega
  clear hc h1 h2 hy
  have HS := Lib.hid hS; clear hS
  go_enter Tryz.func130, Tryz.ntmps130
  go_wp2_with (go_at_call 164; rw [← hW0]; refine HS.out.mono ?_; rintro e w' ⟨rfl, q, rfl⟩)
  go_ret
  rw [← hW0]
  exact ⟨rfl, hB.out.trans (drewN_below _ _ _)⟩

set_option maxHeartbeats 1000000 in
theorem monthof_any (y k m : Int) (w : World) (hm : 1 ≤ m) (hm' : m ≤ 12) (h1 : em y (m - 1) < k) (h2 : k ≤ em y m) (he : Ends w) :
    Calls Tryz.prog 132 #[.int .i64 y, .int .i64 k] w fun e w' => e = .returned (.int .i64 m) ∧ Below w.heap.size w w' := by
  obtain ⟨r, rfl⟩ : ∃ r : Nat, m = 1 + r := ⟨(m - 1).toNat, by omega⟩
  obtain ⟨W0, hW0⟩ : ∃ W0, W0 = (w.alloc (.cells #[.int .i64 y] 3)).alloc (.cells #[.int .i64 k] 3) := ⟨_, rfl⟩
  have hsz : (w.alloc (.cells #[.int .i64 y] 3)).heap.size = w.heap.size + 1 := by simp
  have ck : W0.cell? ⟨w.heap.size + 1, 0, none⟩ = some (.int .i64 k) := by rw [hW0, ← hsz]; exact dbox_cell _ _ _
  have hB1 : Below w.heap.size w (w.alloc (.cells #[.int .i64 y] 3)) := (Below.refl _ w).alloc (Nat.le_refl _) _
  have hB2 : Below (w.heap.size + 1) (w.alloc (.cells #[.int .i64 y] 3)) W0 := by rw [hW0]; exact (Below.refl _ _).alloc (by simp) _
  have cy : W0.cell? ⟨w.heap.size, 0, none⟩ = some (.int .i64 y) := (hB2.cell (p := ⟨w.heap.size, 0, none⟩) (by simp)).trans (dbox_cell w _ _)
  have hB := Lib.hid (hB1.trans (hB2.mono (Nat.le_succ _)))
  have hE : Ends W0 := he.below hB.out
  have hS := search_any 166 #[.pointer (some ⟨w.heap.size + 1, 0, none⟩), .pointer (some ⟨w.heap.size, 0, none⟩)] 11 r (fun i => decide (k ≤ em y (i + 1))) W0 enters_month (by omega) (by omega)
    (fun j i hi => month_closure (w.heap.size + 1) w.heap.size y k i (W0.drewN j) hi ck cy hE)
    (fun i hi => decide_eq_false (by have := em_mono y (a := i + 1) (b := 1 + r - 1) (by omega) (by omega) (by omega); omega))
    (fun i hi hi' => decide_eq_true (by have := em_mono y (a := 1 + r) (b := i + 1) (by omega) (by omega) (by omega); omega))
  have hr : (r : Int) ≤ 11 := by omega
  clear ck cy hE he hB1 hB2 hsz h1 h2
  have HS := Lib.hid hS; clear hS
  go_enter Tryz.func132, Tryz.ntmps132
  go_wp2_with (go_at_call 164; rw [← hW0]; refine HS.out.mono ?_; rintro e w' ⟨rfl, q, rfl⟩)
  go_ret
  rw [← hW0]
  exact ⟨rfl, hB.out.trans (drewN_below _ _ _)⟩

end Go.Proofs.YtiamggjebaabkaaGreatDoor
