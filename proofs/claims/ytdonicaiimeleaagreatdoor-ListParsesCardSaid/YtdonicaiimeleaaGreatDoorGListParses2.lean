/- Merged: ListA, ListB. -/
import Derived.Test.YtdonicaiimeleaaGreatDoorGListParses1
import Derived.Deep.LoopGhost
import Derived.Deep.Draws
import Derived.Deep.QuietTactic
import Derived.BigQuiet
import Derived.Laws.AppendOwn
import Derived.Laws.AppendOwnNone
import Derived.Laws.OwnMore
import Derived.OwnWalk
import Derived.Carry
import Derived.Lib.SliceRun
import Derived.Deep.DeepCutAuto
import Derived.Deep.CutRange
import Derived.Deep.CutBlock
import Derived.Laws.Concat
namespace Go.Proofs.YtdonicaiimeleaaGreatDoor
open Go.RowKit Go.WideShapes Go.ChangeShapes
set_option linter.unusedVariables false
set_option linter.unusedSimpArgs false

/-- A text's value. -/
def sv (l : List UInt8) : Value := .string ⟨l.toArray⟩
theorem sinfo : (Tryz.prog.info? 9).map (fun i => (i.zero, i.size, i.bytes)) = some (some (.string ⟨#[]⟩), 1, 16) := by kernel_rfl
theorem sund : Tryz.prog.underlying 58 = some (.slice 9) := by kernel_rfl
/-- A row of strings of the call's own. -/
def Os (w : World) (base : Nat) (v : Value) (ls : List (List UInt8)) : Prop := w.ownsRow base 9 1 v ls.length (ls.map sv)
theorem Os.below {w w' : World} {base B : Nat} {v : Value} {ls : List (List UInt8)} (h : Os w base v ls) (hb : Below B w w') (hB : w.heap.size ≤ B) : Os w' base v ls := by
  refine ⟨h.1, ?_⟩
  rcases h.2 with h0 | ⟨g, cap, cur, h1, h2, h3, h4⟩
  · exact .inl h0
  · exact .inr ⟨g, cap, cur, h1, h2, (hb.block g (Nat.lt_of_lt_of_le (bk_lt h3) hB)).trans h3, h4⟩
theorem Os.made (w : World) : Os (w.alloc (.cells #[] 9)) w.heap.size (.slice (some ⟨w.heap.size, 0, none⟩) 0 0) [] := World.ownsRow_made w #[] 0 (Nat.le_refl _) (Nat.zero_le _) rfl
/-- The slice at A reads as the strings ls. -/
def Rs (w : World) (A : Option Addr) (ls : List (List UInt8)) : Prop := ls = [] ∨ ∃ b off, A = some ⟨b, off, none⟩ ∧ b < w.heap.size ∧ ∀ j l, ls[j]? = some l → w.cell? ⟨b, off + j, none⟩ = some (sv l)
theorem Rs.below {w w' : World} {A : Option Addr} {ls : List (List UInt8)} (h : Rs w A ls) (hb : Below w.heap.size w w') : Rs w' A ls := by
  rcases h with h | ⟨b, off, h1, h2, h3⟩
  · exact .inl h
  · exact .inr ⟨b, off, h1, Nat.lt_of_lt_of_le h2 hb.size, fun j l hj => (hb.cell (p := ⟨b, off + j, none⟩) h2).trans (h3 j l hj)⟩
theorem Os.reads {w : World} {base : Nat} {v : Value} {ls : List (List UInt8)} (h : Os w base v ls) : ∃ A c, v = .slice A ls.length c ∧ Rs w A ls ∧ (A = none → c = 0 ∧ ls = []) := by
  rcases h.2 with ⟨hv, hn⟩ | ⟨g, cap, cur, hv, hb, hh, hc, hm, hs, ht⟩
  · obtain rfl : ls = [] := List.eq_nil_of_length_eq_zero hn
    exact ⟨none, 0, hv, .inl rfl, fun _ => ⟨rfl, rfl⟩⟩
  · refine ⟨_, cap, hv, .inr ⟨g, 0, rfl, bk_lt hh, fun j l hj => ?_⟩, fun h => (by cases h)⟩
    have hu : (ls.map sv)[j]? = some (sv l) := by rw [List.getElem?_map, hj]; rfl
    have h1 : j < ls.length * 1 := by
      have := (List.getElem?_eq_some_iff.1 hj).1
      omega
    rw [← ht, List.getElem?_take, if_pos h1] at hu
    rw [bk_cell hh, Nat.zero_add]
    simpa using hu
theorem Os.block {w : World} {base : Nat} {v : Value} {ls : List (List UInt8)} (h : Os w base v ls) : ∀ g, v.ownBlock = some g → base ≤ g := fun g hg => (World.ownsRow.lt h g hg).1

set_option maxRecDepth 100000 in
theorem app_str {ops : Array Oper} {rest : List Oper} {o : Oper} {a : Act} {Q : Exit → Act → World → Prop} {w : World} (s x : Operand) (base : Nat) (v : Value) (ls : List (List UInt8)) (hown : Os w base v ls) (g : Nat) (u : List UInt8)
    (hr : w.cell? ⟨g, 0, none⟩ = some (sv u)) (hl : ls.length ≤ 1000000) (hbase : base ≤ w.heap.size) (hgd : o.guard = none)
    (ho : o.op = .call { callee := .builtin .append, args := #[s, x], argTypes := #[58, 58] }) (hs : a.eval s = v) (hx : a.eval x = .slice (some ⟨g, 0, none⟩) 1 1)
    (h : ∀ v' w', Os w' base v' (ls ++ [u]) → Below base w w' → wpList Tryz.prog ops Q rest (a.put o.dst v') w') : wpList Tryz.prog ops Q (o :: rest) a w := by
  obtain ⟨i, hi, hzz⟩ := Option.map_eq_some_iff.1 sinfo
  simp only [Prod.mk.injEq] at hzz
  obtain ⟨hz, hsz, hb⟩ := hzz
  have hrun : ∃ v' w', (Builtin.append_ #[58, 58] o.type #[v, .slice (some ⟨g, 0, none⟩) 1 1]).run Tryz.prog w = .ok v' w' ∧ Os w' base v' (ls ++ [u]) ∧ Below base w w' := by
    obtain ⟨v', w', e1, e2, e3, _, _⟩ := run_append_own_at (P := Tryz.prog) w base 58 o.type 9 i (.string ⟨#[]⟩) 1 16 sund hi hz hsz hb rfl (by decide) v ls.length (ls.map sv) hown ⟨g, 0, none⟩ 1 1 [sv u] rfl
      (fun j x hj => by
        cases j with
        | zero =>
          injection hj with hj
          subst hj
          simpa [Addr.add] using hr
        | succ k => simp at hj) (fun x hx => by simp at hx; subst hx; rfl) (by unfold maxLen; omega) (by omega) hbase
    refine ⟨v', w', e1, by unfold Os; rw [List.length_append, List.map_append]; exact e2, (Below.refl _ _).grown e3 hbase fun k hk => hown.block k hk⟩
  refine wpList_plain hgd fun K hK => ?_
  obtain ⟨v', w', e1, e2, e3⟩ := hrun
  unfold Oper.wp execOp
  simp only [ho, resolve, invoke, builtin, Sem.run_bind, Sem.run_pure, Result.andThen_ok, List.map_toArray, List.map_cons, List.map_nil, hs, hx, e1]
  exact hK _ _ (h v' w' e2 e3)

theorem cut_mid (X : ByteArray) (a b : Nat) : (X.extract a b).data.toList = (X.data.toList.drop a).take (b - a) := by
  rw [ByteArray.data_extract, Array.toList_extract]
/-- A part of a text, as a list. -/
theorem cut_is (s : ByteArray) (a b : Nat) : Value.string (s.extract a b) = sv ((s.data.toList.drop a).take (b - a)) := by
  have h : (s.extract a b).data.toList = (s.data.toList.drop a).take (b - a) := cut_mid s a b
  unfold sv
  rw [← h]
theorem byte_at {s : ByteArray} {i : Nat} (h : i < s.size) : s.data.toList[i]? = some s[i] := by
  rw [List.getElem?_eq_getElem (by simpa using h)]; rfl
theorem one_str (w : World) (S : ByteArray) : (w.alloc (.cells #[.string S] 9)).cell? ⟨w.heap.size, 0, none⟩ = some (.string S) := bk_cell (heap_alloc_new w _) 0

set_option maxRecDepth 100000 in
set_option maxHeartbeats 4000000 in
theorem lines_any (s : ByteArray) (w : World) (hs : s.size ≤ 100000) :
    Calls Tryz.prog 16 #[.string s] w fun x w' => ∃ v, x = .returned v ∧ Os w' w.heap.size v (lnL s.data.toList) ∧ Below w.heap.size w w' := by
  obtain ⟨W0, hW0⟩ : ∃ W0, W0 = w.alloc (.cells #[] 9) := ⟨_, rfl⟩
  have o0 : Os W0 w.heap.size (.slice (some ⟨w.heap.size, 0, none⟩) 0 0) [] := by rw [hW0]; exact Os.made w
  have b0 : Below w.heap.size w W0 := by rw [hW0]; exact (Below.refl _ w).alloc (Nat.le_refl _) _
  have O0 := Lib.hid o0; have B0 := Lib.hid b0
  clear o0 b0
  obtain ⟨l, hl⟩ : ∃ l, l = s.data.toList := ⟨_, rfl⟩
  have hsz : l.length = s.size := by rw [hl]; simp
  rw [← hl]
  have HLs := Lib.hid hl
  have HSZ := Lib.hid hsz
  obtain ⟨N, hN⟩ : ∃ N, N = s.size := ⟨_, rfl⟩
  have HN := Lib.hid hN
  clear hl
  go_enter Tryz.func16, Tryz.ntmps16
  go_upto_region 2 with fail
  rw [← hW0]
  clear hW0
  go_wp2
  go_loopg [3, 4, 5] N (fun gg s3 s4 s5 wr => ∃ (k f : Nat) (A : Option Addr) (n c : Nat), k ≤ N ∧ N - k ≤ gg ∧ s3 = .slice A n c ∧ s4 = .int .i64 f ∧ s5 = .int .i64 k ∧ f ≤ k ∧ Hid (f = (lnS l k).2) ∧ Hid (Os wr w.heap.size (.slice A n c) (lnS l k).1) ∧ Hid (Below w.heap.size w wr))
  case atStart => exact ⟨0, 0, some ⟨w.heap.size, 0, none⟩, 0, 0, Nat.zero_le _, by omega, rfl, rfl, rfl, Nat.le_refl _, Lib.hid rfl, O0, B0⟩
  case round =>
    clear O0 B0
    obtain ⟨k, f, A, n, c, hk, hg, rfl, rfl, rfl, hf, HF, O, B⟩ := hrel
    have zs : (s.size : Int) = (N : Int) := by have := HN.out; omega
    by_cases hlt : k < N
    · have hks : k < s.size := by have := HN.out; omega
      have hltz : (k : Int) < (s.size : Int) := by omega
      have hb := byte_at hks
      rw [← HLs.out] at hb
      have HK := Lib.hid hlt
      by_cases h10 : s[k] = 10
      · have t1 : ((s[k].toNat : Int) == 10) = true := by rw [h10]; rfl
        have E1 : Hid (lnS l (k + 1) = ((lnS l k).1 ++ [(l.drop f).take (k - f)], k + 1)) := Lib.hid (by rw [lnS, hb, h10, if_pos rfl, HF.out])
        have C1 : Hid (Value.string (s.extract f k) = sv ((l.drop f).take (k - f))) := Lib.hid (by rw [cut_is, HLs.out])
        have LO : Hid ((lnS l k).1.length ≤ 1000000) := Lib.hid (by have := lnS_len l k; have := HN.out; omega)
        have OB := Lib.hid (O.out.below ((Below.refl _ wr).alloc (Nat.le_refl _) (.cells #[.string (s.extract f k)] 9)) (Nat.le_refl _))
        have BB := Lib.hid (B.out.trans (((Below.refl _ wr).alloc (Nat.le_refl _) (.cells #[.string (s.extract f k)] 9)).mono B.out.size))
        have C2 : Hid ((wr.alloc (.cells #[.string (s.extract f k)] 9)).cell? ⟨wr.heap.size, 0, none⟩ = some (sv ((l.drop f).take (k - f)))) := Lib.hid (by rw [one_str, C1.out])
        clear hb h10
        go_wp2_with (at_builtin; refine app_str _ _ w.heap.size _ _ OB.out wr.heap.size _ C2.out LO.out BB.out.size rfl rfl rfl rfl ?_; intro v' w1 hv hb; obtain ⟨A9, c9, rfl, -⟩ := hv.reads; obtain ⟨n9, hn9⟩ : ∃ n9, n9 = ((lnS l k).1 ++ [(l.drop f).take (k - f)]).length := ⟨_, rfl⟩; rw [← hn9] at hv ⊢; have O9 := Lib.hid hv; have B9 := Lib.hid (BB.out.trans hb); clear hv hb hn9)
        go_roundg (N - (k + 1))
        case measure => omega
        case rel => exact ⟨k + 1, k + 1, A9, n9, c9, by omega, by omega, rfl, by go_num, by go_num, Nat.le_refl _, Lib.hid (by rw [E1.out]), Lib.hid (by rw [E1.out]; exact O9.out), B9⟩
      · have t1 : ((s[k].toNat : Int) == 10) = false := by
          have : s[k].toNat ≠ 10 := fun e => h10 (UInt8.toNat_inj.1 (by rw [e]; rfl))
          simp; omega
        have E1 : Hid (lnS l (k + 1) = lnS l k) := Lib.hid (by rw [lnS, hb, if_neg (by simpa using h10)])
        clear hb h10
        go_wp2
        go_roundg (N - (k + 1))
        case measure => omega
        case rel => exact ⟨k + 1, f, A, n, c, by omega, by omega, rfl, rfl, by go_num, by omega, Lib.hid (by rw [E1.out]; exact HF.out), Lib.hid (by rw [E1.out]; exact O.out), B⟩
    · have hltz : ¬ (k : Int) < (s.size : Int) := by omega
      obtain rfl : N = k := by omega
      have HL9 : Hid (lnL l = if f < l.length then (lnS l N).1 ++ [l.drop f] else (lnS l N).1) := Lib.hid (by unfold lnL; rw [HSZ.out, ← HN.out, ← HF.out])
      by_cases hft : f < N
      · have hfz : (f : Int) < (s.size : Int) := by omega
        have C1 : Hid (Value.string (s.extract f s.size) = sv (l.drop f)) := Lib.hid (by rw [cut_is, ← HLs.out, List.take_of_length_le (by rw [List.length_drop, HSZ.out]; exact Nat.le_refl _)])
        have LO : Hid ((lnS l N).1.length ≤ 1000000) := Lib.hid (by have := lnS_len l N; have := HN.out; omega)
        have OB := Lib.hid (O.out.below ((Below.refl _ wr).alloc (Nat.le_refl _) (.cells #[.string (s.extract f s.size)] 9)) (Nat.le_refl _))
        have BB := Lib.hid (B.out.trans (((Below.refl _ wr).alloc (Nat.le_refl _) (.cells #[.string (s.extract f s.size)] 9)).mono B.out.size))
        have C2 : Hid ((wr.alloc (.cells #[.string (s.extract f s.size)] 9)).cell? ⟨wr.heap.size, 0, none⟩ = some (sv (l.drop f))) := Lib.hid (by rw [one_str, C1.out])
        rw [if_pos (by rw [HSZ.out, ← HN.out]; exact hft)] at HL9
        go_wp2_with (at_builtin; refine app_str _ _ w.heap.size _ _ OB.out wr.heap.size _ C2.out LO.out BB.out.size rfl rfl rfl rfl ?_; intro v' w1 hv hb; have O9 := Lib.hid hv; have B9 := Lib.hid (BB.out.trans hb); clear hv hb)
        go_ret
        exact ⟨_, rfl, by rw [HL9.out]; exact O9.out, B9.out⟩
      · have hfz : ¬ (f : Int) < (s.size : Int) := by omega
        rw [if_neg (by rw [HSZ.out, ← HN.out]; exact hft)] at HL9
        go_wp2
        go_ret
        exact ⟨_, rfl, by rw [HL9.out]; exact O.out, B.out⟩

end Go.Proofs.YtdonicaiimeleaaGreatDoor

namespace Go.Proofs.YtdonicaiimeleaaGreatDoor
open Go.RowKit Go.WideShapes Go.ChangeShapes
set_option linter.unusedVariables false
set_option linter.unusedSimpArgs false

theorem byte_eq {b : UInt8} {n : Nat} (h : n < 256) : ((b.toNat : Int) == (n : Int)) = (b == UInt8.ofNat n) := by
  by_cases e : b = UInt8.ofNat n
  · subst e
    simp [UInt8.toNat_ofNat, Nat.mod_eq_of_lt h]
  · have : (b == UInt8.ofNat n) = false := by simpa using e
    rw [this]
    have : b.toNat ≠ n := fun k => e (UInt8.toNat_inj.1 (by rw [k]; simp [UInt8.toNat_ofNat, Nat.mod_eq_of_lt h]))
    simp; omega
theorem gp_cases (b : UInt8) : (((b.toNat : Int) == 32) = true ∧ gp b = true) ∨ (((b.toNat : Int) == 32) = false ∧ ((b.toNat : Int) == 9) = true ∧ gp b = true) ∨ (((b.toNat : Int) == 32) = false ∧ ((b.toNat : Int) == 9) = false ∧ gp b = false) := by
  have h1 := byte_eq (b := b) (n := 32) (by decide)
  have h2 := byte_eq (b := b) (n := 9) (by decide)
  have e1 : ((b.toNat : Int) == 32) = (b == 32) := h1
  have e2 : ((b.toNat : Int) == 9) = (b == 9) := h2
  rw [e1, e2]
  unfold gp
  cases (b == 32) <;> cases (b == 9) <;> simp

theorem gp_ne (b : UInt8) : (((b.toNat : Int) != 32) = false ∧ gp b = true) ∨ (((b.toNat : Int) != 32) = true ∧ ((b.toNat : Int) != 9) = false ∧ gp b = true) ∨ (((b.toNat : Int) != 32) = true ∧ ((b.toNat : Int) != 9) = true ∧ gp b = false) := by
  rcases gp_cases b with ⟨h1, h3⟩ | ⟨h1, h2, h3⟩ | ⟨h1, h2, h3⟩
  · exact .inl ⟨by rw [bne, h1]; rfl, h3⟩
  · exact .inr (.inl ⟨by rw [bne, h1]; rfl, by rw [bne, h2]; rfl, h3⟩)
  · exact .inr (.inr ⟨by rw [bne, h1]; rfl, by rw [bne, h2]; rfl, h3⟩)

theorem gap_any (s : ByteArray) (w : World) (hs : s.size ≤ 100000) : Calls Tryz.prog 36 #[.string s] w fun x w' => x = .returned (.bool (gpL s.data.toList)) ∧ w = w' := by
  by_cases h0 : s.size = 0
  · have e : s.data.toList = [] := List.eq_nil_of_length_eq_zero (by simpa using h0)
    have z : (s.size : Int) = 0 := by omega
    rw [e]
    show Calls _ _ _ _ fun x w' => x = .returned (.bool false) ∧ _
    clear e h0
    go_enter Tryz.func36, Tryz.ntmps36
    go_wp2
    go_ret
    exact ⟨rfl, rfl⟩
  · have hlt : 0 < s.size := by omega
    have z : (s.size : Int) > 0 := by omega
    have z2 : (0 : Int) < (s.size : Int) := by omega
    have hb := byte_at hlt
    have e : gpL s.data.toList = gp s[0] := by
      cases h : s.data.toList with
      | nil => rw [h] at hb; cases hb
      | cons a r =>
        rw [h] at hb
        simp at hb
        rw [← hb]; rfl
    rw [e]
    clear e hb
    rcases gp_cases s[0] with ⟨h1, h3⟩ | ⟨h1, h2, h3⟩ | ⟨h1, h2, h3⟩
    all_goals
      rw [h3]
      clear h3
      go_enter Tryz.func36, Tryz.ntmps36
      go_wp2
      go_ret
      exact ⟨rfl, rfl⟩

theorem bs_app (a b : List UInt8) : (⟨a.toArray⟩ : ByteArray) ++ ⟨b.toArray⟩ = ⟨(a ++ b).toArray⟩ := by
  apply ByteArray.ext
  apply Array.toList_inj.1
  simp
set_option maxRecDepth 100000 in
set_option maxHeartbeats 4000000 in
theorem words_any11 (s : ByteArray) (w : World) (hs : s.size ≤ 100000) :
    Calls Tryz.prog 34 #[.string s] w fun x w' => ∃ v, x = .returned v ∧ Os w' w.heap.size v (wdL s.data.toList) ∧ Below w.heap.size w w' := by
  obtain ⟨W0, hW0⟩ : ∃ W0, W0 = w.alloc (.cells #[] 9) := ⟨_, rfl⟩
  have o0 : Os W0 w.heap.size (.slice (some ⟨w.heap.size, 0, none⟩) 0 0) [] := by rw [hW0]; exact Os.made w
  have b0 : Below w.heap.size w W0 := by rw [hW0]; exact (Below.refl _ w).alloc (Nat.le_refl _) _
  have O0 := Lib.hid o0; have B0 := Lib.hid b0
  clear o0 b0
  obtain ⟨l, hl⟩ : ∃ l, l = s.data.toList := ⟨_, rfl⟩
  have hsz : l.length = s.size := by rw [hl]; simp
  rw [← hl]
  have HLs := Lib.hid hl
  have HSZ := Lib.hid hsz
  obtain ⟨N, hN⟩ : ∃ N, N = s.size := ⟨_, rfl⟩
  have HN := Lib.hid hN
  clear hl
  go_enter Tryz.func34, Tryz.ntmps34
  go_upto_region 2 with fail
  rw [← hW0]
  clear hW0
  go_wp2
  go_loopg [3, 4, 5] (N + 1) (fun gg s3 s4 s5 wr => ∃ (k : Nat) (A : Option Addr) (n c : Nat) (u : List UInt8), k ≤ N + 1 ∧ N + 1 - k ≤ gg ∧ s3 = .slice A n c ∧ s4 = .string ⟨u.toArray⟩ ∧ s5 = .int .i64 k ∧ Hid (u = (wo l k).2) ∧ Hid (Os wr w.heap.size (.slice A n c) (wo l k).1) ∧ Hid (Below w.heap.size w wr))
  case atStart => exact ⟨0, some ⟨w.heap.size, 0, none⟩, 0, 0, [], Nat.zero_le _, by omega, rfl, rfl, rfl, Lib.hid rfl, O0, B0⟩
  case round =>
    clear O0 B0
    obtain ⟨k, A, n, c, u, hk, hg, rfl, rfl, rfl, HU, O, B⟩ := hrel
    have zs : (s.size : Int) = (N : Int) := by have := HN.out; omega
    have HUL : Hid (u.length ≤ k) := Lib.hid (by rw [HU.out]; exact (wo_len l k).2)
    by_cases hlt : k < N
    · have hks : k < s.size := by have := HN.out; omega
      have hltz : (k : Int) < (s.size : Int) := by omega
      have hlez : (k : Int) ≤ (s.size : Int) := by omega
      have hb := byte_at hks
      rw [← HLs.out] at hb
      have HK := Lib.hid hlt
      have usz : (⟨u.toArray⟩ : ByteArray).size = u.length := Lib.size_mk u
      rcases gp_ne s[k] with ⟨h1, h3⟩ | ⟨h1, h2, h3⟩ | ⟨h1, h2, h3⟩
      · have E1 := Lib.hid (wo_gap hb h3)
        clear hb h3
        by_cases hu : u = []
        · subst hu
          have E2 : Hid (fl (wo l k) = (wo l k).1) := Lib.hid (by unfold fl; rw [if_pos HU.out.symm])
          go_wp2
          go_roundg (N + 1 - (k + 1))
          case measure => omega
          case rel => exact ⟨k + 1, A, n, c, [], by omega, by omega, rfl, rfl, by go_num, Lib.hid (by rw [E1.out]), Lib.hid (by rw [E1.out, E2.out]; exact O.out), B⟩
        · have hup : 0 < u.length := List.length_pos_iff.2 hu
          have huz : (u.length : Int) > 0 := by omega
          have E2 : Hid (fl (wo l k) = (wo l k).1 ++ [u]) := Lib.hid (by unfold fl; rw [if_neg (by rw [← HU.out]; exact hu), HU.out])
          clear hu
          have OB := Lib.hid (O.out.below ((Below.refl _ wr).alloc (Nat.le_refl _) (.cells #[.string ⟨u.toArray⟩] 9)) (Nat.le_refl _))
          have BB := Lib.hid (B.out.trans (((Below.refl _ wr).alloc (Nat.le_refl _) (.cells #[.string ⟨u.toArray⟩] 9)).mono B.out.size))
          have C2 : Hid ((wr.alloc (.cells #[.string ⟨u.toArray⟩] 9)).cell? ⟨wr.heap.size, 0, none⟩ = some (sv u)) := Lib.hid (one_str _ _)
          have LO : Hid ((wo l k).1.length ≤ 1000000) := Lib.hid (by have := (wo_len l k).1; have := HN.out; omega)
          go_wp2_with (at_builtin; refine app_str _ _ w.heap.size _ _ OB.out wr.heap.size _ C2.out LO.out BB.out.size rfl rfl rfl rfl ?_; intro v' w1 hv hb; obtain ⟨A9, c9, rfl, -⟩ := hv.reads; obtain ⟨n9, hn9⟩ : ∃ n9, n9 = ((wo l k).1 ++ [u]).length := ⟨_, rfl⟩; rw [← hn9] at hv ⊢; have O9 := Lib.hid hv; have B9 := Lib.hid (BB.out.trans hb); clear hv hb hn9)
          go_roundg (N + 1 - (k + 1))
          case measure => omega
          case rel => exact ⟨k + 1, A9, n9, c9, [], by omega, by omega, rfl, rfl, by go_num, Lib.hid (by rw [E1.out]), Lib.hid (by rw [E1.out, E2.out]; exact O9.out), B9⟩
      · have E1 := Lib.hid (wo_gap hb h3)
        clear hb h3
        by_cases hu : u = []
        · subst hu
          have E2 : Hid (fl (wo l k) = (wo l k).1) := Lib.hid (by unfold fl; rw [if_pos HU.out.symm])
          go_wp2
          go_roundg (N + 1 - (k + 1))
          case measure => omega
          case rel => exact ⟨k + 1, A, n, c, [], by omega, by omega, rfl, rfl, by go_num, Lib.hid (by rw [E1.out]), Lib.hid (by rw [E1.out, E2.out]; exact O.out), B⟩
        · have hup : 0 < u.length := List.length_pos_iff.2 hu
          have huz : (u.length : Int) > 0 := by omega
          have E2 : Hid (fl (wo l k) = (wo l k).1 ++ [u]) := Lib.hid (by unfold fl; rw [if_neg (by rw [← HU.out]; exact hu), HU.out])
          clear hu
          have OB := Lib.hid (O.out.below ((Below.refl _ wr).alloc (Nat.le_refl _) (.cells #[.string ⟨u.toArray⟩] 9)) (Nat.le_refl _))
          have BB := Lib.hid (B.out.trans (((Below.refl _ wr).alloc (Nat.le_refl _) (.cells #[.string ⟨u.toArray⟩] 9)).mono B.out.size))
          have C2 : Hid ((wr.alloc (.cells #[.string ⟨u.toArray⟩] 9)).cell? ⟨wr.heap.size, 0, none⟩ = some (sv u)) := Lib.hid (one_str _ _)
          have LO : Hid ((wo l k).1.length ≤ 1000000) := Lib.hid (by have := (wo_len l k).1; have := HN.out; omega)
          go_wp2_with (at_builtin; refine app_str _ _ w.heap.size _ _ OB.out wr.heap.size _ C2.out LO.out BB.out.size rfl rfl rfl rfl ?_; intro v' w1 hv hb; obtain ⟨A9, c9, rfl, -⟩ := hv.reads; obtain ⟨n9, hn9⟩ : ∃ n9, n9 = ((wo l k).1 ++ [u]).length := ⟨_, rfl⟩; rw [← hn9] at hv ⊢; have O9 := Lib.hid hv; have B9 := Lib.hid (BB.out.trans hb); clear hv hb hn9)
          go_roundg (N + 1 - (k + 1))
          case measure => omega
          case rel => exact ⟨k + 1, A9, n9, c9, [], by omega, by omega, rfl, rfl, by go_num, Lib.hid (by rw [E1.out]), Lib.hid (by rw [E1.out, E2.out]; exact O9.out), B9⟩
      · have E1 := Lib.hid (wo_sign hb h3)
        have hc : s.extract k (k + 1) = ⟨[s[k]].toArray⟩ := by
          have := cut_is s k (k + 1)
          unfold sv at this
          injection this with this
          rw [this]
          congr 1
          rw [← HLs.out, show k + 1 - k = 1 by omega, List.drop_eq_getElem_cons (by rw [HSZ.out]; exact hks)]
          have := (List.getElem?_eq_some_iff.1 hb).2
          simp [this]
        have HC : Hid ((⟨u.toArray⟩ : ByteArray) ++ s.extract k (k + 1) = ⟨(u ++ [s[k]]).toArray⟩) := Lib.hid (by rw [hc]; exact bs_app u [s[k]])
        have esz : (s.extract k (k + 1)).size = 1 := by rw [hc]; rfl
        have hul : u.length ≤ 100001 := by have := HUL.out; omega
        have k1 : (k : Int) + 1 ≤ (s.size : Int) := by omega
        clear hb h3 hc
        go_wp2
        go_roundg (N + 1 - (k + 1))
        case measure => omega
        case rel => exact ⟨k + 1, A, n, c, u ++ [s[k]], by omega, by omega, rfl, by rw [HC.out], by go_num, Lib.hid (by rw [E1.out, HU.out]), Lib.hid (by rw [E1.out]; exact O.out), B⟩
    · by_cases hEq : k = N
      · have hltz : ¬ (k : Int) < (s.size : Int) := by omega
        have hlez : (k : Int) ≤ (s.size : Int) := by omega
        have hnone : l[k]? = none := List.getElem?_eq_none (by rw [HSZ.out]; have := HN.out; omega)
        have usz : (⟨u.toArray⟩ : ByteArray).size = u.length := Lib.size_mk u
        have HKN := Lib.hid hEq
        clear hEq
        have E1 := Lib.hid (wo_end hnone)
        clear hnone
        by_cases hu : u = []
        · subst hu
          have E2 : Hid (fl (wo l k) = (wo l k).1) := Lib.hid (by unfold fl; rw [if_pos HU.out.symm])
          go_wp2
          go_roundg (N + 1 - (k + 1))
          case measure => omega
          case rel => exact ⟨k + 1, A, n, c, [], by omega, by omega, rfl, rfl, by go_num, Lib.hid (by rw [E1.out]), Lib.hid (by rw [E1.out, E2.out]; exact O.out), B⟩
        · have hup : 0 < u.length := List.length_pos_iff.2 hu
          have huz : (u.length : Int) > 0 := by omega
          have E2 : Hid (fl (wo l k) = (wo l k).1 ++ [u]) := Lib.hid (by unfold fl; rw [if_neg (by rw [← HU.out]; exact hu), HU.out])
          clear hu
          have OB := Lib.hid (O.out.below ((Below.refl _ wr).alloc (Nat.le_refl _) (.cells #[.string ⟨u.toArray⟩] 9)) (Nat.le_refl _))
          have BB := Lib.hid (B.out.trans (((Below.refl _ wr).alloc (Nat.le_refl _) (.cells #[.string ⟨u.toArray⟩] 9)).mono B.out.size))
          have C2 : Hid ((wr.alloc (.cells #[.string ⟨u.toArray⟩] 9)).cell? ⟨wr.heap.size, 0, none⟩ = some (sv u)) := Lib.hid (one_str _ _)
          have LO : Hid ((wo l k).1.length ≤ 1000000) := Lib.hid (by have := (wo_len l k).1; have := HN.out; omega)
          go_wp2_with (at_builtin; refine app_str _ _ w.heap.size _ _ OB.out wr.heap.size _ C2.out LO.out BB.out.size rfl rfl rfl rfl ?_; intro v' w1 hv hb; obtain ⟨A9, c9, rfl, -⟩ := hv.reads; obtain ⟨n9, hn9⟩ : ∃ n9, n9 = ((wo l k).1 ++ [u]).length := ⟨_, rfl⟩; rw [← hn9] at hv ⊢; have O9 := Lib.hid hv; have B9 := Lib.hid (BB.out.trans hb); clear hv hb hn9)
          go_roundg (N + 1 - (k + 1))
          case measure => omega
          case rel => exact ⟨k + 1, A9, n9, c9, [], by omega, by omega, rfl, rfl, by go_num, Lib.hid (by rw [E1.out]), Lib.hid (by rw [E1.out, E2.out]; exact O9.out), B9⟩
      · have hlez : ¬ (k : Int) ≤ (s.size : Int) := by omega
        have hke : k = N + 1 := by omega
        have HKE := Lib.hid hke
        clear hke hEq
        go_wp2
        go_ret
        exact ⟨_, rfl, by unfold wdL; rw [HSZ.out, ← HN.out, ← HKE.out]; exact O.out, B.out⟩

end Go.Proofs.YtdonicaiimeleaaGreatDoor
