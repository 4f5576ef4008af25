/- Merged: ListA, FigC, RefA, BigM. -/
import Derived.Test.YtiamggjebaabkaaGreatDoorGListRemarks1
import Derived.Test.YtiamggjebaabkaaGreatDoorGListRemarks12
import Derived.Deep.LoopGhost
import Derived.Deep.Draws
import Derived.Deep.QuietTactic
import Derived.BigQuiet
import Derived.Laws.AppendOwn
import Derived.Laws.AppendOwnNone
import Derived.Laws.OwnMore
import Derived.OwnWalk
import Derived.Carry
import Derived.Lib.SliceRun
import Derived.Deep.DeepCutAuto
import Derived.Deep.CutRange
import Derived.Deep.CutBlock
import Derived.Test.YtiamggjebaabkaaGreatDoorGListRemarks4
import Derived.Lib.AppendIntMem
import Derived.Outline
import Derived.LoopTactic
import Derived.Laws.IdiomStrings
import Derived.RowKit
namespace Go.Proofs.YtiamggjebaabkaaGreatDoor
open Go.RowKit Go.WideShapes Go.ChangeShapes
set_option linter.unusedVariables false
set_option linter.unusedSimpArgs false

/-- A text's value. -/
def sv (l : List UInt8) : Value := .string ⟨l.toArray⟩
theorem sinfo : (Tryz.prog.info? 9).map (fun i => (i.zero, i.size, i.bytes)) = some (some (.string ⟨#[]⟩), 1, 16) := by kernel_rfl
theorem sund : Tryz.prog.underlying 65 = some (.slice 9) := by kernel_rfl
/-- A row of strings of the call's own. -/
def Os (w : World) (base : Nat) (v : Value) (ls : List (List UInt8)) : Prop := w.ownsRow base 9 1 v ls.length (ls.map sv)
theorem Os.below {w w' : World} {base B : Nat} {v : Value} {ls : List (List UInt8)} (h : Os w base v ls) (hb : Below B w w') (hB : w.heap.size ≤ B) : Os w' base v ls := by
  refine ⟨h.1, ?_⟩
  rcases h.2 with h0 | ⟨g, cap, cur, h1, h2, h3, h4⟩
  · exact .inl h0
  · exact .inr ⟨g, cap, cur, h1, h2, (hb.block g (Nat.lt_of_lt_of_le (bk_lt h3) hB)).trans h3, h4⟩
theorem Os.made (w : World) : Os (w.alloc (.cells #[] 9)) w.heap.size (.slice (some ⟨w.heap.size, 0, none⟩) 0 0) [] := World.ownsRow_made w #[] 0 (Nat.le_refl _) (Nat.zero_le _) rfl
/-- The slice at A reads as the strings ls. -/
def Rs (w : World) (A : Option Addr) (ls : List (List UInt8)) : Prop := ls = [] ∨ ∃ b off, A = some ⟨b, off, none⟩ ∧ b < w.heap.size ∧ ∀ j l, ls[j]? = some l → w.cell? ⟨b, off + j, none⟩ = some (sv l)
theorem Rs.below {w w' : World} {A : Option Addr} {ls : List (List UInt8)} (h : Rs w A ls) (hb : Below w.heap.size w w') : Rs w' A ls := by
  rcases h with h | ⟨b, off, h1, h2, h3⟩
  · exact .inl h
  · exact .inr ⟨b, off, h1, Nat.lt_of_lt_of_le h2 hb.size, fun j l hj => (hb.cell (p := ⟨b, off + j, none⟩) h2).trans (h3 j l hj)⟩
theorem Os.reads {w : World} {base : Nat} {v : Value} {ls : List (List UInt8)} (h : Os w base v ls) : ∃ A c, v = .slice A ls.length c ∧ Rs w A ls ∧ (A = none → c = 0 ∧ ls = []) := by
  rcases h.2 with ⟨hv, hn⟩ | ⟨g, cap, cur, hv, hb, hh, hc, hm, hs, ht⟩
  · obtain rfl : ls = [] := List.eq_nil_of_length_eq_zero hn
    exact ⟨none, 0, hv, .inl rfl, fun _ => ⟨rfl, rfl⟩⟩
  · refine ⟨_, cap, hv, .inr ⟨g, 0, rfl, bk_lt hh, fun j l hj => ?_⟩, fun h => (by cases h)⟩
    have hu : (ls.map sv)[j]? = some (sv l) := by rw [List.getElem?_map, hj]; rfl
    have h1 : j < ls.length * 1 := by
      have := (List.getElem?_eq_some_iff.1 hj).1
      omega
    rw [← ht, List.getElem?_take, if_pos h1] at hu
    rw [bk_cell hh, Nat.zero_add]
    simpa using hu
theorem Os.block {w : World} {base : Nat} {v : Value} {ls : List (List UInt8)} (h : Os w base v ls) : ∀ g, v.ownBlock = some g → base ≤ g := fun g hg => (World.ownsRow.lt h g hg).1

set_option maxRecDepth 100000 in
theorem app_str {ops : Array Oper} {rest : List Oper} {o : Oper} {a : Act} {Q : Exit → Act → World → Prop} {w : World} (s x : Operand) (base : Nat) (v : Value) (ls : List (List UInt8)) (hown : Os w base v ls) (g : Nat) (u : List UInt8)
    (hr : w.cell? ⟨g, 0, none⟩ = some (sv u)) (hl : ls.length ≤ 1000000) (hbase : base ≤ w.heap.size) (hgd : o.guard = none)
    (ho : o.op = .call { callee := .builtin .append, args := #[s, x], argTypes := #[65, 65] }) (hs : a.eval s = v) (hx : a.eval x = .slice (some ⟨g, 0, none⟩) 1 1)
    (h : ∀ v' w', Os w' base v' (ls ++ [u]) → Below base w w' → wpList Tryz.prog ops Q rest (a.put o.dst v') w') : wpList Tryz.prog ops Q (o :: rest) a w := by
  obtain ⟨i, hi, hzz⟩ := Option.map_eq_some_iff.1 sinfo
  simp only [Prod.mk.injEq] at hzz
  obtain ⟨hz, hsz, hb⟩ := hzz
  have hrun : ∃ v' w', (Builtin.append_ #[65, 65] o.type #[v, .slice (some ⟨g, 0, none⟩) 1 1]).run Tryz.prog w = .ok v' w' ∧ Os w' base v' (ls ++ [u]) ∧ Below base w w' := by
    obtain ⟨v', w', e1, e2, e3, _, _⟩ := run_append_own_at (P := Tryz.prog) w base 65 o.type 9 i (.string ⟨#[]⟩) 1 16 sund hi hz hsz hb rfl (by decide) v ls.length (ls.map sv) hown ⟨g, 0, none⟩ 1 1 [sv u] rfl
      (fun j x hj => by
        cases j with
        | zero =>
          injection hj with hj
          subst hj
          simpa [Addr.add] using hr
        | succ k => simp at hj) (fun x hx => by simp at hx; subst hx; rfl) (by unfold maxLen; omega) (by omega) hbase
    refine ⟨v', w', e1, by unfold Os; rw [List.length_append, List.map_append]; exact e2, (Below.refl _ _).grown e3 hbase fun k hk => hown.block k hk⟩
  refine wpList_plain hgd fun K hK => ?_
  obtain ⟨v', w', e1, e2, e3⟩ := hrun
  unfold Oper.wp execOp
  simp only [ho, resolve, invoke, builtin, Sem.run_bind, Sem.run_pure, Result.andThen_ok, List.map_toArray, List.map_cons, List.map_nil, hs, hx, e1]
  exact hK _ _ (h v' w' e2 e3)

theorem cut_mid (X : ByteArray) (a b : Nat) : (X.extract a b).data.toList = (X.data.toList.drop a).take (b - a) := by
  rw [ByteArray.data_extract, Array.toList_extract]
/-- A part of a text, as a list. -/
theorem cut_is (s : ByteArray) (a b : Nat) : Value.string (s.extract a b) = sv ((s.data.toList.drop a).take (b - a)) := by
  have h : (s.extract a b).data.toList = (s.data.toList.drop a).take (b - a) := cut_mid s a b
  unfold sv
  rw [← h]
theorem byte_at {s : ByteArray} {i : Nat} (h : i < s.size) : s.data.toList[i]? = some s[i] := by
  rw [List.getElem?_eq_getElem (by simpa using h)]; rfl
theorem one_str (w : World) (S : ByteArray) : (w.alloc (.cells #[.string S] 9)).cell? ⟨w.heap.size, 0, none⟩ = some (.string S) := bk_cell (heap_alloc_new w _) 0

set_option maxRecDepth 100000 in
set_option maxHeartbeats 4000000 in
theorem lines_any (s : ByteArray) (w : World) (hs : s.size ≤ 100000) :
    Calls Tryz.prog 26 #[.string s] w fun x w' => ∃ v, x = .returned v ∧ Os w' w.heap.size v (lnL s.data.toList) ∧ Below w.heap.size w w' := by
  obtain ⟨W0, hW0⟩ : ∃ W0, W0 = w.alloc (.cells #[] 9) := ⟨_, rfl⟩
  have o0 : Os W0 w.heap.size (.slice (some ⟨w.heap.size, 0, none⟩) 0 0) [] := by rw [hW0]; exact Os.made w
  have b0 : Below w.heap.size w W0 := by rw [hW0]; exact (Below.refl _ w).alloc (Nat.le_refl _) _
  have O0 := Lib.hid o0; have B0 := Lib.hid b0
  clear o0 b0
  obtain ⟨l, hl⟩ : ∃ l, l = s.data.toList := ⟨_, rfl⟩
  have hsz : l.length = s.size := by rw [hl]; simp
  rw [← hl]
  have HLs := Lib.hid hl
  have HSZ := Lib.hid hsz
  obtain ⟨N, hN⟩ : ∃ N, N = s.size := ⟨_, rfl⟩
  have HN := Lib.hid hN
  clear hl
  go_enter Tryz.func26, Tryz.ntmps26
  go_upto_region 2 with fail
  rw [← hW0]
  clear hW0
  go_wp2
  go_loopg [3, 4, 5] N (fun gg s3 s4 s5 wr => ∃ (k f : Nat) (A : Option Addr) (n c : Nat), k ≤ N ∧ N - k ≤ gg ∧ s3 = .slice A n c ∧ s4 = .int .i64 f ∧ s5 = .int .i64 k ∧ f ≤ k ∧ Hid (f = (lnS l k).2) ∧ Hid (Os wr w.heap.size (.slice A n c) (lnS l k).1) ∧ Hid (Below w.heap.size w wr))
  case atStart => exact ⟨0, 0, some ⟨w.heap.size, 0, none⟩, 0, 0, Nat.zero_le _, by omega, rfl, rfl, rfl, Nat.le_refl _, Lib.hid rfl, O0, B0⟩
  case round =>
    clear O0 B0
    obtain ⟨k, f, A, n, c, hk, hg, rfl, rfl, rfl, hf, HF, O, B⟩ := hrel
    have zs : (s.size : Int) = (N : Int) := by have := HN.out; omega
    by_cases hlt : k < N
    · have hks : k < s.size := by have := HN.out; omega
      have hltz : (k : Int) < (s.size : Int) := by omega
      have hb := byte_at hks
      rw [← HLs.out] at hb
      have HK := Lib.hid hlt
      by_cases h10 : s[k] = 10
      · have t1 : ((s[k].toNat : Int) == 10) = true := by rw [h10]; rfl
        have E1 : Hid (lnS l (k + 1) = ((lnS l k).1 ++ [(l.drop f).take (k - f)], k + 1)) := Lib.hid (by rw [lnS, hb, h10, if_pos rfl, HF.out])
        have C1 : Hid (Value.string (s.extract f k) = sv ((l.drop f).take (k - f))) := Lib.hid (by rw [cut_is, HLs.out])
        have LO : Hid ((lnS l k).1.length ≤ 1000000) := Lib.hid (by have := lnS_len l k; have := HN.out; omega)
        have OB := Lib.hid (O.out.below ((Below.refl _ wr).alloc (Nat.le_refl _) (.cells #[.string (s.extract f k)] 9)) (Nat.le_refl _))
        have BB := Lib.hid (B.out.trans (((Below.refl _ wr).alloc (Nat.le_refl _) (.cells #[.string (s.extract f k)] 9)).mono B.out.size))
        have C2 : Hid ((wr.alloc (.cells #[.string (s.extract f k)] 9)).cell? ⟨wr.heap.size, 0, none⟩ = some (sv ((l.drop f).take (k - f)))) := Lib.hid (by rw [one_str, C1.out])
        clear hb h10
        go_wp2_with (at_builtin; refine app_str _ _ w.heap.size _ _ OB.out wr.heap.size _ C2.out LO.out BB.out.size rfl rfl rfl rfl ?_; intro v' w1 hv hb; obtain ⟨A9, c9, rfl, -⟩ := hv.reads; obtain ⟨n9, hn9⟩ : ∃ n9, n9 = ((lnS l k).1 ++ [(l.drop f).take (k - f)]).length := ⟨_, rfl⟩; rw [← hn9] at hv ⊢; have O9 := Lib.hid hv; have B9 := Lib.hid (BB.out.trans hb); clear hv hb hn9)
        go_roundg (N - (k + 1))
        case measure => omega
        case rel => exact ⟨k + 1, k + 1, A9, n9, c9, by omega, by omega, rfl, by go_num, by go_num, Nat.le_refl _, Lib.hid (by rw [E1.out]), Lib.hid (by rw [E1.out]; exact O9.out), B9⟩
      · have t1 : ((s[k].toNat : Int) == 10) = false := by
          have : s[k].toNat ≠ 10 := fun e => h10 (UInt8.toNat_inj.1 (by rw [e]; rfl))
          simp; omega
        have E1 : Hid (lnS l (k + 1) = lnS l k) := Lib.hid (by rw [lnS, hb, if_neg (by simpa using h10)])
        clear hb h10
        go_wp2
        go_roundg (N - (k + 1))
        case measure => omega
        case rel => exact ⟨k + 1, f, A, n, c, by omega, by omega, rfl, rfl, by go_num, by omega, Lib.hid (by rw [E1.out]; exact HF.out), Lib.hid (by rw [E1.out]; exact O.out), B⟩
    · have hltz : ¬ (k : Int) < (s.size : Int) := by omega
      obtain rfl : N = k := by omega
      have HL9 : Hid (lnL l = if f < l.length then (lnS l N).1 ++ [l.drop f] else (lnS l N).1) := Lib.hid (by unfold lnL; rw [HSZ.out, ← HN.out, ← HF.out])
      by_cases hft : f < N
      · have hfz : (f : Int) < (s.size : Int) := by omega
        have C1 : Hid (Value.string (s.extract f s.size) = sv (l.drop f)) := Lib.hid (by rw [cut_is, ← HLs.out, List.take_of_length_le (by rw [List.length_drop, HSZ.out]; exact Nat.le_refl _)])
        have LO : Hid ((lnS l N).1.length ≤ 1000000) := Lib.hid (by have := lnS_len l N; have := HN.out; omega)
        have OB := Lib.hid (O.out.below ((Below.refl _ wr).alloc (Nat.le_refl _) (.cells #[.string (s.extract f s.size)] 9)) (Nat.le_refl _))
        have BB := Lib.hid (B.out.trans (((Below.refl _ wr).alloc (Nat.le_refl _) (.cells #[.string (s.extract f s.size)] 9)).mono B.out.size))
        have C2 : Hid ((wr.alloc (.cells #[.string (s.extract f s.size)] 9)).cell? ⟨wr.heap.size, 0, none⟩ = some (sv (l.drop f))) := Lib.hid (by rw [one_str, C1.out])
        rw [if_pos (by rw [HSZ.out, ← HN.out]; exact hft)] at HL9
        go_wp2_with (at_builtin; refine app_str _ _ w.heap.size _ _ OB.out wr.heap.size _ C2.out LO.out BB.out.size rfl rfl rfl rfl ?_; intro v' w1 hv hb; have O9 := Lib.hid hv; have B9 := Lib.hid (BB.out.trans hb); clear hv hb)
        go_ret
        exact ⟨_, rfl, by rw [HL9.out]; exact O9.out, B9.out⟩
      · have hfz : ¬ (f : Int) < (s.size : Int) := by omega
        rw [if_neg (by rw [HSZ.out, ← HN.out]; exact hft)] at HL9
        go_wp2
        go_ret
        exact ⟨_, rfl, by rw [HL9.out]; exact O.out, B.out⟩

end Go.Proofs.YtiamggjebaabkaaGreatDoor

namespace Go.Proofs.YtiamggjebaabkaaGreatDoor
open Go.RowKit
set_option linter.unusedVariables false

/-- The library's table of powers of ten. -/
def Tab (w : World) : Prop := Lib.TabIs Tryz.prog w "internal/strconv.uint64pow10" .u64 Lib.pow10Tab
theorem gtab : Tryz.prog.globalNamed "internal/strconv.uint64pow10" = some 6 := by kernel_rfl
theorem Tab.below {w w' : World} (h : Tab w) (hb : Below w.heap.size w w') : Tab w' := Joins.tab_stays gtab h hb (Nat.le_refl _)

def ptE (width : Int) : Int := if width < 0 ∨ 20 < width then 1 else 0
def ptL (n width : Int) : List UInt8 :=
  if width < 0 ∨ 20 < width then [] else if n < 0 then 45 :: pad width.toNat (Lib.decDigits n.natAbs) else pad width.toNat (Lib.decDigits n.natAbs)

theorem bs_append (a b : List UInt8) : (⟨a.toArray⟩ : ByteArray) ++ ⟨b.toArray⟩ = ⟨(a ++ b).toArray⟩ := by
  apply ByteArray.ext; simp
theorem dec_head (u : Nat) : Lib.hasPrefix (Lib.decDigits u) [45] = false := by
  have h := dec_isd u
  cases hd : Lib.decDigits u with
  | nil => rfl
  | cons b r =>
    rw [hd] at h
    have := isd_bd (h b (by simp))
    simp only [Lib.hasPrefix, List.isPrefixOf, Bool.and_true]
    apply beq_false_of_ne
    rintro rfl
    revert this; decide
theorem cut_itoa (n : Int) : Lib.trimPrefix (Lib.itoa n) [45] = Lib.decDigits n.natAbs ∧ Lib.hasPrefix (Lib.itoa n) [45] = decide (n < 0) := by
  by_cases h : n < 0
  · have e : Lib.itoa n = 45 :: Lib.decDigits n.natAbs := by unfold Lib.itoa; rw [if_pos h]
    have hp : Lib.hasPrefix (Lib.itoa n) [45] = true := by rw [e]; simp [Lib.hasPrefix, List.isPrefixOf]
    refine ⟨?_, by rw [hp]; simp [h]⟩
    unfold Lib.trimPrefix; rw [hp, e]; rfl
  · have e : Lib.itoa n = Lib.decDigits n.natAbs := by unfold Lib.itoa; rw [if_neg h]; congr 1; omega
    have hp : Lib.hasPrefix (Lib.itoa n) [45] = false := by rw [e]; exact dec_head _
    refine ⟨?_, by rw [hp]; simp [h]⟩
    unfold Lib.trimPrefix; rw [hp, e]; rfl
theorem repeat_one (c : UInt8) : ∀ k, Lib.repeatL [c] k = List.replicate k c
  | 0 => rfl
  | k + 1 => by rw [Lib.repeatL, repeat_one c k, List.replicate_succ]; rfl
theorem format_any (n : Int) (w : World) (hn : fits n) (ht : Tab w) :
    Calls Tryz.prog 89 #[.int .i64 n, .int .i64 10] w fun e w' => e = .returned (.string ⟨(Lib.itoa n).toArray⟩) ∧ Below w.heap.size w w' :=
  (Tryz.strconv_FormatInt_10 n hn.1 hn.2 w ht).mono fun e w' ⟨he, k, os, hw⟩ => ⟨he, hw ▸ Lib.below_grow _ _ (Nat.le_refl _) _ _⟩
theorem zeros_any (k : Nat) (w : World) (hk : k ≤ 100) :
    Calls Tryz.prog 90 #[.string ⟨#[48]⟩, .int .i64 k] w fun e w' => e = .returned (.string ⟨(List.replicate k 48).toArray⟩) ∧ Below w.heap.size w w' := by
  have h := Tryz.strings_Repeat ⟨#[48]⟩ k w (by omega) (by show 1 * k ≤ _; omega)
  rw [show ((⟨#[48]⟩ : ByteArray).data.toList) = [48] from rfl, repeat_one] at h
  exact h

set_option maxHeartbeats 800000 in
theorem put_any (n width : Int) (w : World) (hn : fits n) (hw : fits width) (ht : Tab w) :
    Calls Tryz.prog 63 #[.int .i64 n, .int .i64 width] w fun e w' =>
      e = .returned (.tuple #[.string ⟨(ptL n width).toArray⟩, ev (ptE width)]) ∧ Below w.heap.size w w' := by
  by_cases hr : width < 0 ∨ 20 < width
  · have e1 : ptL n width = [] := by unfold ptL; rw [if_pos hr]
    have e2 : ptE width = 1 := by unfold ptE; rw [if_pos hr]
    rw [e1, e2]; clear e1 e2
    have hr' : width < 0 ∨ (¬ width < 0 ∧ 20 < width) := by omega
    clear hr
    rcases hr' with h1 | ⟨h1, h2⟩
    all_goals
      go_enter Tryz.func63, Tryz.ntmps63
      go_wp2
      go_ret2
      exact ⟨rfl, Below.refl _ _⟩
  · have e2 : ptE width = 0 := by unfold ptE; rw [if_neg hr]
    rw [e2]; clear e2
    have h1 : 0 ≤ width := by omega
    have h2 : width ≤ 20 := by omega
    obtain ⟨W, rfl⟩ := Int.eq_ofNat_of_zero_le h1
    have e1 : ptL n W = if n < 0 then 45 :: pad W (Lib.decDigits n.natAbs) else pad W (Lib.decDigits n.natAbs) := by
      unfold ptL; rw [if_neg hr]; simp
    clear hr
    obtain ⟨ci, hi⟩ := cut_itoa n
    have hc := fun w => cutp_any ⟨(Lib.itoa n).toArray⟩ 45 w
    simp only [ci, hi] at hc
    have hf := format_any n w hn ht
    generalize Lib.itoa n = I at *
    have hu : n.natAbs < 10 ^ 19 := by
      unfold fits at hn
      have h : 9223372036854775808 < 10 ^ 19 := by decide
      omega
    have hl := dec_len (k := 19) (u := n.natAbs) (by decide) hu
    clear hu
    generalize hD : Lib.decDigits n.natAbs = D at *
    obtain ⟨k, hk⟩ : ∃ k : Nat, k = W - D.length := ⟨_, rfl⟩
    have hz := fun w => zeros_any k w (by omega)
    have hmax : max (0 : Int) ((W : Int) - (D.length : Int)) = (k : Int) := by omega
    have hsz : (⟨D.toArray⟩ : ByteArray).size = D.length := Lib.size_mk D
    have e3 : pad W D = List.replicate k 48 ++ D := by unfold pad; rw [hk]
    rw [e3] at e1
    have HC := Lib.hid hc; have HF := Lib.hid hf; have HZ := Lib.hid hz; have HE := Lib.hid e1
    clear ci hi hc hf hz e1 e3 hk hD ht hn hw
    by_cases hneg : n < 0
    · have e : ptL n W = 45 :: (List.replicate k 48 ++ D) := by rw [HE.out, if_pos hneg]
      rw [e]
      have hb : decide (n < 0) = true := by simpa using hneg
      rw [hb] at HC
      clear HE e hb
      go_enter Tryz.func63, Tryz.ntmps63
      go_wp2_with (first
        | (go_at_call 89; refine HF.out.mono ?_; rintro e w1 ⟨rfl, hb1⟩; have HB1 := Lib.hid hb1; clear hb1)
        | (go_at_call 88; refine (HC.out _).mono ?_; rintro e w' ⟨rfl, rfl⟩)
        | (go_at_call 90; refine (HZ.out _).mono ?_; rintro e w2 ⟨rfl, hb2⟩; have HB2 := Lib.hid hb2; clear hb2))
      go_ret2
      refine ⟨ret2_eq ?_ rfl, HB1.out.trans (HB2.out.mono HB1.out.size)⟩
      show Value.string (⟨[45].toArray⟩ ++ ⟨(List.replicate k 48).toArray⟩ ++ ⟨D.toArray⟩) = _
      rw [bs_append, bs_append]; rfl
    · have e : ptL n W = List.replicate k 48 ++ D := by rw [HE.out, if_neg hneg]
      rw [e]
      have hb : decide (n < 0) = false := by simpa using hneg
      rw [hb] at HC
      clear HE e hb
      go_enter Tryz.func63, Tryz.ntmps63
      go_wp2_with (first
        | (go_at_call 89; refine HF.out.mono ?_; rintro e w1 ⟨rfl, hb1⟩; have HB1 := Lib.hid hb1; clear hb1)
        | (go_at_call 88; refine (HC.out _).mono ?_; rintro e w' ⟨rfl, rfl⟩)
        | (go_at_call 90; refine (HZ.out _).mono ?_; rintro e w2 ⟨rfl, hb2⟩; have HB2 := Lib.hid hb2; clear hb2))
      go_ret2
      refine ⟨ret2_eq ?_ rfl, HB1.out.trans (HB2.out.mono HB1.out.size)⟩
      show Value.string (⟨(List.replicate k 48).toArray⟩ ++ ⟨D.toArray⟩) = _
      rw [bs_append]

/-! ### PutFraction, Short -/
/-- Isn't it a fraction? -/
def nf (nano : Int) : Prop := nano < 0 ∨ 999999999 < nano
instance (n : Int) : Decidable (nf n) := by unfold nf; infer_instance
end Go.Proofs.YtiamggjebaabkaaGreatDoor

namespace Go.Proofs.YtiamggjebaabkaaGreatDoor
open Go.RowKit
set_option linter.unusedVariables false

/-! ### Raw -/
/-! ### Put -/
/-- The figures of 2^63. -/
def lowest : List UInt8 := [57, 50, 50, 51, 51, 55, 50, 48, 51, 54, 56, 53, 52, 55, 55, 53, 56, 48, 56]
end Go.Proofs.YtiamggjebaabkaaGreatDoor

namespace Go.Proofs.YtiamggjebaabkaaGreatDoor

/-- The number of a row of digits, the lowest first. -/
def nv : List Nat → Nat
  | [] => 0
  | d :: r => d + 65536 * nv r
/-- The digit at i; 0 beyond the last one. -/
def dg (ds : List Nat) (i : Nat) : Nat := ds.getD i 0
/-- The number of the digits from i on. -/
def vd (ds : List Nat) (i : Nat) : Nat := nv (ds.drop i)
/-- All digits are less than the base. -/
def low (ds : List Nat) : Prop := ∀ d ∈ ds, d < 65536

theorem nv_snoc (ds : List Nat) (d : Nat) : nv (ds ++ [d]) = nv ds + 65536 ^ ds.length * d := by
  induction ds with
  | nil => simp [nv]
  | cons x r ih =>
    simp only [List.cons_append, nv, ih, List.length_cons, Nat.pow_succ]
    rw [Nat.mul_add, Nat.add_assoc]
    congr 2
    rw [Nat.mul_comm (65536 ^ r.length) 65536, Nat.mul_assoc]
theorem low_snoc {ds : List Nat} {d : Nat} (h : low ds) (hd : d < 65536) : low (ds ++ [d]) := by
  intro x hx
  rcases List.mem_append.mp hx with hx | hx
  · exact h x hx
  · rw [List.mem_singleton.mp hx]; exact hd
theorem low_take {ds : List Nat} (h : low ds) (i : Nat) : low (ds.take i) := fun d hd => h d (List.mem_of_mem_take hd)

theorem dg_take {ds : List Nat} {n j : Nat} (h : j < n) : dg (ds.take n) j = dg ds j := by
  unfold dg
  simp only [List.getD_eq_getElem?_getD]
  rw [List.getElem?_take_of_lt h]
end Go.Proofs.YtiamggjebaabkaaGreatDoor
