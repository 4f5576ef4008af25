/- Merged: RefA, Strs. -/
import Derived.Test.YtkhcneacjnpcnaaGPosixParses4
import Derived.Outline
import Derived.LoopTactic
import Derived.Laws.IdiomStrings
import Derived.Test.YtkhcneacjnpcnaaGPosixParses2
import Derived.Test.YtkhcneacjnpcnaaGPosixParses16
import Derived.Deep.LoopGhost
import Derived.Deep.Draws
import Derived.Deep.QuietTactic
import Derived.BigQuiet
import Derived.Laws.AppendOwn
import Derived.Laws.AppendOwnNone
import Derived.Laws.OwnMore
import Derived.OwnWalk
import Derived.Carry
import Derived.Lib.SliceRun
import Derived.Deep.DeepCutAuto
import Derived.Deep.CutRange
import Derived.Deep.CutBlock
namespace Go.Proofs.Ytkhcneacjnpcnaa
open Go.RowKit
set_option linter.unusedVariables false

theorem ris_any (c : UInt8) (w : World) :
    Calls Try.prog 59 #[.int .u8 c.toNat] w fun e w' => e = .returned (.bool (isd c)) ∧ w = w' := by
  obtain ⟨n, hn⟩ : ∃ n, n = c.toNat := ⟨_, rfl⟩
  have hd : RowKit.Hid (isd c = (decide (48 ≤ n) && decide (n ≤ 57))) := by rw [hn]; exact rfl
  have hn256 : n < 256 := by rw [hn]; exact c.toNat_lt
  rw [← hn]
  clear hn
  go_enter Try.func59, Try.ntmps59
  go_wp2
  go_loop [3] (fun v => ∃ k : Nat, 48 ≤ k ∧ k ≤ 58 ∧ (n < 48 ∨ k ≤ n) ∧ v = .int .u8 k) (fun v => 58 - (intOf v).toNat)
  case atStart => exact ⟨48, by omega, by omega, by omega, rfl⟩
  case round =>
    obtain ⟨k, h1, h2, h3, rfl⟩ := hrel
    by_cases hlt : k ≤ 57
    · by_cases he : n = k
      · subst he
        go_wp2
        go_ret
        exact ⟨ret1_eq (bool_eq (by rw [hd.out]; simp; omega)), rfl⟩
      · have he' : ((n : Int) == (k : Int)) = false := by simp; omega
        go_wp2
        go_round
        case rel => exact ⟨k + 1, by omega, by omega, by omega, by go_num⟩
        case measure => simp [intOf]; omega
    · go_wp2
      go_ret
      exact ⟨ret1_eq (bool_eq (by rw [hd.out]; simp; omega)), rfl⟩
theorem ris_yes (c : UInt8) (w : World) (h : isd c = true) :
    Calls Try.prog 59 #[.int .u8 c.toNat] w fun e w' => e = .returned (.bool true) ∧ w = w' := h ▸ ris_any c w
theorem ris_no (c : UInt8) (w : World) (h : isd c = false) :
    Calls Try.prog 59 #[.int .u8 c.toNat] w fun e w' => e = .returned (.bool false) ∧ w = w' := h ▸ ris_any c w

set_option maxHeartbeats 400000 in
theorem many_any (s : ByteArray) (w : World) (hs : s.size ≤ maxLen) :
    Calls Try.prog 48 #[.string s] w fun e w' => e = .returned (.int .i64 (lead s.data.toList : Nat)) ∧ w = w' := by
  unfold maxLen at hs
  have hsz : s.data.toList.length = s.size := by simp
  have hle := lead_le s.data.toList
  have HSZ := Lib.hid hsz
  rw [hsz] at hle; clear hsz
  go_enter Try.func48, Try.ntmps48
  go_wp2
  go_loop [3] (fun i => ∃ k : Nat, k ≤ s.size ∧ k ≤ lead s.data.toList ∧ i = .int .i64 k) (fun i => s.size - (intOf i).toNat)
  case atStart => exact ⟨0, Nat.zero_le _, Nat.zero_le _, rfl⟩
  case round =>
    obtain ⟨k, hk, hkl, rfl⟩ := hrel
    by_cases hlt : k < s.size
    · cases hd : isd s[k]
      · have e := lead_at (l := s.data.toList) (by rw [HSZ.out]; exact hlt) hkl hd
        have E := Lib.hid e; clear e
        have HD := Lib.hid hd; clear hd
        go_wp2_with (go_at_call 59; refine (ris_no _ _ HD.out).mono ?_; rintro e w' ⟨rfl, rfl⟩)
        go_ret
        exact ⟨ret1_eq (int_eq (by rw [E.out])), rfl⟩
      · have hu := lead_up (l := s.data.toList) (by rw [HSZ.out]; exact hlt) hkl hd
        have HD := Lib.hid hd; clear hd
        go_wp2_with (go_at_call 59; refine (ris_yes _ _ HD.out).mono ?_; rintro e w' ⟨rfl, rfl⟩)
        go_round
        case rel => exact ⟨k + 1, by omega, hu, by go_num⟩
        case measure => simp [intOf]; omega
    · go_wp2
      go_ret
      exact ⟨ret1_eq (int_eq (by omega)), rfl⟩

/-! ### Raw -/
/-! ### Put -/
end Go.Proofs.Ytkhcneacjnpcnaa

namespace Go.Proofs.Ytkhcneacjnpcnaa
open Go.RowKit Go.WideShapes Go.ChangeShapes
set_option linter.unusedVariables false
set_option linter.unusedSimpArgs false

/-- A text's value. -/
def sv (l : List UInt8) : Value := .string ⟨l.toArray⟩
theorem sinfo : (Try.prog.info? 9).map (fun i => (i.zero, i.size, i.bytes)) = some (some (.string ⟨#[]⟩), 1, 16) := by kernel_rfl
theorem sund : Try.prog.underlying 66 = some (.slice 9) := by kernel_rfl
/-- A row of strings of the call's own. -/
def Os (w : World) (base : Nat) (v : Value) (ls : List (List UInt8)) : Prop := w.ownsRow base 9 1 v ls.length (ls.map sv)
theorem Os.below {w w' : World} {base B : Nat} {v : Value} {ls : List (List UInt8)} (h : Os w base v ls) (hb : Below B w w') (hB : w.heap.size ≤ B) : Os w' base v ls := by
  refine ⟨h.1, ?_⟩
  rcases h.2 with h0 | ⟨g, cap, cur, h1, h2, h3, h4⟩
  · exact .inl h0
  · exact .inr ⟨g, cap, cur, h1, h2, (hb.block g (Nat.lt_of_lt_of_le (bk_lt h3) hB)).trans h3, h4⟩
/-- The slice at A reads as the strings ls. -/
def Rs (w : World) (A : Option Addr) (ls : List (List UInt8)) : Prop := ls = [] ∨ ∃ b off, A = some ⟨b, off, none⟩ ∧ b < w.heap.size ∧ ∀ j l, ls[j]? = some l → w.cell? ⟨b, off + j, none⟩ = some (sv l)
theorem Rs.below {w w' : World} {A : Option Addr} {ls : List (List UInt8)} (h : Rs w A ls) (hb : Below w.heap.size w w') : Rs w' A ls := by
  rcases h with h | ⟨b, off, h1, h2, h3⟩
  · exact .inl h
  · exact .inr ⟨b, off, h1, Nat.lt_of_lt_of_le h2 hb.size, fun j l hj => (hb.cell (p := ⟨b, off + j, none⟩) h2).trans (h3 j l hj)⟩
theorem Os.reads {w : World} {base : Nat} {v : Value} {ls : List (List UInt8)} (h : Os w base v ls) : ∃ A c, v = .slice A ls.length c ∧ Rs w A ls ∧ (A = none → c = 0 ∧ ls = []) := by
  rcases h.2 with ⟨hv, hn⟩ | ⟨g, cap, cur, hv, hb, hh, hc, hm, hs, ht⟩
  · obtain rfl : ls = [] := List.eq_nil_of_length_eq_zero hn
    exact ⟨none, 0, hv, .inl rfl, fun _ => ⟨rfl, rfl⟩⟩
  · refine ⟨_, cap, hv, .inr ⟨g, 0, rfl, bk_lt hh, fun j l hj => ?_⟩, fun h => (by cases h)⟩
    have hu : (ls.map sv)[j]? = some (sv l) := by rw [List.getElem?_map, hj]; rfl
    have h1 : j < ls.length * 1 := by
      have := (List.getElem?_eq_some_iff.1 hj).1
      omega
    rw [← ht, List.getElem?_take, if_pos h1] at hu
    rw [bk_cell hh, Nat.zero_add]
    simpa using hu
theorem Os.block {w : World} {base : Nat} {v : Value} {ls : List (List UInt8)} (h : Os w base v ls) : ∀ g, v.ownBlock = some g → base ≤ g := fun g hg => (World.ownsRow.lt h g hg).1

set_option maxRecDepth 100000 in
theorem app_str {ops : Array Oper} {rest : List Oper} {o : Oper} {a : Act} {Q : Exit → Act → World → Prop} {w : World} (s x : Operand) (base : Nat) (v : Value) (ls : List (List UInt8)) (hown : Os w base v ls) (g : Nat) (u : List UInt8)
    (hr : w.cell? ⟨g, 0, none⟩ = some (sv u)) (hl : ls.length ≤ 1000000) (hbase : base ≤ w.heap.size) (hgd : o.guard = none)
    (ho : o.op = .call { callee := .builtin .append, args := #[s, x], argTypes := #[66, 66] }) (hs : a.eval s = v) (hx : a.eval x = .slice (some ⟨g, 0, none⟩) 1 1)
    (h : ∀ v' w', Os w' base v' (ls ++ [u]) → Below base w w' → wpList Try.prog ops Q rest (a.put o.dst v') w') : wpList Try.prog ops Q (o :: rest) a w := by
  obtain ⟨i, hi, hzz⟩ := Option.map_eq_some_iff.1 sinfo
  simp only [Prod.mk.injEq] at hzz
  obtain ⟨hz, hsz, hb⟩ := hzz
  have hrun : ∃ v' w', (Builtin.append_ #[66, 66] o.type #[v, .slice (some ⟨g, 0, none⟩) 1 1]).run Try.prog w = .ok v' w' ∧ Os w' base v' (ls ++ [u]) ∧ Below base w w' := by
    obtain ⟨v', w', e1, e2, e3, _, _⟩ := run_append_own_at (P := Try.prog) w base 66 o.type 9 i (.string ⟨#[]⟩) 1 16 sund hi hz hsz hb rfl (by decide) v ls.length (ls.map sv) hown ⟨g, 0, none⟩ 1 1 [sv u] rfl
      (fun j x hj => by
        cases j with
        | zero =>
          injection hj with hj
          subst hj
          simpa [Addr.add] using hr
        | succ k => simp at hj) (fun x hx => by simp at hx; subst hx; rfl) (by unfold maxLen; omega) (by omega) hbase
    refine ⟨v', w', e1, by unfold Os; rw [List.length_append, List.map_append]; exact e2, (Below.refl _ _).grown e3 hbase fun k hk => hown.block k hk⟩
  refine wpList_plain hgd fun K hK => ?_
  obtain ⟨v', w', e1, e2, e3⟩ := hrun
  unfold Oper.wp execOp
  simp only [ho, resolve, invoke, builtin, Sem.run_bind, Sem.run_pure, Result.andThen_ok, List.map_toArray, List.map_cons, List.map_nil, hs, hx, e1]
  exact hK _ _ (h v' w' e2 e3)

theorem cut_mid (X : ByteArray) (a b : Nat) : (X.extract a b).data.toList = (X.data.toList.drop a).take (b - a) := by
  rw [ByteArray.data_extract, Array.toList_extract]
theorem byte_at {s : ByteArray} {i : Nat} (h : i < s.size) : s.data.toList[i]? = some s[i] := by
  rw [List.getElem?_eq_getElem (by simpa using h)]; rfl
theorem one_str (w : World) (S : ByteArray) : (w.alloc (.cells #[.string S] 9)).cell? ⟨w.heap.size, 0, none⟩ = some (.string S) := bk_cell (heap_alloc_new w _) 0

end Go.Proofs.Ytkhcneacjnpcnaa
