/- Merged: ListS, Post, Row, Own, ScanM. -/
import Derived.Test.YtdonicaiimeleaaGreatDoorGListParses1
import Derived.Test.YtdonicaiimeleaaGreatDoorGListParses4
import Derived.Lib.AtoiErrMem
import Derived.Laws.Strings3
import Derived.Laws.Closers25
import Derived.Laws.Closers25b
import Derived.BigCall
import Derived.BigGuard
import Derived.Below
import Derived.ChangeSame
import Derived.ChangeSlices
import Derived.WideKeyArgs
import Derived.WideKeyPair
import Derived.Carry
import Derived.Laws.IdiomStrings
import Derived.Laws.BytesArg
import Derived.Laws.OwnMore
import Derived.Maps.AppendAt
import Derived.OwnWalk
import Derived.Laws.AppendOwnNone
import Derived.Deep.RegionLaw
namespace Go.Proofs.YtdonicaiimeleaaGreatDoor
open Go.RowKit
set_option linter.unusedVariables false
set_option linter.unusedSimpArgs false

/-- The number of signs behind a number, if it fits 32 bits. -/
def pu16 (a : Nat) : List UInt8 → Option Nat
  | [] => some a
  | c :: r => if 4294967295 < a * 16 + (hv c).getD 0 then none else pu16 (a * 16 + (hv c).getD 0) r
/-- What the two ParseUints answer. -/
def puV (o : Option Nat) : Int := ((o.getD 4294967295 : Nat) : Int)
theorem pu_lt : ∀ (l : List UInt8) (a n : Nat), a ≤ 4294967295 → pu16 a l = some n → n ≤ 4294967295
  | [], a, n, h, e => by injection e with e; omega
  | c :: r, a, n, h, e => by
    rw [pu16] at e
    split at e
    · cases e
    · exact pu_lt r _ n (by omega) e
theorem hv_cases {c : UInt8} (h : (hv c).isSome = true) : (48 ≤ c.toNat ∧ c.toNat ≤ 57 ∧ hv c = some (c.toNat - 48)) ∨ (97 ≤ c.toNat ∧ c.toNat ≤ 102 ∧ hv c = some (c.toNat - 87)) ∨ (65 ≤ c.toNat ∧ c.toNat ≤ 70 ∧ hv c = some (c.toNat - 55)) := by
  unfold hv at h ⊢
  split at h
  · next a => exact .inl ⟨a.1, a.2, by rw [if_pos a]⟩
  split at h
  · next a b => exact .inr (.inl ⟨b.1, b.2, by rw [if_neg a, if_pos b]⟩)
  split at h
  · next a b c => exact .inr (.inr ⟨c.1, c.2, by rw [if_neg a, if_neg b, if_pos c]⟩)
  · cases h
/-- A sign's lower form, and its number. -/
theorem or32 : ∀ n : Nat, n < 256 → (97 ≤ n ∧ n ≤ 102 → bits .or .u8 (n : Int) 32 = (n : Int)) ∧ (65 ≤ n ∧ n ≤ 70 → bits .or .u8 (n : Int) 32 = (n : Int) + 32) := by decide +kernel

set_option maxRecDepth 100000 in
theorem pu_empty (w : World) : Calls Tryz.prog 121 #[.string ⟨#[]⟩, .int .i64 16, .int .i64 32] w fun e w' => e = .returned (.tuple #[.int .u64 0, .iface 220 (.int .i64 2)]) ∧ w = w' := by
  go_enter Tryz.func121, Tryz.ntmps121
  go_wp2
  go_ret2
  exact ⟨rfl, rfl⟩
/-- The tuple: the number, or the greatest and an error. -/
def puT (o : Option Nat) : Value := .tuple #[.int .u64 (puV o), if o.isSome = true then .nilIface else .iface 220 (.int .i64 1)]
set_option maxHeartbeats 32000000 in
set_option maxRecDepth 100000 in
theorem pu_any (t : ByteArray) (w : World) (hne : t.size ≠ 0) (ht : t.size ≤ 100000) (hx : hxA t.data.toList = true) :
    Calls Tryz.prog 121 #[.string t, .int .i64 16, .int .i64 32] w fun e w' => e = .returned (puT (pu16 0 t.data.toList)) ∧ Below w.heap.size w w' := by
  have hemp : t.toList.isEmpty = false := by
    rw [← decide_eq_emptyBytes]
    exact decide_eq_false (fun h => hne (by rw [h]; rfl))
  have hcv := Lib.run_convert_string_bytes (P := Tryz.prog) w 9 84 5 t (u := .string) Tryz.underlying9 Tryz.underlying84 Tryz.underlying5
  have hB : ∀ j, j < t.size → (Lib.bytesWorld w 5 t).cell? ⟨w.heap.size, j, none⟩ = some (.int .u8 (t.data.toList.getD j 0).toNat) := fun j hj => Lib.bytesWorld_cell w 5 t j hj
  have B1 := Lib.hid (Lib.bytesWorld_below w 5 t)
  obtain ⟨W1, hW1⟩ : ∃ W1, W1 = Lib.bytesWorld w 5 t := ⟨_, rfl⟩
  rw [← hW1] at hcv hB B1
  clear hW1
  obtain ⟨bs, hL⟩ : ∃ bs, bs = t.data.toList := ⟨_, rfl⟩
  have hLn : bs.length = t.size := by rw [hL]; simp
  rw [← hL] at hB hx ⊢
  clear hL hne
  have HX := Lib.hid hx
  have HB := Lib.hid hB
  clear hx hB
  have hmv : IntKind.u64.wrap (IntKind.u64.wrap 4294967296 - 1) = 4294967295 := by
    rw [IntKind.wrap_u64, IntKind.wrap_u64]; decide
  obtain ⟨N, hN⟩ : ∃ N, t.size = N := ⟨_, rfl⟩
  rw [hN] at hLn ht HB hcv
  have HN := Lib.hid hN
  clear hN
  go_enter Tryz.func121, Tryz.ntmps121
  go_wp2
  go_loop [12, 13, 101] (fun vu vn vi => ∃ (k acc : Nat) (a : Int), vu = .bool false ∧ vn = .int .u64 a ∧ vi = .int .i64 k ∧ k ≤ N ∧ Hid (a = (acc : Int) ∧ acc ≤ 4294967295 ∧ pu16 0 bs = pu16 acc (bs.drop k))) (fun _ _ vi => N - (intOf vi).toNat)
  case atStart => exact ⟨0, 0, 0, rfl, rfl, rfl, by omega, Lib.hid ⟨rfl, by omega, by simp⟩⟩
  case round =>
    obtain ⟨k, acc, a, rfl, rfl, rfl, hk, hh⟩ := hrel
    obtain ⟨ha, hacc, hdec⟩ := hh.out
    clear hh
    have a0 : 0 ≤ a := by omega
    have a1 : a ≤ 4294967295 := by omega
    by_cases hkn : k < N
    · have hc := HB.out k hkn
      have hlt : k < bs.length := by omega
      have hdrop : bs.drop k = bs[k] :: bs.drop (k + 1) := List.drop_eq_getElem_cons hlt
      have hget : bs.getD k 0 = bs[k] := by simp [List.getD, List.getElem?_eq_getElem hlt]
      have hs : (hv bs[k]).isSome = true := List.all_eq_true.1 HX.out _ (List.getElem_mem hlt)
      rw [hdrop, pu16] at hdec
      rw [hget] at hc
      generalize bs[k] = c at hc hdec hs
      have hc256 : c.toNat < 256 := c.toNat_lt
      obtain ⟨o1, o2⟩ := or32 c.toNat hc256
      obtain ⟨z, hz⟩ : ∃ z : Int, z = (c.toNat : Int) := ⟨_, rfl⟩
      obtain ⟨d, hd⟩ : ∃ d : Nat, d = (hv c).getD 0 := ⟨_, rfl⟩
      rw [← hz] at hc o1 o2
      rw [← hd] at hdec
      obtain ⟨A, hA⟩ : ∃ A : Nat, A = acc * 16 + d := ⟨_, rfl⟩
      rw [← hA] at hdec
      clear hdrop hget hlt
      rcases hv_cases hs with ⟨c1, c2, c3⟩ | ⟨c1, c2, c3⟩ | ⟨c1, c2, c3⟩
      · have hdz : (d : Int) = z - 48 := by rw [hd, c3, hz]; simp; omega
        have z1 : 48 ≤ z := by omega
        have z2 : z ≤ 57 := by omega
        clear o1 o2 hs c3 hd hc256
        have w1 : IntKind.u64.wrap (a * 16) = a * 16 := by rw [IntKind.wrap_u64]; omega
        have w2 : IntKind.u64.wrap (a * 16 + (z - 48)) = a * 16 + (z - 48) := by rw [IntKind.wrap_u64]; omega
        by_cases hov : 4294967295 < A
        · rw [if_pos hov] at hdec
          have iov : 4294967295 < a * 16 + (z - 48) := by omega
          have HD := Lib.hid hdec
          clear hdec ha hdz hz hA hov c1 c2 hacc
          go_wp2
          go_ret2
          exact ⟨by rw [HD.out]; rfl, B1.out⟩
        · rw [if_neg hov] at hdec
          have iov : a * 16 + (z - 48) ≤ 4294967295 := by omega
          have HD : Hid (a * 16 + (z - 48) = (A : Int) ∧ A ≤ 4294967295 ∧ pu16 0 bs = pu16 A (bs.drop (k + 1))) := Lib.hid ⟨by omega, by omega, hdec⟩
          clear hdec ha hdz hz hA hov c1 c2 hacc
          go_wp2
          refine ⟨⟨k + 1, A, a * 16 + (z - 48), rfl, (by first | rfl | (congr 1; omega)), (by first | rfl | (congr 1; omega)), by omega, HD⟩, by simp [intOf]; omega⟩
      · have hdz : (d : Int) = z - 87 := by rw [hd, c3, hz]; simp; omega
        have z1 : 97 ≤ z := by omega
        have z2 : z ≤ 102 := by omega
        have o3 := o1 ⟨c1, c2⟩
        clear o1 o2 hs c3 hd hc256
        have w1 : IntKind.u64.wrap (a * 16) = a * 16 := by rw [IntKind.wrap_u64]; omega
        have w2 : IntKind.u64.wrap (a * 16 + (z - 97 + 10)) = a * 16 + (z - 97 + 10) := by rw [IntKind.wrap_u64]; omega
        by_cases hov : 4294967295 < A
        · rw [if_pos hov] at hdec
          have iov : 4294967295 < a * 16 + (z - 97 + 10) := by omega
          have HD := Lib.hid hdec
          clear hdec ha hdz hz hA hov c1 c2 hacc
          go_wp2_with (go_at_call 152; refine (Tryz.internal_strconv_lower _ _).mono ?_; rintro e w' ⟨rfl, rfl⟩)
          go_ret2
          exact ⟨by rw [HD.out]; rfl, B1.out⟩
        · rw [if_neg hov] at hdec
          have iov : a * 16 + (z - 97 + 10) ≤ 4294967295 := by omega
          have HD : Hid (a * 16 + (z - 97 + 10) = (A : Int) ∧ A ≤ 4294967295 ∧ pu16 0 bs = pu16 A (bs.drop (k + 1))) := Lib.hid ⟨by omega, by omega, hdec⟩
          clear hdec ha hdz hz hA hov c1 c2 hacc
          go_wp2_with (go_at_call 152; refine (Tryz.internal_strconv_lower _ _).mono ?_; rintro e w' ⟨rfl, rfl⟩)
          refine ⟨⟨k + 1, A, a * 16 + (z - 97 + 10), rfl, (by first | rfl | (congr 1; omega)), (by first | rfl | (congr 1; omega)), by omega, HD⟩, by simp [intOf]; omega⟩
      · have hdz : (d : Int) = z - 55 := by rw [hd, c3, hz]; simp; omega
        have z1 : 65 ≤ z := by omega
        have z2 : z ≤ 70 := by omega
        have o3 := o2 ⟨c1, c2⟩
        clear o1 o2 hs c3 hd hc256
        have w1 : IntKind.u64.wrap (a * 16) = a * 16 := by rw [IntKind.wrap_u64]; omega
        have w2 : IntKind.u64.wrap (a * 16 + (z + 32 - 97 + 10)) = a * 16 + (z + 32 - 97 + 10) := by rw [IntKind.wrap_u64]; omega
        by_cases hov : 4294967295 < A
        · rw [if_pos hov] at hdec
          have iov : 4294967295 < a * 16 + (z + 32 - 97 + 10) := by omega
          have HD := Lib.hid hdec
          clear hdec ha hdz hz hA hov c1 c2 hacc
          go_wp2_with (go_at_call 152; refine (Tryz.internal_strconv_lower _ _).mono ?_; rintro e w' ⟨rfl, rfl⟩)
          go_ret2
          exact ⟨by rw [HD.out]; rfl, B1.out⟩
        · rw [if_neg hov] at hdec
          have iov : a * 16 + (z + 32 - 97 + 10) ≤ 4294967295 := by omega
          have HD : Hid (a * 16 + (z + 32 - 97 + 10) = (A : Int) ∧ A ≤ 4294967295 ∧ pu16 0 bs = pu16 A (bs.drop (k + 1))) := Lib.hid ⟨by omega, by omega, hdec⟩
          clear hdec ha hdz hz hA hov c1 c2 hacc
          go_wp2_with (go_at_call 152; refine (Tryz.internal_strconv_lower _ _).mono ?_; rintro e w' ⟨rfl, rfl⟩)
          refine ⟨⟨k + 1, A, a * 16 + (z + 32 - 97 + 10), rfl, (by first | rfl | (congr 1; omega)), (by first | rfl | (congr 1; omega)), by omega, HD⟩, by simp [intOf]; omega⟩
    · obtain rfl : k = N := by omega
      rw [List.drop_eq_nil_of_le (by omega), pu16] at hdec
      have HD : Hid (pu16 0 bs = some acc ∧ a = (acc : Int)) := Lib.hid ⟨hdec, ha⟩
      clear hdec ha hacc
      go_wp2
      go_ret2
      exact ⟨by rw [HD.out.1, HD.out.2]; rfl, B1.out⟩

end Go.Proofs.YtdonicaiimeleaaGreatDoor

namespace Go.Proofs.YtdonicaiimeleaaGreatDoor
open Go.RowKit Go.WideShapes Go.ChangeShapes
section
variable {H : Type} {enc : TypeId × Value → H} {P : Program}

/-- Places met before the call, told again behind it. -/
theorem told_again {W W' : World} {l la lv : List MemPlace} (e : l = la ++ lv) (h : Below W.heap.size W W') (hl : ∀ p ∈ l, p.block < W.heap.size)
    (hz : ∀ b o, MemPlace.cell b o ∈ l → W.frozen? ⟨b, o, none⟩ = false) : ∀ b o, MemPlace.cell b o ∈ ([] ++ la) ++ lv → W'.frozen? ⟨b, o, none⟩ = false := fun b o hp => by
  have hin : MemPlace.cell b o ∈ l := by rw [e]; simpa using hp
  rw [h.frozen (p := ⟨b, o, none⟩) (hl _ hin)]
  exact hz b o hin

theorem post_under {f : Func} {s : ChangeSpec} {x1 x2 x3 x4 : Bool} {W W' : World} {ags : Array Value} {r : Value} {ds gs : List (DataW H)} {l la lv : List MemPlace}
    (hW : DataW.Whole enc P f.params.toList s.vars x1 W ags.toList ds gs l)
    (hr : ∀ (b : Nat) (sp : Nat → Bool) (hd : Bool), DataW.TrodAll enc P W' b sp hd f.resultTypes.toList (r.resultList f.resultTypes.size) (s.fn H (ds ++ gs)).results [])
    (ha : ∀ sp : Nat → Bool, (∀ p ∈ l, sp p.block = true) → DataW.TrodAll enc P W' 0 sp true f.params.toList ags.toList (s.fn H (ds ++ gs)).args la)
    (hv : ∀ sp : Nat → Bool, (∀ p ∈ l, sp p.block = true) → DataW.TrodVars enc P W' sp s.vars (s.fn H (ds ++ gs)).vars lv)
    (e : l = la ++ lv) (h : Below W.heap.size W W')
    (ok : ∀ (j : Nat) (t : TypeId) (q : Value), f.resultTypes[j]? = some t → (r.resultList f.resultTypes.size)[j]? = some q → Value.okWide P W' .any 0 t q) :
    s.post enc P f x1 x2 x3 x4 W ags r W' := by
  have lt : ∀ p ∈ l, p.block < W.heap.size := fun p hp => hW.lt p hp
  have old : ∀ p ∈ l, (fun b => decide (b < W.heap.size)) p.block = true := fun p hp => by simpa using lt p hp
  have mid : ∀ p, p ∈ l → p ∈ la ∨ p ∈ lv := fun p hp => by rw [e, List.mem_append] at hp; exact hp
  refine ⟨ds, gs, l, [], la, lv, hW, hr _ _ _, ha _ old, hv _ old, World.keptBut_mono (fun p hp => ⟨hp, ?_⟩) (h.frame (· ∈ l)), fun _ => ?_⟩
  · exact Or.inr (mid p hp)
  · obtain ⟨_, _, _, _, _, hz, hn⟩ := hW
    refine ⟨ok, _, _, ([] ++ la) ++ lv, ⟨[] ++ la, lv, trodAll_append (ha _ (fun _ _ => rfl)) (hr _ _ _), hv _ (fun _ _ => rfl), rfl, told_again e h lt hz, fun hx => ?_⟩, fun p hp _ => ?_⟩
    · have k := hn hx
      rw [e] at k
      simpa using k
    · rw [e]
      simpa using hp
end
end Go.Proofs.YtdonicaiimeleaaGreatDoor

namespace Go.Proofs.YtdonicaiimeleaaGreatDoor
open Go.RowKit Go.WideShapes Go.ChangeShapes
set_option linter.unusedVariables false

/-- The slice at A reads as the numbers zs, of kind k. -/
def Rz (k : IntKind) (w : World) (A : Option Addr) (zs : List Int) : Prop :=
  (∀ z ∈ zs, (Lit.int k z).wf = true) ∧ (zs = [] ∨ ∃ b off, A = some ⟨b, off, none⟩ ∧ b < w.heap.size ∧ ∀ j z, zs[j]? = some z → w.cell? ⟨b, off + j, none⟩ = some (.int k z))
theorem Rz.below {k : IntKind} {w w' : World} {A : Option Addr} {zs : List Int} (h : Rz k w A zs) (hb : Below w.heap.size w w') : Rz k w' A zs := by
  refine ⟨h.1, ?_⟩
  rcases h.2 with h0 | ⟨b, off, h1, h2, h3⟩
  · exact .inl h0
  · exact .inr ⟨b, off, h1, Nat.lt_of_lt_of_le h2 hb.size, fun j z hz => (hb.cell (p := ⟨b, off + j, none⟩) h2).trans (h3 j z hz)⟩
theorem Rz.drewN {k : IntKind} {w : World} {A : Option Addr} {zs : List Int} (h : Rz k w A zs) (n : Nat) : Rz k (w.drewN n) A zs := h
theorem Rz.cell {k : IntKind} {w : World} {A : Option Addr} {zs : List Int} (h : Rz k w A zs) {i : Nat} (hi : i < zs.length) : ∃ b off, A = some ⟨b, off, none⟩ ∧ b < w.heap.size ∧ w.cell? ⟨b, off + i, none⟩ = some (.int k zs[i]) := by
  rcases h.2 with h0 | ⟨b, off, h1, h2, h3⟩
  · rw [h0] at hi; simp at hi
  · exact ⟨b, off, h1, h2, h3 i _ (List.getElem?_eq_getElem hi)⟩
theorem Rz.none_ {k : IntKind} {w : World} {zs : List Int} (h : Rz k w none zs) : zs = [] := by
  rcases h.2 with h0 | ⟨b, off, h1, _⟩
  · exact h0
  · cases h1
theorem Rz.drop_ {k : IntKind} {w : World} {b off : Nat} {zs : List Int} (h : Rz k w (some ⟨b, off, none⟩) zs) (n : Nat) : Rz k w (some ⟨b, off + n, none⟩) (zs.drop n) := by
  refine ⟨fun z hz => h.1 z (List.mem_of_mem_drop hz), ?_⟩
  rcases h.2 with h0 | ⟨b', off', h1, h2, h3⟩
  · exact .inl (by rw [h0]; simp)
  · injection h1 with h1
    injection h1 with h1 h4
    subst h1; subst h4
    exact .inr ⟨b, off + n, rfl, h2, fun j z hz => by rw [Nat.add_assoc]; exact h3 (n + j) z (by rw [← hz, List.getElem?_drop])⟩
theorem Rz.take_ {k : IntKind} {w : World} {A : Option Addr} {zs : List Int} (h : Rz k w A zs) (n : Nat) : Rz k w A (zs.take n) := by
  refine ⟨fun z hz => h.1 z (List.mem_of_mem_take hz), ?_⟩
  rcases h.2 with h0 | ⟨b, off, h1, h2, h3⟩
  · exact .inl (by rw [h0]; simp)
  · exact .inr ⟨b, off, h1, h2, fun j z hz => h3 j z (by
      rw [List.getElem?_take] at hz
      split at hz
      · exact hz
      · cases hz)⟩

/-- Bytes as numbers. -/
def nums (l : List UInt8) : List Int := l.map fun b => (b.toNat : Int)
theorem nums_len (l : List UInt8) : (nums l).length = l.length := by simp [nums]
/-- The slice at A reads as the bytes l. -/
def Rb (w : World) (A : Option Addr) (l : List UInt8) : Prop := Rz .u8 w A (nums l)
theorem Rb.below {w w' : World} {A : Option Addr} {l : List UInt8} (h : Rb w A l) (hb : Below w.heap.size w w') : Rb w' A l := Rz.below h hb
theorem Rb.drewN {w : World} {A : Option Addr} {l : List UInt8} (h : Rb w A l) (n : Nat) : Rb (w.drewN n) A l := h
theorem Rb.cell {w : World} {A : Option Addr} {l : List UInt8} (h : Rb w A l) {i : Nat} (hi : i < l.length) : ∃ b off, A = some ⟨b, off, none⟩ ∧ b < w.heap.size ∧ w.cell? ⟨b, off + i, none⟩ = some (.int .u8 (l[i].toNat : Int)) := by
  obtain ⟨b, off, h1, h2, h3⟩ := Rz.cell h (i := i) (by rw [nums_len]; exact hi)
  refine ⟨b, off, h1, h2, ?_⟩
  rw [h3]; simp [nums]
theorem Rb.none_ {w : World} {l : List UInt8} (h : Rb w none l) : l = [] := by
  have := Rz.none_ h
  unfold nums at this; simpa using this
theorem Rb.drop_ {w : World} {b off : Nat} {l : List UInt8} (h : Rb w (some ⟨b, off, none⟩) l) (n : Nat) : Rb w (some ⟨b, off + n, none⟩) (l.drop n) := by
  have := Rz.drop_ h n
  unfold Rb nums at *
  rw [List.map_drop]; exact this
theorem Rb.take_ {w : World} {A : Option Addr} {l : List UInt8} (h : Rb w A l) (n : Nat) : Rb w A (l.take n) := by
  have := Rz.take_ h n
  unfold Rb nums at *
  rw [List.map_take]; exact this
theorem Rb.nil {w : World} (A : Option Addr) : Rb w A [] := ⟨(fun z hz => by simp [nums] at hz), .inl rfl⟩

section
variable {H : Type} {enc : TypeId × Value → H} {P : Program}
end

/-! ### strings of bytes -/
end Go.Proofs.YtdonicaiimeleaaGreatDoor

namespace Go.Proofs.YtdonicaiimeleaaGreatDoor
open Go.RowKit Go.WideShapes Go.ChangeShapes
set_option linter.unusedVariables false

/-- t is the type of slices of e, whose elements are integers of kind k, one cell each. -/
def El (P : Program) (t e : TypeId) (k : IntKind) : Prop :=
  ∃ i, P.underlying t = some (.slice e) ∧ P.info? e = some i ∧ i.zero = some (.int k 0) ∧ i.size = 1 ∧ i.bytes ≤ 8
theorem el_mk {P : Program} {t e : TypeId} {k : IntKind} {b : Nat} (ht : P.underlying t = some (.slice e)) (h : (P.info? e).map (fun i => (i.zero, i.size, i.bytes)) = some (some (.int k 0), 1, b)) (hb : b ≤ 8) : El P t e k := by
  cases hi : P.info? e with
  | none => rw [hi] at h; cases h
  | some i =>
    rw [hi] at h
    simp only [Option.map_some, Option.some.injEq, Prod.mk.injEq] at h
    exact ⟨i, ht, hi, h.1, h.2.1, by omega⟩

def cz (k : IntKind) (zs : List Int) : List Value := zs.map fun z => Value.int k z
theorem cz_len (k : IntKind) (zs : List Int) : (cz k zs).length = zs.length := by simp [cz]
theorem cz_append (k : IntKind) (a b : List Int) : cz k (a ++ b) = cz k a ++ cz k b := by simp [cz]
theorem cz_at {k : IntKind} {zs : List Int} {j : Nat} {u : Value} (h : (cz k zs)[j]? = some u) : ∃ z, zs[j]? = some z ∧ u = .int k z := by
  unfold cz at h
  rw [List.getElem?_map] at h
  cases hz : zs[j]? with
  | none => rw [hz] at h; cases h
  | some z => rw [hz] at h; exact ⟨z, rfl, by simpa using h.symm⟩
/-- The value v is a row of the call's own that holds the numbers zs. -/
def Oz (w : World) (base : Nat) (e : TypeId) (k : IntKind) (v : Value) (zs : List Int) : Prop := w.ownsRow base e 1 v zs.length (cz k zs)
theorem Oz.below {w w' : World} {base B : Nat} {e : TypeId} {k : IntKind} {v : Value} {zs : List Int} (h : Oz w base e k v zs) (hb : Below B w w') (hB : w.heap.size ≤ B) : Oz w' base e k v zs := by
  refine ⟨h.1, ?_⟩
  rcases h.2 with h0 | ⟨g, cap, cur, h1, h2, h3, h4⟩
  · exact .inl h0
  · refine .inr ⟨g, cap, cur, h1, h2, ?_, h4⟩
    have hlt : g < w.heap.size := by
      rcases Nat.lt_or_ge g w.heap.size with hlt | hge
      · exact hlt
      · rw [Array.getElem?_eq_none hge] at h3; cases h3
    rw [hb.block g (by omega)]; exact h3
theorem Oz.drewN {w : World} {base : Nat} {e : TypeId} {k : IntKind} {v : Value} {zs : List Int} (h : Oz w base e k v zs) (n : Nat) : Oz (w.drewN n) base e k v zs := h
theorem Oz.nil {w : World} (base : Nat) (e : TypeId) (k : IntKind) : Oz w base e k (.slice none 0 0) [] := ⟨rfl, .inl ⟨rfl, rfl⟩⟩
/-- It reads as its numbers. -/
theorem Oz.reads {w : World} {base : Nat} {e : TypeId} {k : IntKind} {v : Value} {zs : List Int} (h : Oz w base e k v zs) (hf : ∀ z ∈ zs, (Lit.int k z).wf = true) :
    ∃ A c, v = .slice A zs.length c ∧ Rz k w A zs ∧ (A = none → c = 0) ∧ zs.length ≤ c ∧ c ≤ maxLen := by
  rcases h.2 with ⟨hv, hn⟩ | ⟨g, cap, cur, hv, hb, hh, hc, hm, _, _⟩
  · obtain rfl : zs = [] := List.eq_nil_of_length_eq_zero hn
    exact ⟨none, 0, hv, ⟨hf, .inl rfl⟩, fun _ => rfl, Nat.le_refl _, by decide⟩
  · refine ⟨_, cap, hv, ⟨hf, .inr ⟨g, 0, rfl, ?_, fun j z hj => ?_⟩⟩, (fun h => by cases h), hc, hm⟩
    · rcases Nat.lt_or_ge g w.heap.size with hlt | hge
      · exact hlt
      · rw [Array.getElem?_eq_none hge] at hh; cases hh
    · have hz : (cz k zs)[j]? = some (.int k z) := by unfold cz; rw [List.getElem?_map, hj]; rfl
      have := World.ownsRow.cells h (g := g) (by rw [hv]; rfl) j _ hz
      rw [← this]
      unfold Addr.add
      by_cases h0 : j = 0
      · subst h0; rfl
      · simp [h0]
theorem Oz.block {w : World} {base : Nat} {e : TypeId} {k : IntKind} {v : Value} {zs : List Int} (h : Oz w base e k v zs) : ∀ g, v.ownBlock = some g → base ≤ g := by
  intro g hg
  rcases h.2 with ⟨hv, _⟩ | ⟨g', cap, cur, hv, hb, _⟩
  · rw [hv] at hg; simp [Value.ownBlock] at hg
  · rw [hv] at hg
    have : g' = g := by simpa [Value.ownBlock] using hg
    omega

/-- append of whatever reads as numbers to a row of the call's own. -/
theorem run_app {P : Program} (w : World) (base : Nat) (t ty e : TypeId) (k : IntKind) (E : El P t e k) (v : Value) (xs : List Int) (hown : Oz w base e k v xs)
    (A : Option Addr) (zs : List Int) (c : Nat) (hr : Rz k w A zs) (hA : A = none → c = 0) (hx : xs.length ≤ 1000000000) (hz : zs.length ≤ 1000000000) (hbase : base ≤ w.heap.size) :
    ∃ v' w', (Builtin.append_ #[t, t] ty #[v, .slice A zs.length c]).run P w = .ok v' w' ∧ Oz w' base e k v' (xs ++ zs) ∧ Below base w w' := by
  obtain ⟨i, ht, hi, hz0, hz1, hz2⟩ := E
  cases A with
  | none =>
    obtain rfl := hA rfl
    obtain rfl := hr.none_
    refine ⟨v, w, run_append_owned_none (P := P) (w := w) base t ty e i 1 ht hi v xs.length (cz k xs) hown, by simpa using hown, Below.refl _ _⟩
  | some ad =>
    obtain ⟨v', w', h1, h2, h3, _, _⟩ := run_append_own_at (P := P) w base t ty e i (.int k 0) 1 i.bytes ht hi hz0 hz1 rfl rfl (by decide) v xs.length (cz k xs) hown ad zs.length c (cz k zs) (by rw [cz_len, Nat.mul_one])
      (fun j u hu => by
        obtain ⟨z, h4, rfl⟩ := cz_at hu
        rcases hr.2 with h0 | ⟨b, off, h5, _, h6⟩
        · rw [h0] at h4; cases h4
        · injection h5 with h5
          subst h5
          rw [add_plain]; exact h6 j z h4)
      (fun u hu => by
        unfold cz at hu
        obtain ⟨z, _, rfl⟩ := List.mem_map.mp hu
        rfl)
      (by unfold maxLen; omega) (by
        have := Nat.mul_le_mul_left (xs.length + zs.length) hz2
        omega) hbase
    refine ⟨v', w', h1, ?_, (Below.refl _ _).grown h3 hbase fun g hg => hown.block g hg⟩
    unfold Oz
    rw [List.length_append, cz_append]; exact h2
theorem app_list {P : Program} {ops : Array Oper} {rest : List Oper} {o : Oper} {a : Act} {Q : Exit → Act → World → Prop} {w : World} (hgd : o.guard = none) (s x : Operand) (t e : TypeId) (k : IntKind) (E : El P t e k)
    (ho : o.op = .call { callee := .builtin .append, args := #[s, x], argTypes := #[t, t] }) (base : Nat) (v : Value) (xs : List Int) (hs : a.eval s = v) (hown : Oz w base e k v xs)
    (A : Option Addr) (zs : List Int) (c : Nat) (hx : a.eval x = .slice A zs.length c) (hr : Rz k w A zs) (hA : A = none → c = 0) (hxl : xs.length ≤ 1000000000) (hzl : zs.length ≤ 1000000000) (hbase : base ≤ w.heap.size)
    (h : ∀ v' w', Oz w' base e k v' (xs ++ zs) → Below base w w' → wpList P ops Q rest (a.put o.dst v') w') : wpList P ops Q (o :: rest) a w := by
  refine wpList_plain hgd fun K hK => ?_
  obtain ⟨v', w', hrun, h2, h3⟩ := run_app (P := P) w base t o.type e k E v xs hown A zs c hr hA hxl hzl hbase
  unfold Oper.wp execOp
  simp only [ho, resolve, invoke, builtin, Sem.run_bind, Sem.run_pure, Result.andThen_ok, List.map_toArray, List.map_cons, List.map_nil, hs, hx, hrun]
  exact hK _ _ (h v' w' h2 h3)
end Go.Proofs.YtdonicaiimeleaaGreatDoor

namespace Go.Proofs.YtdonicaiimeleaaGreatDoor
open Go.RowKit
set_option linter.unusedVariables false

/-! ### lists -/
/-- What is left behind a place, if there is no error. -/
def rs (l : List UInt8) (k : Nat) (e : Int) : List UInt8 := if e = 0 then l.drop k else []
theorem rs_zero (l : List UInt8) (k : Nat) : rs l k 0 = l.drop k := by unfold rs; rw [if_pos rfl]
theorem rs_bad (l : List UInt8) (k : Nat) {e : Int} (h : e ≠ 0) : rs l k e = [] := by unfold rs; rw [if_neg h]
theorem rs_len (l : List UInt8) (k : Nat) (e : Int) : (rs l k e).length = if e = 0 then l.length - k else 0 := by
  unfold rs; split <;> simp
theorem rs_le (l : List UInt8) (k : Nat) (e : Int) : (rs l k e).length ≤ l.length - k := by rw [rs_len]; split <;> omega
/-- A byte, a letter as a small one. -/
def lw (b : UInt8) : Int := if 65 ≤ (b.toNat : Int) ∧ (b.toNat : Int) ≤ 90 then (b.toNat : Int) + 32 else (b.toNat : Int)
/-- How many bytes at the beginning are such ones. -/
def tw (p : UInt8 → Bool) : List UInt8 → Nat
  | [] => 0
  | b :: r => if p b then tw p r + 1 else 0
theorem tw_le (p : UInt8 → Bool) : ∀ l : List UInt8, tw p l ≤ l.length
  | [] => Nat.le_refl _
  | b :: r => by have := tw_le p r; unfold tw; split <;> simp <;> omega
theorem tw_step {p : UInt8 → Bool} {l : List UInt8} {i : Nat} (h : i < l.length) : tw p (l.drop i) = if p l[i] then tw p (l.drop (i + 1)) + 1 else 0 := by
  rw [List.drop_eq_getElem_cons h]; rfl
theorem tw_end {p : UInt8 → Bool} {l : List UInt8} {i : Nat} (h : l.length ≤ i) : tw p (l.drop i) = 0 := by rw [List.drop_eq_nil_of_le h]; rfl

/-! ### a scanner's block -/
/-- The block g holds a scanner of the text v, at k, with the error e. -/
def Sk (T : TypeId) (w : World) (g : Nat) (v : Value) (k : Nat) (e : Int) : Prop := w.heap[g]? = some (.cells #[v, .int .i64 (k : Int), ev e] T (0, 0))
theorem Sk.lt {T : TypeId} {w : World} {g : Nat} {v : Value} {k : Nat} {e : Int} (h : Sk T w g v k e) : g < w.heap.size := (Array.getElem?_eq_some_iff.1 h).1
theorem Sk.c0 {T : TypeId} {w : World} {g : Nat} {v : Value} {k : Nat} {e : Int} (h : Sk T w g v k e) : w.cell? ⟨g, 0, none⟩ = some v := by unfold Sk at h; simp [World.cell?, h]
theorem Sk.c1 {T : TypeId} {w : World} {g : Nat} {v : Value} {k : Nat} {e : Int} (h : Sk T w g v k e) : w.cell? ⟨g, 1, none⟩ = some (.int .i64 (k : Int)) := by unfold Sk at h; simp [World.cell?, h]
theorem Sk.c2 {T : TypeId} {w : World} {g : Nat} {v : Value} {k : Nat} {e : Int} (h : Sk T w g v k e) : w.cell? ⟨g, 2, none⟩ = some (ev e) := by unfold Sk at h; simp [World.cell?, h]
theorem Sk.free {T : TypeId} {w : World} {g : Nat} {v : Value} {k : Nat} {e : Int} (h : Sk T w g v k e) (i : Nat) : w.frozen? ⟨g, i, none⟩ = false := by unfold Sk at h; simp [World.frozen?, h]
theorem Sk.drewN {T : TypeId} {w : World} {g : Nat} {v : Value} {k : Nat} {e : Int} (h : Sk T w g v k e) (n : Nat) : Sk T (w.drewN n) g v k e := h
theorem Sk.kept {T : TypeId} {w w' : World} {g : Nat} {v : Value} {k : Nat} {e : Int} {row : Option Nat} (h : Sk T w g v k e) (hg : w.grownBy w' row) (hne : some g ≠ row) : Sk T w' g v k e := (hg.block g h.lt hne).trans h
theorem Sk.below {T : TypeId} {w w' : World} {g B : Nat} {v : Value} {k : Nat} {e : Int} (h : Sk T w g v k e) (hb : Below B w w') (hB : g < B) : Sk T w' g v k e := (hb.block g hB).trans h
theorem Sk.alloc {T : TypeId} {w : World} {g : Nat} {v : Value} {k : Nat} {e : Int} (h : Sk T w g v k e) (o : Obj) : Sk T (w.alloc o) g v k e := h.kept (World.grownBy_alloc w o none) (by simp)
theorem Sk.set1 {T : TypeId} {w : World} {g : Nat} {v : Value} {k : Nat} {e : Int} (h : Sk T w g v k e) (j : Nat) {z : Int} (hz : z = (j : Int)) : Sk T (w.setCell ⟨g, 1, none⟩ (.int .i64 z)) g v j e := by
  subst hz; unfold Sk at h ⊢; simp [World.setCell, Array.getElem?_modify, h]
theorem Sk.set2 {T : TypeId} {w : World} {g : Nat} {v : Value} {k : Nat} {e : Int} (h : Sk T w g v k e) (f : Int) : Sk T (w.setCell ⟨g, 2, none⟩ (ev f)) g v k f := by
  unfold Sk at h ⊢; simp [World.setCell, Array.getElem?_modify, h]
theorem gb_refl (w : World) (r : Option Nat) : w.grownBy w r := ⟨rfl, rfl, rfl, Nat.le_refl _, fun _ _ _ => rfl⟩
theorem gb_set {a w : World} {g : Nat} (h : a.grownBy w (some g)) (i : Nat) (u : Value) : a.grownBy (w.setCell ⟨g, i, none⟩ u) (some g) :=
  h.trans ⟨rfl, rfl, rfl, by simp [World.setCell], fun k _ hne => Below.heap_setCell w _ u k (by intro e; exact hne (by rw [e]))⟩
theorem gb_draw {a w : World} {r : Option Nat} (h : a.grownBy w r) (n : Nat) : a.grownBy (w.drewN n) r := ⟨h.os, h.tape, h.output, h.size, h.block⟩
theorem gb_alloc {a w : World} {r : Option Nat} (h : a.grownBy w r) (o : Obj) : a.grownBy (w.alloc o) r := h.trans (World.grownBy_alloc w o r)
theorem gb_below {a w w' : World} {r : Option Nat} (h : a.grownBy w r) (hb : Below w.heap.size w w') : a.grownBy w' r :=
  h.trans ⟨hb.os, hb.tape, hb.output, hb.size, fun k hk _ => hb.block k hk⟩
/-- The world behind an act of the scanner g: it stands at k with the error e; all else is as it was. -/
def Mv (T : TypeId) (g : Nat) (v : Value) (k : Nat) (e : Int) (w w' : World) : Prop := Sk T w' g v k e ∧ w.grownBy w' (some g)
theorem Mv.refl {T : TypeId} {w : World} {g : Nat} {v : Value} {k : Nat} {e : Int} (h : Sk T w g v k e) (n : Nat) : Mv T g v k e w (w.drewN n) := ⟨h, gb_draw (gb_refl _ _) n⟩
end Go.Proofs.YtdonicaiimeleaaGreatDoor
