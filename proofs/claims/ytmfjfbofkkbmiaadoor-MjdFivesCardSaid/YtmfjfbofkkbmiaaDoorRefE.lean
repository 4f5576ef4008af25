/- The document's figures: Whole, Signed. -/
import Derived.Test.YtmfjfbofkkbmiaaDoorRefD
namespace Go.Proofs.YtmfjfbofkkbmiaaDoor
open Go.RowKit
set_option linter.unusedVariables false

set_option maxRecDepth 100000 in
set_option maxHeartbeats 800000 in
theorem rwhole_any (s : ByteArray) (a b : Int) (w : World) (hs : s.size ≤ maxLen) (ha : fits a) (hb : fits b) :
    Calls Tryd.prog 23 #[.string s, .int .i64 a, .int .i64 b] w fun e w' =>
      e = .returned (.tuple #[.int .i64 (whN s.data.toList a b mx : Nat), .int .i64 (whE s.data.toList a b mx)]) ∧ Below w.heap.size w w' := by
  have HT := Lib.hid (rtake_any s a b w hs ha hb)
  have hsz : s.data.toList.length = s.size := by simp
  have hkl := tkK_le s.data.toList a b mx
  have hN0 : tkE s.data.toList a b mx ≠ 0 → tkN s.data.toList a b mx = 0 := fun h => (tk_no rfl h).1
  obtain ⟨N, hN⟩ : ∃ N, N = tkN s.data.toList a b mx := ⟨_, rfl⟩
  obtain ⟨K, hK⟩ : ∃ K, K = tkK s.data.toList a b mx := ⟨_, rfl⟩
  obtain ⟨E, hE⟩ : ∃ E, E = tkE s.data.toList a b mx := ⟨_, rfl⟩
  have HWE : RowKit.Hid (whE s.data.toList a b mx = if E = 0 then (if K < s.size then 2 else 0) else E) := by unfold whE; rw [← hE, ← hK, hsz]; exact rfl
  have HWN : RowKit.Hid (whN s.data.toList a b mx = if whE s.data.toList a b mx = 0 then N else 0) := by unfold whN; rw [← hN]; exact rfl
  rw [← hN, ← hK, ← hE] at HT
  rw [← hN, ← hE] at hN0
  rw [← hK, hsz] at hkl
  obtain ⟨x, hx⟩ : ∃ x, x = whE s.data.toList a b mx := ⟨_, rfl⟩
  rw [← hx] at HWE HWN ⊢
  obtain ⟨y, hy⟩ : ∃ y, y = whN s.data.toList a b mx := ⟨_, rfl⟩
  rw [← hy] at HWN ⊢
  clear hN hK hE hx hy hsz ha hb
  unfold maxLen at hs
  by_cases hz : E = 0
  · subst hz
    clear hN0
    by_cases hlt : K < s.size
    · have hX : x = 2 := by rw [HWE.out, if_pos rfl, if_pos hlt]
      have hY : y = 0 := by rw [HWN.out, hX]; rfl
      subst hX; subst hY
      clear HWE HWN
      go_enter Tryd.func23, Tryd.ntmps23
      go_wp2_with (go_at_call 34; refine HT.out.mono ?_; rintro e w1 ⟨rfl, hb1⟩; have B1 := Lib.hid hb1; clear hb1)
      go_ret2
      exact ⟨rfl, B1.out⟩
    · have hX : x = 0 := by rw [HWE.out, if_pos rfl, if_neg hlt]
      have hY : y = N := by rw [HWN.out, hX]; rfl
      subst hX; subst hY
      clear HWE HWN
      go_enter Tryd.func23, Tryd.ntmps23
      go_wp2_with (go_at_call 34; refine HT.out.mono ?_; rintro e w1 ⟨rfl, hb1⟩; have B1 := Lib.hid hb1; clear hb1)
      go_ret2
      exact ⟨rfl, B1.out⟩
  · have hX : x = E := by rw [HWE.out, if_neg hz]
    have hY : y = 0 := by rw [HWN.out, hX, if_neg hz]
    obtain rfl : N = 0 := hN0 hz
    subst hX; subst hY
    have hz' : (x == 0) = false := beq_eq_false_iff_ne.mpr hz
    clear HWE HWN hz hN0
    go_enter Tryd.func23, Tryd.ntmps23
    go_wp2_with (go_at_call 34; refine HT.out.mono ?_; rintro e w1 ⟨rfl, hb1⟩; have B1 := Lib.hid hb1; clear hb1)
    go_ret2
    exact ⟨rfl, B1.out⟩

/-! ### Signed -/
/-- A text's first byte. -/
theorem first_is (s : ByteArray) (h : 0 < s.size) : s.data.toList = s[0] :: s.data.toList.drop 1 := by
  have h1 : 0 < s.data.toList.length := by simpa using h
  have := List.drop_eq_getElem_cons (l := s.data.toList) (i := 0) h1
  rw [List.drop_zero] at this
  exact this
theorem pre_is (c d : UInt8) (r : List UInt8) : Lib.hasPrefix (c :: r) [d] = (c == d) ∧ Lib.trimPrefix (c :: r) [d] = if c = d then r else c :: r := by
  have h1 : Lib.hasPrefix (c :: r) [d] = (c == d) := by
    unfold Lib.hasPrefix
    rw [Bool.eq_iff_iff]; simp [List.isPrefixOf]; exact eq_comm
  refine ⟨h1, ?_⟩
  unfold Lib.trimPrefix; rw [h1]
  by_cases h : c = d
  · rw [if_pos h, if_pos (by simpa using h)]; rfl
  · rw [if_neg h, if_neg (by simpa using h)]
/-- The limit, by the sign; the number. -/
def lm (g : Bool) : Nat := if g then mxn else mx
def sg (g : Bool) (n : Nat) : Int := if g then -(n : Int) else n
/-- The sign, and what follows it. -/
def rest1 (l : List UInt8) : List UInt8 := if neg1 l then Lib.trimPrefix l [45] else Lib.trimPrefix l [43]
theorem sg_is (l : List UInt8) (m : Int) : sgE l m = whE (rest1 l) 1 m (lm (neg1 l)) ∧ sgN l m = sg (neg1 l) (whN (rest1 l) 1 m (lm (neg1 l))) := by
  unfold sgE sgN rest1 lm sg
  cases neg1 l
  · simp only [Bool.false_eq_true, if_false, and_self]
  · simp only [if_true, and_self]
theorem sg_first (s : ByteArray) : (s.size = 0 ∧ neg1 s.data.toList = false ∧ rest1 s.data.toList = []) ∨
    (∃ h : 0 < s.size, ((((s[0].toNat : Int) == 45) = true ∧ neg1 s.data.toList = true ∧ rest1 s.data.toList = s.data.toList.drop 1) ∨
      (((s[0].toNat : Int) == 45) = false ∧ ((s[0].toNat : Int) == 43) = true ∧ neg1 s.data.toList = false ∧ rest1 s.data.toList = s.data.toList.drop 1) ∨
      (((s[0].toNat : Int) == 45) = false ∧ ((s[0].toNat : Int) == 43) = false ∧ neg1 s.data.toList = false ∧ rest1 s.data.toList = s.data.toList))) := by
  rcases Nat.eq_zero_or_pos s.size with h | h
  · have e : s.data.toList = [] := List.eq_nil_of_length_eq_zero (by simpa using h)
    exact .inl ⟨h, by rw [e]; rfl, by rw [e]; rfl⟩
  · refine .inr ⟨h, ?_⟩
    have e := first_is s h
    have hc : ∀ k : UInt8, (((s[0].toNat : Int) == (k.toNat : Int)) = (s[0] == k)) := fun k => by
      rw [Bool.eq_iff_iff]; simp only [beq_iff_eq]
      constructor
      · intro h; exact UInt8.toNat_inj.1 (by omega)
      · rintro h; rw [h]
    have h45 := hc 45; have h43 := hc 43
    rw [show (((45 : UInt8).toNat : Nat) : Int) = 45 from rfl] at h45
    rw [show (((43 : UInt8).toNat : Nat) : Int) = 43 from rfl] at h43
    rw [h45, h43]
    unfold rest1 neg1
    conv => rw [e]
    generalize s[0] = c
    generalize s.data.toList.drop 1 = r
    rw [(pre_is c 45 r).1, (pre_is c 45 r).2, (pre_is c 43 r).2]
    by_cases k1 : c = 45
    · subst k1; exact .inl ⟨rfl, rfl, rfl⟩
    · have k1' : (c == 45) = false := by simpa using k1
      rw [k1']
      by_cases k2 : c = 43
      · subst k2; exact .inr (.inl ⟨rfl, rfl, rfl, rfl⟩)
      · have k2' : (c == 43) = false := by simpa using k2
        rw [k2', if_neg k2]
        exact .inr (.inr ⟨rfl, rfl, rfl, rfl⟩)
theorem small_sg (g : Bool) (l : List UInt8) : bad (sg g (dv l)) = vlE l (lm g) ∧ sm (sg g (dv l)) = sg g (vlN l (lm g)) := by
  cases g
  · exact small_vl l
  · exact small_vln l
end Go.Proofs.YtmfjfbofkkbmiaaDoor
