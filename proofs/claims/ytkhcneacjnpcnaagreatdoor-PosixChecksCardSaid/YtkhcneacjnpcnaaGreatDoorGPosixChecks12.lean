/- Merged: ScanA. -/
import Derived.Test.YtkhcneacjnpcnaaGreatDoorGPosixChecks11
import Derived.LoopTactic
import Derived.Lib.Walk
namespace Go.Proofs.YtkhcneacjnpcnaaGreatDoor
open Go.RowKit
set_option linter.unusedVariables false

/-- The text of a scanner in the block g: a string. -/
def Txs (w : World) (g : Nat) (v : Value) (s : ByteArray) : Prop := v = .string s
/-- The text of a scanner in the block g: bytes, elsewhere. -/
def Txb (w : World) (g : Nat) (v : Value) (s : ByteArray) : Prop :=
  ∃ A c, v = .slice A s.size c ∧ Rb w A s.data.toList ∧ (A = none → c = 0) ∧ s.size ≤ c ∧ c ≤ maxLen ∧ ∀ ad, A = some ad → ad.block ≠ g
theorem Txs.kept {w w' : World} {g : Nat} {v : Value} {s : ByteArray} (h : Txs w g v s) (hg : w.grownBy w' (some g)) : Txs w' g v s := h
theorem Rb.kept {w w' : World} {g : Nat} {A : Option Addr} {l : List UInt8} (h : Rb w A l) (hg : w.grownBy w' (some g)) (hne : ∀ ad, A = some ad → ad.block ≠ g) : Rb w' A l := by
  refine ⟨h.1, ?_⟩
  rcases h.2 with h0 | ⟨b, off, h1, h2, h3⟩
  · exact .inl h0
  · exact .inr ⟨b, off, h1, Nat.lt_of_lt_of_le h2 hg.size, fun j z hz => hg.cell (h3 j z hz) (by intro e; injection e with e; exact hne _ h1 e)⟩
theorem Txb.kept {w w' : World} {g : Nat} {v : Value} {s : ByteArray} (h : Txb w g v s) (hg : w.grownBy w' (some g)) : Txb w' g v s := by
  obtain ⟨A, c, h1, h2, h3, h4, h5, h6⟩ := h
  exact ⟨A, c, h1, h2.kept hg h6, h3, h4, h5, h6⟩

/-- The type of its block. -/
abbrev Ts : TypeId := 71
theorem stopped_s (g k : Nat) (e : Int) (v : Value) (w : World) (h : Sk Ts w g v k e) :
    Calls Tryz.prog 57 #[.pointer (some ⟨g, 0, none⟩)] w fun x w' => x = .returned (.bool (e != 0)) ∧ w = w' := by
  have c2 := h.c2
  have q0 := fun op t x k => guard_ev op t w x k
  have q2 := fun k => neq_ev w k
  clear h
  go_enter Tryz.func57, Tryz.ntmps57
  go_wp2
  go_ret
  exact ⟨rfl, rfl⟩
theorem err_s (g k : Nat) (e : Int) (v : Value) (w : World) (h : Sk Ts w g v k e) :
    Calls Tryz.prog 46 #[.pointer (some ⟨g, 0, none⟩)] w fun x w' => x = .returned (ev e) ∧ w = w' := by
  have c2 := h.c2
  clear h
  go_enter Tryz.func46, Tryz.ntmps46
  go_wp2
  go_ret
  exact ⟨rfl, rfl⟩

set_option maxHeartbeats 800000 in
theorem left_s (g k : Nat) (e : Int) (v : Value) (s : ByteArray) (w : World) (h : Sk Ts w g v k e) (ht : Txs w g v s) (hk : k ≤ s.size) (hs : s.size ≤ 100000) :
    Calls Tryz.prog 43 #[.pointer (some ⟨g, 0, none⟩)] w fun x w' => x = .returned (.int .i64 ((rs s.data.toList k e).length : Nat)) ∧ ∃ n, w' = w.drewN n := by
  have HT := Lib.hid (stopped_s g k e v w h)
  have hl := rs_len s.data.toList k e
  rw [show s.data.toList.length = s.size by simp] at hl
  have c0 := h.c0
  have c1 := h.c1
  obtain rfl := ht
  by_cases h0 : e = 0
  · rw [if_pos h0] at hl
    subst h0
    rw [hl]
    clear hl h 
    have hsub : (s.size : Int) - (k : Int) = ((s.size - k : Nat) : Int) := by omega
    have HS := Lib.hid hsub; clear hsub
    have hz : ((0 : Int) != 0) = false := rfl
    go_enter Tryz.func43, Tryz.ntmps43
    go_wp2_with (go_at_call 57; refine HT.out.mono ?_; rintro e w' ⟨rfl, rfl⟩)
    go_quiet (fail)
    go_wp2
    go_ret
    exact ⟨ret1_eq (int_eq HS.out), _, rfl⟩
  · rw [if_neg h0] at hl
    rw [hl]
    have hz : (e != 0) = true := bne_iff_ne.mpr h0
    clear hl h h0 
    go_enter Tryz.func43, Tryz.ntmps43
    go_wp2_with (go_at_call 57; refine HT.out.mono ?_; rintro e w' ⟨rfl, rfl⟩)
    go_ret
    exact ⟨rfl, 0, rfl⟩
end Go.Proofs.YtkhcneacjnpcnaaGreatDoor
