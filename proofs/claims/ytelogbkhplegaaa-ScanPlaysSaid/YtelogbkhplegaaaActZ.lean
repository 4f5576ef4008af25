/- One act, whatever kind it is. (Written by gen2.py.) -/
import Derived.Test.YtelogbkhplegaaaAct0
import Derived.Test.YtelogbkhplegaaaAct1
import Derived.Test.YtelogbkhplegaaaAct2
import Derived.Test.YtelogbkhplegaaaAct3
import Derived.Test.YtelogbkhplegaaaAct4
import Derived.Test.YtelogbkhplegaaaAct5
import Derived.Test.YtelogbkhplegaaaAct6
import Derived.Test.YtelogbkhplegaaaAct7
import Derived.Test.YtelogbkhplegaaaAct8
namespace Go.Proofs.Ytelogbkhplegaaa
open Go.RowKit
set_option linter.unusedVariables false

theorem n_cases (a : ActD) : a.n = 0 ∨ a.n = 1 ∨ a.n = 2 ∨ a.n = 3 ∨ a.n = 4 ∨ a.n = 5 ∨ a.n = 6 ∨ a.n = 7 ∨ a.n = 8 := by unfold ActD.n; omega
theorem act_s
    (g k mk : Nat) (e me : Int) (v : Value) (s : ByteArray) (a : ActD) (w : World) (h : Sk Ts w g v k e) (ht : Txs w g v s) (hk : k ≤ s.size) (hmk : mk ≤ s.size) (hs : s.size ≤ 1000) (he : 0 ≤ e) (he' : e < 100)
    (ha : a.Ok w) (hL : Away a.list a.L g) (hsm : a.Small) (hv : ∀ A n c ad, v = .slice A n c → A = some ad → ad.block < w.heap.size)
    :
    Calls Try.prog 11 #[.pointer (some ⟨g, 0, none⟩), dm s mk me, .agg a.cells] w
      (ActP Ts g v s (acK s.data.toList a k e) (acE s.data.toList a k e) (acK s.data.toList a mk me) (acE s.data.toList a mk me) (fun t => mk = k → me = e → t = true) w) := by
  rcases n_cases a with hn | hn | hn | hn | hn | hn | hn | hn | hn
  · exact act0_s g k mk e me v s a w h ht hk hmk hs he he' ha hL hsm hv hn
  · exact act1_s g k mk e me v s a w h ht hk hmk hs he he' ha hL hsm hv hn
  · exact act2_s g k mk e me v s a w h ht hk hmk hs he he' ha hL hsm hv hn
  · exact act3_s g k mk e me v s a w h ht hk hmk hs he he' ha hL hsm hv hn
  · exact act4_s g k mk e me v s a w h ht hk hmk hs he he' ha hL hsm hv hn
  · exact act5_s g k mk e me v s a w h ht hk hmk hs he he' ha hL hsm hv hn
  · exact act6_s g k mk e me v s a w h ht hk hmk hs he he' ha hL hsm hv hn
  · exact act7_s g k mk e me v s a w h ht hk hmk hs he he' ha hL hsm hv hn
  · exact act8_s g k mk e me v s a w h ht hk hmk hs he he' ha hL hsm hv hn
theorem act_b
    (g k mk : Nat) (e me : Int) (v : Value) (s : ByteArray) (a : ActD) (w : World) (h : Sk Tb w g v k e) (ht : Txb w g v s) (hk : k ≤ s.size) (hmk : mk ≤ s.size) (hs : s.size ≤ 1000) (he : 0 ≤ e) (he' : e < 100)
    (ha : a.Ok w) (hL : Away a.list a.L g) (hsm : a.Small) (hv : ∀ A n c ad, v = .slice A n c → A = some ad → ad.block < w.heap.size)
    :
    Calls Try.prog 12 #[.pointer (some ⟨g, 0, none⟩), dm s mk me, .agg a.cells] w
      (ActP Tb g v s (acK s.data.toList a k e) (acE s.data.toList a k e) (acK s.data.toList a mk me) (acE s.data.toList a mk me) (fun t => mk = k → me = e → t = true) w) := by
  rcases n_cases a with hn | hn | hn | hn | hn | hn | hn | hn | hn
  · exact act0_b g k mk e me v s a w h ht hk hmk hs he he' ha hL hsm hv hn
  · exact act1_b g k mk e me v s a w h ht hk hmk hs he he' ha hL hsm hv hn
  · exact act2_b g k mk e me v s a w h ht hk hmk hs he he' ha hL hsm hv hn
  · exact act3_b g k mk e me v s a w h ht hk hmk hs he he' ha hL hsm hv hn
  · exact act4_b g k mk e me v s a w h ht hk hmk hs he he' ha hL hsm hv hn
  · exact act5_b g k mk e me v s a w h ht hk hmk hs he he' ha hL hsm hv hn
  · exact act6_b g k mk e me v s a w h ht hk hmk hs he he' ha hL hsm hv hn
  · exact act7_b g k mk e me v s a w h ht hk hmk hs he he' ha hL hsm hv hn
  · exact act8_b g k mk e me v s a w h ht hk hmk hs he he' ha hL hsm hv hn
/-- What is taken is never given back; with an error nothing is taken. -/
theorem acK_ge (l : List UInt8) (a : ActD) (k : Nat) (e : Int) : k ≤ acK l a k e := by
  unfold acK
  split
  · split <;> omega
  split
  · unfold fdK; split <;> omega
  split
  · omega
  split
  · omega
  split
  · unfold fgK; split <;> omega
  split
  · unfold fdK; split <;> omega
  split
  · omega
  split
  · unfold skK; split <;> omega
  exact Nat.le_refl _
theorem wdN_bad {r : List UInt8} {e : Int} (h : e ≠ 0) : ∀ ws : List ByteArray, wdN r e ws = 0
  | [] => rfl
  | w :: ws => by
    have hf : fdT r e w.data.toList = false := by unfold fdT; rw [beq_eq_false_iff_ne.2 h]; rfl
    unfold wdN; rw [hf]; exact wdN_bad h ws
theorem acK_bad (l : List UInt8) (a : ActD) (k : Nat) {e : Int} (h : e ≠ 0) : acK l a k e = k := by
  have hf : ∀ r w, fdT r e w = false := fun r w => by unfold fdT; rw [beq_eq_false_iff_ne.2 h]; rfl
  unfold acK
  rw [rs_bad _ _ h]
  split
  · rfl
  split
  · exact fd_no (hf _ _)
  split
  · rfl
  split
  · rfl
  split
  · unfold fgK; rw [if_neg h]
  split
  · exact fd_no (hf _ _)
  split
  · rw [wdN_bad h]; rfl
  split
  · unfold skK; rw [if_neg (fun hh => h hh.1)]
  rfl
end Go.Proofs.Ytelogbkhplegaaa
