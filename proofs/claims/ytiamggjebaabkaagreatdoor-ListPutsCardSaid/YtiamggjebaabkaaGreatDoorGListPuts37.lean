/- Merged: ListY. -/
import Derived.Test.YtiamggjebaabkaaGreatDoorGListPuts35
import Derived.Test.YtiamggjebaabkaaGreatDoorGListPuts36
namespace Go.Proofs.YtiamggjebaabkaaGreatDoor
open Go.RowKit Go.WideShapes Go.ChangeShapes
set_option linter.unusedVariables false
set_option linter.unusedSimpArgs false

/-- No block that may be written is of the type T. -/
def Ty (w : World) (r : Option Nat) (T : TypeId) : Prop := ∀ k, r = some k → ∀ cs fr, w.heap[k]? ≠ some (.cells cs T fr)
theorem ty_of {w : World} {g : Nat} {cs : Array Value} {T T0 : TypeId} {fr : Nat × Nat} (h : w.heap[g]? = some (.cells cs T0 fr)) (hne : T0 ≠ T) : Ty w (some g) T := by
  intro k e cs' fr' hk
  injection e with e
  subst e
  rw [h] at hk
  injection hk with hk
  injection hk with _ hk _
  exact hne hk
theorem ty_own {w : World} {base : Nat} {v : Value} {L : List Rw} {T T0 : TypeId} (h : Ow T0 w base v L) (hne : T0 ≠ T) : Ty w v.ownBlock T := by
  rcases h.2 with ⟨hv, _⟩ | ⟨g', cap, cur, h1, _, h3, _⟩
  · rw [hv]; intro k e; cases e
  · rw [h1]
    intro k e
    have e' : some g' = some k := e
    exact ty_of h3 hne k e'
theorem Bi.kept {w w' : World} {b : Nat} {n : Int} {r : Option Nat} (h : Bi w b n) (hb : w.grownBy w' r) (ht : Ty w r 2) : Bi w' b n := (hb.block b (bk_lt h) (fun c => ht b c.symm _ _ h)).trans h
theorem Bt.kept12 {w w' : World} {b : Nat} {D : List UInt8} {r : Option Nat} (h : Bt 49 w b D) (hb : w.grownBy w' r) (ht : Ty w r 49) : Bt 49 w' b D := (hb.block b (bk_lt h) (fun c => ht b c.symm _ _ h)).trans h
/-- A time, if it was there: behind a pointer. -/
def Pz (lo : Nat) (w : World) (p : Option Addr) (m v : Int) : Prop := (m = 0 ∧ p = none) ∨ (0 < m ∧ ∃ b, p = some ⟨b, 0, none⟩ ∧ lo ≤ b ∧ Bi w b v)
theorem Pz.kept {lo : Nat} {w w' : World} {p : Option Addr} {m v : Int} {r : Option Nat} (h : Pz lo w p m v) (hb : w.grownBy w' r) (ht : Ty w r 2) : Pz lo w' p m v := by
  rcases h with h | ⟨h1, b, h2, h3, h4⟩
  · exact .inl h
  · exact .inr ⟨h1, b, h2, h3, h4.kept hb ht⟩
theorem Pz.no {lo : Nat} {w : World} {p : Option Addr} {m v : Int} (h : Pz lo w p m v) (hm : m = 0) : p = none := by
  rcases h with h | ⟨h1, _⟩
  · exact h.2
  · omega
theorem Pz.yes {lo : Nat} {w : World} {p : Option Addr} {m v : Int} (h : Pz lo w p m v) (hm : m ≠ 0) : p ≠ none := by
  rcases h with h | ⟨h1, b, h2, _⟩
  · exact absurd h.1 hm
  · rw [h2]; exact fun c => by cases c
def Pd (lo : Nat) (w : World) (p : Option Addr) (s : Int) (D : List UInt8) : Prop := (s = 0 ∧ p = none) ∨ (0 < s ∧ ∃ b, p = some ⟨b, 0, none⟩ ∧ lo ≤ b ∧ Bt 49 w b D)
theorem Pd.kept {lo : Nat} {w w' : World} {p : Option Addr} {s : Int} {D : List UInt8} {r : Option Nat} (h : Pd lo w p s D) (hb : w.grownBy w' r) (ht : Ty w r 49) : Pd lo w' p s D := by
  rcases h with h | ⟨h1, b, h2, h3, h4⟩
  · exact .inl h
  · exact .inr ⟨h1, b, h2, h3, h4.kept12 hb ht⟩
theorem Pd.no {lo : Nat} {w : World} {p : Option Addr} {s : Int} {D : List UInt8} (h : Pd lo w p s D) (hm : s = 0) : p = none := by
  rcases h with h | ⟨h1, _⟩
  · exact h.2
  · omega
theorem Pd.yes {lo : Nat} {w : World} {p : Option Addr} {s : Int} {D : List UInt8} (h : Pd lo w p s D) (hm : s ≠ 0) : p ≠ none := by
  rcases h with h | ⟨h1, b, h2, _⟩
  · exact absurd h.1 hm
  · rw [h2]; exact fun c => by cases c
/-- A digest's words, if it was there. -/
def X5 (r : Rd11) (S : St) : Prop := 0 < r.s → r.x0 = (S.a.toNat : Int) ∧ r.x1 = (S.b.toNat : Int) ∧ r.x2 = (S.c.toNat : Int) ∧ r.x3 = (S.d.toNat : Int) ∧ r.x4 = (S.e.toNat : Int)
/-- The list's block. -/
def L4 (w : World) (q : Nat) (pu pe : Option Addr) (v : Value) (pd : Option Addr) : Prop := w.heap[q]? = some (.cells #[.pointer pu, .pointer pe, v, .pointer pd] 76 (0, 0))
/-- The block q holds what has been read. -/
def Ls (lo : Nat) (w : World) (q : Nat) (r : Rd11) : Prop := ∃ pu pe pd A c S, L4 w q pu pe (.slice A r.L.length c) pd ∧ Pz lo w pu r.m r.u ∧ Pz lo w pe r.h r.e ∧ Ow 70 w lo (.slice A r.L.length c) r.L ∧ Pd lo w pd r.s (byt S) ∧ X5 r S
theorem Ls.kept {lo q : Nat} {w w' : World} {r : Rd11} {row : Option Nat} (h : Ls lo w q r) (hb : w.grownBy w' row) (t1 : Ty w row 2) (t2 : Ty w row 49) (t3 : Ty w row 70) (t4 : Ty w row 76) : Ls lo w' q r := by
  obtain ⟨pu, pe, pd, A, c, S, h1, h2, h3, h4, h5, h6⟩ := h
  exact ⟨pu, pe, pd, A, c, S, (hb.block q (bk_lt h1) (fun e => t4 q e.symm _ _ h1)).trans h1, h2.kept hb t1, h3.kept hb t1, h4.kept11 hb t3, h5.kept hb t2, h6⟩
theorem ty_none (w : World) (T : TypeId) : Ty w none T := fun k e => by cases e
theorem gb_of_below {w w' : World} (h : Below w.heap.size w w') : w.grownBy w' none := ⟨h.os, h.tape, h.output, h.size, fun k hk _ => h.block k hk⟩
theorem Ls.below {lo q : Nat} {w w' : World} {r : Rd11} (h : Ls lo w q r) (hb : Below w.heap.size w w') : Ls lo w' q r :=
  h.kept (gb_of_below hb) (ty_none _ _) (ty_none _ _) (ty_none _ _) (ty_none _ _)
/-- The scanner moves: the list stays. -/
theorem Ls.moved {lo q g k : Nat} {w w' : World} {r : Rd11} {v : Value} {e : Int} (h : Ls lo w q r) (hk : Sk Ts w g v k e) (hb : w.grownBy w' (some g)) : Ls lo w' q r :=
  h.kept hb (ty_of hk (by decide)) (ty_of hk (by decide)) (ty_of hk (by decide)) (ty_of hk (by decide))
theorem Ls.setU {lo q b : Nat} {w : World} {r : Rd11} (h : Ls lo w q r) {n : Int} (hb : Bi w b n) (hlo : lo ≤ b) (hm : 0 ≤ r.m) : Ls lo (w.setCell ⟨q, 0, none⟩ (.pointer (some ⟨b, 0, none⟩))) q { r with u := n, m := r.m + 1 } := by
  obtain ⟨pu, pe, pd, A, c, S, h1, h2, h3, h4, h5, h6⟩ := h
  have gb := gb_set (g := q) (gb_refl w (some q)) 0 (.pointer (some ⟨b, 0, none⟩))
  exact ⟨some ⟨b, 0, none⟩, pe, pd, A, c, S, bk_set h1 0 _, .inr ⟨by dsimp; omega, b, rfl, hlo, hb.kept gb (ty_of h1 (by decide))⟩, h3.kept gb (ty_of h1 (by decide)), h4.kept11 gb (ty_of h1 (by decide)), h5.kept gb (ty_of h1 (by decide)), h6⟩
theorem Ls.setE {lo q b : Nat} {w : World} {r : Rd11} (h : Ls lo w q r) {n : Int} (hb : Bi w b n) (hlo : lo ≤ b) (hm : 0 ≤ r.h) : Ls lo (w.setCell ⟨q, 1, none⟩ (.pointer (some ⟨b, 0, none⟩))) q { r with e := n, h := r.h + 1 } := by
  obtain ⟨pu, pe, pd, A, c, S, h1, h2, h3, h4, h5, h6⟩ := h
  have gb := gb_set (g := q) (gb_refl w (some q)) 1 (.pointer (some ⟨b, 0, none⟩))
  exact ⟨pu, some ⟨b, 0, none⟩, pd, A, c, S, bk_set h1 1 _, h2.kept gb (ty_of h1 (by decide)), .inr ⟨by dsimp; omega, b, rfl, hlo, hb.kept gb (ty_of h1 (by decide))⟩, h4.kept11 gb (ty_of h1 (by decide)), h5.kept gb (ty_of h1 (by decide)), h6⟩
theorem Ls.setD {lo q b : Nat} {w : World} {r : Rd11} (h : Ls lo w q r) {S : St} (hb : Bt 49 w b (byt S)) (hlo : lo ≤ b) : Ls lo (w.setCell ⟨q, 3, none⟩ (.pointer (some ⟨b, 0, none⟩))) q { r with s := 1, x0 := (S.a.toNat : Int), x1 := (S.b.toNat : Int), x2 := (S.c.toNat : Int), x3 := (S.d.toNat : Int), x4 := (S.e.toNat : Int) } := by
  obtain ⟨pu, pe, pd, A, c, S', h1, h2, h3, h4, h5, h6⟩ := h
  have gb := gb_set (g := q) (gb_refl w (some q)) 3 (.pointer (some ⟨b, 0, none⟩))
  exact ⟨pu, pe, some ⟨b, 0, none⟩, A, c, S, bk_set h1 3 _, h2.kept gb (ty_of h1 (by decide)), h3.kept gb (ty_of h1 (by decide)), h4.kept11 gb (ty_of h1 (by decide)), .inr ⟨(show (0 : Int) < 1 by decide), b, rfl, hlo, hb.kept12 gb (ty_of h1 (by decide))⟩, fun _ => ⟨rfl, rfl, rfl, rfl, rfl⟩⟩

/-- Take, of a byte that is next, or isn't. -/
theorem tkb_yes {g k : Nat} {s : ByteArray} {b : UInt8} {z : Int} {w : World} (hz : z = (b.toNat : Int)) (h : Sk Ts w g (.string s) k 0) (hk : k ≤ s.size) (hs : s.size ≤ 100000) (hb : (s.data.toList.drop k).head? = some b) :
    Calls Tryz.prog 80 #[.pointer (some ⟨g, 0, none⟩), .int .u8 z] w fun x w' => x = .returned (.bool true) ∧ Mv Ts g (.string s) (k + 1) 0 w w' := by
  subst hz
  have := takes_s g k 0 (.string s) s b w h rfl hk hs
  rw [rs_zero, hb, if_pos rfl, show (some b == some b) = true by simp] at this
  exact this
theorem tkb_no {g k : Nat} {s : ByteArray} {b : UInt8} {z : Int} {w : World} (hz : z = (b.toNat : Int)) (h : Sk Ts w g (.string s) k 0) (hk : k ≤ s.size) (hs : s.size ≤ 100000) (hb : (s.data.toList.drop k).head? ≠ some b) :
    Calls Tryz.prog 80 #[.pointer (some ⟨g, 0, none⟩), .int .u8 z] w fun x w' => x = .returned (.bool false) ∧ Mv Ts g (.string s) k 0 w w' := by
  subst hz
  have := takes_s g k 0 (.string s) s b w h rfl hk hs
  rw [rs_zero, if_neg hb, show ((s.data.toList.drop k).head? == some b) = false from beq_eq_false_iff_ne.2 hb] at this
  exact this
theorem take2_of {l : List UInt8} {a b : UInt8} (h0 : l.head? = some a) (h1 : (l.drop 1).head? = some b) : l.take 2 = [a, b] := by
  match l, h0, h1 with
  | x :: y :: r, h0, h1 => simp at h0 h1; simp [h0, h1]
theorem take2_no {l : List UInt8} {a b : UInt8} (h1 : (l.drop 1).head? ≠ some b) : l.take 2 ≠ [a, b] := by
  intro h
  match l, h, h1 with
  | x :: y :: r, h, h1 => simp at h h1; exact h1 h.2
  | [x], h, _ => simp at h
  | [], h, _ => simp at h
theorem take2_no0 {l : List UInt8} {a b : UInt8} (h1 : l.head? ≠ some a) : l.take 2 ≠ [a, b] := by
  intro h
  match l, h, h1 with
  | x :: y :: r, h, h1 => simp at h h1; exact h1 h.1
  | [x], h, _ => simp at h
  | [], h, _ => simp at h
theorem sharp_wd {l : List UInt8} (h : l.head? = some 35) : wdL l ≠ [] := by
  intro c
  have := wd_none c
  match l, h with
  | x :: r, h =>
    injection h with h
    subst h
    exact absurd (this 35 (by simp)) (by decide)

end Go.Proofs.YtiamggjebaabkaaGreatDoor
