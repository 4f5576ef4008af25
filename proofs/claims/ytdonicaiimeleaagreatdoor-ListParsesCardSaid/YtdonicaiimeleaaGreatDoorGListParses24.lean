/- Merged: ListP, ScanA, ScanB. -/
import Derived.Test.YtdonicaiimeleaaGreatDoorGListParses5
import Derived.Test.YtdonicaiimeleaaGreatDoorGListParses23
import Derived.LoopTactic
import Derived.Lib.Walk
namespace Go.Proofs.YtdonicaiimeleaaGreatDoor
set_option linter.unusedVariables false

/-- A step over a byte. -/
def wdst (p : List (List UInt8) × List UInt8) (b : UInt8) : List (List UInt8) × List UInt8 := if gp b = true then (fl p, []) else (p.1, p.2 ++ [b])
theorem wo_fold (l : List UInt8) : ∀ i, i ≤ l.length → wo l i = (l.take i).foldl wdst ([], [])
  | 0, _ => by simp [wo]
  | i + 1, h => by
    have hi : i < l.length := h
    have ih := wo_fold l i (by omega)
    have e : l[i]? = some l[i] := List.getElem?_eq_getElem hi
    rw [List.take_succ_eq_append_getElem hi, List.foldl_append, ← ih]
    cases hg : gp l[i] with
    | true => rw [wo_gap e hg]; simp [wdst, hg]
    | false => rw [wo_sign e hg]; simp [wdst, hg]
/-- The words of what is left, where a word is under way. -/
def wdW (c : List UInt8) : List UInt8 → List (List UInt8)
  | [] => if c = [] then [] else [c]
  | b :: l => if gp b = true then (if c = [] then [] else [c]) ++ wdW [] l else wdW (c ++ [b]) l
theorem fold_W : ∀ (l : List UInt8) (ws : List (List UInt8)) (c : List UInt8), fl (l.foldl wdst (ws, c)) = ws ++ wdW c l
  | [], ws, c => by
    rw [List.foldl_nil, wdW]
    unfold fl
    by_cases h : c = []
    · rw [if_pos h, if_pos h, List.append_nil]
    · rw [if_neg h, if_neg h]
  | b :: l, ws, c => by
    rw [List.foldl_cons, wdW]
    cases hg : gp b with
    | true =>
      have e : wdst (ws, c) b = (fl (ws, c), []) := by unfold wdst; rw [if_pos hg]
      rw [e, fold_W l, if_pos rfl, ← List.append_assoc]
      congr 1
      unfold fl
      by_cases h : c = []
      · rw [if_pos h, if_pos h, List.append_nil]
      · rw [if_neg h, if_neg h]
    | false =>
      have e : wdst (ws, c) b = (ws, c ++ [b]) := by unfold wdst; rw [if_neg (by rw [hg]; decide)]
      rw [e, fold_W l, if_neg (by decide)]
theorem wdL_W (l : List UInt8) : wdL l = wdW [] l := by
  have e : l[l.length]? = none := by simp
  unfold wdL
  rw [wo_end e]
  show fl (wo l l.length) = _
  rw [wo_fold l _ (Nat.le_refl _), List.take_length, fold_W]; rfl

/-- All bytes are blanks or tabs. -/
def Gs (g : List UInt8) : Prop := ∀ b ∈ g, gp b = true
/-- None is. -/
def Wd (w : List UInt8) : Prop := ∀ b ∈ w, gp b = false
/-- A text ends, or a gap begins it. -/
def En (r : List UInt8) : Prop := r = [] ∨ gpL r = true
theorem W_gaps : ∀ {g : List UInt8} (h : Gs g) (r : List UInt8), wdW [] (g ++ r) = wdW [] r
  | [], _, r => rfl
  | b :: g, h, r => by
    rw [List.cons_append, wdW, if_pos (h b (by simp)), if_pos rfl, List.nil_append]
    exact W_gaps (fun c hc => h c (by simp [hc])) r
theorem W_word : ∀ {w : List UInt8} (h : Wd w) (c r : List UInt8), wdW c (w ++ r) = wdW (c ++ w) r
  | [], _, c, r => by simp
  | b :: w, h, c, r => by
    rw [List.cons_append, wdW, if_neg (by rw [h b (by simp)]; decide), W_word (fun c hc => h c (by simp [hc]))]
    simp
theorem W_end {c : List UInt8} (hc : c ≠ []) : ∀ {r : List UInt8}, En r → wdW c r = c :: wdW [] r
  | [], _ => by rw [wdW, wdW, if_neg hc, if_pos rfl]
  | b :: r, h => by
    have hb : gp b = true := by
      rcases h with h | h
      · cases h
      · exact h
    rw [wdW, wdW, if_pos hb, if_pos hb, if_neg hc, if_pos rfl]; rfl
/-- A text whose words begin with w. -/
theorem wdL_cons {g w r : List UInt8} (hg : Gs g) (hw : Wd w) (h0 : w ≠ []) (hr : En r) : wdL (g ++ (w ++ r)) = w :: wdL r := by
  rw [wdL_W, wdL_W, W_gaps hg, W_word hw, List.nil_append, W_end h0 hr]
theorem wdL_gaps {g : List UInt8} (hg : Gs g) : wdL g = [] := by
  have := W_gaps hg []
  rw [List.append_nil] at this
  rw [wdL_W, this]; rfl
/-- Parted by a test: the bytes ahead pass it, the next one doesn't. -/
theorem span_of (p : UInt8 → Bool) : ∀ r : List UInt8, ∃ a b, r = a ++ b ∧ (∀ x ∈ a, p x = true) ∧ (b = [] ∨ ∃ x b', b = x :: b' ∧ p x = false)
  | [] => ⟨[], [], rfl, by simp, .inl rfl⟩
  | x :: r => by
    cases h : p x with
    | false => exact ⟨[], x :: r, rfl, by simp, .inr ⟨x, r, rfl, h⟩⟩
    | true =>
      obtain ⟨a, b, e, h1, h2⟩ := span_of p r
      refine ⟨x :: a, b, by rw [e]; rfl, ?_, h2⟩
      intro y hy
      rcases List.mem_cons.1 hy with rfl | hy
      · exact h
      · exact h1 y hy
/-- Gaps only, or gaps and a first word. -/
theorem wd_part (r : List UInt8) : (Gs r ∧ wdL r = []) ∨ ∃ g w r', r = g ++ (w ++ r') ∧ Gs g ∧ Wd w ∧ w ≠ [] ∧ En r' ∧ wdL r = w :: wdL r' := by
  obtain ⟨g, m, e, hg, hm⟩ := span_of gp r
  rcases hm with rfl | ⟨x, m', rfl, hx⟩
  · rw [List.append_nil] at e
    subst e
    exact .inl ⟨hg, wdL_gaps hg⟩
  · obtain ⟨w, r', e2, hw, hr⟩ := span_of (fun b => !gp b) (x :: m')
    have h0 : w ≠ [] := by
      rintro rfl
      rcases hr with rfl | ⟨y, b', rfl, hy⟩
      · cases e2
      · injection e2 with e3 _
        subst e3
        simp [hx] at hy
    have hW : Wd w := fun b hb => by simpa using hw b hb
    have hE : En r' := by
      rcases hr with rfl | ⟨y, b', rfl, hy⟩
      · exact .inl rfl
      · exact .inr (by simpa [gpL] using hy)
    refine .inr ⟨g, w, r', by rw [e, e2], hg, hW, h0, hE, ?_⟩
    rw [e, e2]
    exact wdL_cons hg hW h0 hE
theorem wd_none {r : List UInt8} (h : wdL r = []) : Gs r := by
  rcases wd_part r with ⟨h1, _⟩ | ⟨g, w, r', _, _, _, _, _, h2⟩
  · exact h1
  · rw [h2] at h; cases h
theorem wd_more {r w : List UInt8} {ws : List (List UInt8)} (h : wdL r = w :: ws) : ∃ g r', r = g ++ (w ++ r') ∧ Gs g ∧ Wd w ∧ w ≠ [] ∧ En r' ∧ wdL r' = ws := by
  rcases wd_part r with ⟨_, h1⟩ | ⟨g, w', r', e, h1, h2, h3, h4, h5⟩
  · rw [h1] at h; cases h
  · rw [h5] at h
    injection h with e1 e2
    subst e1
    exact ⟨g, r', e, h1, h2, h3, h4, e2⟩
theorem Gs.nil : Gs [] := fun b hb => by simp at hb
theorem gp_isd {b : UInt8} (h : isd b = true) : gp b = false := by
  have := isd_bd h
  have h1 : b ≠ 32 := fun e => by rw [e] at this; exact absurd this.1 (by decide)
  have h2 : b ≠ 9 := fun e => by rw [e] at this; exact absurd this.1 (by decide)
  simp [gp, h1, h2]
theorem isd_gp {b : UInt8} (h : gp b = true) : isd b = false := by
  cases hd : isd b with
  | false => rfl
  | true => rw [gp_isd hd] at h; cases h

/-- A word that is a number of 1 to n figures. -/
def Fg (n : Nat) (d : List UInt8) : Prop := (∀ b ∈ d, isd b = true) ∧ 1 ≤ d.length ∧ d.length ≤ n
theorem Fg.wd {n : Nat} {d : List UInt8} (h : Fg n d) : Wd d := fun b hb => gp_isd (h.1 b hb)
theorem Fg.ne {n : Nat} {d : List UInt8} (h : Fg n d) : d ≠ [] := fun e => by have := h.2.1; rw [e] at this; exact absurd this (by decide)
theorem Fg.bd {n : Nat} {d : List UInt8} (h : Fg n d) (hn : n ≤ 13) : dv d ≤ mx := by
  have h1 := dv_lt h.1
  have h2 : (10 : Nat) ^ d.length ≤ 10 ^ 13 := Nat.pow_le_pow_right (by decide) (Nat.le_trans h.2.2 hn)
  have h3 : (10 : Nat) ^ 13 ≤ mx := by decide
  omega
/-- Whole of 1 to n figures: the number, or error 2. -/
theorem wh_fg {n : Nat} {d : List UInt8} (h : Fg n d) (hn : n ≤ 13) : whE d 1 n mx = 0 ∧ whN d 1 n mx = dv d := by
  have hl := lead_all h.1
  have hk : tkk d (n : Int) = d.length := by unfold tkk; rw [hl]; have := h.2.2; omega
  have hR : tkR 1 (n : Int) = false := by
    unfold tkR
    have := h.2.1; have := h.2.2
    simp; omega
  have hE : tkE d 1 n mx = 0 := by
    unfold tkE
    rw [hR, hk, if_neg (by decide), if_neg (by have := h.2.1; omega), List.take_length]
    rcases vl_E d mx with ⟨_, _, h3⟩ | ⟨h3, _⟩
    · exact absurd (h.bd hn) (by omega)
    · exact h3
  have hK : tkK d 1 n mx = d.length := by unfold tkK; rw [if_pos hE, hk]
  have hN : tkN d 1 n mx = dv d := by unfold tkN; rw [if_pos hE, hk, List.take_length]
  have hW : whE d 1 n mx = 0 := by unfold whE; rw [if_pos hE, hK, if_neg (by omega)]
  exact ⟨hW, by unfold whN; rw [if_pos hW, hN]⟩
theorem tkk_le (l : List UInt8) (n : Nat) : tkk l (n : Int) ≤ l.length := by unfold tkk; have := lead_le l; omega
theorem tk_two {l : List UInt8} {n : Nat} (h1 : 1 ≤ n) (hn : n ≤ 13) : tkE l 1 n mx = if tkk l (n : Int) = 0 then 2 else 0 := by
  have hR : tkR 1 (n : Int) = false := by unfold tkR; simp; omega
  unfold tkE
  rw [hR, if_neg (by decide)]
  by_cases h0 : tkk l (n : Int) = 0
  · rw [if_pos (by omega), if_pos h0]
  · rw [if_neg (by omega), if_neg h0]
    have hF : Fg n (l.take (tkk l (n : Int))) := by
      refine ⟨fun b hb => lead_mem (by unfold tkk; omega) b hb, ?_, ?_⟩
      · rw [List.length_take]; have := tkk_le l n; omega
      · rw [List.length_take]; unfold tkk; omega
    rcases vl_E (l.take (tkk l (n : Int))) mx with ⟨_, _, h3⟩ | ⟨h3, _⟩
    · exact absurd (hF.bd hn) (by omega)
    · exact h3
theorem whf_two {d : List UInt8} {n : Nat} (h1 : 1 ≤ n) (hn : n ≤ 13) : whE d 1 n mx = 2 ∨ (whE d 1 n mx = 0 ∧ Fg n d) := by
  have ht := tk_two (l := d) h1 hn
  by_cases h0 : tkk d (n : Int) = 0
  · rw [if_pos h0] at ht
    left; unfold whE; rw [if_neg (by rw [ht]; decide), ht]
  · rw [if_neg h0] at ht
    have hK : tkK d 1 n mx = tkk d (n : Int) := by unfold tkK; rw [if_pos ht]
    by_cases hlt : tkk d (n : Int) < d.length
    · left; unfold whE; rw [if_pos ht, hK, if_pos hlt]
    · right
      have hle := tkk_le d n
      have hl : tkk d (n : Int) = d.length := by omega
      refine ⟨by unfold whE; rw [if_pos ht, hK, if_neg hlt], ?_, by omega, ?_⟩
      · have := lead_mem (l := d) (k := d.length) (by rw [← hl]; unfold tkk; omega)
        rw [List.take_length] at this
        exact this
      · rw [← hl]; unfold tkk; omega

/-- What figures take: all of them, up to n. -/
theorem tkk_app {n : Nat} {d r : List UInt8} (h : Fg n d) (hr : ∀ b ∈ r.head?, isd b = false) : tkk (d ++ r) (n : Int) = d.length := by
  have h1 : lead (d ++ r) = d.length := by
    cases r with
    | nil => rw [List.append_nil]; exact lead_all h.1
    | cons b r =>
      have hb : isd b = false := hr b rfl
      have hlt : d.length < (d ++ b :: r).length := by simp
      have hi : (d ++ b :: r)[d.length] = b := by simp
      refine lead_at hlt ?_ (by rw [hi]; exact hb)
      have : ∀ d : List UInt8, (∀ b ∈ d, isd b = true) → d.length ≤ lead (d ++ b :: r) := by
        intro d
        induction d with
        | nil => intro _; exact Nat.zero_le _
        | cons c d ih =>
          intro hc
          have := ih (fun x hx => hc x (by simp [hx]))
          rw [List.cons_append, lead, if_pos (hc c (by simp))]
          simp; omega
      exact this d h.1
  unfold tkk; rw [h1]; have := h.2.2; omega
/-- What gaps take. -/
theorem tw_app {p : UInt8 → Bool} : ∀ {g r : List UInt8}, (∀ b ∈ g, p b = true) → (∀ b ∈ r.head?, p b = false) → tw p (g ++ r) = g.length
  | [], [], _, _ => rfl
  | [], b :: r, _, h => by rw [List.nil_append, tw, if_neg (by rw [h b rfl]; decide)]; rfl
  | c :: g, r, h, h2 => by
    rw [List.cons_append, tw, if_pos (h c (by simp)), tw_app (fun x hx => h x (by simp [hx])) h2]; simp
theorem tw_part (p : UInt8 → Bool) (r : List UInt8) : ∃ g m, r = g ++ m ∧ (∀ b ∈ g, p b = true) ∧ (∀ b ∈ m.head?, p b = false) ∧ tw p r = g.length ∧ r.drop (tw p r) = m ∧ r.take (tw p r) = g := by
  obtain ⟨a, b, e, h1, h2⟩ := span_of p r
  have h3 : ∀ x ∈ b.head?, p x = false := by
    rcases h2 with rfl | ⟨x, b', rfl, hx⟩
    · intro x hx; cases hx
    · intro y hy; injection hy with hy; subst hy; exact hx
  have h4 : tw p r = a.length := by rw [e]; exact tw_app h1 h3
  exact ⟨a, b, e, h1, h3, h4, by rw [h4, e]; simp, by rw [h4, e]; simp⟩
theorem fg_part {r : List UInt8} {n : Nat} (h1 : 1 ≤ n) (h0 : tkk r (n : Int) ≠ 0) : ∃ d m, r = d ++ m ∧ Fg n d ∧ tkk r (n : Int) = d.length ∧ r.drop (tkk r (n : Int)) = m ∧ r.take (tkk r (n : Int)) = d := by
  have hle := tkk_le r n
  have hlen : (r.take (tkk r (n : Int))).length = tkk r (n : Int) := by rw [List.length_take]; omega
  refine ⟨r.take (tkk r (n : Int)), r.drop (tkk r (n : Int)), (List.take_append_drop _ _).symm, ⟨fun b hb => lead_mem (by unfold tkk; omega) b hb, by omega, ?_⟩, hlen.symm, rfl, rfl⟩
  rw [hlen]; unfold tkk; omega

end Go.Proofs.YtdonicaiimeleaaGreatDoor

namespace Go.Proofs.YtdonicaiimeleaaGreatDoor
open Go.RowKit
set_option linter.unusedVariables false

/-- The text of a scanner in the block g: a string. -/
def Txs (w : World) (g : Nat) (v : Value) (s : ByteArray) : Prop := v = .string s
/-- The text of a scanner in the block g: bytes, elsewhere. -/
def Txb (w : World) (g : Nat) (v : Value) (s : ByteArray) : Prop :=
  ∃ A c, v = .slice A s.size c ∧ Rb w A s.data.toList ∧ (A = none → c = 0) ∧ s.size ≤ c ∧ c ≤ maxLen ∧ ∀ ad, A = some ad → ad.block ≠ g
theorem Txs.kept {w w' : World} {g : Nat} {v : Value} {s : ByteArray} (h : Txs w g v s) (hg : w.grownBy w' (some g)) : Txs w' g v s := h
theorem Rb.kept {w w' : World} {g : Nat} {A : Option Addr} {l : List UInt8} (h : Rb w A l) (hg : w.grownBy w' (some g)) (hne : ∀ ad, A = some ad → ad.block ≠ g) : Rb w' A l := by
  refine ⟨h.1, ?_⟩
  rcases h.2 with h0 | ⟨b, off, h1, h2, h3⟩
  · exact .inl h0
  · exact .inr ⟨b, off, h1, Nat.lt_of_lt_of_le h2 hg.size, fun j z hz => hg.cell (h3 j z hz) (by intro e; injection e with e; exact hne _ h1 e)⟩
theorem Txb.kept {w w' : World} {g : Nat} {v : Value} {s : ByteArray} (h : Txb w g v s) (hg : w.grownBy w' (some g)) : Txb w' g v s := by
  obtain ⟨A, c, h1, h2, h3, h4, h5, h6⟩ := h
  exact ⟨A, c, h1, h2.kept hg h6, h3, h4, h5, h6⟩

/-- The type of its block. -/
abbrev Ts : TypeId := 125
theorem stopped_s (g k : Nat) (e : Int) (v : Value) (w : World) (h : Sk Ts w g v k e) :
    Calls Tryz.prog 92 #[.pointer (some ⟨g, 0, none⟩)] w fun x w' => x = .returned (.bool (e != 0)) ∧ w = w' := by
  have c2 := h.c2
  have q0 := fun op t x k => guard_ev op t w x k
  have q2 := fun k => neq_ev w k
  clear h
  go_enter Tryz.func92, Tryz.ntmps92
  go_wp2
  go_ret
  exact ⟨rfl, rfl⟩
theorem err_s (g k : Nat) (e : Int) (v : Value) (w : World) (h : Sk Ts w g v k e) :
    Calls Tryz.prog 97 #[.pointer (some ⟨g, 0, none⟩)] w fun x w' => x = .returned (ev e) ∧ w = w' := by
  have c2 := h.c2
  clear h
  go_enter Tryz.func97, Tryz.ntmps97
  go_wp2
  go_ret
  exact ⟨rfl, rfl⟩

set_option maxHeartbeats 800000 in
theorem left_s (g k : Nat) (e : Int) (v : Value) (s : ByteArray) (w : World) (h : Sk Ts w g v k e) (ht : Txs w g v s) (hk : k ≤ s.size) (hs : s.size ≤ 100000) :
    Calls Tryz.prog 64 #[.pointer (some ⟨g, 0, none⟩)] w fun x w' => x = .returned (.int .i64 ((rs s.data.toList k e).length : Nat)) ∧ ∃ n, w' = w.drewN n := by
  have HT := Lib.hid (stopped_s g k e v w h)
  have hl := rs_len s.data.toList k e
  rw [show s.data.toList.length = s.size by simp] at hl
  have c0 := h.c0
  have c1 := h.c1
  obtain rfl := ht
  by_cases h0 : e = 0
  · rw [if_pos h0] at hl
    subst h0
    rw [hl]
    clear hl h 
    have hsub : (s.size : Int) - (k : Int) = ((s.size - k : Nat) : Int) := by omega
    have HS := Lib.hid hsub; clear hsub
    have hz : ((0 : Int) != 0) = false := rfl
    go_enter Tryz.func64, Tryz.ntmps64
    go_wp2_with (go_at_call 92; refine HT.out.mono ?_; rintro e w' ⟨rfl, rfl⟩)
    go_quiet (fail)
    go_wp2
    go_ret
    exact ⟨ret1_eq (int_eq HS.out), _, rfl⟩
  · rw [if_neg h0] at hl
    rw [hl]
    have hz : (e != 0) = true := bne_iff_ne.mpr h0
    clear hl h h0 
    go_enter Tryz.func64, Tryz.ntmps64
    go_wp2_with (go_at_call 92; refine HT.out.mono ?_; rintro e w' ⟨rfl, rfl⟩)
    go_ret
    exact ⟨rfl, 0, rfl⟩
end Go.Proofs.YtdonicaiimeleaaGreatDoor

namespace Go.Proofs.YtdonicaiimeleaaGreatDoor
open Go.RowKit
set_option linter.unusedVariables false

/-- The next byte, and whether there is one. -/
def pkB : List UInt8 → Int | [] => 0 | b :: _ => (b.toNat : Int)
def pkT : List UInt8 → Bool | [] => false | _ :: _ => true
theorem rs_at {l : List UInt8} {k : Nat} {e : Int} (h : rs l k e ≠ []) : e = 0 ∧ k < l.length := by
  unfold rs at h
  split at h
  · refine ⟨by assumption, ?_⟩
    rcases Nat.lt_or_ge k l.length with h1 | h1
    · exact h1
    · exact absurd (List.drop_eq_nil_of_le h1) h
  · exact absurd rfl h
theorem rs_cons {l : List UInt8} {k : Nat} (h : k < l.length) : rs l k 0 = l[k] :: l.drop (k + 1) := by rw [rs_zero, List.drop_eq_getElem_cons h]

/-- The error's number at the end. -/
def enE (l : List UInt8) (k : Nat) (e : Int) : Int := if e = 0 ∧ k < l.length then 2 else e

set_option maxHeartbeats 800000 in
theorem peek_s (g k : Nat) (e : Int) (v : Value) (s : ByteArray) (w : World) (h : Sk Ts w g v k e) (ht : Txs w g v s) (hk : k ≤ s.size) (hs : s.size ≤ 100000) :
    Calls Tryz.prog 62 #[.pointer (some ⟨g, 0, none⟩)] w fun x w' => x = .returned (.tuple #[.int .u8 (pkB (rs s.data.toList k e)), .bool (pkT (rs s.data.toList k e))]) ∧ ∃ n, w' = w.drewN n := by
  have HL := Lib.hid (left_s g k e v s w h ht hk hs)
  have c0 := h.c0
  have c1 := h.c1
  by_cases hn : rs s.data.toList k e = []
  · rw [hn] at HL ⊢
    clear hn h ht
    go_enter Tryz.func62, Tryz.ntmps62
    go_wp2_with (go_at_call 64; refine HL.out.mono ?_; rintro x w' ⟨rfl, n, rfl⟩)
    go_ret2
    exact ⟨rfl, _, rfl⟩
  · obtain ⟨rfl, hlt⟩ := rs_at hn
    have hlt' : k < s.size := by simpa using hlt
    have hpos : (0 < (rs s.data.toList k 0).length) := List.length_pos_iff.2 hn
    have hc := rs_cons hlt
    have H1 : RowKit.Hid (pkB (rs s.data.toList k 0) = (s[k].toNat : Int)) := by rw [hc]; exact rfl
    have H2 : RowKit.Hid (pkT (rs s.data.toList k 0) = true) := by rw [hc]; exact rfl
    obtain ⟨m, hm⟩ : ∃ m, m = (rs s.data.toList k 0).length := ⟨_, rfl⟩
    rw [← hm] at HL hpos
    generalize pkB (rs s.data.toList k 0) = x at *
    generalize pkT (rs s.data.toList k 0) = y at *
    have hm0 : ((m : Int) == 0) = false := by simp; omega
    obtain rfl := ht
    
    clear hn hc hm hpos h hlt 
    go_enter Tryz.func62, Tryz.ntmps62
    go_wp2_with (go_at_call 64; refine HL.out.mono ?_; rintro x w' ⟨rfl, n, rfl⟩)
    go_quiet (fail)
    go_wp2
    go_ret2
    exact ⟨ret2_eq (int_eq H1.out.symm) (bool_eq H2.out.symm), _, World.drewN_drewN _ _ _⟩

set_option maxHeartbeats 800000 in
theorem take_s (g k : Nat) (e : Int) (v : Value) (s : ByteArray) (b : UInt8) (w : World) (h : Sk Ts w g v k e) (ht : Txs w g v s) (hk : k ≤ s.size) (hs : s.size ≤ 100000) (hyes : (rs s.data.toList k e).head? = some b) :
    Calls Tryz.prog 42 #[.pointer (some ⟨g, 0, none⟩), .int .u8 (b.toNat : Int)] w fun x w' => x = .returned (.bool true) ∧ Mv Ts g v (k + 1) e w w' := by
  have HP := peek_s g k e v s w h ht hk hs
  have c1 := h.c1
  have f1 := h.free 1
  have hne : rs s.data.toList k e ≠ [] := by intro h0; rw [h0] at hyes; cases hyes
  obtain ⟨_, hlt⟩ := rs_at hne
  have hlt' : k < s.size := by simpa using hlt
  obtain ⟨r, hr⟩ : ∃ r, rs s.data.toList k e = b :: r := by
    cases hq : rs s.data.toList k e with
    | nil => exact absurd hq hne
    | cons a r => rw [hq] at hyes; simp at hyes; subst hyes; exact ⟨r, rfl⟩
  rw [hr] at HP
  have HP' := Lib.hid (show Calls Tryz.prog 62 #[.pointer (some ⟨g, 0, none⟩)] w fun x w' => x = .returned (.tuple #[.int .u8 (b.toNat : Int), .bool true]) ∧ ∃ n, w' = w.drewN n from HP)
  have HS := Lib.hid h
  clear HP hne hr hyes h ht hlt
  go_enter Tryz.func42, Tryz.ntmps42
  go_wp2_with (go_at_call 62; refine HP'.out.mono ?_; rintro x w' ⟨rfl, n, rfl⟩)
  go_ret
  exact ⟨rfl, (HS.out.drewN n).set1 (k + 1) (by omega), gb_set (gb_draw (gb_refl _ _) n) 1 _⟩
theorem taken_s (g k : Nat) (e : Int) (v : Value) (s : ByteArray) (b : UInt8) (w : World) (h : Sk Ts w g v k e) (ht : Txs w g v s) (hk : k ≤ s.size) (hs : s.size ≤ 100000) (hno : (rs s.data.toList k e).head? ≠ some b) :
    Calls Tryz.prog 42 #[.pointer (some ⟨g, 0, none⟩), .int .u8 (b.toNat : Int)] w fun x w' => x = .returned (.bool false) ∧ Mv Ts g v k e w w' := by
  have HP := peek_s g k e v s w h ht hk hs
  have HS := Lib.hid h
  cases hq : rs s.data.toList k e with
  | nil =>
    rw [hq] at HP
    have HP' := Lib.hid (show Calls Tryz.prog 62 #[.pointer (some ⟨g, 0, none⟩)] w fun x w' => x = .returned (.tuple #[.int .u8 0, .bool false]) ∧ ∃ n, w' = w.drewN n from HP)
    clear HP hq hno h ht hk
    go_enter Tryz.func42, Tryz.ntmps42
    go_wp2_with (go_at_call 62; refine HP'.out.mono ?_; rintro x w' ⟨rfl, n, rfl⟩)
    go_ret
    exact ⟨rfl, Mv.refl HS.out n⟩
  | cons a r =>
    rw [hq] at HP hno
    have hab : ((a.toNat : Int) != (b.toNat : Int)) = true := by
      rw [bne_iff_ne]
      intro h1
      apply hno
      have : a = b := UInt8.toNat_inj.1 (by omega)
      rw [this]; rfl
    have HP' := Lib.hid (show Calls Tryz.prog 62 #[.pointer (some ⟨g, 0, none⟩)] w fun x w' => x = .returned (.tuple #[.int .u8 (a.toNat : Int), .bool true]) ∧ ∃ n, w' = w.drewN n from HP)
    clear HP hq hno h ht hk
    go_enter Tryz.func42, Tryz.ntmps42
    go_wp2_with (go_at_call 62; refine HP'.out.mono ?_; rintro x w' ⟨rfl, n, rfl⟩)
    go_ret
    exact ⟨rfl, Mv.refl HS.out n⟩

theorem takes_s (g k : Nat) (e : Int) (v : Value) (s : ByteArray) (b : UInt8) (w : World) (h : Sk Ts w g v k e) (ht : Txs w g v s) (hk : k ≤ s.size) (hs : s.size ≤ 100000) :
    Calls Tryz.prog 42 #[.pointer (some ⟨g, 0, none⟩), .int .u8 (b.toNat : Int)] w fun x w' =>
      x = .returned (.bool ((rs s.data.toList k e).head? == some b)) ∧ Mv Ts g v (if (rs s.data.toList k e).head? = some b then k + 1 else k) e w w' := by
  by_cases hy : (rs s.data.toList k e).head? = some b
  · rw [if_pos hy, hy, show (some b == some b) = true by simp]
    exact take_s g k e v s b w h ht hk hs hy
  · rw [if_neg hy, show ((rs s.data.toList k e).head? == some b) = false by simpa using hy]
    exact taken_s g k e v s b w h ht hk hs hy
/-- End's error: none or one. -/
theorem end_s (g k : Nat) (e : Int) (v : Value) (s : ByteArray) (w : World) (h : Sk Ts w g v k e) (ht : Txs w g v s) (hk : k ≤ s.size) (hs : s.size ≤ 100000) :
    Calls Tryz.prog 69 #[.pointer (some ⟨g, 0, none⟩)] w fun x w' => x = .returned (ev (enE s.data.toList k e)) ∧ ∃ n, w' = w.drewN n := by
  have HL := Lib.hid (left_s g k e v s w h ht hk hs)
  have HE := Lib.hid (err_s g k e v w h)
  have hl := rs_len s.data.toList k e
  rw [show s.data.toList.length = s.size by simp] at hl
  have q0 := fun op t x k => guard_ev op t w x k
  have q2 := fun k => neq_ev w k
  by_cases h0 : e = 0
  · subst h0
    rw [if_pos rfl] at hl
    by_cases hlt : k < s.size
    · have e1 : enE s.data.toList k 0 = 2 := by unfold enE; rw [if_pos ⟨rfl, by simpa using hlt⟩]
      rw [e1]
      obtain ⟨m, hm⟩ : ∃ m, m = (rs s.data.toList k 0).length := ⟨_, rfl⟩
      rw [← hm] at HL hl
      have hm0 : ((m : Int) > 0) := by omega
      clear hl hm h ht hk e1
      go_enter Tryz.func69, Tryz.ntmps69
      go_wp2_with (first
        | (go_at_call 97; refine HE.out.mono ?_; rintro x w' ⟨rfl, rfl⟩)
        | (go_at_call 64; refine HL.out.mono ?_; rintro x w' ⟨rfl, n, rfl⟩))
      go_ret
      exact ⟨rfl, _, rfl⟩
    · have e1 : enE s.data.toList k 0 = 0 := by unfold enE; rw [if_neg (by simp; omega)]
      rw [e1]
      obtain ⟨m, hm⟩ : ∃ m, m = (rs s.data.toList k 0).length := ⟨_, rfl⟩
      rw [← hm] at HL hl
      have hm0 : ¬ ((m : Int) > 0) := by omega
      clear hl hm h ht hk e1 hlt
      go_enter Tryz.func69, Tryz.ntmps69
      go_wp2_with (first
        | (go_at_call 97; refine HE.out.mono ?_; rintro x w' ⟨rfl, rfl⟩)
        | (go_at_call 64; refine HL.out.mono ?_; rintro x w' ⟨rfl, n, rfl⟩))
      go_ret
      exact ⟨rfl, _, rfl⟩
  · have e1 : enE s.data.toList k e = e := by unfold enE; rw [if_neg (fun h => h0 h.1)]
    rw [e1]
    have hz : (e != 0) = true := bne_iff_ne.mpr h0
    clear hl h ht hk e1 h0 HL
    go_enter Tryz.func69, Tryz.ntmps69
    go_wp2_with (go_at_call 97; refine HE.out.mono ?_; rintro x w' ⟨rfl, rfl⟩)
    go_ret
    exact ⟨rfl, 0, rfl⟩
end Go.Proofs.YtdonicaiimeleaaGreatDoor
