/- Merged: ListAI, ListAJ. -/
import Derived.Test.YtiamggjebaabkaaGreatDoorGListRemarks44
import Derived.Test.YtiamggjebaabkaaGreatDoorGListRemarks45
namespace Go.Proofs.YtiamggjebaabkaaGreatDoor
open Go.RowKit Go.WideShapes Go.ChangeShapes
set_option linter.unusedVariables false
set_option linter.unusedSimpArgs false

/-- What read hands on: the four cells of a list, a number, an error. -/
def ReA (R : Option Addr → Option Addr → Option Addr → Nat → Nat → Option Addr → Int → Value → World → Prop) (w : World) (x : Ending) (w' : World) : Prop :=
  ∃ pu pe A m c pd n er, x = .returned (.tuple #[.agg #[.pointer pu, .pointer pe, .slice A m c, .pointer pd], .int .i64 n, er]) ∧ R pu pe A m c pd n er w' ∧ Below w.heap.size w w'
set_option maxRecDepth 100000 in
set_option maxHeartbeats 2000000 in
theorem parse_err (t : ByteArray) (k : Int) (hk : k ≠ 0) (w : World) (h : Calls Tryz.prog 29 #[.string t] w (ReA (fun _ _ _ _ _ _ _ er _ => er = ev k) w)) :
    Calls Tryz.prog 8 #[.string t] w fun x w' => x = .returned (.tuple #[.pointer none, ev k]) ∧ Below w.heap.size w w' := by
  have H := Lib.hid h
  have q0 := fun op t W x => guard_ev op t W x k
  have q2 := fun W => neq_ev W k
  have hkb : (k != 0) = true := bne_iff_ne.mpr hk
  clear h
  go_enter Tryz.func8, Tryz.ntmps8
  go_wp2_with (go_at_call 29; refine H.out.mono ?_; rintro x w1 ⟨pu, pe, A, m, c, pd, n, er, rfl, rfl, hb⟩; have B1 := Lib.hid hb; clear hb)
  go_ret2
  exact ⟨rfl, B1.out.alloc B1.out.size _⟩
set_option maxRecDepth 100000 in
set_option maxHeartbeats 2000000 in
theorem parse_ok {R : Option Addr → Option Addr → Option Addr → Nat → Nat → Option Addr → World → Prop} {S : Value → Value → World → Prop} (t : ByteArray) (w : World) (h : Calls Tryz.prog 29 #[.string t] w (ReA (fun pu pe A m c pd _ er w' => er = .nilIface ∧ R pu pe A m c pd w') w))
    (hs : ∀ pu pe A m c pd W W', R pu pe A m c pd W → Below W.heap.size W W' → R pu pe A m c pd W')
    (ht : ∀ pu pe A m c pd W, R pu pe A m c pd W → Below w.heap.size w W → Calls Tryz.prog 30 #[.agg #[.pointer pu, .pointer pe, .slice A m c, .pointer pd]] W fun x w' => (∃ v er, x = .returned (.tuple #[v, er]) ∧ S v er w') ∧ Below W.heap.size W w') :
    Calls Tryz.prog 8 #[.string t] w fun x w' => (∃ v er, x = .returned (.tuple #[v, er]) ∧ S v er w') ∧ Below w.heap.size w w' := by
  have H := Lib.hid h; have HS := Lib.hid hs; have HT := Lib.hid ht
  clear h hs ht
  go_enter Tryz.func8, Tryz.ntmps8
  go_upto_region 2 with (go_at_call 29; refine H.out.mono ?_; rintro x w1 ⟨pu, pe, A, m, c, pd, n, er, rfl, ⟨rfl, hR⟩, hb⟩; have B1 := Lib.hid hb; have HR := Lib.hid hR; clear hR hb)
  have hw2 : Below w1.heap.size w1 (w1.alloc (.cells #[.pointer pu, .pointer pe, .slice A m c, .pointer pd] 76)) := (Below.refl _ w1).alloc (Nat.le_refl _) _
  have h2 := heap_alloc_new w1 (.cells #[.pointer pu, .pointer pe, .slice A m c, .pointer pd] 76)
  obtain ⟨W2, hW2⟩ : ∃ W2, W2 = w1.alloc (.cells #[.pointer pu, .pointer pe, .slice A m c, .pointer pd] 76) := ⟨_, rfl⟩
  rw [← hW2] at hw2 h2 ⊢
  have c0 : W2.cell? ⟨w1.heap.size, 0, none⟩ = some (.pointer pu) := bk_cell h2 0
  have c1 : W2.cell? ⟨w1.heap.size, 1, none⟩ = some (.pointer pe) := bk_cell h2 1
  have c2 : W2.cell? ⟨w1.heap.size, 2, none⟩ = some (.slice A m c) := bk_cell h2 2
  have c3 : W2.cell? ⟨w1.heap.size, 3, none⟩ = some (.pointer pd) := bk_cell h2 3
  have R2 := Lib.hid (HS.out _ _ _ _ _ _ _ _ HR.out hw2)
  have B2 := Lib.hid (B1.out.trans (hw2.mono B1.out.size))
  clear hW2 hw2 h2
  go_wp2_with (go_at_call 30; refine (HT.out _ _ _ _ _ _ _ R2.out B2.out).mono ?_; rintro x w3 ⟨⟨v, er, rfl, hS⟩, hb⟩; have S3 := Lib.hid hS; have B3 := Lib.hid (B2.out.trans (hb.mono B2.out.size)); clear hS hb)
  go_ret2
  exact ⟨⟨_, _, rfl, S3.out⟩, B3.out⟩

end Go.Proofs.YtiamggjebaabkaaGreatDoor

namespace Go.Proofs.YtiamggjebaabkaaGreatDoor
open Go.RowKit Go.WideShapes Go.ChangeShapes
set_option linter.unusedVariables false
set_option linter.unusedSimpArgs false

/-- What table answers of what has been read. -/
def TaA (r : Rd11) (v er : Value) (w' : World) : Prop :=
  ((r.m = 0 ∨ r.h = 0) ∧ v = .pointer none ∧ er = ev 2) ∨
  (0 < r.m ∧ 0 < r.h ∧ lkE r.L r.u r.e ≠ 0 ∧ v = .pointer none ∧ er = ev (lkE r.L r.u r.e)) ∨
  (0 < r.m ∧ 0 < r.h ∧ lkE r.L r.u r.e = 0 ∧ (∃ S, X5 r S ∧ 0 < r.s ∧ byt S ≠ byt (dig (dgT r.L r.u r.e))) ∧ v = .pointer none ∧ er = ev 7) ∨
  (0 < r.m ∧ 0 < r.h ∧ lkE r.L r.u r.e = 0 ∧ (r.s = 0 ∨ ∃ S, X5 r S ∧ 0 < r.s ∧ byt S = byt (dig (dgT r.L r.u r.e))) ∧ ∃ g, v = .pointer (some ⟨g, 0, none⟩) ∧ er = ev 0 ∧ Tb 0 w' g r.L r.u r.e)
theorem table_lv {r : Rd11} {cs : Array Value} {W : World} (h : Lv W r cs) (he : Ends W) (ht : Tab W) (hp : Eps W) (hs : Start W) (hn : r.L.length ≤ 100000) :
    Calls Tryz.prog 30 #[.agg cs] W fun x w' => (∃ v er, x = .returned (.tuple #[v, er]) ∧ TaA r v er w') ∧ Below W.heap.size W w' := by
  obtain ⟨pu, pe, pd, A, c, S, rfl, h1, h2, ⟨h3, h4, h5, h6⟩, h7, h8⟩ := h
  rcases h1 with ⟨m0, rfl⟩ | ⟨m0, a, rfl, -, ha⟩
  · exact (table_no none pe pd A _ c W (.inl rfl)).mono fun x w' ⟨k1, k2⟩ => ⟨⟨_, _, k1, .inl ⟨.inl m0, rfl, rfl⟩⟩, k2⟩
  rcases h2 with ⟨e0, rfl⟩ | ⟨e0, b, rfl, -, hb⟩
  · exact (table_no _ none pd A _ c W (.inr rfl)).mono fun x w' ⟨k1, k2⟩ => ⟨⟨_, _, k1, .inl ⟨.inr e0, rfl, rfl⟩⟩, k2⟩
  by_cases hk : lkE r.L r.u r.e = 0
  · rcases h7 with ⟨s0, rfl⟩ | ⟨s0, d, rfl, -, hd⟩
    · exact (table_right a b A c r.L r.u r.e W ha hb h3 h4 h5 h6 he ht hp hs hk).mono fun x w' ⟨g, k1, k2, k3⟩ => ⟨⟨_, _, k1, .inr (.inr (.inr ⟨m0, e0, hk, .inl s0, g, rfl, rfl, k2.le (Nat.zero_le _)⟩))⟩, k3⟩
    · refine (table_sum a b d (byt S) (byt_len _) A c r.L r.u r.e W ha hb hd h3 h4 h5 h6 he ht hp hs hk).mono fun x w' ⟨k1, k3⟩ => ?_
      rcases k1 with ⟨k1, g, k2, k4⟩ | ⟨k1, k2⟩
      · exact ⟨⟨_, _, k2, .inr (.inr (.inr ⟨m0, e0, hk, .inr ⟨S, h8, s0, k1⟩, g, rfl, rfl, k4.le (Nat.zero_le _)⟩))⟩, k3⟩
      · exact ⟨⟨_, _, k2, .inr (.inr (.inl ⟨m0, e0, hk, ⟨S, h8, s0, k1⟩, rfl, rfl⟩))⟩, k3⟩
  · exact (table_wrong a b pd A c r.L r.u r.e W ha hb h3 h5 h6 he hn hk).mono fun x w' ⟨k1, k2⟩ => ⟨⟨_, _, k1, .inr (.inl ⟨m0, e0, hk, rfl, rfl⟩)⟩, k2⟩

theorem parse11_bad (t : ByteArray) (w : World) (he : Eps w) (hg : GE w) (ht : t.size ≤ 65535) (K : Nat) (hK : K < (spR 10 t.data.toList).length) (h1 : alG (spR 10 t.data.toList) K) (h2 : on11 (alR (spR 10 t.data.toList) K) ((spR 10 t.data.toList).getD K []) ≠ 0) :
    Calls Tryz.prog 8 #[.string t] w fun x w' => x = .returned (.tuple #[.pointer none, ev (on11 (alR (spR 10 t.data.toList) K) ((spR 10 t.data.toList).getD K []))]) ∧ Below w.heap.size w w' := by
  have hr := lread_any t w he hg ht
  generalize spR 10 t.data.toList = ls at *
  refine parse_err t _ h2 w (hr.mono fun x w' hx => ?_)
  rcases hx with ⟨⟨cs, k1, k2, k3⟩ | ⟨J, k1, k2, k3, k4⟩, hb⟩
  · exact absurd (k2 K hK) h2
  · have e : J = K := by
      rcases Nat.lt_trichotomy J K with c | c | c
      · exact absurd (h1 J c) k3
      · exact c
      · exact absurd (k2 K c) h2
    subst e
    exact ⟨_, _, _, _, _, _, _, _, k4, rfl, hb⟩
theorem parse11_good (t : ByteArray) (w : World) (he : Eps w) (hg : GE w) (ht : t.size ≤ 65535) (hd : Ends w) (hb : Tab w) (hs : Start w) (h1 : alG (spR 10 t.data.toList) (spR 10 t.data.toList).length) :
    Calls Tryz.prog 8 #[.string t] w fun x w' => (∃ v er, x = .returned (.tuple #[v, er]) ∧ TaA (alR (spR 10 t.data.toList) (spR 10 t.data.toList).length) v er w') ∧ Below w.heap.size w w' := by
  have hr := lread_any t w he hg ht
  have hn := (spR_len 10 t.data.toList).1
  have hz : t.data.toList.length = t.size := by rw [Array.length_toList]; rfl
  generalize spR 10 t.data.toList = ls at *
  have hL : (alR ls ls.length).L.length ≤ 100000 := by have := (al_bd ls ls.length).1; omega
  refine parse_ok (R := fun pu pe A m c pd W => Lv W (alR ls ls.length) #[.pointer pu, .pointer pe, .slice A m c, .pointer pd]) t w (hr.mono fun x w' hx => ?_) (fun pu pe A m c pd W W' h hb => h.below hb)
    (fun pu pe A m c pd W h hbw => table_lv h (hd.below hbw) (hb.below hbw) (he.below hbw) (hs.below hbw) hL)
  rcases hx with ⟨⟨cs, k1, k2, k3⟩ | ⟨J, k1, k2, k3, k4⟩, hb'⟩
  · have k3' := k3
    obtain ⟨pu, pe, pd, A, c, S, rfl, -⟩ := k3'
    exact ⟨_, _, _, _, _, _, _, _, k1, ⟨rfl, k3⟩, hb'⟩
  · exact absurd (h1 J k1) k3
theorem parse11_long (t : ByteArray) (w : World) (ht : ¬ t.size ≤ 65535) :
    Calls Tryz.prog 8 #[.string t] w fun x w' => x = .returned (.tuple #[.pointer none, ev 3]) ∧ Below w.heap.size w w' :=
  parse_err t 3 (by decide) w ((read_long t w ht).mono fun x w' ⟨k1, k2⟩ => ⟨_, _, _, _, _, _, _, _, k1, rfl, k2⟩)
end Go.Proofs.YtiamggjebaabkaaGreatDoor
