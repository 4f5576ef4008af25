/- The program's digests: padded, blocks (the function). -/
import Derived.Test.YtijopeacgpmicaaDoorShaP
import Derived.Test.YtijopeacgpmicaaDoorShaO
namespace Go.Proofs.YtijopeacgpmicaaDoor
open Go.RowKit Go.WideShapes Go.ChangeShapes
set_option linter.unusedVariables false

/-- A part as a value. -/
def tv (p : Pt) : Value := .slice p.1 p.2.1.length p.2.2
theorem cat_take (ps : List Pt) {j : Nat} {A : Option Addr} {l : List UInt8} {c : Nat} (h : ps[j]? = some (A, l, c)) : (cat (ps.take (j + 1))).length = (cat (ps.take j)).length + l.length := by
  rw [List.take_add_one, h]
  unfold cat
  rw [List.flatMap_append, List.length_append]
  simp
theorem cat_take_le (ps : List Pt) (j : Nat) : (cat (ps.take j)).length ≤ (cat ps).length := by
  have h : cat ps = cat (ps.take j) ++ cat (ps.drop j) := by
    unfold cat
    rw [← List.flatMap_append, List.take_append_drop]
  rw [h, List.length_append]; omega
/-- The padding as a part. -/
def padP (g N : Nat) : Pt := (some ⟨g, 0, none⟩, padT N, (padT N).length)

theorem Ps.rv {own : Nat → Prop} {w : World} {Ap : Option Addr} {ps : List Pt} (h : Ps own w Ap ps) : Rv w Ap (ps.map tv) := by
  cases ps with
  | nil => exact .inl rfl
  | cons p0 ps =>
    obtain ⟨⟨b, off, h1, -, h3⟩, -⟩ := h 0 p0.1 p0.2.1 p0.2.2 rfl
    refine .inr ⟨b, off, h1, World.block_lt_of_cell? _ _ h3, fun j v hj => ?_⟩
    rw [List.getElem?_map] at hj
    cases e : (p0 :: ps)[j]? with
    | none => rw [e] at hj; cases hj
    | some p =>
      rw [e] at hj
      obtain rfl : tv p = v := by simpa using hj
      obtain ⟨⟨b', off', h1', -, h3'⟩, -⟩ := h j p.1 p.2.1 p.2.2 e
      rw [h1] at h1'
      injection h1' with h1'
      injection h1' with e1 e2
      subst e1; subst e2
      exact h3'
theorem Ps.none_ {own : Nat → Prop} {w : World} {Ap : Option Addr} {ps : List Pt} (h : Ps own w Ap ps) (hn : Ap = none) : ps.map tv = [] := by
  cases ps with
  | nil => rfl
  | cons p0 ps =>
    obtain ⟨⟨b, off, h1, -, -⟩, -⟩ := h 0 p0.1 p0.2.1 p0.2.2 rfl
    rw [hn] at h1; cases h1
theorem Ov.open_ {w : World} {base : Nat} {v : Value} {vs : List Value} (h : Ov w base v vs) (h0 : 0 < vs.length) : ∃ b c, v = .slice (some ⟨b, 0, none⟩) vs.length c ∧ base ≤ b ∧ ∀ i u, vs[i]? = some u → w.cell? ⟨b, i, none⟩ = some u := by
  rcases h.2 with ⟨hv, hn⟩ | ⟨g, cap, cur, hv, hb, hh, hc, hm, _, _⟩
  · omega
  · refine ⟨g, cap, hv, hb, fun i u hu => ?_⟩
    have := World.ownsRow.cells h (g := g) (by rw [hv]; rfl) i u hu
    rw [add_plain, Nat.zero_add] at this
    exact this

set_option maxRecDepth 100000 in
set_option maxHeartbeats 2000000 in
theorem padded_any (own : Nat → Prop) (Ap : Option Addr) (cp : Nat) (ps : List Pt) (w : World) (hps : Ps own w Ap ps) (hn : Ap = none → cp = 0) (hpl : ps.length ≤ 100) (hT : (cat ps).length ≤ 10000) (how : ∀ j, own j → j < w.heap.size) :
    Calls Tryd.prog 29 #[.slice Ap ps.length cp] w fun e w' => ∃ A' c' g, e = .returned (.slice A' (ps.length + 1) c') ∧ Ps own w' A' (ps ++ [padP g (cat ps).length]) ∧ Below w.heap.size w w' := by
  obtain ⟨n, hnn⟩ : ∃ n, n = ps.length := ⟨_, rfl⟩
  rw [← hnn] at hpl ⊢
  have HNN := Lib.hid hnn
  have HPS := Lib.hid hps; have HNA := Lib.hid hn; have HOW := Lib.hid how; have HT := Lib.hid hT; have HPL := Lib.hid hpl
  clear hps hn how hT hnn
  go_enter Tryd.func29, Tryd.ntmps29
  go_wp2
  go_loopw [3, 8] (fun s i wr => ∃ j z : Nat, s = .int .i64 z ∧ i = .int .i64 j ∧ j ≤ n ∧ Hid (z = (cat (ps.take j)).length) ∧ w = wr) (fun _ i _ => n - (intOf i).toNat)
  case atStart => exact ⟨0, 0, rfl, rfl, Nat.zero_le _, Lib.hid rfl, rfl⟩
  case round =>
    obtain ⟨j, z, rfl, rfl, hj, HZ, rfl⟩ := hrel
    by_cases hlt : j < n
    · obtain ⟨⟨A, l, c⟩, hp⟩ : ∃ p, ps[j]? = some p := ⟨_, List.getElem?_eq_getElem (by rw [← HNN.out]; exact hlt)⟩
      obtain ⟨⟨b, off, rfl, hb2, hc3⟩, -, -, -, -⟩ := HPS.out j A l c hp
      have hz : z + l.length ≤ 10000 := by
        have h1 := cat_take ps hp
        have h2 := cat_take_le ps (j + 1)
        have := HZ.out
        have := HT.out
        omega
      have HZ1 := Lib.hid (show z + l.length = (cat (ps.take (j + 1))).length by rw [cat_take ps hp, HZ.out])
      clear hp hb2
      go_wp2
      exact ⟨⟨j + 1, z + l.length, by go_num, by go_num, by omega, HZ1, trivial⟩, by simp [intOf]; omega⟩
    · obtain rfl : j = n := by omega
      obtain ⟨N, hN⟩ : ∃ N, N = (cat ps).length := ⟨_, rfl⟩
      obtain rfl : z = N := by rw [hN, HZ.out, HNN.out, List.take_length]
      have hN2 : z ≤ 10000 := by rw [hN]; exact HT.out
      have HPD := Lib.hid (padding_any z w (by omega))
      have HNZ := Lib.hid hN
      have HM := Lib.hid (padT_len z)
      clear hlt hj HZ hN
      obtain ⟨M, hM⟩ : ∃ M, M = (padT z).length := ⟨_, rfl⟩
      rw [← hM] at HPD HM
      have HMM := Lib.hid hM
      clear hM
      go_wp2_with (go_at_call 37; refine HPD.out.mono ?_; rintro e w1 ⟨g, hg, rfl, hk, hb⟩; have HG := Lib.hid hg; have K1 := Lib.hid hk; have B1 := Lib.hid hb; clear hg hk hb)
      obtain ⟨W2, hW2⟩ : ∃ W2, W2 = (w1.alloc (.cells #[.slice (some ⟨g, 0, none⟩) M M] 22)).alloc (.cells #[.slice Ap j cp, .slice (some ⟨w1.heap.size, 0, none⟩) 1 1] 44) := ⟨_, rfl⟩
      have b2 : Below w1.heap.size w1 W2 := by rw [hW2]; exact ((Below.refl _ w1).alloc (Nat.le_refl _) _).alloc (by simp) _
      have hh : W2.heap[w1.heap.size + 1]? = some (.cells #[.slice Ap j cp, .slice (some ⟨w1.heap.size, 0, none⟩) 1 1] 44 (0, 0)) := by
        rw [hW2]
        have := heap_alloc_new (w1.alloc (.cells #[.slice (some ⟨g, 0, none⟩) M M] 22)) (.cells #[.slice Ap j cp, .slice (some ⟨w1.heap.size, 0, none⟩) 1 1] 44)
        rw [World.size_alloc] at this
        exact this
      have r2 : Rv W2 (some ⟨w1.heap.size, 0, none⟩) [.slice (some ⟨g, 0, none⟩) M M] := by
        have h1 : Rv (w1.alloc (.cells #[.slice (some ⟨g, 0, none⟩) M M] 22)) (some ⟨w1.heap.size, 0, none⟩) [.slice (some ⟨g, 0, none⟩) M M] := .inr ⟨w1.heap.size, 0, rfl, by simp, fun i v hi => by
          cases i with
          | zero =>
            obtain rfl : Value.slice (some ⟨g, 0, none⟩) M M = v := by simpa using hi
            exact bk_cell (heap_alloc_new w1 _) 0
          | succ i => simp at hi⟩
        rw [hW2]
        exact h1.below ((Below.refl _ _).alloc (Nat.le_refl _) _)
      have r1 : Rv W2 Ap (ps.map tv) := (HPS.out.rv.below B1.out).below b2
      have hl : (ps.map tv).length = j := by rw [List.length_map, HNN.out]
      have hcc := concat_any (w1.heap.size + 1) Ap (some ⟨w1.heap.size, 0, none⟩) cp 1 (ps.map tv) [.slice (some ⟨g, 0, none⟩) M M] W2 (by rw [hl]; exact bk_cell hh 0) (bk_cell hh 1) r1 r2 HNA.out (fun h => by cases h) HPS.out.none_ (fun h => by cases h)
        (fun u hu => by obtain ⟨p, _, rfl⟩ := List.mem_map.mp hu; rfl) (fun u hu => by rw [List.mem_singleton.mp hu]; rfl) (by rw [hl]; have := HPL.out; omega) rfl
      rw [← hW2]
      refine hcc.mono ?_
      rintro e w3 ⟨v', rfl, hov, hb3⟩
      obtain ⟨b, c', rfl, hbase, hcell⟩ := hov.open_ (by simp)
      have hl2 : (ps.map tv ++ [Value.slice (some ⟨g, 0, none⟩) M M]).length = j + 1 := by rw [List.length_append, hl]; rfl
      rw [hl2]
      have b3 : Below w.heap.size w w3 := B1.out.trans ((b2.trans (hb3.mono b2.size)).mono B1.out.size)
      have hno : ∀ a, w.heap.size ≤ a → ¬ own a := fun a ha ho => by have := HOW.out a ho; omega
      have hfin : Ps own w3 (some ⟨b, 0, none⟩) (ps ++ [padP g (cat ps).length]) := fun i A l c hi => by
        have hlt : i < j + 1 := by
          have := (List.getElem?_eq_some_iff.1 hi).1
          rw [List.length_append, ← HNN.out] at this; exact this
        have hwb : w.heap.size ≤ b := Nat.le_trans (Nat.le_trans B1.out.size b2.size) hbase
        refine ⟨⟨b, 0, rfl, hno _ hwb, ?_⟩, ?_⟩
        · rw [Nat.zero_add]
          apply hcell
          by_cases e : i < j
          · rw [List.getElem?_append_left (by rw [hl]; exact e), List.getElem?_map]
            rw [List.getElem?_append_left (by rw [← HNN.out]; exact e)] at hi
            rw [hi]; rfl
          · obtain rfl : i = j := by omega
            rw [List.getElem?_append_right (by rw [hl]; exact Nat.le_refl _), hl, Nat.sub_self]
            rw [List.getElem?_append_right (by rw [← HNN.out]; exact Nat.le_refl _), ← HNN.out, Nat.sub_self] at hi
            have hi : padP g (cat ps).length = (A, l, c) := by simpa using hi
            unfold padP at hi
            rw [← HNZ.out, ← HMM.out] at hi
            injection hi with e1 hi
            injection hi with e2 e3
            subst e1; subst e2; subst e3
            rw [← HMM.out]; rfl
        · by_cases e : i < j
          · rw [List.getElem?_append_left (by rw [← HNN.out]; exact e)] at hi
            obtain ⟨-, h4, h5, h6, h7⟩ := HPS.out i A l c hi
            exact ⟨h4.below b3, h5, h6, h7⟩
          · obtain rfl : i = j := by omega
            rw [List.getElem?_append_right (by rw [← HNN.out]; exact Nat.le_refl _), ← HNN.out, Nat.sub_self] at hi
            have hi : padP g (cat ps).length = (A, l, c) := by simpa using hi
            unfold padP at hi
            rw [← HNZ.out] at hi
            injection hi with e1 hi
            injection hi with e2 e3
            subst e1; subst e2; subst e3
            refine ⟨Bk.whole ((K1.out.below b2 K1.out.lt).below hb3 (Nat.lt_of_lt_of_le K1.out.lt b2.size)), (fun h => by cases h), Nat.le_refl _, .inr fun a ha => ?_⟩
            injection ha with ha
            rw [← ha]
            exact hno _ HG.out
      have HF := Lib.hid hfin; have B3 := Lib.hid b3
      clear hfin b3 hno hl2 hcell hbase hb3 hcc hl r1 r2 hh b2 hov
      go_wp2_with fail
      go_ret
      exact ⟨_, _, g, rfl, HF.out, B3.out⟩

end Go.Proofs.YtijopeacgpmicaaDoor
