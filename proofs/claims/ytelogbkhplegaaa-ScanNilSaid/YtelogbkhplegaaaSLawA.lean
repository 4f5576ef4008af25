/- The statements of layer 4: the fixed fact; scripts, and which are long; arguments that are acts. -/
import Derived.Test.YtelogbkhplegaaaActA
import Derived.LoopTactic
import Derived.Deep.Slices
import Derived.Deep.Fields
import Derived.SliceStrings
import Derived.ChangeArms
import Derived.ChangeSame
namespace Go.Proofs.Ytelogbkhplegaaa
/-! ### the fixed fact -/
section
open Go.RowKit
set_option linter.unusedVariables false

/-- The chapter's example. -/
def exm : ByteArray := ⟨#[49, 50, 58, 48, 53]⟩
theorem ex1 : fgN (rs exm.data.toList 0 0) 0 1 2 = 12 ∧ fgK 0 (rs exm.data.toList 0 0) 0 1 2 = 2 ∧ fgE (rs exm.data.toList 0 0) 0 1 2 = 0 := by decide +kernel
theorem ex2 : (rs exm.data.toList 2 0).head? = some 58 := by decide +kernel
theorem ex3 : fgN (rs exm.data.toList 3 0) 0 2 2 = 5 ∧ fgK 3 (rs exm.data.toList 3 0) 0 2 2 = 5 ∧ fgE (rs exm.data.toList 3 0) 0 2 2 = 0 := by decide +kernel
theorem ex4 : enE exm.data.toList 5 0 = 0 := by decide +kernel
set_option maxHeartbeats 1600000 in
theorem salive (w : World) : Calls Try.prog 6 #[] w fun x w' => x = .returned (.bool true) ∧ Below w.heap.size w w' := by
  have hsz : exm.size = 5 := rfl
  have hxe : (⟨#[49, 50, 58, 48, 53]⟩ : ByteArray) = exm := rfl
  have h0 : Sk Ts (w.alloc (.cells #[.string exm, .int .i64 0, .nilIface] Ts)) w.heap.size (.string exm) 0 0 := heap_alloc_new w _
  have hb0 := (Below.refl w.heap.size w).alloc (Nat.le_refl _) (.cells #[.string exm, .int .i64 0, .nilIface] Ts)
  have HN := Lib.hid (new_s exm w)
  have H0 := Lib.hid h0; have B0 := Lib.hid hb0
  have q0 := fun W op t x k => guard_ev op t W x k
  have q1 := fun W k => eql_ev W k
  clear h0 hb0 hsz
  go_enter Try.func6, Try.ntmps6
  go_wp2_with fail
  refine HN.out.mono ?_
  rintro x w1 ⟨rfl, rfl⟩
  generalize World.alloc w _ = W1 at H0 B0 ⊢
  obtain ⟨g, hg⟩ : ∃ g, g = w.heap.size := ⟨_, rfl⟩
  rw [← hg] at H0 ⊢
  have HG : RowKit.Hid (w.heap.size ≤ g) := by rw [hg]; exact Nat.le_refl _
  clear hxe hg
  go_wp2_with fail
  refine (figures_s g 0 0 1 2 (.string exm) exm W1 H0.out rfl (by decide) (by decide) (by decide) (by decide)).mono ?_
  rw [ex1.1, ex1.2.1, ex1.2.2]
  rintro x W2 ⟨rfl, hm⟩
  have H2 := Lib.hid hm.1
  have B2 := Lib.hid (B0.out.trans ((gb_bel hm.2 HG.out B0.out.size).mono (Nat.le_refl _)))
  clear hm H0 B0
  go_wp2_with fail
  refine (take_s g 2 0 (.string exm) exm 58 W2 H2.out rfl (by decide) (by decide) ex2).mono ?_
  rintro x W3 ⟨rfl, hm⟩
  have H3 := Lib.hid hm.1
  have B3 := Lib.hid (B2.out.trans ((gb_bel hm.2 HG.out B2.out.size).mono (Nat.le_refl _)))
  clear hm H2 B2
  go_wp2_with fail
  refine (figures_s g 3 0 2 2 (.string exm) exm W3 H3.out rfl (by decide) (by decide) (by decide) (by decide)).mono ?_
  rw [ex3.1, ex3.2.1, ex3.2.2]
  rintro x W4 ⟨rfl, hm⟩
  have H4 := Lib.hid hm.1
  have B4 := Lib.hid (B3.out.trans ((gb_bel hm.2 HG.out B3.out.size).mono (Nat.le_refl _)))
  clear hm H3 B3
  go_wp2_with fail
  refine (end_s g 5 0 (.string exm) exm W4 H4.out rfl (by decide) (by decide)).mono ?_
  rw [ex4]
  rintro x W5 ⟨rfl, n, hw⟩
  have H5 : RowKit.Hid (Sk Ts W5 g (.string exm) 5 0) := by rw [hw]; exact H4.out
  have B5 := Lib.hid (B4.out.trans ((draws_below hw).mono B4.out.size))
  clear hw H4 B4
  go_wp2_with (go_at_call 14; refine (at_s g 5 0 _ W5 H5.out).mono ?_; rintro x w' ⟨rfl, rfl⟩)
  go_ret
  exact ⟨rfl, B5.out⟩
end
/-! ### scripts; which are long -/
section
open Go.RowKit
set_option linter.unusedVariables false

theorem ActD.Ok.below {a : ActD} {w w' : World} (h : a.Ok w) (hb : Below w.heap.size w w') : a.Ok w' := ⟨h.k, h.lo, h.hi, h.ls.below hb⟩
/-- The slice at A reads as the acts. -/
def Ra (w : World) (A : Option Addr) (ac : List ActD) : Prop :=
  (∀ a ∈ ac, a.Ok w) ∧ (ac = [] ∨ ∃ b off, A = some ⟨b, off, none⟩ ∧ b < w.heap.size ∧ ∀ j a, ac[j]? = some a → ∀ i v, a.cells[i]? = some v → w.cell? ⟨b, off + j * 6 + i, none⟩ = some v)
theorem Ra.below {w w' : World} {A : Option Addr} {ac : List ActD} (h : Ra w A ac) (hb : Below w.heap.size w w') : Ra w' A ac := by
  refine ⟨fun a ha => (h.1 a ha).below hb, ?_⟩
  rcases h.2 with h0 | ⟨b, off, h1, h2, h3⟩
  · exact .inl h0
  · exact .inr ⟨b, off, h1, Nat.lt_of_lt_of_le h2 hb.size, fun j a hj i v hv => (hb.cell (p := ⟨b, off + j * 6 + i, none⟩) h2).trans (h3 j a hj i v hv)⟩
theorem Ra.at_ {w : World} {A : Option Addr} {ac : List ActD} (h : Ra w A ac) {j : Nat} (hj : j < ac.length) : ∃ b off a, ac[j]? = some a ∧ A = some ⟨b, off, none⟩ ∧ b < w.heap.size ∧ a.Ok w ∧
    w.cell? ⟨b, off + j * 6, none⟩ = some (.int .i64 a.kind) ∧ w.cell? ⟨b, off + j * 6 + 1, none⟩ = some (.int .u8 (a.b.toNat : Int)) ∧ w.cell? ⟨b, off + j * 6 + 2, none⟩ = some (.string a.word) ∧
    w.cell? ⟨b, off + j * 6 + 3, none⟩ = some (.slice a.L a.list.length a.cl) ∧ w.cell? ⟨b, off + j * 6 + 4, none⟩ = some (.int .i64 a.least) ∧ w.cell? ⟨b, off + j * 6 + 5, none⟩ = some (.int .i64 a.most) := by
  rcases h.2 with h0 | ⟨b, off, h1, h2, h3⟩
  · rw [h0] at hj; simp at hj
  · have e : ac[j]? = some ac[j] := List.getElem?_eq_getElem hj
    exact ⟨b, off, ac[j], e, h1, h2, h.1 _ (List.getElem_mem hj), h3 j _ e 0 _ rfl, h3 j _ e 1 _ rfl, h3 j _ e 2 _ rfl, h3 j _ e 3 _ rfl, h3 j _ e 4 _ rfl, h3 j _ e 5 _ rfl⟩

/-- Is an act long? Are a text and its acts? -/
def lgZ (z : ByteArray) : Bool := decide (60 < z.size)
def lgA (a : ActD) : Bool := decide (60 < a.word.size) || (decide (12 < a.list.length) || a.list.any lgZ)
def lg (s : ByteArray) (ac : List ActD) : Bool := ac.any lgA || (decide (300 < s.size) || decide (60 < ac.length))
theorem lg_no {s : ByteArray} {ac : List ActD} (h : lg s ac = false) : s.size ≤ 300 ∧ ac.length ≤ 60 ∧ ∀ a ∈ ac, a.Small := by
  unfold lg at h
  simp only [Bool.or_eq_false_iff, decide_eq_false_iff_not, List.any_eq_false] at h
  refine ⟨by omega, by omega, fun a ha => ?_⟩
  have h1 : lgA a = false := by simpa using h.1 a ha
  unfold lgA at h1
  simp only [Bool.or_eq_false_iff, decide_eq_false_iff_not, List.any_eq_false] at h1
  refine ⟨by omega, by omega, fun z hz => ?_⟩
  have h2 := h1.2.2 z hz
  unfold lgZ at h2
  simp only [decide_eq_true_eq] at h2
  omega
theorem any_step {α : Type} {f : α → Bool} {l : List α} {j : Nat} {a : α} (h : l[j]? = some a) : (l.drop j).any f = (f a || (l.drop (j + 1)).any f) := by
  obtain ⟨h1, rfl⟩ := List.getElem?_eq_some_iff.1 h
  rw [List.drop_eq_getElem_cons h1, List.any_cons]
theorem any_end {α : Type} {f : α → Bool} {l : List α} {j : Nat} (h : l.length ≤ j) : (l.drop j).any f = false := by rw [List.drop_eq_nil_of_le h]; rfl

set_option maxHeartbeats 3200000 in
theorem long_any (s : ByteArray) (A : Option Addr) (ac : List ActD) (c : Nat) (w : World) (h : Ra w A ac) (hm : ac.length ≤ maxLen) (hs : s.size ≤ maxLen) (hz : ∀ a ∈ ac, a.word.size ≤ maxLen ∧ a.list.length ≤ maxLen ∧ ∀ z ∈ a.list, z.size ≤ maxLen) :
    Calls Try.prog 7 #[.string s, .slice A ac.length c] w fun x w' => x = .returned (.bool (lg s ac)) ∧ Below w.heap.size w w' := by
  unfold maxLen at hm hs hz
  have HR := Lib.hid h; have HZ := Lib.hid hz
  obtain ⟨t, ht⟩ : ∃ t, t = lg s ac := ⟨_, rfl⟩
  rw [← ht]
  have HT := Lib.hid ht
  obtain ⟨nn, hnn⟩ : ∃ nn, nn = ac.length := ⟨_, rfl⟩
  rw [← hnn] at hm ⊢
  have HNN := Lib.hid hnn
  clear h hz ht hnn
  go_enter Try.func7, Try.ntmps7
  go_wp2_with fail
  go_loopw [6, 8, 11] (fun _ _ i wr => ∃ j : Nat, i = .int .i64 j ∧ j ≤ nn ∧ Hid (ac.any lgA = (ac.drop j).any lgA) ∧ Hid (Below w.heap.size w wr)) (fun _ _ i _ => nn - (intOf i).toNat)
  case atStart => exact ⟨0, rfl, Nat.zero_le _, by rw [List.drop_zero]; exact rfl, Below.refl _ _⟩
  case round =>
    obtain ⟨j, rfl, hj, HA, HB⟩ := hrel
    by_cases hlt : j < nn
    · have hlt' : j < ac.length := by have := HNN.out; omega
      obtain ⟨b, off, a, hja, hA, hbl, hok, e0, e1, e2, e3, e4, e5⟩ := (HR.out.below HB.out).at_ hlt'
      obtain ⟨z1, z2, z3⟩ := HZ.out a (List.mem_of_getElem? hja)
      have hst := any_step (f := lgA) hja
      have HST := Lib.hid hst; have HOK := Lib.hid hok; have Z3 := Lib.hid z3
      subst hA
      clear hja hst hok z3 hlt' hbl
      by_cases hw : 60 < a.word.size
      · have HTT : t = true := by
          rw [HT.out]; unfold lg; rw [HA.out, HST.out]
          have : lgA a = true := by unfold lgA; simp [hw]
          rw [this]; rfl
        subst HTT
        have hw' : ((a.word.size : Int) > 60) := by omega
        go_wp2
        go_ret
        exact ⟨rfl, HB.out.alloc HB.out.size _⟩
      · have hw' : ¬ ((a.word.size : Int) > 60) := by omega
        by_cases hl : 12 < a.list.length
        · have HTT : t = true := by
            rw [HT.out]; unfold lg; rw [HA.out, HST.out]
            have : lgA a = true := by unfold lgA; simp [hl]
            rw [this]; rfl
          subst HTT
          have hl' : ((a.list.length : Int) > 12) := by omega
          go_wp2
          go_ret
          exact ⟨rfl, HB.out.alloc HB.out.size _⟩
        · have hl' : ¬ ((a.list.length : Int) > 12) := by omega
          obtain ⟨mm, hmm⟩ : ∃ mm, mm = a.list.length := ⟨_, rfl⟩
          rw [← hmm] at z2 hl hl' e3
          have HMM := Lib.hid hmm
          clear hmm
          have HB2 := Lib.hid (HB.out.alloc HB.out.size (.cells #[.int .i64 a.kind, .int .u8 (a.b.toNat : Int), .string a.word, .slice a.L mm a.cl, .int .i64 a.least, .int .i64 a.most] Ta))
          have HLS := Lib.hid (HOK.out.ls.below ((Below.refl wr.heap.size wr).alloc (Nat.le_refl _) (.cells #[.int .i64 a.kind, .int .u8 (a.b.toNat : Int), .string a.word, .slice a.L mm a.cl, .int .i64 a.least, .int .i64 a.most] Ta)))
          go_wp2_with fail
          generalize World.alloc wr _ = W2 at HB2 HLS ⊢
          clear e0 e1 e2 e3 e4 e5
          go_loop [8, 28] (fun _ i => ∃ m : Nat, i = .int .i64 m ∧ m ≤ mm ∧ Hid (a.list.any lgZ = (a.list.drop m).any lgZ)) (fun _ i => mm - (intOf i).toNat)
          case atStart => exact ⟨0, rfl, Nat.zero_le _, by rw [List.drop_zero]; exact rfl⟩
          case round =>
            obtain ⟨m, rfl, hmle, HMA⟩ := hrel
            by_cases hmlt : m < mm
            · have hmlt' : m < a.list.length := by have := HMM.out; omega
              obtain ⟨b2, off2, z, hzm, hAL, hb2, hcell⟩ := HLS.out.cell hmlt'
              have hzs := Z3.out z (List.mem_of_getElem? hzm)
              have hst2 := any_step (f := lgZ) hzm
              have HST2 := Lib.hid hst2
              have HAL := Lib.hid hAL
              rw [hAL]
              clear hzm hst2 hmlt' hb2 hAL
              by_cases hzl : 60 < z.size
              · have HTT : t = true := by
                  rw [HT.out]; unfold lg; rw [HA.out, HST.out]
                  have h1 : lgZ z = true := by unfold lgZ; simp [hzl]
                  have h2 : lgA a = true := by unfold lgA; rw [HMA.out, HST2.out, h1]; simp
                  rw [h2]; rfl
                subst HTT
                have hzl' : ((z.size : Int) > 60) := by omega
                go_wp2
                go_ret
                exact ⟨rfl, HB2.out⟩
              · have hzl' : ¬ ((z.size : Int) > 60) := by omega
                have HMA2 : RowKit.Hid (a.list.any lgZ = (a.list.drop (m + 1)).any lgZ) := by
                  have h1 : lgZ z = false := by unfold lgZ; simpa using hzl
                  show _ = _
                  rw [HMA.out, HST2.out, h1]; rfl
                go_wp2
                go_round
                case rel => exact ⟨m + 1, by go_num, by omega, HMA2⟩
                case measure => simp [intOf]; omega
            · have HA2 : RowKit.Hid (ac.any lgA = (ac.drop (j + 1)).any lgA) := by
                have h1 : lgA a = false := by
                  unfold lgA; rw [HMA.out, any_end (by have := HMM.out; omega)]
                  have := HMM.out
                  simp; omega
                show _ = _
                rw [HA.out, HST.out, h1]; rfl
              go_wp2
              go_roundw
              case rel => exact ⟨j + 1, by go_num, by omega, HA2, HB2.out⟩
              case measure => simp [intOf]; omega
    · have HTT : t = (decide (300 < s.size) || decide (60 < nn)) := by
        rw [HT.out]; unfold lg; rw [HA.out, any_end (by have := HNN.out; omega), ← HNN.out]; rfl
      have HTH := Lib.hid HTT
      clear HTT
      by_cases hs3 : 300 < s.size
      · have h1 : t = true := by rw [HTH.out]; simp [hs3]
        subst h1
        have hs3' : ((s.size : Int) > 300) := by omega
        go_wp2
        go_ret
        exact ⟨rfl, HB.out⟩
      · have hs3' : ¬ ((s.size : Int) > 300) := by omega
        by_cases hn6 : 60 < nn
        · have h1 : t = true := by rw [HTH.out]; simp [hn6]
          subst h1
          have hn6' : ((nn : Int) > 60) := by omega
          go_wp2
          go_ret
          exact ⟨rfl, HB.out⟩
        · have h1 : t = false := by rw [HTH.out]; simp; omega
          subst h1
          have hn6' : ¬ ((nn : Int) > 60) := by omega
          go_wp2
          go_ret
          exact ⟨rfl, HB.out⟩
end
/-! ### an argument that is an act, or a slice of acts, opened -/
section
open Go.RowKit Go.WideShapes Go.ChangeShapes Go.Deep
set_option linter.unusedVariables false

/-- What is known of an act that came in. -/
def ActIn (W : World) (a : ActD) : Prop := a.Ok W ∧ a.word.size ≤ maxLen ∧ a.list.length ≤ maxLen ∧ ∀ z ∈ a.list, z.size ≤ maxLen
theorem fits_of {z : Int} (h : (Lit.int .i64 z).wf = true) : fits z := wf_fits h

section
variable {H : Type} {enc : TypeId × Value → H}
theorem open_list {W : World} {n : Nat} {v : Value} {y : DataW H × List MemPlace} (h : DataW.trod enc Try.prog W 0 (fun _ => true) true n 33 [v] = some y) :
    ∃ (L : Option Addr) (ws : List ByteArray) (c : Nat), v = .slice L ws.length c ∧ Rst W L ws ∧ ws.length ≤ maxLen ∧ ∀ z ∈ ws, z.size ≤ maxLen := by
  rcases open_strings Try.underlying33 Try.underlying9 (by kernel_rfl) h with ⟨h0, _⟩ | ⟨a, len, cap, ss, h0, _, hl, hm, hss, _, hcell, hsz⟩
  · injection h0 with h0 _
    exact ⟨none, [], 0, h0, .inl rfl, by simp, fun z hz => by cases hz⟩
  · injection h0 with h0 _
    simp only [if_true] at hss
    have e1 : (ss.take len).length = len := by rw [List.length_take]; omega
    refine ⟨some a, ss.take len, cap, by rw [e1]; exact h0, ?_, by rw [e1]; omega, fun z hz => hsz z (List.mem_of_mem_take hz)⟩
    by_cases hz : len = 0
    · subst hz; exact .inl (by simp)
    · right
      obtain ⟨b, off, spot⟩ := a
      have hspot : spot = none := by simpa [Addr.add] using World.cell?_spot (hcell 0 (by omega))
      subst hspot
      have hb := World.block_lt_of_cell? W _ (hcell 0 (by omega))
      refine ⟨b, off, rfl, by simpa [Addr.add] using hb, fun j z hj => ?_⟩
      have hjl : j < len := by have := (List.getElem?_eq_some_iff.1 hj).1; omega
      rw [← add_plain, hcell j (by omega)]
      rw [List.getElem?_take_of_lt hjl] at hj
      simp [List.getD_eq_getElem?_getD, hj]
theorem act_fields : ∃ fs : Array Field, Try.prog.underlying 35 = some (.struct fs) ∧ oneCellFields Try.prog fs = true ∧ fs.size = 6 ∧ (∃ f, fs[0]? = some f ∧ f.type = 3) ∧ (∃ f, fs[1]? = some f ∧ f.type = 5) ∧
    (∃ f, fs[2]? = some f ∧ f.type = 9) ∧ (∃ f, fs[3]? = some f ∧ f.type = 33) ∧ (∃ f, fs[4]? = some f ∧ f.type = 3) ∧ (∃ f, fs[5]? = some f ∧ f.type = 3) :=
  ⟨_, Try.underlying35, by kernel_rfl, rfl, ⟨_, rfl, rfl⟩, ⟨_, rfl, rfl⟩, ⟨_, rfl, rfl⟩, ⟨_, rfl, rfl⟩, ⟨_, rfl, rfl⟩, ⟨_, rfl, rfl⟩⟩
theorem field_at {W : World} {cs : List Value} {n : Nat} {fs : Array Field} {xs : List (DataW H × List MemPlace)} (hone : oneCellFields Try.prog fs = true) (hxl : xs.length = fs.size)
    (hf : ∀ (i : Nat) (f : Field), fs[i]? = some f → DataW.trod enc Try.prog W 0 (fun _ => true) true n f.type ((cs.drop f.offset).take (Try.prog.cellsOf f.type)) = xs[i]?)
    {i : Nat} {f : Field} {t : TypeId} {c : Value} (hi : fs[i]? = some f) (ht : f.type = t) (hc : cs[i]? = some c) : ∃ y, DataW.trod enc Try.prog W 0 (fun _ => true) true n t [c] = some y := by
  obtain ⟨o, k⟩ := hone_of hone i f hi
  have h := hf i f hi
  rw [o, k, ht] at h
  obtain ⟨hlt, hce⟩ := List.getElem?_eq_some_iff.1 hc
  have e : (cs.drop i).take 1 = [c] := by rw [List.drop_eq_getElem_cons hlt, hce]; rfl
  rw [e] at h
  have hx : xs[i]? = some (xs[i]'(by rw [hxl]; exact (Array.getElem?_eq_some_iff.1 hi).1)) := List.getElem?_eq_getElem _
  exact ⟨_, h.trans hx⟩
set_option maxRecDepth 100000 in
theorem open_act {W : World} {fuel : Nat} {cs : List Value} {x : DataW H × List MemPlace} (h : DataW.trod enc Try.prog W 0 (fun _ => true) true fuel 35 cs = some x) :
    ∃ a : ActD, cs = a.cells.toList ∧ ActIn W a := by
  obtain ⟨fs, hu, hone, hsz, ⟨f0, u0, t0⟩, ⟨f1, u1, t1⟩, ⟨f2, u2, t2⟩, ⟨f3, u3, t3⟩, ⟨f4, u4, t4⟩, ⟨f5, u5, t5⟩⟩ := act_fields
  obtain ⟨xs, n, _, _, hlen, hxl, hf⟩ := DataW.trod_struct hu h
  rw [show Try.prog.cellsOf 35 = 6 by kernel_rfl] at hlen
  match cs, hlen with
  | [c0, c1, c2, c3, c4, c5], _ =>
    obtain ⟨y0, g0⟩ := field_at hone hxl hf u0 t0 (c := c0) rfl
    obtain ⟨y1, g1⟩ := field_at hone hxl hf u1 t1 (c := c1) rfl
    obtain ⟨y2, g2⟩ := field_at hone hxl hf u2 t2 (c := c2) rfl
    obtain ⟨y3, g3⟩ := field_at hone hxl hf u3 t3 (c := c3) rfl
    obtain ⟨y4, g4⟩ := field_at hone hxl hf u4 t4 (c := c4) rfl
    obtain ⟨y5, g5⟩ := field_at hone hxl hf u5 t5 (c := c5) rfl
    obtain ⟨n0, e0, _, w0⟩ := DataW.trod_int Try.underlying3 g0
    obtain ⟨n1, e1, _, w1⟩ := DataW.trod_int Try.underlying5 g1
    obtain ⟨s2, e2, _, z2⟩ := DataW.trod_string Try.underlying9 g2
    obtain ⟨L, ws, c, e3, hL, hLl, hLz⟩ := open_list g3
    obtain ⟨n4, e4, _, w4⟩ := DataW.trod_int Try.underlying3 g4
    obtain ⟨n5, e5, _, w5⟩ := DataW.trod_int Try.underlying3 g5
    injection e0 with e0 _; injection e1 with e1 _; injection e2 with e2 _; injection e4 with e4 _; injection e5 with e5 _
    subst e0; subst e1; subst e2; subst e3; subst e4; subst e5
    have hb : ((UInt8.ofNat n1.toNat).toNat : Int) = n1 := by
      simp [Lit.wf, IntKind.min, IntKind.max, IntKind.signed, IntKind.bits] at w1
      simp; omega
    refine ⟨⟨n0, UInt8.ofNat n1.toNat, s2, L, ws, c, n4, n5⟩, ?_, ⟨wf_fits w0, wf_fits w4, wf_fits w5, hL⟩, z2, hLl, hLz⟩
    show _ = [_, _, _, _, _, _]
    rw [hb]
theorem act_agg {cs : Array Value} {a : ActD} (h : (Value.agg cs).cells.toList = a.cells.toList) : cs = a.cells := Array.toList_inj.1 h
theorem all_of {α : Type} {Q : Nat → α → Prop} : ∀ n : Nat, (∀ i, i < n → ∃ a, Q i a) → ∃ l : List α, l.length = n ∧ ∀ i a, l[i]? = some a → Q i a
  | 0, _ => ⟨[], rfl, fun i a h => by simp at h⟩
  | n + 1, h => by
    obtain ⟨l, hl, hq⟩ := all_of n fun i hi => h i (by omega)
    obtain ⟨a, ha⟩ := h n (by omega)
    refine ⟨l ++ [a], by simp [hl], fun i b hb => ?_⟩
    rcases Nat.lt_or_ge i l.length with hi | hi
    · rw [List.getElem?_append_left hi] at hb; exact hq i b hb
    · rw [List.getElem?_append_right hi] at hb
      have hi0 : i - l.length = 0 := by
        rcases Nat.eq_zero_or_pos (i - l.length) with h0 | h0
        · exact h0
        · rw [List.getElem?_eq_none (by simp; omega)] at hb; cases hb
      rw [hi0] at hb
      have hi2 : i = n := by omega
      subst hi2
      simp at hb; subst hb; exact ha
theorem open_ra {W : World} {A : Option Addr} {len cap : Nat} {d : DataW H} {p : List MemPlace} (h : DataW.Trod enc Try.prog W 0 (fun _ => true) true 22 (.slice A len cap) d p) :
    ∃ ac : List ActD, len = ac.length ∧ Ra W A ac ∧ ac.length ≤ maxLen ∧ ∀ a ∈ ac, a.word.size ≤ maxLen ∧ a.list.length ≤ maxLen ∧ ∀ z ∈ a.list, z.size ≤ maxLen := by
  obtain ⟨fuel, hf⟩ := h
  rcases open_slice Try.underlying22 hf with ⟨hcs, _⟩ | ⟨a, len', cap', m, n, D, Pl, hcs, _, hl, hm, hmm, _, hi⟩
  · simp [Value.cells] at hcs
    obtain ⟨rfl, rfl, rfl⟩ := hcs
    exact ⟨[], rfl, ⟨(fun a ha => by cases ha), .inl rfl⟩, by simp, (fun a ha => by cases ha)⟩
  · simp [Value.cells] at hcs
    obtain ⟨rfl, rfl, rfl⟩ := hcs
    simp only [if_true] at hmm
    subst hmm
    have k6 : Try.prog.cellsOf 35 = 6 := by kernel_rfl
    rw [k6] at hi
    have key : ∀ i, i < len → ∃ b : ActD, (∀ j v, b.cells[j]? = some v → W.cell? ((a.add (i * 6)).add j) = some v) ∧ ActIn W b := by
      intro i hil
      obtain ⟨cs', hc, ht⟩ := hi i (by omega)
      obtain ⟨b, hb, hin⟩ := open_act ht
      obtain ⟨_, hcl, hat⟩ := World.cells?_some hc
      refine ⟨b, fun j v hv => ?_, hin⟩
      have hj6 : j < 6 := (Array.getElem?_eq_some_iff.1 hv).1
      rw [hat j hj6, hb]
      simpa using hv
    obtain ⟨ac, hal, haq⟩ := all_of len key
    refine ⟨ac, hal.symm, ⟨fun b hb => ?_, ?_⟩, by omega, fun b hb => ?_⟩
    · obtain ⟨i, hi2⟩ := List.mem_iff_getElem?.1 hb
      exact (haq i b hi2).2.1
    · by_cases h0 : len = 0
      · left; exact List.eq_nil_of_length_eq_zero (by omega)
      · right
        have hlt : 0 < ac.length := by omega
        have hc0 := (haq 0 ac[0] (List.getElem?_eq_getElem hlt)).1 0 _ rfl
        obtain ⟨b, off, spot⟩ := a
        have hspot : spot = none := by simpa [Addr.add] using World.cell?_spot hc0
        subst hspot
        have hb := World.block_lt_of_cell? W _ hc0
        refine ⟨b, off, rfl, by simpa [Addr.add] using hb, fun j b' hj i v hv => ?_⟩
        have := (haq j b' hj).1 i v hv
        rw [add_plain, add_plain] at this
        exact this
    · obtain ⟨i, hi2⟩ := List.mem_iff_getElem?.1 hb
      exact (haq i b hi2).2.2
end
end
end Go.Proofs.Ytelogbkhplegaaa
