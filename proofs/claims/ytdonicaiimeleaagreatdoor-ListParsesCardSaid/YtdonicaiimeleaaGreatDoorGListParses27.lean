/- Merged: ScanG, ScanH, ListR. -/
import Derived.Test.YtdonicaiimeleaaGreatDoorGListParses25
import Derived.Test.YtdonicaiimeleaaGreatDoorGListParses4
import Derived.Deep.LoopGhost
import Derived.Deep.DeepCutAuto
import Derived.Deep.CutRange
import Derived.Deep.CutBlock
import Derived.Test.YtdonicaiimeleaaGreatDoorGListParses26
namespace Go.Proofs.YtdonicaiimeleaaGreatDoor
open Go.RowKit
set_option linter.unusedVariables false

/-- Does a byte occur in others? Is it another one than the stop? -/
def inB (of : List UInt8) (c : UInt8) : Bool := decide (0 ≤ Lib.indexByte of c)
theorem run1_s (of : ByteArray) (B : Nat) (c : UInt8) (w : World) (h : w.cell? ⟨B, 0, none⟩ = some (.string of)) :
    Calls Tryz.prog 90 #[.int .u8 (c.toNat : Int), .pointer (some ⟨B, 0, none⟩)] w fun x w' => x = .returned (.bool (inB of.data.toList c)) ∧ w' = w := by
  have hc : ((c.toNat : Int).toNat.toUInt8) = c := by simp
  have HI := Tryz.strings_IndexByte of (c.toNat : Int) w
  rw [hc] at HI
  have HI' := Lib.hid HI
  clear hc HI
  have hd : inB of.data.toList c = decide (Lib.indexByte of.data.toList c ≥ 0) := rfl
  generalize Lib.indexByte of.data.toList c = y at *
  generalize inB of.data.toList c = t at *
  have HD := Lib.hid hd; clear hd
  go_enter Tryz.func90, Tryz.ntmps90
  go_wp2_with (go_at_call 91; refine HI'.out.mono ?_; rintro x w' ⟨rfl, rfl⟩)
  go_ret
  exact ⟨ret1_eq (bool_eq (by rw [HD.out]; first | done | simp)), rfl⟩
set_option maxHeartbeats 1600000 in
theorem whileRun_s (B : Nat) (u : Value) (p : UInt8 → Bool) (HW : ∀ (c : UInt8) (w1 : World), w1.cell? ⟨B, 0, none⟩ = some u → Calls Tryz.prog 90 #[.int .u8 (c.toNat : Int), .pointer (some ⟨B, 0, none⟩)] w1 fun x w' => x = .returned (.bool (p c)) ∧ w' = w1)
    (g k : Nat) (e : Int) (v : Value) (s : ByteArray) (w : World) (h : Sk Ts w g v k e) (ht : Txs w g v s) (hk : k ≤ s.size) (hs : s.size ≤ 100000) (hB : w.cell? ⟨B, 0, none⟩ = some u) (hBg : B ≠ g) :
    Calls Tryz.prog 89 #[.pointer (some ⟨g, 0, none⟩), .func (.func 90) #[] #[.pointer (some ⟨B, 0, none⟩)]] w fun x w' =>
      x = .returned (.string ⟨((rs s.data.toList k e).take (tw p (rs s.data.toList k e))).toArray⟩) ∧ Mv Ts g v (k + tw p (rs s.data.toList k e)) e w w' := by
  have HT := Lib.hid (stopped_s g k e v w h)
  have HS := Lib.hid h
  have HX := Lib.hid ht
  have HWH := Lib.hid HW
  have HBH := Lib.hid hB
  clear HW hB
  by_cases h0 : e = 0
  · subst h0
    rw [rs_zero]
    have hz : ((0 : Int) != 0) = false := rfl
    have hsl : s.data.toList.length = s.size := by simp
    have HSL := Lib.hid hsl
    have c1 := h.c1
    obtain ⟨N, hN⟩ : ∃ N, N = tw p (s.data.toList.drop k) := ⟨_, rfl⟩
    rw [← hN]
    have HN := Lib.hid hN
    obtain ⟨R, hR⟩ : ∃ R : ByteArray, R = ⟨((s.data.toList.drop k).take N).toArray⟩ := ⟨_, rfl⟩
    rw [← hR]
    have HR := Lib.hid hR
    clear h ht hsl hN hR
    go_enter Tryz.func89, Tryz.ntmps89
    go_wp2_with (go_at_call 92; refine HT.out.mono ?_; rintro x w' ⟨rfl, rfl⟩)
    clear c1
    go_loopg [] (s.size - k) (fun G wr => ∃ j : Nat, j ≤ s.size ∧ k ≤ j ∧ G = s.size - j ∧ Hid (Mv Ts g v j 0 w wr) ∧ Hid (N = (j - k) + tw p (s.data.toList.drop j)))
    case atStart => exact ⟨k, hk, Nat.le_refl _, rfl, ⟨HS.out, gb_refl _ _⟩, by rw [Nat.sub_self, Nat.zero_add]; exact HN⟩
    case round =>
      obtain ⟨j, hj, hkj, rfl, HM, HN1⟩ := hrel
      have hS := HM.out.1
      have d0 := hS.c0
      have d1 := hS.c1
      have f1 := hS.free 1
      have hBc : wr.cell? ⟨B, 0, none⟩ = some u := HM.out.2.cell HBH.out (by intro e; injection e with e; exact hBg e)
      have HBC := Lib.hid hBc
      clear hS hBc
      obtain rfl := HX.out
      by_cases hlt : j < s.size
      · have hst := tw_step (p := p) (l := s.data.toList) (i := j) (by rw [HSL.out]; exact hlt)
        have hst2 : tw p (s.data.toList.drop j) = if p s[j] = true then tw p (s.data.toList.drop (j + 1)) + 1 else 0 := hst
        
        cases hp : p s[j]
        · rw [hp] at hst2
          have hN : N = j - k := by have := HN1.out; simp at hst2; omega
          have hWF := fun w1 h1 => HWH.out s[j] w1 h1
          rw [hp] at hWF
          have HWF := Lib.hid hWF; clear hWF
          clear hst hst2 hp
          have HNj := Lib.hid hN; clear hN
          go_wp2
          go_quiet ((go_at_call 90; exact Calls.quiet_of_same (HWF.out _ HBC.out)))
          go_wp2
          obtain ⟨W1, hW1⟩ : ∃ W1, W1 = wr.drewN nq := ⟨_, rfl⟩
          have hs1 := HM.out.1.drewN nq
          rw [← hW1] at hs1
          have HS1 := Lib.hid hs1; clear hs1
          have HG1 : RowKit.Hid (w.grownBy W1 (some g)) := by rw [hW1]; exact gb_draw HM.out.2 _
          have e0 := HS1.out.c0
          have e1 := HS1.out.c1
          have HXq : RowKit.Hid (s.extract k j = R) := by
            have : (s.extract k j).data.toList = (s.data.toList.drop k).take N := by
              rw [Lib.extract_data, HNj.out]
            show s.extract k j = R
            rw [HR.out, ← this]
          have hNK : k + N = j := by have := HNj.out; omega
          have HNK := Lib.hid hNK
          rw [← hW1]
          clear hW1 d0 d1 f1 hNK
          go_quiet (fail)
          go_wp2
          go_ret
          exact ⟨by first | rfl | (rw [HXq.out]; first | done | rfl), by rw [HNK.out]; exact ⟨HS1.out.drewN _, gb_draw HG1.out _⟩⟩
        · rw [hp] at hst2
          have hN : N = (j + 1 - k) + tw p (s.data.toList.drop (j + 1)) := by have := HN1.out; simp at hst2; omega
          have hWF := fun w1 h1 => HWH.out s[j] w1 h1
          rw [hp] at hWF
          have HWF := Lib.hid hWF; clear hWF
          have HN2 := Lib.hid hN
          clear hst hst2 hp hN
          go_wp2
          go_quiet ((go_at_call 90; exact Calls.quiet_of_same (HWF.out _ HBC.out)))
          go_wp2
          go_roundg (s.size - (j + 1))
          case rel => exact ⟨j + 1, by omega, by omega, rfl, ⟨(HM.out.1.drewN _).set1 (j + 1) (by omega), gb_set (gb_draw HM.out.2 _) 1 _⟩, HN2⟩
          case measure => omega
      · have hjs : j = s.size := by omega
        have hN : N = j - k := by have := HN1.out; rw [tw_end (by rw [HSL.out]; omega)] at this; omega
        have HNj := Lib.hid hN
        have hge : ¬ ((j : Int) < (s.size : Int)) := by omega
        have hge' : decide ((j : Int) < (s.size : Int)) = false := by simpa using hge
        have hge2 : decide (j < s.size) = false := by simpa using hlt
        clear hN hjs
        go_wp2
        go_quiet (fail)
        go_wp2
        obtain ⟨W1, hW1⟩ : ∃ W1, W1 = wr.drewN nq := ⟨_, rfl⟩
        have hs1 := HM.out.1.drewN nq
        rw [← hW1] at hs1
        have HS1 := Lib.hid hs1; clear hs1
        have HG1 : RowKit.Hid (w.grownBy W1 (some g)) := by rw [hW1]; exact gb_draw HM.out.2 _
        have e0 := HS1.out.c0
        have e1 := HS1.out.c1
        have HXq : RowKit.Hid (s.extract k j = R) := by
          have : (s.extract k j).data.toList = (s.data.toList.drop k).take N := by
            rw [Lib.extract_data, HNj.out]
          show s.extract k j = R
          rw [HR.out, ← this]
        have hNK : k + N = j := by have := HNj.out; omega
        have HNK := Lib.hid hNK
        rw [← hW1]
        clear hW1 d0 d1 f1 hNK
        go_quiet (fail)
        go_wp2
        go_ret
        exact ⟨by first | rfl | (rw [HXq.out]; first | done | rfl), by rw [HNK.out]; exact ⟨HS1.out.drewN _, gb_draw HG1.out _⟩⟩
  · rw [rs_bad _ _ h0]
    have hz : (e != 0) = true := bne_iff_ne.mpr h0
    clear h ht h0
    go_enter Tryz.func89, Tryz.ntmps89
    go_wp2_with (go_at_call 92; refine HT.out.mono ?_; rintro x w' ⟨rfl, rfl⟩)
    go_ret
    exact ⟨rfl, HS.out, gb_refl _ _⟩
end Go.Proofs.YtdonicaiimeleaaGreatDoor

namespace Go.Proofs.YtdonicaiimeleaaGreatDoor
open Go.RowKit
set_option linter.unusedVariables false

theorem box_cell (w : World) (v : Value) (T : TypeId) : (w.alloc (.cells #[v] T)).cell? ⟨w.heap.size, 0, none⟩ = some v := by
  have h := heap_alloc_new w (.cells #[v] T (0, 0))
  unfold World.cell?
  rw [h]; rfl
theorem of_string (w : World) (s : ByteArray) (hs : s.size ≤ 100000) : ∃ c w', (convert 9 84 (.string s)).run Tryz.prog w = .ok (.slice (some ⟨w.heap.size, 0, none⟩) s.size c) w' ∧
    Rb w' (some ⟨w.heap.size, 0, none⟩) s.data.toList ∧ s.size ≤ c ∧ c ≤ maxLen ∧ Below w.heap.size w w' ∧ w'.heap.size = w.heap.size + 1 := by
  refine ⟨_, _, run_bytes_of_string w _ _ 5 s Tryz.underlying9 Tryz.underlying84 Tryz.underlying5, ?_, grownCap_ge _ _ _ _, grownCap_le_maxLen _ _ _ _ (by unfold maxLen; omega), (Below.refl _ _).drew.alloc (Nat.le_refl _) _, by simp⟩
  generalize grownCap w s.size 0 5 = c
  refine ⟨fun z hz => ?_, .inr ⟨w.heap.size, 0, rfl, by simp, fun j z hj => ?_⟩⟩
  · obtain ⟨b, _, rfl⟩ := List.mem_map.1 hz
    have := b.toNat_lt
    simp [Lit.wf, IntKind.min, IntKind.max, IntKind.signed, IntKind.bits]
    omega
  · have hw : (w.drew.alloc (.cells (bytesRow s c) 5 ((bytesRow s c).size, (bytesRow s c).size + 1))).heap[w.heap.size]? = some (.cells (bytesRow s c) 5 ((bytesRow s c).size, (bytesRow s c).size + 1)) := heap_alloc_new w.drew _
    unfold World.cell?
    rw [hw]
    simp only [Nat.zero_add]
    unfold nums at hj
    rw [List.getElem?_map] at hj
    have hj' : (s.data[j]?).map (fun b : UInt8 => (b.toNat : Int)) = some z := by rw [← hj]; simp
    unfold bytesRow
    have hlt : j < s.data.size := by
      rcases Nat.lt_or_ge j s.data.size with h | h
      · exact h
      · rw [Array.getElem?_eq_none h] at hj'; cases hj'
    rw [Array.getElem?_append_left (by simpa using hlt), Array.getElem?_map]
    rw [Array.getElem?_eq_getElem hlt] at hj' ⊢
    simp at hj' ⊢
    exact hj'

set_option maxHeartbeats 800000 in
theorem run_s (g k : Nat) (e : Int) (v : Value) (s of : ByteArray) (w : World) (h : Sk Ts w g v k e) (ht : Txs w g v s) (hk : k ≤ s.size) (hs : s.size ≤ 100000) :
    Calls Tryz.prog 63 #[.pointer (some ⟨g, 0, none⟩), .string of] w fun x w' =>
      x = .returned (.string ⟨((rs s.data.toList k e).take (tw (inB of.data.toList) (rs s.data.toList k e))).toArray⟩) ∧ Mv Ts g v (k + tw (inB of.data.toList) (rs s.data.toList k e)) e w w' := by
  have hlt := h.lt
  have hB : (w.alloc (.cells #[.string of] 9)).cell? ⟨w.heap.size, 0, none⟩ = some (.string of) := box_cell w _ _
  have HW := whileRun_s w.heap.size (.string of) (inB of.data.toList) (fun c w1 h1 => run1_s of w.heap.size c w1 h1) g k e v s _ (h.alloc (.cells #[.string of] 9)) (ht.kept (gb_alloc (gb_refl _ _) _)) hk hs hB (by omega)
  have HWH := Lib.hid HW
  clear HW hB h ht hlt
  go_enter Tryz.func63, Tryz.ntmps63
  go_wp2_with (go_at_call 89; refine HWH.out.mono ?_; rintro x w' ⟨rfl, hm⟩; have HM := Lib.hid hm; clear hm)
  go_ret
  exact ⟨rfl, HM.out.1, (gb_alloc (gb_refl _ _) _).trans HM.out.2⟩
theorem new_s (s : ByteArray) (w : World) :
    Calls Tryz.prog 41 #[.string s] w fun x w' => x = .returned (.pointer (some ⟨w.heap.size, 0, none⟩)) ∧ w' = w.alloc (.cells #[.string s, .int .i64 0, .nilIface] Ts) := by
  go_enter Tryz.func41, Tryz.ntmps41
  go_wp2
  go_ret
  exact ⟨rfl, rfl⟩
end Go.Proofs.YtdonicaiimeleaaGreatDoor

namespace Go.Proofs.YtdonicaiimeleaaGreatDoor
open Go.RowKit
set_option linter.unusedVariables false
set_option linter.unusedSimpArgs false

theorem results_three11 {fn : Func} {t u v : Tmp} (h : fn.results = #[.tmp t, .tmp u, .tmp v]) (tmps : Array Value) (P : Program) (w : World) :
    (results fn tmps).run P w = .ok (.tuple #[tmps.getD t undef, tmps.getD u undef, tmps.getD v undef]) w := by
  simp [results, h]
theorem inb_gap : inB [32, 9] = gp := by
  funext c
  have h : ∀ n : Nat, n < 256 → inB [32, 9] (UInt8.ofNat n) = gp (UInt8.ofNat n) := by decide +kernel
  have := h c.toNat c.toNat_lt
  rwa [UInt8.ofNat_toNat] at this
theorem ruK_le {l : List UInt8} {k : Nat} (e : Int) (h : k ≤ l.length) : ruK l k e ≤ l.length := by
  unfold ruK
  have := tw_le gp (rs l k e)
  have := rs_le l k e
  omega
theorem gaK_le {l : List UInt8} {k : Nat} (e : Int) (h : k ≤ l.length) : gaK l k e ≤ l.length := ruK_le e h
theorem fgK_le11 {l : List UInt8} {k : Nat} (e a b : Int) (h : k ≤ l.length) : fgK k (rs l k e) e a b ≤ l.length := by
  unfold fgK
  split
  · have h1 : tkK (rs l k e) a b mx ≤ (rs l k e).length := by
      unfold tkK; split
      · unfold tkk; have := lead_le (rs l k e); omega
      · omega
    have := rs_le l k e
    omega
  · exact h
/-- Run over gaps: what it answers is empty, or isn't. -/
theorem runw_s (g k : Nat) (e : Int) (s : ByteArray) (w : World) (h : Sk Ts w g (.string s) k e) (hk : k ≤ s.size) (hs : s.size ≤ 100000) :
    Calls Tryz.prog 63 #[.pointer (some ⟨g, 0, none⟩), .string ⟨#[32, 9]⟩] w fun x w' =>
      (∃ S : ByteArray, x = .returned (.string S) ∧ S.toList.isEmpty = decide (tw gp (rs s.data.toList k e) = 0)) ∧ Mv Ts g (.string s) (ruK s.data.toList k e) e w w' := by
  have H := run_s g k e (.string s) s ⟨#[32, 9]⟩ w h rfl hk hs
  rw [show (⟨#[32, 9]⟩ : ByteArray).data.toList = [32, 9] from rfl, inb_gap] at H
  refine H.mono ?_
  rintro x w' ⟨rfl, hm⟩
  refine ⟨⟨_, rfl, ?_⟩, hm⟩
  have h1 := tw_le gp (rs s.data.toList k e)
  have h2 : ((rs s.data.toList k e).take (tw gp (rs s.data.toList k e))).length = tw gp (rs s.data.toList k e) := by rw [List.length_take]; omega
  rw [ByteArray.toList_eq]
  show ((rs s.data.toList k e).take (tw gp (rs s.data.toList k e))).isEmpty = _
  rw [Bool.eq_iff_iff, List.isEmpty_iff_length_eq_zero, h2]; simp
theorem gap_s (g k : Nat) (e : Int) (s : ByteArray) (w : World) (h : Sk Ts w g (.string s) k e) (hk : k ≤ s.size) (hs : s.size ≤ 100000) :
    Calls Tryz.prog 67 #[.pointer (some ⟨g, 0, none⟩)] w fun x w' => x = .returned (.tuple #[]) ∧ Mv Ts g (.string s) (gaK s.data.toList k e) (gaE s.data.toList k e) w w' := by
  have H := runw_s g k e s w h hk hs
  have hK : gaK s.data.toList k e = ruK s.data.toList k e := rfl
  by_cases h0 : tw gp (rs s.data.toList k e) = 0
  · have hE : gaE s.data.toList k e = flE e 2 := if_pos h0
    rw [hE, hK]
    rw [decide_eq_true h0] at H
    generalize ruK s.data.toList k e = K at *
    generalize hv : Value.string s = v at *
    have HR := Lib.hid H
    clear H hE hK h0 h hv hk hs
    go_enter Tryz.func67, Tryz.ntmps67
    go_wp2_with (first
      | (go_at_call 63; refine HR.out.mono ?_; rintro x w1 ⟨⟨S, rfl, hS⟩, hm⟩; have HM := Lib.hid hm; clear hm)
      | (go_at_call 95; refine (fail_s g K e 2 _ v _ HM.out.1 rfl (by decide)).mono ?_; rintro x w2 ⟨rfl, hm2⟩; have HM2 := Lib.hid hm2; clear hm2))
    go_end0
    exact ⟨rfl, HM.out.then_s HM2.out⟩
  · have hE : gaE s.data.toList k e = e := if_neg h0
    rw [hE, hK]
    rw [decide_eq_false h0] at H
    generalize ruK s.data.toList k e = K at *
    generalize hv : Value.string s = v at *
    have HR := Lib.hid H
    clear H hE hK h0 h hv hk hs
    go_enter Tryz.func67, Tryz.ntmps67
    go_wp2_with (go_at_call 63; refine HR.out.mono ?_; rintro x w1 ⟨⟨S, rfl, hS⟩, hm⟩; have HM := Lib.hid hm; clear hm)
    go_end0
    exact ⟨rfl, HM.out⟩

set_option maxHeartbeats 1000000 in
theorem readtime_s (g k : Nat) (s : ByteArray) (w : World) (h : Sk Ts w g (.string s) k 0) (hk : k ≤ s.size) (hs : s.size ≤ 100000) :
    Calls Tryz.prog 45 #[.pointer (some ⟨g, 0, none⟩)] w fun x w' => x = .returned (.tuple #[.int .i64 (tmN s.data.toList k), ev (tmE s.data.toList k)]) ∧ ∃ K, Mv Ts g (.string s) K (tmE2 s.data.toList k) w w' := by
  have hsz : s.data.toList.length = s.size := by simp
  have b1 := gaK_le (l := s.data.toList) 0 (by rw [hsz]; exact hk)
  have b2 := fgK_le11 (l := s.data.toList) (tmE1 s.data.toList k) 1 13 b1
  have b3 := ruK_le (l := s.data.toList) (tmE2 s.data.toList k) b2
  have H1 := Lib.hid (gap_s g k 0 s w h hk hs)
  have H2 := Lib.hid (fun w1 h1 => figures_s g (tmK1 s.data.toList k) (tmE1 s.data.toList k) 1 13 (.string s) s w1 h1 rfl (by rw [← hsz]; exact b1) hs (by decide) (by decide))
  have H3 := Lib.hid (fun w1 h1 => runw_s g (tmK2 s.data.toList k) (tmE2 s.data.toList k) s w1 h1 (by rw [← hsz]; exact b2) hs)
  have H4 := Lib.hid (fun w1 h1 => end_s g (ruK s.data.toList (tmK2 s.data.toList k) (tmE2 s.data.toList k)) (tmE2 s.data.toList k) (.string s) s w1 h1 rfl (by rw [← hsz]; exact b3) hs)
  have e1 : gaK s.data.toList k 0 = tmK1 s.data.toList k := rfl
  have e2 : gaE s.data.toList k 0 = tmE1 s.data.toList k := rfl
  have e3 : fgK (tmK1 s.data.toList k) (rs s.data.toList (tmK1 s.data.toList k) (tmE1 s.data.toList k)) (tmE1 s.data.toList k) 1 13 = tmK2 s.data.toList k := rfl
  have e4 : fgE (rs s.data.toList (tmK1 s.data.toList k) (tmE1 s.data.toList k)) (tmE1 s.data.toList k) 1 13 = tmE2 s.data.toList k := rfl
  have e5 : fgN (rs s.data.toList (tmK1 s.data.toList k) (tmE1 s.data.toList k)) (tmE1 s.data.toList k) 1 13 = tmN s.data.toList k := rfl
  have e6 : enE s.data.toList (ruK s.data.toList (tmK2 s.data.toList k) (tmE2 s.data.toList k)) (tmE2 s.data.toList k) = tmE s.data.toList k := rfl
  rw [e1, e2] at H1
  rw [e3, e4, e5] at H2
  rw [e6] at H4
  generalize ruK s.data.toList (tmK2 s.data.toList k) (tmE2 s.data.toList k) = K3 at *
  generalize tmE s.data.toList k = E at *
  generalize tmN s.data.toList k = N at *
  generalize tmE2 s.data.toList k = E2 at *
  generalize tmE1 s.data.toList k = E1 at *
  generalize tmK2 s.data.toList k = K2 at *
  generalize tmK1 s.data.toList k = K1 at *
  generalize hv : Value.string s = v at *
  clear e1 e2 e3 e4 e5 e6 b1 b2 b3 h hv hsz hk hs
  go_enter Tryz.func45, Tryz.ntmps45
  go_wp2_with (first
    | (go_at_call 67; refine H1.out.mono ?_; rintro x w1 ⟨rfl, hm⟩; have M1 := Lib.hid hm; clear hm)
    | (go_at_call 68; refine (H2.out _ M1.out.1).mono ?_; rintro x w2 ⟨rfl, hm⟩; have M2 := Lib.hid hm; clear hm)
    | (go_at_call 63; refine (H3.out _ M2.out.1).mono ?_; rintro x w3 ⟨⟨S, rfl, -⟩, hm⟩; have M3 := Lib.hid hm; clear hm)
    | (go_at_call 69; refine (H4.out _ M3.out.1).mono ?_; rintro x w4 ⟨rfl, nq, rfl⟩))
  go_ret2
  exact ⟨rfl, _, M3.out.1, (((M1.out.then_s M2.out).then_s M3.out).2).trans (gb_draw (gb_refl _ _) nq)⟩

set_option maxHeartbeats 2000000 in
theorem readrow_s (g k : Nat) (s : ByteArray) (w : World) (h : Sk Ts w g (.string s) k 0) (hk : k ≤ s.size) (hs : s.size ≤ 100000) :
    Calls Tryz.prog 65 #[.pointer (some ⟨g, 0, none⟩)] w fun x w' => x = .returned (.tuple #[.int .i64 (rrA s.data.toList k), .int .i64 (rrB s.data.toList k), ev (rrE s.data.toList k)]) ∧ w.grownBy w' (some g) := by
  have hsz : s.data.toList.length = s.size := by simp
  have b1 := fgK_le11 (l := s.data.toList) 0 1 13 (by rw [hsz]; exact hk)
  have b2 := gaK_le (l := s.data.toList) (rrE1 s.data.toList k) b1
  have b3 := fgK_le11 (l := s.data.toList) (rrE2 s.data.toList k) 1 4 b2
  have b4 := ruK_le (l := s.data.toList) (rrE3 s.data.toList k) b3
  have H1 := Lib.hid (figures_s g k 0 1 13 (.string s) s w h rfl hk hs (by decide) (by decide))
  have H2 := Lib.hid (fun w1 h1 => gap_s g (rrK1 s.data.toList k) (rrE1 s.data.toList k) s w1 h1 (by rw [← hsz]; exact b1) hs)
  have H3 := Lib.hid (fun w1 h1 => figures_s g (rrK2 s.data.toList k) (rrE2 s.data.toList k) 1 4 (.string s) s w1 h1 rfl (by rw [← hsz]; exact b2) hs (by decide) (by decide))
  have H4 := Lib.hid (fun w1 h1 => runw_s g (rrK3 s.data.toList k) (rrE3 s.data.toList k) s w1 h1 (by rw [← hsz]; exact b3) hs)
  have H5 := Lib.hid (fun w1 h1 => takes_s g (rrK4 s.data.toList k) (rrE3 s.data.toList k) (.string s) s 35 w1 h1 rfl (by rw [← hsz]; exact b4) hs)
  have b4' : rrK4 s.data.toList k ≤ s.size := by rw [← hsz]; exact b4
  have e1 : fgK k (rs s.data.toList k 0) 0 1 13 = rrK1 s.data.toList k := rfl
  have e2 : fgE (rs s.data.toList k 0) 0 1 13 = rrE1 s.data.toList k := rfl
  have e3 : fgN (rs s.data.toList k 0) 0 1 13 = rrA s.data.toList k := rfl
  have e4 : gaK s.data.toList (rrK1 s.data.toList k) (rrE1 s.data.toList k) = rrK2 s.data.toList k := rfl
  have e5 : gaE s.data.toList (rrK1 s.data.toList k) (rrE1 s.data.toList k) = rrE2 s.data.toList k := rfl
  have e6 : fgK (rrK2 s.data.toList k) (rs s.data.toList (rrK2 s.data.toList k) (rrE2 s.data.toList k)) (rrE2 s.data.toList k) 1 4 = rrK3 s.data.toList k := rfl
  have e7 : fgE (rs s.data.toList (rrK2 s.data.toList k) (rrE2 s.data.toList k)) (rrE2 s.data.toList k) 1 4 = rrE3 s.data.toList k := rfl
  have e8 : fgN (rs s.data.toList (rrK2 s.data.toList k) (rrE2 s.data.toList k)) (rrE2 s.data.toList k) 1 4 = rrB s.data.toList k := rfl
  have e9 : ruK s.data.toList (rrK3 s.data.toList k) (rrE3 s.data.toList k) = rrK4 s.data.toList k := rfl
  have hT : rrT s.data.toList k = (decide (0 < tw gp (rs s.data.toList (rrK3 s.data.toList k) (rrE3 s.data.toList k))) && ((rs s.data.toList (rrK4 s.data.toList k) (rrE3 s.data.toList k)).head? == some 35)) := rfl
  have hE : rrE s.data.toList k = enE s.data.toList (rrK5 s.data.toList k) (rrE3 s.data.toList k) := rfl
  have hK5 : rrK5 s.data.toList k = if rrT s.data.toList k = true then rrK4 s.data.toList k + 1 + (rs s.data.toList (rrK4 s.data.toList k + 1) (rrE3 s.data.toList k)).length else rrK4 s.data.toList k := rfl
  rw [e1, e2, e3] at H1
  rw [e4, e5] at H2
  rw [e6, e7, e8] at H3
  rw [e9] at H4
  clear e1 e2 e3 e4 e5 e6 e7 e8 e9 b1 b2 b3 b4 h hk
  generalize rrA s.data.toList k = A at *
  generalize rrB s.data.toList k = B at *
  generalize rrE3 s.data.toList k = E3 at *
  generalize rrE2 s.data.toList k = E2 at *
  generalize rrE1 s.data.toList k = E1 at *
  generalize rrK1 s.data.toList k = K1 at *
  generalize rrK2 s.data.toList k = K2 at *
  by_cases h0 : tw gp (rs s.data.toList (rrK3 s.data.toList k) E3) = 0
  · rw [decide_eq_true h0] at H4
    rw [h0] at hT
    have hT' : rrT s.data.toList k = false := by rw [hT]; rfl
    rw [hT', if_neg (by decide)] at hK5
    rw [hK5] at hE
    rw [hE]
    have H6 := Lib.hid (fun w1 h1 => end_s g (rrK4 s.data.toList k) E3 (.string s) s w1 h1 rfl b4' hs)
    generalize enE s.data.toList (rrK4 s.data.toList k) E3 = E at *
    generalize rrK4 s.data.toList k = K4 at *
    generalize rrK3 s.data.toList k = K3 at *
    generalize hv : Value.string s = v at *
    clear h0 hT hT' hE hK5 hv b4' hs hsz H5
    go_enter Tryz.func65, Tryz.ntmps65
    go_wp2_with (first
      | (go_at_call 68; with_reducible refine H1.out.mono ?_; clear H1; rintro x w1 ⟨rfl, hm⟩; have M1 := Lib.hid hm; clear hm)
      | (go_at_call 67; refine (H2.out _ M1.out.1).mono ?_; rintro x w2 ⟨rfl, hm⟩; have M2 := Lib.hid hm; have S2 := Lib.hid hm.1; clear hm)
      | (go_at_call 68; with_reducible refine (H3.out _ S2.out).mono ?_; clear H3; rintro x w3 ⟨rfl, hm⟩; have M3 := Lib.hid hm; clear hm)
      | (go_at_call 63; refine (H4.out _ M3.out.1).mono ?_; rintro x w4 ⟨⟨S, rfl, hS⟩, hm⟩; have M4 := Lib.hid hm; clear hm)
      | (go_at_call 69; refine (H6.out _ M4.out.1).mono ?_; rintro x w5 ⟨rfl, nq, rfl⟩))
    refine bodyPost_ret (results_three11 rfl _ _ _) rfl ⟨rfl, (((M1.out.then_s M2.out).then_s M3.out).then_s M4.out).2.trans (gb_draw (gb_refl _ _) nq)⟩
  · rw [decide_eq_false h0] at H4
    have hpos : decide (0 < tw gp (rs s.data.toList (rrK3 s.data.toList k) E3)) = true := decide_eq_true (Nat.pos_of_ne_zero h0)
    rw [hpos, Bool.true_and] at hT
    by_cases h1 : (rs s.data.toList (rrK4 s.data.toList k) E3).head? = some 35
    · have hT' : rrT s.data.toList k = true := by rw [hT, h1]; rfl
      rw [hT', if_pos rfl] at hK5
      rw [hK5] at hE
      rw [hE]
      obtain ⟨c0, c1⟩ := rs_at (l := s.data.toList) (k := rrK4 s.data.toList k) (e := E3) (fun c => by rw [c] at h1; cases h1)
      subst c0
      have b5 : rrK4 s.data.toList k + 1 ≤ s.size := by omega
      rw [h1, show (some 35 == some (35 : UInt8)) = true by rfl, if_pos rfl] at H5
      have hn : (rs s.data.toList (rrK4 s.data.toList k + 1) 0).length = s.data.toList.length - (rrK4 s.data.toList k + 1) := by rw [rs_len, if_pos rfl]
      have H7 := Lib.hid (fun w1 h1 => left_s g (rrK4 s.data.toList k + 1) 0 (.string s) s w1 h1 rfl b5 hs)
      have H8 := Lib.hid (fun w1 h1 => skip_s g (rrK4 s.data.toList k + 1) 0 ((rs s.data.toList (rrK4 s.data.toList k + 1) 0).length : Nat) (.string s) s w1 h1 rfl b5 hs (by rw [hn]; unfold fits; omega))
      have b6 : rrK4 s.data.toList k + 1 + (rs s.data.toList (rrK4 s.data.toList k + 1) 0).length ≤ s.size := by rw [hn]; omega
      have H9 := Lib.hid (fun w1 h1 => end_s g (rrK4 s.data.toList k + 1 + (rs s.data.toList (rrK4 s.data.toList k + 1) 0).length) 0 (.string s) s w1 h1 rfl b6 hs)
      have es : skE (rs s.data.toList (rrK4 s.data.toList k + 1) 0).length 0 ((rs s.data.toList (rrK4 s.data.toList k + 1) 0).length : Nat) = 0 := by
        unfold skE; rw [if_neg (by decide), if_neg (by omega), if_neg (by omega)]
      have ek : skK (rrK4 s.data.toList k + 1) (rs s.data.toList (rrK4 s.data.toList k + 1) 0).length 0 ((rs s.data.toList (rrK4 s.data.toList k + 1) 0).length : Nat) = rrK4 s.data.toList k + 1 + (rs s.data.toList (rrK4 s.data.toList k + 1) 0).length := by
        unfold skK; rw [if_pos ⟨rfl, by omega, by omega⟩]; simp
      rw [es, ek] at H8
      generalize enE s.data.toList (rrK4 s.data.toList k + 1 + (rs s.data.toList (rrK4 s.data.toList k + 1) 0).length) 0 = E at *
      generalize rrK4 s.data.toList k + 1 + (rs s.data.toList (rrK4 s.data.toList k + 1) 0).length = K6 at *
      generalize (rs s.data.toList (rrK4 s.data.toList k + 1) 0).length = L5 at *
      generalize rrK4 s.data.toList k + 1 = K5 at *
      generalize rrK4 s.data.toList k = K4 at *
      generalize rrK3 s.data.toList k = K3 at *
      generalize hv : Value.string s = v at *
      clear h0 h1 hT hT' hE hK5 hv b4' b5 b6 hs hsz hn c1 es ek hpos
      go_enter Tryz.func65, Tryz.ntmps65
      go_wp2_with (first
        | (go_at_call 68; with_reducible refine H1.out.mono ?_; clear H1; rintro x w1 ⟨rfl, hm⟩; have M1 := Lib.hid hm; clear hm)
        | (go_at_call 67; refine (H2.out _ M1.out.1).mono ?_; rintro x w2 ⟨rfl, hm⟩; have M2 := Lib.hid hm; have S2 := Lib.hid hm.1; clear hm)
        | (go_at_call 68; with_reducible refine (H3.out _ S2.out).mono ?_; clear H3; rintro x w3 ⟨rfl, hm⟩; have M3 := Lib.hid hm; clear hm)
        | (go_at_call 63; refine (H4.out _ M3.out.1).mono ?_; rintro x w4 ⟨⟨S, rfl, hS⟩, hm⟩; have M4 := Lib.hid hm; clear hm)
        | (go_at_call 42; refine (H5.out _ M4.out.1).mono ?_; rintro x w5 ⟨rfl, hm⟩; have M5 := Lib.hid hm; clear hm)
        | (go_at_call 64; refine (H7.out _ M5.out.1).mono ?_; rintro x w6 ⟨rfl, nl, rfl⟩)
        | (go_at_call 93; refine (H8.out _ (M5.out.1.drewN nl)).mono ?_; rintro x w7 ⟨rfl, hm⟩; have M7 := Lib.hid hm; clear hm)
        | (go_at_call 69; refine (H9.out _ M7.out.1).mono ?_; rintro x w8 ⟨rfl, nq, rfl⟩))
      refine bodyPost_ret (results_three11 rfl _ _ _) rfl ⟨rfl, ((((((M1.out.then_s M2.out).then_s M3.out).then_s M4.out).then_s M5.out).2.trans (gb_draw (gb_refl _ _) nl)).trans M7.out.2).trans (gb_draw (gb_refl _ _) nq)⟩
    · have hT' : rrT s.data.toList k = false := by rw [hT]; exact beq_eq_false_iff_ne.2 h1
      rw [hT', if_neg (by decide)] at hK5
      rw [hK5] at hE
      rw [hE]
      rw [show ((rs s.data.toList (rrK4 s.data.toList k) E3).head? == some (35 : UInt8)) = false from beq_eq_false_iff_ne.2 h1, if_neg h1] at H5
      have H6 := Lib.hid (fun w1 h1 => end_s g (rrK4 s.data.toList k) E3 (.string s) s w1 h1 rfl b4' hs)
      generalize enE s.data.toList (rrK4 s.data.toList k) E3 = E at *
      generalize rrK4 s.data.toList k = K4 at *
      generalize rrK3 s.data.toList k = K3 at *
      generalize hv : Value.string s = v at *
      clear h0 h1 hT hT' hE hK5 hv b4' hs hsz hpos
      go_enter Tryz.func65, Tryz.ntmps65
      go_wp2_with (first
        | (go_at_call 68; with_reducible refine H1.out.mono ?_; clear H1; rintro x w1 ⟨rfl, hm⟩; have M1 := Lib.hid hm; clear hm)
        | (go_at_call 67; refine (H2.out _ M1.out.1).mono ?_; rintro x w2 ⟨rfl, hm⟩; have M2 := Lib.hid hm; have S2 := Lib.hid hm.1; clear hm)
        | (go_at_call 68; with_reducible refine (H3.out _ S2.out).mono ?_; clear H3; rintro x w3 ⟨rfl, hm⟩; have M3 := Lib.hid hm; clear hm)
        | (go_at_call 63; refine (H4.out _ M3.out.1).mono ?_; rintro x w4 ⟨⟨S, rfl, hS⟩, hm⟩; have M4 := Lib.hid hm; clear hm)
        | (go_at_call 42; refine (H5.out _ M4.out.1).mono ?_; rintro x w5 ⟨rfl, hm⟩; have M5 := Lib.hid hm; clear hm)
        | (go_at_call 69; refine (H6.out _ M5.out.1).mono ?_; rintro x w8 ⟨rfl, nq, rfl⟩))
      refine bodyPost_ret (results_three11 rfl _ _ _) rfl ⟨rfl, ((((M1.out.then_s M2.out).then_s M3.out).then_s M4.out).then_s M5.out).2.trans (gb_draw (gb_refl _ _) nq)⟩

end Go.Proofs.YtdonicaiimeleaaGreatDoor
