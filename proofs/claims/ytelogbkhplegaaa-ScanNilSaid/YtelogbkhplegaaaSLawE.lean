/- ScanNil: what a nil scanner answers. -/
import Derived.Test.YtelogbkhplegaaaScanN
import Derived.Deep.RegionHeld3
import Derived.Laws.Concat
namespace Go.Proofs.Ytelogbkhplegaaa
open Go.RowKit
set_option linter.unusedVariables false

theorem heldd5 {W0 w' : World} {p1 p2 p3 p4 p5 : Addr} {x1 x2 x3 x4 x5 : Value} (h : Below W0.heap.size W0 w') (k1 : W0.cell? p1 = some x1) (k2 : W0.cell? p2 = some x2) (k3 : W0.cell? p3 = some x3) (k4 : W0.cell? p4 = some x4) (k5 : W0.cell? p5 = some x5) :
    w'.cell? p1 = some x1 ∧ w'.cell? p2 = some x2 ∧ w'.cell? p3 = some x3 ∧ w'.cell? p4 = some x4 ∧ w'.cell? p5 = some x5 ∧ Below W0.heap.size W0 w' :=
  ⟨(h.cell (World.block_lt_of_cell? _ _ k1)).trans k1, (h.cell (World.block_lt_of_cell? _ _ k2)).trans k2, (h.cell (World.block_lt_of_cell? _ _ k3)).trans k3, (h.cell (World.block_lt_of_cell? _ _ k4)).trans k4, (h.cell (World.block_lt_of_cell? _ _ k5)).trans k5, h⟩
set_option maxRecDepth 100000 in
set_option maxHeartbeats 3200000 in
theorem nil_walk (a : ActD) (w : World) (h : ActIn w a) :
    Calls Try.prog 5 #[.agg a.cells] w fun x w' => x = .returned (.bool true) ∧ Below w.heap.size w w' := by
  have HI := Lib.hid h
  clear h
  go_enter Try.func5, Try.ntmps5
  go_wp2_with fail
  have hk0 : Ak (w.alloc (.cells a.cells Ta)) w.heap.size a := heap_alloc_new w _
  have hb0 := (Below.refl w.heap.size w).alloc (Nat.le_refl _) (.cells a.cells Ta)
  generalize World.alloc w _ = W0 at hk0 hb0 ⊢
  refine (salive W0).mono ?_
  rintro x W1 ⟨rfl, hb⟩
  have K1 := Lib.hid (hk0.below hb hk0.lt)
  have B1 := Lib.hid (hb0.trans (hb.mono hb0.size))
  clear hb hk0 hb0
  obtain ⟨c, hc⟩ : ∃ c, c = w.heap.size := ⟨_, rfl⟩
  rw [← hc] at K1 ⊢
  clear hc
  have a0 := K1.out.cell 0; have a1 := K1.out.cell 1; have a2 := K1.out.cell 2; have a3 := K1.out.cell 3; have a4 := K1.out.cell 4; have a5 := K1.out.cell 5
  go_wp2_with fail
  have hk2 : Ak (W1.alloc (.cells a.cells Ta)) W1.heap.size a := heap_alloc_new W1 _
  have hb2 := (Below.refl W1.heap.size W1).alloc (Nat.le_refl _) (.cells a.cells Ta)
  have K2 := Lib.hid (K1.out.below hb2 K1.out.lt)
  have B2 := Lib.hid (B1.out.trans (hb2.mono B1.out.size))
  clear a0 a1 a2 a3 a4 a5 K1 B1 hb2
  generalize World.alloc W1 _ = W2 at hk2 K2 B2 ⊢
  generalize W1.heap.size = g at *
  have hok2 : a.Ok W2 := ⟨HI.out.1.k, HI.out.1.lo, HI.out.1.hi, HI.out.1.ls.below B2.out⟩
  have hra : Ra W2 (some ⟨g, 0, none⟩) [a] := by
    refine ⟨fun b hb => ?_, .inr ⟨g, 0, rfl, hk2.lt, fun j b hj i v hv => ?_⟩⟩
    · obtain rfl : b = a := by simpa using hb
      exact hok2
    · have hj0 : j = 0 := by have := (List.getElem?_eq_some_iff.1 hj).1; simpa using this
      subst hj0
      obtain rfl : a = b := by simpa using hj
      have := hk2.cell i
      rw [hv] at this
      simpa using this
  have hlo := long_any ⟨#[]⟩ (some ⟨g, 0, none⟩) [a] 1 W2 hra (show 1 ≤ maxLen by decide) (by decide) (fun b hb => by
    obtain rfl : b = a := by simpa using hb
    exact HI.out.2)
  have HLO := Lib.hid (show Calls Try.prog 7 #[.string ⟨#[]⟩, .slice (some ⟨g, 0, none⟩) 1 1] W2 fun x w' => x = .returned (.bool (lg ⟨#[]⟩ [a])) ∧ Below W2.heap.size W2 w' from hlo)
  have HOK := Lib.hid hok2
  clear hk2 hra hlo hok2
  cases hl : lg ⟨#[]⟩ [a]
  · obtain ⟨_, _, hsm⟩ := lg_no hl
    have hsma := hsm a (by simp)
    have HSM := Lib.hid hsma
    rw [hl] at HLO
    clear hsm hsma hl
    refine HLO.out.mono ?_
    rintro x W3 ⟨rfl, hb⟩
    have K3 := Lib.hid (K2.out.below hb K2.out.lt)
    have B3 := Lib.hid (B2.out.trans (hb.mono B2.out.size))
    have L3 := Lib.hid (HOK.out.ls.below hb)
    clear hb K2 B2 HLO HOK
    have a1 := K3.out.cell 1; have a2 := K3.out.cell 2; have a3 := K3.out.cell 3; have a4 := K3.out.cell 4; have a5 := K3.out.cell 5
    have k1 : W3.cell? ⟨c, 1, none⟩ = some (.int .u8 (a.b.toNat : Int)) := K3.out.cell 1
    have k2 : W3.cell? ⟨c, 2, none⟩ = some (.string a.word) := K3.out.cell 2
    have k3 : W3.cell? ⟨c, 3, none⟩ = some (.slice a.L a.list.length a.cl) := K3.out.cell 3
    have k4 : W3.cell? ⟨c, 4, none⟩ = some (.int .i64 a.least) := K3.out.cell 4
    have k5 : W3.cell? ⟨c, 5, none⟩ = some (.int .i64 a.most) := K3.out.cell 5
    clear a1 a2 a3 a4 a5
    go_wp2_with (first
      | (go_at_call 19; refine (nil_must _ _).mono ?_; rintro x w' ⟨rfl, rfl⟩)
      | (go_at_call 20; refine (nil_skip _ _).mono ?_; rintro x w' ⟨rfl, rfl⟩)
      | (go_at_call 21; refine (nil_fail _ _).mono ?_; rintro x w' ⟨rfl, rfl⟩)
      | (go_at_call 22; refine (nil_peek _).mono ?_; rintro x w' ⟨rfl, rfl⟩))
    have hln : a.list.length ≤ 100 := by have := HSM.out.list; omega
    obtain ⟨E, hE⟩ : ∃ E : ByteArray, E = ⟨#[]⟩ := ⟨_, rfl⟩
    have hEE : E ++ E = E := by rw [hE]; rfl
    have hE1 : E.toList.isEmpty = true := by rw [hE]; first | decide | simp
    have hadd : ∀ W, (Op.stringOp .add E E).run Try.prog W = .ok (.string E) W := fun W => by rw [run_string_add_sum _ E E (by rw [hE]; decide), hEE]
    have hEs : E.size ≤ 10 := by rw [hE]; decide
    have hNR := fun W => nil_run W a.word
    have hNU := fun W => nil_until W a.b
    rw [← hE] at hNR hNU
    have HNR := Lib.hid hNR; have HNU := Lib.hid hNU
    clear hE hNR hNU
    go_region_held3 (fun w' => w'.cell? ⟨c, 1, none⟩ = some (.int .u8 (a.b.toNat : Int)) ∧ w'.cell? ⟨c, 2, none⟩ = some (.string a.word) ∧ w'.cell? ⟨c, 3, none⟩ = some (.slice a.L a.list.length a.cl) ∧ w'.cell? ⟨c, 4, none⟩ = some (.int .i64 a.least) ∧ w'.cell? ⟨c, 5, none⟩ = some (.int .i64 a.most) ∧ Below W3.heap.size W3 w')
      (first | exact heldd5 (Below.refl _ _).drew k1 k2 k3 k4 k5 | exact heldd5 (by assumption) k1 k2 k3 k4 k5)
      (first
        | (go_at_call 14; refine (nil_at _).mono ?_; rintro x w' ⟨rfl, rfl⟩)
        | (go_at_call 18; refine (nil_left _).mono ?_; rintro x w' ⟨rfl, rfl⟩)
        | (go_at_call 23; refine (nil_take _ _).mono ?_; rintro x w' ⟨rfl, rfl⟩)
        | (go_at_call 24; refine (nil_fold _ _).mono ?_; rintro x w' ⟨rfl, rfl⟩)
        | (go_at_call 16; go_split_ands; refine (HNR.out _).mono ?_; rintro x w4 ⟨rfl, hb4⟩; have hB4 : Below W3.heap.size W3 w4 := Below.trans (by assumption) (hb4.mono (Below.size (w := W3) (B := W3.heap.size) (by assumption))); clear hb4)
        | (go_at_call 17; go_split_ands; refine (HNU.out _).mono ?_; rintro x w5 ⟨rfl, hb5⟩; have hB5 : Below W3.heap.size W3 w5 := Below.trans (by assumption) (hb5.mono (Below.size (w := W3) (B := W3.heap.size) (by assumption))); clear hb5)
        | (go_at_call 25; refine (nil_figures _ _ _).mono ?_; rintro x w' ⟨rfl, rfl⟩)
        | (go_at_call 26; go_split_ands; refine (nil_word _ _ _ _ (L3.out.below (by assumption)) hln).mono ?_; rintro x w' ⟨rfl, rfl⟩)
        | (go_at_call 15; refine (nil_err _).mono ?_; rintro x w' ⟨rfl, rfl⟩)
        | (go_at_call 28; refine (nil_end _).mono ?_; rintro x w' ⟨rfl, rfl⟩)
        | (go_at_call 27; refine (is_any 8 8 _ (by decide) (by decide)).mono ?_; rintro x w' ⟨rfl, rfl⟩))
    all_goals
      go_wp2
      go_ret
      exact ⟨rfl, B3.out.trans (hB5.mono B3.out.size)⟩
  · rw [hl] at HLO
    clear hl
    refine HLO.out.mono ?_
    rintro x W3 ⟨rfl, hb⟩
    have B3 := Lib.hid (B2.out.trans (hb.mono B2.out.size))
    clear hb B2
    go_wp2
    go_ret
    exact ⟨rfl, B3.out⟩
end Go.Proofs.Ytelogbkhplegaaa
