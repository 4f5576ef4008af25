/- Package scale: Tai, Listed, Posix, FromPosix, Label, TaiOf, PosixOf, Ahead, Between. Written by gen_sca.py. -/
import Derived.Test.YtiamggjebaabkaaDoorScaB
import Derived.Test.YtiamggjebaabkaaDoorLabE
namespace Go.Proofs.YtiamggjebaabkaaDoor
open Go.RowKit
set_option linter.unusedVariables false
set_option linter.unusedSimpArgs false

theorem Vr.ofN_bd {L : List Rw} (V : Vr L) (n : Int) : 0 ≤ ofN L n ∧ ofN L n ≤ 1000 := by
  unfold ofN
  split
  · omega
  · have := af_le L n
    exact V.off _ (by omega)
theorem Vr.taV_bd {L : List Rw} (V : Vr L) (l : Lb) : -1000000000000 ≤ taV L l ∧ taV L l ≤ 1000000000000 := by
  have := V.ofN_bd (lbN l)
  have := lbN_bd l
  have := lbT_bd l
  unfold taV
  split <;> omega
theorem lab_new (w : World) (l : Lb) : ∃ W0, W0 = w.alloc (.cells l.cells 26) ∧ Below w.heap.size w W0 ∧ Lk 26 W0 w.heap.size l := ⟨_, rfl, bel_new w _, lk_new _ _ _⟩

set_option maxHeartbeats 4000000 in
theorem tai12_bad {lo : Nat} {w : World} {g : Nat} {L : List Rw} {u e : Int} (l : Lb) (he : Ends w) (h : Tb lo w g L u e) (V : Vr L) (hk : lbE l ≠ 0) :
    Calls Tryd.prog 19 #[.pointer (some ⟨g, 0, none⟩), .agg l.cells] w fun x w' => x = .returned (.tuple #[.int .i64 0, ev (lbE l)]) ∧ Below w.heap.size w w' := by
  obtain ⟨W0, hW0, b0, l0⟩ := lab_new w l
  obtain ⟨c0, c1, c2, c3, c4, c5, c6, c7⟩ := l0.all
  have HS := Lib.hid (lsplit_any l W0 (he.below b0))
  have HB := Lib.hid b0
  have q0 := fun op t W x k => guard_ev op t W x k
  have q1 := fun W k => eql_ev W k
  have q2 := fun W k => neq_ev W k
  clear l0 he b0 h
  generalize lbE l = k at *
  generalize lbN l = n at *
  generalize lbT l = s at *
  have hkb : (k != 0) = true := bne_iff_ne.mpr hk
  clear hk
  go_enter Tryd.func19, Tryd.ntmps19
  go_upto_region 1 with fail
  rw [← hW0]; clear hW0
  go_wp2_with fail
  refine HS.out.mono ?_
  rintro e w1 ⟨rfl, hb⟩
  have B1 := Lib.hid (HB.out.trans (hb.mono HB.out.size))
  clear hb c0 c1 c2 c3 c4 c5 c6 c7
  go_wp2_with fail
  go_ret2
  exact ⟨rfl, B1.out⟩

set_option maxHeartbeats 4000000 in
theorem tai12_none {lo : Nat} {w : World} {g : Nat} {L : List Rw} {u e : Int} (l : Lb) (he : Ends w) (h : Tb lo w g L u e) (V : Vr L) (hk : lbE l = 0) (ho : ofB L (lbN l) = false) :
    Calls Tryd.prog 19 #[.pointer (some ⟨g, 0, none⟩), .agg l.cells] w fun x w' => x = .returned (.tuple #[.int .i64 0, ev 8]) ∧ Below w.heap.size w w' := by
  obtain ⟨W0, hW0, b0, l0⟩ := lab_new w l
  obtain ⟨c0, c1, c2, c3, c4, c5, c6, c7⟩ := l0.all
  have HS := Lib.hid (lsplit_any l W0 (he.below b0))
  have HB := Lib.hid b0
  have q0 := fun op t W x k => guard_ev op t W x k
  have q1 := fun W k => eql_ev W k
  have q2 := fun W k => neq_ev W k
  rw [hk] at HS
  have HO := Lib.hid (fun (W : World) (hb : Below w.heap.size w W) => offset_any (lbN l) (h.below hb).v (.inl V))
  rw [ho] at HO
  clear l0 he b0 h
  generalize ofN L (lbN l) = o at *
  generalize lbN l = n at *
  generalize lbT l = s at *
  clear ho
  go_enter Tryd.func19, Tryd.ntmps19
  go_upto_region 1 with fail
  rw [← hW0]; clear hW0
  go_wp2_with fail
  refine HS.out.mono ?_
  rintro e w1 ⟨rfl, hb⟩
  have B1 := Lib.hid (HB.out.trans (hb.mono HB.out.size))
  clear hb c0 c1 c2 c3 c4 c5 c6 c7
  go_wp2_with (first
    | (go_at_call 44; refine (HO.out _ B1.out).mono ?_; rintro e w2 ⟨rfl, hb⟩; have B2 := Lib.hid (B1.out.trans (hb.mono B1.out.size)); clear hb HO))
  go_ret2
  exact ⟨rfl, B2.out⟩

set_option maxHeartbeats 4000000 in
theorem tai12_leap {lo : Nat} {w : World} {g : Nat} {L : List Rw} {u e : Int} (l : Lb) (he : Ends w) (h : Tb lo w g L u e) (V : Vr L) (hk : lbE l = 0) (ho : ofB L (lbN l) = true) (hh : hsB L (lbN l) (lbT l) = false) :
    Calls Tryd.prog 19 #[.pointer (some ⟨g, 0, none⟩), .agg l.cells] w fun x w' => x = .returned (.tuple #[.int .i64 0, ev 12]) ∧ Below w.heap.size w w' := by
  obtain ⟨W0, hW0, b0, l0⟩ := lab_new w l
  obtain ⟨c0, c1, c2, c3, c4, c5, c6, c7⟩ := l0.all
  have HS := Lib.hid (lsplit_any l W0 (he.below b0))
  have HB := Lib.hid b0
  have q0 := fun op t W x k => guard_ev op t W x k
  have q1 := fun W k => eql_ev W k
  have q2 := fun W k => neq_ev W k
  rw [hk] at HS
  have HO := Lib.hid (fun (W : World) (hb : Below w.heap.size w W) => offset_any (lbN l) (h.below hb).v (.inl V))
  rw [ho] at HO
  have HH := Lib.hid (fun (W : World) (hb : Below w.heap.size w W) => has_any (lbN l) (lbT l) (h.below hb).v (.inl V))
  rw [show (decide (0 ≤ lbT l) && decide (lbT l < 86400 + lpN L (lbN l))) = hsB L (lbN l) (lbT l) from rfl] at HH
  rw [hh] at HH
  clear l0 he b0 h
  generalize ofN L (lbN l) = o at *
  generalize lbN l = n at *
  generalize lbT l = s at *
  clear ho hh
  go_enter Tryd.func19, Tryd.ntmps19
  go_upto_region 1 with fail
  rw [← hW0]; clear hW0
  go_wp2_with fail
  refine HS.out.mono ?_
  rintro e w1 ⟨rfl, hb⟩
  have B1 := Lib.hid (HB.out.trans (hb.mono HB.out.size))
  clear hb c0 c1 c2 c3 c4 c5 c6 c7
  go_wp2_with (first
    | (go_at_call 44; refine (HO.out _ B1.out).mono ?_; rintro e w2 ⟨rfl, hb⟩; have B2 := Lib.hid (B1.out.trans (hb.mono B1.out.size)); clear hb HO)
    | (go_at_call 43; refine (HH.out _ B2.out).mono ?_; rintro e w3 ⟨rfl, hb⟩; have B3 := Lib.hid (B2.out.trans (hb.mono B2.out.size)); clear hb HH))
  go_ret2
  exact ⟨rfl, B3.out⟩

set_option maxHeartbeats 4000000 in
theorem tai12_ok {lo : Nat} {w : World} {g : Nat} {L : List Rw} {u e : Int} (l : Lb) (he : Ends w) (h : Tb lo w g L u e) (V : Vr L) (hk : lbE l = 0) (ho : ofB L (lbN l) = true) (hh : hsB L (lbN l) (lbT l) = true) :
    Calls Tryd.prog 19 #[.pointer (some ⟨g, 0, none⟩), .agg l.cells] w fun x w' => x = .returned (.tuple #[.int .i64 (86400 * lbN l + lbT l + ofN L (lbN l)), ev 0]) ∧ Below w.heap.size w w' := by
  obtain ⟨W0, hW0, b0, l0⟩ := lab_new w l
  obtain ⟨c0, c1, c2, c3, c4, c5, c6, c7⟩ := l0.all
  have HS := Lib.hid (lsplit_any l W0 (he.below b0))
  have HB := Lib.hid b0
  have q0 := fun op t W x k => guard_ev op t W x k
  have q1 := fun W k => eql_ev W k
  have q2 := fun W k => neq_ev W k
  rw [hk] at HS
  have HO := Lib.hid (fun (W : World) (hb : Below w.heap.size w W) => offset_any (lbN l) (h.below hb).v (.inl V))
  rw [ho] at HO
  have HH := Lib.hid (fun (W : World) (hb : Below w.heap.size w W) => has_any (lbN l) (lbT l) (h.below hb).v (.inl V))
  rw [show (decide (0 ≤ lbT l) && decide (lbT l < 86400 + lpN L (lbN l))) = hsB L (lbN l) (lbT l) from rfl] at HH
  rw [hh] at HH
  have bn := lbN_bd l; have bt := lbT_bd l
  have HM := Lib.hid (fun w => machine_any (lbN l) (lbT l) w (by omega) (by omega) (by omega) (by omega))
  have pb : -900000000000 ≤ 86400 * lbN l + lbT l ∧ 86400 * lbN l + lbT l ≤ 900000000000 := by omega
  have ob := V.ofN_bd (lbN l)
  clear l0 he b0 h
  generalize 86400 * lbN l + lbT l = p at *
  generalize ofN L (lbN l) = o at *
  generalize lbN l = n at *
  generalize lbT l = s at *
  clear ho hh bn bt
  go_enter Tryd.func19, Tryd.ntmps19
  go_upto_region 1 with fail
  rw [← hW0]; clear hW0
  go_wp2_with fail
  refine HS.out.mono ?_
  rintro e w1 ⟨rfl, hb⟩
  have B1 := Lib.hid (HB.out.trans (hb.mono HB.out.size))
  clear hb c0 c1 c2 c3 c4 c5 c6 c7
  go_wp2_with (first
    | (go_at_call 44; refine (HO.out _ B1.out).mono ?_; rintro e w2 ⟨rfl, hb⟩; have B2 := Lib.hid (B1.out.trans (hb.mono B1.out.size)); clear hb HO)
    | (go_at_call 43; refine (HH.out _ B2.out).mono ?_; rintro e w3 ⟨rfl, hb⟩; have B3 := Lib.hid (B2.out.trans (hb.mono B2.out.size)); clear hb HH)
    | (go_at_call 35; refine (HM.out _).mono ?_; rintro e w' ⟨rfl, rfl⟩))
  go_ret2
  exact ⟨rfl, B3.out⟩

theorem tai12_any {lo : Nat} {w : World} {g : Nat} {L : List Rw} {u e : Int} (l : Lb) (he : Ends w) (h : Tb lo w g L u e) (V : Vr L) :
    Calls Tryd.prog 19 #[.pointer (some ⟨g, 0, none⟩), .agg l.cells] w fun x w' => x = .returned (.tuple #[.int .i64 (taV L l), ev (taE L l)]) ∧ Below w.heap.size w w' := by
  unfold taV
  by_cases hk : lbE l = 0
  · by_cases ho : ofB L (lbN l) = true
    · by_cases hh : hsB L (lbN l) (lbT l) = true
      · have e : taE L l = 0 := by unfold taE; rw [if_pos hk, if_pos ho, if_pos hh]
        rw [e, if_pos rfl]
        exact tai12_ok l he h V hk ho hh
      · have e : taE L l = 12 := by unfold taE; rw [if_pos hk, if_pos ho, if_neg hh]
        rw [e, if_neg (by decide)]
        exact tai12_leap l he h V hk ho (by simpa using hh)
    · have e : taE L l = 8 := by unfold taE; rw [if_pos hk, if_neg ho]
      rw [e, if_neg (by decide)]
      exact tai12_none l he h V hk (by simpa using ho)
  · have e : taE L l = lbE l := if_neg hk
    rw [e, if_neg hk]
    exact tai12_bad l he h V hk

set_option maxHeartbeats 4000000 in
theorem listed12_bad {lo : Nat} {w : World} {g : Nat} {L : List Rw} {u e : Int} (l : Lb) (he : Ends w) (h : Tb lo w g L u e) (V : Vr L) (hk : lbE l ≠ 0) :
    Calls Tryd.prog 18 #[.pointer (some ⟨g, 0, none⟩), .agg l.cells] w fun x w' => x = .returned (ev (lbE l)) ∧ Below w.heap.size w w' := by
  obtain ⟨W0, hW0, b0, l0⟩ := lab_new w l
  obtain ⟨c0, c1, c2, c3, c4, c5, c6, c7⟩ := l0.all
  have HS := Lib.hid (lsplit_any l W0 (he.below b0))
  have HB := Lib.hid b0
  have q0 := fun op t W x k => guard_ev op t W x k
  have q1 := fun W k => eql_ev W k
  have q2 := fun W k => neq_ev W k
  clear l0 he b0 h
  generalize lbE l = k at *
  generalize lbN l = n at *
  generalize lbT l = s at *
  have hkb : (k != 0) = true := bne_iff_ne.mpr hk
  clear hk
  go_enter Tryd.func18, Tryd.ntmps18
  go_upto_region 1 with fail
  rw [← hW0]; clear hW0
  go_wp2_with fail
  refine HS.out.mono ?_
  rintro e w1 ⟨rfl, hb⟩
  have B1 := Lib.hid (HB.out.trans (hb.mono HB.out.size))
  clear hb c0 c1 c2 c3 c4 c5 c6 c7
  go_wp2_with fail
  go_ret
  exact ⟨rfl, B1.out⟩

set_option maxHeartbeats 4000000 in
theorem listed12_leap {lo : Nat} {w : World} {g : Nat} {L : List Rw} {u e : Int} (l : Lb) (he : Ends w) (h : Tb lo w g L u e) (V : Vr L) (hk : lbE l = 0) (hh : hsB L (lbN l) (lbT l) = false) :
    Calls Tryd.prog 18 #[.pointer (some ⟨g, 0, none⟩), .agg l.cells] w fun x w' => x = .returned (ev 12) ∧ Below w.heap.size w w' := by
  obtain ⟨W0, hW0, b0, l0⟩ := lab_new w l
  obtain ⟨c0, c1, c2, c3, c4, c5, c6, c7⟩ := l0.all
  have HS := Lib.hid (lsplit_any l W0 (he.below b0))
  have HB := Lib.hid b0
  have q0 := fun op t W x k => guard_ev op t W x k
  have q1 := fun W k => eql_ev W k
  have q2 := fun W k => neq_ev W k
  rw [hk] at HS
  have HH := Lib.hid (fun (W : World) (hb : Below w.heap.size w W) => has_any (lbN l) (lbT l) (h.below hb).v (.inl V))
  rw [show (decide (0 ≤ lbT l) && decide (lbT l < 86400 + lpN L (lbN l))) = hsB L (lbN l) (lbT l) from rfl] at HH
  rw [hh] at HH
  clear l0 he b0 h
  generalize lbN l = n at *
  generalize lbT l = s at *
  clear hh
  go_enter Tryd.func18, Tryd.ntmps18
  go_upto_region 1 with fail
  rw [← hW0]; clear hW0
  go_wp2_with fail
  refine HS.out.mono ?_
  rintro e w1 ⟨rfl, hb⟩
  have B1 := Lib.hid (HB.out.trans (hb.mono HB.out.size))
  clear hb c0 c1 c2 c3 c4 c5 c6 c7
  go_wp2_with (first
    | (go_at_call 43; refine (HH.out _ B1.out).mono ?_; rintro e w3 ⟨rfl, hb⟩; have B3 := Lib.hid (B1.out.trans (hb.mono B1.out.size)); clear hb HH))
  go_ret
  exact ⟨rfl, B3.out⟩

set_option maxHeartbeats 4000000 in
theorem listed12_ok {lo : Nat} {w : World} {g : Nat} {L : List Rw} {u e : Int} (l : Lb) (he : Ends w) (h : Tb lo w g L u e) (V : Vr L) (hk : lbE l = 0) (hh : hsB L (lbN l) (lbT l) = true) :
    Calls Tryd.prog 18 #[.pointer (some ⟨g, 0, none⟩), .agg l.cells] w fun x w' => x = .returned (ev 0) ∧ Below w.heap.size w w' := by
  obtain ⟨W0, hW0, b0, l0⟩ := lab_new w l
  obtain ⟨c0, c1, c2, c3, c4, c5, c6, c7⟩ := l0.all
  have HS := Lib.hid (lsplit_any l W0 (he.below b0))
  have HB := Lib.hid b0
  have q0 := fun op t W x k => guard_ev op t W x k
  have q1 := fun W k => eql_ev W k
  have q2 := fun W k => neq_ev W k
  rw [hk] at HS
  have HH := Lib.hid (fun (W : World) (hb : Below w.heap.size w W) => has_any (lbN l) (lbT l) (h.below hb).v (.inl V))
  rw [show (decide (0 ≤ lbT l) && decide (lbT l < 86400 + lpN L (lbN l))) = hsB L (lbN l) (lbT l) from rfl] at HH
  rw [hh] at HH
  clear l0 he b0 h
  generalize lbN l = n at *
  generalize lbT l = s at *
  clear hh
  go_enter Tryd.func18, Tryd.ntmps18
  go_upto_region 1 with fail
  rw [← hW0]; clear hW0
  go_wp2_with fail
  refine HS.out.mono ?_
  rintro e w1 ⟨rfl, hb⟩
  have B1 := Lib.hid (HB.out.trans (hb.mono HB.out.size))
  clear hb c0 c1 c2 c3 c4 c5 c6 c7
  go_wp2_with (first
    | (go_at_call 43; refine (HH.out _ B1.out).mono ?_; rintro e w3 ⟨rfl, hb⟩; have B3 := Lib.hid (B1.out.trans (hb.mono B1.out.size)); clear hb HH))
  go_ret
  exact ⟨rfl, B3.out⟩

theorem listed12_any {lo : Nat} {w : World} {g : Nat} {L : List Rw} {u e : Int} (l : Lb) (he : Ends w) (h : Tb lo w g L u e) (V : Vr L) :
    Calls Tryd.prog 18 #[.pointer (some ⟨g, 0, none⟩), .agg l.cells] w fun x w' => x = .returned (ev (liE L l)) ∧ Below w.heap.size w w' := by
  by_cases hk : lbE l = 0
  · by_cases hh : hsB L (lbN l) (lbT l) = true
    · have e : liE L l = 0 := by unfold liE; rw [if_pos hk, if_pos hh]
      rw [e]
      exact listed12_ok l he h V hk hh
    · have e : liE L l = 12 := by unfold liE; rw [if_pos hk, if_neg hh]
      rw [e]
      exact listed12_leap l he h V hk (by simpa using hh)
  · have e : liE L l = lbE l := if_neg hk
    rw [e]
    exact listed12_bad l he h V hk

set_option maxHeartbeats 4000000 in
theorem posix12_bad (l : Lb) (w : World) (he : Ends w) (hk : lbE l ≠ 0) :
    Calls Tryd.prog 10 #[.agg l.cells] w fun x w' => x = .returned (.tuple #[.int .i64 0, ev (lbE l)]) ∧ Below w.heap.size w w' := by
  obtain ⟨W0, hW0, b0, l0⟩ := lab_new w l
  obtain ⟨c0, c1, c2, c3, c4, c5, c6, c7⟩ := l0.all
  have HS := Lib.hid (lsplit_any l W0 (he.below b0))
  have HB := Lib.hid b0
  have q0 := fun op t W x k => guard_ev op t W x k
  have q1 := fun W k => eql_ev W k
  have q2 := fun W k => neq_ev W k
  clear l0 he b0
  generalize lbE l = k at *
  generalize lbN l = n at *
  generalize lbT l = s at *
  have hkb : (k != 0) = true := bne_iff_ne.mpr hk
  clear hk
  go_enter Tryd.func10, Tryd.ntmps10
  go_upto_region 1 with fail
  rw [← hW0]; clear hW0
  go_wp2_with fail
  refine HS.out.mono ?_
  rintro e w1 ⟨rfl, hb⟩
  have B1 := Lib.hid (HB.out.trans (hb.mono HB.out.size))
  clear hb c0 c1 c2 c3 c4 c5 c6 c7
  go_wp2_with fail
  go_ret2
  exact ⟨rfl, B1.out⟩

set_option maxHeartbeats 4000000 in
theorem posix12_ok (l : Lb) (w : World) (he : Ends w) (hk : lbE l = 0) :
    Calls Tryd.prog 10 #[.agg l.cells] w fun x w' => x = .returned (.tuple #[.int .i64 (86400 * lbN l + lbT l), ev 0]) ∧ Below w.heap.size w w' := by
  obtain ⟨W0, hW0, b0, l0⟩ := lab_new w l
  obtain ⟨c0, c1, c2, c3, c4, c5, c6, c7⟩ := l0.all
  have HS := Lib.hid (lsplit_any l W0 (he.below b0))
  have HB := Lib.hid b0
  have q0 := fun op t W x k => guard_ev op t W x k
  have q1 := fun W k => eql_ev W k
  have q2 := fun W k => neq_ev W k
  rw [hk] at HS
  have bn := lbN_bd l; have bt := lbT_bd l
  have HM := Lib.hid (fun w => machine_any (lbN l) (lbT l) w (by omega) (by omega) (by omega) (by omega))
  have pb : -900000000000 ≤ 86400 * lbN l + lbT l ∧ 86400 * lbN l + lbT l ≤ 900000000000 := by omega
  clear l0 he b0
  generalize 86400 * lbN l + lbT l = p at *
  generalize lbN l = n at *
  generalize lbT l = s at *
  clear bn bt
  go_enter Tryd.func10, Tryd.ntmps10
  go_upto_region 1 with fail
  rw [← hW0]; clear hW0
  go_wp2_with fail
  refine HS.out.mono ?_
  rintro e w1 ⟨rfl, hb⟩
  have B1 := Lib.hid (HB.out.trans (hb.mono HB.out.size))
  clear hb c0 c1 c2 c3 c4 c5 c6 c7
  go_wp2_with (first
    | (go_at_call 35; refine (HM.out _).mono ?_; rintro e w' ⟨rfl, rfl⟩))
  go_ret2
  exact ⟨rfl, B1.out⟩

theorem posix12_any (l : Lb) (w : World) (he : Ends w) :
    Calls Tryd.prog 10 #[.agg l.cells] w fun x w' => x = .returned (.tuple #[.int .i64 (poV l), ev (lbE l)]) ∧ Below w.heap.size w w' := by
  unfold poV
  by_cases hk : lbE l = 0
  · rw [if_pos hk]
    have := posix12_ok l w he hk
    rwa [← hk] at this
  · rw [if_neg hk]
    exact posix12_bad l w he hk

/-- A label is the result: its box, stored into. -/
theorem put8_end {w W : World} {q : Nat} {l0 : Lb} (g : Lk 26 W q l0) (b : Below w.heap.size w W) (hq : w.heap.size ≤ q) (K : Lb) :
    Lk 26 (put8 W q K.y K.m K.d K.h K.i K.s K.n K.o) q K ∧ Below w.heap.size w (put8 W q K.y K.m K.d K.h K.i K.s K.n K.o) := ⟨put8_lk g K.y K.m K.d K.h K.i K.s K.n K.o, put8_below b hq K.y K.m K.d K.h K.i K.s K.n K.o⟩

set_option maxHeartbeats 4000000 in
theorem frompos_any (p nn o : Int) (w : World) (hp : fits p) (he : Ends w) {L : Lb} (hL : Mk (p / 86400) (p % 86400) nn o L) :
    Calls Tryd.prog 27 #[.int .i64 p, .int .i64 nn, .int .i64 o] w fun x w' => x = .returned (.tuple #[.agg L.cells, ev (mkE (p / 86400) (p % 86400) nn o)]) ∧ Below w.heap.size w w' := by
  obtain ⟨W0, hW0, b0, l0⟩ := lab_new w lb0
  have HSp := Lib.hid (fun w => split12_any p w hp)
  have HO := Lib.hid (lof_any (p / 86400) (p % 86400) nn o W0 (he.below b0) hL)
  have Z0 := Lib.hid l0; have B0 := Lib.hid b0
  clear hp he hL b0 l0
  obtain ⟨y, m, d, h, i, s, n, oo⟩ := L
  change Hid (Calls _ _ _ _ fun e w' => e = .returned (.tuple #[.agg #[.int .i64 y, .int .i64 m, .int .i64 d, .int .i64 h, .int .i64 i, .int .i64 s, .int .i64 n, .int .i64 oo], _]) ∧ _) at HO
  show Calls _ _ _ _ fun e w' => e = .returned (.tuple #[.agg #[.int .i64 y, .int .i64 m, .int .i64 d, .int .i64 h, .int .i64 i, .int .i64 s, .int .i64 n, .int .i64 oo], _]) ∧ _
  generalize mkE (p / 86400) (p % 86400) nn o = E at *
  generalize p / 86400 = a at *
  generalize p % 86400 = b at *
  go_enter Tryd.func27, Tryd.ntmps27
  go_upto_region 1 with fail
  rw [show w.alloc (.cells #[.int .i64 0, .int .i64 0, .int .i64 0, .int .i64 0, .int .i64 0, .int .i64 0, .int .i64 0, .int .i64 0] 26) = W0 from hW0.symm]
  clear hW0
  go_wp2_with (first
    | (go_at_call 49; refine (HSp.out _).mono ?_; rintro e w' ⟨rfl, rfl⟩)
    | fail)
  refine HO.out.mono ?_
  rintro e w2 ⟨rfl, hb⟩
  have Z2 := Lib.hid (Z0.out.keep hb)
  have B2 := Lib.hid (B0.out.trans (hb.mono B0.out.size))
  clear hb
  obtain ⟨f0, f1, f2, f3, f4, f5, f6, f7⟩ := Z2.out.frees
  obtain ⟨c0, c1, c2, c3, c4, c5, c6, c7⟩ := Z2.out.all
  go_wp2_with fail
  have hP := put8_lk Z2.out y m d h i s n oo
  have hB := put8_below B2.out (Nat.le_refl _) y m d h i s n oo
  obtain ⟨W9, hW9⟩ : ∃ W9, W9 = put8 w2 (w.heap.size) y m d h i s n oo := ⟨_, rfl⟩
  rw [← hW9] at hP hB
  show bodyPost _ _ _ _ _ (put8 w2 (w.heap.size) y m d h i s n oo)
  rw [← hW9]
  clear hW9
  obtain ⟨r0, r1, r2, r3, r4, r5, r6, r7⟩ := hP.all
  clear hP
  refine bodyPost_ret (v := .tuple #[.agg #[.int .i64 y, .int .i64 m, .int .i64 d, .int .i64 h, .int .i64 i, .int .i64 s, .int .i64 n, .int .i64 oo], ev E]) (by simp [results, Tryd.results27, go_sem, ev, r0, r1, r2, r3, r4, r5, r6, r7]) rfl ⟨rfl, hB⟩

/-- The label of atomic seconds, and its error. -/
def mlE (L : List Rw) (t nn o : Int) : Int := if tpE L t = 0 then mkE (tpN L t) (tpS L t) nn o else tpE L t
def Ml (L : List Rw) (t nn o : Int) (K : Lb) : Prop := (tpE L t = 0 ∧ Mk (tpN L t) (tpS L t) nn o K) ∨ (tpE L t ≠ 0 ∧ K = lb0)
theorem ml_ex (L : List Rw) (t nn o : Int) : ∃ K, Ml L t nn o K := by
  by_cases h : tpE L t = 0
  · obtain ⟨K, hK⟩ := mk_ex (tpN L t) (tpS L t) nn o
    exact ⟨K, .inl ⟨h, hK⟩⟩
  · exact ⟨lb0, .inr ⟨h, rfl⟩⟩
theorem mlE_lo (L : List Rw) (t nn o : Int) : 0 ≤ mlE L t nn o ∧ mlE L t nn o < 100 := by
  unfold mlE
  split
  · exact mkE_lo _ _ _ _
  · exact tpE_lo _ _
set_option maxHeartbeats 4000000 in
theorem label12_any {lo : Nat} {w : World} {g : Nat} {L : List Rw} {u e : Int} (t nn o : Int) (ht : fits t) (he : Ends w) (h : Tb lo w g L u e) (V : Vr L) {K : Lb} (hK : Ml L t nn o K) :
    Calls Tryd.prog 21 #[.pointer (some ⟨g, 0, none⟩), .int .i64 t, .int .i64 nn, .int .i64 o] w fun x w' => x = .returned (.tuple #[.agg K.cells, ev (mlE L t nn o)]) ∧ Below w.heap.size w w' := by
  obtain ⟨W0, hW0, b0, l0⟩ := lab_new w lb0
  have HM := Lib.hid (moment_any t ht (h.below b0) V)
  have E0 := Lib.hid (he.below b0)
  have Z0 := Lib.hid l0; have B0 := Lib.hid b0
  have q0 := fun op t W x k => guard_ev op t W x k
  have q1 := fun W k => eql_ev W k
  have q2 := fun W k => neq_ev W k
  clear b0 l0 h ht he
  rcases hK with ⟨h0, hK⟩ | ⟨h0, rfl⟩
  · have HO := Lib.hid (fun W he => lof_any (tpN L t) (tpS L t) nn o W he hK)
    have e1 : tvN L t = tpN L t := if_pos h0
    have e2 : tvS L t = tpS L t := if_pos h0
    rw [e1, e2, h0] at HM
    rw [show mlE L t nn o = mkE (tpN L t) (tpS L t) nn o from if_pos h0]
    clear hK h0 e1 e2 V
    obtain ⟨y, m, d, h, i, s, n, oo⟩ := K
    change Hid (∀ W, Ends W → Calls _ _ _ _ fun e w' => e = .returned (.tuple #[.agg #[.int .i64 y, .int .i64 m, .int .i64 d, .int .i64 h, .int .i64 i, .int .i64 s, .int .i64 n, .int .i64 oo], _]) ∧ _) at HO
    show Calls _ _ _ _ fun e w' => e = .returned (.tuple #[.agg #[.int .i64 y, .int .i64 m, .int .i64 d, .int .i64 h, .int .i64 i, .int .i64 s, .int .i64 n, .int .i64 oo], _]) ∧ _
    generalize mkE (tpN L t) (tpS L t) nn o = E at *
    generalize tpN L t = a at *
    generalize tpS L t = b at *
    go_enter Tryd.func21, Tryd.ntmps21
    go_upto_region 1 with fail
    rw [show w.alloc (.cells #[.int .i64 0, .int .i64 0, .int .i64 0, .int .i64 0, .int .i64 0, .int .i64 0, .int .i64 0, .int .i64 0] 26) = W0 from hW0.symm]
    clear hW0
    go_wp2_with fail
    refine HM.out.mono ?_
    rintro e w1 ⟨rfl, hb⟩
    have Z1 := Lib.hid (Z0.out.keep hb)
    have B1 := Lib.hid (B0.out.trans (hb.mono B0.out.size))
    have E1 := Lib.hid (E0.out.below hb)
    clear hb
    go_wp2_with fail
    refine (HO.out _ E1.out).mono ?_
    rintro e w2 ⟨rfl, hb⟩
    have Z2 := Lib.hid (Z1.out.keep hb)
    have B2 := Lib.hid (B1.out.trans (hb.mono B1.out.size))
    clear hb
    obtain ⟨f0, f1, f2, f3, f4, f5, f6, f7⟩ := Z2.out.frees
    obtain ⟨c0, c1, c2, c3, c4, c5, c6, c7⟩ := Z2.out.all
    go_wp2_with fail
    have hP := put8_lk Z2.out y m d h i s n oo
    have hB := put8_below B2.out (Nat.le_refl _) y m d h i s n oo
    obtain ⟨W9, hW9⟩ : ∃ W9, W9 = put8 w2 (w.heap.size) y m d h i s n oo := ⟨_, rfl⟩
    rw [← hW9] at hP hB
    show bodyPost _ _ _ _ _ (put8 w2 (w.heap.size) y m d h i s n oo)
    rw [← hW9]
    clear hW9
    obtain ⟨r0, r1, r2, r3, r4, r5, r6, r7⟩ := hP.all
    clear hP
    refine bodyPost_ret (v := .tuple #[.agg #[.int .i64 y, .int .i64 m, .int .i64 d, .int .i64 h, .int .i64 i, .int .i64 s, .int .i64 n, .int .i64 oo], ev E]) (by simp [results, Tryd.results21, go_sem, ev, r0, r1, r2, r3, r4, r5, r6, r7]) rfl ⟨rfl, hB⟩
  · rw [show mlE L t nn o = tpE L t from if_neg h0]
    have hkb : (tpE L t != 0) = true := bne_iff_ne.mpr h0
    have e1 : tvN L t = 0 := if_neg h0
    have e2 : tvS L t = 0 := if_neg h0
    rw [e1, e2] at HM
    clear h0 e1 e2 V
    show Calls _ _ _ _ fun e w' => e = .returned (.tuple #[.agg #[.int .i64 0, .int .i64 0, .int .i64 0, .int .i64 0, .int .i64 0, .int .i64 0, .int .i64 0, .int .i64 0], _]) ∧ _
    generalize tpE L t = E at *
    go_enter Tryd.func21, Tryd.ntmps21
    go_upto_region 1 with fail
    rw [show w.alloc (.cells #[.int .i64 0, .int .i64 0, .int .i64 0, .int .i64 0, .int .i64 0, .int .i64 0, .int .i64 0, .int .i64 0] 26) = W0 from hW0.symm]
    clear hW0
    go_wp2_with fail
    refine HM.out.mono ?_
    rintro e w2 ⟨rfl, hb⟩
    have Z2 := Lib.hid (Z0.out.keep hb)
    have B2 := Lib.hid (B0.out.trans (hb.mono B0.out.size))
    clear hb
    obtain ⟨f0, f1, f2, f3, f4, f5, f6, f7⟩ := Z2.out.frees
    obtain ⟨c0, c1, c2, c3, c4, c5, c6, c7⟩ := Z2.out.all
    go_wp2_with fail
    have hP := put8_lk Z2.out 0 0 0 0 0 0 0 0
    have hB := put8_below B2.out (Nat.le_refl _) 0 0 0 0 0 0 0 0
    obtain ⟨W9, hW9⟩ : ∃ W9, W9 = put8 w2 (w.heap.size) 0 0 0 0 0 0 0 0 := ⟨_, rfl⟩
    rw [← hW9] at hP hB
    show bodyPost _ _ _ _ _ (put8 w2 (w.heap.size) 0 0 0 0 0 0 0 0)
    rw [← hW9]
    clear hW9
    obtain ⟨r0, r1, r2, r3, r4, r5, r6, r7⟩ := hP.all
    clear hP
    refine bodyPost_ret (v := .tuple #[.agg #[.int .i64 0, .int .i64 0, .int .i64 0, .int .i64 0, .int .i64 0, .int .i64 0, .int .i64 0, .int .i64 0], ev E]) (by simp [results, Tryd.results21, go_sem, ev, r0, r1, r2, r3, r4, r5, r6, r7]) rfl ⟨rfl, hB⟩

/-- The atomic seconds of machine seconds, and their error. -/
def toE (L : List Rw) (p : Int) (K : Lb) : Int := if mkE (p / 86400) (p % 86400) 0 0 = 0 then taE L K else mkE (p / 86400) (p % 86400) 0 0
def toV (L : List Rw) (p : Int) (K : Lb) : Int := if mkE (p / 86400) (p % 86400) 0 0 = 0 then taV L K else 0
theorem toE_lo (L : List Rw) (p : Int) (K : Lb) : 0 ≤ toE L p K ∧ toE L p K < 100 := by
  unfold toE
  split
  · exact taE_lo _ _
  · exact mkE_lo _ _ _ _
set_option maxHeartbeats 4000000 in
theorem taiof_any {lo : Nat} {w : World} {g : Nat} {L : List Rw} {u e : Int} (p : Int) (hp : fits p) (he : Ends w) (h : Tb lo w g L u e) (V : Vr L) {K : Lb} (hK : Mk (p / 86400) (p % 86400) 0 0 K) :
    Calls Tryd.prog 29 #[.pointer (some ⟨g, 0, none⟩), .int .i64 p] w fun x w' => x = .returned (.tuple #[.int .i64 (toV L p K), ev (toE L p K)]) ∧ Below w.heap.size w w' := by
  have HF := Lib.hid (frompos_any p 0 0 w hp he hK)
  have HT := Lib.hid (fun W (hb : Below w.heap.size w W) => tai12_any K (he.below hb) (h.below hb) V)
  change Hid (Calls _ _ _ _ fun e w' => e = .returned (.tuple #[.agg #[.int .i64 K.y, .int .i64 K.m, .int .i64 K.d, .int .i64 K.h, .int .i64 K.i, .int .i64 K.s, .int .i64 K.n, .int .i64 K.o], _]) ∧ _) at HF
  have q0 := fun op t W x k => guard_ev op t W x k
  have q1 := fun W k => eql_ev W k
  have q2 := fun W k => neq_ev W k
  unfold toV toE
  clear hp he h V hK
  by_cases h0 : mkE (p / 86400) (p % 86400) 0 0 = 0
  · rw [if_pos h0, if_pos h0]
    rw [h0] at HF
    clear h0
    generalize taV L K = tv at *
    generalize taE L K = te at *
    go_enter Tryd.func29, Tryd.ntmps29
    go_wp2_with fail
    refine HF.out.mono ?_
    rintro e w1 ⟨rfl, hb⟩
    have B1 := Lib.hid hb
    clear hb
    obtain ⟨W1, hW1, b1, l1⟩ := lab_new w1 K
    change W1 = w1.alloc (.cells #[.int .i64 K.y, .int .i64 K.m, .int .i64 K.d, .int .i64 K.h, .int .i64 K.i, .int .i64 K.s, .int .i64 K.n, .int .i64 K.o] 26) at hW1
    go_upto_region 2 with fail
    rw [← hW1]
    have B2 := Lib.hid (B1.out.trans (b1.mono B1.out.size))
    obtain ⟨c0, c1, c2, c3, c4, c5, c6, c7⟩ := l1.all
    clear hW1 b1 l1 B1
    go_wp2_with fail
    refine (HT.out _ B2.out).mono ?_
    rintro e w2 ⟨rfl, hb⟩
    have B3 := Lib.hid (B2.out.trans (hb.mono B2.out.size))
    clear hb
    go_wp2_with fail
    go_ret2
    exact ⟨rfl, B3.out⟩
  · rw [if_neg h0, if_neg h0]
    have hkb : (mkE (p / 86400) (p % 86400) 0 0 != 0) = true := bne_iff_ne.mpr h0
    clear h0 HT
    generalize mkE (p / 86400) (p % 86400) 0 0 = E at *
    go_enter Tryd.func29, Tryd.ntmps29
    go_wp2_with fail
    refine HF.out.mono ?_
    rintro e w1 ⟨rfl, hb⟩
    have B1 := Lib.hid hb
    clear hb
    go_wp2_with fail
    go_ret2
    exact ⟨rfl, B1.out.alloc B1.out.size _⟩

/-- What PosixOf and Ahead answer. -/
def pfV (L : List Rw) (t : Int) : Int := if tpE L t = 0 then 86400 * tpN L t + tpS L t else 0
def pfB (L : List Rw) (t : Int) : Bool := if tpE L t = 0 then tpS L t == 86400 else false
def ahV (L : List Rw) (t : Int) : Int := if tpE L t = 0 then ofN L (tpN L t) else 0
theorem tpE_zero {L : List Rw} {t : Int} (h : tpE L t = 0) : abg L t ≠ 0 ∧ tpN L t ≤ 2932896 := by
  unfold tpE at h
  split at h
  · cases h
  · split at h
    · cases h
    · exact ⟨by assumption, by omega⟩
set_option maxHeartbeats 4000000 in
theorem posixof_any {lo : Nat} {w : World} {g : Nat} {L : List Rw} {u e : Int} (t : Int) (ht : fits t) (h : Tb lo w g L u e) (V : Vr L) :
    Calls Tryd.prog 24 #[.pointer (some ⟨g, 0, none⟩), .int .i64 t] w fun x w' => x = .returned (.tuple #[.int .i64 (pfV L t), .bool (pfB L t), ev (tpE L t)]) ∧ Below w.heap.size w w' := by
  have HM := Lib.hid (moment_any t ht h V)
  have q0 := fun op t W x k => guard_ev op t W x k
  have q1 := fun W k => eql_ev W k
  have q2 := fun W k => neq_ev W k
  unfold pfV pfB
  unfold tvN tvS at HM
  by_cases h0 : tpE L t = 0
  · obtain ⟨z0, z1⟩ := tpE_zero h0
    obtain ⟨b1, b2, b3, b4, b5⟩ := tp_bd V z0
    rw [if_pos h0, if_pos h0, h0] at HM ⊢
    have HMa := Lib.hid (fun w => machine_any (tpN L t) (tpS L t) w (by omega) (by omega) (by omega) (by omega))
    clear h ht V h0 z0 z1 b1 b2 b3 b4 b5
    generalize 86400 * tpN L t + tpS L t = p at *
    generalize tpN L t = a at *
    generalize tpS L t = b at *
    go_enter Tryd.func24, Tryd.ntmps24
    go_wp2_with fail
    refine HM.out.mono ?_
    rintro e w1 ⟨rfl, hb⟩
    have B1 := Lib.hid hb
    clear hb
    go_wp2_with (go_at_call 35; refine (HMa.out _).mono ?_; rintro e w' ⟨rfl, rfl⟩)
    go_ret3
    exact ⟨rfl, B1.out⟩
  · have hkb : (tpE L t != 0) = true := bne_iff_ne.mpr h0
    rw [if_neg h0, if_neg h0] at HM ⊢
    clear h ht V h0
    generalize tpE L t = E at *
    go_enter Tryd.func24, Tryd.ntmps24
    go_wp2_with fail
    refine HM.out.mono ?_
    rintro e w1 ⟨rfl, hb⟩
    have B1 := Lib.hid hb
    clear hb
    go_wp2_with fail
    go_ret3
    exact ⟨rfl, B1.out⟩
set_option maxHeartbeats 4000000 in
theorem ahead_any {lo : Nat} {w : World} {g : Nat} {L : List Rw} {u e : Int} (t : Int) (ht : fits t) (h : Tb lo w g L u e) (V : Vr L) :
    Calls Tryd.prog 25 #[.pointer (some ⟨g, 0, none⟩), .int .i64 t] w fun x w' => x = .returned (.tuple #[.int .i64 (ahV L t), ev (tpE L t)]) ∧ Below w.heap.size w w' := by
  have HM := Lib.hid (moment_any t ht h V)
  have q0 := fun op t W x k => guard_ev op t W x k
  have q1 := fun W k => eql_ev W k
  have q2 := fun W k => neq_ev W k
  unfold ahV
  unfold tvN tvS at HM
  by_cases h0 : tpE L t = 0
  · rw [if_pos h0, if_pos h0, h0] at HM
    rw [if_pos h0, h0]
    have HO := Lib.hid (fun (W : World) (hb : Below w.heap.size w W) => offset_any (tpN L t) (h.below hb).v (.inl V))
    clear h ht V h0
    generalize ofN L (tpN L t) = oo at *
    generalize ofB L (tpN L t) = ob at *
    generalize tpN L t = a at *
    generalize tpS L t = b at *
    go_enter Tryd.func25, Tryd.ntmps25
    go_wp2_with fail
    refine HM.out.mono ?_
    rintro e w1 ⟨rfl, hb⟩
    have B1 := Lib.hid hb
    clear hb
    go_wp2_with (go_at_call 44; refine (HO.out _ B1.out).mono ?_; rintro e w2 ⟨rfl, hb⟩; have B2 := Lib.hid (B1.out.trans (hb.mono B1.out.size)); clear hb HO)
    go_ret2
    exact ⟨rfl, B2.out⟩
  · have hkb : (tpE L t != 0) = true := bne_iff_ne.mpr h0
    rw [if_neg h0, if_neg h0] at HM
    rw [if_neg h0]
    clear h ht V h0
    generalize tpE L t = E at *
    go_enter Tryd.func25, Tryd.ntmps25
    go_wp2_with fail
    refine HM.out.mono ?_
    rintro e w1 ⟨rfl, hb⟩
    have B1 := Lib.hid hb
    clear hb
    go_wp2_with fail
    go_ret2
    exact ⟨rfl, B1.out⟩

end Go.Proofs.YtiamggjebaabkaaDoor
