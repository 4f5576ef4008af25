/- Merged: PosV. -/
import Derived.Test.YtkhcneacjnpcnaaGPosixParses47
import Derived.Test.YtkhcneacjnpcnaaGPosixParses48
import Derived.Test.YtkhcneacjnpcnaaGPosixParses49
import Derived.Test.YtkhcneacjnpcnaaGPosixParses50
import Derived.Test.YtkhcneacjnpcnaaGPosixParses51
import Derived.Test.YtkhcneacjnpcnaaGPosixParses52
import Derived.Test.YtkhcneacjnpcnaaGPosixParses53
namespace Go.Proofs.Ytkhcneacjnpcnaa
open Go.RowKit
set_option linter.unusedVariables false
set_option linter.unusedSimpArgs false

theorem head_lt {s : ByteArray} {k : Nat} (h : (s.data.toList.drop k).head? = some 44) : k < s.size := by
  have hsz : s.data.toList.length = s.size := by simp
  rcases Nat.lt_or_ge k s.size with c | c
  · exact c
  · rw [List.drop_eq_nil_of_le (by omega)] at h; cases h
theorem head_at {s : ByteArray} {k : Nat} (hk : k < s.size) : (s.data.toList.drop k).head? = some s[k] := by
  have hsz : s.data.toList.length = s.size := by simp
  rw [List.drop_eq_getElem_cons (by rw [hsz]; exact hk)]; rfl
theorem ne_44 (c : UInt8) : ((c.toNat : Int) != 44) = (c != 44) := by
  have := (byte_eq c 44).2
  rw [show ((44 : UInt8).toNat : Int) = 44 from rfl] at this
  rw [this]; rfl
theorem is_44 {s : ByteArray} {k : Nat} (hk : k < s.size) (h : (s.data.toList.drop k).head? = some 44) : ((s[k].toNat : Int) != 44) = false := by
  rw [head_at hk] at h; injection h with h; rw [h]; rfl
theorem not_44 {s : ByteArray} {k : Nat} (hk : k < s.size) (h : ¬ (s.data.toList.drop k).head? = some 44) : ((s[k].toNat : Int) != 44) = true := by
  rw [head_at hk] at h; rw [ne_44]; exact bne_iff_ne.2 (fun c => h (by rw [c]))
/-- An offset: where it ends, what it is. -/
theorem off_facts (s : ByteArray) (k : Nat) (hk : k ≤ s.size) (hs : s.size ≤ 200) :
    k ≤ ofK s.data.toList k 0 ∧ ofK s.data.toList k 0 ≤ s.size ∧
    (∀ w, Calls Try.prog 14 #[.string s, .int .i64 (k : Int)] w fun x w' => x = .returned (.int .i64 ((ofK s.data.toList k 0 : Nat) : Int)) ∧ w = w') ∧
    (∀ w, Calls Try.prog 15 #[.string (s.extract k (ofK s.data.toList k 0)), .int .i64 24] w fun x w' => x = .returned (.tuple #[.int .i64 (pcN (ofS s.data.toList k 0) 24), .int .i64 (pcE (ofS s.data.toList k 0) 24)]) ∧ Below w.heap.size w w') := by
  obtain ⟨e1, e2, -⟩ := of_there s.data.toList k
  have le := twl_le clB s hk
  have pt := twl_part clB s k
  rw [← e2] at le pt
  rw [← e1] at pt
  refine ⟨by rw [e2]; omega, le, fun w => ?_, fun w => ?_⟩
  · have := dclock_any s k w hk (by omega)
    rw [← e2] at this
    exact this
  · have := rparseclock_any (s.extract k (ofK s.data.toList k 0)) 24 w (by rw [ByteArray.size_extract]; omega)
    rw [pt] at this
    exact this
/-- A rule: where it ends, what it is. -/
theorem rule_facts (s : ByteArray) (k : Nat) (h : (s.data.toList.drop k).head? = some 44) (hs : s.size ≤ 200) :
    k + 1 ≤ chK s.data.toList k 0 ∧ chK s.data.toList k 0 ≤ s.size ∧
    Hid (∀ j (h : j < s.size), k + 1 ≤ j → j < chK s.data.toList k 0 → ((s[j].toNat : Int) != 44) = true) ∧ Hid (∀ h : chK s.data.toList k 0 < s.size, ((s[chK s.data.toList k 0].toNat : Int) != 44) = false) ∧
    (∀ w, Calls Try.prog 16 #[.string (s.extract (k + 1) (chK s.data.toList k 0))] w fun x w' => x = .returned (.tuple #[.agg (rpV (chS s.data.toList k 0)).cells, .int .i64 (rpE (chS s.data.toList k 0))]) ∧ Below w.heap.size w w') := by
  have hsz : s.data.toList.length = s.size := by simp
  have hk := head_lt h
  obtain ⟨-, e1, e2, -⟩ := ch_there h
  have le := twl_le (· != 44) s (k := k + 1) (by omega)
  have pt := twl_part (· != 44) s (k + 1)
  obtain ⟨a1, a2⟩ := twl_at (· != 44) s.data.toList (k + 1)
  have eQ : k + 1 + ((s.data.toList.drop (k + 1)).takeWhile (· != 44)).length = chK s.data.toList k 0 := e2.symm
  simp only [eQ] at le pt a1 a2
  have pt2 : (s.extract (k + 1) (chK s.data.toList k 0)).data.toList = chS s.data.toList k 0 := by rw [e1]; exact pt
  refine ⟨by rw [e2]; omega, le, Lib.hid (fun j h h1 h2 => by rw [ne_44]; exact a1 j (by rw [hsz]; exact h) h1 h2), Lib.hid (fun h => by rw [ne_44]; exact a2 (by rw [hsz]; exact h)), fun w => ?_⟩
  have := rparse16_any (s.extract (k + 1) (chK s.data.toList k 0)) w (by rw [ByteArray.size_extract]; omega)
  rw [pt2] at this
  exact this
theorem name_facts (s : ByteArray) (k : Nat) (hk : k ≤ s.size) (hs : s.size ≤ 200) (h : naE s.data.toList k 0 = 0) :
    naK s.data.toList k 0 ≤ s.size ∧ ∀ w, Calls Try.prog 13 #[.string s, .int .i64 (k : Int)] w fun x w' => x = .returned (.tuple #[.string ⟨(naS s.data.toList k 0).toArray⟩, .int .i64 ((naK s.data.toList k 0 : Nat) : Int)]) ∧ w = w' := by
  have hsz : s.data.toList.length = s.size := by simp
  refine ⟨by have := naK_le s.data.toList (k := k) 0 (by omega); omega, fun w => ?_⟩
  have := dname17_any s k w hk (by omega)
  rw [if_pos h, if_pos h] at this
  exact this
theorem name_none (s : ByteArray) (k : Nat) (hk : k ≤ s.size) (hs : s.size ≤ 200) (h : ¬ naE s.data.toList k 0 = 0) :
    ∀ w, Calls Try.prog 13 #[.string s, .int .i64 (k : Int)] w fun x w' => x = .returned (.tuple #[.string ⟨#[]⟩, .int .i64 (-1)]) ∧ w = w' := fun w => by
  have := dname17_any s k w hk (by omega)
  rw [if_neg h, if_neg h] at this
  exact this
def bd17 (e : Int) : Prop := 0 ≤ e ∧ e < 100
theorem flE_bd {e b : Int} (h : bd17 e) (hb : bd17 b) : bd17 (flE e b) := by unfold flE; split <;> assumption
theorem mcE_bd (c : UInt8) (l : List UInt8) (k : Nat) {e : Int} (h : bd17 e) : bd17 (mcE c l k e) := by
  unfold mcE; split
  · exact h
  · exact flE_bd h (by unfold bd17; decide)
theorem naE_bd (l : List UInt8) (k : Nat) {e : Int} (h : bd17 e) : bd17 (naE l k e) := by
  have hF : bd17 (naF l k e) := by
    unfold naF; split
    · exact mcE_bd _ _ _ h
    · exact h
  unfold naE; split
  · exact hF
  · exact flE_bd hF (by unfold bd17; decide)
theorem ofE_bd (l : List UInt8) (k : Nat) {e : Int} (h : bd17 e) : bd17 (ofE l k e) := by
  unfold ofE; split
  · exact h
  · exact flE_bd h (pcE_bd _ _)
theorem adE_bd (l : List UInt8) (k : Nat) {e : Int} (h : bd17 e) : bd17 (adE l k e) := by
  unfold adE; split
  · exact h
  · exact ofE_bd _ _ h
theorem chE_bd (l : List UInt8) (k : Nat) {e : Int} (h : bd17 e) : bd17 (chE l k e) := by
  unfold chE; split
  · exact mcE_bd _ _ _ h
  · exact flE_bd (mcE_bd _ _ _ h) (rpE_bd _)
theorem psE_bd (l : List UInt8) : bd17 (psE l) := by
  have h1 : bd17 (p1E l) := by unfold p1E; exact naE_bd _ _ (by unfold bd17; decide)
  have h2 : bd17 (p2E l) := by unfold p2E; exact ofE_bd _ _ h1
  have h3 : bd17 (p3E l) := by unfold p3E; exact naE_bd _ _ h2
  have h4 : bd17 (p4E l) := by unfold p4E; exact adE_bd _ _ h3
  have h5 : bd17 (p5E l) := by unfold p5E; exact chE_bd _ _ h4
  have h6 : bd17 (p6E l) := by unfold p6E; exact chE_bd _ _ h5
  have hf : bd17 (plF l) := by
    unfold plF; split
    · exact h2
    · exact h6
  clear h1 h2 h3 h4 h5 h6
  obtain ⟨f, hF⟩ : ∃ f, f = plF l := ⟨_, rfl⟩
  rw [← hF] at hf
  have he : bd17 (enE l (plK l) f) := by
    unfold enE; split
    · unfold bd17; decide
    · exact hf
  unfold psE
  rw [← hF]
  split
  · exact plE_bd _
  · exact he
set_option maxHeartbeats 4000000 in
theorem dparse17_any (s : ByteArray) (w : World) (hs : s.size ≤ 200) :
    Calls Try.prog 6 #[.string s] w fun x w' => x = .returned (.tuple #[.agg (psV s.data.toList).cells, .int .i64 (psE s.data.toList)]) ∧ Below w.heap.size w w' := by
  have hsz : s.data.toList.length = s.size := by simp
  by_cases h1 : naE s.data.toList 0 0 = 0
  case neg =>
    obtain ⟨z, v⟩ := way_a h1
    rw [z, v]
    exact dpar_a s w hs _ _ (by decide) (Lib.hid (name_none s 0 (Nat.zero_le _) hs h1))
  obtain ⟨k1le, HN1⟩ := name_facts s 0 (Nat.zero_le _) hs h1
  have wb := fun b => @way_b s.data.toList b h1
  have wc := @way_c s.data.toList h1
  have wd := @way_d s.data.toList h1
  have g3 := @go_3 s.data.toList h1
  obtain ⟨kP1, lP1, HC1, HP1⟩ := off_facts s (naK s.data.toList 0 0) k1le hs
  have oE1 := (of_there s.data.toList (naK s.data.toList 0 0)).2.2
  have nb := clk_all (ofS s.data.toList (naK s.data.toList 0 0) 0)
  have ob : ofN s.data.toList (naK s.data.toList 0 0) 0 = -pcN (ofS s.data.toList (naK s.data.toList 0 0) 0) 24 := rfl
  have hO : IntKind.i64.wrap (0 - pcN (ofS s.data.toList (naK s.data.toList 0 0) 0) 24) = ofN s.data.toList (naK s.data.toList 0 0) 0 := by rw [IntWalk.i64_in _ (by omega), ob]; omega
  have hO3 : IntKind.i64.wrap (-pcN (ofS s.data.toList (naK s.data.toList 0 0) 0) 24) = ofN s.data.toList (naK s.data.toList 0 0) 0 := by rw [IntWalk.i64_in _ (by omega), ob]
  have oo : ofN s.data.toList (naK s.data.toList 0 0) 0 = ofN s.data.toList (p1K s.data.toList) (p1E s.data.toList) := by
    have : p1E s.data.toList = 0 := h1
    rw [this]; rfl
  by_cases hb : pcE (ofS s.data.toList (naK s.data.toList 0 0) 0) 24 = 0
  case neg =>
    obtain ⟨z, v⟩ := wb _ oE1 hb
    rw [z, v]
    exact dpar_b s w hs _ _ _ _ _ 0 _ kP1 lP1 rfl (ne_yes hb) (Lib.hid HN1) (Lib.hid HC1) (Lib.hid HP1)
  rw [hb] at HP1 oE1
  by_cases hP : ofK s.data.toList (naK s.data.toList 0 0) 0 = s.size
  case pos =>
    obtain ⟨z, v⟩ := wc oE1 (by rw [hP, hsz])
    rw [z, v]
    exact dpar_c s w hs _ _ _ _ 0 _ _ kP1 lP1 rfl hO hO3 (beq_iff_eq.2 hP) (eq_yes (by omega)) (Lib.hid HN1) (Lib.hid HC1) (Lib.hid HP1)
  have tP : (ofK s.data.toList (naK s.data.toList 0 0) 0 == s.size) = false := beq_eq_false_iff_ne.2 hP
  have tP2 : (((ofK s.data.toList (naK s.data.toList 0 0) 0 : Nat) : Int) == (s.size : Int)) = false := eq_no (by omega)
  have ltP : ofK s.data.toList (naK s.data.toList 0 0) 0 < s.data.toList.length := by omega
  by_cases h3 : naE s.data.toList (ofK s.data.toList (naK s.data.toList 0 0) 0) 0 = 0
  case neg =>
    obtain ⟨z, v⟩ := wd oE1 ltP h3
    rw [z, v]
    exact dpar_d s w hs _ _ _ _ 0 _ _ kP1 lP1 rfl hO hO3 tP tP2 _ _ (by decide) (Lib.hid HN1) (Lib.hid HC1) (Lib.hid HP1) (Lib.hid (name_none s _ lP1 hs h3))
  obtain ⟨k3le, HN2⟩ := name_facts s _ lP1 hs h3
  have G2 := g3 oE1 ltP h3
  have hA : IntKind.i64.wrap (ofN s.data.toList (naK s.data.toList 0 0) 0 + 3600) = ofN s.data.toList (naK s.data.toList 0 0) 0 + 3600 := IntWalk.i64_in _ (by omega)
  have ob2 := ofN_bd s.data.toList (naK s.data.toList 0 0) 0
  generalize ofN s.data.toList (naK s.data.toList 0 0) 0 = o at *
  generalize pcN (ofS s.data.toList (naK s.data.toList 0 0) 0) 24 = n1 at *
  generalize naK s.data.toList 0 0 = k1 at *
  generalize ofK s.data.toList k1 0 = P1 at *
  generalize naK s.data.toList P1 0 = k3 at *
  by_cases h44 : (s.data.toList.drop k3).head? = some 44
  · have l3 := head_lt h44
    have G4 := G2.usual h44
    have u44 := is_44 l3 h44
    obtain ⟨kQ1, lQ1, HA1, HZ1, HR1⟩ := rule_facts s k3 h44 hs
    by_cases hr1 : rpE (chS s.data.toList k3 0) = 0
    case neg =>
      obtain ⟨z, v⟩ := way_g G4 h44 hr1
      rw [z, v]
      exact dpar_ug s w hs _ _ _ _ 0 _ _ kP1 lP1 rfl hO hO3 tP tP2 _ _ _ hA l3 u44 _ kQ1 _ _ _ _ _ _ _ rfl lQ1 (ne_yes hr1) (Lib.hid HN1) (Lib.hid HC1) (Lib.hid HP1) (Lib.hid HN2) HA1 HZ1 (Lib.hid HR1)
    rw [hr1] at HR1
    by_cases h5 : (s.data.toList.drop (chK s.data.toList k3 0)).head? = some 44
    case neg =>
      obtain ⟨z, v⟩ := way_h G4 h44 hr1 h5
      rw [z, v]
      have q1 : s.size ≤ chK s.data.toList k3 0 := by
        rcases Nat.lt_or_ge (chK s.data.toList k3 0) s.size with c | c
        · have := HZ1.out c
          rw [not_44 c h5] at this; cases this
        · omega
      exact dpar_uh s w hs _ _ _ _ 0 _ _ kP1 lP1 rfl hO hO3 tP tP2 _ _ _ hA l3 u44 _ kQ1 _ _ _ _ _ _ 0 rfl lQ1 q1 (Lib.hid HN1) (Lib.hid HC1) (Lib.hid HP1) (Lib.hid HN2) HA1 HZ1 (Lib.hid HR1)
    have l5 := head_lt h5
    obtain ⟨kQ2, lQ2, HA2, HZ2, HR2⟩ := rule_facts s _ h5 hs
    by_cases hr2 : rpE (chS s.data.toList (chK s.data.toList k3 0) 0) = 0
    case neg =>
      obtain ⟨z, v⟩ := way_i G4 h44 hr1 rfl h5 hr2
      rw [z, v]
      exact dpar_ui s w hs _ _ _ _ 0 _ _ kP1 lP1 rfl hO hO3 tP tP2 _ _ _ hA l3 u44 _ kQ1 _ _ _ _ _ _ 0 rfl l5 _ kQ2 _ _ _ _ _ _ _ rfl lQ2 (ne_yes hr2) (Lib.hid HN1) (Lib.hid HC1) (Lib.hid HP1) (Lib.hid HN2) HA1 HZ1 (Lib.hid HR1) HA2 HZ2 (Lib.hid HR2)
    rw [hr2] at HR2
    obtain ⟨w1, w2, w3⟩ := way_l G4 h44 hr1 rfl h5 hr2 rfl (by omega) oo
    rcases Nat.lt_or_ge (chK s.data.toList (chK s.data.toList k3 0) 0) s.size with c | c
    · obtain ⟨z, v⟩ := w1 (by omega)
      rw [z, v]
      exact dpar_uj s w hs _ _ _ _ 0 _ _ kP1 lP1 rfl hO hO3 tP tP2 _ _ _ hA l3 u44 _ kQ1 _ _ _ _ _ _ 0 rfl l5 _ kQ2 _ _ _ _ _ _ 0 rfl c (Lib.hid HN1) (Lib.hid HC1) (Lib.hid HP1) (Lib.hid HN2) HA1 HZ1 (Lib.hid HR1) HA2 HZ2 (Lib.hid HR2)
    · have q2 : s.size ≤ chK s.data.toList (chK s.data.toList k3 0) 0 := c
      by_cases d : 89999 < (o + 3600)
      · obtain ⟨z, v⟩ := w2 (by omega) d
        rw [z, v]
        exact dpar_uk s w hs _ _ _ _ 0 _ _ kP1 lP1 rfl hO hO3 tP tP2 _ _ _ hA l3 u44 _ kQ1 _ _ _ _ _ _ 0 rfl l5 _ kQ2 _ _ _ _ _ _ 0 rfl lQ2 q2 (decide_eq_true d) (Lib.hid HN1) (Lib.hid HC1) (Lib.hid HP1) (Lib.hid HN2) HA1 HZ1 (Lib.hid HR1) HA2 HZ2 (Lib.hid HR2)
      · obtain ⟨z, v⟩ := w3 (by omega) d
        rw [z, v]
        exact dpar_ul s w hs _ _ _ _ 0 _ _ kP1 lP1 rfl hO hO3 tP tP2 _ _ _ hA l3 u44 _ kQ1 _ _ _ _ _ _ 0 rfl l5 _ kQ2 _ _ _ _ _ _ 0 rfl lQ2 q2 (decide_eq_false d) (Lib.hid HN1) (Lib.hid HC1) (Lib.hid HP1) (Lib.hid HN2) HA1 HZ1 (Lib.hid HR1) HA2 HZ2 (Lib.hid HR2)
  · rcases Nat.lt_or_ge k3 s.size with l3 | l3
    · have t44 := not_44 l3 h44
      obtain ⟨kP2, lP2, HC2, HP2⟩ := off_facts s k3 k3le hs
      have oE2 := (of_there s.data.toList k3).2.2
      have nb2 := clk_all (ofS s.data.toList k3 0)
      have obb : ofN s.data.toList k3 0 = -pcN (ofS s.data.toList k3 0) 24 := rfl
      have hA2 : IntKind.i64.wrap (0 - pcN (ofS s.data.toList k3 0) 24) = ofN s.data.toList k3 0 := by rw [IntWalk.i64_in _ (by omega), obb]; omega
      have hA3 : IntKind.i64.wrap (-pcN (ofS s.data.toList k3 0) 24) = ofN s.data.toList k3 0 := by rw [IntWalk.i64_in _ (by omega), obb]
      have ab := ofN_bd s.data.toList k3 0
      by_cases hb2 : pcE (ofS s.data.toList k3 0) 24 = 0
      case neg =>
        obtain ⟨z, v⟩ := way_e G2 h44 oE2 hb2
        rw [z, v]
        exact dpar_te s w hs _ _ _ _ 0 _ _ kP1 lP1 rfl hO hO3 tP tP2 _ _ _ hA l3 t44 _ _ _ 0 _ kP2 lP2 rfl (ne_yes hb2) (Lib.hid HN1) (Lib.hid HC1) (Lib.hid HP1) (Lib.hid HN2) (Lib.hid HC2) (Lib.hid HP2)
      rw [hb2] at HP2 oE2
      have G4 := G2.told h44 oE2
      generalize ofN s.data.toList k3 0 = a at *
      generalize pcN (ofS s.data.toList k3 0) 24 = n2 at *
      generalize ofK s.data.toList k3 0 = P2 at *
      by_cases h4 : (s.data.toList.drop P2).head? = some 44
      case neg =>
        obtain ⟨z, v⟩ := way_f G4 h4
        rw [z, v]
        rcases Nat.lt_or_ge P2 s.size with l4 | l4
        · exact dpar_tx s w hs _ _ _ _ 0 _ _ kP1 lP1 rfl hO hO3 tP tP2 _ _ _ hA l3 t44 _ _ 0 _ _ kP2 lP2 rfl hA2 hA3 l4 (not_44 l4 h4) (Lib.hid HN1) (Lib.hid HC1) (Lib.hid HP1) (Lib.hid HN2) (Lib.hid HC2) (Lib.hid HP2)
        · exact dpar_tf s w hs _ _ _ _ 0 _ _ kP1 lP1 rfl hO hO3 tP tP2 _ _ _ hA l3 t44 _ _ 0 _ _ kP2 lP2 rfl hA2 hA3 l4 (Lib.hid HN1) (Lib.hid HC1) (Lib.hid HP1) (Lib.hid HN2) (Lib.hid HC2) (Lib.hid HP2)
      have l4 := head_lt h4
      have v44 := is_44 l4 h4
      obtain ⟨kQ1, lQ1, HA1, HZ1, HR1⟩ := rule_facts s P2 h4 hs
      by_cases hr1 : rpE (chS s.data.toList P2 0) = 0
      case neg =>
        obtain ⟨z, v⟩ := way_g G4 h4 hr1
        rw [z, v]
        exact dpar_tg s w hs _ _ _ _ 0 _ _ kP1 lP1 rfl hO hO3 tP tP2 _ _ _ hA l3 t44 _ _ 0 _ _ kP2 lP2 rfl hA2 hA3 l4 v44 _ kQ1 _ _ _ _ _ _ _ rfl lQ1 (ne_yes hr1) (Lib.hid HN1) (Lib.hid HC1) (Lib.hid HP1) (Lib.hid HN2) (Lib.hid HC2) (Lib.hid HP2) HA1 HZ1 (Lib.hid HR1)
      rw [hr1] at HR1
      by_cases h5 : (s.data.toList.drop (chK s.data.toList P2 0)).head? = some 44
      case neg =>
        obtain ⟨z, v⟩ := way_h G4 h4 hr1 h5
        rw [z, v]
        have q1 : s.size ≤ chK s.data.toList P2 0 := by
          rcases Nat.lt_or_ge (chK s.data.toList P2 0) s.size with c | c
          · have := HZ1.out c
            rw [not_44 c h5] at this; cases this
          · omega
        exact dpar_th s w hs _ _ _ _ 0 _ _ kP1 lP1 rfl hO hO3 tP tP2 _ _ _ hA l3 t44 _ _ 0 _ _ kP2 lP2 rfl hA2 hA3 l4 v44 _ kQ1 _ _ _ _ _ _ 0 rfl lQ1 q1 (Lib.hid HN1) (Lib.hid HC1) (Lib.hid HP1) (Lib.hid HN2) (Lib.hid HC2) (Lib.hid HP2) HA1 HZ1 (Lib.hid HR1)
      have l5 := head_lt h5
      obtain ⟨kQ2, lQ2, HA2, HZ2, HR2⟩ := rule_facts s _ h5 hs
      by_cases hr2 : rpE (chS s.data.toList (chK s.data.toList P2 0) 0) = 0
      case neg =>
        obtain ⟨z, v⟩ := way_i G4 h4 hr1 rfl h5 hr2
        rw [z, v]
        exact dpar_ti s w hs _ _ _ _ 0 _ _ kP1 lP1 rfl hO hO3 tP tP2 _ _ _ hA l3 t44 _ _ 0 _ _ kP2 lP2 rfl hA2 hA3 l4 v44 _ kQ1 _ _ _ _ _ _ 0 rfl l5 _ kQ2 _ _ _ _ _ _ _ rfl lQ2 (ne_yes hr2) (Lib.hid HN1) (Lib.hid HC1) (Lib.hid HP1) (Lib.hid HN2) (Lib.hid HC2) (Lib.hid HP2) HA1 HZ1 (Lib.hid HR1) HA2 HZ2 (Lib.hid HR2)
      rw [hr2] at HR2
      obtain ⟨w1, w2, w3⟩ := way_l G4 h4 hr1 rfl h5 hr2 rfl (by omega) oo
      rcases Nat.lt_or_ge (chK s.data.toList (chK s.data.toList P2 0) 0) s.size with c | c
      · obtain ⟨z, v⟩ := w1 (by omega)
        rw [z, v]
        exact dpar_tj s w hs _ _ _ _ 0 _ _ kP1 lP1 rfl hO hO3 tP tP2 _ _ _ hA l3 t44 _ _ 0 _ _ kP2 lP2 rfl hA2 hA3 l4 v44 _ kQ1 _ _ _ _ _ _ 0 rfl l5 _ kQ2 _ _ _ _ _ _ 0 rfl c (Lib.hid HN1) (Lib.hid HC1) (Lib.hid HP1) (Lib.hid HN2) (Lib.hid HC2) (Lib.hid HP2) HA1 HZ1 (Lib.hid HR1) HA2 HZ2 (Lib.hid HR2)
      · have q2 : s.size ≤ chK s.data.toList (chK s.data.toList P2 0) 0 := c
        by_cases d : 89999 < a
        · obtain ⟨z, v⟩ := w2 (by omega) d
          rw [z, v]
          exact dpar_tk s w hs _ _ _ _ 0 _ _ kP1 lP1 rfl hO hO3 tP tP2 _ _ _ hA l3 t44 _ _ 0 _ _ kP2 lP2 rfl hA2 hA3 l4 v44 _ kQ1 _ _ _ _ _ _ 0 rfl l5 _ kQ2 _ _ _ _ _ _ 0 rfl lQ2 q2 (decide_eq_true d) (Lib.hid HN1) (Lib.hid HC1) (Lib.hid HP1) (Lib.hid HN2) (Lib.hid HC2) (Lib.hid HP2) HA1 HZ1 (Lib.hid HR1) HA2 HZ2 (Lib.hid HR2)
        · obtain ⟨z, v⟩ := w3 (by omega) d
          rw [z, v]
          exact dpar_tl s w hs _ _ _ _ 0 _ _ kP1 lP1 rfl hO hO3 tP tP2 _ _ _ hA l3 t44 _ _ 0 _ _ kP2 lP2 rfl hA2 hA3 l4 v44 _ kQ1 _ _ _ _ _ _ 0 rfl l5 _ kQ2 _ _ _ _ _ _ 0 rfl lQ2 q2 (decide_eq_false d) (Lib.hid HN1) (Lib.hid HC1) (Lib.hid HP1) (Lib.hid HN2) (Lib.hid HC2) (Lib.hid HP2) HA1 HZ1 (Lib.hid HR1) HA2 HZ2 (Lib.hid HR2)
    · have e2 : ofE s.data.toList k3 0 = 2 := by
        obtain ⟨c1, -, c3⟩ := of_there s.data.toList k3
        rw [c3, c1, List.drop_eq_nil_of_le (by omega)]; decide
      obtain ⟨z, v⟩ := way_e G2 h44 e2 (by decide)
      rw [z, v]
      exact dpar_uf s w hs _ _ _ _ 0 _ _ kP1 lP1 rfl hO hO3 tP tP2 _ _ _ hA l3 (Lib.hid HN1) (Lib.hid HC1) (Lib.hid HP1) (Lib.hid HN2)
set_option maxRecDepth 100000 in
set_option maxHeartbeats 4000000 in
theorem alive17_any (w : World) : Calls Try.prog 4 #[] w fun x w' => x = .returned (.bool true) ∧ Below w.heap.size w w' := by
  have q0 := fun op t W x k => guard_ev op t W x k
  have q1 := fun W k => eql_ev W k
  have q2 := fun W k => neq_ev W k
  have HP := parse17_any ⟨#[69, 83, 84, 53, 69, 68, 84, 44, 77, 51, 46, 50, 46, 48, 44, 77, 49, 49, 46, 49, 46, 48]⟩ w (by decide)
  rw [show (⟨#[69, 83, 84, 53, 69, 68, 84, 44, 77, 51, 46, 50, 46, 48, 44, 77, 49, 49, 46, 49, 46, 48]⟩ : ByteArray).data.toList = aL from rfl, ps_alive.1, ps_alive.2] at HP
  have HP : Hid (Calls Try.prog 5 #[.string ⟨#[69, 83, 84, 53, 69, 68, 84, 44, 77, 51, 46, 50, 46, 48, 44, 77, 49, 49, 46, 49, 46, 48]⟩] w fun x w' => x = .returned (.tuple #[.agg #[.string ⟨#[69, 83, 84]⟩, .string ⟨#[69, 68, 84]⟩, .int .i64 (-18000), .int .i64 (-14400), .int .i64 3, .int .i64 3, .int .i64 2, .int .i64 0, .int .i64 7200, .int .i64 3, .int .i64 11, .int .i64 1, .int .i64 0, .int .i64 7200], ev 0]) ∧ Below w.heap.size w w') := Lib.hid HP
  go_enter Try.func4, Try.ntmps4
  go_wp2_with (go_at_call 5; refine HP.out.mono ?_; rintro x w1 ⟨rfl, hb⟩; have B := Lib.hid hb; clear hb)
  go_ret
  exact ⟨rfl, B.out.alloc B.out.size _⟩
set_option maxHeartbeats 4000000 in
theorem prs17_long (s : ByteArray) (w : World) (hs : 200 < s.size) (hs2 : s.size ≤ maxLen) :
    Calls Try.prog 3 #[.string s] w fun x w' => x = .returned (.bool true) ∧ Below w.heap.size w w' := by
  unfold maxLen at hs2
  have t1 : decide ((200 : Int) < (s.size : Int)) = true := decide_eq_true (by omega)
  have HA := Lib.hid (fun w => alive17_any w)
  clear hs
  go_enter Try.func3, Try.ntmps3
  go_wp2_with (go_at_call 4; refine (HA.out _).mono ?_; rintro x w1 ⟨rfl, hb⟩; have B := Lib.hid hb; clear hb)
  go_ret
  exact ⟨rfl, B.out⟩
set_option maxRecDepth 100000 in
set_option maxHeartbeats 16000000 in
theorem prs17_walk (Q : Pl) (E : Int) (s : ByteArray) (w : World) (hs : s.size ≤ 200)
    (HP : Hid (∀ w, Calls Try.prog 5 #[.string s] w fun x w' => x = .returned (.tuple #[.agg #[.string ⟨Q.N.toArray⟩, .string ⟨Q.S.toArray⟩, .int .i64 Q.O, .int .i64 Q.A, .int .i64 Q.B.K, .int .i64 Q.B.M, .int .i64 Q.B.W, .int .i64 Q.B.D, .int .i64 Q.B.T, .int .i64 Q.E.K, .int .i64 Q.E.M, .int .i64 Q.E.W, .int .i64 Q.E.D, .int .i64 Q.E.T], ev E]) ∧ Below w.heap.size w w'))
    (HD : Hid (∀ w, Calls Try.prog 6 #[.string s] w fun x w' => x = .returned (.tuple #[.agg #[.string ⟨Q.N.toArray⟩, .string ⟨Q.S.toArray⟩, .int .i64 Q.O, .int .i64 Q.A, .int .i64 Q.B.K, .int .i64 Q.B.M, .int .i64 Q.B.W, .int .i64 Q.B.D, .int .i64 Q.B.T, .int .i64 Q.E.K, .int .i64 Q.E.M, .int .i64 Q.E.W, .int .i64 Q.E.D, .int .i64 Q.E.T], .int .i64 E]) ∧ Below w.heap.size w w'))
    (HC : Hid (∀ w, Calls Try.prog 7 #[.agg #[.string ⟨Q.N.toArray⟩, .string ⟨Q.S.toArray⟩, .int .i64 Q.O, .int .i64 Q.A, .int .i64 Q.B.K, .int .i64 Q.B.M, .int .i64 Q.B.W, .int .i64 Q.B.D, .int .i64 Q.B.T, .int .i64 Q.E.K, .int .i64 Q.E.M, .int .i64 Q.E.W, .int .i64 Q.E.D, .int .i64 Q.E.T]] w fun x w' => x = .returned (.agg #[.string ⟨Q.N.toArray⟩, .string ⟨Q.S.toArray⟩, .int .i64 Q.O, .int .i64 Q.A, .int .i64 Q.B.K, .int .i64 Q.B.M, .int .i64 Q.B.W, .int .i64 Q.B.D, .int .i64 Q.B.T, .int .i64 Q.E.K, .int .i64 Q.E.M, .int .i64 Q.E.W, .int .i64 Q.E.D, .int .i64 Q.E.T]) ∧ Below w.heap.size w w'))
    (HN : Hid (∀ w, Calls Try.prog 8 #[ev E] w fun x w' => x = .returned (.int .i64 E) ∧ w = w')) :
    Calls Try.prog 3 #[.string s] w fun x w' => x = .returned (.bool true) ∧ Below w.heap.size w w' := by
  have t1 : decide ((200 : Int) < (s.size : Int)) = false := decide_eq_false (by omega)
  have eqd := fun w => eq_dplan ⟨Q.N.toArray⟩ ⟨Q.S.toArray⟩ Q.O Q.A Q.B.K Q.B.M Q.B.W Q.B.D Q.B.T Q.E.K Q.E.M Q.E.W Q.E.D Q.E.T w
  have e3 : (E == E) = true := by simp
  have HA := Lib.hid (fun w => alive17_any w)
  go_enter Try.func3, Try.ntmps3
  go_upto_region 6 with (first
    | (go_at_call 4; refine (HA.out _).mono ?_; rintro x w1 ⟨rfl, hb⟩; have B := Lib.hid hb; clear hb)
    | (go_at_call 5; with_reducible refine (HP.out _).mono ?_; rintro x w2 ⟨rfl, hb⟩; have B := Lib.hid (B.out.trans (hb.mono B.out.size)); clear hb))
  have n3 : (w2.alloc (.cells #[.string ⟨Q.N.toArray⟩, .string ⟨Q.S.toArray⟩, .int .i64 Q.O, .int .i64 Q.A, .int .i64 Q.B.K, .int .i64 Q.B.M, .int .i64 Q.B.W, .int .i64 Q.B.D, .int .i64 Q.B.T, .int .i64 Q.E.K, .int .i64 Q.E.M, .int .i64 Q.E.W, .int .i64 Q.E.D, .int .i64 Q.E.T] 26)).heap[w2.heap.size]? = some (.cells #[.string ⟨Q.N.toArray⟩, .string ⟨Q.S.toArray⟩, .int .i64 Q.O, .int .i64 Q.A, .int .i64 Q.B.K, .int .i64 Q.B.M, .int .i64 Q.B.W, .int .i64 Q.B.D, .int .i64 Q.B.T, .int .i64 Q.E.K, .int .i64 Q.E.M, .int .i64 Q.E.W, .int .i64 Q.E.D, .int .i64 Q.E.T] 26 (0, 0)) := heap_alloc_new w2 _
  have b3 := B.out.alloc B.out.size (.cells #[.string ⟨Q.N.toArray⟩, .string ⟨Q.S.toArray⟩, .int .i64 Q.O, .int .i64 Q.A, .int .i64 Q.B.K, .int .i64 Q.B.M, .int .i64 Q.B.W, .int .i64 Q.B.D, .int .i64 Q.B.T, .int .i64 Q.E.K, .int .i64 Q.E.M, .int .i64 Q.E.W, .int .i64 Q.E.D, .int .i64 Q.E.T] 26)
  obtain ⟨p, hp⟩ : ∃ p, p = w2.heap.size := ⟨_, rfl⟩
  obtain ⟨W3, hW3⟩ : ∃ W3, W3 = w2.alloc (.cells #[.string ⟨Q.N.toArray⟩, .string ⟨Q.S.toArray⟩, .int .i64 Q.O, .int .i64 Q.A, .int .i64 Q.B.K, .int .i64 Q.B.M, .int .i64 Q.B.W, .int .i64 Q.B.D, .int .i64 Q.B.T, .int .i64 Q.E.K, .int .i64 Q.E.M, .int .i64 Q.E.W, .int .i64 Q.E.D, .int .i64 Q.E.T] 26) := ⟨_, rfl⟩
  rw [← hW3] at n3 b3
  rw [← hp] at n3
  rw [← hW3, ← hp]
  have N := Lib.hid n3
  replace B := Lib.hid b3
  clear hW3 hp n3 b3
  go_upto_region 7 with (go_at_call 6; with_reducible refine (HD.out _).mono ?_; rintro x w4 ⟨rfl, hb⟩; have N := Lib.hid (bel_keep hb N.out); have B := Lib.hid (B.out.trans (hb.mono B.out.size)); clear hb)
  have m5 := bel_keep (bel16 w4 (.cells #[.string ⟨Q.N.toArray⟩, .string ⟨Q.S.toArray⟩, .int .i64 Q.O, .int .i64 Q.A, .int .i64 Q.B.K, .int .i64 Q.B.M, .int .i64 Q.B.W, .int .i64 Q.B.D, .int .i64 Q.B.T, .int .i64 Q.E.K, .int .i64 Q.E.M, .int .i64 Q.E.W, .int .i64 Q.E.D, .int .i64 Q.E.T] 33)) N.out
  have n5 : (w4.alloc (.cells #[.string ⟨Q.N.toArray⟩, .string ⟨Q.S.toArray⟩, .int .i64 Q.O, .int .i64 Q.A, .int .i64 Q.B.K, .int .i64 Q.B.M, .int .i64 Q.B.W, .int .i64 Q.B.D, .int .i64 Q.B.T, .int .i64 Q.E.K, .int .i64 Q.E.M, .int .i64 Q.E.W, .int .i64 Q.E.D, .int .i64 Q.E.T] 33)).heap[w4.heap.size]? = some (.cells #[.string ⟨Q.N.toArray⟩, .string ⟨Q.S.toArray⟩, .int .i64 Q.O, .int .i64 Q.A, .int .i64 Q.B.K, .int .i64 Q.B.M, .int .i64 Q.B.W, .int .i64 Q.B.D, .int .i64 Q.B.T, .int .i64 Q.E.K, .int .i64 Q.E.M, .int .i64 Q.E.W, .int .i64 Q.E.D, .int .i64 Q.E.T] 33 (0, 0)) := heap_alloc_new w4 _
  have b5 := B.out.alloc B.out.size (.cells #[.string ⟨Q.N.toArray⟩, .string ⟨Q.S.toArray⟩, .int .i64 Q.O, .int .i64 Q.A, .int .i64 Q.B.K, .int .i64 Q.B.M, .int .i64 Q.B.W, .int .i64 Q.B.D, .int .i64 Q.B.T, .int .i64 Q.E.K, .int .i64 Q.E.M, .int .i64 Q.E.W, .int .i64 Q.E.D, .int .i64 Q.E.T] 33)
  obtain ⟨m, hm⟩ : ∃ m, m = w4.heap.size := ⟨_, rfl⟩
  obtain ⟨W5, hW5⟩ : ∃ W5, W5 = w4.alloc (.cells #[.string ⟨Q.N.toArray⟩, .string ⟨Q.S.toArray⟩, .int .i64 Q.O, .int .i64 Q.A, .int .i64 Q.B.K, .int .i64 Q.B.M, .int .i64 Q.B.W, .int .i64 Q.B.D, .int .i64 Q.B.T, .int .i64 Q.E.K, .int .i64 Q.E.M, .int .i64 Q.E.W, .int .i64 Q.E.D, .int .i64 Q.E.T] 33) := ⟨_, rfl⟩
  rw [← hW5] at m5 n5 b5
  rw [← hm] at n5
  rw [← hW5, ← hm]
  replace N := Lib.hid m5
  have M := Lib.hid n5
  replace B := Lib.hid b5
  clear hW5 hm m5 n5 b5
  have HH : Hid (∀ W, Kq16 W5 W → ((W.cell? ⟨p, 0, none⟩ = some (.string ⟨Q.N.toArray⟩) ∧ W.cell? ⟨p, 1, none⟩ = some (.string ⟨Q.S.toArray⟩) ∧ W.cell? ⟨p, 2, none⟩ = some (.int .i64 Q.O) ∧ W.cell? ⟨p, 3, none⟩ = some (.int .i64 Q.A) ∧ W.cell? ⟨p, 4, none⟩ = some (.int .i64 Q.B.K) ∧ W.cell? ⟨p, 5, none⟩ = some (.int .i64 Q.B.M) ∧ W.cell? ⟨p, 6, none⟩ = some (.int .i64 Q.B.W) ∧ W.cell? ⟨p, 7, none⟩ = some (.int .i64 Q.B.D) ∧ W.cell? ⟨p, 8, none⟩ = some (.int .i64 Q.B.T) ∧ W.cell? ⟨p, 9, none⟩ = some (.int .i64 Q.E.K) ∧ W.cell? ⟨p, 10, none⟩ = some (.int .i64 Q.E.M) ∧ W.cell? ⟨p, 11, none⟩ = some (.int .i64 Q.E.W) ∧ W.cell? ⟨p, 12, none⟩ = some (.int .i64 Q.E.D) ∧ W.cell? ⟨p, 13, none⟩ = some (.int .i64 Q.E.T)) ∧ (W.cell? ⟨m, 0, none⟩ = some (.string ⟨Q.N.toArray⟩) ∧ W.cell? ⟨m, 1, none⟩ = some (.string ⟨Q.S.toArray⟩) ∧ W.cell? ⟨m, 2, none⟩ = some (.int .i64 Q.O) ∧ W.cell? ⟨m, 3, none⟩ = some (.int .i64 Q.A) ∧ W.cell? ⟨m, 4, none⟩ = some (.int .i64 Q.B.K) ∧ W.cell? ⟨m, 5, none⟩ = some (.int .i64 Q.B.M) ∧ W.cell? ⟨m, 6, none⟩ = some (.int .i64 Q.B.W) ∧ W.cell? ⟨m, 7, none⟩ = some (.int .i64 Q.B.D) ∧ W.cell? ⟨m, 8, none⟩ = some (.int .i64 Q.B.T) ∧ W.cell? ⟨m, 9, none⟩ = some (.int .i64 Q.E.K) ∧ W.cell? ⟨m, 10, none⟩ = some (.int .i64 Q.E.M) ∧ W.cell? ⟨m, 11, none⟩ = some (.int .i64 Q.E.W) ∧ W.cell? ⟨m, 12, none⟩ = some (.int .i64 Q.E.D) ∧ W.cell? ⟨m, 13, none⟩ = some (.int .i64 Q.E.T))) ∧ Kq16 W5 W) := Lib.hid (fun W k => ⟨⟨see_block14 (bel_keep k.bel N.out), see_block14 (bel_keep k.bel M.out)⟩, k⟩)
  have hKD : Kq16 W5 W5.drew := ⟨(Below.refl _ W5).drew⟩
  go_region_held3 (fun W => ((W.cell? ⟨p, 0, none⟩ = some (.string ⟨Q.N.toArray⟩) ∧ W.cell? ⟨p, 1, none⟩ = some (.string ⟨Q.S.toArray⟩) ∧ W.cell? ⟨p, 2, none⟩ = some (.int .i64 Q.O) ∧ W.cell? ⟨p, 3, none⟩ = some (.int .i64 Q.A) ∧ W.cell? ⟨p, 4, none⟩ = some (.int .i64 Q.B.K) ∧ W.cell? ⟨p, 5, none⟩ = some (.int .i64 Q.B.M) ∧ W.cell? ⟨p, 6, none⟩ = some (.int .i64 Q.B.W) ∧ W.cell? ⟨p, 7, none⟩ = some (.int .i64 Q.B.D) ∧ W.cell? ⟨p, 8, none⟩ = some (.int .i64 Q.B.T) ∧ W.cell? ⟨p, 9, none⟩ = some (.int .i64 Q.E.K) ∧ W.cell? ⟨p, 10, none⟩ = some (.int .i64 Q.E.M) ∧ W.cell? ⟨p, 11, none⟩ = some (.int .i64 Q.E.W) ∧ W.cell? ⟨p, 12, none⟩ = some (.int .i64 Q.E.D) ∧ W.cell? ⟨p, 13, none⟩ = some (.int .i64 Q.E.T)) ∧ (W.cell? ⟨m, 0, none⟩ = some (.string ⟨Q.N.toArray⟩) ∧ W.cell? ⟨m, 1, none⟩ = some (.string ⟨Q.S.toArray⟩) ∧ W.cell? ⟨m, 2, none⟩ = some (.int .i64 Q.O) ∧ W.cell? ⟨m, 3, none⟩ = some (.int .i64 Q.A) ∧ W.cell? ⟨m, 4, none⟩ = some (.int .i64 Q.B.K) ∧ W.cell? ⟨m, 5, none⟩ = some (.int .i64 Q.B.M) ∧ W.cell? ⟨m, 6, none⟩ = some (.int .i64 Q.B.W) ∧ W.cell? ⟨m, 7, none⟩ = some (.int .i64 Q.B.D) ∧ W.cell? ⟨m, 8, none⟩ = some (.int .i64 Q.B.T) ∧ W.cell? ⟨m, 9, none⟩ = some (.int .i64 Q.E.K) ∧ W.cell? ⟨m, 10, none⟩ = some (.int .i64 Q.E.M) ∧ W.cell? ⟨m, 11, none⟩ = some (.int .i64 Q.E.W) ∧ W.cell? ⟨m, 12, none⟩ = some (.int .i64 Q.E.D) ∧ W.cell? ⟨m, 13, none⟩ = some (.int .i64 Q.E.T))) ∧ Kq16 W5 W)
    (exact HH.out _ (by assumption))
    (first
      | (go_at_call 7; go_split_ands; (with_reducible refine (HC.out _).mono ?_); rintro er wrb ⟨rfl, hq⟩; have hkr : Kq16 W5 wrb := Kq16.step (by assumption) hq; clear hq)
      | (go_at_call 8; go_split_ands; (with_reducible refine (HN.out _).mono ?_); rintro er wrb ⟨rfl, rfl⟩))
  have Q1 : Hid (Below W5.heap.size W5 _) := Lib.hid (Kq16.bel (W0 := W5) (by assumption))
  replace B := Lib.hid (B.out.trans (Q1.out.mono B.out.size))
  go_wp2_with fail
  go_ret
  exact ⟨rfl, B.out⟩
theorem posprs_any (s : ByteArray) (w : World) (hs : s.size ≤ maxLen) :
    Calls Try.prog 3 #[.string s] w fun x w' => x = .returned (.bool true) ∧ Below w.heap.size w w' := by
  by_cases h : 200 < s.size
  · exact prs17_long s w h hs
  · have h2 : s.size ≤ 200 := by omega
    have HP := fun w => parse17_any s w (by omega)
    have HD := fun w => dparse17_any s w h2
    have HC := fun w => pdoc_any (psV s.data.toList) w
    have b : 0 ≤ psE s.data.toList ∧ psE s.data.toList < 100 := psE_bd _
    have HN := fun w => num_any (psE s.data.toList) w b.1 b.2
    exact prs17_walk _ _ s w h2 (Lib.hid HP) (Lib.hid HD) (Lib.hid HC) (Lib.hid HN)
end Go.Proofs.Ytkhcneacjnpcnaa
