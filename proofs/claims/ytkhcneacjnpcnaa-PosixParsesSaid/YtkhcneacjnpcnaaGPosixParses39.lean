/- Merged: RulX. -/
import Derived.Test.YtkhcneacjnpcnaaGPosixParses36
import Derived.Test.YtkhcneacjnpcnaaGPosixParses37
import Derived.Test.YtkhcneacjnpcnaaGPosixParses38
namespace Go.Proofs.Ytkhcneacjnpcnaa
open Go.RowKit
set_option linter.unusedVariables false
set_option linter.unusedSimpArgs false

theorem spt_len (c : UInt8) : ∀ (l : List UInt8) (p : List UInt8), p ∈ spt c l → p.length ≤ l.length
  | [], p, h => by
    rw [spt, List.mem_singleton] at h; rw [h]; exact Nat.le_refl _
  | b :: l, p, h => by
    rw [spt] at h
    split at h
    · rcases List.mem_cons.1 h with rfl | h
      · simp
      · have := spt_len c l p h; simp; omega
    · cases hs : spt c l with
      | nil =>
        rw [hs] at h
        rw [List.mem_singleton] at h; rw [h]; simp
      | cons x xs =>
        rw [hs] at h
        rcases List.mem_cons.1 h with rfl | h
        · have := spt_len c l x (by rw [hs]; simp); simp; omega
        · have := spt_len c l p (by rw [hs]; simp [h]); simp; omega
theorem num_yes {i j : Nat} {a : List UInt8} (h : fg i j a) (hj : j ≤ 5) (w : World) : Calls Try.prog 33 #[.string ⟨a.toArray⟩, .int .i64 (i : Int), .int .i64 (j : Int)] w fun e w' => e = .returned (.tuple #[.int .i64 ((dv a : Nat) : Int), .bool true]) ∧ w = w' := by
  have H := number_any ⟨a.toArray⟩ i j w hj (by rw [Lib.size_mk]; have := h.2.1; omega)
  have e : (⟨a.toArray⟩ : ByteArray).data.toList = a := by simp
  rw [e] at H
  have e1 : nuN i j a = ((dv a : Nat) : Int) := if_pos h
  have e2 : nuB i j a = true := decide_eq_true h
  rwa [e1, e2] at H
theorem num_no {i j : Nat} {a : List UInt8} (h : ¬ fg i j a) (hj : j ≤ 5) (hl : a.length ≤ 100000) (w : World) : Calls Try.prog 33 #[.string ⟨a.toArray⟩, .int .i64 (i : Int), .int .i64 (j : Int)] w fun e w' => e = .returned (.tuple #[.int .i64 0, .bool false]) ∧ w = w' := by
  have H := number_any ⟨a.toArray⟩ i j w hj (by rw [Lib.size_mk]; exact hl)
  have e : (⟨a.toArray⟩ : ByteArray).data.toList = a := by simp
  rw [e] at H
  have e1 : nuN i j a = 0 := if_neg h
  have e2 : nuB i j a = false := decide_eq_false h
  rwa [e1, e2] at H
theorem dv_in {i j : Nat} {a : List UInt8} (h : fg i j a) (hj : j ≤ 5) : 0 ≤ ((dv a : Nat) : Int) ∧ ((dv a : Nat) : Int) < 100000 := by
  have := fg_big h hj; omega
theorem ckF_no {most h m s : Int} (c : most < h ∨ 59 < m ∨ 59 < s) : ¬ ckF most h m s = true := by rw [ckF_yes]; omega
theorem rpc_n (s : ByteArray) (most : Int) (w : World) (hm : moP most) (z0 : 0 < s.size) (z1 : ((s[0].toNat : Int) == 43) = false) (z2 : ((s[0].toNat : Int) == 45) = false) (hs : s.size ≤ 900) (hc : cb s.data.toList = s.data.toList) (hg : (s.data.toList.head? == some 45) = false) (hs2 : s.size ≤ 900) :
    Calls Try.prog 15 #[.string s, .int .i64 most] w fun x w' => x = .returned (.tuple #[.int .i64 (pcN s.data.toList most), .int .i64 (pcE s.data.toList most)]) ∧ Below w.heap.size w w' := by
  have y1 : decide (most < 0) = false := lt_no (by unfold moP at hm; omega)
  have y2 : decide (999 < most) = false := lt_no (by unfold moP at hm; omega)
  have HP := fun w => parts_any s 58 w hs2
  rw [← hc] at HP
  have hb : ∀ p ∈ spt 58 (cb s.data.toList), p.length ≤ 100000 := by
    intro p hp
    have := spt_len 58 _ p hp
    rw [hc] at this
    have e : (s).data.toList.length = (s).size := by simp
    omega
  obtain ⟨r, hr⟩ : ∃ r, r = s.data.toList := ⟨_, rfl⟩
  rw [← hr] at hg HP hb ⊢
  clear hc hr
  have HC := @ckP_no1 r
  have HC2 := @ckP_no2 r
  have HC3 := @ckP_no3 r
  have HU : ckP r = _ := rfl
  unfold ckP at HU
  rw [hg] at HU
  cases hsp : spt 58 (cb r) with
  | nil => obtain ⟨ps, hps⟩ := spt_head 58 (cb r); rw [hps] at hsp; cases hsp
  | cons a rest =>
    rw [hsp] at HP hb HU
    have ba := hb a (by simp)
    by_cases fa : fg 1 3 a
    · have N0 := fun w => num_yes fa (by omega) w
      have va := dv_in fa (by omega)
      match rest with
      | [] =>
        have hk : ckP r = some (false, ((dv a : Nat) : Int), 0, 0) := by unfold ckP; rw [hsp, hg]; exact if_pos fa
        obtain ⟨r1, r2⟩ := pc_some hm hk
        by_cases f0 : most < ((dv a : Nat) : Int)
        · have c := ckF_no (most := most) (h := ((dv a : Nat) : Int)) (m := 0) (s := 0) (.inl f0)
          rw [r1, r2, if_neg c, if_neg c]
          exact rpc_n_s2t s most w y1 y2 z0 z1 z2 a _ va (lt_yes f0) (Lib.hid HP) (Lib.hid N0)
        · have c : ckF most ((dv a : Nat) : Int) 0 0 = true := by rw [ckF_yes]; omega
          rw [r1, r2, if_pos c, if_pos c]
          have := rpc_n_s2f s most w y1 y2 z0 z1 z2 a _ va (lt_no f0) (Lib.hid HP) (Lib.hid N0)
          rwa [show (3600 * ((dv a : Nat) : Int)) = ckT false ((dv a : Nat) : Int) 0 0 by unfold ckT; simp] at this
      | [b] =>
        have bb := hb b (by simp)
        by_cases fb : fg 2 2 b
        · have N1 := fun w => num_yes fb (by omega) w
          have vb := dv_in fb (by omega)
          have hk : ckP r = some (false, ((dv a : Nat) : Int), ((dv b : Nat) : Int), 0) := by unfold ckP; rw [hsp, hg]; exact if_pos ⟨fa, fb⟩
          obtain ⟨r1, r2⟩ := pc_some hm hk
          by_cases f0 : most < ((dv a : Nat) : Int)
          · have c := ckF_no (most := most) (h := ((dv a : Nat) : Int)) (m := ((dv b : Nat) : Int)) (s := 0) (.inl f0)
            rw [r1, r2, if_neg c, if_neg c]
            exact rpc_n_s4t s most w y1 y2 z0 z1 z2 a b _ _ va vb (lt_yes f0) (Lib.hid HP) (Lib.hid N0) (Lib.hid N1)
          · by_cases f1 : 59 < ((dv b : Nat) : Int)
            · have c := ckF_no (most := most) (h := ((dv a : Nat) : Int)) (m := ((dv b : Nat) : Int)) (s := 0) (.inr (.inl f1))
              rw [r1, r2, if_neg c, if_neg c]
              exact rpc_n_s4ft s most w y1 y2 z0 z1 z2 a b _ _ va vb (lt_no f0) (lt_yes f1) (Lib.hid HP) (Lib.hid N0) (Lib.hid N1)
            · have c : ckF most ((dv a : Nat) : Int) ((dv b : Nat) : Int) 0 = true := by rw [ckF_yes]; omega
              rw [r1, r2, if_pos c, if_pos c]
              have := rpc_n_s4ff s most w y1 y2 z0 z1 z2 a b _ _ va vb (lt_no f0) (lt_no f1) (Lib.hid HP) (Lib.hid N0) (Lib.hid N1)
              rwa [show (3600 * ((dv a : Nat) : Int) + 60 * ((dv b : Nat) : Int)) = ckT false ((dv a : Nat) : Int) ((dv b : Nat) : Int) 0 by unfold ckT; simp] at this
        · obtain ⟨r1, r2⟩ := pc_none hm (HC2 hsp fb)
          rw [r1, r2]
          exact rpc_n_s3 s most w y1 y2 z0 z1 z2 a b _ va (Lib.hid HP) (Lib.hid N0) (Lib.hid (fun w => num_no fb (by omega) bb w))
      | [b, c9] =>
        have bb := hb b (by simp)
        have bc := hb c9 (by simp)
        by_cases fb : fg 2 2 b
        · have N1 := fun w => num_yes fb (by omega) w
          have vb := dv_in fb (by omega)
          by_cases fc : fg 2 2 c9
          · have N2 := fun w => num_yes fc (by omega) w
            have vc := dv_in fc (by omega)
            have hk : ckP r = some (false, ((dv a : Nat) : Int), ((dv b : Nat) : Int), ((dv c9 : Nat) : Int)) := by unfold ckP; rw [hsp, hg]; exact if_pos ⟨fa, fb, fc⟩
            obtain ⟨r1, r2⟩ := pc_some hm hk
            by_cases f0 : most < ((dv a : Nat) : Int)
            · have c := ckF_no (most := most) (h := ((dv a : Nat) : Int)) (m := ((dv b : Nat) : Int)) (s := ((dv c9 : Nat) : Int)) (.inl f0)
              rw [r1, r2, if_neg c, if_neg c]
              exact rpc_n_s7t s most w y1 y2 z0 z1 z2 a b c9 _ _ _ va vb vc (lt_yes f0) (Lib.hid HP) (Lib.hid N0) (Lib.hid N1) (Lib.hid N2)
            · by_cases f1 : 59 < ((dv b : Nat) : Int)
              · have c := ckF_no (most := most) (h := ((dv a : Nat) : Int)) (m := ((dv b : Nat) : Int)) (s := ((dv c9 : Nat) : Int)) (.inr (.inl f1))
                rw [r1, r2, if_neg c, if_neg c]
                exact rpc_n_s7ft s most w y1 y2 z0 z1 z2 a b c9 _ _ _ va vb vc (lt_no f0) (lt_yes f1) (Lib.hid HP) (Lib.hid N0) (Lib.hid N1) (Lib.hid N2)
              · by_cases f2 : 59 < ((dv c9 : Nat) : Int)
                · have c := ckF_no (most := most) (h := ((dv a : Nat) : Int)) (m := ((dv b : Nat) : Int)) (s := ((dv c9 : Nat) : Int)) (.inr (.inr f2))
                  rw [r1, r2, if_neg c, if_neg c]
                  exact rpc_n_s7fft s most w y1 y2 z0 z1 z2 a b c9 _ _ _ va vb vc (lt_no f0) (lt_no f1) (lt_yes f2) (Lib.hid HP) (Lib.hid N0) (Lib.hid N1) (Lib.hid N2)
                · have c : ckF most ((dv a : Nat) : Int) ((dv b : Nat) : Int) ((dv c9 : Nat) : Int) = true := by rw [ckF_yes]; omega
                  rw [r1, r2, if_pos c, if_pos c]
                  have := rpc_n_s7fff s most w y1 y2 z0 z1 z2 a b c9 _ _ _ va vb vc (lt_no f0) (lt_no f1) (lt_no f2) (Lib.hid HP) (Lib.hid N0) (Lib.hid N1) (Lib.hid N2)
                  rwa [show (3600 * ((dv a : Nat) : Int) + 60 * ((dv b : Nat) : Int) + ((dv c9 : Nat) : Int)) = ckT false ((dv a : Nat) : Int) ((dv b : Nat) : Int) ((dv c9 : Nat) : Int) by unfold ckT; simp] at this
          · obtain ⟨r1, r2⟩ := pc_none hm (HC3 hsp (fun _ => fc))
            rw [r1, r2]
            by_cases f0 : most < ((dv a : Nat) : Int)
            · exact rpc_n_s6t s most w y1 y2 z0 z1 z2 a b c9 _ _ va vb (lt_yes f0) (Lib.hid HP) (Lib.hid N0) (Lib.hid N1) (Lib.hid (fun w => num_no fc (by omega) bc w))
            · exact rpc_n_s6f s most w y1 y2 z0 z1 z2 a b c9 _ _ va vb (lt_no f0) (Lib.hid HP) (Lib.hid N0) (Lib.hid N1) (Lib.hid (fun w => num_no fc (by omega) bc w))
        · obtain ⟨r1, r2⟩ := pc_none hm (HC2 hsp fb)
          rw [r1, r2]
          exact rpc_n_s5 s most w y1 y2 z0 z1 z2 a b c9 _ va (Lib.hid HP) (Lib.hid N0) (Lib.hid (fun w => num_no fb (by omega) bb w))
      | b :: c9 :: d :: qs =>
        have hk : ckP r = none := by unfold ckP; rw [hsp]
        obtain ⟨r1, r2⟩ := pc_none hm hk
        rw [r1, r2]
        exact rpc_n_s1 s most w y1 y2 z0 z1 z2 a b c9 d qs _ va (Lib.hid HP) (Lib.hid N0)
    · obtain ⟨r1, r2⟩ := pc_none hm (HC hsp fa)
      rw [r1, r2]
      exact rpc_n_s0 s most w y1 y2 z0 z1 z2 a rest (Lib.hid HP) (Lib.hid (fun w => num_no fa (by omega) ba w))
theorem rpc_p (s : ByteArray) (most : Int) (w : World) (hm : moP most) (z0 : 0 < s.size) (z1 : ((s[0].toNat : Int) == 43) = true) (z2 : ((s[0].toNat : Int) == 45) = false) (hs : s.size ≤ 900) (hc : cb s.data.toList = (s.extract 1 s.size).data.toList) (hg : (s.data.toList.head? == some 45) = false) (hs2 : (s.extract 1 s.size).size ≤ 900) :
    Calls Try.prog 15 #[.string s, .int .i64 most] w fun x w' => x = .returned (.tuple #[.int .i64 (pcN s.data.toList most), .int .i64 (pcE s.data.toList most)]) ∧ Below w.heap.size w w' := by
  have y1 : decide (most < 0) = false := lt_no (by unfold moP at hm; omega)
  have y2 : decide (999 < most) = false := lt_no (by unfold moP at hm; omega)
  have HP := fun w => parts_any (s.extract 1 s.size) 58 w hs2
  rw [← hc] at HP
  have hb : ∀ p ∈ spt 58 (cb s.data.toList), p.length ≤ 100000 := by
    intro p hp
    have := spt_len 58 _ p hp
    rw [hc] at this
    have e : ((s.extract 1 s.size)).data.toList.length = ((s.extract 1 s.size)).size := by simp
    omega
  obtain ⟨r, hr⟩ : ∃ r, r = s.data.toList := ⟨_, rfl⟩
  rw [← hr] at hg HP hb ⊢
  clear hc hr
  have HC := @ckP_no1 r
  have HC2 := @ckP_no2 r
  have HC3 := @ckP_no3 r
  have HU : ckP r = _ := rfl
  unfold ckP at HU
  rw [hg] at HU
  cases hsp : spt 58 (cb r) with
  | nil => obtain ⟨ps, hps⟩ := spt_head 58 (cb r); rw [hps] at hsp; cases hsp
  | cons a rest =>
    rw [hsp] at HP hb HU
    have ba := hb a (by simp)
    by_cases fa : fg 1 3 a
    · have N0 := fun w => num_yes fa (by omega) w
      have va := dv_in fa (by omega)
      match rest with
      | [] =>
        have hk : ckP r = some (false, ((dv a : Nat) : Int), 0, 0) := by unfold ckP; rw [hsp, hg]; exact if_pos fa
        obtain ⟨r1, r2⟩ := pc_some hm hk
        by_cases f0 : most < ((dv a : Nat) : Int)
        · have c := ckF_no (most := most) (h := ((dv a : Nat) : Int)) (m := 0) (s := 0) (.inl f0)
          rw [r1, r2, if_neg c, if_neg c]
          exact rpc_p_s2t s most w y1 y2 z0 z1 z2 a _ va (lt_yes f0) (Lib.hid HP) (Lib.hid N0)
        · have c : ckF most ((dv a : Nat) : Int) 0 0 = true := by rw [ckF_yes]; omega
          rw [r1, r2, if_pos c, if_pos c]
          have := rpc_p_s2f s most w y1 y2 z0 z1 z2 a _ va (lt_no f0) (Lib.hid HP) (Lib.hid N0)
          rwa [show (3600 * ((dv a : Nat) : Int)) = ckT false ((dv a : Nat) : Int) 0 0 by unfold ckT; simp] at this
      | [b] =>
        have bb := hb b (by simp)
        by_cases fb : fg 2 2 b
        · have N1 := fun w => num_yes fb (by omega) w
          have vb := dv_in fb (by omega)
          have hk : ckP r = some (false, ((dv a : Nat) : Int), ((dv b : Nat) : Int), 0) := by unfold ckP; rw [hsp, hg]; exact if_pos ⟨fa, fb⟩
          obtain ⟨r1, r2⟩ := pc_some hm hk
          by_cases f0 : most < ((dv a : Nat) : Int)
          · have c := ckF_no (most := most) (h := ((dv a : Nat) : Int)) (m := ((dv b : Nat) : Int)) (s := 0) (.inl f0)
            rw [r1, r2, if_neg c, if_neg c]
            exact rpc_p_s4t s most w y1 y2 z0 z1 z2 a b _ _ va vb (lt_yes f0) (Lib.hid HP) (Lib.hid N0) (Lib.hid N1)
          · by_cases f1 : 59 < ((dv b : Nat) : Int)
            · have c := ckF_no (most := most) (h := ((dv a : Nat) : Int)) (m := ((dv b : Nat) : Int)) (s := 0) (.inr (.inl f1))
              rw [r1, r2, if_neg c, if_neg c]
              exact rpc_p_s4ft s most w y1 y2 z0 z1 z2 a b _ _ va vb (lt_no f0) (lt_yes f1) (Lib.hid HP) (Lib.hid N0) (Lib.hid N1)
            · have c : ckF most ((dv a : Nat) : Int) ((dv b : Nat) : Int) 0 = true := by rw [ckF_yes]; omega
              rw [r1, r2, if_pos c, if_pos c]
              have := rpc_p_s4ff s most w y1 y2 z0 z1 z2 a b _ _ va vb (lt_no f0) (lt_no f1) (Lib.hid HP) (Lib.hid N0) (Lib.hid N1)
              rwa [show (3600 * ((dv a : Nat) : Int) + 60 * ((dv b : Nat) : Int)) = ckT false ((dv a : Nat) : Int) ((dv b : Nat) : Int) 0 by unfold ckT; simp] at this
        · obtain ⟨r1, r2⟩ := pc_none hm (HC2 hsp fb)
          rw [r1, r2]
          exact rpc_p_s3 s most w y1 y2 z0 z1 z2 a b _ va (Lib.hid HP) (Lib.hid N0) (Lib.hid (fun w => num_no fb (by omega) bb w))
      | [b, c9] =>
        have bb := hb b (by simp)
        have bc := hb c9 (by simp)
        by_cases fb : fg 2 2 b
        · have N1 := fun w => num_yes fb (by omega) w
          have vb := dv_in fb (by omega)
          by_cases fc : fg 2 2 c9
          · have N2 := fun w => num_yes fc (by omega) w
            have vc := dv_in fc (by omega)
            have hk : ckP r = some (false, ((dv a : Nat) : Int), ((dv b : Nat) : Int), ((dv c9 : Nat) : Int)) := by unfold ckP; rw [hsp, hg]; exact if_pos ⟨fa, fb, fc⟩
            obtain ⟨r1, r2⟩ := pc_some hm hk
            by_cases f0 : most < ((dv a : Nat) : Int)
            · have c := ckF_no (most := most) (h := ((dv a : Nat) : Int)) (m := ((dv b : Nat) : Int)) (s := ((dv c9 : Nat) : Int)) (.inl f0)
              rw [r1, r2, if_neg c, if_neg c]
              exact rpc_p_s7t s most w y1 y2 z0 z1 z2 a b c9 _ _ _ va vb vc (lt_yes f0) (Lib.hid HP) (Lib.hid N0) (Lib.hid N1) (Lib.hid N2)
            · by_cases f1 : 59 < ((dv b : Nat) : Int)
              · have c := ckF_no (most := most) (h := ((dv a : Nat) : Int)) (m := ((dv b : Nat) : Int)) (s := ((dv c9 : Nat) : Int)) (.inr (.inl f1))
                rw [r1, r2, if_neg c, if_neg c]
                exact rpc_p_s7ft s most w y1 y2 z0 z1 z2 a b c9 _ _ _ va vb vc (lt_no f0) (lt_yes f1) (Lib.hid HP) (Lib.hid N0) (Lib.hid N1) (Lib.hid N2)
              · by_cases f2 : 59 < ((dv c9 : Nat) : Int)
                · have c := ckF_no (most := most) (h := ((dv a : Nat) : Int)) (m := ((dv b : Nat) : Int)) (s := ((dv c9 : Nat) : Int)) (.inr (.inr f2))
                  rw [r1, r2, if_neg c, if_neg c]
                  exact rpc_p_s7fft s most w y1 y2 z0 z1 z2 a b c9 _ _ _ va vb vc (lt_no f0) (lt_no f1) (lt_yes f2) (Lib.hid HP) (Lib.hid N0) (Lib.hid N1) (Lib.hid N2)
                · have c : ckF most ((dv a : Nat) : Int) ((dv b : Nat) : Int) ((dv c9 : Nat) : Int) = true := by rw [ckF_yes]; omega
                  rw [r1, r2, if_pos c, if_pos c]
                  have := rpc_p_s7fff s most w y1 y2 z0 z1 z2 a b c9 _ _ _ va vb vc (lt_no f0) (lt_no f1) (lt_no f2) (Lib.hid HP) (Lib.hid N0) (Lib.hid N1) (Lib.hid N2)
                  rwa [show (3600 * ((dv a : Nat) : Int) + 60 * ((dv b : Nat) : Int) + ((dv c9 : Nat) : Int)) = ckT false ((dv a : Nat) : Int) ((dv b : Nat) : Int) ((dv c9 : Nat) : Int) by unfold ckT; simp] at this
          · obtain ⟨r1, r2⟩ := pc_none hm (HC3 hsp (fun _ => fc))
            rw [r1, r2]
            by_cases f0 : most < ((dv a : Nat) : Int)
            · exact rpc_p_s6t s most w y1 y2 z0 z1 z2 a b c9 _ _ va vb (lt_yes f0) (Lib.hid HP) (Lib.hid N0) (Lib.hid N1) (Lib.hid (fun w => num_no fc (by omega) bc w))
            · exact rpc_p_s6f s most w y1 y2 z0 z1 z2 a b c9 _ _ va vb (lt_no f0) (Lib.hid HP) (Lib.hid N0) (Lib.hid N1) (Lib.hid (fun w => num_no fc (by omega) bc w))
        · obtain ⟨r1, r2⟩ := pc_none hm (HC2 hsp fb)
          rw [r1, r2]
          exact rpc_p_s5 s most w y1 y2 z0 z1 z2 a b c9 _ va (Lib.hid HP) (Lib.hid N0) (Lib.hid (fun w => num_no fb (by omega) bb w))
      | b :: c9 :: d :: qs =>
        have hk : ckP r = none := by unfold ckP; rw [hsp]
        obtain ⟨r1, r2⟩ := pc_none hm hk
        rw [r1, r2]
        exact rpc_p_s1 s most w y1 y2 z0 z1 z2 a b c9 d qs _ va (Lib.hid HP) (Lib.hid N0)
    · obtain ⟨r1, r2⟩ := pc_none hm (HC hsp fa)
      rw [r1, r2]
      exact rpc_p_s0 s most w y1 y2 z0 z1 z2 a rest (Lib.hid HP) (Lib.hid (fun w => num_no fa (by omega) ba w))
theorem rpc_m (s : ByteArray) (most : Int) (w : World) (hm : moP most) (z0 : 0 < s.size) (z1 : ((s[0].toNat : Int) == 43) = false) (z2 : ((s[0].toNat : Int) == 45) = true) (hs : s.size ≤ 900) (hc : cb s.data.toList = (s.extract 1 s.size).data.toList) (hg : (s.data.toList.head? == some 45) = true) (hs2 : (s.extract 1 s.size).size ≤ 900) :
    Calls Try.prog 15 #[.string s, .int .i64 most] w fun x w' => x = .returned (.tuple #[.int .i64 (pcN s.data.toList most), .int .i64 (pcE s.data.toList most)]) ∧ Below w.heap.size w w' := by
  have y1 : decide (most < 0) = false := lt_no (by unfold moP at hm; omega)
  have y2 : decide (999 < most) = false := lt_no (by unfold moP at hm; omega)
  have HP := fun w => parts_any (s.extract 1 s.size) 58 w hs2
  rw [← hc] at HP
  have hb : ∀ p ∈ spt 58 (cb s.data.toList), p.length ≤ 100000 := by
    intro p hp
    have := spt_len 58 _ p hp
    rw [hc] at this
    have e : ((s.extract 1 s.size)).data.toList.length = ((s.extract 1 s.size)).size := by simp
    omega
  obtain ⟨r, hr⟩ : ∃ r, r = s.data.toList := ⟨_, rfl⟩
  rw [← hr] at hg HP hb ⊢
  clear hc hr
  have HC := @ckP_no1 r
  have HC2 := @ckP_no2 r
  have HC3 := @ckP_no3 r
  have HU : ckP r = _ := rfl
  unfold ckP at HU
  rw [hg] at HU
  cases hsp : spt 58 (cb r) with
  | nil => obtain ⟨ps, hps⟩ := spt_head 58 (cb r); rw [hps] at hsp; cases hsp
  | cons a rest =>
    rw [hsp] at HP hb HU
    have ba := hb a (by simp)
    by_cases fa : fg 1 3 a
    · have N0 := fun w => num_yes fa (by omega) w
      have va := dv_in fa (by omega)
      match rest with
      | [] =>
        have hk : ckP r = some (true, ((dv a : Nat) : Int), 0, 0) := by unfold ckP; rw [hsp, hg]; exact if_pos fa
        obtain ⟨r1, r2⟩ := pc_some hm hk
        by_cases f0 : most < ((dv a : Nat) : Int)
        · have c := ckF_no (most := most) (h := ((dv a : Nat) : Int)) (m := 0) (s := 0) (.inl f0)
          rw [r1, r2, if_neg c, if_neg c]
          exact rpc_m_s2t s most w y1 y2 z0 z1 z2 a _ va (lt_yes f0) (Lib.hid HP) (Lib.hid N0)
        · have c : ckF most ((dv a : Nat) : Int) 0 0 = true := by rw [ckF_yes]; omega
          rw [r1, r2, if_pos c, if_pos c]
          have := rpc_m_s2f s most w y1 y2 z0 z1 z2 a _ va (lt_no f0) (Lib.hid HP) (Lib.hid N0)
          rwa [show (-(3600 * ((dv a : Nat) : Int))) = ckT true ((dv a : Nat) : Int) 0 0 by unfold ckT; simp] at this
      | [b] =>
        have bb := hb b (by simp)
        by_cases fb : fg 2 2 b
        · have N1 := fun w => num_yes fb (by omega) w
          have vb := dv_in fb (by omega)
          have hk : ckP r = some (true, ((dv a : Nat) : Int), ((dv b : Nat) : Int), 0) := by unfold ckP; rw [hsp, hg]; exact if_pos ⟨fa, fb⟩
          obtain ⟨r1, r2⟩ := pc_some hm hk
          by_cases f0 : most < ((dv a : Nat) : Int)
          · have c := ckF_no (most := most) (h := ((dv a : Nat) : Int)) (m := ((dv b : Nat) : Int)) (s := 0) (.inl f0)
            rw [r1, r2, if_neg c, if_neg c]
            exact rpc_m_s4t s most w y1 y2 z0 z1 z2 a b _ _ va vb (lt_yes f0) (Lib.hid HP) (Lib.hid N0) (Lib.hid N1)
          · by_cases f1 : 59 < ((dv b : Nat) : Int)
            · have c := ckF_no (most := most) (h := ((dv a : Nat) : Int)) (m := ((dv b : Nat) : Int)) (s := 0) (.inr (.inl f1))
              rw [r1, r2, if_neg c, if_neg c]
              exact rpc_m_s4ft s most w y1 y2 z0 z1 z2 a b _ _ va vb (lt_no f0) (lt_yes f1) (Lib.hid HP) (Lib.hid N0) (Lib.hid N1)
            · have c : ckF most ((dv a : Nat) : Int) ((dv b : Nat) : Int) 0 = true := by rw [ckF_yes]; omega
              rw [r1, r2, if_pos c, if_pos c]
              have := rpc_m_s4ff s most w y1 y2 z0 z1 z2 a b _ _ va vb (lt_no f0) (lt_no f1) (Lib.hid HP) (Lib.hid N0) (Lib.hid N1)
              rwa [show (-(3600 * ((dv a : Nat) : Int) + 60 * ((dv b : Nat) : Int))) = ckT true ((dv a : Nat) : Int) ((dv b : Nat) : Int) 0 by unfold ckT; simp] at this
        · obtain ⟨r1, r2⟩ := pc_none hm (HC2 hsp fb)
          rw [r1, r2]
          exact rpc_m_s3 s most w y1 y2 z0 z1 z2 a b _ va (Lib.hid HP) (Lib.hid N0) (Lib.hid (fun w => num_no fb (by omega) bb w))
      | [b, c9] =>
        have bb := hb b (by simp)
        have bc := hb c9 (by simp)
        by_cases fb : fg 2 2 b
        · have N1 := fun w => num_yes fb (by omega) w
          have vb := dv_in fb (by omega)
          by_cases fc : fg 2 2 c9
          · have N2 := fun w => num_yes fc (by omega) w
            have vc := dv_in fc (by omega)
            have hk : ckP r = some (true, ((dv a : Nat) : Int), ((dv b : Nat) : Int), ((dv c9 : Nat) : Int)) := by unfold ckP; rw [hsp, hg]; exact if_pos ⟨fa, fb, fc⟩
            obtain ⟨r1, r2⟩ := pc_some hm hk
            by_cases f0 : most < ((dv a : Nat) : Int)
            · have c := ckF_no (most := most) (h := ((dv a : Nat) : Int)) (m := ((dv b : Nat) : Int)) (s := ((dv c9 : Nat) : Int)) (.inl f0)
              rw [r1, r2, if_neg c, if_neg c]
              exact rpc_m_s7t s most w y1 y2 z0 z1 z2 a b c9 _ _ _ va vb vc (lt_yes f0) (Lib.hid HP) (Lib.hid N0) (Lib.hid N1) (Lib.hid N2)
            · by_cases f1 : 59 < ((dv b : Nat) : Int)
              · have c := ckF_no (most := most) (h := ((dv a : Nat) : Int)) (m := ((dv b : Nat) : Int)) (s := ((dv c9 : Nat) : Int)) (.inr (.inl f1))
                rw [r1, r2, if_neg c, if_neg c]
                exact rpc_m_s7ft s most w y1 y2 z0 z1 z2 a b c9 _ _ _ va vb vc (lt_no f0) (lt_yes f1) (Lib.hid HP) (Lib.hid N0) (Lib.hid N1) (Lib.hid N2)
              · by_cases f2 : 59 < ((dv c9 : Nat) : Int)
                · have c := ckF_no (most := most) (h := ((dv a : Nat) : Int)) (m := ((dv b : Nat) : Int)) (s := ((dv c9 : Nat) : Int)) (.inr (.inr f2))
                  rw [r1, r2, if_neg c, if_neg c]
                  exact rpc_m_s7fft s most w y1 y2 z0 z1 z2 a b c9 _ _ _ va vb vc (lt_no f0) (lt_no f1) (lt_yes f2) (Lib.hid HP) (Lib.hid N0) (Lib.hid N1) (Lib.hid N2)
                · have c : ckF most ((dv a : Nat) : Int) ((dv b : Nat) : Int) ((dv c9 : Nat) : Int) = true := by rw [ckF_yes]; omega
                  rw [r1, r2, if_pos c, if_pos c]
                  have := rpc_m_s7fff s most w y1 y2 z0 z1 z2 a b c9 _ _ _ va vb vc (lt_no f0) (lt_no f1) (lt_no f2) (Lib.hid HP) (Lib.hid N0) (Lib.hid N1) (Lib.hid N2)
                  rwa [show (-(3600 * ((dv a : Nat) : Int) + 60 * ((dv b : Nat) : Int) + ((dv c9 : Nat) : Int))) = ckT true ((dv a : Nat) : Int) ((dv b : Nat) : Int) ((dv c9 : Nat) : Int) by unfold ckT; simp] at this
          · obtain ⟨r1, r2⟩ := pc_none hm (HC3 hsp (fun _ => fc))
            rw [r1, r2]
            by_cases f0 : most < ((dv a : Nat) : Int)
            · exact rpc_m_s6t s most w y1 y2 z0 z1 z2 a b c9 _ _ va vb (lt_yes f0) (Lib.hid HP) (Lib.hid N0) (Lib.hid N1) (Lib.hid (fun w => num_no fc (by omega) bc w))
            · exact rpc_m_s6f s most w y1 y2 z0 z1 z2 a b c9 _ _ va vb (lt_no f0) (Lib.hid HP) (Lib.hid N0) (Lib.hid N1) (Lib.hid (fun w => num_no fc (by omega) bc w))
        · obtain ⟨r1, r2⟩ := pc_none hm (HC2 hsp fb)
          rw [r1, r2]
          exact rpc_m_s5 s most w y1 y2 z0 z1 z2 a b c9 _ va (Lib.hid HP) (Lib.hid N0) (Lib.hid (fun w => num_no fb (by omega) bb w))
      | b :: c9 :: d :: qs =>
        have hk : ckP r = none := by unfold ckP; rw [hsp]
        obtain ⟨r1, r2⟩ := pc_none hm hk
        rw [r1, r2]
        exact rpc_m_s1 s most w y1 y2 z0 z1 z2 a b c9 d qs _ va (Lib.hid HP) (Lib.hid N0)
    · obtain ⟨r1, r2⟩ := pc_none hm (HC hsp fa)
      rw [r1, r2]
      exact rpc_m_s0 s most w y1 y2 z0 z1 z2 a rest (Lib.hid HP) (Lib.hid (fun w => num_no fa (by omega) ba w))

theorem rparseclock_any (s : ByteArray) (most : Int) (w : World) (hs : s.size ≤ 900) :
    Calls Try.prog 15 #[.string s, .int .i64 most] w fun x w' => x = .returned (.tuple #[.int .i64 (pcN s.data.toList most), .int .i64 (pcE s.data.toList most)]) ∧ Below w.heap.size w w' := by
  by_cases hm : moP most
  · rcases Nat.eq_zero_or_pos s.size with h0 | h0
    · have hl : s.data.toList = [] := List.eq_nil_of_length_eq_zero (by simpa using h0)
      obtain ⟨r1, r2⟩ := pc_none (l := s.data.toList) hm (by rw [hl]; rfl)
      rw [r1, r2]
      have HP := fun w => parts_any s 58 w hs
      rw [hl] at HP
      exact rpc_e_s0 s most w (lt_no (by unfold moP at hm; omega)) (lt_no (by unfold moP at hm; omega)) h0 [] [] (Lib.hid HP) (Lib.hid (fun w => num_no (i := 1) (j := 3) (by decide) (by omega) (by decide) w))
    · have hb := byte_at h0
      have hh : s.data.toList.head? = some s[0] := by rw [List.head?_eq_getElem?]; exact hb
      have hd : (s.extract 1 s.size).data.toList = s.data.toList.drop 1 := by
        rw [cut_mid, List.take_of_length_le (by rw [List.length_drop]; simp)]
      have hz : (s.extract 1 s.size).size ≤ 900 := by
        have := congrArg List.length hd
        rw [List.length_drop] at this
        simp at this ⊢
        omega
      have t : ∀ b : UInt8, ((s[0].toNat : Int) == (b.toNat : Int)) = (s[0] == b) := by
        intro b
        by_cases e : s[0] = b
        · rw [e]; simp
        · have : s[0].toNat ≠ b.toNat := fun h => e (UInt8.toNat_inj.1 h)
          have e1 : (s[0] == b) = false := by simpa using e
          rw [e1]; simp; omega
      have t43 := t 43
      have t45 := t 45
      by_cases e1 : s[0] = 43
      · have g1 : (s[0] == 43) = true := by simpa using e1
        have g2 : (s[0] == 45) = false := by rw [e1]; rfl
        rw [g1] at t43; rw [g2] at t45
        refine rpc_p s most w hm h0 t43 t45 hs ?_ ?_ hz
        · unfold cb; rw [if_pos (Or.inr (by rw [hh, e1])), hd]
        · rw [hh, e1]; rfl
      · have g1 : (s[0] == 43) = false := by simpa using e1
        rw [g1] at t43
        by_cases e2 : s[0] = 45
        · have g2 : (s[0] == 45) = true := by simpa using e2
          rw [g2] at t45
          refine rpc_m s most w hm h0 t43 t45 hs ?_ ?_ hz
          · unfold cb; rw [if_pos (Or.inl (by rw [hh, e2])), hd]
          · rw [hh, e2]; rfl
        · have g2 : (s[0] == 45) = false := by simpa using e2
          rw [g2] at t45
          refine rpc_n s most w hm h0 t43 t45 hs ?_ ?_ hs
          · unfold cb; rw [if_neg]
            rw [hh]
            rintro (h | h) <;> injection h with h
            · exact e2 h
            · exact e1 h
          · rw [hh]; simpa using e2
  · obtain ⟨r1, r2⟩ := pc_most (l := s.data.toList) hm
    rw [r1, r2]
    unfold moP at hm
    by_cases h : most < 0
    · exact rpc_low s most w (lt_yes h)
    · exact rpc_high s most w (lt_no h) (lt_yes (by omega))
end Go.Proofs.Ytkhcneacjnpcnaa
