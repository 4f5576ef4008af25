/- Merged: RulDe. -/
import Derived.Test.YtkhcneacjnpcnaaGPosixParses41
import Derived.Test.YtkhcneacjnpcnaaGPosixParses42
import Derived.Test.YtkhcneacjnpcnaaGPosixParses43
import Derived.Test.YtkhcneacjnpcnaaGPosixParses44
namespace Go.Proofs.Ytkhcneacjnpcnaa
open Go.RowKit
set_option linter.unusedVariables false
set_option linter.unusedSimpArgs false

theorem numB_yes {i j : Nat} (B : ByteArray) (h : fg i j B.data.toList) (hj : j ≤ 5) (w : World) : Calls Try.prog 33 #[.string B, .int .i64 (i : Int), .int .i64 (j : Int)] w fun e w' => e = .returned (.tuple #[.int .i64 ((dv B.data.toList : Nat) : Int), .bool true]) ∧ w = w' := by
  have H := number_any B i j w hj (by have := h.2.1; have e : B.data.toList.length = B.size := by simp
                                      omega)
  have e1 : nuN i j B.data.toList = ((dv B.data.toList : Nat) : Int) := if_pos h
  have e2 : nuB i j B.data.toList = true := decide_eq_true h
  rwa [e1, e2] at H
theorem numB_no {i j : Nat} (B : ByteArray) (h : ¬ fg i j B.data.toList) (hj : j ≤ 5) (hl : B.size ≤ 100000) (w : World) : Calls Try.prog 33 #[.string B, .int .i64 (i : Int), .int .i64 (j : Int)] w fun e w' => e = .returned (.tuple #[.int .i64 0, .bool false]) ∧ w = w' := by
  have H := number_any B i j w hj hl
  have e1 : nuN i j B.data.toList = 0 := if_neg h
  have e2 : nuB i j B.data.toList = false := decide_eq_false h
  rwa [e1, e2] at H
theorem dy_len {d : List UInt8} (h : d.head? = some 77) (hl : (spt 46 (d.drop 1)).length ≠ 3) : dyP d = none := by
  unfold dyP; rw [if_neg (by rw [h]; decide), if_pos h]
  match hs : spt 46 (d.drop 1) with
  | [] => rfl
  | [_] => rfl
  | [_, _] => rfl
  | [_, _, _] => rw [hs] at hl; exact absurd rfl hl
  | _ :: _ :: _ :: _ :: _ => rfl
/-- What stands ahead of the slash, and behind it. -/
theorem rest16 (l : List UInt8) (h : (qb 47 l).length < l.length) : rpC l = ckP (l.drop ((qb 47 l).length + 1)) := if_pos h
theorem rest16_no (l : List UInt8) (h : ¬ (qb 47 l).length < l.length) : rpC l = some (false, 2, 0, 0) := if_neg h
theorem rest16_e {l r : List UInt8} (hr : rpC l = ckP r) (hc : pcE r 167 ≠ 0) : rpE l = (match dyP (qb 47 l) with | none => 2 | some _ => pcE r 167) ∧ rpV l = ru0 := by
  cases hd : dyP (qb 47 l) with
  | none => exact ⟨(rp_no1 hd).1, (rp_no1 hd).2⟩
  | some d =>
    obtain ⟨K, M, W, D⟩ := d
    cases hk : ckP r with
    | none =>
      obtain ⟨r1, -⟩ := pc_none (l := r) (most := 167) (by decide) hk
      obtain ⟨a, b⟩ := rp_no2 (hr.trans hk)
      exact ⟨a.trans r1.symm, b⟩
    | some q =>
      obtain ⟨n, h, m, s⟩ := q
      obtain ⟨r1, -⟩ := pc_some (l := r) (most := 167) (by decide) hk
      obtain ⟨a, b⟩ := rp_some hd (hr.trans hk)
      by_cases f : ckF 167 h m s = true
      · rw [if_pos f] at r1; exact absurd r1 hc
      · rw [if_neg f] at a r1
        rw [if_neg (fun g => f g.1)] at b
        exact ⟨a.trans r1.symm, b⟩
theorem rest16_g {l r : List UInt8} {K M W D : Int} (hd : dyP (qb 47 l) = some (K, M, W, D)) (hr : rpC l = ckP r) (hc : pcE r 167 = 0) : rpE l = ruE ⟨K, M, W, D, pcN r 167⟩ ∧ rpV l = if ruE ⟨K, M, W, D, pcN r 167⟩ = 0 then ⟨K, M, W, D, pcN r 167⟩ else ru0 := by
  cases hk : ckP r with
  | none =>
    obtain ⟨r1, -⟩ := pc_none (l := r) (most := 167) (by decide) hk
    rw [r1] at hc; cases hc
  | some q =>
    obtain ⟨n, h, m, s⟩ := q
    obtain ⟨r1, r2⟩ := pc_some (l := r) (most := 167) (by decide) hk
    obtain ⟨a, b⟩ := rp_some hd (hr.trans hk)
    by_cases f : ckF 167 h m s = true
    · rw [if_pos f] at a r2
      rw [r2]
      refine ⟨a, b.trans ?_⟩
      by_cases g : ruE ⟨K, M, W, D, ckT n h m s⟩ = 0
      · rw [if_pos ⟨f, g⟩, if_pos g]
      · rw [if_neg (fun c => g c.2), if_neg g]
    · rw [if_neg f] at r1; rw [r1] at hc; cases hc
theorem rest16_n {l : List UInt8} {K M W D : Int} (hd : dyP (qb 47 l) = some (K, M, W, D)) (hr : rpC l = some (false, 2, 0, 0)) : rpE l = ruE ⟨K, M, W, D, 7200⟩ ∧ rpV l = if ruE ⟨K, M, W, D, 7200⟩ = 0 then ⟨K, M, W, D, 7200⟩ else ru0 := by
  obtain ⟨a, b⟩ := rp_some hd hr
  have f : ckF 167 2 0 0 = true := by decide
  have o : ckT false 2 0 0 = 7200 := by decide
  rw [o, if_pos f] at a
  rw [o] at b
  refine ⟨a, b.trans ?_⟩
  by_cases g : ruE ⟨K, M, W, D, 7200⟩ = 0
  · rw [if_pos ⟨f, g⟩, if_pos g]
  · rw [if_neg (fun c => g c.2), if_neg g]

theorem rparse16_any (s : ByteArray) (w : World) (hs : s.size ≤ 900) :
    Calls Try.prog 16 #[.string s] w fun x w' => x = .returned (.tuple #[.agg (rpV s.data.toList).cells, .int .i64 (rpE s.data.toList)]) ∧ Below w.heap.size w w' := by
  obtain ⟨l, hl⟩ : ∃ l, l = s.data.toList := ⟨_, rfl⟩
  have hsz : l.length = s.size := by rw [hl]; simp
  obtain ⟨Q, hQ⟩ : ∃ Q, Q = (qb 47 l).length := ⟨_, rfl⟩
  have hQl : Q ≤ s.size := by rw [← hsz, hQ]; exact qb_len 47 l
  obtain ⟨D, hD⟩ : ∃ D, D = s.extract 0 Q := ⟨_, rfl⟩
  have hd : D.data.toList = qb 47 l := by rw [hD, cut_mid, List.drop_zero, Nat.sub_zero, ← hl, hQ, ← qb_pre]
  have hds : D.size = Q := by
    have := congrArg List.length hd
    rw [← hQ] at this
    simpa using this
  have at_l : ∀ k (h : k < s.size), l[k]? = some s[k] := fun k h => by rw [hl]; exact byte_at h
  have HA : ∀ k (h : k < s.size), k < Q → ((s[k].toNat : Int) != 47) = true := by
    intro k h hk
    have hm : s[k] ∈ qb 47 l := by
      rw [qb_pre, ← hQ]
      have e : (l.take Q)[k]? = some s[k] := by rw [List.getElem?_take, if_pos hk]; exact at_l k h
      exact List.mem_of_getElem? e
    have hne : s[k] ≠ 47 := by
      have ha := List.all_takeWhile (p := (· != (47 : UInt8))) (l := l)
      rw [List.all_eq_true] at ha
      simpa using ha _ hm
    refine bne_iff_ne.2 fun e => hne (UInt8.toNat_inj.1 ?_)
    have : s[k].toNat = 47 := by omega
    rw [this]; rfl
  have HZ : ∀ h : Q < s.size, ((s[Q].toNat : Int) != 47) = false := by
    intro h
    rcases q_rest l with ⟨-, e⟩ | ⟨-, t, e⟩
    · omega
    · rw [← hQ] at e
      have e2 := congrArg List.head? e
      rw [List.head?_drop, at_l Q h] at e2
      injection e2 with e2
      rw [e2]; rfl
  have HA' := Lib.hid HA; have HZ' := Lib.hid HZ
  have hrest : Q < s.size → rpC l = ckP (s.extract (Q + 1) s.size).data.toList := by
    intro h
    rw [rest16 l (by omega), cut_mid, ← hl, ← hQ, List.take_of_length_le (by rw [List.length_drop]; omega)]
  have hnone : ¬ Q < s.size → rpC l = some (false, 2, 0, 0) := fun h => rest16_no l (by omega)
  have hX : (s.extract (Q + 1) s.size).size ≤ 900 := by simp; omega
  have PCK := fun w => rparseclock_any (s.extract (Q + 1) s.size) 167 w hX
  have hb1 : (D.extract 1 D.size).data.toList = (qb 47 l).drop 1 := by
    rw [cut_mid, hd, List.take_of_length_le (by rw [List.length_drop, ← hd]; simp)]
  have hb2 : (D.extract 1 D.size).size ≤ 900 := by simp; omega
  rw [← hl]
  generalize (s.extract (Q + 1) s.size).data.toList = r at *
  have t : ∀ (h : 0 < D.size) (b : UInt8), ((D[0].toNat : Int) == (b.toNat : Int)) = (D[0] == b) := by
    intro h b
    by_cases e : D[0] = b
    · rw [e]; simp
    · have : D[0].toNat ≠ b.toNat := fun h => e (UInt8.toNat_inj.1 h)
      have e1 : (D[0] == b) = false := by simpa using e
      rw [e1]; simp; omega
  have dead : dyP (qb 47 l) = none → rpE l = 2 ∧ rpV l = ru0 := rp_no1
  rcases Nat.eq_zero_or_pos D.size with h0 | h0
  · have he : D.data.toList = [] := List.eq_nil_of_length_eq_zero (by simpa using h0)
    have h74 : D.data.toList.head? ≠ some 74 := by rw [he]; simp
    have h77 : D.data.toList.head? ≠ some 77 := by rw [he]; simp
    by_cases f : fg 1 3 D.data.toList
    · have N0 := fun w => numB_yes D f (by omega) w
      have hdy : dyP (qb 47 l) = some (2, 0, 0, ((dv D.data.toList : Nat) : Int)) := by
        rw [← hd]; unfold dyP; rw [if_neg h74, if_neg h77, if_pos f]
      by_cases hz : Q < s.size
      · by_cases hc : pcE r 167 = 0
        · obtain ⟨r1, r2⟩ := rest16_g hdy (hrest hz) hc
          rw [hc] at PCK
          have X := fun w => rchk16_any ⟨2, 0, 0, ((dv D.data.toList : Nat) : Int), pcN r 167⟩ w
          rw [r1, r2]
          by_cases g : ruE ⟨2, 0, 0, ((dv D.data.toList : Nat) : Int), pcN r 167⟩ = 0
          · rw [if_pos g, g]
            rw [g] at X
            exact dp_N_cg s D w Q hQl hD hs HA' HZ' _ _ (Or.inl h0) (Lib.hid N0) hz (Lib.hid PCK) (Lib.hid X)
          · rw [if_neg g]
            exact dp_N_cw s D w Q hQl hD hs HA' HZ' _ _ _ (Or.inl h0) (Lib.hid N0) hz (Lib.hid PCK) (Lib.hid X) g
        · obtain ⟨r1, r2⟩ := rest16_e (hrest hz) hc
          rw [hdy] at r1
          rw [r1, r2]
          have PC0 : ∀ w, Calls Try.prog 15 #[.string (s.extract (Q + 1) s.size), .int .i64 167] w fun x w' => x = .returned (.tuple #[.int .i64 (pcN r 167), .int .i64 (pcE r 167)]) ∧ Below w.heap.size w w' := PCK
          exact dp_N_b s D w Q hQl hD hs HA' HZ' _ _ _ (Or.inl h0) (Lib.hid N0) hz (Lib.hid PC0) hc
      · obtain ⟨r1, r2⟩ := rest16_n hdy (hnone hz)
        have X := fun w => rchk16_any ⟨2, 0, 0, ((dv D.data.toList : Nat) : Int), 7200⟩ w
        rw [r1, r2]
        by_cases g : ruE ⟨2, 0, 0, ((dv D.data.toList : Nat) : Int), 7200⟩ = 0
        · rw [if_pos g, g]
          rw [g] at X
          exact dp_N_ng s D w Q hQl hD hs HA' HZ' _ (Or.inl h0) (Lib.hid N0) hz (Lib.hid X)
        · rw [if_neg g]
          exact dp_N_nw s D w Q hQl hD hs HA' HZ' _ _ (Or.inl h0) (Lib.hid N0) hz (Lib.hid X) g
    · obtain ⟨r1, r2⟩ := dead (by rw [← hd]; unfold dyP; rw [if_neg h74, if_neg h77, if_neg f])
      rw [r1, r2]
      exact dp_Nb s D w Q hQl hD hs HA' HZ' (Or.inl h0) (Lib.hid (fun w => numB_no D f (by omega) (by omega) w))
  · have hh : D.data.toList.head? = some D[0] := by rw [List.head?_eq_getElem?]; exact byte_at h0
    have t74 := t h0 74
    have t77 := t h0 77
    by_cases e1 : D[0] = 74
    · have g1 : (D[0] == 74) = true := by simpa using e1
      rw [g1] at t74
      have h74 : (qb 47 l).head? = some 74 := by rw [← hd, hh, e1]
      by_cases f : fg 1 3 (D.extract 1 D.size).data.toList
      · have N0 := fun w => numB_yes (D.extract 1 D.size) f (by omega) w
        have hdy : dyP (qb 47 l) = some (1, 0, 0, ((dv (D.extract 1 D.size).data.toList : Nat) : Int)) := by
          rw [hb1] at f ⊢; unfold dyP; rw [if_pos h74, if_pos f]
        by_cases hz : Q < s.size
        · by_cases hc : pcE r 167 = 0
          · obtain ⟨r1, r2⟩ := rest16_g hdy (hrest hz) hc
            rw [hc] at PCK
            have X := fun w => rchk16_any ⟨1, 0, 0, ((dv (D.extract 1 D.size).data.toList : Nat) : Int), pcN r 167⟩ w
            rw [r1, r2]
            by_cases g : ruE ⟨1, 0, 0, ((dv (D.extract 1 D.size).data.toList : Nat) : Int), pcN r 167⟩ = 0
            · rw [if_pos g, g]
              rw [g] at X
              exact dp_J_cg s D w Q hQl hD hs HA' HZ' _ _ h0 t74 (Lib.hid N0) hz (Lib.hid PCK) (Lib.hid X)
            · rw [if_neg g]
              exact dp_J_cw s D w Q hQl hD hs HA' HZ' _ _ _ h0 t74 (Lib.hid N0) hz (Lib.hid PCK) (Lib.hid X) g
          · obtain ⟨r1, r2⟩ := rest16_e (hrest hz) hc
            rw [hdy] at r1
            rw [r1, r2]
            have PC0 : ∀ w, Calls Try.prog 15 #[.string (s.extract (Q + 1) s.size), .int .i64 167] w fun x w' => x = .returned (.tuple #[.int .i64 (pcN r 167), .int .i64 (pcE r 167)]) ∧ Below w.heap.size w w' := PCK
            exact dp_J_b s D w Q hQl hD hs HA' HZ' _ _ _ h0 t74 (Lib.hid N0) hz (Lib.hid PC0) hc
        · obtain ⟨r1, r2⟩ := rest16_n hdy (hnone hz)
          have X := fun w => rchk16_any ⟨1, 0, 0, ((dv (D.extract 1 D.size).data.toList : Nat) : Int), 7200⟩ w
          rw [r1, r2]
          by_cases g : ruE ⟨1, 0, 0, ((dv (D.extract 1 D.size).data.toList : Nat) : Int), 7200⟩ = 0
          · rw [if_pos g, g]
            rw [g] at X
            exact dp_J_ng s D w Q hQl hD hs HA' HZ' _ h0 t74 (Lib.hid N0) hz (Lib.hid X)
          · rw [if_neg g]
            exact dp_J_nw s D w Q hQl hD hs HA' HZ' _ _ h0 t74 (Lib.hid N0) hz (Lib.hid X) g
      · obtain ⟨r1, r2⟩ := dead (by rw [hb1] at f; unfold dyP; rw [if_pos h74, if_neg f])
        rw [r1, r2]
        exact dp_Jb s D w Q hQl hD hs HA' HZ' h0 t74 (Lib.hid (fun w => numB_no (D.extract 1 D.size) f (by omega) (by omega) w))
    · have g1 : (D[0] == 74) = false := by simpa using e1
      rw [g1] at t74
      by_cases e2 : D[0] = 77
      · have g2 : (D[0] == 77) = true := by simpa using e2
        rw [g2] at t77
        have h77 : (qb 47 l).head? = some 77 := by rw [← hd, hh, e2]
        have PT := fun w => parts_any (D.extract 1 D.size) 46 w hb2
        rw [hb1] at PT
        have hb : ∀ p ∈ spt 46 ((qb 47 l).drop 1), p.length ≤ 100000 := by
          intro p hp
          have h1 := spt_len 46 _ p hp
          have h2 : ((qb 47 l).drop 1).length ≤ Q := by rw [List.length_drop, ← hQ]; omega
          omega
        by_cases h3 : (spt 46 ((qb 47 l).drop 1)).length = 3
        · match hsp : spt 46 ((qb 47 l).drop 1), h3 with
          | [a, b, c], _ =>
            rw [hsp] at PT hb
            have ba := hb a (by simp); have bb := hb b (by simp); have bc := hb c (by simp)
            by_cases fa : fg 1 2 a
            · have N0 := fun w => num_yes fa (by omega) w
              by_cases fb : fg 1 1 b
              · have N1 := fun w => num_yes fb (by omega) w
                by_cases fc : fg 1 1 c
                · have N2 := fun w => num_yes fc (by omega) w
                  have hdy : dyP (qb 47 l) = some (3, ((dv a : Nat) : Int), ((dv b : Nat) : Int), ((dv c : Nat) : Int)) := by
                    unfold dyP; rw [if_neg (by rw [h77]; decide), if_pos h77, hsp]; exact if_pos ⟨fa, fb, fc⟩
                  by_cases hz : Q < s.size
                  · by_cases hc : pcE r 167 = 0
                    · obtain ⟨r1, r2⟩ := rest16_g hdy (hrest hz) hc
                      rw [hc] at PCK
                      have X := fun w => rchk16_any ⟨3, ((dv a : Nat) : Int), ((dv b : Nat) : Int), ((dv c : Nat) : Int), pcN r 167⟩ w
                      rw [r1, r2]
                      by_cases g : ruE ⟨3, ((dv a : Nat) : Int), ((dv b : Nat) : Int), ((dv c : Nat) : Int), pcN r 167⟩ = 0
                      · rw [if_pos g, g]
                        rw [g] at X
                        exact dp_M_cg s D w Q hQl hD hs HA' HZ' a b c _ _ _ _ h0 t74 t77 (Lib.hid PT) (Lib.hid N0) (Lib.hid N1) (Lib.hid N2) hz (Lib.hid PCK) (Lib.hid X)
                      · rw [if_neg g]
                        exact dp_M_cw s D w Q hQl hD hs HA' HZ' a b c _ _ _ _ _ h0 t74 t77 (Lib.hid PT) (Lib.hid N0) (Lib.hid N1) (Lib.hid N2) hz (Lib.hid PCK) (Lib.hid X) g
                    · obtain ⟨r1, r2⟩ := rest16_e (hrest hz) hc
                      rw [hdy] at r1
                      rw [r1, r2]
                      have PC0 : ∀ w, Calls Try.prog 15 #[.string (s.extract (Q + 1) s.size), .int .i64 167] w fun x w' => x = .returned (.tuple #[.int .i64 (pcN r 167), .int .i64 (pcE r 167)]) ∧ Below w.heap.size w w' := PCK
                      exact dp_M_b s D w Q hQl hD hs HA' HZ' a b c _ _ _ _ _ h0 t74 t77 (Lib.hid PT) (Lib.hid N0) (Lib.hid N1) (Lib.hid N2) hz (Lib.hid PC0) hc
                  · obtain ⟨r1, r2⟩ := rest16_n hdy (hnone hz)
                    have X := fun w => rchk16_any ⟨3, ((dv a : Nat) : Int), ((dv b : Nat) : Int), ((dv c : Nat) : Int), 7200⟩ w
                    rw [r1, r2]
                    by_cases g : ruE ⟨3, ((dv a : Nat) : Int), ((dv b : Nat) : Int), ((dv c : Nat) : Int), 7200⟩ = 0
                    · rw [if_pos g, g]
                      rw [g] at X
                      exact dp_M_ng s D w Q hQl hD hs HA' HZ' a b c _ _ _ h0 t74 t77 (Lib.hid PT) (Lib.hid N0) (Lib.hid N1) (Lib.hid N2) hz (Lib.hid X)
                    · rw [if_neg g]
                      exact dp_M_nw s D w Q hQl hD hs HA' HZ' a b c _ _ _ _ h0 t74 t77 (Lib.hid PT) (Lib.hid N0) (Lib.hid N1) (Lib.hid N2) hz (Lib.hid X) g
                · obtain ⟨r1, r2⟩ := dead (sp3_no3 h77 hsp (fun _ => fc))
                  rw [r1, r2]
                  exact dp_Mp2 s D w Q hQl hD hs HA' HZ' a b c _ _ h0 t74 t77 (Lib.hid PT) (Lib.hid N0) (Lib.hid N1) (Lib.hid (fun w => num_no fc (by omega) bc w))
              · obtain ⟨r1, r2⟩ := dead (sp3_no2 h77 hsp (.inl fb))
                rw [r1, r2]
                exact dp_Mp1 s D w Q hQl hD hs HA' HZ' a b c _ h0 t74 t77 (Lib.hid PT) (Lib.hid N0) (Lib.hid (fun w => num_no fb (by omega) bb w))
            · obtain ⟨r1, r2⟩ := dead (sp3_no1 h77 hsp (.inl fa))
              rw [r1, r2]
              exact dp_Mp0 s D w Q hQl hD hs HA' HZ' a b c h0 t74 t77 (Lib.hid PT) (Lib.hid (fun w => num_no fa (by omega) ba w))
        · obtain ⟨r1, r2⟩ := dead (dy_len h77 h3)
          obtain ⟨ps, hps⟩ := spt_head 46 ((qb 47 l).drop 1)
          rw [r1, r2]
          exact dp_M3 s D w Q hQl hD hs HA' HZ' _ (by simpa using h3) (by rw [hps]; simp) h0 t74 t77 (Lib.hid PT)
      · have g2 : (D[0] == 77) = false := by simpa using e2
        rw [g2] at t77
        have h74 : D.data.toList.head? ≠ some 74 := by rw [hh]; intro c; injection c with c; exact e1 c
        have h77 : D.data.toList.head? ≠ some 77 := by rw [hh]; intro c; injection c with c; exact e2 c
        by_cases f : fg 1 3 D.data.toList
        · have N0 := fun w => numB_yes D f (by omega) w
          have hdy : dyP (qb 47 l) = some (2, 0, 0, ((dv D.data.toList : Nat) : Int)) := by
            rw [← hd]; unfold dyP; rw [if_neg h74, if_neg h77, if_pos f]
          by_cases hz : Q < s.size
          · by_cases hc : pcE r 167 = 0
            · obtain ⟨r1, r2⟩ := rest16_g hdy (hrest hz) hc
              rw [hc] at PCK
              have X := fun w => rchk16_any ⟨2, 0, 0, ((dv D.data.toList : Nat) : Int), pcN r 167⟩ w
              rw [r1, r2]
              by_cases g : ruE ⟨2, 0, 0, ((dv D.data.toList : Nat) : Int), pcN r 167⟩ = 0
              · rw [if_pos g, g]
                rw [g] at X
                exact dp_N_cg s D w Q hQl hD hs HA' HZ' _ _ (Or.inr ⟨h0, t74, t77⟩) (Lib.hid N0) hz (Lib.hid PCK) (Lib.hid X)
              · rw [if_neg g]
                exact dp_N_cw s D w Q hQl hD hs HA' HZ' _ _ _ (Or.inr ⟨h0, t74, t77⟩) (Lib.hid N0) hz (Lib.hid PCK) (Lib.hid X) g
            · obtain ⟨r1, r2⟩ := rest16_e (hrest hz) hc
              rw [hdy] at r1
              rw [r1, r2]
              have PC0 : ∀ w, Calls Try.prog 15 #[.string (s.extract (Q + 1) s.size), .int .i64 167] w fun x w' => x = .returned (.tuple #[.int .i64 (pcN r 167), .int .i64 (pcE r 167)]) ∧ Below w.heap.size w w' := PCK
              exact dp_N_b s D w Q hQl hD hs HA' HZ' _ _ _ (Or.inr ⟨h0, t74, t77⟩) (Lib.hid N0) hz (Lib.hid PC0) hc
          · obtain ⟨r1, r2⟩ := rest16_n hdy (hnone hz)
            have X := fun w => rchk16_any ⟨2, 0, 0, ((dv D.data.toList : Nat) : Int), 7200⟩ w
            rw [r1, r2]
            by_cases g : ruE ⟨2, 0, 0, ((dv D.data.toList : Nat) : Int), 7200⟩ = 0
            · rw [if_pos g, g]
              rw [g] at X
              exact dp_N_ng s D w Q hQl hD hs HA' HZ' _ (Or.inr ⟨h0, t74, t77⟩) (Lib.hid N0) hz (Lib.hid X)
            · rw [if_neg g]
              exact dp_N_nw s D w Q hQl hD hs HA' HZ' _ _ (Or.inr ⟨h0, t74, t77⟩) (Lib.hid N0) hz (Lib.hid X) g
        · obtain ⟨r1, r2⟩ := dead (by rw [← hd]; unfold dyP; rw [if_neg h74, if_neg h77, if_neg f])
          rw [r1, r2]
          exact dp_Nb s D w Q hQl hD hs HA' HZ' (Or.inr ⟨h0, t74, t77⟩) (Lib.hid (fun w => numB_no D f (by omega) (by omega) w))
end Go.Proofs.Ytkhcneacjnpcnaa
