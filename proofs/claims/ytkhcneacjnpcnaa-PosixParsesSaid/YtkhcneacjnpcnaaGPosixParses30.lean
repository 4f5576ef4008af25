/- Merged: PosF. -/
import Derived.Test.YtkhcneacjnpcnaaGPosixParses29
namespace Go.Proofs.Ytkhcneacjnpcnaa
open Go.RowKit
set_option linter.unusedVariables false
set_option linter.unusedSimpArgs false

theorem tw_take (p : UInt8 → Bool) : ∀ r : List UInt8, r.take (tw p r) = r.takeWhile p ∧ tw p r = (r.takeWhile p).length
  | [] => ⟨rfl, rfl⟩
  | b :: r => by
    obtain ⟨h1, h2⟩ := tw_take p r
    cases h : p b
    · rw [List.takeWhile_cons, h]; unfold tw; rw [h]; exact ⟨rfl, rfl⟩
    · rw [List.takeWhile_cons, h]; unfold tw; rw [h]
      refine ⟨?_, ?_⟩
      · show (b :: r).take (tw p r + 1) = b :: r.takeWhile p
        rw [List.take_succ_cons, h1]
      · show tw p r + 1 = (b :: r.takeWhile p).length
        rw [List.length_cons, ← h2]
theorem noB_is (c : UInt8) : noB c = (· != c) := by
  funext b
  unfold noB
  rw [Bool.eq_iff_iff, bne_iff_ne, bne_iff_ne]
  constructor
  · intro h e; exact h (by rw [e])
  · intro h e; exact h (UInt8.toNat_inj.1 (by omega))
theorem al_62 (b : UInt8) : al b 62 = (b == 62) := by
  have := byte_all (p := fun b => al b 62 == (b == 62)) (by decide +kernel) b
  simpa using this
theorem al_44 (b : UInt8) : al b 44 = (b == 44) := by
  have := byte_all (p := fun b => al b 44 == (b == 44)) (by decide +kernel) b
  simpa using this
theorem mc_is {c : UInt8} (hc : ∀ b, al b c = (b == c)) (l : List UInt8) (k : Nat) (e : Int) : fdK k (rs l k e) e [c] = mcK c l k e ∧ muE (rs l k e) e [c] = mcE c l k e := by
  have h : fdT (rs l k e) e [c] = ((rs l k e).head? == some c) := by
    unfold fdT
    by_cases he : e = 0
    · subst he
      cases hr : rs l k 0 with
      | nil => rfl
      | cons a r =>
        show (_ && (al a c && fmB r [])) = _
        rw [fmB_nil, hc]
        simp
    · rw [rs_bad _ _ he]
      have : (e == 0) = false := by simpa using he
      rw [this]; rfl
  unfold fdK muE mcK mcE
  rw [h]
  by_cases d : (rs l k e).head? = some c
  · rw [if_pos d, if_pos d, if_pos (by rw [d]; simp), if_pos (by rw [d]; simp)]; exact ⟨rfl, rfl⟩
  · have : ((rs l k e).head? == some c) = false := by simpa using d
    rw [if_neg d, if_neg d, this]; exact ⟨rfl, rfl⟩
theorem ls_ba (l : List UInt8) : (⟨l.toArray⟩ : ByteArray).data.toList = l := by simp
section
variable (g k : Nat) (e : Int) (s : ByteArray)
/-- The scanner's acts, in these words. -/
theorem runp_any {of : ByteArray} {p : UInt8 → Bool} (hp : inB of.data.toList = p) (w : World) (h : Sk Ts w g (.string s) k e) (hk : k ≤ s.size) (hs : s.size ≤ 100000) :
    Calls Try.prog 38 #[.pointer (some ⟨g, 0, none⟩), .string of] w fun x w' =>
      x = .returned (.string ⟨((rs s.data.toList k e).takeWhile p).toArray⟩) ∧ Mv Ts g (.string s) (k + ((rs s.data.toList k e).takeWhile p).length) e w w' := by
  have := run_s g k e (.string s) s of w h rfl hk hs
  rw [hp, (tw_take p _).1, (tw_take p _).2] at this
  exact this
theorem untilp_any (c : UInt8) (w : World) (h : Sk Ts w g (.string s) k e) (hk : k ≤ s.size) (hs : s.size ≤ 100000) :
    Calls Try.prog 36 #[.pointer (some ⟨g, 0, none⟩), .int .u8 (c.toNat : Int)] w fun x w' =>
      x = .returned (.string ⟨(qb c (rs s.data.toList k e)).toArray⟩) ∧ Mv Ts g (.string s) (k + (qb c (rs s.data.toList k e)).length) e w w' := by
  have := until_s g k e (.string s) s c w h rfl hk hs
  rw [noB_is, (tw_take _ _).1, (tw_take _ _).2] at this
  exact this
theorem mustp_any {c : UInt8} (hc : ∀ b, al b c = (b == c)) (w : World) (h : Sk Ts w g (.string s) k e) (hk : k ≤ s.size) (hs : s.size ≤ 100000) :
    Calls Try.prog 37 #[.pointer (some ⟨g, 0, none⟩), .string ⟨#[c]⟩] w fun x w' =>
      x = .returned (.tuple #[]) ∧ Mv Ts g (.string s) (mcK c s.data.toList k e) (mcE c s.data.toList k e) w w' := by
  have := must_s g k e (.string s) s ⟨#[c]⟩ w h rfl hk hs (by rw [show (⟨#[c]⟩ : ByteArray).size = 1 from rfl]; decide)
  rw [show (⟨#[c]⟩ : ByteArray).data.toList = [c] from rfl, (mc_is hc _ _ _).1, (mc_is hc _ _ _).2] at this
  exact this
end
set_option maxHeartbeats 1000000 in
theorem rname_any (g k : Nat) (e : Int) (s : ByteArray) (w : World) (h : Sk Ts w g (.string s) k e) (hk : k ≤ s.size) (hs : s.size ≤ 100000) :
    Calls Try.prog 18 #[.agg #[.pointer (some ⟨g, 0, none⟩)]] w fun x w' =>
      x = .returned (.string ⟨(naS s.data.toList k e).toArray⟩) ∧ Mv Ts g (.string s) (naK s.data.toList k e) (naE s.data.toList k e) w w' := by
  have hsz : s.data.toList.length = s.size := by simp
  have HT := fun w h => takes_s g k e (.string s) s 60 w h rfl hk hs
  have HN : ∀ (n : List UInt8), n.length ≤ 100000 → ∀ w, Calls Try.prog 24 #[.string ⟨n.toArray⟩] w fun x w' => x = .returned (.bool (nmP n)) ∧ w = w' := fun n hn w => by
    have := name_any ⟨n.toArray⟩ w (by rw [Lib.size_mk]; exact hn)
    rwa [ls_ba] at this
  have hl := naS_len s.data.toList k e
  have HN := HN (naS s.data.toList k e) (by omega)
  by_cases hd : (rs s.data.toList k e).head? = some 60
  · have k1 : k + 1 ≤ s.size := by have := head16 hd; omega
    have HU := fun w h => untilp_any g (k + 1) e s 62 w h k1 hs
    have k2 := twl_rs (· != 62) s.data.toList (k := k + 1) e (by omega)
    have HM := fun w h => mustp_any g (k + 1 + (qb 62 (rs s.data.toList (k + 1) e)).length) e s al_62 w h (by unfold qb; omega) hs
    rw [if_pos hd, show ((rs s.data.toList k e).head? == some 60) = true by rw [hd]; rfl] at HT
    have eS : naS s.data.toList k e = qb 62 (rs s.data.toList (k + 1) e) := if_pos hd
    have eK : naK s.data.toList k e = mcK 62 s.data.toList (k + 1 + (qb 62 (rs s.data.toList (k + 1) e)).length) e := if_pos hd
    have eF : naF s.data.toList k e = mcE 62 s.data.toList (k + 1 + (qb 62 (rs s.data.toList (k + 1) e)).length) e := if_pos hd
    rw [← eS] at HU HM eK eF
    rw [← eK, ← eF] at HM
    unfold naE
    cases b : nmP (naS s.data.toList k e) with
    | true =>
      rw [if_pos rfl]; rw [b] at HN
      exact rname_by g k _ _ _ e _ 0 _ _ w h (Lib.hid HT) (Lib.hid HU) (Lib.hid HM) (Lib.hid HN)
    | false =>
      rw [if_neg (by decide)]; rw [b] at HN
      exact rname_bn g k _ _ _ e _ _ _ _ w h (Lib.hid HT) (Lib.hid HU) (Lib.hid HM) (Lib.hid HN) (Lib.hid (fun w h => fail_s g _ _ 2 _ _ w h (ev_iface (by decide)).symm (by decide)))
  · have HU := fun w h => runp_any g k e s in_let' w h hk hs
    rw [if_neg hd, show ((rs s.data.toList k e).head? == some 60) = false by simpa using hd] at HT
    have eS : naS s.data.toList k e = (rs s.data.toList k e).takeWhile ltB := if_neg hd
    have eK : naK s.data.toList k e = k + ((rs s.data.toList k e).takeWhile ltB).length := if_neg hd
    have eF : naF s.data.toList k e = e := if_neg hd
    rw [← eK, ← eS] at HU
    unfold naE
    rw [eF]
    cases b : nmP (naS s.data.toList k e) with
    | true =>
      rw [if_pos rfl]; rw [b] at HN
      exact rname_py g k _ 0 _ e _ 0 _ _ w h (Lib.hid HT) (Lib.hid HU) (Lib.hid HN)
    | false =>
      rw [if_neg (by decide)]; rw [b] at HN
      exact rname_pn g k _ 0 _ e _ _ _ _ w h (Lib.hid HT) (Lib.hid HU) (Lib.hid HN) (Lib.hid (fun w h => fail_s g _ _ 2 _ _ w h (ev_iface (by decide)).symm (by decide)))
theorem twl_100 {l : List UInt8} {p : UInt8 → Bool} {k : Nat} {e : Int} {n : Nat} (h : l.length ≤ n) : ((rs l k e).takeWhile p).length ≤ n := by
  have a := twl_len p (rs l k e); have b := rs_le l k e; omega
theorem roff_any (g k : Nat) (e : Int) (s : ByteArray) (w : World) (h : Sk Ts w g (.string s) k e) (hk : k ≤ s.size) (hs : s.size ≤ 100000) :
    Calls Try.prog 19 #[.agg #[.pointer (some ⟨g, 0, none⟩)]] w fun x w' =>
      x = .returned (.int .i64 (ofN s.data.toList k e)) ∧ Mv Ts g (.string s) (ofK s.data.toList k e) (ofE s.data.toList k e) w w' := by
  have hsz : s.data.toList.length = s.size := by simp
  have HU := fun w h => runp_any g k e s in_clk' w h hk hs
  have hl : (ofS s.data.toList k e).length ≤ 100000 := twl_100 (by omega)
  have HP := fun w => parseclock_any ⟨(ofS s.data.toList k e).toArray⟩ 24 w (by rw [Lib.size_mk]; exact hl)
  rw [ls_ba] at HP
  have hb := clk_all (ofS s.data.toList k e)
  show Calls _ _ _ _ fun x w' => x = .returned (.int .i64 (-pcN (ofS s.data.toList k e) 24)) ∧ _
  by_cases c : pcE (ofS s.data.toList k e) 24 = 0
  · have eE : ofE s.data.toList k e = e := if_pos c
    rw [eE]
    rw [c] at HP
    exact roff_y g k _ e 0 _ _ _ 1 hb (by decide) w h (Lib.hid HU) (Lib.hid HP)
  · have eE : ofE s.data.toList k e = flE e (pcE (ofS s.data.toList k e) 24) := if_neg c
    rw [eE]
    exact roff_n g k _ e _ _ _ _ _ hb c w h (Lib.hid HU) (Lib.hid HP) (Lib.hid (fun w h => fail_s g _ _ _ _ _ w h rfl c))
theorem rahd_any (g k : Nat) (e o : Int) (s : ByteArray) (w : World) (h : Sk Ts w g (.string s) k e) (hk : k ≤ s.size) (hs : s.size ≤ 100000) (ho : -1000000 ≤ o ∧ o ≤ 1000000) :
    Calls Try.prog 21 #[.agg #[.pointer (some ⟨g, 0, none⟩)], .int .i64 o] w fun x w' =>
      x = .returned (.int .i64 (adN s.data.toList k e o)) ∧ Mv Ts g (.string s) (adK s.data.toList k e) (adE s.data.toList k e) w w' := by
  have HP := fun w h => peek_s g k e (.string s) s w h rfl hk hs
  have HO := fun w h => roff_any g k e s w h hk hs
  unfold adN adK adE
  cases hr : rs s.data.toList k e with
  | nil =>
    rw [hr] at HP
    rw [if_neg (by simp), if_neg (by simp), if_neg (by simp)]
    exact rahd_e g k _ e _ _ o _ 0 rfl w h (Lib.hid HP) (Lib.hid HO)
  | cons b r =>
    rw [hr] at HP
    by_cases hb : b = 44
    · subst hb
      rw [if_pos (by rfl), if_pos (by rfl), if_pos (by rfl)]
      exact rahd_c g k 0 e 0 _ o _ 0 rfl w h (Lib.hid HP) (Lib.hid (fun w => usual_any o w ho))
    · have hb1 : ¬ (b :: r).head? = some 44 := by intro c; injection c with c; exact hb c
      have hb2 : ((b.toNat : Int) == 44) = false := by
        rw [beq_eq_false_iff_ne]; intro c; exact hb (UInt8.toNat_inj.1 (by rw [show (44 : UInt8).toNat = 44 from rfl]; omega))
      rw [if_neg hb1, if_neg hb1, if_neg hb1]
      exact rahd_o g k _ e _ _ o _ _ hb2 w h (Lib.hid HP) (Lib.hid HO)
theorem rchg_any (g k : Nat) (e : Int) (s : ByteArray) (w : World) (h : Sk Ts w g (.string s) k e) (hk : k ≤ s.size) (hs : s.size ≤ 100000) :
    Calls Try.prog 22 #[.agg #[.pointer (some ⟨g, 0, none⟩)]] w fun x w' =>
      x = .returned (.agg (chV s.data.toList k e).cells) ∧ Mv Ts g (.string s) (chK s.data.toList k e) (chE s.data.toList k e) w w' := by
  have hsz : s.data.toList.length = s.size := by simp
  have HM := fun w h => mustp_any g k e s al_44 w h hk hs
  have k1 := mcK_le 44 s.data.toList e (k := k) (by omega)
  have HU := fun w h => untilp_any g (mcK 44 s.data.toList k e) (mcE 44 s.data.toList k e) s 44 w h (by omega) hs
  have hl : (chS s.data.toList k e).length ≤ 100000 := twl_100 (by omega)
  have HP := fun w => parse16_any ⟨(chS s.data.toList k e).toArray⟩ w (by rw [Lib.size_mk]; exact hl)
  rw [ls_ba] at HP
  show Calls _ _ _ _ fun x w' => x = .returned (.agg (rpV (chS s.data.toList k e)).cells) ∧ _
  by_cases c : rpE (chS s.data.toList k e) = 0
  · have eE : chE s.data.toList k e = mcE 44 s.data.toList k e := if_pos c
    rw [eE]
    rw [c] at HP
    exact rchg_y g k _ _ e _ 0 _ _ _ _ _ _ _ 1 (by decide) w h (Lib.hid HM) (Lib.hid HU) (Lib.hid HP)
  · have eE : chE s.data.toList k e = flE (mcE 44 s.data.toList k e) (rpE (chS s.data.toList k e)) := if_neg c
    rw [eE]
    exact rchg_n g k _ _ e _ _ _ _ _ _ _ _ _ _ c w h (Lib.hid HM) (Lib.hid HU) (Lib.hid HP) (Lib.hid (fun w h => fail_s g _ _ _ _ _ w h rfl c))
theorem rplan_any (g : Nat) (s : ByteArray) (w : World) (h : Sk Ts w g (.string s) 0 0) (hs : s.size ≤ 100000) :
    Calls Try.prog 10 #[.agg #[.pointer (some ⟨g, 0, none⟩)]] w fun x w' =>
      x = .returned (.agg (plV s.data.toList).cells) ∧ Mv Ts g (.string s) (plK s.data.toList) (plF s.data.toList) w w' := by
  have hsz : s.data.toList.length = s.size := by simp
  obtain ⟨l1, l2, l3, l4, l5, l6, -⟩ := p_le s.data.toList
  have ob := ofN_bd s.data.toList (p1K s.data.toList) (p1E s.data.toList)
  have HN1 := fun w h => rname_any g 0 0 s w h (Nat.zero_le _) hs
  have HO := fun w h => roff_any g (p1K s.data.toList) (p1E s.data.toList) s w h (by omega) hs
  have HL := fun w h => left_s g (p2K s.data.toList) (p2E s.data.toList) (.string s) s w h rfl (by omega) hs
  have HN2 := fun w h => rname_any g (p2K s.data.toList) (p2E s.data.toList) s w h (by omega) hs
  have HA := fun w h => rahd_any g (p3K s.data.toList) (p3E s.data.toList) (ofN s.data.toList (p1K s.data.toList) (p1E s.data.toList)) s w h (by omega) hs (by omega)
  have HC1 := fun w h => rchg_any g (p4K s.data.toList) (p4E s.data.toList) s w h (by omega) hs
  have HC2 := fun w h => rchg_any g (p5K s.data.toList) (p5E s.data.toList) s w h (by omega) hs
  by_cases c : rs s.data.toList (p2K s.data.toList) (p2E s.data.toList) = []
  · have e1 : plV s.data.toList = ⟨naS s.data.toList 0 0, [], p2O s.data.toList, 0, ru0, ru0⟩ := if_pos c
    have e2 : plK s.data.toList = p2K s.data.toList := if_pos c
    have e3 : plF s.data.toList = p2E s.data.toList := if_pos c
    rw [e1, e2, e3]
    exact rplan_s g _ _ 0 0 0 0 _ _ _ 0 0 0 0 _ _ ⟨#[]⟩ _ 0 0 0 0 0 0 0 0 0 0 0 (by rw [c]; rfl) w h (Lib.hid HN1) (Lib.hid HO) (Lib.hid HL)
  · have e1 : plV s.data.toList = ⟨naS s.data.toList 0 0, naS s.data.toList (p2K s.data.toList) (p2E s.data.toList), p2O s.data.toList, adN s.data.toList (p3K s.data.toList) (p3E s.data.toList) (p2O s.data.toList), chV s.data.toList (p4K s.data.toList) (p4E s.data.toList), chV s.data.toList (p5K s.data.toList) (p5E s.data.toList)⟩ := if_neg c
    have e2 : plK s.data.toList = p6K s.data.toList := if_neg c
    have e3 : plF s.data.toList = p6E s.data.toList := if_neg c
    have hm : (((rs s.data.toList (p2K s.data.toList) (p2E s.data.toList)).length : Int) == 0) = false := by
      rw [beq_eq_false_iff_ne]; have := List.length_pos_iff.2 c; omega
    rw [e1, e2, e3]
    exact rplan_l g _ _ _ _ _ _ _ _ _ _ _ _ _ _ _ _ _ _ _ _ _ _ _ _ _ _ _ _ hm w h (Lib.hid HN1) (Lib.hid HO) (Lib.hid HL) (Lib.hid HN2) (Lib.hid HA) (Lib.hid HC1) (Lib.hid HC2)
end Go.Proofs.Ytkhcneacjnpcnaa
