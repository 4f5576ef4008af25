/- Merged: ListAS, ListBB, ListAW. -/
import Derived.Test.YtdonicaiimeleaaGreatDoorGListParses49
import Derived.Test.YtdonicaiimeleaaGreatDoorGListParses42
import Derived.Test.YtdonicaiimeleaaGreatDoorGListParses20
import Derived.BigRegion
import Derived.Test.YtdonicaiimeleaaGreatDoorGListParses22
import Derived.Test.YtdonicaiimeleaaGreatDoorGListParses46
import Derived.Test.YtdonicaiimeleaaGreatDoorGListParses40
import Derived.Test.YtdonicaiimeleaaGreatDoorGListParses5
import Derived.Test.YtdonicaiimeleaaGreatDoorGListParses15
import Derived.Test.YtdonicaiimeleaaGreatDoorGListParses19
import Derived.Test.YtdonicaiimeleaaGreatDoorGListParses27
import Derived.Deep.RegionHeld3
namespace Go.Proofs.YtdonicaiimeleaaGreatDoor
open Go.RowKit
set_option linter.unusedVariables false
set_option linter.unusedSimpArgs false

/-- What the program's variables hold. -/
structure S11 (w : World) : Prop where
  ends : Ends w
  tab : Tab w
  eps : Eps w
  start : Start w
  ge : GE w
theorem S11.below {w w' : World} (h : S11 w) (hb : Below w.heap.size w w') : S11 w' := ⟨h.ends.below hb, h.tab.below hb, h.eps.below hb, h.start.below hb, h.ge.below hb⟩
theorem parse11_s (t : ByteArray) (w : World) (h : S11 w) :
    Calls Tryz.prog 5 #[.string t] w fun x w' => ∃ v, x = .returned (.tuple #[v, ev (pZ11 t.data.toList)]) ∧ (pZ11 t.data.toList ≠ 0 → v = .pointer none) ∧
      (pZ11 t.data.toList = 0 → ∃ g, v = .pointer (some ⟨g, 0, none⟩) ∧ Tb 0 w' g (rg11 t.data.toList).L (rg11 t.data.toList).u (rg11 t.data.toList).e) ∧ Below w.heap.size w w' := parse11_all t w h.eps h.ge h.ends h.tab h.start
theorem parse11_no (t : ByteArray) (w : World) (h : S11 w) (hz : pZ11 t.data.toList ≠ 0) :
    Calls Tryz.prog 5 #[.string t] w fun x w' => x = .returned (.tuple #[.pointer none, ev (pZ11 t.data.toList)]) ∧ Below w.heap.size w w' :=
  (parse11_s t w h).mono fun x w' ⟨v, k1, k2, k3, k4⟩ => ⟨by rw [k1, k2 hz], k4⟩
theorem parse11_yes (t : ByteArray) (w : World) (h : S11 w) (hz : pZ11 t.data.toList = 0) :
    Calls Tryz.prog 5 #[.string t] w fun x w' => ∃ g, x = .returned (.tuple #[.pointer (some ⟨g, 0, none⟩), ev 0]) ∧ Below w.heap.size w w' ∧ Tb 0 w' g (rg11 t.data.toList).L (rg11 t.data.toList).u (rg11 t.data.toList).e :=
  (parse11_s t w h).mono fun x w' ⟨v, k1, k2, k3, k4⟩ => by
    obtain ⟨g, rfl, hg⟩ := k3 hz
    exact ⟨g, by rw [k1, hz], k4, hg⟩
theorem pE11_zero {l : List UInt8} (h : pZ11 l = 0) : l.length ≤ 65535 ∧ (go11 (lnL l) zr11).1 = 0 ∧ paE11 (rg11 l) = 0 := by
  unfold pZ11 at h
  split at h
  · unfold pE11 at h
    split at h
    · exact ⟨by assumption, by assumption, h⟩
    · exact absurd h (by assumption)
  · cases h
/-- The chapter's example. -/
def ext11 : List UInt8 := [35, 36, 32, 53, 10, 35, 64, 32, 57, 10, 50, 50, 55, 50, 48, 54, 48, 56, 48, 48, 9, 49, 48, 10]
theorem ext_go : go11 (lnL ext11) zr11 = (0, ⟨[⟨730, 10⟩], 5, 9, 1, 1, 0, 0, 0, 0, 0, 0⟩) := by kernel_rfl
theorem exl11_ok : lkE [⟨730, 10⟩] 5 9 = 0 := by
  have one : ∀ {j : Nat}, j < 1 → j = 0 := fun h => by omega
  unfold lkE
  rw [if_neg (by decide), if_neg (by decide), if_neg, if_neg, if_neg (by decide), if_neg]
  · rintro ⟨j, hj, -⟩; simp at hj
  · rintro ⟨j, hj, h⟩
    have := one hj
    subst this
    unfold w2 at h
    rw [show rd [⟨730, 10⟩] 0 = 730 from rfl, d1_is dt730] at h
    exact absurd h (by decide)
  · rintro ⟨j, hj, h⟩
    have := one hj
    subst this
    exact absurd h (by decide)
theorem ext_zero : pZ11 ext11 = 0 ∧ (rg11 ext11).L = [⟨730, 10⟩] := by
  have e1 : rg11 ext11 = ⟨[⟨730, 10⟩], 5, 9, 1, 1, 0, 0, 0, 0, 0, 0⟩ := by unfold rg11; rw [ext_go]
  rw [e1]
  refine ⟨?_, rfl⟩
  unfold pZ11 pE11
  rw [if_pos (by decide), ext_go, if_pos rfl, e1]
  unfold paE11
  rw [if_neg (by decide), if_pos exl11_ok, if_neg (by decide)]
set_option maxRecDepth 100000 in
set_option maxHeartbeats 4000000 in
theorem alive11_any (w : World) (hs : S11 w) : Calls Tryz.prog 4 #[] w fun e w' => e = .returned (.bool true) ∧ Below w.heap.size w w' := by
  have q0 := fun op t W x k => guard_ev op t W x k
  have q1 := fun W k => eql_ev W k
  have q2 := fun W k => neq_ev W k
  have hPa := parse11_yes ⟨ext11.toArray⟩ w hs (by simpa using ext_zero.1)
  rw [show ((⟨ext11.toArray⟩ : ByteArray).data.toList) = ext11 by simp, ext_zero.2] at hPa
  generalize (rg11 ext11).u = u0 at *
  generalize (rg11 ext11).e = e0 at *
  have HPa := Lib.hid hPa
  have hRo := fun (lo g : Nat) (W : World) (h : Tb lo W g [⟨730, 10⟩] u0 e0) => row_any 0 h.v
  rw [show rwD [⟨730, 10⟩] 0 = 730 from rfl, show rwO [⟨730, 10⟩] 0 = 10 from rfl, show rwB [⟨730, 10⟩] 0 = true from rfl] at hRo
  have HRo := Lib.hid hRo
  clear hPa hs hRo
  go_enter Tryz.func4, Tryz.ntmps4
  go_wp2_with fail
  refine HPa.out.mono ?_
  rintro e1 w1 ⟨g, rfl, hb, ht⟩
  have B1 := Lib.hid hb; have T1 := Lib.hid ht
  clear hb ht
  go_wp2_with fail
  refine (HRo.out _ _ _ T1.out).mono ?_
  rintro e2 w2 ⟨rfl, hb⟩
  have B2 := Lib.hid (B1.out.trans (hb.mono B1.out.size))
  clear hb
  go_wp2_with fail
  go_ret
  exact ⟨rfl, B2.out.alloc B2.out.size _⟩

end Go.Proofs.YtdonicaiimeleaaGreatDoor

namespace Go.Proofs.YtdonicaiimeleaaGreatDoor
open Go.RowKit Go.WideShapes Go.ChangeShapes
set_option linter.unusedVariables false
set_option linter.unusedSimpArgs false

/-- n tells which line is the first that is wrong; 0: none. -/
def fa11 (ls : List (List UInt8)) (n : Int) : Prop := (n = 0 ∧ alG ls ls.length) ∨ ∃ K : Nat, n = (K : Int) + 1 ∧ K < ls.length ∧ alG ls K ∧ on11 (alR ls K) (ls.getD K []) ≠ 0
theorem fa_one {ls : List (List UInt8)} {n m : Int} (h : fa11 ls n) (k : fa11 ls m) : n = m := by
  rcases h with ⟨rfl, a⟩ | ⟨K, rfl, a1, a2, a3⟩ <;> rcases k with ⟨rfl, b⟩ | ⟨J, rfl, b1, b2, b3⟩
  · rfl
  · exact absurd (a J b1) b3
  · exact absurd (b K a1) a3
  · rcases Nat.lt_trichotomy K J with h | h | h
    · exact absurd (b2 K h) a3
    · rw [h]
    · exact absurd (a2 J h) b3
theorem fa_sp {l : List UInt8} {n : Int} (h : fa11 (spR 10 l) n) : fa11 (lnL l) n := by
  rcases h with ⟨rfl, a⟩ | ⟨K, rfl, a⟩
  · exact .inl ⟨rfl, (alG_sp l).1 a⟩
  · obtain ⟨b1, b2, b3⟩ := (bad_sp l K).1 a
    exact .inr ⟨K, rfl, b1, b2, b3⟩
def FA (l : List UInt8) (n : Int) : Prop := if l.length ≤ 65535 then fa11 (lnL l) n else n = 0
theorem FA_ex (l : List UInt8) : ∃ n, FA l n := by
  unfold FA
  split
  · rcases go_is (lnL l) with ⟨a, _⟩ | ⟨K, a, b, c, _⟩
    · exact ⟨0, .inl ⟨rfl, a⟩⟩
    · exact ⟨_, .inr ⟨K, rfl, a, b, c⟩⟩
  · exact ⟨0, rfl⟩
theorem tl_size (t : ByteArray) : t.data.toList.length = t.size := by rw [Array.length_toList]; rfl
theorem fault11_n (t : ByteArray) (w : World) (hs : S11 w) (n : Int) (h : FA t.data.toList n) :
    Calls Tryz.prog 8 #[.string t] w fun x w' => x = .returned (.int .i64 n) ∧ Below w.heap.size w w' := by
  have hz := tl_size t
  unfold FA at h
  rw [hz] at h
  by_cases ht : t.size ≤ 65535
  · rw [if_pos ht] at h
    refine (fault11_any t w hs.eps hs.ge ht).mono ?_
    rintro x w' ⟨m, rfl, hm, hb⟩
    rw [fa_one (fa_sp hm) h]
    exact ⟨rfl, hb⟩
  · rw [if_neg ht] at h
    subst h
    exact fault11_long t w ht
/-- What is read of a text, and its error. -/
def aE11 (l : List UInt8) : Int := if l.length ≤ 65535 then (go11 (lnL l) zr11).1 else 3
def aR11 (l : List UInt8) : Rd11 := if l.length ≤ 65535 then rg11 l else zr11
theorem aR_bd (l : List UInt8) : (aR11 l).L.length ≤ 100000 ∧ 0 ≤ (aR11 l).m ∧ 0 ≤ (aR11 l).h ∧ 0 ≤ (aR11 l).s := by
  unfold aR11
  split
  · rename_i hl
    have hn := lnL_len l
    unfold rg11
    rcases go_is (lnL l) with ⟨_, g⟩ | ⟨K, a, _, _, g⟩
    · rw [g]
      have := al_bd (lnL l) (lnL l).length
      exact ⟨by dsimp only; omega, this.2.1, this.2.2.2.1, this.2.2.2.2.2⟩
    · rw [g]
      have := al_bd (lnL l) K
      exact ⟨by dsimp only; omega, this.2.1, this.2.2.2.1, this.2.2.2.2.2⟩
  · exact ⟨by decide, by decide, by decide, by decide⟩
theorem pz_no {l : List UInt8} (h : aE11 l ≠ 0) : pZ11 l = aE11 l := by
  unfold pZ11 aE11 pE11 at *
  split
  · rename_i hl
    rw [if_pos hl] at h
    rw [if_neg h]
  · rfl
theorem pz_yes {l : List UInt8} (h : aE11 l = 0) : pZ11 l = paE11 (aR11 l) ∧ aR11 l = rg11 l := by
  unfold pZ11 aE11 pE11 aR11 at *
  split
  · rename_i hl
    rw [if_pos hl] at h
    rw [if_pos h]
    exact ⟨rfl, rfl⟩
  · rename_i hl
    rw [if_neg hl] at h
    cases h
set_option maxRecDepth 100000 in
set_option maxHeartbeats 4000000 in
theorem all_long (t : ByteArray) (w : World) (ht : ¬ t.size ≤ 65535) :
    Calls Tryz.prog 9 #[.string t] w fun x w' => x = .returned (.agg (rcR none 0 zr11 0 3)) ∧ Below w.heap.size w w' := by
  obtain ⟨W1, hW1, b1, z1, g1⟩ := two13 w (.slice none 0 0) 0 0 0 0 0 0 0 0 0 0 0 0
  have B1 := Lib.hid b1; have G1 := Lib.hid g1; have Z1 := Lib.hid z1
  have hz : (t.size : Int) > 65535 := by omega
  obtain ⟨c0, c1, c2, c3, c4, c5, c6, c7, c8, c9, c10, c11, c12⟩ := G1.out.all
  obtain ⟨f0, f1, f2, f3, f4, f5, f6, f7, f8, f9, f10, f11, f12⟩ := G1.out.frees
  obtain ⟨d0, d1, d2, d3, d4, d5, d6, d7, d8, d9, d10, d11, d12⟩ := Z1.out.all
  obtain ⟨p0, p1, p2, p3, p4, p5, p6, p7, p8, p9, p10, p11, p12⟩ := Z1.out.frees
  clear b1 g1 z1 ht
  go_enter Tryz.func9, Tryz.ntmps9
  go_upto_region 2 with fail
  rw [← hW1]
  clear hW1
  go_wp2_with fail
  clear c0 c1 c2 c3 c4 c5 c6 c7 c8 c9 c10 c11 c12 f0 f1 f2 f3 f4 f5 f6 f7 f8 f9 f10 f11 f12 d0 d1 d2 d3 d4 d5 d6 d7 d8 d9 d10 d11 d12 p0 p1 p2 p3 p4 p5 p6 p7 p8 p9 p10 p11 p12
  have ZV : B13 (W1.setCell ⟨w.heap.size + 1, 12, none⟩ (.int .i64 3)) w.heap.size zz13 := Z1.out.far1 (by omega) 12 _
  have rr := ZV.put (.slice none 0 0) (.int .i64 0) (.int .i64 0) (.int .i64 0) (.int .i64 0) (.int .i64 0) (.int .u32 0) (.int .u32 0) (.int .u32 0) (.int .u32 0) (.int .u32 0) (.int .i64 0) (.int .i64 (3))
  have BV := put13_below (q := w.heap.size) (B1.out.setCell (p := ⟨w.heap.size + 1, 12, none⟩) (Nat.le_succ _) (.int .i64 3)) (Nat.le_refl _) (.slice none 0 0) (.int .i64 0) (.int .i64 0) (.int .i64 0) (.int .i64 0) (.int .i64 0) (.int .u32 0) (.int .u32 0) (.int .u32 0) (.int .u32 0) (.int .u32 0) (.int .i64 0) (.int .i64 (3))
  obtain ⟨r0, r1, r2, r3, r4, r5, r6, r7, r8, r9, r10, r11, r12⟩ := rr.all
  refine bodyPost_ret (v := .agg (rcR none 0 zr11 0 3)) (by simp [zr11, results, Tryz.results9, go_sem, r0, r1, r2, r3, r4, r5, r6, r7, r8, r9, r10, r11, r12]) rfl ⟨rfl, BV⟩
theorem all11_n (t : ByteArray) (w : World) (n : Int) (h : FA t.data.toList n) :
    Calls Tryz.prog 9 #[.string t] w fun x w' => ∃ A c, x = .returned (.agg (rcR A c (aR11 t.data.toList) n (aE11 t.data.toList))) ∧ Rp w'.heap.size w' A (aR11 t.data.toList).L ∧ (A = none → c = 0 ∧ (aR11 t.data.toList).L = []) ∧ (∀ b off, A = some ⟨b, off, none⟩ → w.heap.size ≤ b) ∧ Below w.heap.size w w' := by
  have hz := tl_size t
  unfold FA at h
  unfold aR11 aE11
  rw [hz] at h ⊢
  by_cases ht : t.size ≤ 65535
  · rw [if_pos ht] at h
    rw [if_pos ht, if_pos ht]
    refine (all_any t w ht).mono ?_
    rintro x w' ⟨A, c, K, rfl, k1, k2, k3, k4, k5, k7, k6⟩
    unfold rg11
    rcases go_is (lnL t.data.toList) with ⟨a, g⟩ | ⟨J, a, b, d, g⟩
    · have hK : K = (lnL t.data.toList).length := by
        refine Decidable.byContradiction fun hne => ?_
        exact k3 (by omega) (a K (by omega))
      have hn : n = 0 := fa_one h (.inl ⟨rfl, a⟩)
      subst hK
      rw [if_neg (Nat.lt_irrefl _), if_neg (Nat.lt_irrefl _), g, hn]
      exact ⟨A, c, rfl, k4, k5, k7, k6⟩
    · have hK : K = J := by
        rcases Nat.lt_trichotomy K J with h1 | h1 | h1
        · exact absurd (b K h1) (k3 (by omega))
        · exact h1
        · exact absurd (k2 J h1) d
      have hn : n = (J : Int) + 1 := fa_one h (.inr ⟨J, rfl, a, b, d⟩)
      subst hK
      rw [if_pos a, if_pos a, g, hn]
      exact ⟨A, c, rfl, k4, k5, k7, k6⟩
  · rw [if_neg ht] at h
    rw [if_neg ht, if_neg ht]
    subst h
    refine (all_long t w ht).mono ?_
    rintro x w' ⟨rfl, hb⟩
    exact ⟨none, 0, rfl, .inl rfl, fun _ => ⟨rfl, rfl⟩, fun b off h => (by cases h), hb⟩

end Go.Proofs.YtdonicaiimeleaaGreatDoor

namespace Go.Proofs.YtdonicaiimeleaaGreatDoor
open Go.RowKit
set_option linter.unusedVariables false
set_option linter.unusedSimpArgs false

/-- All that W0 has lies in W as it lay. -/
structure Kq9 (W0 W : World) : Prop where
  bel : Below W0.heap.size W0 W
theorem Kq9.step {W0 W W' : World} (h : Kq9 W0 W) (hb : Below W.heap.size W W') : Kq9 W0 W' := ⟨h.bel.trans (hb.mono h.bel.size)⟩
theorem raw_pt (n : Int) (w : World) (h : 0 ≤ n) (h2 : n ≤ 9223372036854775807) : Calls Tryz.prog 31 #[.int .i64 n, .int .i64 0] w fun e w' => e = .returned (.string ⟨(ptL n 0).toArray⟩) ∧ Below w.heap.size w w' := by
  obtain ⟨k, rfl⟩ : ∃ k : Nat, n = k := ⟨n.toNat, by omega⟩
  have := raw_any k 0 w (by omega) (by omega)
  rw [pt_dec h, Int.natAbs_natCast]
  simpa [pad] using this
theorem rof1900 (w : World) : Calls Tryz.prog 32 #[.int .i64 1900, .int .i64 1, .int .i64 1] w fun e w' => e = .returned (.int .i64 (-25567)) ∧ Below w.heap.size w w' := by
  have h := rof_any 1900 1 1 w (by unfold isy; omega) (by decide) (by decide) (by decide) (by decide)
  rw [show st 1900 + em 1900 (1 - 1) + 1 - 1 = -25567 by decide] at h
  exact h
theorem adds11 (x y : List UInt8) (hx : x.length ≤ 100000) (hy : y.length ≤ 100000) (W : World) : (Op.stringOp .add ⟨x.toArray⟩ ⟨y.toArray⟩).run Tryz.prog W = .ok (.string ⟨(x ++ y).toArray⟩) W := run_string_add_lists (P := Tryz.prog) (w := W) x y (by omega) (by omega)
/-- What a round adds. -/
theorem dg_next (u e : Int) (L : List Rw) {j : Nat} (hj : j < L.length) : (ptL u 0 ++ ptL e 0 ++ dgR (L.take j)) ++ (ptL (sc11 (rd L j)) 0 ++ ptL (ro L j) 0) = ptL u 0 ++ ptL e 0 ++ dgR (L.take (j + 1)) := by
  rw [dgR_at L hj]; simp

set_option maxRecDepth 100000 in
set_option maxHeartbeats 4000000 in
theorem rdigest11_any (A : Option Addr) (c : Nat) (L : List Rw) (u e : Int) (w : World) (hr : Rp w.heap.size w A L) (hk : lkE L u e = 0) :
    Calls Tryz.prog 15 #[.agg #[.slice A L.length c, .int .i64 u, .int .i64 e]] w fun x w' => x = .returned (.agg (stv (dig (dgT L u e)))) ∧ Below w.heap.size w w' := by
  obtain ⟨v, ⟨hu1, hu2⟩, he1, he2⟩ := lkE_zero hk
  have hR := rows11_of hk
  have few := v.few
  obtain ⟨Wa, hWa, hba, hsa, c0, c1, c2⟩ := dbox w A L.length c u e
  obtain ⟨W0, hW0⟩ : ∃ W0, W0 = Wa.alloc (.cells #[.int .u32 0, .int .u32 0, .int .u32 0, .int .u32 0, .int .u32 0] 36) := ⟨_, rfl⟩
  have b1 : Below Wa.heap.size Wa W0 := by rw [hW0]; exact (Below.refl _ Wa).alloc (Nat.le_refl _) _
  have z0 : Sb W0 (w.heap.size + 1) zs5 := by rw [← hsa, hW0]; exact heap_alloc_new Wa _
  have s0 : W0.heap.size = w.heap.size + 1 + 1 := by rw [hW0]; simp [hsa]
  have b0 : Below w.heap.size w W0 := hba.trans (b1.mono hba.size)
  have HC : Hid (∀ W, Below W0.heap.size W0 W → W.cell? ⟨w.heap.size, 0, none⟩ = some (.slice A L.length c) ∧ W.cell? ⟨w.heap.size, 1, none⟩ = some (.int .i64 u) ∧ W.cell? ⟨w.heap.size, 2, none⟩ = some (.int .i64 e)) := Lib.hid fun W hq => by
    have hh := b1.trans (hq.mono b1.size)
    exact ⟨(hh.cell (p := ⟨w.heap.size, 0, none⟩) (show w.heap.size < Wa.heap.size by omega)).trans c0, (hh.cell (p := ⟨w.heap.size, 1, none⟩) (show w.heap.size < Wa.heap.size by omega)).trans c1, (hh.cell (p := ⟨w.heap.size, 2, none⟩) (show w.heap.size < Wa.heap.size by omega)).trans c2⟩
  have HRp : Hid (∀ W, Below W0.heap.size W0 W → Rp W.heap.size W A L) := Lib.hid fun W hq => (hr.keep (b0.trans (hq.mono b0.size))).mono (Nat.le_trans b0.size hq.size)
  have Z0 := Lib.hid z0; have B0 := Lib.hid b0
  have HU := Lib.hid (fun W => raw_pt u W hu1 (by omega))
  have HE := Lib.hid (fun W => raw_pt e W he1 (by omega))
  have hl := hR.hl
  have hd0 : dgT L u e = ptL u 0 ++ ptL e 0 ++ dgR L := rfl
  have hle := fun j => dgT_le L u e j
  have hpu : (ptL u 0).length ≤ 10000 ∧ (ptL e 0).length ≤ 10000 := by rw [hd0] at hl; simp only [List.length_append] at hl; omega
  have A1 := fun W => adds11 (ptL u 0) (ptL e 0) (by omega) (by omega) W
  have HLen : Hid (∀ j, (ptL u 0 ++ ptL e 0 ++ dgR (L.take j)).length ≤ 10000) := Lib.hid (fun j => Nat.le_trans (dgT_le L u e j) hl)
  have HN : Hid (∀ j, j < L.length → dgR (L.take (j + 1)) = dgR (L.take j) ++ (ptL (sc11 (rd L j)) 0 ++ ptL (ro L j) 0)) := Lib.hid (fun j hj => dgR_at L hj)
  have HV : Hid (∀ j, j < L.length → (-25567 ≤ rd L j ∧ rd L j ≤ 2932896) ∧ 0 ≤ ro L j ∧ ro L j ≤ 1000) := Lib.hid (fun j hj => ⟨v.day j hj, v.off j hj⟩)
  have HNX : Hid (∀ j, j < L.length → (ptL u 0 ++ ptL e 0 ++ dgR (L.take j)) ++ (ptL (sc11 (rd L j)) 0 ++ ptL (ro L j) 0) = ptL u 0 ++ ptL e 0 ++ dgR (L.take (j + 1))) := Lib.hid (fun j hj => dg_next u e L hj)
  obtain ⟨X0, hX0⟩ : ∃ X0 : ByteArray, X0 = ⟨(ptL u 0 ++ ptL e 0).toArray⟩ := ⟨_, rfl⟩
  rw [← hX0] at A1
  obtain ⟨XU, hXU⟩ : ∃ XU : ByteArray, XU = ⟨(ptL u 0).toArray⟩ := ⟨_, rfl⟩
  obtain ⟨XE, hXE⟩ : ∃ XE : ByteArray, XE = ⟨(ptL e 0).toArray⟩ := ⟨_, rfl⟩
  rw [← hXU] at HU A1
  rw [← hXE] at HE A1
  have HX0 := Lib.hid hX0
  have HSS := Lib.hid s0
  have HFe := Lib.hid few
  obtain ⟨N, hN⟩ : ∃ N, L.length = N := ⟨_, rfl⟩
  have HNN := Lib.hid hN
  rw [hN] at hWa HC ⊢
  rw [hWa] at hW0
  clear hr hk v hu1 hu2 he1 he2 hR few hWa hba hsa c0 c1 c2 b1 z0 s0 b0 hl hd0 hle hpu hX0 hXU hXE hN
  have HS9 : Hid (∀ W, Kq9 W0 W → (W.cell? ⟨w.heap.size, 0, none⟩ = some (.slice A N c) ∧ W.cell? ⟨w.heap.size, 1, none⟩ = some (.int .i64 u) ∧ W.cell? ⟨w.heap.size, 2, none⟩ = some (.int .i64 e)) ∧ Kq9 W0 W) := Lib.hid fun W hk => ⟨HC.out W hk.bel, hk⟩
  have hKD : Kq9 W0 W0.drew := ⟨(Below.refl _ W0).drew⟩
  obtain ⟨c0, c1, c2⟩ := HC.out W0 (Below.refl _ _)
  go_enter Tryz.func15, Tryz.ntmps15
  go_upto_region 1 with fail
  rw [← hW0]; clear hW0
  go_region_held3 (fun W => (W.cell? ⟨w.heap.size, 0, none⟩ = some (.slice A N c) ∧ W.cell? ⟨w.heap.size, 1, none⟩ = some (.int .i64 u) ∧ W.cell? ⟨w.heap.size, 2, none⟩ = some (.int .i64 e)) ∧ Kq9 W0 W)
    (exact HS9.out _ (by assumption))
    (first
      | (go_at_call 31; go_split_ands; (with_reducible refine (HU.out _).mono ?_); rintro er wr9 ⟨rfl, hq⟩; have hkr : Kq9 W0 wr9 := Kq9.step (by assumption) hq; clear hq)
      | (go_at_call 31; go_split_ands; (with_reducible refine (HE.out _).mono ?_); rintro er wr9 ⟨rfl, hq⟩; have hkr : Kq9 W0 wr9 := Kq9.step (by assumption) hq; clear hq))
  have Q1 : Hid (Below W0.heap.size W0 _) := Lib.hid (Kq9.bel (W0 := W0) (by assumption))
  clear hKD HS9 c0 c1 c2
  go_wp2_with fail
  go_loopg [3, 4] N (fun gg s3 s4 wr => ∃ j : Nat, j ≤ N ∧ N - j ≤ gg ∧ s3 = .string ⟨(ptL u 0 ++ ptL e 0 ++ dgR (L.take j)).toArray⟩ ∧ s4 = .int .i64 j ∧ Hid (Below W0.heap.size W0 wr))
  case atStart => exact ⟨0, Nat.zero_le _, by omega, by rw [HX0.out]; simp [dgR], rfl, Q1⟩
  case round =>
    clear Q1
    obtain ⟨j, hj, hgg, rfl, rfl, Q3⟩ := hrel
    obtain ⟨k0, k1, k2⟩ := HC.out _ Q3.out
    by_cases hlt : j < N
    · have hltz : (j : Int) < (N : Int) := by omega
      have hN4 : N ≤ 256 := by have := HFe.out; have := HNN.out; omega
      have hjL : j < L.length := by have := HNN.out; omega
      obtain ⟨bA, oA, hA, -, hbA, hcA⟩ := (HRp.out _ Q3.out).pos (by omega)
      subst hA
      obtain ⟨r0, r1⟩ := hcA j hjL
      obtain ⟨⟨v1, v2⟩, v3, v4⟩ := HV.out j hjL
      have HD1 := Lib.hid (fun W => raw_pt (sc11 (rd L j)) W (by unfold sc11; omega) (by unfold sc11; omega))
      have HO1 := Lib.hid (fun W => raw_pt (ro L j) W (by omega) (by omega))
      have hlen := HLen.out j; have hlen2 := HLen.out (j + 1)
      have hn := HN.out j hjL
      have hlx : (ptL (sc11 (rd L j)) 0).length ≤ 10000 ∧ (ptL (ro L j) 0).length ≤ 10000 := by
        rw [hn] at hlen2; simp only [List.length_append] at hlen2; omega
      have A2 := fun W => adds11 (ptL (sc11 (rd L j)) 0) (ptL (ro L j) 0) (by omega) (by omega) W
      have A3 := fun W => adds11 (ptL u 0 ++ ptL e 0 ++ dgR (L.take j)) (ptL (sc11 (rd L j)) 0 ++ ptL (ro L j) 0) (by omega) (by rw [List.length_append]; omega) W
      rw [HNX.out j hjL] at A3
      have w1 : IntKind.i64.wrap (rd L j - -25567) = rd L j + 25567 := by rw [show rd L j - -25567 = rd L j + 25567 by omega]; exact IntWalk.i64_in _ (by omega)
      have w1b : IntKind.i64.wrap (rd L j + 25567) = rd L j + 25567 := IntWalk.i64_in _ (by omega)
      have w2 : IntKind.i64.wrap ((rd L j + 25567) * 86400) = sc11 (rd L j) := IntWalk.i64_in _ (by omega)
      have hje : Hid (j + 1 ≤ N) := Lib.hid hlt
      obtain ⟨XD, hXD⟩ : ∃ XD : ByteArray, XD = ⟨(ptL (sc11 (rd L j)) 0).toArray⟩ := ⟨_, rfl⟩
      obtain ⟨XO, hXO⟩ : ∃ XO : ByteArray, XO = ⟨(ptL (ro L j) 0).toArray⟩ := ⟨_, rfl⟩
      obtain ⟨XS, hXS⟩ : ∃ XS : ByteArray, XS = ⟨(ptL (sc11 (rd L j)) 0 ++ ptL (ro L j) 0).toArray⟩ := ⟨_, rfl⟩
      obtain ⟨XT, hXT⟩ : ∃ XT : ByteArray, XT = ⟨(ptL u 0 ++ ptL e 0 ++ dgR (L.take j)).toArray⟩ := ⟨_, rfl⟩
      obtain ⟨XN, hXN⟩ : ∃ XN : ByteArray, XN = ⟨(ptL u 0 ++ ptL e 0 ++ dgR (L.take (j + 1))).toArray⟩ := ⟨_, rfl⟩
      rw [← hXD] at HD1 A2
      rw [← hXO] at HO1 A2
      rw [← hXS] at A2 A3
      rw [← hXT, ← hXN] at A3
      rw [← hXT]
      have HXN := Lib.hid hXN
      clear hlen hlen2 hn hlx hXD hXO hXS hXT hXN
      generalize sc11 (rd L j) = sj at *
      obtain ⟨dj, hdj⟩ : ∃ dj, dj = rd L j := ⟨_, rfl⟩
      obtain ⟨oj, hoj⟩ : ∃ oj, oj = ro L j := ⟨_, rfl⟩
      rw [← hdj] at r0 v1 v2 w1 w1b w2
      rw [← hoj] at r1 v3 v4 HO1
      clear hdj hoj
      have HS9 : Hid (∀ W, Kq9 wr W → (W.cell? ⟨w.heap.size, 0, none⟩ = some (.slice (some ⟨bA, oA, none⟩) N c) ∧ W.cell? ⟨bA, oA + j * 2, none⟩ = some (.int .i64 dj) ∧ W.cell? ⟨bA, oA + j * 2 + 1, none⟩ = some (.int .i64 oj)) ∧ Kq9 wr W) := Lib.hid fun W hk => ⟨⟨(HC.out W (Q3.out.trans (hk.bel.mono Q3.out.size))).1, (hk.bel.cell (p := ⟨bA, _, none⟩) hbA).trans r0, (hk.bel.cell (p := ⟨bA, _, none⟩) hbA).trans r1⟩, hk⟩
      have hKD : Kq9 wr wr.drew := ⟨(Below.refl _ wr).drew⟩
      clear k1 k2 hcA hbA
      go_upto_region 5 with fail
      go_region_held3 (fun W => (W.cell? ⟨w.heap.size, 0, none⟩ = some (.slice (some ⟨bA, oA, none⟩) N c) ∧ W.cell? ⟨bA, oA + j * 2, none⟩ = some (.int .i64 dj) ∧ W.cell? ⟨bA, oA + j * 2 + 1, none⟩ = some (.int .i64 oj)) ∧ Kq9 wr W)
        (exact HS9.out _ (by assumption))
        (first
          | (go_at_call 32; go_split_ands; refine (rof1900 _).mono ?_; rintro eo wo9 ⟨rfl, hq⟩; have hko : Kq9 wr wo9 := Kq9.step (by assumption) hq; clear hq)
          | (go_at_call 31; go_split_ands; (with_reducible refine (HD1.out _).mono ?_); rintro er wr9 ⟨rfl, hq⟩; have hkr : Kq9 wr wr9 := Kq9.step (by assumption) hq; clear hq)
          | (go_at_call 31; go_split_ands; (with_reducible refine (HO1.out _).mono ?_); rintro er wr9 ⟨rfl, hq⟩; have hkr : Kq9 wr wr9 := Kq9.step (by assumption) hq; clear hq))

      have Q5 := Lib.hid (Q3.out.trans ((Kq9.bel (W0 := wr) (by assumption)).mono Q3.out.size))
      clear hKD HS9 r0 r1 k0
      go_wp2_with fail
      go_roundg (N - (j + 1))
      case measure => omega
      case rel => exact ⟨j + 1, hje.out, by omega, by rw [HXN.out], by go_num, Q5⟩
    · have hltz : ¬ (j : Int) < (N : Int) := by omega
      have hjn : L.take j = L := by rw [List.take_of_length_le]; have := HNN.out; omega
      rw [hjn]
      obtain ⟨T, hT⟩ : ∃ T, T = ptL u 0 ++ ptL e 0 ++ dgR L := ⟨_, rfl⟩
      have hTl : T.length ≤ 10000 := by rw [hT, ← hjn]; exact HLen.out j
      rw [← hT]
      obtain ⟨c9, W9, hstr, r1, r2, r3, r4, r5⟩ := of_string wr ⟨T.toArray⟩ (by simp [ByteArray.size]; omega)
      rw [show (⟨T.toArray⟩ : ByteArray).size = T.length by simp [ByteArray.size]] at hstr
      have HW := Lib.hid (rwords_any (some ⟨wr.heap.size, 0, none⟩) T c9 W9 (by simpa using r1) (fun h => by cases h) (by omega))
      have HT := Lib.hid hT
      have Q9 := Lib.hid (Q3.out.trans (r4.mono Q3.out.size))
      clear r1 r2 r3 r4 r5 hTl hT hjn k1 k2
      generalize T.length = tl at *
      go_wp2_with fail
      refine HW.out.mono ?_
      rintro e1 w3 ⟨rfl, hb⟩
      have Q10 := Lib.hid (Q9.out.trans (hb.mono Q9.out.size))
      have Z9 := Lib.hid (Z0.out.keep Q10.out)
      clear hb
      obtain ⟨s, hs⟩ : ∃ s, s = dig T := ⟨_, rfl⟩
      rw [← hs]
      have HSd := Lib.hid hs
      clear hs
      obtain ⟨d0, d1, d2, d3, d4⟩ := Z9.out.all
      obtain ⟨f0, f1, f2, f3, f4⟩ := Z9.out.frees
      have HP := Lib.hid (put5_sb Z9.out s)
      have HB := Lib.hid (put5_below (B0.out.trans (Q10.out.mono B0.out.size)) (Nat.le_succ w.heap.size) s)
      unfold stv
      go_wp2_with fail
      show bodyPost _ _ _ _ _ (put5 w3 (w.heap.size + 1) s)
      obtain ⟨r0, r1, r2, r3, r4⟩ := HP.out.all
      have hB := HB.out
      generalize put5 w3 (w.heap.size + 1) s = W8 at *
      refine bodyPost_ret (v := .agg (stv s)) (by simp [results, Tryz.results15, go_sem, r0, r1, r2, r3, r4, stv]) rfl ⟨by rw [HSd.out, HT.out]; rfl, hB⟩

end Go.Proofs.YtdonicaiimeleaaGreatDoor
