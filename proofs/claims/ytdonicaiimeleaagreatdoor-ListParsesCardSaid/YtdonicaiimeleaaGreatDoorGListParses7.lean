/- Merged: BigC, BigD, BigE. -/
import Derived.Test.YtdonicaiimeleaaGreatDoorGListParses6
import Derived.BigQuiet
import Derived.Deep.QuietTactic
import Derived.OwnWalk
namespace Go.Proofs.YtdonicaiimeleaaGreatDoor
open Go.RowKit

theorem made_zeros (n : Nat) : (madeCells (Value.int .u64 0).cells (n * 1)).toList = cl (List.replicate n 0) := by
  refine List.ext_getElem (by simp [cl, madeCells]) fun i h1 h2 => ?_
  simp [cl, madeCells, Value.cells, Nat.mod_one]

theorem make_digits {ops : Array Oper} {rest : List Oper} {o : Oper} {a : Act} {Q : Exit → Act → World → Prop} (W : World) (l c : Operand) (base n : Nat)
    (hn : n ≤ 10000) (hbase : base ≤ W.heap.size) (hg : o.guard = none) (hop : o.op = Op.makeSlice 182 l c) (hl : a.eval l = .int .i64 n) (hc : a.eval c = .int .i64 n)
    (h : ∀ v' w', Own w' base v' (List.replicate n 0) → Below base W w' → wpList Tryz.prog ops Q rest (a.put o.dst v') w') :
    wpList Tryz.prog ops Q (o :: rest) a W := by
  obtain ⟨i0, hi0, hz0, hz1, hz2⟩ := info_parts info64
  refine wpList_make_full W hg l c 182 hop base 149 i0 _ 1 Tryz.underlying182 hi0 hz0 hz1 .i64 .i64 n n n hl hc rfl rfl (by rw [hz2]; omega) (by unfold maxLen; omega) hbase ?_
  intro w' h1 h2
  rw [made_zeros] at h1
  refine h _ w' (by unfold Own; rw [List.length_replicate]; exact h1) ?_
  exact (Below.refl _ _).grown h2 hbase (fun k hk => by cases hk)

theorem outer_step {o r xs ys : List Nat} {i : Nat} {T : Nat} (h : nv o + 65536 ^ i * (nv xs * vd ys i) = T) (hr : nv r = nv xs * dg ys i * 65536 ^ i) :
    nv o + nv r + 65536 ^ (i + 1) * (nv xs * vd ys (i + 1)) = T := by
  rw [hr, ← h, vd_step ys i, Nat.pow_succ, Nat.add_assoc]
  congr 1
  generalize 65536 ^ i = P
  generalize nv xs = x
  generalize dg ys i = y
  generalize vd ys (i + 1) = z
  rw [Nat.mul_add x, Nat.mul_add P, Nat.mul_comm (x * y) P, Nat.mul_assoc P 65536, ← Nat.mul_assoc 65536 x z, Nat.mul_comm 65536 x, Nat.mul_assoc x 65536 z]

set_option maxRecDepth 10000 in
set_option maxHeartbeats 3200000 in
theorem times_any (A B : Option Addr) (xs ys : List Nat) (c d : Nat) (w : World) (ha : Rd w A xs) (hb : Rd w B ys) (hla : xs.length ≤ 1000) (hlb : ys.length ≤ 1000) :
    Calls Tryz.prog 179 #[.slice A xs.length c, .slice B ys.length d] w fun e w' => ∃ (C : Option Addr) (zs : List Nat) (k : Nat), e = .returned (.slice C zs.length k) ∧ zs.length ≤ k ∧ k ≤ maxLen ∧ Rd w' C zs ∧
      zs.length ≤ xs.length + ys.length + 1 ∧ nv zs = nv xs * nv ys ∧ trim zs ∧ Below w.heap.size w w' := by
  go_enter Tryz.func179, Tryz.ntmps179
  go_wp2
  go_loopw [5, 6] (fun s u wr => ∃ (i : Nat) (C : Option Addr) (zs : List Nat) (k : Nat), u = .int .i64 i ∧ s = .slice C zs.length k ∧ zs.length ≤ k ∧ k ≤ maxLen ∧ Rd wr C zs ∧ i ≤ ys.length ∧ zs.length ≤ xs.length + i + 1 ∧
      nv zs + 65536 ^ i * (nv xs * vd ys i) = nv xs * nv ys ∧ Below w.heap.size w wr) (fun _ u _ => ys.length - (intOf u).toNat)
  case atStart => exact ⟨0, none, [], 0, rfl, rfl, by simp, by decide, ⟨low_nil, .inl rfl⟩, by omega, by simp, by simp [nv, vd_zero], Below.refl _ _⟩
  case round =>
    obtain ⟨i, C, zs, k, rfl, rfl, hk, hk', hr, hi, hl, hv, hbw⟩ := hrel
    have HV := Lib.hid hv; have HB := Lib.hid hbw; have HL := Lib.hid hl; have HK := Lib.hid hk; have HK' := Lib.hid hk'
    clear hv hbw hl hk hk'
    obtain ⟨wo, rfl⟩ : ∃ wo : World, wo = wr := ⟨_, rfl⟩
    by_cases h1 : i < ys.length
    · go_wp2_with (first
        | (refine make_digits _ _ _ wo.heap.size i ?hn (Nat.le_refl _) rfl rfl rfl rfl ?_))
      case hn => omega
      intro v' w1 hown hb1
      have HO := Lib.hid hown; have HB1 := Lib.hid hb1; clear hown hb1
      have rb1 := Lib.hid (hb.below (HB.out.trans (HB1.out.mono HB.out.size)))
      have ra1 := Lib.hid (ha.below (HB.out.trans (HB1.out.mono HB.out.size)))
      have ro1 := Lib.hid (hr.below HB1.out)
      have LX := dg_low hb.1 i
      go_wp2_with fail
      go_loopw [7, 8, 9] (fun r t u wr => ∃ (kk cy : Nat) (rs : List Nat), u = .int .i64 kk ∧ t = .int .u64 cy ∧ rs.length = i + kk ∧ low rs ∧ cy < 65536 ∧ kk ≤ xs.length + 1 ∧ (kk = xs.length + 1 → cy = 0) ∧
        nv rs + 65536 ^ (i + kk) * (cy + vd xs kk * dg ys i) = nv xs * dg ys i * 65536 ^ i ∧ Own wr wo.heap.size r rs ∧ Below wo.heap.size wo wr) (fun _ _ u _ => xs.length + 1 - (intOf u).toNat)
      case atStart => exact ⟨0, 0, List.replicate i 0, rfl, rfl, by simp, low_zeros i, by omega, by omega, by omega, by rw [nv_zeros, vd_zero]; simp [Nat.mul_comm], HO.out, HB1.out⟩
      case round =>
        obtain ⟨kk, cy, rs, rfl, rfl, hrl, hlow, hcy, hkm, hend, hv, hown, hbw⟩ := hrel
        have RV := Lib.hid hv; have RI := Lib.hid hrl; have RE := Lib.hid hend; have RO := Lib.hid hown; have RB := Lib.hid hbw; have RL := Lib.hid hlow
        clear hv hrl hend hown hbw hlow
        have ra := Lib.hid (ha.below (HB.out.trans (RB.out.mono HB.out.size))); have rb := Lib.hid (hb.below (HB.out.trans (RB.out.mono HB.out.size)))
        have l1 := dg_low ha.1 kk
        have lm : dg xs kk * dg ys i ≤ 65535 * 65535 := Nat.mul_le_mul (by omega) (by omega)
        by_cases hgo : kk < xs.length ∨ (¬ kk < xs.length ∧ 0 < cy)
        · have fin : Hid ((dg xs kk * dg ys i + cy) / 65536 < 65536 ∧ (kk + 1 = xs.length + 1 + 0 → xs.length ≤ kk → (dg xs kk * dg ys i + cy) / 65536 = 0) ∧ kk + 1 ≤ xs.length + 1) := by
            have := RE.out
            refine ⟨by omega, fun _ he => ?_, by omega⟩
            rw [dg_end he]; omega
          have w1 : IntKind.u64.wrap ((dg xs kk : Int) * (dg ys i : Int)) = (dg xs kk : Int) * (dg ys i : Int) := IntWalk.u64_in _ (by have : ((dg xs kk * dg ys i : Nat) : Int) = (dg xs kk : Int) * dg ys i := Int.natCast_mul _ _; omega)
          have w2 : IntKind.u64.wrap ((dg xs kk : Int) * (dg ys i : Int) + cy) = (dg xs kk : Int) * (dg ys i : Int) + cy := IntWalk.u64_in _ (by have : ((dg xs kk * dg ys i : Nat) : Int) = (dg xs kk : Int) * dg ys i := Int.natCast_mul _ _; omega)
          have W2 := Lib.hid w2
          obtain ⟨b, rfl, hlt, hcell⟩ := rb.out.cell (i := i) h1
          have lp : ((dg xs kk * dg ys i : Nat) : Int) = (dg xs kk : Int) * dg ys i := Int.natCast_mul _ _
          have p0 : (0 : Int) ≤ (dg xs kk : Int) * (dg ys i : Int) := by omega
          have p1 : (dg xs kk : Int) * (dg ys i : Int) ≤ 4294836225 := by omega
          have LP := Lib.hid lp
          have LM := Lib.hid lm; clear lm lp
          have i1 : (0 : Int) ≤ (i : Int) := by omega
          have i2 : (i : Int) < (ys.length : Int) := by omega
          rcases hgo with h2 | ⟨h2, h3⟩
          all_goals
            go_wp2_with fail
            go_quiet ((go_at_call 192; exact Calls.quiet_of_same ((digit_any _ _ _ _ _ (ra.out.drewN _)).mono fun _ _ ⟨h, k⟩ => ⟨h, k.symm⟩)))
            rename_i nq
            go_wp2_with (at_builtin; refine app_digit _ _ wo.heap.size _ rs _ ((dg xs kk * dg ys i + cy) % 65536) (RO.out.drewN _) ?hd ?hlen ?hbase rfl rfl rfl rfl ?_)
            case hd => have := LP.out; omega
            case hlen => have := RI.out; omega
            case hbase => exact RB.out.size
            intro v2 w2 hown2 hb2
            have RO1 := Lib.hid hown2; have RB1 := Lib.hid ((below_drewN RB.out nq).trans hb2); clear hown2 hb2
            go_wp2_with fail
            go_roundw
            case rel =>
              have hf := fin.out
              have lp := LP.out
              have wq := W2.out
              refine ⟨kk + 1, (dg xs kk * dg ys i + cy) / 65536, _, by go_num, int_eq ?_, by rw [List.length_append, RI.out]; simp; omega, low_snoc RL.out (Nat.mod_lt _ (by omega)), hf.1, hf.2.2, fun he => hf.2.1 (by omega) (by omega), row_step RI.out RV.out, RO1.out, RB1.out⟩
              omega
            case measure => have := fin.out; simp [intOf]; omega
        · have hn : ¬ kk < xs.length ∧ ¬ 0 < cy := by omega
          obtain ⟨h2, h3⟩ := hn
          have HG := Lib.hid hgo; clear hgo
          obtain ⟨R, rc, hrv, _, _, hrr⟩ := own_rd RO.out RL.out
          subst hrv
          have he := RV.out
          rw [vd_end (by omega), show cy = 0 from by omega, Nat.zero_mul, Nat.mul_zero, Nat.add_zero] at he
          have RE2 := Lib.hid he; clear he
          have hz : zs.length ≤ 5000 := by have := HL.out; omega
          have hz2 : rs.length ≤ 5000 := by have := RI.out; omega
          have ro := Lib.hid (hr.below RB.out)
          go_wp2_with fail
          refine (plus_any _ _ _ _ _ _ _ ro.out hrr hz hz2).mono ?_
          rintro e w' ⟨D, ds, dc, rfl, g1, g2, g3, g4, g5, _, g7⟩
          have G1 := Lib.hid g1; have G2 := Lib.hid g2; have G4 := Lib.hid g4; have G5 := Lib.hid g5; have G7 := Lib.hid g7; clear g1 g2 g4 g5 g7
          go_wp2_with fail
          go_roundw
          case rel =>
            refine ⟨i + 1, D, ds, dc, by go_num, rfl, G1.out, G2.out, g3, h1, by have := G4.out; have := HL.out; have := RI.out; omega, ?_, HB.out.trans ((RB.out.mono HB.out.size).trans (G7.out.mono (Nat.le_trans HB.out.size RB.out.size)))⟩
            rw [G5.out]
            exact outer_step HV.out RE2.out
          case measure => simp [intOf]; omega
    · have hi2 : i = ys.length := by omega
      have HI2 := Lib.hid hi2; clear hi2
      have hz : zs.length ≤ 100000 := by have := HL.out; omega
      go_wp2_with fail
      refine (cut_any _ _ _ _ hr HK.out HK'.out).mono ?_
      rintro e w' ⟨ds, rfl, rfl, h3, h4, h5, h6⟩
      have H4 := Lib.hid h4; have H5 := Lib.hid h5; clear h4 h5
      go_wp2_with fail
      go_ret
      have e := HV.out
      rw [HI2.out, vd_end (Nat.le_refl _), Nat.mul_zero, Nat.mul_zero, Nat.add_zero] at e
      exact ⟨C, ds, k, rfl, by have := H4.out; have := HK.out; omega, HK'.out, h3, by have := H4.out; have := HL.out; have := HI2.out; omega, by rw [H5.out, e], h6, HB.out⟩
end Go.Proofs.YtdonicaiimeleaaGreatDoor

namespace Go.Proofs.YtdonicaiimeleaaGreatDoor
open Go.RowKit

/-- The value v is a Big that is the number z, of at most k digits. -/
def BV (w : World) (v : Value) (z : Int) (k : Nat) : Prop :=
  ∃ (A : Option Addr) (ds : List Nat) (c : Nat), v = .agg #[.bool (decide (z < 0)), .slice A ds.length c] ∧ Rd w A ds ∧ ds.length ≤ c ∧ c ≤ maxLen ∧ ds.length ≤ k ∧ nv ds = z.natAbs ∧ trim ds
theorem BV.below {w w' : World} {v : Value} {z : Int} {k : Nat} (h : BV w v z k) (hb : Below w.heap.size w w') : BV w' v z k := by
  obtain ⟨A, ds, c, h1, h2, h3⟩ := h
  exact ⟨A, ds, c, h1, h2.below hb, h3⟩

/-- What the loop of Of keeps. -/
def OfRel (a x : Int) (ds : List Nat) : Prop :=
  low ds ∧ nv ds + 65536 ^ ds.length * x.natAbs = a.natAbs ∧ fits x ∧ ds.length ≤ 4 ∧ (0 < ds.length → a ≠ 0) ∧ (ds.length = 0 → x = a)
theorem OfRel.step {a x : Int} {ds : List Nat} (h : OfRel a x ds) (ha : fits a) (hx : x ≠ 0) : OfRel a (x.tdiv 65536) (ds ++ [x.natAbs % 65536]) ∧ ds.length < 4 := by
  obtain ⟨h1, h2, h3, h4, h5, h6⟩ := h
  have ha' : a.natAbs ≤ 9223372036854775808 := by unfold fits at ha; omega
  have hlt : ds.length < 4 := by
    rcases Nat.lt_or_ge ds.length 4 with h | h
    · exact h
    · exfalso
      have e : ds.length = 4 := by omega
      rw [e] at h2
      omega
  refine ⟨⟨low_snoc h1 (Nat.mod_lt _ (by omega)), ?_, ?_, by rw [List.length_append]; simp; omega, fun _ => ?_, fun h => by simp at h⟩, hlt⟩
  · rw [nv_snoc, List.length_append, List.length_singleton, Nat.pow_succ, Int.natAbs_tdiv, ← h2, Nat.add_assoc, Nat.mul_assoc, ← Nat.mul_add]
    congr 2
    exact Nat.mod_add_div _ _
  · refine tdiv_fit h3 (by decide) (by decide)
  · rcases Nat.eq_zero_or_pos ds.length with h0 | h0
    · rw [← h6 h0]; exact hx
    · exact h5 h0
theorem tmod_abs_pos {x : Int} (h : 0 ≤ x) : x % 65536 = ((x.natAbs % 65536 : Nat) : Int) ∧ x / 65536 = x.tdiv 65536 := by
  rw [Int.tdiv_eq_ediv_of_nonneg h]
  omega
theorem tmod_abs_neg {x : Int} (h : ¬ 0 ≤ x) : x.tmod 65536 = - ((x.natAbs % 65536 : Nat) : Int) := by
  have h1 := Int.natAbs_tmod x 65536
  have h2 := (tmod_sgn x 65536 (by decide)).2.1 (by omega)
  have : (65536 : Int).natAbs = 65536 := rfl
  rw [this] at h1
  omega

set_option maxHeartbeats 1600000 in
theorem of_any (a : Int) (w : World) (ha : fits a) :
    Calls Tryz.prog 144 #[.int .i64 a] w fun e w' => ∃ v, e = .returned v ∧ BV w' v a 4 ∧ Below w.heap.size w w' := by
  have hA := Lib.hid ha; clear ha
  go_enter Tryz.func144, Tryz.ntmps144
  go_wp2
  go_loopw [0, 3] (fun s t wr => ∃ (x : Int) (ds : List Nat), s = .int .i64 x ∧ Hid (OfRel a x ds) ∧ Hid (Own wr (w.heap.size + 1) t ds) ∧ Below (w.heap.size + 1) (w.alloc (.cells #[.bool false, .slice none 0 0] 184)) wr) (fun s _ _ => (intOf s).natAbs)
  case atStart => exact ⟨a, [], rfl, ⟨low_nil, by simp [nv], hA.out, by simp, by simp, fun _ => rfl⟩, World.ownsRow_nil _ _ _ _, Below.refl _ _⟩
  case round =>
    obtain ⟨x, ds, rfl, HR, HO, hb⟩ := hrel
    have HB := Lib.hid hb; clear hb
    have hw := new_whole HB.out
    have hc0 : wr.cell? ⟨w.heap.size, 0, none⟩ = some (.bool false) := whole_cell hw 0
    have hc1 : wr.cell? ⟨w.heap.size, 1, none⟩ = some (.slice none 0 0) := whole_cell hw 1
    have hf0 := whole_free hw 0
    have hf1 := whole_free hw 1
    have HW := Lib.hid hw; clear hw
    have hsz : w.heap.size + 1 ≤ wr.heap.size := by have := HB.out.size; simpa using this
    by_cases hx : x = 0
    · subst hx
      have HO2 : Hid (∀ p q u v, p = w.heap.size → q = w.heap.size → Own ((wr.setCell ⟨p, 0, none⟩ u).setCell ⟨q, 1, none⟩ v) (w.heap.size + 1) u3 ds) := by
        rintro p q u v rfl rfl
        exact ownsRow_setCell_below (ownsRow_setCell_below HO.out (by simp) _) (by simp) _
      obtain ⟨A, c, hv, hc, hc', hr⟩ := own_rd HO.out HR.out.1
      subst hv
      have HH := Lib.hid hr; have HC := Lib.hid hc; have HC' := Lib.hid hc'; clear hr hc hc'
      go_wp2
      refine bodyPost_ret (v := .agg #[.bool (decide (a < 0)), .slice A ds.length c]) (by simp [results, Tryz.results144, go_sem, hc0, hc1]) rfl ⟨_, rfl, ?_, ?_⟩
      · have ho := HO2.out _ _ (.bool (decide (a < 0))) (.slice A ds.length c) rfl rfl
        obtain ⟨A2, c2, hv2, _, _, hr2⟩ := own_rd ho HR.out.1
        injection hv2 with e1 e2 e3
        subst e1 e3
        have h1 := HR.out
        refine ⟨A, ds, c, rfl, hr2, HC.out, HC'.out, h1.2.2.2.1, by have := h1.2.1; simpa using this, fun h0 => ?_⟩
        have h2 := h1.2.2.2.2.1 h0
        have h3 := h1.2.1
        simp at h3
        omega
      · have hb0 : Below w.heap.size w (w.alloc (.cells #[.bool false, .slice none 0 0] 184)) := (Below.refl _ _).alloc (Nat.le_refl _) _
        exact (((hb0.trans (HB.out.mono (by omega))).setCell (by simp) _).setCell (by simp) _)
    · have hst := HR.out.step hA.out hx
      have HS := Lib.hid hst; clear hst
      have hfx := HR.out.2.2.1
      unfold fits at hfx
      by_cases hp : 0 ≤ x
      · have t1 := Lib.hid (tmod_abs_pos hp)
        have hx' : (x != 0) = true := bne_iff_ne.mpr hx
        go_wp2_with (at_builtin; refine app_digit _ _ (w.heap.size + 1) _ ds _ (x.natAbs % 65536) HO.out ?hd ?hlen ?hbase rfl rfl rfl rfl ?_)
        case hd => exact t1.out.1
        case hlen => have := HS.out.2; omega
        case hbase => exact hsz
        intro v' w1 hown1 hb1
        have HO1 := Lib.hid hown1; have HB1 := Lib.hid (HB.out.trans hb1); clear hown1 hb1
        go_wp2_with fail
        go_roundw
        case rel => exact ⟨x.tdiv 65536, _, int_eq t1.out.2, HS.out.1, HO1.out, HB1.out⟩
        case measure => simp [intOf]; omega
      · have t1 := tmod_abs_neg hp
        have hr1 : x.natAbs % 65536 < 65536 := Nat.mod_lt _ (by omega)
        generalize x.natAbs % 65536 = r at t1 hr1 HS
        have hx' : (x != 0) = true := bne_iff_ne.mpr hx
        have hx3 := Lib.hid hx
        have hp3 := Lib.hid hp
        clear hx hp
        have h3 : (0 : Int) < r ∨ (r : Int) = 0 := by omega
        rcases h3 with h3 | h3
        · go_wp2_with (at_builtin; refine app_digit _ _ (w.heap.size + 1) _ ds _ r HO.out (by omega) (by have := HS.out.2; omega) hsz rfl rfl rfl rfl ?_)
          intro v' w1 hown1 hb1
          have HO1 := Lib.hid hown1; have HB1 := Lib.hid (HB.out.trans hb1); clear hown1 hb1
          go_wp2_with fail
          go_roundw
          case rel => exact ⟨x.tdiv 65536, _, rfl, HS.out.1, HO1.out, HB1.out⟩
          case measure => simp only [intOf]; rw [Int.natAbs_tdiv]; have := hx3.out; exact Nat.div_lt_self (by omega) (by decide)
        · have hr0 : r = 0 := by omega
          subst hr0
          go_wp2_with (at_builtin; refine app_digit _ _ (w.heap.size + 1) _ ds _ 0 HO.out rfl (by have := HS.out.2; omega) hsz rfl rfl rfl rfl ?_)
          intro v' w1 hown1 hb1
          have HO1 := Lib.hid hown1; have HB1 := Lib.hid (HB.out.trans hb1); clear hown1 hb1
          go_wp2_with fail
          go_roundw
          case rel => exact ⟨x.tdiv 65536, _, rfl, HS.out.1, HO1.out, HB1.out⟩
          case measure => simp only [intOf]; rw [Int.natAbs_tdiv]; have := hx3.out; exact Nat.div_lt_self (by omega) (by decide)
end Go.Proofs.YtdonicaiimeleaaGreatDoor

namespace Go.Proofs.YtdonicaiimeleaaGreatDoor
open Go.RowKit

theorem len_pos {ds : List Nat} {z : Int} (hn : nv ds = z.natAbs) (ht : trim ds) : 0 < ds.length ↔ z ≠ 0 := by
  constructor
  · intro h; have := ht h; omega
  · intro h
    rcases Nat.eq_zero_or_pos ds.length with h0 | h0
    · rw [List.eq_nil_of_length_eq_zero h0] at hn; simp [nv] at hn; omega
    · exact h0

set_option maxHeartbeats 800000 in
theorem less_big (v u : Value) (x y : Int) (k l : Nat) (w : World) (hv : BV w v x k) (hu : BV w u y l) (hk : k ≤ 1000) (hl : l ≤ 1000) :
    Calls Tryz.prog 145 #[v, u] w fun e w' => e = .returned (.bool (decide (x < y))) ∧ Below w.heap.size w w' := by
  obtain ⟨A, xs, c, rfl, hr, _, _, hxl, hn, _⟩ := hv
  obtain ⟨B, ys, d, rfl, hs, _, _, hyl, hm, _⟩ := hu
  have HR := Lib.hid hr; have HS := Lib.hid hs; have HN := Lib.hid hn; have HM := Lib.hid hm
  clear hr hs hn hm
  have hx1 : xs.length ≤ 10000 := by omega
  have hy1 : ys.length ≤ 10000 := by omega
  clear hxl hyl
  have hx : (decide (x < 0) = true ∧ decide (y < 0) = false ∧ decide (x < y) = true) ∨ (decide (x < 0) = false ∧ decide (y < 0) = true ∧ decide (x < y) = false) ∨
      (decide (x < 0) = true ∧ decide (y < 0) = true ∧ decide (nv ys < nv xs) = decide (x < y)) ∨ (decide (x < 0) = false ∧ decide (y < 0) = false ∧ decide (nv xs < nv ys) = decide (x < y)) := by
    rw [HN.out, HM.out]
    by_cases h1 : x < 0 <;> by_cases h2 : y < 0 <;> simp [h1, h2] <;> first | omega | (rw [← Bool.eq_iff_iff.trans (by simp)]; done) | skip
    all_goals (try (by_cases h3 : x < y <;> simp [h3] <;> omega))
  rcases hx with ⟨h1, h2, h3⟩ | ⟨h1, h2, h3⟩ | ⟨h1, h2, h3⟩ | ⟨h1, h2, h3⟩
  · have H3 := Lib.hid h3; clear h3
    go_enter Tryz.func145, Tryz.ntmps145
    go_wp2
    go_ret
    exact ⟨by rw [H3.out]; rfl, by go_grown⟩
  · have H3 := Lib.hid h3; clear h3
    go_enter Tryz.func145, Tryz.ntmps145
    go_wp2
    go_ret
    exact ⟨by rw [H3.out]; rfl, by go_grown⟩
  · have H3 := Lib.hid h3; clear h3
    go_enter Tryz.func145, Tryz.ntmps145
    go_wp2_with (go_at_call 176; refine (less_any _ _ _ _ _ _ _ (HS.out.below (by go_grown)) (HR.out.below (by go_grown)) hy1 hx1).mono ?_; rintro e w' ⟨rfl, rfl⟩)
    go_ret
    exact ⟨ret1_eq (bool_eq H3.out), by go_grown⟩
  · have H3 := Lib.hid h3; clear h3
    go_enter Tryz.func145, Tryz.ntmps145
    go_wp2_with (go_at_call 176; refine (less_any _ _ _ _ _ _ _ (HR.out.below (by go_grown)) (HS.out.below (by go_grown)) hx1 hy1).mono ?_; rintro e w' ⟨rfl, rfl⟩)
    go_ret
    exact ⟨ret1_eq (bool_eq H3.out), by go_grown⟩

/-- Below the size at which a call began all cells are as they were: as rules for the walk. -/
theorem old_cells {W w1 : World} (h : Below W.heap.size W w1) : (∀ b o, b < W.heap.size → w1.cell? ⟨b, o, none⟩ = W.cell? ⟨b, o, none⟩) ∧ (∀ b o, b < W.heap.size → w1.frozen? ⟨b, o, none⟩ = W.frozen? ⟨b, o, none⟩) :=
  ⟨fun b o hb => h.cell (p := ⟨b, o, none⟩) hb, fun b o hb => h.frozen (p := ⟨b, o, none⟩) hb⟩
theorem mul_sign (x y : Int) : decide (x * y < 0) = (decide (x < 0) != decide (y < 0) && decide (x * y ≠ 0)) := by
  rcases Int.lt_trichotomy x 0 with h1 | h1 | h1 <;> rcases Int.lt_trichotomy y 0 with h2 | h2 | h2
  · have := Int.mul_pos_of_neg_of_neg h1 h2
    rw [decide_eq_true h1, decide_eq_true h2, decide_eq_false (by omega)]; rfl
  · subst h2; simp
  · have := Int.mul_neg_of_neg_of_pos h1 h2
    rw [decide_eq_true h1, decide_eq_false (by omega : ¬ y < 0), decide_eq_true this, decide_eq_true (by omega : x * y ≠ 0)]; rfl
  · subst h1; simp
  · subst h1; simp
  · subst h1; simp
  · have := Int.mul_neg_of_pos_of_neg h1 h2
    rw [decide_eq_false (by omega : ¬ x < 0), decide_eq_true h2, decide_eq_true this, decide_eq_true (by omega : x * y ≠ 0)]; rfl
  · subst h2; simp
  · have := Int.mul_pos h1 h2
    rw [decide_eq_false (by omega : ¬ x < 0), decide_eq_false (by omega : ¬ y < 0), decide_eq_false (by omega : ¬ x * y < 0)]; rfl

set_option maxHeartbeats 800000 in
theorem times_big (v u : Value) (x y : Int) (k l : Nat) (w : World) (hv : BV w v x k) (hu : BV w u y l) (hk : k ≤ 300) (hl : l ≤ 100) :
    Calls Tryz.prog 147 #[v, u] w fun e w' => ∃ t, e = .returned t ∧ BV w' t (x * y) (k + l + 1) ∧ Below w.heap.size w w' := by
  obtain ⟨A, xs, c, rfl, hr, _, _, hxl, hn, _⟩ := hv
  obtain ⟨B, ys, d, rfl, hs, _, _, hyl, hm, _⟩ := hu
  have HR := Lib.hid hr; have HS := Lib.hid hs; have HN := Lib.hid hn; have HM := Lib.hid hm
  clear hr hs hn hm
  have hx1 : xs.length ≤ 1000 := by omega
  have hy1 : ys.length ≤ 1000 := by omega
  have hx2 := Lib.hid hxl; have hy2 := Lib.hid hyl
  clear hxl hyl
  have sgn := Lib.hid (mul_sign x y)
  go_enter Tryz.func147, Tryz.ntmps147
  go_wp2_with fail
  refine (times_any _ _ _ _ _ _ _ (HR.out.below (by go_grown)) (HS.out.below (by go_grown)) hx1 hy1).mono ?_
  rintro e w1 ⟨C, zs, cc, rfl, h1, h2, h3, h4, h5, h6, h7⟩
  have hzl : nv zs = (x * y).natAbs := by rw [h5, HN.out, HM.out, Int.natAbs_mul]
  have hp := Lib.hid (len_pos hzl h6)
  have H1 := Lib.hid h1; have H2 := Lib.hid h2; have H3 := Lib.hid h3; have H6 := Lib.hid h6; have H7 := Lib.hid h7; have HZ := Lib.hid hzl
  have hzs : zs.length ≤ 3000 := by omega
  have H4 : Hid (zs.length ≤ k + l + 1) := by have := hx2.out; have := hy2.out; show _ ≤ _; omega
  clear h1 h2 h3 h4 h5 h6 hzl
  obtain ⟨o1, o2⟩ := old_cells h7
  have hsz : w.heap.size + 3 ≤ w1.heap.size := by have := h7.size; simpa using this
  have hg : w1.heap[w.heap.size + 2]? = some (.cells #[.bool false, .slice none 0 0] 184 (0, 0)) := by
    rw [h7.block _ (by simp)]
    have := heap_alloc_new ((w.alloc (.cells #[.bool (decide (x < 0)), .slice A xs.length c] 184)).alloc (.cells #[.bool (decide (y < 0)), .slice B ys.length d] 184)) (.cells #[.bool false, .slice none 0 0] 184)
    simpa using this
  have fin : ∀ b u v g w2, b = decide (x * y < 0) → g = w.heap.size + 2 → w2 = (w1.setCell ⟨g, 0, none⟩ u).setCell ⟨g, 1, none⟩ v → ∃ t, Ending.returned (.agg #[.bool b, .slice C zs.length cc]) = .returned t ∧ BV w2 t (x * y) (k + l + 1) ∧ Below w.heap.size w w2 := by
    rintro b u v g w2 rfl rfl rfl
    refine ⟨_, rfl, ⟨C, zs, cc, rfl, H3.out.store2 (whole_cell hg 0) (whole_cell hg 1) _ _, H1.out, H2.out, H4.out, HZ.out, H6.out⟩, ?_⟩
    have hb : Below w.heap.size w w1 := by
      refine Below.trans ?_ (H7.out.mono (by simp; omega))
      go_grown
    exact (hb.setCell (by simp) _).setCell (by simp) _
  have FIN := Lib.hid fin; clear fin h7
  have hc0 : w1.cell? ⟨w.heap.size + 1 + 1, 0, none⟩ = some (.bool false) := whole_cell hg 0
  have hc1 : w1.cell? ⟨w.heap.size + 1 + 1, 1, none⟩ = some (.slice none 0 0) := whole_cell hg 1
  clear hg
  have hz0 : (0 < zs.length ∧ decide (x * y ≠ 0) = true) ∨ (zs.length = 0 ∧ decide (x * y ≠ 0) = false) := by
    have := hp.out
    simp only [decide_eq_true_eq, decide_eq_false_iff_not]
    omega
  cases hb1 : decide (x < 0) <;> cases hb2 : decide (y < 0) <;> rcases hz0 with ⟨h1, h2⟩ | ⟨h1, h2⟩
  all_goals
    have s2 := sgn.out
    rw [hb1, hb2, h2] at s2
    have S2 := Lib.hid s2; clear s2 h2
    try have h4 : decide ((0 : Int) < (zs.length : Int)) = true := by simp; omega
    go_wp2_with fail
  all_goals first
    | refine bodyPost_ret (v := .agg #[.bool true, .slice C zs.length cc]) (by first | (simp [results, Tryz.results147, go_sem, hc0, hc1]; done) | simp [results, Tryz.results147, go_sem, h1, hc0, hc1]) rfl (FIN.out _ (.bool true) (.slice C zs.length cc) (w.heap.size + 2) _ S2.out.symm rfl ?_)
      first | rfl | simp [h1]
    | refine bodyPost_ret (v := .agg #[.bool false, .slice C zs.length cc]) (by first | (simp [results, Tryz.results147, go_sem, hc0, hc1]; done) | simp [results, Tryz.results147, go_sem, h1, hc0, hc1]) rfl (FIN.out _ (.bool false) (.slice C zs.length cc) (w.heap.size + 2) _ S2.out.symm rfl ?_)
      first | rfl | simp [h1]
end Go.Proofs.YtdonicaiimeleaaGreatDoor
