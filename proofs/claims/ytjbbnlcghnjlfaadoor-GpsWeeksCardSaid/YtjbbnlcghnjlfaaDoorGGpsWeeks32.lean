/- Merged: BigC. -/
import Derived.Test.YtjbbnlcghnjlfaaDoorGGpsWeeks31
import Derived.BigQuiet
import Derived.Deep.QuietTactic
import Derived.OwnWalk
namespace Go.Proofs.YtjbbnlcghnjlfaaDoor
open Go.RowKit

theorem made_zeros (n : Nat) : (madeCells (Value.int .u64 0).cells (n * 1)).toList = cl (List.replicate n 0) := by
  refine List.ext_getElem (by simp [cl, madeCells]) fun i h1 h2 => ?_
  simp [cl, madeCells, Value.cells, Nat.mod_one]

theorem make_digits {ops : Array Oper} {rest : List Oper} {o : Oper} {a : Act} {Q : Exit → Act → World → Prop} (W : World) (l c : Operand) (base n : Nat)
    (hn : n ≤ 10000) (hbase : base ≤ W.heap.size) (hg : o.guard = none) (hop : o.op = Op.makeSlice 47 l c) (hl : a.eval l = .int .i64 n) (hc : a.eval c = .int .i64 n)
    (h : ∀ v' w', Own w' base v' (List.replicate n 0) → Below base W w' → wpList Tryd.prog ops Q rest (a.put o.dst v') w') :
    wpList Tryd.prog ops Q (o :: rest) a W := by
  obtain ⟨i0, hi0, hz0, hz1, hz2⟩ := info_parts info64
  refine wpList_make_full W hg l c 47 hop base 59 i0 _ 1 Tryd.underlying47 hi0 hz0 hz1 .i64 .i64 n n n hl hc rfl rfl (by rw [hz2]; omega) (by unfold maxLen; omega) hbase ?_
  intro w' h1 h2
  rw [made_zeros] at h1
  refine h _ w' (by unfold Own; rw [List.length_replicate]; exact h1) ?_
  exact (Below.refl _ _).grown h2 hbase (fun k hk => by cases hk)

theorem outer_step {o r xs ys : List Nat} {i : Nat} {T : Nat} (h : nv o + 65536 ^ i * (nv xs * vd ys i) = T) (hr : nv r = nv xs * dg ys i * 65536 ^ i) :
    nv o + nv r + 65536 ^ (i + 1) * (nv xs * vd ys (i + 1)) = T := by
  rw [hr, ← h, vd_step ys i, Nat.pow_succ, Nat.add_assoc]
  congr 1
  generalize 65536 ^ i = P
  generalize nv xs = x
  generalize dg ys i = y
  generalize vd ys (i + 1) = z
  rw [Nat.mul_add x, Nat.mul_add P, Nat.mul_comm (x * y) P, Nat.mul_assoc P 65536, ← Nat.mul_assoc 65536 x z, Nat.mul_comm 65536 x, Nat.mul_assoc x 65536 z]

set_option maxRecDepth 10000 in
set_option maxHeartbeats 3200000 in
theorem times_any (A B : Option Addr) (xs ys : List Nat) (c d : Nat) (w : World) (ha : Rd w A xs) (hb : Rd w B ys) (hla : xs.length ≤ 1000) (hlb : ys.length ≤ 1000) :
    Calls Tryd.prog 49 #[.slice A xs.length c, .slice B ys.length d] w fun e w' => ∃ (C : Option Addr) (zs : List Nat) (k : Nat), e = .returned (.slice C zs.length k) ∧ zs.length ≤ k ∧ k ≤ maxLen ∧ Rd w' C zs ∧
      zs.length ≤ xs.length + ys.length + 1 ∧ nv zs = nv xs * nv ys ∧ trim zs ∧ Below w.heap.size w w' := by
  go_enter Tryd.func49, Tryd.ntmps49
  go_wp2
  go_loopw [5, 6] (fun s u wr => ∃ (i : Nat) (C : Option Addr) (zs : List Nat) (k : Nat), u = .int .i64 i ∧ s = .slice C zs.length k ∧ zs.length ≤ k ∧ k ≤ maxLen ∧ Rd wr C zs ∧ i ≤ ys.length ∧ zs.length ≤ xs.length + i + 1 ∧
      nv zs + 65536 ^ i * (nv xs * vd ys i) = nv xs * nv ys ∧ Below w.heap.size w wr) (fun _ u _ => ys.length - (intOf u).toNat)
  case atStart => exact ⟨0, none, [], 0, rfl, rfl, by simp, by decide, ⟨low_nil, .inl rfl⟩, by omega, by simp, by simp [nv, vd_zero], Below.refl _ _⟩
  case round =>
    obtain ⟨i, C, zs, k, rfl, rfl, hk, hk', hr, hi, hl, hv, hbw⟩ := hrel
    have HV := Lib.hid hv; have HB := Lib.hid hbw; have HL := Lib.hid hl; have HK := Lib.hid hk; have HK' := Lib.hid hk'
    clear hv hbw hl hk hk'
    obtain ⟨wo, rfl⟩ : ∃ wo : World, wo = wr := ⟨_, rfl⟩
    by_cases h1 : i < ys.length
    · go_wp2_with (first
        | (refine make_digits _ _ _ wo.heap.size i ?hn (Nat.le_refl _) rfl rfl rfl rfl ?_))
      case hn => omega
      intro v' w1 hown hb1
      have HO := Lib.hid hown; have HB1 := Lib.hid hb1; clear hown hb1
      have rb1 := Lib.hid (hb.below (HB.out.trans (HB1.out.mono HB.out.size)))
      have ra1 := Lib.hid (ha.below (HB.out.trans (HB1.out.mono HB.out.size)))
      have ro1 := Lib.hid (hr.below HB1.out)
      have LX := dg_low hb.1 i
      go_wp2_with fail
      go_loopw [7, 8, 9] (fun r t u wr => ∃ (kk cy : Nat) (rs : List Nat), u = .int .i64 kk ∧ t = .int .u64 cy ∧ rs.length = i + kk ∧ low rs ∧ cy < 65536 ∧ kk ≤ xs.length + 1 ∧ (kk = xs.length + 1 → cy = 0) ∧
        nv rs + 65536 ^ (i + kk) * (cy + vd xs kk * dg ys i) = nv xs * dg ys i * 65536 ^ i ∧ Own wr wo.heap.size r rs ∧ Below wo.heap.size wo wr) (fun _ _ u _ => xs.length + 1 - (intOf u).toNat)
      case atStart => exact ⟨0, 0, List.replicate i 0, rfl, rfl, by simp, low_zeros i, by omega, by omega, by omega, by rw [nv_zeros, vd_zero]; simp [Nat.mul_comm], HO.out, HB1.out⟩
      case round =>
        obtain ⟨kk, cy, rs, rfl, rfl, hrl, hlow, hcy, hkm, hend, hv, hown, hbw⟩ := hrel
        have RV := Lib.hid hv; have RI := Lib.hid hrl; have RE := Lib.hid hend; have RO := Lib.hid hown; have RB := Lib.hid hbw; have RL := Lib.hid hlow
        clear hv hrl hend hown hbw hlow
        have ra := Lib.hid (ha.below (HB.out.trans (RB.out.mono HB.out.size))); have rb := Lib.hid (hb.below (HB.out.trans (RB.out.mono HB.out.size)))
        have l1 := dg_low ha.1 kk
        have lm : dg xs kk * dg ys i ≤ 65535 * 65535 := Nat.mul_le_mul (by omega) (by omega)
        by_cases hgo : kk < xs.length ∨ (¬ kk < xs.length ∧ 0 < cy)
        · have fin : Hid ((dg xs kk * dg ys i + cy) / 65536 < 65536 ∧ (kk + 1 = xs.length + 1 + 0 → xs.length ≤ kk → (dg xs kk * dg ys i + cy) / 65536 = 0) ∧ kk + 1 ≤ xs.length + 1) := by
            have := RE.out
            refine ⟨by omega, fun _ he => ?_, by omega⟩
            rw [dg_end he]; omega
          have w1 : IntKind.u64.wrap ((dg xs kk : Int) * (dg ys i : Int)) = (dg xs kk : Int) * (dg ys i : Int) := IntWalk.u64_in _ (by have : ((dg xs kk * dg ys i : Nat) : Int) = (dg xs kk : Int) * dg ys i := Int.natCast_mul _ _; omega)
          have w2 : IntKind.u64.wrap ((dg xs kk : Int) * (dg ys i : Int) + cy) = (dg xs kk : Int) * (dg ys i : Int) + cy := IntWalk.u64_in _ (by have : ((dg xs kk * dg ys i : Nat) : Int) = (dg xs kk : Int) * dg ys i := Int.natCast_mul _ _; omega)
          have W2 := Lib.hid w2
          obtain ⟨b, rfl, hlt, hcell⟩ := rb.out.cell (i := i) h1
          have lp : ((dg xs kk * dg ys i : Nat) : Int) = (dg xs kk : Int) * dg ys i := Int.natCast_mul _ _
          have p0 : (0 : Int) ≤ (dg xs kk : Int) * (dg ys i : Int) := by omega
          have p1 : (dg xs kk : Int) * (dg ys i : Int) ≤ 4294836225 := by omega
          have LP := Lib.hid lp
          have LM := Lib.hid lm; clear lm lp
          have i1 : (0 : Int) ≤ (i : Int) := by omega
          have i2 : (i : Int) < (ys.length : Int) := by omega
          rcases hgo with h2 | ⟨h2, h3⟩
          all_goals
            go_wp2_with fail
            go_quiet ((go_at_call 65; exact Calls.quiet_of_same ((digit_any _ _ _ _ _ (ra.out.drewN _)).mono fun _ _ ⟨h, k⟩ => ⟨h, k.symm⟩)))
            rename_i nq
            go_wp2_with (at_builtin; refine app_digit _ _ wo.heap.size _ rs _ ((dg xs kk * dg ys i + cy) % 65536) (RO.out.drewN _) ?hd ?hlen ?hbase rfl rfl rfl rfl ?_)
            case hd => have := LP.out; omega
            case hlen => have := RI.out; omega
            case hbase => exact RB.out.size
            intro v2 w2 hown2 hb2
            have RO1 := Lib.hid hown2; have RB1 := Lib.hid ((below_drewN RB.out nq).trans hb2); clear hown2 hb2
            go_wp2_with fail
            go_roundw
            case rel =>
              have hf := fin.out
              have lp := LP.out
              have wq := W2.out
              refine ⟨kk + 1, (dg xs kk * dg ys i + cy) / 65536, _, by go_num, int_eq ?_, by rw [List.length_append, RI.out]; simp; omega, low_snoc RL.out (Nat.mod_lt _ (by omega)), hf.1, hf.2.2, fun he => hf.2.1 (by omega) (by omega), row_step RI.out RV.out, RO1.out, RB1.out⟩
              omega
            case measure => have := fin.out; simp [intOf]; omega
        · have hn : ¬ kk < xs.length ∧ ¬ 0 < cy := by omega
          obtain ⟨h2, h3⟩ := hn
          have HG := Lib.hid hgo; clear hgo
          obtain ⟨R, rc, hrv, _, _, hrr⟩ := own_rd RO.out RL.out
          subst hrv
          have he := RV.out
          rw [vd_end (by omega), show cy = 0 from by omega, Nat.zero_mul, Nat.mul_zero, Nat.add_zero] at he
          have RE2 := Lib.hid he; clear he
          have hz : zs.length ≤ 5000 := by have := HL.out; omega
          have hz2 : rs.length ≤ 5000 := by have := RI.out; omega
          have ro := Lib.hid (hr.below RB.out)
          go_wp2_with fail
          refine (plus_any _ _ _ _ _ _ _ ro.out hrr hz hz2).mono ?_
          rintro e w' ⟨D, ds, dc, rfl, g1, g2, g3, g4, g5, _, g7⟩
          have G1 := Lib.hid g1; have G2 := Lib.hid g2; have G4 := Lib.hid g4; have G5 := Lib.hid g5; have G7 := Lib.hid g7; clear g1 g2 g4 g5 g7
          go_wp2_with fail
          go_roundw
          case rel =>
            refine ⟨i + 1, D, ds, dc, by go_num, rfl, G1.out, G2.out, g3, h1, by have := G4.out; have := HL.out; have := RI.out; omega, ?_, HB.out.trans ((RB.out.mono HB.out.size).trans (G7.out.mono (Nat.le_trans HB.out.size RB.out.size)))⟩
            rw [G5.out]
            exact outer_step HV.out RE2.out
          case measure => simp [intOf]; omega
    · have hi2 : i = ys.length := by omega
      have HI2 := Lib.hid hi2; clear hi2
      have hz : zs.length ≤ 100000 := by have := HL.out; omega
      go_wp2_with fail
      refine (cut_any _ _ _ _ hr HK.out HK'.out).mono ?_
      rintro e w' ⟨ds, rfl, rfl, h3, h4, h5, h6⟩
      have H4 := Lib.hid h4; have H5 := Lib.hid h5; clear h4 h5
      go_wp2_with fail
      go_ret
      have e := HV.out
      rw [HI2.out, vd_end (Nat.le_refl _), Nat.mul_zero, Nat.mul_zero, Nat.add_zero] at e
      exact ⟨C, ds, k, rfl, by have := H4.out; have := HK.out; omega, HK'.out, h3, by have := H4.out; have := HL.out; have := HI2.out; omega, by rw [H5.out, e], h6, HB.out⟩
end Go.Proofs.YtjbbnlcghnjlfaaDoor
