/- plus, minus: rows of digits that the call appends to. -/
import Derived.Test.YtbffpallhofonaaBigA
namespace Go.Proofs.Ytbffpallhofonaa
open Go.RowKit

/-- The cells of a row of digits. -/
def cl (ds : List Nat) : List Value := ds.map fun d : Nat => Value.int .u64 (d : Int)
theorem cl_len (ds : List Nat) : (cl ds).length = ds.length := by unfold cl; rw [List.length_map]
theorem cl_get {ds : List Nat} {j : Nat} (hj : j < ds.length) : (cl ds)[j]? = some (.int .u64 (dg ds j)) := by
  unfold cl dg
  rw [List.getElem?_map, List.getElem?_eq_getElem hj, List.getD_eq_getElem?_getD, List.getElem?_eq_getElem hj]
  rfl
theorem cl_snoc (ds : List Nat) (d : Nat) : cl (ds ++ [d]) = cl ds ++ [.int .u64 d] := by unfold cl; rw [List.map_append]; rfl

/-- The slice v is the call's own, and holds the digits ds. -/
def Own (w : World) (base : Nat) (v : Value) (ds : List Nat) : Prop := w.ownsRow base 26 1 v ds.length (cl ds)
theorem Own.below {w w' : World} {base B : Nat} {v : Value} {ds : List Nat} (h : Own w base v ds) (hb : Below B w w') (hB : w.heap.size ≤ B) : Own w' base v ds := by
  refine ⟨h.1, h.2.imp id ?_⟩
  rintro ⟨g, cap, cur, hv, hbg, hh, r⟩
  refine ⟨g, cap, cur, hv, hbg, ?_, r⟩
  rw [hb.block g (Nat.lt_of_lt_of_le (World.ownsRow.lt h g (by rw [hv]; rfl)).2 hB)]
  exact hh
theorem Own.drewN {w : World} {base : Nat} {v : Value} {ds : List Nat} (h : Own w base v ds) (n : Nat) : Own (w.drewN n) base v ds := h
theorem below_drewN {w w' : World} {B : Nat} (h : Below B w w') (n : Nat) : Below B w (w'.drewN n) := ⟨h.os, h.tape, h.output, h.size, h.block⟩
/-- A row of the call's own reads as its digits. -/
theorem own_rd {w : World} {base : Nat} {v : Value} {ds : List Nat} (h : Own w base v ds) (hl : low ds) :
    ∃ A c, v = .slice A ds.length c ∧ ds.length ≤ c ∧ c ≤ maxLen ∧ Rd w A ds := by
  rcases h.2 with ⟨hv, hn⟩ | ⟨g, cap, cur, hv, hb, hh, hc, hm, _, _⟩
  · have : ds = [] := List.eq_nil_of_length_eq_zero hn
    subst this
    exact ⟨none, 0, hv, Nat.le_refl _, by decide, hl, .inl rfl⟩
  · refine ⟨_, cap, hv, hc, hm, hl, .inr ⟨g, rfl, whole_lt hh, fun j hj => ?_⟩⟩
    have := World.ownsRow.cells h (g := g) (by rw [hv]; rfl) j _ (cl_get hj)
    rw [← this]
    unfold Addr.add
    by_cases h0 : j = 0
    · subst h0; rfl
    · simp [h0]

theorem info64 : (Try.prog.info? 26).map (fun i => (i.zero, i.size, i.bytes)) = some (some (.int .u64 0), 1, 8) := by kernel_rfl

/-- append of one digit. -/
theorem app_digit {ops : Array Oper} {rest : List Oper} {o : Oper} {a : Act} {Q : Exit → Act → World → Prop} {W : World} (s x : Operand) (base : Nat) (v : Value) (ds : List Nat) (d : Int) (dn : Nat)
    (hown : Own W base v ds) (hd : d = dn) (hlen : ds.length ≤ 10000) (hbase : base ≤ W.heap.size)
    (hgd : o.guard = none) (ho : o.op = .call { callee := .builtin .append, args := #[s, x], argTypes := #[74, 74] })
    (hs : a.eval s = v) (hx : a.eval x = .slice (some ⟨W.heap.size, 0, none⟩) 1 1)
    (h : ∀ v' w', Own w' base v' (ds ++ [dn]) → Below base W w' → wpList Try.prog ops Q rest (a.put o.dst v') w') :
    wpList Try.prog ops Q (o :: rest) a (W.alloc (.cells #[.int .u64 d] 26)) := by
  obtain ⟨i0, hi0, hz0, hz1, hz2⟩ := info_parts info64
  subst hd
  refine wpList_append_own _ hgd s x 74 ho base 26 i0 _ 1 8 Try.underlying74 hi0 hz0 hz1 hz2 rfl (by omega) v ds.length (cl ds) hs (World.ownsRow.alloc hown _)
    ⟨W.heap.size, 0, none⟩ 1 1 [.int .u64 dn] hx rfl (cell_one_new _ _ _) ?_ ?_ ?_ ?_ ?_
  · intro u hu; rw [List.mem_singleton.mp hu]; rfl
  · unfold maxLen; omega
  · omega
  · rw [World.size_alloc]; omega
  · intro v' w' h1 h2 _
    refine h v' w' (by unfold Own; rw [cl_snoc, List.length_append]; exact h1) ?_
    have hb : Below base W (W.alloc (.cells #[.int .u64 (dn : Int)] 26)) := (Below.refl _ _).alloc hbase _
    exact hb.grown h2 (by rw [World.size_alloc]; omega) fun k hk => (World.ownsRow.lt hown k hk).1

set_option maxHeartbeats 1600000 in
theorem plus_any (A B : Option Addr) (xs ys : List Nat) (c d : Nat) (w : World) (ha : Rd w A xs) (hb : Rd w B ys) (hla : xs.length ≤ 5000) (hlb : ys.length ≤ 5000) :
    Calls Try.prog 59 #[.slice A xs.length c, .slice B ys.length d] w fun e w' => ∃ (C : Option Addr) (zs : List Nat) (k : Nat), e = .returned (.slice C zs.length k) ∧ zs.length ≤ k ∧ k ≤ maxLen ∧ Rd w' C zs ∧
      zs.length ≤ max xs.length ys.length + 1 ∧ nv zs = nv xs + nv ys ∧ (0 < zs.length → 0 < xs.length ∨ 0 < ys.length) ∧ Below w.heap.size w w' := by
  go_enter Try.func59, Try.ntmps59
  go_wp2
  go_loopw [5, 6, 7] (fun s t u wr => ∃ (i cy : Nat) (zs : List Nat), u = .int .i64 i ∧ t = .int .u64 cy ∧ zs.length = i ∧ low zs ∧ cy ≤ 1 ∧ i ≤ max xs.length ys.length + 1 ∧ (i = max xs.length ys.length + 1 → cy = 0) ∧
      (0 < i → 0 < xs.length ∨ 0 < ys.length) ∧ (i = 0 → cy = 0) ∧
      nv zs + 65536 ^ i * (cy + vd xs i + vd ys i) = nv xs + nv ys ∧ Own wr w.heap.size s zs ∧ Below w.heap.size w wr) (fun _ _ u _ => max xs.length ys.length + 1 - (intOf u).toNat)
  case atStart => exact ⟨0, 0, [], rfl, rfl, rfl, low_nil, by omega, by omega, by omega, by omega, fun _ => rfl, by simp [nv, vd_zero], World.ownsRow_nil w _ _ _, Below.refl _ _⟩
  case round =>
    obtain ⟨i, cy, zs, rfl, rfl, hi, hlow, hcy, him, hend, hpos, h0, hv, hown, hbw⟩ := hrel
    have HV := Lib.hid hv; have HI := Lib.hid hi; have HE := Lib.hid hend; have HP := Lib.hid hpos; have H0 := Lib.hid h0; have HO := Lib.hid hown; have HB := Lib.hid hbw; have HL := Lib.hid hlow
    clear hv hi hend hpos h0 hown hbw hlow
    have ra := Lib.hid (ha.below HB.out); have rb := Lib.hid (hb.below HB.out)
    have l1 := dg_low ha.1 i; have l2 := dg_low hb.1 i
    by_cases hgo : i < xs.length ∨ (¬ i < xs.length ∧ i < ys.length) ∨ (¬ i < xs.length ∧ ¬ i < ys.length ∧ 0 < cy)
    · have hmax : i + 1 ≤ max xs.length ys.length + 1 ∧ (i + 1 = max xs.length ys.length + 1 → cy = 0 ∨ 1 ≤ i) := by have := HE.out; have := H0.out; omega
      rcases hgo with h1 | ⟨h1, h2⟩ | ⟨h1, h2, h3⟩
      all_goals
        have fin : Hid ((dg xs i + dg ys i + cy) / 65536 ≤ 1 ∧ (i + 1 = max xs.length ys.length + 1 → (dg xs i + dg ys i + cy) / 65536 = 0) ∧ (0 < i + 1 → 0 < xs.length ∨ 0 < ys.length) ∧ i + 1 ≤ max xs.length ys.length + 1) := by
          have := HE.out; have := H0.out; have := HP.out
          refine ⟨by omega, fun he => ?_, fun _ => by omega, by omega⟩
          have e1 : dg xs i = 0 := dg_end (by omega)
          have e2 : dg ys i = 0 := dg_end (by omega)
          omega
        go_wp2_with fail
        refine (digit_any _ _ _ _ _ ra.out).mono ?_
        rintro e w' ⟨rfl, rfl⟩
        go_wp2_with fail
        refine (digit_any _ _ _ _ _ rb.out).mono ?_
        rintro e w' ⟨rfl, rfl⟩
        go_wp2_with (at_builtin; refine app_digit _ _ w.heap.size _ zs _ ((dg xs i + dg ys i + cy) % 65536) HO.out ?hd ?hlen ?hbase rfl rfl rfl rfl ?_)
        case hd => omega
        case hlen => have := HI.out; omega
        case hbase => exact HB.out.size
        rename_i W0
        intro v' w1 hown1 hb1
        have HO1 := Lib.hid hown1; have HB1 := Lib.hid (HB.out.trans hb1); clear hown1 hb1
        go_wp2_with fail
        go_roundw
        case rel =>
          have hf := fin.out
          refine ⟨i + 1, (dg xs i + dg ys i + cy) / 65536, _, by go_num, int_eq ?_, by rw [List.length_append, HI.out]; rfl, low_snoc HL.out (Nat.mod_lt _ (by omega)), hf.1, hf.2.2.2, hf.2.1, hf.2.2.1, by omega, plus_step HI.out HV.out, HO1.out, HB1.out⟩
          omega
        case measure => simp [intOf]; omega
    · have hn : ¬ i < xs.length ∧ ¬ i < ys.length ∧ ¬ 0 < cy := by omega
      obtain ⟨h1, h2, h3⟩ := hn
      have HG := Lib.hid hgo; clear hgo
      go_wp2
      go_ret
      have e := HV.out
      rw [vd_end (by omega), vd_end (by omega), show cy = 0 from by omega, Nat.mul_zero] at e
      obtain ⟨C, k, hv, hk, hk', hr⟩ := own_rd HO.out HL.out
      exact ⟨C, zs, k, ret1_eq hv, hk, hk', hr, by rw [HI.out]; exact him, e, by rw [HI.out]; exact HP.out, HB.out⟩

set_option maxHeartbeats 1600000 in
theorem minus_any (A B : Option Addr) (xs ys : List Nat) (c d : Nat) (w : World) (ha : Rd w A xs) (hb : Rd w B ys) (hla : xs.length ≤ 5000) (hge : nv ys ≤ nv xs) :
    Calls Try.prog 61 #[.slice A xs.length c, .slice B ys.length d] w fun e w' => ∃ (C : Option Addr) (zs : List Nat) (k : Nat), e = .returned (.slice C zs.length k) ∧ zs.length ≤ k ∧ k ≤ maxLen ∧ Rd w' C zs ∧
      zs.length ≤ xs.length ∧ nv zs = nv xs - nv ys ∧ trim zs ∧ Below w.heap.size w w' := by
  have HG := Lib.hid hge; clear hge
  go_enter Try.func61, Try.ntmps61
  go_wp2
  go_loopw [5, 6, 7] (fun s t u wr => ∃ (i cy : Nat) (zs : List Nat), u = .int .i64 i ∧ t = .int .u64 cy ∧ zs.length = i ∧ low zs ∧ cy ≤ 1 ∧ i ≤ xs.length ∧
      nv zs + 65536 ^ i * vd xs i + nv ys = nv xs + 65536 ^ i * (vd ys i + cy) ∧ Own wr w.heap.size s zs ∧ Below w.heap.size w wr) (fun _ _ u _ => xs.length - (intOf u).toNat)
  case atStart => exact ⟨0, 0, [], rfl, rfl, rfl, low_nil, by omega, by omega, by simp [nv, vd_zero], World.ownsRow_nil w _ _ _, Below.refl _ _⟩
  case round =>
    obtain ⟨i, cy, zs, rfl, rfl, hi, hlow, hcy, him, hv, hown, hbw⟩ := hrel
    have HV := Lib.hid hv; have HI := Lib.hid hi; have HO := Lib.hid hown; have HB := Lib.hid hbw; have HL := Lib.hid hlow
    clear hv hi hown hbw hlow
    have ra := Lib.hid (ha.below HB.out); have rb := Lib.hid (hb.below HB.out)
    have l1 := dg_low ha.1 i; have l2 := dg_low hb.1 i
    by_cases h1 : i < xs.length
    · go_wp2_with fail
      refine (digit_any _ _ _ _ _ ra.out).mono ?_
      rintro e w' ⟨rfl, rfl⟩
      go_wp2_with fail
      refine (digit_any _ _ _ _ _ rb.out).mono ?_
      rintro e w' ⟨rfl, rfl⟩
      go_wp2_with (at_builtin; refine app_digit _ _ w.heap.size _ zs _ ((65536 + dg xs i - dg ys i - cy) % 65536) HO.out ?hd ?hlen ?hbase rfl rfl rfl rfl ?_)
      case hd => omega
      case hlen => have := HI.out; omega
      case hbase => exact HB.out.size
      rename_i W0
      intro v' w1 hown1 hb1
      have HO1 := Lib.hid hown1; have HB1 := Lib.hid (HB.out.trans hb1); clear hown1 hb1
      go_wp2_with fail
      go_roundw
      case rel =>
        refine ⟨i + 1, (1 - (65536 + dg xs i - dg ys i - cy) / 65536), _, by go_num, int_eq ?_, by rw [List.length_append, HI.out]; rfl, low_snoc HL.out (Nat.mod_lt _ (by omega)), by omega, h1, minus_step HI.out ha.1 hb.1 hcy HV.out, HO1.out, HB1.out⟩
        omega
      case measure => simp [intOf]; omega
    · have hi' : i = xs.length := by omega
      have HI2 := Lib.hid hi'; clear hi'
      obtain ⟨C, k, hv, hk, hk', hr⟩ := own_rd HO.out HL.out
      subst hv
      have hz : zs.length ≤ 10000 := by have := HI.out; omega
      go_wp2_with fail
      refine (cut_any _ _ _ _ hr hk hk').mono ?_
      rintro e w' ⟨ds, rfl, rfl, h3, h4, h5, h6⟩
      have H4 := Lib.hid h4; have H5 := Lib.hid h5; clear h4 h5
      go_wp2_with fail
      go_ret
      have e := HV.out
      rw [HI2.out] at e
      have := minus_end HL.out (by rw [HI.out, HI2.out]) HG.out e
      exact ⟨C, ds, k, rfl, by have := H4.out; omega, hk', h3, by have := H4.out; have := HI.out; omega, by rw [H5.out, this], h6, HB.out⟩
end Go.Proofs.Ytbffpallhofonaa
