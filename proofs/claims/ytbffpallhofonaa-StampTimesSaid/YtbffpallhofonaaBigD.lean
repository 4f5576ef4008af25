/- Of: a number as digits. -/
import Derived.Test.YtbffpallhofonaaBigC
namespace Go.Proofs.Ytbffpallhofonaa
open Go.RowKit

/-- The value v is a Big that is the number z, of at most k digits. -/
def BV (w : World) (v : Value) (z : Int) (k : Nat) : Prop :=
  ∃ (A : Option Addr) (ds : List Nat) (c : Nat), v = .agg #[.bool (decide (z < 0)), .slice A ds.length c] ∧ Rd w A ds ∧ ds.length ≤ c ∧ c ≤ maxLen ∧ ds.length ≤ k ∧ nv ds = z.natAbs ∧ trim ds
theorem BV.below {w w' : World} {v : Value} {z : Int} {k : Nat} (h : BV w v z k) (hb : Below w.heap.size w w') : BV w' v z k := by
  obtain ⟨A, ds, c, h1, h2, h3⟩ := h
  exact ⟨A, ds, c, h1, h2.below hb, h3⟩

/-- What the loop of Of keeps. -/
def OfRel (a x : Int) (ds : List Nat) : Prop :=
  low ds ∧ nv ds + 65536 ^ ds.length * x.natAbs = a.natAbs ∧ fits x ∧ ds.length ≤ 4 ∧ (0 < ds.length → a ≠ 0) ∧ (ds.length = 0 → x = a)
theorem OfRel.step {a x : Int} {ds : List Nat} (h : OfRel a x ds) (ha : fits a) (hx : x ≠ 0) : OfRel a (x.tdiv 65536) (ds ++ [x.natAbs % 65536]) ∧ ds.length < 4 := by
  obtain ⟨h1, h2, h3, h4, h5, h6⟩ := h
  have ha' : a.natAbs ≤ 9223372036854775808 := by unfold fits at ha; omega
  have hlt : ds.length < 4 := by
    rcases Nat.lt_or_ge ds.length 4 with h | h
    · exact h
    · exfalso
      have e : ds.length = 4 := by omega
      rw [e] at h2
      omega
  refine ⟨⟨low_snoc h1 (Nat.mod_lt _ (by omega)), ?_, ?_, by rw [List.length_append]; simp; omega, fun _ => ?_, fun h => by simp at h⟩, hlt⟩
  · rw [nv_snoc, List.length_append, List.length_singleton, Nat.pow_succ, Int.natAbs_tdiv, ← h2, Nat.add_assoc, Nat.mul_assoc, ← Nat.mul_add]
    congr 2
    exact Nat.mod_add_div _ _
  · refine tdiv_fit h3 (by decide) (by decide)
  · rcases Nat.eq_zero_or_pos ds.length with h0 | h0
    · rw [← h6 h0]; exact hx
    · exact h5 h0
theorem tmod_abs_pos {x : Int} (h : 0 ≤ x) : x % 65536 = ((x.natAbs % 65536 : Nat) : Int) ∧ x / 65536 = x.tdiv 65536 := by
  rw [Int.tdiv_eq_ediv_of_nonneg h]
  omega
theorem tmod_abs_neg {x : Int} (h : ¬ 0 ≤ x) : x.tmod 65536 = - ((x.natAbs % 65536 : Nat) : Int) := by
  have h1 := Int.natAbs_tmod x 65536
  have h2 := (tmod_sgn x 65536 (by decide)).2.1 (by omega)
  have : (65536 : Int).natAbs = 65536 := rfl
  rw [this] at h1
  omega

set_option maxHeartbeats 1600000 in
theorem of_any (a : Int) (w : World) (ha : fits a) :
    Calls Try.prog 41 #[.int .i64 a] w fun e w' => ∃ v, e = .returned v ∧ BV w' v a 4 ∧ Below w.heap.size w w' := by
  have hA := Lib.hid ha; clear ha
  go_enter Try.func41, Try.ntmps41
  go_wp2
  go_loopw [0, 3] (fun s t wr => ∃ (x : Int) (ds : List Nat), s = .int .i64 x ∧ Hid (OfRel a x ds) ∧ Hid (Own wr (w.heap.size + 1) t ds) ∧ Below (w.heap.size + 1) (w.alloc (.cells #[.bool false, .slice none 0 0] 76)) wr) (fun s _ _ => (intOf s).natAbs)
  case atStart => exact ⟨a, [], rfl, ⟨low_nil, by simp [nv], hA.out, by simp, by simp, fun _ => rfl⟩, World.ownsRow_nil _ _ _ _, Below.refl _ _⟩
  case round =>
    obtain ⟨x, ds, rfl, HR, HO, hb⟩ := hrel
    have HB := Lib.hid hb; clear hb
    have hw := new_whole HB.out
    have hc0 : wr.cell? ⟨w.heap.size, 0, none⟩ = some (.bool false) := whole_cell hw 0
    have hc1 : wr.cell? ⟨w.heap.size, 1, none⟩ = some (.slice none 0 0) := whole_cell hw 1
    have hf0 := whole_free hw 0
    have hf1 := whole_free hw 1
    have HW := Lib.hid hw; clear hw
    have hsz : w.heap.size + 1 ≤ wr.heap.size := by have := HB.out.size; simpa using this
    by_cases hx : x = 0
    · subst hx
      have HO2 : Hid (∀ p q u v, p = w.heap.size → q = w.heap.size → Own ((wr.setCell ⟨p, 0, none⟩ u).setCell ⟨q, 1, none⟩ v) (w.heap.size + 1) u3 ds) := by
        rintro p q u v rfl rfl
        exact ownsRow_setCell_below (ownsRow_setCell_below HO.out (by simp) _) (by simp) _
      obtain ⟨A, c, hv, hc, hc', hr⟩ := own_rd HO.out HR.out.1
      subst hv
      have HH := Lib.hid hr; have HC := Lib.hid hc; have HC' := Lib.hid hc'; clear hr hc hc'
      go_wp2
      refine bodyPost_ret (v := .agg #[.bool (decide (a < 0)), .slice A ds.length c]) (by simp [results, Try.results41, go_sem, hc0, hc1]) rfl ⟨_, rfl, ?_, ?_⟩
      · have ho := HO2.out _ _ (.bool (decide (a < 0))) (.slice A ds.length c) rfl rfl
        obtain ⟨A2, c2, hv2, _, _, hr2⟩ := own_rd ho HR.out.1
        injection hv2 with e1 e2 e3
        subst e1 e3
        have h1 := HR.out
        refine ⟨A, ds, c, rfl, hr2, HC.out, HC'.out, h1.2.2.2.1, by have := h1.2.1; simpa using this, fun h0 => ?_⟩
        have h2 := h1.2.2.2.2.1 h0
        have h3 := h1.2.1
        simp at h3
        omega
      · have hb0 : Below w.heap.size w (w.alloc (.cells #[.bool false, .slice none 0 0] 76)) := (Below.refl _ _).alloc (Nat.le_refl _) _
        exact (((hb0.trans (HB.out.mono (by omega))).setCell (by simp) _).setCell (by simp) _)
    · have hst := HR.out.step hA.out hx
      have HS := Lib.hid hst; clear hst
      have hfx := HR.out.2.2.1
      unfold fits at hfx
      by_cases hp : 0 ≤ x
      · have t1 := Lib.hid (tmod_abs_pos hp)
        have hx' : (x != 0) = true := bne_iff_ne.mpr hx
        go_wp2_with (at_builtin; refine app_digit _ _ (w.heap.size + 1) _ ds _ (x.natAbs % 65536) HO.out ?hd ?hlen ?hbase rfl rfl rfl rfl ?_)
        case hd => exact t1.out.1
        case hlen => have := HS.out.2; omega
        case hbase => exact hsz
        intro v' w1 hown1 hb1
        have HO1 := Lib.hid hown1; have HB1 := Lib.hid (HB.out.trans hb1); clear hown1 hb1
        go_wp2_with fail
        go_roundw
        case rel => exact ⟨x.tdiv 65536, _, int_eq t1.out.2, HS.out.1, HO1.out, HB1.out⟩
        case measure => simp [intOf]; omega
      · have t1 := tmod_abs_neg hp
        have hr1 : x.natAbs % 65536 < 65536 := Nat.mod_lt _ (by omega)
        generalize x.natAbs % 65536 = r at t1 hr1 HS
        have hx' : (x != 0) = true := bne_iff_ne.mpr hx
        have hx3 := Lib.hid hx
        have hp3 := Lib.hid hp
        clear hx hp
        have h3 : (0 : Int) < r ∨ (r : Int) = 0 := by omega
        rcases h3 with h3 | h3
        · go_wp2_with (at_builtin; refine app_digit _ _ (w.heap.size + 1) _ ds _ r HO.out (by omega) (by have := HS.out.2; omega) hsz rfl rfl rfl rfl ?_)
          intro v' w1 hown1 hb1
          have HO1 := Lib.hid hown1; have HB1 := Lib.hid (HB.out.trans hb1); clear hown1 hb1
          go_wp2_with fail
          go_roundw
          case rel => exact ⟨x.tdiv 65536, _, rfl, HS.out.1, HO1.out, HB1.out⟩
          case measure => simp only [intOf]; rw [Int.natAbs_tdiv]; have := hx3.out; exact Nat.div_lt_self (by omega) (by decide)
        · have hr0 : r = 0 := by omega
          subst hr0
          go_wp2_with (at_builtin; refine app_digit _ _ (w.heap.size + 1) _ ds _ 0 HO.out rfl (by have := HS.out.2; omega) hsz rfl rfl rfl rfl ?_)
          intro v' w1 hown1 hb1
          have HO1 := Lib.hid hown1; have HB1 := Lib.hid (HB.out.trans hb1); clear hown1 hb1
          go_wp2_with fail
          go_roundw
          case rel => exact ⟨x.tdiv 65536, _, rfl, HS.out.1, HO1.out, HB1.out⟩
          case measure => simp only [intOf]; rw [Int.natAbs_tdiv]; have := hx3.out; exact Nat.div_lt_self (by omega) (by decide)
end Go.Proofs.Ytbffpallhofonaa
