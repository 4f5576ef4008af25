/- NumSums. -/
import Derived.Test.YteanpnmgdfflcaaNumE
import Derived.Test.YteanpnmgdfflcaaNumF
import Derived.Laws.AppendOwnNone
import Derived.OwnWalk
namespace Go.Proofs.Yteanpnmgdfflcaa
open Go.RowKit

theorem whole_set {w : World} {g : Nat} {cs : Array Value} {t : TypeId} (h : w.heap[g]? = some (.cells cs t (0, 0))) (i : Nat) (u : Value) : (w.setCell ⟨g, i, none⟩ u).heap[g]? = some (.cells (cs.setIfInBounds i u) t (0, 0)) := by
  simp [World.setCell, Array.getElem?_modify, h]

theorem infoInt : (Try.prog.info? 2).map (fun i => (i.zero, i.size, i.bytes)) = some (some (.int .i64 0), 1, 8) := by kernel_rfl
def cli (zs : List Int) : List Value := zs.map fun z => Value.int .i64 z
theorem cli_get {zs : List Int} {j : Nat} (hj : j < zs.length) : (cli zs)[j]? = some (.int .i64 (zs.getD j 0)) := by
  unfold cli
  rw [List.getElem?_map, List.getElem?_eq_getElem hj, List.getD_eq_getElem?_getD, List.getElem?_eq_getElem hj]
  rfl
theorem own_ri {w : World} {base : Nat} {v : Value} {zs : List Int} (h : w.ownsRow base 2 1 v zs.length (cli zs)) (hf : ∀ z ∈ zs, fits z) :
    ∃ A c, v = .slice A zs.length c ∧ Ri w A zs := by
  rcases h.2 with ⟨hv, hn⟩ | ⟨g, cap, cur, hv, hb, hh, hc, hm, _, _⟩
  · have : zs = [] := List.eq_nil_of_length_eq_zero hn
    subst this
    exact ⟨none, 0, hv, hf, .inl rfl⟩
  · refine ⟨_, cap, hv, hf, .inr ⟨g, 0, rfl, whole_lt hh, fun j hj => ?_⟩⟩
    have := World.ownsRow.cells h (g := g) (by rw [hv]; rfl) j _ (cli_get hj)
    rw [← this]
    unfold Addr.add
    by_cases h0 : j = 0
    · subst h0; rfl
    · simp [h0]

/-- A copy: append of all numbers to an empty slice of the call's own. -/
theorem app_copy {ops : Array Oper} {rest : List Oper} {o : Oper} {a : Act} {Q : Exit → Act → World → Prop} {W : World} (s x : Operand) (A : Option Addr) (zs : List Int) (c : Nat)
    (hr : Ri W A zs) (hlen : zs.length ≤ 10000) (hA : A = none → c = 0)
    (hgd : o.guard = none) (ho : o.op = .call { callee := .builtin .append, args := #[s, x], argTypes := #[46, 46] })
    (hs : a.eval s = .slice (some ⟨W.heap.size, 0, none⟩) 0 0) (hx : a.eval x = .slice A zs.length c)
    (h : ∀ B d w', Ri w' B zs → Below W.heap.size W w' → wpList Try.prog ops Q rest (a.put o.dst (.slice B zs.length d)) w') :
    wpList Try.prog ops Q (o :: rest) a (W.alloc (.cells #[] 2)) := by
  obtain ⟨i0, hi0, hz0, hz1, hz2⟩ := info_parts infoInt
  have hown : (W.alloc (.cells #[] 2)).ownsRow W.heap.size 2 1 (.slice (some ⟨W.heap.size, 0, none⟩) 0 0) 0 [] :=
    World.ownsRow_made W #[] 0 (Nat.le_refl _) (by decide) rfl
  have hb0 : Below W.heap.size W (W.alloc (.cells #[] 2)) := (Below.refl _ _).alloc (Nat.le_refl _) _
  have hr' := hr.below hb0
  cases A with
  | none =>
    have hz : zs = [] := by
      rcases hr.2 with h0 | ⟨b, off, h0, _⟩
      · exact h0
      · cases h0
    subst hz
    obtain rfl := hA rfl
    refine wpList_append_own_none hgd s x 46 ho W.heap.size 2 i0 1 Try.underlying46 hi0 _ 0 [] hs hown hx ?_
    exact h _ _ _ ⟨hr.1, .inl rfl⟩ hb0
  | some ad =>
    refine wpList_append_own _ hgd s x 46 ho W.heap.size 2 i0 _ 1 8 Try.underlying46 hi0 hz0 hz1 hz2 rfl (by omega) _ 0 [] hs hown
      ad zs.length c (cli zs) hx (by unfold cli; simp) ?_ ?_ ?_ ?_ ?_ ?_
    · intro j u hj
      have hlt : j < zs.length := by
        have := (List.getElem?_eq_some_iff.1 hj).1
        unfold cli at this; simpa using this
      rw [cli_get hlt] at hj
      injection hj with hj
      subst hj
      rcases hr'.2 with h0 | ⟨b, off, h0, _, hc⟩
      · rw [h0] at hlt; simp at hlt
      · injection h0 with h0
        subst h0
        rw [← hc j hlt]
        unfold Addr.add
        by_cases hj0 : j = 0
        · subst hj0; rfl
        · simp [hj0]
    · intro u hu
      unfold cli at hu
      obtain ⟨z, _, rfl⟩ := List.mem_map.mp hu
      rfl
    · unfold maxLen; omega
    · omega
    · rw [World.size_alloc]; omega
    · intro v' w' h1 h2 _
      have hb : Below W.heap.size W w' := hb0.grown h2 (by rw [World.size_alloc]; omega) fun k hk => by simp [Value.ownBlock] at hk; omega
      obtain ⟨B, d, rfl, hB⟩ := own_ri (zs := zs) (by simpa using h1) hr.1
      exact h B d w' hB hb

/-- What the loop keeps: the Big in block p, and the error's number. -/
def SI (zs : List Int) (p : Nat) (Wb : World) (i : Nat) (bd : Int) (wr : World) : Prop :=
  ∃ (s : Bool) (A : Option Addr) (n c : Nat) (z : Int), wr.heap[p]? = some (.cells #[.bool s, .slice A n c] 25 (0, 0)) ∧ BV wr (.agg #[.bool s, .slice A n c]) z (i + 4) ∧
    ((bd = 0 ∧ run 0 (zs.take i) = some z ∧ fits z) ∨ (bd = 5 ∧ run 0 zs = none ∧ ¬ fits z)) ∧ Below Wb.heap.size Wb wr
theorem SI.more {zs : List Int} {p : Nat} {Wb wr w' : World} {i : Nat} {bd : Int} (h : SI zs p Wb i bd wr) (hb : bd = 5) (hw : wr = w') : SI zs p Wb (i + 1) bd w' := by
  subst hw
  obtain ⟨s, A, n, c, z, h1, ⟨A', ds, c', e, h2, h3, h4, h5, h6⟩, h7, h8⟩ := h
  refine ⟨s, A, n, c, z, h1, ⟨A', ds, c', e, h2, h3, h4, by omega, h6⟩, ?_, h8⟩
  rcases h7 with ⟨h, _⟩ | h
  · omega
  · exact .inr h
theorem SI.next {zs : List Int} {p : Nat} {Wb wr : World} {i : Nat} {x z : Int} {s : Bool} {A : Option Addr} {n c : Nat} (hi : i < zs.length) (hx : x = zs.getD i 0) (hr : run 0 (zs.take i) = some z)
    (h1 : wr.heap[p]? = some (.cells #[.bool s, .slice A n c] 25 (0, 0))) (h2 : BV wr (.agg #[.bool s, .slice A n c]) (z + x) (i + 1 + 4)) (h3 : Below Wb.heap.size Wb wr) : SI zs p Wb (i + 1) (bad (z + x)) wr := by
  subst hx
  refine ⟨s, A, n, c, _, h1, h2, ?_, h3⟩
  by_cases hf : fits (z + zs.getD i 0)
  · exact .inl ⟨bad_fit hf, by rw [run_step hi hr, if_pos hf], hf⟩
  · exact .inr ⟨bad_no hf, run_stop (i := i + 1) (by rw [run_step hi hr, if_neg hf]), hf⟩

set_option maxRecDepth 100000 in
set_option maxHeartbeats 3200000 in
theorem sums_walk (A : Option Addr) (zs : List Int) (c : Nat) (low high : Int) (w : World) (h : Ri w A zs) (hA : A = none → c = 0) (hz : zs.length ≤ maxLen) :
    Calls Try.prog 6 #[.slice A zs.length c, .int .i64 low, .int .i64 high] w fun e w' => e = .returned (.bool true) ∧ Below w.heap.size w w' := by
  unfold maxLen at hz
  have HA := Lib.hid hA; clear hA
  by_cases hlen : 100 < zs.length
  · go_enter Try.func6, Try.ntmps6
    go_wp2_with fail
    refine (alive_any _).mono ?_
    rintro e w' ⟨rfl, rfl⟩
    go_wp2_with fail
    go_ret
    exact ⟨rfl, Below.refl _ _⟩
  have hl : zs.length ≤ 100 := by omega
  clear hlen hz
  have HR := Lib.hid h; clear h
  go_enter Try.func6, Try.ntmps6
  go_wp2_with fail
  refine (alive_any _).mono ?_
  rintro e w' ⟨rfl, rfl⟩
  go_wp2_with (at_builtin; refine app_copy _ _ A zs c HR.out (by omega) HA.out rfl rfl rfl rfl ?_)
  intro B d w1 hr1 hb1
  have R1 := Lib.hid hr1; have B1 := Lib.hid hb1; clear hr1 hb1
  go_wp2_with fail
  refine (sum_any _ _ _ _ R1.out (by omega)).mono ?_
  rintro e w' ⟨rfl, rfl⟩
  go_wp2_with fail
  refine (of_any _ _ (by decide)).mono ?_
  rintro e w2 ⟨v2, rfl, b2, hb2⟩
  have V2 := Lib.hid b2
  have B2 := Lib.hid (B1.out.trans (hb2.mono B1.out.size))
  have R2 := Lib.hid (R1.out.below hb2)
  obtain ⟨s1, A1, n1, c1, rfl⟩ := b2.open_
  clear b2 hb2 R1 B1
  go_wp2_with fail
  have hp0 := heap_alloc_new w2 (.cells #[.bool s1, .slice A1 n1 c1] 25)
  have hb0 : Below w2.heap.size w2 (w2.alloc (.cells #[.bool s1, .slice A1 n1 c1] 25)) := (Below.refl _ _).alloc (Nat.le_refl _) _
  generalize hW0 : World.alloc w2 _ = W0 at hp0 hb0 ⊢
  clear hW0
  have S0 : Hid (SI zs w2.heap.size w2 0 0 W0) := ⟨s1, A1, n1, c1, 0, hp0, V2.out.below hb0, .inl ⟨rfl, by simp [run], by decide⟩, hb0⟩
  clear hp0 hb0
  go_loopg [11, 32] zs.length (fun g s11 s32 wr => ∃ (i : Nat) (bd : Int), s32 = .int .i64 i ∧ s11 = .int .i64 bd ∧ i ≤ zs.length ∧ g = zs.length - i ∧ Hid (SI zs w2.heap.size w2 i bd wr))
  case atStart => exact ⟨0, 0, rfl, rfl, by omega, rfl, S0⟩
  case round =>
    obtain ⟨i, bd, rfl, rfl, hi, rfl, HS⟩ := hrel
    clear S0
    by_cases hlt : i < zs.length
    · have hri := HR.out.below (B2.out.trans (HS.out.choose_spec.choose_spec.choose_spec.choose_spec.choose_spec.2.2.2.mono B2.out.size))
      obtain ⟨b, off, rfl, hbl, hcell⟩ := hri.cell hlt
      have hfx := Lib.hid (hri.fit i)
      obtain ⟨x, hx⟩ : ∃ x, x = zs.getD i 0 := ⟨_, rfl⟩
      rw [← hx] at hcell
      have HX := Lib.hid hx
      have hfx : Hid (fits x) := by rw [hx]; exact hri.fit i
      clear hx hri
      go_upto_if 37 with fail
      go_cut [11] (fun s11 wx => ∃ bd' : Int, s11 = .int .i64 bd' ∧ Hid (SI zs w2.heap.size w2 (i + 1) bd' wx))
      case first =>
        obtain ⟨s, A3, n3, c3, z, g1, g2, g3, g4⟩ := HS.out
        rcases g3 with ⟨rfl, gr, gf⟩ | ⟨rfl, gn, gf⟩
        · have VZ := Lib.hid g2; have BZ := Lib.hid g4; have RZ := Lib.hid gr; have G1 := Lib.hid g1
          have k1 : wr.cell? ⟨w2.heap.size, 0, none⟩ = some (.bool s) := whole_cell g1 0
          have k2 : wr.cell? ⟨w2.heap.size, 1, none⟩ = some (.slice A3 n3 c3) := whole_cell g1 1
          have f1 := whole_free g1 0
          have f2 := whole_free g1 1
          clear g1 g2 g4 gr gf
          go_upto_region 12 with fail
          go_cut [] (fun wx => ∃ (s' : Bool) (A' : Option Addr) (n' c' : Nat), wx.heap[w2.heap.size]? = some (.cells #[.bool s', .slice A' n' c'] 25 (0, 0)) ∧ BV wx (.agg #[.bool s', .slice A' n' c']) (z + x) (i + 1 + 4) ∧ Below w2.heap.size w2 wx)
          case first =>
            go_region_with (first
              | (go_at_call 9; refine (of_any x _ hfx.out).mono ?_; rintro e w3 ⟨v3, rfl, b3, hb3⟩; have V3 := Lib.hid b3; have B3 : Hid (Below wr.heap.size wr w3) := (⟨hb3.os, hb3.tape, hb3.output, hb3.size, hb3.block⟩ : Below wr.heap.size wr w3); have hk1 : w3.cell? ⟨w2.heap.size, 0, none⟩ = some (.bool s) := whole_cell ((B3.out.block _ (whole_lt G1.out)).trans G1.out) 0; have hk2 : w3.cell? ⟨w2.heap.size, 1, none⟩ = some (.slice A3 n3 c3) := whole_cell ((B3.out.block _ (whole_lt G1.out)).trans G1.out) 1; clear b3 hb3)
              | (go_at_call 15; refine (plus_big _ _ z x (i + 4) 4 _ (VZ.out.below ?_) V3.out (by omega) (by omega)).mono ?_; exact B3.out; rintro e w4 ⟨v4, rfl, b4, hb4⟩; obtain ⟨s4, A4, n4, c4, rfl⟩ := b4.open_; have V4 := Lib.hid b4; have B4 : Hid (Below wr.heap.size wr w4) := B3.out.trans (hb4.mono B3.out.size); have hm1 : w4.cell? ⟨w2.heap.size, 0, none⟩ = some (.bool s) := whole_cell ((B4.out.block _ (whole_lt G1.out)).trans G1.out) 0; have hm2 : w4.cell? ⟨w2.heap.size, 1, none⟩ = some (.slice A3 n3 c3) := whole_cell ((B4.out.block _ (whole_lt G1.out)).trans G1.out) 1; have hf1 : w4.frozen? ⟨w2.heap.size, 0, none⟩ = false := whole_free ((B4.out.block _ (whole_lt G1.out)).trans G1.out) 0; have hf2 : w4.frozen? ⟨w2.heap.size, 1, none⟩ = false := whole_free ((B4.out.block _ (whole_lt G1.out)).trans G1.out) 1; clear b4 hb4))
            all_goals
              go_wp2_with fail
              go_meet
              have hh := (B4.out.block _ (whole_lt G1.out)).trans G1.out
              have hmax : max (i + 4) 4 + 1 = i + 1 + 4 := by omega
              refine ⟨s4, A4, n4, c4, ?_, ?_, ?_⟩
              · exact whole_set (whole_set hh 0 _) 1 _
              · have := V4.out.store2 hm1 hm2 (.bool s4) (.slice A4 n4 c4)
                rw [hmax] at this
                exact this
              · exact ((BZ.out.trans (B4.out.mono BZ.out.size)).setCell (Nat.le_refl _) _).setCell (Nat.le_refl _) _
          case rest =>
            obtain ⟨s', A', n', c', h1, h2, h3⟩ := hcut
            have H1 := Lib.hid h1; have H2 := Lib.hid h2; have H3 := Lib.hid h3
            have k3 : wc.cell? ⟨w2.heap.size, 0, none⟩ = some (.bool s') := whole_cell h1 0
            have k4 : wc.cell? ⟨w2.heap.size, 1, none⟩ = some (.slice A' n' c') := whole_cell h1 1
            clear h1 h2 h3 k1 k2 f1 f2
            go_wp2_with fail
            refine (small_any _ (z + x) (i + 1 + 4) _ H2.out (by omega)).mono ?_
            rintro e w5 ⟨rfl, hb5⟩
            have B5 := Lib.hid hb5; clear hb5
            go_wp2_with fail
            go_meet
            exact ⟨_, rfl, SI.next hlt HX.out RZ.out ((B5.out.block _ (whole_lt H1.out)).trans H1.out) (H2.out.below B5.out) (H3.out.trans (B5.out.mono H3.out.size))⟩
        · clear g1 g2 g4 gn gf
          go_wp2_with fail
          go_meet
          exact ⟨5, rfl, HS.out.more rfl rfl⟩
      case rest =>
        obtain ⟨bd', rfl, HS'⟩ := hcut
        by_cases hw : low ≤ x
        · have hw' : decide (low ≤ x) = true := decide_eq_true hw
          go_wp2_with (go_at_call 27; refine (within_any _ _ _ _).mono ?_; rintro e w' ⟨rfl, rfl⟩)
          go_roundg (zs.length - (i + 1))
          case measure => omega
          case rel => exact ⟨i + 1, bd', by go_num, rfl, hlt, rfl, HS'⟩
        · have hw' : decide (low ≤ x) = false := decide_eq_false hw
          go_wp2_with (go_at_call 27; refine (within_any _ _ _ _).mono ?_; rintro e w' ⟨rfl, rfl⟩)
          go_roundg (zs.length - (i + 1))
          case measure => omega
          case rel => exact ⟨i + 1, bd', by go_num, rfl, hlt, rfl, HS'⟩
    · have he : zs.take i = zs := List.take_of_length_le (by omega)
      obtain ⟨s, A3, n3, c3, z, g1, g2, g3, g4⟩ := HS.out
      rw [he] at g3
      have hfin : sumV zs = sm z ∧ sumE zs = bd ∧ 0 ≤ sumE zs ∧ sumE zs < 100 := by
        rcases g3 with ⟨h0, h1, h2⟩ | ⟨h0, h1, h2⟩
        · unfold sumV sumE; rw [h1, sm_fit h2, h0]; simp
        · unfold sumV sumE; rw [h1, sm_no h2, h0]; simp
      have t1 : (sumV zs == sm z) = true := by rw [hfin.1]; simp
      have t2 : (sumE zs == bd) = true := by rw [hfin.2.1]; simp
      have HE := Lib.hid hfin.2.2; have G1 := Lib.hid g1; have G2 := Lib.hid g2; have G4 := Lib.hid g4
      have k1 : wr.cell? ⟨w2.heap.size, 0, none⟩ = some (.bool s) := whole_cell g1 0
      have k2 : wr.cell? ⟨w2.heap.size, 1, none⟩ = some (.slice A3 n3 c3) := whole_cell g1 1
      clear he hfin g1 g2 g3 g4
      go_wp2_with fail
      refine (small_any _ z (i + 4) _ G2.out (by omega)).mono ?_
      rintro e w5 ⟨rfl, hb5⟩
      have B5 := Lib.hid (G4.out.trans (hb5.mono G4.out.size)); clear hb5
      go_wp2_with fail
      refine (num_any _ _ HE.out.1 HE.out.2).mono ?_
      rintro e w' ⟨rfl, rfl⟩
      go_wp2_with fail
      refine (wide_true _ _ zs _ _ _ (R2.out.below B5.out) (HR.out.below (B2.out.trans (B5.out.mono B2.out.size))) (by omega)).mono ?_
      rintro e w6 ⟨rfl, hb6⟩
      have B6 := Lib.hid (B5.out.trans (hb6.mono B5.out.size)); clear hb6
      go_wp2_with fail
      go_ret
      exact ⟨rfl, B2.out.trans (B6.out.mono B2.out.size)⟩
end Go.Proofs.Yteanpnmgdfflcaa
