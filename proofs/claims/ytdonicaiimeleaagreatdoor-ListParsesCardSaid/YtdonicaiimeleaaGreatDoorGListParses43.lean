/- Merged: ListX, ListY. -/
import Derived.Test.YtdonicaiimeleaaGreatDoorGListParses35
import Derived.Test.YtdonicaiimeleaaGreatDoorGListParses14
import Derived.Deep.RegionHeld3
import Derived.Deep.RegionLaw
import Derived.Test.YtdonicaiimeleaaGreatDoorGListParses18
namespace Go.Proofs.YtdonicaiimeleaaGreatDoor
open Go.RowKit Go.WideShapes Go.ChangeShapes
set_option linter.unusedVariables false
set_option linter.unusedSimpArgs false

set_option maxRecDepth 100000 in
/-- append of rows to a row of the call's own: nothing but that row is written. -/
theorem run_app2g (w : World) (base : Nat) (S T ty : TypeId) (E : Et Tryz.prog S T) (v : Value) (xs : List Rw) (hown : Ow T w base v xs) (ad : Addr) (zs : List Rw) (c : Nat) (hr : Rp w.heap.size w (some ad) zs)
    (hx : xs.length ≤ 100000) (hz : zs.length ≤ 100000) (hbase : base ≤ w.heap.size) :
    ∃ v' w', (Builtin.append_ #[S, S] ty #[v, .slice (some ad) zs.length c]).run Tryz.prog w = .ok v' w' ∧ Ow T w' base v' (xs ++ zs) ∧ w.grownBy w' v.ownBlock := by
  obtain ⟨i, ht, hi, hz0, hz1, hz2⟩ := E
  obtain ⟨v', w', h1, h2, h3, _, _⟩ := run_append_own_at (P := Tryz.prog) w base S ty T i (.agg #[.int .i64 0, .int .i64 0]) 2 i.bytes ht hi hz0 hz1 rfl rfl (by decide) v xs.length (cw xs) hown ad zs.length c (cw zs) (cw_len zs)
      (fun j u hu => by
        have hj : j < zs.length * 2 := by
          have := (List.getElem?_eq_some_iff.1 hu).1
          rwa [cw_len] at this
        obtain ⟨b, off, h5, _, _, h6⟩ := hr.pos (by omega)
        injection h5 with h5
        subst h5
        rw [add_plain]
        obtain ⟨k1, k2⟩ := h6 (j / 2) (by omega)
        obtain ⟨a1, a2⟩ := cw_at zs (j / 2) (by omega)
        rcases (by omega : j = j / 2 * 2 ∨ j = j / 2 * 2 + 1) with e | e
        · rw [e] at hu
          rw [a1] at hu
          injection hu with hu
          rw [← hu, e]
          have : j / 2 * 2 / 2 = j / 2 := by omega
          simpa [this] using k1
        · rw [e] at hu
          rw [a2] at hu
          injection hu with hu
          rw [← hu, e]
          have : (j / 2 * 2 + 1) / 2 = j / 2 := by omega
          simpa [this, Nat.add_assoc] using k2)
      (fun u hu => by obtain ⟨z, rfl⟩ := cw_mem hu; rfl)
      (by unfold maxLen; omega) (by rw [hz2]; omega) hbase
  refine ⟨v', w', h1, ?_, h3⟩
  unfold Ow
  rw [List.length_append, cw_append]; exact h2
/-- The same as a step of a region that draws. -/
theorem app_step_r {ops : Array Oper} {o : Oper} {a : Act} {w : World} {K : Act → World → Prop} {Q : Exit → Act → World → Prop} {X : Prop} (s x : Operand) (base : Nat) (v : Value) (xs : List Rw) (hown : Ow 43 w base v xs)
    (ad : Addr) (zs : List Rw) (n c : Nat) (hn : zs.length = n) (hr : Rp w.heap.size w (some ad) zs) (hx : xs.length ≤ 100000) (hz : zs.length ≤ 100000) (hbase : base ≤ w.heap.size)
    (hw : Region.wanted o (yielded ops a.tmps) = true) (ho : o.op = .call { callee := .builtin .append, args := #[s, x], argTypes := #[47, 47] }) (hs : a.eval s = v) (hxe : a.eval x = .slice (some ad) n c)
    (h : ∀ A' n' c' w', Ow 43 w' base (.slice A' n' c') (xs ++ zs) → w.grownBy w' v.ownBlock → K (a.put o.dst (.slice A' n' c')) w') :
    if Region.wanted o (yielded ops a.tmps) = true then Oper.wp Tryz.prog o a w K Q else X := by
  subst hn
  rw [if_pos hw]
  obtain ⟨v', w', hrun, h2, h3⟩ := run_app2g w base 47 43 o.type et_prog v xs hown ad zs c hr hx hz hbase
  obtain ⟨A', c', rfl, -⟩ := h2.reads
  unfold Oper.wp execOp
  simp only [ho, resolve, invoke, builtin, Sem.run_bind, Sem.run_pure, Result.andThen_ok, List.map_toArray, List.map_cons, List.map_nil, hs, hxe, hrun]
  exact h A' _ c' w' h2 h3
theorem one_row5 (w : World) (T : TypeId) (a b : Int) : Rp (w.alloc (.cells #[.int .i64 a, .int .i64 b] T)).heap.size (w.alloc (.cells #[.int .i64 a, .int .i64 b] T)) (some ⟨w.heap.size, 0, none⟩) [⟨a, b⟩] := by
  have h := heap_alloc_new w (.cells #[.int .i64 a, .int .i64 b] T)
  refine .inr ⟨_, 0, rfl, by simp, by simp, fun j hj => ?_⟩
  obtain rfl : j = 0 := by simpa using hj
  exact ⟨bk_cell h 0, bk_cell h 1⟩

/-- What a line may do to the world: it writes the block q, and rows from lo on; what is no cells stays. -/
structure Fr (lo q : Nat) (w w' : World) : Prop where
  os : w'.os = w.os
  tape : w'.tape = w.tape
  output : w'.output = w.output
  size : w.heap.size ≤ w'.heap.size
  keep : ∀ j o, w.heap[j]? = some o → j ≠ q → (j < lo ∨ o.isCells = false) → w'.heap[j]? = some o
theorem Fr.refl (lo q : Nat) (w : World) : Fr lo q w w := ⟨rfl, rfl, rfl, Nat.le_refl _, fun _ _ h _ _ => h⟩
theorem Fr.trans {lo q : Nat} {a b c : World} (h : Fr lo q a b) (k : Fr lo q b c) : Fr lo q a c :=
  ⟨k.os.trans h.os, k.tape.trans h.tape, k.output.trans h.output, Nat.le_trans h.size k.size, fun j o h1 h2 h3 => k.keep j o (h.keep j o h1 h2 h3) h2 h3⟩
theorem Fr.below {lo q : Nat} {w w' : World} (h : Below w.heap.size w w') : Fr lo q w w' :=
  ⟨h.os, h.tape, h.output, h.size, fun j o h1 _ _ => (h.block j (Array.getElem?_eq_some_iff.1 h1).1).trans h1⟩
theorem Fr.grown {lo q : Nat} {w w' : World} {r : Option Nat} (h : w.grownBy w' r) (hr : ∀ k, r = some k → w.heap.size ≤ k ∨ (lo ≤ k ∧ ∀ o, w.heap[k]? = some o → o.isCells = true)) : Fr lo q w w' :=
  ⟨h.os, h.tape, h.output, h.size, fun j o h1 h2 h3 => by
    have hlt := (Array.getElem?_eq_some_iff.1 h1).1
    refine (h.block j hlt (fun e => ?_)).trans h1
    rcases hr j e.symm with h4 | ⟨h4, h5⟩
    · omega
    · rcases h3 with h3 | h3
      · omega
      · rw [h5 o h1] at h3; cases h3⟩
theorem Fr.set {lo q : Nat} (w : World) (i : Nat) (v : Value) : Fr lo q w (w.setCell ⟨q, i, none⟩ v) :=
  ⟨rfl, rfl, rfl, by simp [World.setCell], fun j o h1 h2 _ => (Below.heap_setCell w _ v j (by simpa using h2)).trans h1⟩
theorem Fr.mono {lo lo' q : Nat} {w w' : World} (h : Fr lo' q w w') (hl : lo ≤ lo') : Fr lo q w w' :=
  ⟨h.os, h.tape, h.output, h.size, fun j o h1 h2 h3 => h.keep j o h1 h2 (h3.imp (fun x => by omega) id)⟩

theorem gb_cell {w w' : World} {r : Option Nat} (h : w.grownBy w' r) {b i : Nat} (hb : b < w.heap.size) (hne : some b ≠ r) : w'.cell? ⟨b, i, none⟩ = w.cell? ⟨b, i, none⟩ ∧ w'.frozen? ⟨b, i, none⟩ = w.frozen? ⟨b, i, none⟩ :=
  ⟨World.cell?_of_block (a := ⟨b, i, none⟩) (h.block b hb hne), World.frozen?_of_block (a := ⟨b, i, none⟩) (h.block b hb hne)⟩
theorem PairsAre.at_ {P : Program} {w w' : World} {name : String} {rows : List (List UInt8 × Int)} {g : Nat} (h : PairsAre P w name rows) (hg : P.globalNamed name = some g) (hb : w'.heap[g]? = w.heap[g]?) : PairsAre P w' name rows := by
  obtain ⟨cs, hv, hc⟩ := h
  refine ⟨cs, ?_, hc⟩
  rw [← hv]
  unfold World.var?
  rw [hg]
  simp only [Option.bind_some, hb]
theorem Eps.kept {w w' : World} {r : Option Nat} (h : Eps w) (hb : w.grownBy w' r) (hr : some 4 ≠ r) : Eps w' := PairsAre.at_ h geps (hb.block _ h.lt hr)
/-- A row of one's own stays where blocks of another type alone are written. -/
theorem Ow.kept11 {T : TypeId} {w w' : World} {base : Nat} {v : Value} {L : List Rw} {r : Option Nat} (h : Ow T w base v L) (hb : w.grownBy w' r) (hr : ∀ k, r = some k → ∀ cs fr, w.heap[k]? ≠ some (.cells cs T fr)) : Ow T w' base v L := by
  refine ⟨h.1, ?_⟩
  rcases h.2 with h0 | ⟨g', cap, cur, h1, h2, h3, h4⟩
  · exact .inl h0
  · exact .inr ⟨g', cap, cur, h1, h2, (hb.block g' (bk_lt h3) (fun c => hr g' c.symm _ _ h3)).trans h3, h4⟩
theorem wd_tw {l : List UInt8} : (l.drop (ruK l 0 0) = []) ↔ wdL l = [] := by
  constructor
  · intro h
    have := ru_end h
    rw [List.drop_zero] at this
    exact wdL_gaps this
  · intro h
    exact ru_gaps (by rw [List.drop_zero]; exact wd_none h)
theorem ru_tw (l : List UInt8) : ruK l 0 0 = tw gp l := by unfold ruK; rw [rs_zero, List.drop_zero, Nat.zero_add]

set_option maxRecDepth 100000 in
set_option maxHeartbeats 4000000 in
theorem addrow_gaps (q g : Nat) (s : ByteArray) (w : World) (h : Sk Ts w g (.string s) 0 0) (hs : s.size ≤ 100000) (hw : wdL s.data.toList = []) :
    Calls Tryz.prog 43 #[.pointer (some ⟨q, 0, none⟩), .pointer (some ⟨g, 0, none⟩)] w fun x w' => x = .returned (ev 0) ∧ w.grownBy w' (some g) := by
  have hk : ruK s.data.toList 0 0 ≤ s.size := by have := ruK_le (l := s.data.toList) (k := 0) 0 (Nat.zero_le _); simpa using this
  have H1 := Lib.hid (runw_s g 0 0 s w h (Nat.zero_le _) hs)
  have H2 := Lib.hid (fun w1 h1 => left_s g (ruK s.data.toList 0 0) 0 (.string s) s w1 h1 rfl hk hs)
  rw [rs_zero, wd_tw.2 hw] at H2
  clear h hs hw hk
  generalize ruK s.data.toList 0 0 = K at *
  go_enter Tryz.func43, Tryz.ntmps43
  go_wp2_with (first
    | (go_at_call 63; refine H1.out.mono ?_; rintro x w1 ⟨⟨S, rfl, -⟩, hm⟩; have M1 := Lib.hid hm; clear hm)
    | (go_at_call 64; refine (H2.out _ M1.out.1).mono ?_; rintro x w2 ⟨rfl, nq, rfl⟩))
  go_ret
  exact ⟨rfl, M1.out.2.trans (gb_draw (gb_refl _ _) nq)⟩
theorem left_pos {l : List UInt8} {k : Nat} (h : l.drop k ≠ []) : ((l.drop k).length : Int) ≠ 0 := by
  intro c
  exact h (List.eq_nil_of_length_eq_zero (by omega))
set_option maxRecDepth 100000 in
set_option maxHeartbeats 4000000 in
theorem addrow_bad (q g : Nat) (s : ByteArray) (w : World) (h : Sk Ts w g (.string s) 0 0) (hs : s.size ≤ 100000) (hw : wdL s.data.toList ≠ []) (hE : rwE s.data.toList ≠ 0) :
    Calls Tryz.prog 43 #[.pointer (some ⟨q, 0, none⟩), .pointer (some ⟨g, 0, none⟩)] w fun x w' => x = .returned (ev (rwE s.data.toList)) ∧ w.grownBy w' (some g) := by
  have hk : ruK s.data.toList 0 0 ≤ s.size := by have := ruK_le (l := s.data.toList) (k := 0) 0 (Nat.zero_le _); simpa using this
  have H1 := Lib.hid (runw_s g 0 0 s w h (Nat.zero_le _) hs)
  have H2 := Lib.hid (fun w1 h1 => left_s g (ruK s.data.toList 0 0) 0 (.string s) s w1 h1 rfl hk hs)
  have H3 := Lib.hid (fun w1 h1 => readrow_s g (ruK s.data.toList 0 0) s w1 h1 hk hs)
  have hr := rr_is s.data.toList (ruK s.data.toList 0 0) (ru_tw _)
  have hl := left_pos (fun c => hw (wd_tw.1 c))
  rw [rs_zero] at H2
  clear h hs hw hk
  generalize ruK s.data.toList 0 0 = K at *
  obtain ⟨N, hN⟩ : ∃ N, (s.data.toList.drop K).length = N := ⟨_, rfl⟩
  rw [hN] at H2 hl
  have hz : ((N : Int) == 0) = false := by simpa using hl
  clear hN hl
  rcases hr with ⟨a1, a2⟩ | ⟨a1, a, b, a2, a3, a4, a5, a6, a7⟩
  · rw [a1] at H3
    rw [a2]
    have H3' : Hid (∀ w1, Sk Ts w1 g (.string s) K 0 → Calls Tryz.prog 65 #[.pointer (some ⟨g, 0, none⟩)] w1 fun x w' => x = .returned (.tuple #[.int .i64 (rrA s.data.toList K), .int .i64 (rrB s.data.toList K), .iface 56 (.int .i64 2)]) ∧ w1.grownBy w' (some g)) := H3
    clear H3 a1 a2 hE
    go_enter Tryz.func43, Tryz.ntmps43
    go_wp2_with (first
      | (go_at_call 63; refine H1.out.mono ?_; rintro x w1 ⟨⟨S, rfl, -⟩, hm⟩; have M1 := Lib.hid hm; clear hm)
      | (go_at_call 64; refine (H2.out _ M1.out.1).mono ?_; rintro x w2 ⟨rfl, nq, rfl⟩)
      | (go_at_call 65; refine (H3'.out _ (M1.out.1.drewN nq)).mono ?_; rintro x w3 ⟨rfl, hm⟩; have M3 := Lib.hid hm; clear hm))
    go_ret
    exact ⟨rfl, (M1.out.2.trans (gb_draw (gb_refl _ _) nq)).trans M3.out⟩
  · rw [a1, a2, a3] at H3
    have hm : a % 86400 ≠ 0 := by
      intro c
      rw [a6, if_neg (by omega)] at hE
      exact hE rfl
    rw [a6, if_pos hm]
    have H3' : Hid (∀ w1, Sk Ts w1 g (.string s) K 0 → Calls Tryz.prog 65 #[.pointer (some ⟨g, 0, none⟩)] w1 fun x w' => x = .returned (.tuple #[.int .i64 (a : Int), .int .i64 (b : Int), .nilIface]) ∧ w1.grownBy w' (some g)) := H3
    have t1 : (((a : Int) % 86400) != 0) = true := by simp; omega
    have t0 : (0 : Int) ≤ (a : Int) := by omega
    have t2 : ((a : Int).tmod 86400 != 0) = true := by rw [Int.tmod_eq_emod_of_nonneg t0]; exact t1
    clear H3 a1 a2 a3 a6 a7 hE hm
    go_enter Tryz.func43, Tryz.ntmps43
    go_wp2_with (first
      | (go_at_call 63; refine H1.out.mono ?_; rintro x w1 ⟨⟨S, rfl, -⟩, hm⟩; have M1 := Lib.hid hm; clear hm)
      | (go_at_call 64; refine (H2.out _ M1.out.1).mono ?_; rintro x w2 ⟨rfl, nq, rfl⟩)
      | (go_at_call 65; refine (H3'.out _ (M1.out.1.drewN nq)).mono ?_; rintro x w3 ⟨rfl, hm⟩; have M3 := Lib.hid hm; clear hm))
    go_ret
    exact ⟨rfl, (M1.out.2.trans (gb_draw (gb_refl _ _) nq)).trans M3.out⟩

/-- The world behind a right row: the scanner has moved, the row is appended, the list's cell is written. -/
def RowP (lo q g : Nat) (v : Value) (L : List Rw) (w w' : World) : Prop := ∃ W W2 A' n' c', w.grownBy W (some g) ∧ W.grownBy W2 v.ownBlock ∧ Ow 43 W2 lo (.slice A' n' c') L ∧ w' = W2.setCell ⟨q, 2, none⟩ (.slice A' n' c')
set_option maxRecDepth 100000 in
set_option maxHeartbeats 8000000 in
theorem addrow_good (lo q g : Nat) (A : Option Addr) (n c : Nat) (L : List Rw) (s : ByteArray) (w : World) (he : Eps w) (h : Sk Ts w g (.string s) 0 0) (hs : s.size ≤ 100000) (hw : wdL s.data.toList ≠ []) (hE : rwE s.data.toList = 0)
    (hc : w.cell? ⟨q, 2, none⟩ = some (.slice A n c)) (hf : w.frozen? ⟨q, 2, none⟩ = false) (hO : Ow 43 w lo (.slice A n c) L) (hL : L.length ≤ 90000) (hq : q < lo) (hlo : lo ≤ g) (hge : 4 ≠ g) :
    Calls Tryz.prog 43 #[.pointer (some ⟨q, 0, none⟩), .pointer (some ⟨g, 0, none⟩)] w fun x w' => x = .returned (ev 0) ∧ RowP lo q g (.slice A n c) (L ++ [⟨(rwA s.data.toList : Nat) / 86400 + -25567, (rwO11 s.data.toList : Nat)⟩]) w w' := by
  have hk : ruK s.data.toList 0 0 ≤ s.size := by have := ruK_le (l := s.data.toList) (k := 0) 0 (Nat.zero_le _); simpa using this
  have hqg : q ≠ g := by omega
  have H1 := Lib.hid (runw_s g 0 0 s w h (Nat.zero_le _) hs)
  have H2 := Lib.hid (fun w1 h1 => left_s g (ruK s.data.toList 0 0) 0 (.string s) s w1 h1 rfl hk hs)
  have H3 := Lib.hid (fun w1 h1 => readrow_s g (ruK s.data.toList 0 0) s w1 h1 hk hs)
  have hr := rr_is s.data.toList (ruK s.data.toList 0 0) (ru_tw _)
  have hl := left_pos (fun c => hw (wd_tw.1 c))
  have hglt := h.lt
  have hql : q < w.heap.size := World.block_lt_of_cell? _ _ hc
  have heg := he.lt
  rw [rs_zero] at H2
  -- what stays in a world in which the scanner alone has moved
  have HK : Hid (∀ W, w.grownBy W (some g) → W.cell? ⟨q, 2, none⟩ = some (.slice A n c) ∧ W.frozen? ⟨q, 2, none⟩ = false ∧ Ow 43 W lo (.slice A n c) L ∧ Eps W) := Lib.hid (fun W hW => by
    obtain ⟨k1, k2⟩ := gb_cell hW (i := 2) hql (by intro e; injection e with e; exact hqg e)
    refine ⟨k1.trans hc, k2.trans hf, hO.kept11 hW (fun k e cs fr hk9 => ?_), he.kept hW (by intro e; injection e with e; exact hge e)⟩
    injection e with e
    subst e
    have h9 : w.heap[g]? = some (.cells #[.string s, .int .i64 ((0 : Nat) : Int), ev 0] Ts (0, 0)) := h
    rw [h9] at hk9
    injection hk9 with hk9
    injection hk9 with _ hk9 _
    exact absurd hk9 (by decide))
  have hOb := hO.block
  clear h hs hw hk hc hf hO he
  generalize ruK s.data.toList 0 0 = K at *
  obtain ⟨N, hN⟩ : ∃ N, (s.data.toList.drop K).length = N := ⟨_, rfl⟩
  rw [hN] at H2 hl
  have hz : ((N : Int) == 0) = false := by simpa using hl
  clear hN hl
  rcases hr with ⟨a1, a2⟩ | ⟨a1, a, b, a2, a3, a4, a5, a6, a7⟩
  · rw [a2] at hE; cases hE
  have hm : a % 86400 = 0 := by
    by_cases c : a % 86400 = 0
    · exact c
    · rw [a6, if_pos c] at hE; cases hE
  obtain ⟨a8, a9⟩ := a7 hm
  rw [a1, a2, a3] at H3
  rw [a8, a9]
  have H3' : Hid (∀ w1, Sk Ts w1 g (.string s) K 0 → Calls Tryz.prog 65 #[.pointer (some ⟨g, 0, none⟩)] w1 fun x w' => x = .returned (.tuple #[.int .i64 (a : Int), .int .i64 (b : Int), .nilIface]) ∧ w1.grownBy w' (some g)) := H3
  have t1 : (((a : Int) % 86400) != 0) = false := by simp; omega
  have t0 : (0 : Int) ≤ (a : Int) := by omega
  have t2 : ((a : Int).tmod 86400 != 0) = false := by rw [Int.tmod_eq_emod_of_nonneg t0]; exact t1
  obtain ⟨z, hzz⟩ : ∃ z : Nat, z = a / 86400 := ⟨_, rfl⟩
  have j2 : ((a : Nat) : Int) / 86400 = (z : Int) := by omega
  have j1 : ((a : Nat) : Int).tdiv 86400 = (z : Int) := by rw [Int.tdiv_eq_ediv_of_nonneg (by omega)]; exact j2
  have z1 : (z : Int) ≤ 10000000000000 := by omega
  have j0 : IntKind.i64.wrap (z : Int) = (z : Int) := IntWalk.i64_in _ (by omega)
  obtain ⟨dd, hdd⟩ : ∃ dd : Int, dd = (z : Int) + -25567 := ⟨_, rfl⟩
  have j3 : IntKind.i64.wrap dd = dd := IntWalk.i64_in _ (by omega)
  have j4 : (z : Int) - 25567 = dd := by omega
  rw [j2, ← hdd]
  have HQ := Lib.hid (And.intro hq hlo); have HOB := Lib.hid hOb; have HL := Lib.hid hL; have HG := Lib.hid hqg; have HGL := Lib.hid hglt
  clear H3 a1 a2 a3 a6 a7 a8 a9 hE hm hq hlo hL hqg hglt hzz hdd a4 a5 heg hql hOb
  go_enter Tryz.func43, Tryz.ntmps43
  go_upto_region 9 with (first
      | (go_at_call 63; refine H1.out.mono ?_; rintro x w1 ⟨⟨S, rfl, -⟩, hm⟩; have M1 := Lib.hid hm; clear hm)
      | (go_at_call 64; refine (H2.out _ M1.out.1).mono ?_; rintro x w2 ⟨rfl, nq, rfl⟩)
      | (go_at_call 65; refine (H3'.out _ (M1.out.1.drewN nq)).mono ?_; rintro x w3 ⟨rfl, hm⟩; have M3 := Lib.hid ((M1.out.2.trans (gb_draw (gb_refl _ _) nq)).trans hm); clear hm))
  obtain ⟨c2, f2, O2, E2⟩ := HK.out _ M3.out
  have C3 : Hid (w3.drew.cell? ⟨q, 2, none⟩ = some (.slice A n c)) := Lib.hid c2
  have HEP := Lib.hid (lepoch_any w3.drew (E2.below (Below.refl _ w3).drew))
  have O3 := Lib.hid (O2.below (Below.refl _ w3).drew (Nat.le_refl _))
  have QL := Lib.hid (World.block_lt_of_cell? _ _ c2)
  have c3 := C3.out
  clear E2 O2
  go_region_law (first
      | (go_simp; go_at_call 66; refine HEP.out.mono ?_; rintro x w5 ⟨rfl, hb⟩; have B5 := Lib.hid (((Below.refl _ w3).drew).trans hb); have C5 : w5.cell? ⟨q, 2, none⟩ = some (.slice A n c) := ((hb.cell (p := ⟨q, 2, none⟩) QL.out).trans C3.out); have F5 : w5.frozen? ⟨q, 2, none⟩ = false := ((hb.frozen (p := ⟨q, 2, none⟩) QL.out).trans f2); have O6 := Lib.hid ((O3.out.below hb (Nat.le_refl _)).below ((Below.refl w5.heap.size w5).alloc (Nat.le_refl _) (.cells #[.int .i64 dd, .int .i64 (b : Int)] 43)) (Nat.le_refl _)); have Q5 : Hid (q < w5.heap.size) := Lib.hid (Nat.lt_of_lt_of_le QL.out hb.size); have C6 : (w5.alloc (.cells #[.int .i64 dd, .int .i64 (b : Int)] 43)).cell? ⟨q, 2, none⟩ = some (.slice A n c) := (((Below.refl w5.heap.size w5).alloc (Nat.le_refl _) _).cell (p := ⟨q, 2, none⟩) Q5.out).trans C5; have F6 : (w5.alloc (.cells #[.int .i64 dd, .int .i64 (b : Int)] 43)).frozen? ⟨q, 2, none⟩ = false := (((Below.refl w5.heap.size w5).alloc (Nat.le_refl _) _).frozen (p := ⟨q, 2, none⟩) Q5.out).trans F5; have B6 : Hid (Below w3.heap.size w3 (w5.alloc (.cells #[.int .i64 dd, .int .i64 (b : Int)] 43))) := Lib.hid (B5.out.alloc B5.out.size _); clear hb; go_simp)
      | (refine app_step_r (.tmp 30) (.tmp 37) lo _ L O6.out ⟨w5.heap.size, 0, none⟩ [(⟨dd, (b : Int)⟩ : Rw)] 1 1 rfl (one_row5 _ _ _ _) (by have := HL.out; omega) (by simp) (Nat.le_trans HQ.out.2 (Nat.le_trans (Nat.le_of_lt HGL.out) (Nat.le_trans M3.out.size B6.out.size))) (by rfl) (by rfl) (by rfl) (by rfl) ?_; intro A' n' c' w7 hO7 hg7; have O7 := Lib.hid hO7; have G7 := Lib.hid hg7; obtain ⟨k7, k8⟩ := gb_cell hg7 (i := 2) (World.block_lt_of_cell? _ _ C6) (fun e => by have := HOB.out q e.symm; have := HQ.out.1; omega); have C7 : w7.cell? ⟨q, 2, none⟩ = some (.slice A n c) := k7.trans C6; have F7 : w7.frozen? ⟨q, 2, none⟩ = false := k8.trans F6; clear hO7 hg7 k7 k8))
  all_goals
    go_wp2_with fail
    go_ret
    exact ⟨rfl, _, w7, A', n', c', gb_below M3.out B6.out, G7.out, O7.out, rfl⟩

end Go.Proofs.YtdonicaiimeleaaGreatDoor

namespace Go.Proofs.YtdonicaiimeleaaGreatDoor
open Go.RowKit Go.WideShapes Go.ChangeShapes
set_option linter.unusedVariables false
set_option linter.unusedSimpArgs false

/-- No block that may be written is of the type T. -/
def Ty (w : World) (r : Option Nat) (T : TypeId) : Prop := ∀ k, r = some k → ∀ cs fr, w.heap[k]? ≠ some (.cells cs T fr)
theorem ty_of {w : World} {g : Nat} {cs : Array Value} {T T0 : TypeId} {fr : Nat × Nat} (h : w.heap[g]? = some (.cells cs T0 fr)) (hne : T0 ≠ T) : Ty w (some g) T := by
  intro k e cs' fr' hk
  injection e with e
  subst e
  rw [h] at hk
  injection hk with hk
  injection hk with _ hk _
  exact hne hk
theorem ty_own {w : World} {base : Nat} {v : Value} {L : List Rw} {T T0 : TypeId} (h : Ow T0 w base v L) (hne : T0 ≠ T) : Ty w v.ownBlock T := by
  rcases h.2 with ⟨hv, _⟩ | ⟨g', cap, cur, h1, _, h3, _⟩
  · rw [hv]; intro k e; cases e
  · rw [h1]
    intro k e
    have e' : some g' = some k := e
    exact ty_of h3 hne k e'
theorem Bi.kept {w w' : World} {b : Nat} {n : Int} {r : Option Nat} (h : Bi w b n) (hb : w.grownBy w' r) (ht : Ty w r 2) : Bi w' b n := (hb.block b (bk_lt h) (fun c => ht b c.symm _ _ h)).trans h
theorem Bt.kept12 {w w' : World} {b : Nat} {D : List UInt8} {r : Option Nat} (h : Bt 74 w b D) (hb : w.grownBy w' r) (ht : Ty w r 74) : Bt 74 w' b D := (hb.block b (bk_lt h) (fun c => ht b c.symm _ _ h)).trans h
/-- A time, if it was there: behind a pointer. -/
def Pz (lo : Nat) (w : World) (p : Option Addr) (m v : Int) : Prop := (m = 0 ∧ p = none) ∨ (0 < m ∧ ∃ b, p = some ⟨b, 0, none⟩ ∧ lo ≤ b ∧ Bi w b v)
theorem Pz.kept {lo : Nat} {w w' : World} {p : Option Addr} {m v : Int} {r : Option Nat} (h : Pz lo w p m v) (hb : w.grownBy w' r) (ht : Ty w r 2) : Pz lo w' p m v := by
  rcases h with h | ⟨h1, b, h2, h3, h4⟩
  · exact .inl h
  · exact .inr ⟨h1, b, h2, h3, h4.kept hb ht⟩
theorem Pz.no {lo : Nat} {w : World} {p : Option Addr} {m v : Int} (h : Pz lo w p m v) (hm : m = 0) : p = none := by
  rcases h with h | ⟨h1, _⟩
  · exact h.2
  · omega
theorem Pz.yes {lo : Nat} {w : World} {p : Option Addr} {m v : Int} (h : Pz lo w p m v) (hm : m ≠ 0) : p ≠ none := by
  rcases h with h | ⟨h1, b, h2, _⟩
  · exact absurd h.1 hm
  · rw [h2]; exact fun c => by cases c
def Pd (lo : Nat) (w : World) (p : Option Addr) (s : Int) (D : List UInt8) : Prop := (s = 0 ∧ p = none) ∨ (0 < s ∧ ∃ b, p = some ⟨b, 0, none⟩ ∧ lo ≤ b ∧ Bt 74 w b D)
theorem Pd.kept {lo : Nat} {w w' : World} {p : Option Addr} {s : Int} {D : List UInt8} {r : Option Nat} (h : Pd lo w p s D) (hb : w.grownBy w' r) (ht : Ty w r 74) : Pd lo w' p s D := by
  rcases h with h | ⟨h1, b, h2, h3, h4⟩
  · exact .inl h
  · exact .inr ⟨h1, b, h2, h3, h4.kept12 hb ht⟩
theorem Pd.no {lo : Nat} {w : World} {p : Option Addr} {s : Int} {D : List UInt8} (h : Pd lo w p s D) (hm : s = 0) : p = none := by
  rcases h with h | ⟨h1, _⟩
  · exact h.2
  · omega
theorem Pd.yes {lo : Nat} {w : World} {p : Option Addr} {s : Int} {D : List UInt8} (h : Pd lo w p s D) (hm : s ≠ 0) : p ≠ none := by
  rcases h with h | ⟨h1, b, h2, _⟩
  · exact absurd h.1 hm
  · rw [h2]; exact fun c => by cases c
/-- A digest's words, if it was there. -/
def X5 (r : Rd11) (S : St) : Prop := 0 < r.s → r.x0 = (S.a.toNat : Int) ∧ r.x1 = (S.b.toNat : Int) ∧ r.x2 = (S.c.toNat : Int) ∧ r.x3 = (S.d.toNat : Int) ∧ r.x4 = (S.e.toNat : Int)
/-- The list's block. -/
def L4 (w : World) (q : Nat) (pu pe : Option Addr) (v : Value) (pd : Option Addr) : Prop := w.heap[q]? = some (.cells #[.pointer pu, .pointer pe, v, .pointer pd] 50 (0, 0))
/-- The block q holds what has been read. -/
def Ls (lo : Nat) (w : World) (q : Nat) (r : Rd11) : Prop := ∃ pu pe pd A c S, L4 w q pu pe (.slice A r.L.length c) pd ∧ Pz lo w pu r.m r.u ∧ Pz lo w pe r.h r.e ∧ Ow 43 w lo (.slice A r.L.length c) r.L ∧ Pd lo w pd r.s (byt S) ∧ X5 r S
theorem Ls.kept {lo q : Nat} {w w' : World} {r : Rd11} {row : Option Nat} (h : Ls lo w q r) (hb : w.grownBy w' row) (t1 : Ty w row 2) (t2 : Ty w row 74) (t3 : Ty w row 43) (t4 : Ty w row 50) : Ls lo w' q r := by
  obtain ⟨pu, pe, pd, A, c, S, h1, h2, h3, h4, h5, h6⟩ := h
  exact ⟨pu, pe, pd, A, c, S, (hb.block q (bk_lt h1) (fun e => t4 q e.symm _ _ h1)).trans h1, h2.kept hb t1, h3.kept hb t1, h4.kept11 hb t3, h5.kept hb t2, h6⟩
theorem ty_none (w : World) (T : TypeId) : Ty w none T := fun k e => by cases e
theorem gb_of_below {w w' : World} (h : Below w.heap.size w w') : w.grownBy w' none := ⟨h.os, h.tape, h.output, h.size, fun k hk _ => h.block k hk⟩
theorem Ls.below {lo q : Nat} {w w' : World} {r : Rd11} (h : Ls lo w q r) (hb : Below w.heap.size w w') : Ls lo w' q r :=
  h.kept (gb_of_below hb) (ty_none _ _) (ty_none _ _) (ty_none _ _) (ty_none _ _)
/-- The scanner moves: the list stays. -/
theorem Ls.moved {lo q g k : Nat} {w w' : World} {r : Rd11} {v : Value} {e : Int} (h : Ls lo w q r) (hk : Sk Ts w g v k e) (hb : w.grownBy w' (some g)) : Ls lo w' q r :=
  h.kept hb (ty_of hk (by decide)) (ty_of hk (by decide)) (ty_of hk (by decide)) (ty_of hk (by decide))
theorem Ls.setU {lo q b : Nat} {w : World} {r : Rd11} (h : Ls lo w q r) {n : Int} (hb : Bi w b n) (hlo : lo ≤ b) (hm : 0 ≤ r.m) : Ls lo (w.setCell ⟨q, 0, none⟩ (.pointer (some ⟨b, 0, none⟩))) q { r with u := n, m := r.m + 1 } := by
  obtain ⟨pu, pe, pd, A, c, S, h1, h2, h3, h4, h5, h6⟩ := h
  have gb := gb_set (g := q) (gb_refl w (some q)) 0 (.pointer (some ⟨b, 0, none⟩))
  exact ⟨some ⟨b, 0, none⟩, pe, pd, A, c, S, bk_set h1 0 _, .inr ⟨by dsimp; omega, b, rfl, hlo, hb.kept gb (ty_of h1 (by decide))⟩, h3.kept gb (ty_of h1 (by decide)), h4.kept11 gb (ty_of h1 (by decide)), h5.kept gb (ty_of h1 (by decide)), h6⟩
theorem Ls.setE {lo q b : Nat} {w : World} {r : Rd11} (h : Ls lo w q r) {n : Int} (hb : Bi w b n) (hlo : lo ≤ b) (hm : 0 ≤ r.h) : Ls lo (w.setCell ⟨q, 1, none⟩ (.pointer (some ⟨b, 0, none⟩))) q { r with e := n, h := r.h + 1 } := by
  obtain ⟨pu, pe, pd, A, c, S, h1, h2, h3, h4, h5, h6⟩ := h
  have gb := gb_set (g := q) (gb_refl w (some q)) 1 (.pointer (some ⟨b, 0, none⟩))
  exact ⟨pu, some ⟨b, 0, none⟩, pd, A, c, S, bk_set h1 1 _, h2.kept gb (ty_of h1 (by decide)), .inr ⟨by dsimp; omega, b, rfl, hlo, hb.kept gb (ty_of h1 (by decide))⟩, h4.kept11 gb (ty_of h1 (by decide)), h5.kept gb (ty_of h1 (by decide)), h6⟩
theorem Ls.setD {lo q b : Nat} {w : World} {r : Rd11} (h : Ls lo w q r) {S : St} (hb : Bt 74 w b (byt S)) (hlo : lo ≤ b) : Ls lo (w.setCell ⟨q, 3, none⟩ (.pointer (some ⟨b, 0, none⟩))) q { r with s := 1, x0 := (S.a.toNat : Int), x1 := (S.b.toNat : Int), x2 := (S.c.toNat : Int), x3 := (S.d.toNat : Int), x4 := (S.e.toNat : Int) } := by
  obtain ⟨pu, pe, pd, A, c, S', h1, h2, h3, h4, h5, h6⟩ := h
  have gb := gb_set (g := q) (gb_refl w (some q)) 3 (.pointer (some ⟨b, 0, none⟩))
  exact ⟨pu, pe, some ⟨b, 0, none⟩, A, c, S, bk_set h1 3 _, h2.kept gb (ty_of h1 (by decide)), h3.kept gb (ty_of h1 (by decide)), h4.kept11 gb (ty_of h1 (by decide)), .inr ⟨(show (0 : Int) < 1 by decide), b, rfl, hlo, hb.kept12 gb (ty_of h1 (by decide))⟩, fun _ => ⟨rfl, rfl, rfl, rfl, rfl⟩⟩

/-- Take, of a byte that is next, or isn't. -/
theorem tkb_yes {g k : Nat} {s : ByteArray} {b : UInt8} {z : Int} {w : World} (hz : z = (b.toNat : Int)) (h : Sk Ts w g (.string s) k 0) (hk : k ≤ s.size) (hs : s.size ≤ 100000) (hb : (s.data.toList.drop k).head? = some b) :
    Calls Tryz.prog 42 #[.pointer (some ⟨g, 0, none⟩), .int .u8 z] w fun x w' => x = .returned (.bool true) ∧ Mv Ts g (.string s) (k + 1) 0 w w' := by
  subst hz
  have := takes_s g k 0 (.string s) s b w h rfl hk hs
  rw [rs_zero, hb, if_pos rfl, show (some b == some b) = true by simp] at this
  exact this
theorem tkb_no {g k : Nat} {s : ByteArray} {b : UInt8} {z : Int} {w : World} (hz : z = (b.toNat : Int)) (h : Sk Ts w g (.string s) k 0) (hk : k ≤ s.size) (hs : s.size ≤ 100000) (hb : (s.data.toList.drop k).head? ≠ some b) :
    Calls Tryz.prog 42 #[.pointer (some ⟨g, 0, none⟩), .int .u8 z] w fun x w' => x = .returned (.bool false) ∧ Mv Ts g (.string s) k 0 w w' := by
  subst hz
  have := takes_s g k 0 (.string s) s b w h rfl hk hs
  rw [rs_zero, if_neg hb, show ((s.data.toList.drop k).head? == some b) = false from beq_eq_false_iff_ne.2 hb] at this
  exact this
theorem take2_of {l : List UInt8} {a b : UInt8} (h0 : l.head? = some a) (h1 : (l.drop 1).head? = some b) : l.take 2 = [a, b] := by
  match l, h0, h1 with
  | x :: y :: r, h0, h1 => simp at h0 h1; simp [h0, h1]
theorem take2_no {l : List UInt8} {a b : UInt8} (h1 : (l.drop 1).head? ≠ some b) : l.take 2 ≠ [a, b] := by
  intro h
  match l, h, h1 with
  | x :: y :: r, h, h1 => simp at h h1; exact h1 h.2
  | [x], h, _ => simp at h
  | [], h, _ => simp at h
theorem take2_no0 {l : List UInt8} {a b : UInt8} (h1 : l.head? ≠ some a) : l.take 2 ≠ [a, b] := by
  intro h
  match l, h, h1 with
  | x :: y :: r, h, h1 => simp at h h1; exact h1 h.1
  | [x], h, _ => simp at h
  | [], h, _ => simp at h
theorem sharp_wd {l : List UInt8} (h : l.head? = some 35) : wdL l ≠ [] := by
  intro c
  have := wd_none c
  match l, h with
  | x :: r, h =>
    injection h with h
    subst h
    exact absurd (this 35 (by simp)) (by decide)

end Go.Proofs.YtdonicaiimeleaaGreatDoor
