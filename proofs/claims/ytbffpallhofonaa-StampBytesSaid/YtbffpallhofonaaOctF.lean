/- Put: bytes, and words behind them. (Written by gen4.py.) -/
import Derived.Test.YtbffpallhofonaaOctE
import Derived.Test.YtbffpallhofonaaOctC
import Derived.RangeFuncNested
import Derived.RangeFuncBound
import Derived.RangeFuncCalls
import Derived.RangeFuncLeaves
import Derived.Shelf.Abstract
import Derived.Shelf.RegionOpen
import Derived.WalkKit
import Derived.OwnWalkIn
import Derived.TacticsInMore
import Derived.LoopNIn
import Derived.LoopIn
namespace Go.Proofs.Ytbffpallhofonaa
open Go.RowKit Go.Shelf Go.WideShapes Go.ChangeShapes
attribute [local go_sem] Oper.semAt_some
set_option linter.unusedVariables false

/-- A row with parts of a size laid anew, each at its place. -/
def lay (L : List UInt8) (off S : Nat) (f : Nat → List UInt8) (is : List Nat) : List UInt8 := is.foldl (fun L i => splice L (off + i * S) (f i)) L
theorem lay_snoc (L : List UInt8) (off S : Nat) (f : Nat → List UInt8) (is : List Nat) (i : Nat) : lay L off S f (is ++ [i]) = splice (lay L off S f is) (off + i * S) (f i) := by simp [lay]
theorem lay_len {S off m : Nat} {f : Nat → List UInt8} (hf : ∀ i, (f i).length = S) (is : List Nat) : ∀ (L : List UInt8), off + m * S ≤ L.length → (∀ i ∈ is, i < m) → (lay L off S f is).length = L.length := by
  induction is with
  | nil => intro L _ _; rfl
  | cons i is ih =>
    intro L hL hi
    have h1 : (i + 1) * S ≤ m * S := Nat.mul_le_mul_right S (hi i (by simp))
    have h2 : (i + 1) * S = i * S + S := Nat.succ_mul i S
    have e : (splice L (off + i * S) (f i)).length = L.length := splice_len (by rw [hf]; omega)
    show (lay (splice L (off + i * S) (f i)) off S f is).length = _
    rw [ih _ (by rw [e]; exact hL) (fun j hj => hi j (by simp [hj])), e]
theorem lay_range {S off : Nat} {f : Nat → List UInt8} (hf : ∀ i, (f i).length = S) (L : List UInt8) (m : Nat) (h : off + m * S ≤ L.length) : lay L off S f (List.range m) = splice L off ((List.range m).flatMap f) ∧ ((List.range m).flatMap f).length = m * S := by
  induction m with
  | zero => exact ⟨by simp [lay, splice_nil], by simp⟩
  | succ m ih =>
    have h2 : (m + 1) * S = m * S + S := Nat.succ_mul m S
    obtain ⟨i1, i2⟩ := ih (by omega)
    rw [List.range_succ, lay_snoc, i1, List.flatMap_append, ← i2]
    have := splice_two (L := L) (off := off) (a := (List.range m).flatMap f) (b := f m) (by rw [i2, hf]; omega)
    rw [this]
    exact ⟨by simp, by rw [List.length_append, i2, List.flatMap_cons, List.flatMap_nil, List.append_nil, hf, h2]⟩
theorem flat_get {f : Int → List UInt8} (zs : List Int) : (List.range zs.length).flatMap (fun i => f (zs.getD i 0)) = zs.flatMap f := by
  have e : (List.range zs.length).map (fun i => zs.getD i 0) = zs := by
    refine List.ext_getElem (by simp) fun i h1 h2 => ?_
    simp [List.getElem?_eq_getElem h2]
  conv => rhs; rw [← e, List.flatMap_map]
/-- The bytes of words, each of so many. -/
def wb (S : Nat) (zs : List Int) : List UInt8 := zs.flatMap fun z => be S z.toNat
theorem wb_len (S : Nat) (zs : List Int) : (wb S zs).length = zs.length * S := by
  induction zs with
  | nil => simp [wb]
  | cons z zs ih =>
    show ((be S z.toNat) ++ wb S zs).length = _
    rw [List.length_append, be_len, ih, List.length_cons, Nat.succ_mul]; omega
theorem lay_words {S off : Nat} (L : List UInt8) (zs : List Int) (h : off + zs.length * S ≤ L.length) : lay L off S (fun i => be S (zs.getD i 0).toNat) (List.range zs.length) = splice L off (wb S zs) := by
  rw [(lay_range (fun i => be_len _ _) L zs.length h).1]
  unfold wb
  rw [← flat_get]
theorem bk_row {A B : World} {g : Nat} {L : List UInt8} {row : Option Nat} (h : Bk A g L) (hg : A.grownBy B row) (hr : ∀ r, row = some r → ∃ o : Obj, A.heap[r]? = some o ∧ o.isCells = false) : Bk B g L := by
  refine h.kept hg fun e => ?_
  obtain ⟨o, h1, h2⟩ := hr g e.symm
  have h3 : A.heap[g]? = some _ := h
  rw [h3] at h1
  cases h1; cases h2
theorem keeps_bk {W W' : World} {g : Nat} {L : List UInt8} (h : Bk W g L) (hg : W.grownBy W' (some g)) : KeepsOthers W W' := by
  refine KeepsOthers.of_grownBy hg fun j o e ho => ?_
  cases e
  have h3 : W.heap[g]? = some _ := h
  rw [h3] at ho
  cases ho; rfl
theorem box_row {A B : World} {b : Nat} {t : TypeId} {v : Value} {row : Option Nat} (h : Boxed A b t v) (hg : A.grownBy B row) (hr : ∀ r, row = some r → ∃ o : Obj, A.heap[r]? = some o ∧ o.isCells = false) : Boxed B b t v := by
  refine h.kept hg fun e => ?_
  obtain ⟨o, h1, h2⟩ := hr b e.symm
  have h3 : A.heap[b]? = some _ := h
  rw [h3] at h1
  cases h1; cases h2
theorem box_below {w w' : World} {b B : Nat} {t : TypeId} {v : Value} (h : Boxed w b t v) (hb : Below B w w') (hB : b < B) : Boxed w' b t v := (hb.block b hB).trans h
/-- What lies behind the first bytes of a block. -/
theorem slice_end (g n k : Nat) (hk : n + k ≤ 1000000) : ∃ A2 : Option Addr, (0 < k → A2 = some ⟨g, n, none⟩) ∧
    ∀ w', (Instr.slice 56 (.slice (some ⟨g, 0, none⟩) (n + k) (n + k)) (some (.int .i64 (n : Int))) none none).run Try.prog w' = .ok (.slice A2 k k) w' := by
  refine ⟨if n + k = n then some ⟨g, 0, none⟩ else some ⟨g, n, none⟩, fun h => if_neg (by omega), fun w' => ?_⟩
  rw [run_slice_l w' 56 (some ⟨g, 0, none⟩) (n + k) (n + k) bslice .i64 n (by omega) (by omega), bsize]
  by_cases h : k = 0
  · subst h; simp [Result.andThen, sliced]
  · simp [Result.andThen, sliced, h, Addr.add]
    intro h1; omega
set_option maxRecDepth 100000 in
set_option maxHeartbeats 2000000 in
theorem put16_any (A Aw : Option Addr) (l : List UInt8) (zs : List Int) (c cw : Nat) (w : World) (h : Rb w A l) (hA : A = none → c = 0) (hw : Rz .u16 w Aw zs) (hl : l.length ≤ 100000) (hz : zs.length ≤ 100000) :
    Calls Try.prog 51 #[.slice A l.length c, .slice Aw zs.length cw] w fun e w' =>
      ∃ g, w.heap.size ≤ g ∧ e = .returned (.slice (some ⟨g, 0, none⟩) (l ++ wb 2 zs).length (l ++ wb 2 zs).length) ∧ Bk w' g (l ++ wb 2 zs) ∧ Below w.heap.size w w' := by
  have hlen : (l ++ List.replicate (2 * zs.length) (0 : UInt8)).length = l.length + (2 * zs.length) := by simp
  have hlenR : (l ++ wb 2 zs).length = l.length + (2 * zs.length) := by rw [List.length_append, wb_len]; omega
  have hspl : lay (l ++ List.replicate (2 * zs.length) (0 : UInt8)) l.length 2 (fun i => be 2 (zs.getD i 0).toNat) (List.range zs.length) = l ++ wb 2 zs := by
    rw [lay_words _ _ (by rw [hlen]; omega)]
    exact splice_end (by rw [wb_len, List.length_replicate]; omega)
  have hb0 : Below w.heap.size w (w.alloc (.cells #[.slice Aw zs.length cw] 108)) := (Below.refl _ w).alloc (Nat.le_refl _) _
  have hB0 := Boxed.new w 108 (.slice Aw zs.length cw)
  have hB0c := hB0.cell
  have he := extended_any A l c (2 * zs.length) _ (h.below hb0) (by omega) (by omega)
  rw [show ((2 * zs.length : Nat) : Int) = 2 * (zs.length : Int) by omega, World.size_alloc, hlen] at he
  rw [hlenR]
  obtain ⟨A2, hA2, hsl⟩ := slice_end (w.heap.size + 1) l.length (2 * zs.length) (by omega)
  generalize l ++ List.replicate (2 * zs.length) (0 : UInt8) = L0 at *
  generalize l ++ wb 2 zs = R at *
  generalize hn : l.length = n at *
  have HE := Lib.hid he; have HS := Lib.hid hspl; have HL := Lib.hid hlen; have HW := Lib.hid hw; have H0 := Lib.hid hB0; have HB0 := Lib.hid hb0
  clear he hspl hlen hlenR hw hB0 hb0 h hA hn
  refine (callsIn_wide (n := 3)).1 ?_
  refine callsIn_of_wp_marks Try.func51 rfl trivial ?_ rfl
  simp only [Try.ntmps51, List.size_toArray, List.length_cons, List.length_nil, Nat.reduceAdd, Nat.reduceSub, Array.replicate_succ, Array.replicate_zero, List.push_toArray, List.append_toArray, List.nil_append, List.cons_append]
  gi_wp2_with (first | (refine ⟨trivial, ?_⟩; gi_at_call 67; refine (callsIn_wide.2 (size16_any _)).mono ?_; rintro e w' ⟨rfl, rfl⟩) | (refine ⟨trivial, ?_⟩; gi_at_call 64; refine (callsIn_wide.2 HE.out).mono ?_; rintro e W2 ⟨rfl, hk2, hb2⟩; have HK2 := Lib.hid hk2; have HB2 := Lib.hid hb2; clear hk2 hb2) | (refine ⟨trivial, ?_⟩; gi_at_call 65; refine (callsIn_wide.2 (parts_any A2 (2 * zs.length) (2 * zs.length) 2 _)).mono ?_; rintro e W3 ⟨rfl, rfl⟩))
  have hs2 := HK2.out.lt
  have d1 := (Boxed.new W2 56 (.slice A2 (2 * zs.length) (2 * zs.length))).alloc (.cells #[.int .i64 2] 3)
  have d2 := Boxed.new (W2.alloc (.cells #[.slice A2 (2 * zs.length) (2 * zs.length)] 56)) 3 (.int .i64 2)
  have e3 : Below W2.heap.size W2 ((W2.alloc (.cells #[.slice A2 (2 * zs.length) (2 * zs.length)] 56)).alloc (.cells #[.int .i64 2] 3)) := ((Below.refl _ W2).alloc (Nat.le_refl _) _).alloc (by simp) _
  have hs3 : ((W2.alloc (.cells #[.slice A2 (2 * zs.length) (2 * zs.length)] 56)).alloc (.cells #[.int .i64 2] 3)).heap.size = W2.heap.size + 1 + 1 := by simp
  rw [World.size_alloc] at d2
  generalize (W2.alloc (.cells #[.slice A2 (2 * zs.length) (2 * zs.length)] 56)).alloc (.cells #[.int .i64 2] 3) = W3 at *
  have hb3 : Below w.heap.size w W3 := (HB0.out.trans (HB2.out.mono (by omega))).trans (e3.mono (by omega))
  have hk3 : Bk W3 (w.heap.size + 1) L0 := HK2.out.below e3 hs2
  have hx3 : Boxed W3 w.heap.size 108 (.slice Aw zs.length cw) := box_below (box_below H0.out HB2.out (by omega)) e3 (by omega)
  refine wpIn_rangeFunc_ownF rfl (by omega) (gf := 79) (lb := #[.pointer (some ⟨W2.heap.size, 0, none⟩), .pointer (some ⟨W2.heap.size + 1, 0, none⟩)]) rfl trivial (enters_of Try.func79 (by kernel_rfl) rfl)
    (parts_stops 2 (by omega) 2 (2 * zs.length) zs.length (2 * zs.length) W2.heap.size W2.heap.size (W2.heap.size + 2) A2 (by omega) (by omega) (Nat.le_refl _) (by omega) (Nat.le_refl _) (by omega) W3 (by omega) d1.cell d2.cell)
    band_t (band_b (by omega)) (Below.refl _ _) (fun _ => rfl)
    (fun pre W => (Bk W (w.heap.size + 1) (lay L0 n 2 (fun i => be 2 (zs.getD i 0).toNat) (pre.map (·.1))) ∧ Boxed W w.heap.size 108 (.slice Aw zs.length cw) ∧ W3.heap.size ≤ W.heap.size) ∧ Below w.heap.size w W)
    (fun _ _ _ => False)
    (OwnFrom.and (Own.from (fun s A B row hs hg hr => ⟨bk_row hs.1 hg hr, box_row hs.2.1 hg hr, Nat.le_trans hs.2.2 hg.size⟩) _) (ownFrom_below (Nat.le_refl _) (by omega)))
    (fun _ _ _ _ _ hs _ _ => hs)
    ⟨⟨hk3, hx3, Nat.le_refl _⟩, hb3⟩
    ?a1 ?assign ?body ?done ?stop
  case assign =>
    intro l₁ x W K hK
    simp only [pt]
    gi_wp2
    exact hK
  case body =>
    rintro l₁ pre ⟨i, hi⟩ W ⟨⟨hk, hx, hsz⟩, hB⟩ hlt
    have hA' := hA2 (by omega)
    subst hA'
    obtain ⟨b, off, rfl, _, hc⟩ := (HW.out.below hB).cell hi
    have hwf := HW.out.1 zs[i] (List.getElem_mem hi)
    obtain ⟨v, hv, hvr⟩ : ∃ v : Nat, zs[i] = (v : Int) ∧ v < 65536 := by
      simp [Lit.wf, IntKind.min, IntKind.max, IntKind.signed, IntKind.bits] at hwf
      exact ⟨zs[i].toNat, by omega, by omega⟩
    have hgd : be 2 v = be 2 (zs.getD i 0).toNat := by
      rw [List.getD_eq_getElem?_getD, List.getElem?_eq_getElem hi]; simp [hv]
    rw [hv] at hc
    have hpre : ∀ j ∈ pre.map (·.1), j < zs.length := fun j hj => by
      obtain ⟨y, _, rfl⟩ := List.mem_map.1 hj
      exact y.2
    have hl2 := lay_len (f := fun i => be 2 (zs.getD i 0).toNat) (fun i => be_len _ _) (pre.map (·.1)) L0 (by rw [HL.out]; omega : n + zs.length * 2 ≤ L0.length) hpre
    have hf := fill16_any (w.heap.size + 1) (n + i * 2) ((2 * zs.length) - i * 2) v _ W hk (by rw [hl2, HL.out]; omega) hvr
    rw [hgd, ← lay_snoc] at hf
    try simp only [Nat.mul_one] at hf
    have HF := Lib.hid hf; have HK := Lib.hid hk; have HX := Lib.hid hx; have HB := Lib.hid hB
    have hxc := hx.cell
    clear hf hk hx hB hgd hl2 hpre hv hwf
    simp only [Option.map_some, add_plain]
    gi_wp2_with (refine ⟨trivial, ?_⟩; gi_at_call 68; refine (CallsIn.inRound l₁ (callsIn_wide.2 HF.out)).mono ?_; rintro e W4 ⟨rfl, hk4, hg4⟩)
    refine ⟨keeps_bk HK.out hg4, Band.grown hg4 (by omega) (by omega), ⟨by rw [List.map_append]; exact hk4, HX.out.kept hg4 (by simp), Nat.le_trans hsz hg4.size⟩, HB.out.grown hg4 HB.out.size (fun k e => by cases e; omega)⟩
  case done =>
    rintro D ys W hD hys ⟨⟨hk, hx, hsz⟩, hB⟩ hK
    rw [hys, HS.out] at hk
    gi_wp2
    refine ⟨by simp, .inl ⟨_, _, rfl, run_takeDeferred hK, ?_⟩⟩
    exact ⟨_, results_tmp rfl _ _ _, w.heap.size + 1, by omega, rfl, hk.below (belowK_b (w := W3) (Nat.le_refl _) W D _ _ hD hK rfl rfl) (by omega), hB.trans (belowK_b (w := w) (Nat.le_refl _) W D _ _ (by omega) hK rfl rfl)⟩
  case stop =>
    rintro D c pre W _ _ h _
    exact h.elim
set_option maxRecDepth 100000 in
set_option maxHeartbeats 2000000 in
theorem put32_any (A Aw : Option Addr) (l : List UInt8) (zs : List Int) (c cw : Nat) (w : World) (h : Rb w A l) (hA : A = none → c = 0) (hw : Rz .u32 w Aw zs) (hl : l.length ≤ 100000) (hz : zs.length ≤ 100000) :
    Calls Try.prog 50 #[.slice A l.length c, .slice Aw zs.length cw] w fun e w' =>
      ∃ g, w.heap.size ≤ g ∧ e = .returned (.slice (some ⟨g, 0, none⟩) (l ++ wb 4 zs).length (l ++ wb 4 zs).length) ∧ Bk w' g (l ++ wb 4 zs) ∧ Below w.heap.size w w' := by
  have hlen : (l ++ List.replicate (4 * zs.length) (0 : UInt8)).length = l.length + (4 * zs.length) := by simp
  have hlenR : (l ++ wb 4 zs).length = l.length + (4 * zs.length) := by rw [List.length_append, wb_len]; omega
  have hspl : lay (l ++ List.replicate (4 * zs.length) (0 : UInt8)) l.length 4 (fun i => be 4 (zs.getD i 0).toNat) (List.range zs.length) = l ++ wb 4 zs := by
    rw [lay_words _ _ (by rw [hlen]; omega)]
    exact splice_end (by rw [wb_len, List.length_replicate]; omega)
  have hb0 : Below w.heap.size w (w.alloc (.cells #[.slice Aw zs.length cw] 102)) := (Below.refl _ w).alloc (Nat.le_refl _) _
  have hB0 := Boxed.new w 102 (.slice Aw zs.length cw)
  have hB0c := hB0.cell
  have he := extended_any A l c (4 * zs.length) _ (h.below hb0) (by omega) (by omega)
  rw [show ((4 * zs.length : Nat) : Int) = 4 * (zs.length : Int) by omega, World.size_alloc, hlen] at he
  rw [hlenR]
  obtain ⟨A2, hA2, hsl⟩ := slice_end (w.heap.size + 1) l.length (4 * zs.length) (by omega)
  generalize l ++ List.replicate (4 * zs.length) (0 : UInt8) = L0 at *
  generalize l ++ wb 4 zs = R at *
  generalize hn : l.length = n at *
  have HE := Lib.hid he; have HS := Lib.hid hspl; have HL := Lib.hid hlen; have HW := Lib.hid hw; have H0 := Lib.hid hB0; have HB0 := Lib.hid hb0
  clear he hspl hlen hlenR hw hB0 hb0 h hA hn
  refine (callsIn_wide (n := 3)).1 ?_
  refine callsIn_of_wp_marks Try.func50 rfl trivial ?_ rfl
  simp only [Try.ntmps50, List.size_toArray, List.length_cons, List.length_nil, Nat.reduceAdd, Nat.reduceSub, Array.replicate_succ, Array.replicate_zero, List.push_toArray, List.append_toArray, List.nil_append, List.cons_append]
  gi_wp2_with (first | (refine ⟨trivial, ?_⟩; gi_at_call 58; refine (callsIn_wide.2 (size32_any _)).mono ?_; rintro e w' ⟨rfl, rfl⟩) | (refine ⟨trivial, ?_⟩; gi_at_call 64; refine (callsIn_wide.2 HE.out).mono ?_; rintro e W2 ⟨rfl, hk2, hb2⟩; have HK2 := Lib.hid hk2; have HB2 := Lib.hid hb2; clear hk2 hb2) | (refine ⟨trivial, ?_⟩; gi_at_call 65; refine (callsIn_wide.2 (parts_any A2 (4 * zs.length) (4 * zs.length) 4 _)).mono ?_; rintro e W3 ⟨rfl, rfl⟩))
  have hs2 := HK2.out.lt
  have d1 := (Boxed.new W2 56 (.slice A2 (4 * zs.length) (4 * zs.length))).alloc (.cells #[.int .i64 4] 3)
  have d2 := Boxed.new (W2.alloc (.cells #[.slice A2 (4 * zs.length) (4 * zs.length)] 56)) 3 (.int .i64 4)
  have e3 : Below W2.heap.size W2 ((W2.alloc (.cells #[.slice A2 (4 * zs.length) (4 * zs.length)] 56)).alloc (.cells #[.int .i64 4] 3)) := ((Below.refl _ W2).alloc (Nat.le_refl _) _).alloc (by simp) _
  have hs3 : ((W2.alloc (.cells #[.slice A2 (4 * zs.length) (4 * zs.length)] 56)).alloc (.cells #[.int .i64 4] 3)).heap.size = W2.heap.size + 1 + 1 := by simp
  rw [World.size_alloc] at d2
  generalize (W2.alloc (.cells #[.slice A2 (4 * zs.length) (4 * zs.length)] 56)).alloc (.cells #[.int .i64 4] 3) = W3 at *
  have hb3 : Below w.heap.size w W3 := (HB0.out.trans (HB2.out.mono (by omega))).trans (e3.mono (by omega))
  have hk3 : Bk W3 (w.heap.size + 1) L0 := HK2.out.below e3 hs2
  have hx3 : Boxed W3 w.heap.size 102 (.slice Aw zs.length cw) := box_below (box_below H0.out HB2.out (by omega)) e3 (by omega)
  refine wpIn_rangeFunc_ownF rfl (by omega) (gf := 79) (lb := #[.pointer (some ⟨W2.heap.size, 0, none⟩), .pointer (some ⟨W2.heap.size + 1, 0, none⟩)]) rfl trivial (enters_of Try.func79 (by kernel_rfl) rfl)
    (parts_stops 2 (by omega) 4 (4 * zs.length) zs.length (4 * zs.length) W2.heap.size W2.heap.size (W2.heap.size + 2) A2 (by omega) (by omega) (Nat.le_refl _) (by omega) (Nat.le_refl _) (by omega) W3 (by omega) d1.cell d2.cell)
    band_t (band_b (by omega)) (Below.refl _ _) (fun _ => rfl)
    (fun pre W => (Bk W (w.heap.size + 1) (lay L0 n 4 (fun i => be 4 (zs.getD i 0).toNat) (pre.map (·.1))) ∧ Boxed W w.heap.size 102 (.slice Aw zs.length cw) ∧ W3.heap.size ≤ W.heap.size) ∧ Below w.heap.size w W)
    (fun _ _ _ => False)
    (OwnFrom.and (Own.from (fun s A B row hs hg hr => ⟨bk_row hs.1 hg hr, box_row hs.2.1 hg hr, Nat.le_trans hs.2.2 hg.size⟩) _) (ownFrom_below (Nat.le_refl _) (by omega)))
    (fun _ _ _ _ _ hs _ _ => hs)
    ⟨⟨hk3, hx3, Nat.le_refl _⟩, hb3⟩
    ?a1 ?assign ?body ?done ?stop
  case assign =>
    intro l₁ x W K hK
    simp only [pt]
    gi_wp2
    exact hK
  case body =>
    rintro l₁ pre ⟨i, hi⟩ W ⟨⟨hk, hx, hsz⟩, hB⟩ hlt
    have hA' := hA2 (by omega)
    subst hA'
    obtain ⟨b, off, rfl, _, hc⟩ := (HW.out.below hB).cell hi
    have hwf := HW.out.1 zs[i] (List.getElem_mem hi)
    obtain ⟨v, hv, hvr⟩ : ∃ v : Nat, zs[i] = (v : Int) ∧ v < 4294967296 := by
      simp [Lit.wf, IntKind.min, IntKind.max, IntKind.signed, IntKind.bits] at hwf
      exact ⟨zs[i].toNat, by omega, by omega⟩
    have hgd : be 4 v = be 4 (zs.getD i 0).toNat := by
      rw [List.getD_eq_getElem?_getD, List.getElem?_eq_getElem hi]; simp [hv]
    rw [hv] at hc
    have hpre : ∀ j ∈ pre.map (·.1), j < zs.length := fun j hj => by
      obtain ⟨y, _, rfl⟩ := List.mem_map.1 hj
      exact y.2
    have hl2 := lay_len (f := fun i => be 4 (zs.getD i 0).toNat) (fun i => be_len _ _) (pre.map (·.1)) L0 (by rw [HL.out]; omega : n + zs.length * 4 ≤ L0.length) hpre
    have hf := fill32_any (w.heap.size + 1) (n + i * 4) ((4 * zs.length) - i * 4) v _ W hk (by rw [hl2, HL.out]; omega) hvr
    rw [hgd, ← lay_snoc] at hf
    try simp only [Nat.mul_one] at hf
    have HF := Lib.hid hf; have HK := Lib.hid hk; have HX := Lib.hid hx; have HB := Lib.hid hB
    have hxc := hx.cell
    clear hf hk hx hB hgd hl2 hpre hv hwf
    simp only [Option.map_some, add_plain]
    gi_wp2_with (refine ⟨trivial, ?_⟩; gi_at_call 66; refine (CallsIn.inRound l₁ (callsIn_wide.2 HF.out)).mono ?_; rintro e W4 ⟨rfl, hk4, hg4⟩)
    refine ⟨keeps_bk HK.out hg4, Band.grown hg4 (by omega) (by omega), ⟨by rw [List.map_append]; exact hk4, HX.out.kept hg4 (by simp), Nat.le_trans hsz hg4.size⟩, HB.out.grown hg4 HB.out.size (fun k e => by cases e; omega)⟩
  case done =>
    rintro D ys W hD hys ⟨⟨hk, hx, hsz⟩, hB⟩ hK
    rw [hys, HS.out] at hk
    gi_wp2
    refine ⟨by simp, .inl ⟨_, _, rfl, run_takeDeferred hK, ?_⟩⟩
    exact ⟨_, results_tmp rfl _ _ _, w.heap.size + 1, by omega, rfl, hk.below (belowK_b (w := W3) (Nat.le_refl _) W D _ _ hD hK rfl rfl) (by omega), hB.trans (belowK_b (w := w) (Nat.le_refl _) W D _ _ (by omega) hK rfl rfl)⟩
  case stop =>
    rintro D c pre W _ _ h _
    exact h.elim
end Go.Proofs.Ytbffpallhofonaa
