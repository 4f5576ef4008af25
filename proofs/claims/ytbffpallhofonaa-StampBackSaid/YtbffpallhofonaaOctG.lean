/- List: words at an offset, one behind the other. (Written by gen4.py.) -/
import Derived.Test.YtbffpallhofonaaOctF
namespace Go.Proofs.Ytbffpallhofonaa
open Go.RowKit Go.Shelf Go.WideShapes Go.ChangeShapes
attribute [local go_sem] Oper.semAt_some
set_option linter.unusedVariables false

/-- The block g holds just the numbers zs. -/
def Wk (k : IntKind) (e : TypeId) (w : World) (g : Nat) (zs : List Int) : Prop := w.heap[g]? = some (.cells (cz k zs).toArray e (0, 0))
theorem Wk.lt {k : IntKind} {e : TypeId} {w : World} {g : Nat} {zs : List Int} (h : Wk k e w g zs) : g < w.heap.size := (Array.getElem?_eq_some_iff.1 h).1
theorem Wk.cell {k : IntKind} {e : TypeId} {w : World} {g : Nat} {zs : List Int} (h : Wk k e w g zs) {i : Nat} (hi : i < zs.length) : w.cell? ⟨g, i, none⟩ = some (.int k zs[i]) := by
  have e1 : (cz k zs)[i]? = some (.int k zs[i]) := by unfold cz; rw [List.getElem?_map, List.getElem?_eq_getElem hi]; rfl
  unfold Wk at h
  simp [World.cell?, h]; simpa using e1
theorem Wk.free {k : IntKind} {e : TypeId} {w : World} {g : Nat} {zs : List Int} (h : Wk k e w g zs) (i : Nat) : w.frozen? ⟨g, i, none⟩ = false := by
  unfold Wk at h; simp [World.frozen?, h]
theorem Wk.below {k : IntKind} {e : TypeId} {w w' : World} {g B : Nat} {zs : List Int} (h : Wk k e w g zs) (hb : Below B w w') (hB : g < B) : Wk k e w' g zs := (hb.block g hB).trans h
theorem Wk.kept {k : IntKind} {e : TypeId} {w w' : World} {g : Nat} {zs : List Int} {row : Option Nat} (h : Wk k e w g zs) (hg : w.grownBy w' row) (hne : some g ≠ row) : Wk k e w' g zs := (hg.block g h.lt hne).trans h
theorem Wk.row {k : IntKind} {e : TypeId} {A B : World} {g : Nat} {zs : List Int} {row : Option Nat} (h : Wk k e A g zs) (hg : A.grownBy B row) (hr : ∀ r, row = some r → ∃ o : Obj, A.heap[r]? = some o ∧ o.isCells = false) : Wk k e B g zs := by
  refine h.kept hg fun e => ?_
  obtain ⟨o, h1, h2⟩ := hr g e.symm
  have h3 : A.heap[g]? = some _ := h
  rw [h3] at h1
  cases h1; cases h2
theorem Wk.set {k : IntKind} {e : TypeId} {w : World} {g : Nat} {zs : List Int} (h : Wk k e w g zs) (i : Nat) (z : Int) : Wk k e (w.setCell ⟨g, i, none⟩ (.int k z)) g (zs.set i z) := by
  unfold Wk at h ⊢
  have e : cz k (zs.set i z) = (cz k zs).set i (.int k z) := by simp [cz, List.map_set]
  rw [e]
  simp [World.setCell, Array.getElem?_modify, h]
theorem Wk.drew {k : IntKind} {e : TypeId} {w : World} {g : Nat} {zs : List Int} (h : Wk k e w g zs) : Wk k e w.drew g zs := h
theorem Wk.reads {k : IntKind} {e : TypeId} {w : World} {g : Nat} {zs : List Int} (h : Wk k e w g zs) (hf : ∀ z ∈ zs, (Lit.int k z).wf = true) : Rz k w (some ⟨g, 0, none⟩) zs := by
  refine ⟨hf, .inr ⟨g, 0, rfl, h.lt, fun j z hj => ?_⟩⟩
  obtain ⟨h1, h2⟩ := List.getElem?_eq_some_iff.1 hj
  rw [Nat.zero_add, h.cell h1, h2]

def setl (Z : List Int) (f : Nat → Int) (is : List Nat) : List Int := is.foldl (fun Z i => Z.set i (f i)) Z
theorem setl_snoc (Z : List Int) (f : Nat → Int) (is : List Nat) (i : Nat) : setl Z f (is ++ [i]) = (setl Z f is).set i (f i) := by simp [setl]
theorem setl_len (f : Nat → Int) (is : List Nat) : ∀ Z : List Int, (setl Z f is).length = Z.length := by
  induction is with
  | nil => intro Z; rfl
  | cons i is ih => intro Z; show (setl (Z.set i (f i)) f is).length = _; rw [ih]; simp
theorem setl_range (f : Nat → Int) (Z : List Int) (k : Nat) (h : k ≤ Z.length) : setl Z f (List.range k) = (List.range k).map f ++ Z.drop k := by
  induction k with
  | zero => rfl
  | succ k ih =>
    rw [List.range_succ, setl_snoc, ih (by omega), List.map_append, List.set_append_right _ _ (by simp)]
    have e : Z.drop k = Z[k] :: Z.drop (k + 1) := List.drop_eq_getElem_cons (by omega)
    rw [List.length_map, List.length_range, Nat.sub_self, e, List.set_cons_zero]
    simp
/-- The numbers of so many parts of bytes. -/
def wl (m : List UInt8) (S k : Nat) : List Int := (List.range k).map fun i => (ebv ((m.drop (i * S)).take S) : Int)
theorem wl_len (m : List UInt8) (S k : Nat) : (wl m S k).length = k := by simp [wl]
theorem wl_at (m : List UInt8) (S k i : Nat) (h : i < k) : (wl m S k)[i]'(by rw [wl_len]; exact h) = (ebv ((m.drop (i * S)).take S) : Int) := by simp [wl]
theorem wl_set (m : List UInt8) (S k : Nat) : setl (List.replicate k 0) (fun i => (ebv ((m.drop (i * S)).take S) : Int)) (List.range k) = wl m S k := by
  rw [setl_range _ _ _ (by simp)]; simp [wl]
theorem rm_many {N S : Nat} {at_ many : Int} (hS : S = 1 ∨ S = 2 ∨ S = 4 ∨ S = 8) (h : rm N at_ many S = 0) : ∃ a k : Nat, at_ = a ∧ many = k ∧ a + k * S ≤ N := by
  obtain ⟨h1, h2, h3, h4⟩ := rm_zero h
  refine ⟨at_.toNat, many.toNat, by omega, by omega, ?_⟩
  rcases hS with rfl | rfl | rfl | rfl <;> simp only [Int.cast_ofNat_Int] at h4 <;> omega
theorem made_cz (k : IntKind) (n : Nat) : madeCells #[Value.int k 0] n = (cz k (List.replicate n 0)).toArray := by
  have := toList_madeCells_one (Value.int k 0) n
  unfold cz
  rw [List.map_replicate, ← this]
theorem winfo8 : (Try.prog.info? 5).map (fun i => (i.zero, i.size, i.bytes)) = some (some (.int .u8 0), 1, 1) := by kernel_rfl
theorem make_words8 (n : Nat) (h : n ≤ 1000000000) (w : World) : (Instr.makeSlice 56 (.int .i64 (n : Int)) (.int .i64 (n : Int))).run Try.prog w =
    .ok (.slice (some ⟨w.heap.size, 0, none⟩) n n) (w.alloc (.cells (cz .u8 (List.replicate n 0)).toArray 5)) := by
  rw [run_make_row' 56 5 (.int .u8 0) 1 Try.underlying56 winfo8 rfl .i64 .i64 n (by omega) (by omega) w, made_cz]
theorem winfo16 : (Try.prog.info? 29).map (fun i => (i.zero, i.size, i.bytes)) = some (some (.int .u16 0), 1, 2) := by kernel_rfl
theorem make_words16 (n : Nat) (h : n ≤ 1000000000) (w : World) : (Instr.makeSlice 108 (.int .i64 (n : Int)) (.int .i64 (n : Int))).run Try.prog w =
    .ok (.slice (some ⟨w.heap.size, 0, none⟩) n n) (w.alloc (.cells (cz .u16 (List.replicate n 0)).toArray 29)) := by
  rw [run_make_row' 108 29 (.int .u16 0) 2 Try.underlying108 winfo16 rfl .i64 .i64 n (by omega) (by omega) w, made_cz]
set_option maxRecDepth 100000 in
set_option maxHeartbeats 2000000 in
theorem list16_any (A : Option Addr) (l : List UInt8) (c : Nat) (at_ many : Int) (w : World) (h : Rb w A l) (hA : A = none → c = 0) (hc : l.length ≤ c) (hl : l.length ≤ 1000000) (ha : fits at_) (hm : fits many) :
    Calls Try.prog 70 #[.slice A l.length c, .int .i64 at_, .int .i64 many] w fun e w' =>
      (rm l.length at_ many 2 ≠ 0 ∧ e = .returned (.tuple #[.slice none 0 0, ev (rm l.length at_ many 2)]) ∧ w = w') ∨
      (rm l.length at_ many 2 = 0 ∧ ∃ g, w.heap.size ≤ g ∧ e = .returned (.tuple #[.slice (some ⟨g, 0, none⟩) many.toNat many.toNat, .nilIface]) ∧ Wk .u16 29 w' g (wl (l.drop at_.toNat) 2 many.toNat) ∧ Below w.heap.size w w') := by
  have hr : ∀ w, Calls Try.prog 80 #[.slice A l.length c, .int .i64 at_, .int .i64 many, .int .i64 2] w fun e w' => e = .returned (ev (rm l.length at_ many 2)) ∧ w = w' := fun w => room_any A l c at_ many 2 w hl ha hm (by omega)
  by_cases h1 : rm l.length at_ many 2 = 0
  · obtain ⟨a, k, rfl, rfl, h2⟩ := rm_many (by omega) h1
    rw [h1] at hr ⊢
    simp only [ev_zero] at hr ⊢
    clear h1
    obtain ⟨A', c', m, hp, r, R, N1, L1, _, _⟩ := part_lh (lo := a) (hi := a + (k * 2)) h hA hc (by omega) (by omega)
    rw [Nat.add_sub_cancel_left] at hp
    have hml : m.length = k * 2 := by rw [hp]; simp; omega
    rw [hml, show ((a + (k * 2) : Nat) : Int) = (a : Int) + (k : Int) * 2 by omega] at r
    rw [show ((a : Nat) : Int).toNat = a from rfl, show ((k : Nat) : Int).toNat = k from rfl]
    have hval : wl (l.drop a) 2 k = wl m 2 k := by
      unfold wl
      refine List.map_congr_left fun i hi => ?_
      have hik := List.mem_range.1 hi
      rw [hp]
      congr 2
      rw [List.drop_take, List.take_take]
      congr 1
      omega
    rw [hval, ← wl_set]
    skip
    have hmk := fun w => make_words16 k (by omega) w
    have hj : ∀ (W : World) (i : Nat), Below w.heap.size w W → i < k → Calls Try.prog 82 #[.slice (A'.map (·.add (i * 2))) 2 (c' - i * 2)] W fun e w' => e = .returned (.int .u16 (ebv ((m.drop (i * 2)).take 2) : Nat)) ∧ W = w' := by
      intro W i hB hi
      have R' := R.below hB
      obtain ⟨b, off, rfl, _, _⟩ := R'.cell (i := 0) (by omega)
      rw [Option.map_some, add_plain]
      exact join16_any _ _ _ W ((R'.drop_ _).take_ _) (by simp; omega)
    have hzl := wl_len m 2 k
    obtain ⟨Z, hZ⟩ : ∃ Z : List Int, Z = List.replicate k 0 := ⟨_, rfl⟩
    have hZl : Z.length = k := by rw [hZ]; simp
    rw [← hZ] at hmk ⊢
    have hg0 : Wk .u16 29 (w.alloc (.cells (cz .u16 Z).toArray 29)) w.heap.size Z := heap_alloc_new w _
    have hb0 : Below w.heap.size w (w.alloc (.cells (cz .u16 Z).toArray 29)) := (Below.refl _ _).alloc (Nat.le_refl _) _
    have hs0 : (w.alloc (.cells (cz .u16 Z).toArray 29)).heap.size = w.heap.size + 1 := by simp
    have hmk1 := hmk w
    clear hmk
    generalize w.alloc (.cells (cz .u16 Z).toArray 29) = W1 at *
    have hkb : k ≤ 1000000 := by omega
    have HR := Lib.hid hr; have HJ := Lib.hid hj; have HG := Lib.hid hg0; have HB0 := Lib.hid hb0; have H0 := Lib.hid hs0; have HZ := Lib.hid hZl; have HL1 := Lib.hid L1; have HML := Lib.hid hml
    clear hr hj hg0 hb0 hs0 hZl hZ hval hp h hA R N1 L1 hml hzl
    refine (callsIn_wide (n := 3)).1 ?_
    refine callsIn_of_wp_marks Try.func70 rfl trivial ?_ rfl
    simp only [Try.ntmps70, List.size_toArray, List.length_cons, List.length_nil, Nat.reduceAdd, Nat.reduceSub, Array.replicate_succ, Array.replicate_zero, List.push_toArray, List.append_toArray, List.nil_append, List.cons_append]
    gi_wp2_with (first | (refine ⟨trivial, ?_⟩; gi_at_call 67; refine (callsIn_wide.2 (size16_any _)).mono ?_; rintro e w' ⟨rfl, rfl⟩) | (refine ⟨trivial, ?_⟩; gi_at_call 80; refine (callsIn_wide.2 (HR.out _)).mono ?_; rintro e w' ⟨rfl, rfl⟩) | (refine ⟨trivial, ?_⟩; gi_at_call 65; refine (callsIn_wide.2 (parts_any A' (k * 2) c' 2 _)).mono ?_; rintro e W3 ⟨rfl, rfl⟩))
    have d0 := ((Boxed.new W1 108 (.slice (some ⟨w.heap.size, 0, none⟩) k k)).alloc (.cells #[.slice A' (k * 2) c'] 56)).alloc (.cells #[.int .i64 2] 3)
    have d1 := (Boxed.new (W1.alloc (.cells #[.slice (some ⟨w.heap.size, 0, none⟩) k k] 108)) 56 (.slice A' (k * 2) c')).alloc (.cells #[.int .i64 2] 3)
    have d2 := Boxed.new ((W1.alloc (.cells #[.slice (some ⟨w.heap.size, 0, none⟩) k k] 108)).alloc (.cells #[.slice A' (k * 2) c'] 56)) 3 (.int .i64 2)
    have e3 : Below W1.heap.size W1 (((W1.alloc (.cells #[.slice (some ⟨w.heap.size, 0, none⟩) k k] 108)).alloc (.cells #[.slice A' (k * 2) c'] 56)).alloc (.cells #[.int .i64 2] 3)) := (((Below.refl _ W1).alloc (Nat.le_refl _) _).alloc (by simp) _).alloc (by simp; omega) _
    have hs3 : (((W1.alloc (.cells #[.slice (some ⟨w.heap.size, 0, none⟩) k k] 108)).alloc (.cells #[.slice A' (k * 2) c'] 56)).alloc (.cells #[.int .i64 2] 3)).heap.size = W1.heap.size + 1 + 1 + 1 := by simp
    simp only [World.size_alloc] at d1 d2
    generalize (((W1.alloc (.cells #[.slice (some ⟨w.heap.size, 0, none⟩) k k] 108)).alloc (.cells #[.slice A' (k * 2) c'] 56)).alloc (.cells #[.int .i64 2] 3)) = W3 at *
    have h0 := H0.out
    have hb3 : Below w.heap.size w W3 := HB0.out.trans (e3.mono (by omega))
    have hg3 := HG.out.below e3 (by omega)
    have q1 : W1.heap.size = w.heap.size + 1 ∧ W3.heap.size = W1.heap.size + 1 + 1 + 1 := ⟨h0, hs3⟩
    have Q1 := Lib.hid q1
    clear q1 h0 hs3
    refine wpIn_rangeFunc_ownF rfl (by omega) (gf := 79) (lb := #[.pointer (some ⟨W1.heap.size + 1, 0, none⟩), .pointer (some ⟨W1.heap.size + 1 + 1, 0, none⟩)]) rfl trivial (enters_of Try.func79 (by kernel_rfl) rfl)
      (parts_stops 2 (by omega) 2 (k * 2) k c' (W1.heap.size + 1) (W1.heap.size + 1) (W1.heap.size + 1 + 2) A' (by omega) (by omega) (by have := HL1.out; have := HML.out; omega) (by omega) (Nat.le_refl _) (by omega) W3 (by have := Q1.out; omega) d1.cell d2.cell)
      band_t (band_b (by have := Q1.out; omega)) (Below.refl _ _) (fun _ => rfl)
      (fun pre W => (Wk .u16 29 W w.heap.size (setl Z (fun i => (ebv ((m.drop (i * 2)).take 2) : Int)) (pre.map (·.1))) ∧ Boxed W W1.heap.size 108 (.slice (some ⟨w.heap.size, 0, none⟩) k k) ∧ W3.heap.size ≤ W.heap.size) ∧ Below w.heap.size w W)
      (fun _ _ _ => False)
      (OwnFrom.and (Own.from (fun s A B row hs hg hr => ⟨hs.1.row hg hr, box_row hs.2.1 hg hr, Nat.le_trans hs.2.2 hg.size⟩) _) (ownFrom_below (Nat.le_refl _) (by have := Q1.out; omega)))
      (fun _ _ _ _ _ hs _ _ => hs)
      ⟨⟨hg3, d0, Nat.le_refl _⟩, hb3⟩
      ?a1 ?assign ?body ?done ?stop
    case assign =>
      intro l₁ x W K hK
      simp only [pt]
      gi_wp2
      exact hK
    case body =>
      rintro l₁ pre ⟨i, hi⟩ W ⟨⟨hk, hx, hsz⟩, hB⟩ hlt
      have hl2 := setl_len (fun i => (ebv ((m.drop (i * 2)).take 2) : Int)) (pre.map (·.1)) Z
      have hki : i < (setl Z (fun i => (ebv ((m.drop (i * 2)).take 2) : Int)) (pre.map (·.1))).length := by rw [hl2, HZ.out]; exact hi
      have hcell := hk.cell hki
      have hfree := hk.free i
      have hset := hk.set i (ebv ((m.drop (i * 2)).take 2) : Int)
      rw [← setl_snoc (f := fun i => (ebv ((m.drop (i * 2)).take 2) : Int))] at hset
      have hf := fun W' (hb : Below w.heap.size w W') => HJ.out W' i hb hi
      generalize ebv ((m.drop (i * 2)).take 2) = v at *
      generalize (setl Z (fun i => (ebv ((m.drop (i * 2)).take 2) : Int)) (pre.map (·.1)))[i] = v0 at *
      have hbx : Boxed (W.setCell ⟨w.heap.size, i, none⟩ (.int .u16 (v : Int))) W1.heap.size 108 (.slice (some ⟨w.heap.size, 0, none⟩) k k) := hx.kept (grown_set (grown_self W w.heap.size) i _) (fun e => by injection e with e; have := Q1.out; omega)
      have hend : ownPostK (Band (W1.heap.size + 1) (W1.heap.size + 1 + 2)) (fun pre W => (Wk .u16 29 W w.heap.size (setl Z (fun i => (ebv ((m.drop (i * 2)).take 2) : Int)) (pre.map (·.1))) ∧ Boxed W W1.heap.size 108 (.slice (some ⟨w.heap.size, 0, none⟩) k k) ∧ W3.heap.size ≤ W.heap.size) ∧ Below w.heap.size w W)
          (fun _ _ _ => False) (pre ++ [⟨i, hi⟩]) W Exit.normal { tmps := #[], defers := [] } (W.setCell ⟨w.heap.size, i, none⟩ (.int .u16 (v : Int))).drew :=
        ⟨(KeepsOthers.setCell _ _ _).trans (KeepsOthers.drew _), (Band.refl (W1.heap.size + 1) (W1.heap.size + 1 + 2) W).set ⟨w.heap.size, i, none⟩ _ (show w.heap.size < _ by have := Q1.out; omega),
          ⟨by rw [List.map_append]; exact hset, hbx, Nat.le_trans hsz (KeepsOthers.setCell _ _ _).size⟩, (hB.setCell (p := ⟨w.heap.size, i, none⟩) (Nat.le_refl _) _).drew⟩
      have HN := Lib.hid hend; clear hend
      have HS := Lib.hid hset; have HF := Lib.hid hf; have HK := Lib.hid hk; have HX := Lib.hid hx; have HB := Lib.hid hB
      have hxc := hx.cell
      clear hset hf hk hx hB hl2 hki hbx
      have hxcd : W.drew.cell? ⟨W1.heap.size, 0, none⟩ = some _ := hxc
      have hcelld : W.drew.cell? ⟨w.heap.size, i, none⟩ = some _ := hcell
      have hfreed : W.drew.frozen? ⟨w.heap.size, i, none⟩ = false := hfree
      have hmx : Try.prog.follows .mixedOrders = true := by kernel_rfl
      gi_wp2
      gi_region_with_o (refine ⟨trivial, ?_⟩; gi_at_call 82; refine (CallsIn.inRound l₁ (callsIn_wide.2 (HF.out _ (by exact HB.out.drew)))).mono ?_; rintro e w' ⟨rfl, rfl⟩)
      all_goals gi_wp2
      all_goals (try go_bits)
      all_goals exact HN.out
    case done =>
      rintro D ys W hD hys ⟨⟨hk, hx, hsz⟩, hB⟩ hK
      rw [hys] at hk
      have hxc := hx.cell
      have hb1 := belowK_b (w := W3) (Nat.le_refl _) W D _ (.deferred none) hD hK rfl rfl
      have hb2 := belowK_b (w := w) (Nat.le_refl _) W D _ (.deferred none) (by have := Q1.out; omega) hK rfl rfl
      have hlt := Lib.hid (show w.heap.size < W3.heap.size by have := Q1.out; omega)
      gi_wp2
      refine ⟨by simp, .inl ⟨_, _, rfl, run_takeDeferred hK, ?_⟩⟩
      exact ⟨_, results_tmp2 rfl _ _ _, .inr ⟨by trivial, w.heap.size, Nat.le_refl _, rfl, hk.below hb1 hlt.out, hB.trans hb2⟩⟩
    case stop =>
      rintro D c pre W _ _ h _
      exact h.elim
  · clear h hA
    generalize rm l.length at_ many 2 = E at *
    generalize l.length = N at *
    have q0 := fun op t W x k => guard_ev op t W x k
    have q2 := fun W k => neq_ev W k
    have hb : (E != 0) = true := bne_iff_ne.mpr h1
    have HR := Lib.hid hr; clear hr
    go_enter Try.func70, Try.ntmps70
    go_wp2_with (first | (go_at_call 67; refine (size16_any _).mono ?_; rintro e w' ⟨rfl, rfl⟩) | (go_at_call 80; refine (HR.out _).mono ?_; rintro e w' ⟨rfl, rfl⟩))
    go_ret2
    exact .inl ⟨h1, rfl, rfl⟩
theorem winfo32 : (Try.prog.info? 22).map (fun i => (i.zero, i.size, i.bytes)) = some (some (.int .u32 0), 1, 4) := by kernel_rfl
theorem make_words32 (n : Nat) (h : n ≤ 1000000000) (w : World) : (Instr.makeSlice 102 (.int .i64 (n : Int)) (.int .i64 (n : Int))).run Try.prog w =
    .ok (.slice (some ⟨w.heap.size, 0, none⟩) n n) (w.alloc (.cells (cz .u32 (List.replicate n 0)).toArray 22)) := by
  rw [run_make_row' 102 22 (.int .u32 0) 4 Try.underlying102 winfo32 rfl .i64 .i64 n (by omega) (by omega) w, made_cz]
set_option maxRecDepth 100000 in
set_option maxHeartbeats 2000000 in
theorem list32_any (A : Option Addr) (l : List UInt8) (c : Nat) (at_ many : Int) (w : World) (h : Rb w A l) (hA : A = none → c = 0) (hc : l.length ≤ c) (hl : l.length ≤ 1000000) (ha : fits at_) (hm : fits many) :
    Calls Try.prog 69 #[.slice A l.length c, .int .i64 at_, .int .i64 many] w fun e w' =>
      (rm l.length at_ many 4 ≠ 0 ∧ e = .returned (.tuple #[.slice none 0 0, ev (rm l.length at_ many 4)]) ∧ w = w') ∨
      (rm l.length at_ many 4 = 0 ∧ ∃ g, w.heap.size ≤ g ∧ e = .returned (.tuple #[.slice (some ⟨g, 0, none⟩) many.toNat many.toNat, .nilIface]) ∧ Wk .u32 22 w' g (wl (l.drop at_.toNat) 4 many.toNat) ∧ Below w.heap.size w w') := by
  have hr : ∀ w, Calls Try.prog 80 #[.slice A l.length c, .int .i64 at_, .int .i64 many, .int .i64 4] w fun e w' => e = .returned (ev (rm l.length at_ many 4)) ∧ w = w' := fun w => room_any A l c at_ many 4 w hl ha hm (by omega)
  by_cases h1 : rm l.length at_ many 4 = 0
  · obtain ⟨a, k, rfl, rfl, h2⟩ := rm_many (by omega) h1
    rw [h1] at hr ⊢
    simp only [ev_zero] at hr ⊢
    clear h1
    obtain ⟨A', c', m, hp, r, R, N1, L1, _, _⟩ := part_lh (lo := a) (hi := a + (k * 4)) h hA hc (by omega) (by omega)
    rw [Nat.add_sub_cancel_left] at hp
    have hml : m.length = k * 4 := by rw [hp]; simp; omega
    rw [hml, show ((a + (k * 4) : Nat) : Int) = (a : Int) + (k : Int) * 4 by omega] at r
    rw [show ((a : Nat) : Int).toNat = a from rfl, show ((k : Nat) : Int).toNat = k from rfl]
    have hval : wl (l.drop a) 4 k = wl m 4 k := by
      unfold wl
      refine List.map_congr_left fun i hi => ?_
      have hik := List.mem_range.1 hi
      rw [hp]
      congr 2
      rw [List.drop_take, List.take_take]
      congr 1
      omega
    rw [hval, ← wl_set]
    skip
    have hmk := fun w => make_words32 k (by omega) w
    have hj : ∀ (W : World) (i : Nat), Below w.heap.size w W → i < k → Calls Try.prog 81 #[.slice (A'.map (·.add (i * 4))) 4 (c' - i * 4)] W fun e w' => e = .returned (.int .u32 (ebv ((m.drop (i * 4)).take 4) : Nat)) ∧ W = w' := by
      intro W i hB hi
      have R' := R.below hB
      obtain ⟨b, off, rfl, _, _⟩ := R'.cell (i := 0) (by omega)
      rw [Option.map_some, add_plain]
      exact join32_any _ _ _ W ((R'.drop_ _).take_ _) (by simp; omega)
    have hzl := wl_len m 4 k
    obtain ⟨Z, hZ⟩ : ∃ Z : List Int, Z = List.replicate k 0 := ⟨_, rfl⟩
    have hZl : Z.length = k := by rw [hZ]; simp
    rw [← hZ] at hmk ⊢
    have hg0 : Wk .u32 22 (w.alloc (.cells (cz .u32 Z).toArray 22)) w.heap.size Z := heap_alloc_new w _
    have hb0 : Below w.heap.size w (w.alloc (.cells (cz .u32 Z).toArray 22)) := (Below.refl _ _).alloc (Nat.le_refl _) _
    have hs0 : (w.alloc (.cells (cz .u32 Z).toArray 22)).heap.size = w.heap.size + 1 := by simp
    have hmk1 := hmk w
    clear hmk
    generalize w.alloc (.cells (cz .u32 Z).toArray 22) = W1 at *
    have hkb : k ≤ 1000000 := by omega
    have HR := Lib.hid hr; have HJ := Lib.hid hj; have HG := Lib.hid hg0; have HB0 := Lib.hid hb0; have H0 := Lib.hid hs0; have HZ := Lib.hid hZl; have HL1 := Lib.hid L1; have HML := Lib.hid hml
    clear hr hj hg0 hb0 hs0 hZl hZ hval hp h hA R N1 L1 hml hzl
    refine (callsIn_wide (n := 3)).1 ?_
    refine callsIn_of_wp_marks Try.func69 rfl trivial ?_ rfl
    simp only [Try.ntmps69, List.size_toArray, List.length_cons, List.length_nil, Nat.reduceAdd, Nat.reduceSub, Array.replicate_succ, Array.replicate_zero, List.push_toArray, List.append_toArray, List.nil_append, List.cons_append]
    gi_wp2_with (first | (refine ⟨trivial, ?_⟩; gi_at_call 58; refine (callsIn_wide.2 (size32_any _)).mono ?_; rintro e w' ⟨rfl, rfl⟩) | (refine ⟨trivial, ?_⟩; gi_at_call 80; refine (callsIn_wide.2 (HR.out _)).mono ?_; rintro e w' ⟨rfl, rfl⟩) | (refine ⟨trivial, ?_⟩; gi_at_call 65; refine (callsIn_wide.2 (parts_any A' (k * 4) c' 4 _)).mono ?_; rintro e W3 ⟨rfl, rfl⟩))
    have d0 := ((Boxed.new W1 102 (.slice (some ⟨w.heap.size, 0, none⟩) k k)).alloc (.cells #[.slice A' (k * 4) c'] 56)).alloc (.cells #[.int .i64 4] 3)
    have d1 := (Boxed.new (W1.alloc (.cells #[.slice (some ⟨w.heap.size, 0, none⟩) k k] 102)) 56 (.slice A' (k * 4) c')).alloc (.cells #[.int .i64 4] 3)
    have d2 := Boxed.new ((W1.alloc (.cells #[.slice (some ⟨w.heap.size, 0, none⟩) k k] 102)).alloc (.cells #[.slice A' (k * 4) c'] 56)) 3 (.int .i64 4)
    have e3 : Below W1.heap.size W1 (((W1.alloc (.cells #[.slice (some ⟨w.heap.size, 0, none⟩) k k] 102)).alloc (.cells #[.slice A' (k * 4) c'] 56)).alloc (.cells #[.int .i64 4] 3)) := (((Below.refl _ W1).alloc (Nat.le_refl _) _).alloc (by simp) _).alloc (by simp; omega) _
    have hs3 : (((W1.alloc (.cells #[.slice (some ⟨w.heap.size, 0, none⟩) k k] 102)).alloc (.cells #[.slice A' (k * 4) c'] 56)).alloc (.cells #[.int .i64 4] 3)).heap.size = W1.heap.size + 1 + 1 + 1 := by simp
    simp only [World.size_alloc] at d1 d2
    generalize (((W1.alloc (.cells #[.slice (some ⟨w.heap.size, 0, none⟩) k k] 102)).alloc (.cells #[.slice A' (k * 4) c'] 56)).alloc (.cells #[.int .i64 4] 3)) = W3 at *
    have h0 := H0.out
    have hb3 : Below w.heap.size w W3 := HB0.out.trans (e3.mono (by omega))
    have hg3 := HG.out.below e3 (by omega)
    have q1 : W1.heap.size = w.heap.size + 1 ∧ W3.heap.size = W1.heap.size + 1 + 1 + 1 := ⟨h0, hs3⟩
    have Q1 := Lib.hid q1
    clear q1 h0 hs3
    refine wpIn_rangeFunc_ownF rfl (by omega) (gf := 79) (lb := #[.pointer (some ⟨W1.heap.size + 1, 0, none⟩), .pointer (some ⟨W1.heap.size + 1 + 1, 0, none⟩)]) rfl trivial (enters_of Try.func79 (by kernel_rfl) rfl)
      (parts_stops 2 (by omega) 4 (k * 4) k c' (W1.heap.size + 1) (W1.heap.size + 1) (W1.heap.size + 1 + 2) A' (by omega) (by omega) (by have := HL1.out; have := HML.out; omega) (by omega) (Nat.le_refl _) (by omega) W3 (by have := Q1.out; omega) d1.cell d2.cell)
      band_t (band_b (by have := Q1.out; omega)) (Below.refl _ _) (fun _ => rfl)
      (fun pre W => (Wk .u32 22 W w.heap.size (setl Z (fun i => (ebv ((m.drop (i * 4)).take 4) : Int)) (pre.map (·.1))) ∧ Boxed W W1.heap.size 102 (.slice (some ⟨w.heap.size, 0, none⟩) k k) ∧ W3.heap.size ≤ W.heap.size) ∧ Below w.heap.size w W)
      (fun _ _ _ => False)
      (OwnFrom.and (Own.from (fun s A B row hs hg hr => ⟨hs.1.row hg hr, box_row hs.2.1 hg hr, Nat.le_trans hs.2.2 hg.size⟩) _) (ownFrom_below (Nat.le_refl _) (by have := Q1.out; omega)))
      (fun _ _ _ _ _ hs _ _ => hs)
      ⟨⟨hg3, d0, Nat.le_refl _⟩, hb3⟩
      ?a1 ?assign ?body ?done ?stop
    case assign =>
      intro l₁ x W K hK
      simp only [pt]
      gi_wp2
      exact hK
    case body =>
      rintro l₁ pre ⟨i, hi⟩ W ⟨⟨hk, hx, hsz⟩, hB⟩ hlt
      have hl2 := setl_len (fun i => (ebv ((m.drop (i * 4)).take 4) : Int)) (pre.map (·.1)) Z
      have hki : i < (setl Z (fun i => (ebv ((m.drop (i * 4)).take 4) : Int)) (pre.map (·.1))).length := by rw [hl2, HZ.out]; exact hi
      have hcell := hk.cell hki
      have hfree := hk.free i
      have hset := hk.set i (ebv ((m.drop (i * 4)).take 4) : Int)
      rw [← setl_snoc (f := fun i => (ebv ((m.drop (i * 4)).take 4) : Int))] at hset
      have hf := fun W' (hb : Below w.heap.size w W') => HJ.out W' i hb hi
      generalize ebv ((m.drop (i * 4)).take 4) = v at *
      generalize (setl Z (fun i => (ebv ((m.drop (i * 4)).take 4) : Int)) (pre.map (·.1)))[i] = v0 at *
      have hbx : Boxed (W.setCell ⟨w.heap.size, i, none⟩ (.int .u32 (v : Int))) W1.heap.size 102 (.slice (some ⟨w.heap.size, 0, none⟩) k k) := hx.kept (grown_set (grown_self W w.heap.size) i _) (fun e => by injection e with e; have := Q1.out; omega)
      have hend : ownPostK (Band (W1.heap.size + 1) (W1.heap.size + 1 + 2)) (fun pre W => (Wk .u32 22 W w.heap.size (setl Z (fun i => (ebv ((m.drop (i * 4)).take 4) : Int)) (pre.map (·.1))) ∧ Boxed W W1.heap.size 102 (.slice (some ⟨w.heap.size, 0, none⟩) k k) ∧ W3.heap.size ≤ W.heap.size) ∧ Below w.heap.size w W)
          (fun _ _ _ => False) (pre ++ [⟨i, hi⟩]) W Exit.normal { tmps := #[], defers := [] } (W.setCell ⟨w.heap.size, i, none⟩ (.int .u32 (v : Int))).drew :=
        ⟨(KeepsOthers.setCell _ _ _).trans (KeepsOthers.drew _), (Band.refl (W1.heap.size + 1) (W1.heap.size + 1 + 2) W).set ⟨w.heap.size, i, none⟩ _ (show w.heap.size < _ by have := Q1.out; omega),
          ⟨by rw [List.map_append]; exact hset, hbx, Nat.le_trans hsz (KeepsOthers.setCell _ _ _).size⟩, (hB.setCell (p := ⟨w.heap.size, i, none⟩) (Nat.le_refl _) _).drew⟩
      have HN := Lib.hid hend; clear hend
      have HS := Lib.hid hset; have HF := Lib.hid hf; have HK := Lib.hid hk; have HX := Lib.hid hx; have HB := Lib.hid hB
      have hxc := hx.cell
      clear hset hf hk hx hB hl2 hki hbx
      have hxcd : W.drew.cell? ⟨W1.heap.size, 0, none⟩ = some _ := hxc
      have hcelld : W.drew.cell? ⟨w.heap.size, i, none⟩ = some _ := hcell
      have hfreed : W.drew.frozen? ⟨w.heap.size, i, none⟩ = false := hfree
      have hmx : Try.prog.follows .mixedOrders = true := by kernel_rfl
      gi_wp2
      gi_region_with_o (refine ⟨trivial, ?_⟩; gi_at_call 81; refine (CallsIn.inRound l₁ (callsIn_wide.2 (HF.out _ (by exact HB.out.drew)))).mono ?_; rintro e w' ⟨rfl, rfl⟩)
      all_goals gi_wp2
      all_goals (try go_bits)
      all_goals exact HN.out
    case done =>
      rintro D ys W hD hys ⟨⟨hk, hx, hsz⟩, hB⟩ hK
      rw [hys] at hk
      have hxc := hx.cell
      have hb1 := belowK_b (w := W3) (Nat.le_refl _) W D _ (.deferred none) hD hK rfl rfl
      have hb2 := belowK_b (w := w) (Nat.le_refl _) W D _ (.deferred none) (by have := Q1.out; omega) hK rfl rfl
      have hlt := Lib.hid (show w.heap.size < W3.heap.size by have := Q1.out; omega)
      gi_wp2
      refine ⟨by simp, .inl ⟨_, _, rfl, run_takeDeferred hK, ?_⟩⟩
      exact ⟨_, results_tmp2 rfl _ _ _, .inr ⟨by trivial, w.heap.size, Nat.le_refl _, rfl, hk.below hb1 hlt.out, hB.trans hb2⟩⟩
    case stop =>
      rintro D c pre W _ _ h _
      exact h.elim
  · clear h hA
    generalize rm l.length at_ many 4 = E at *
    generalize l.length = N at *
    have q0 := fun op t W x k => guard_ev op t W x k
    have q2 := fun W k => neq_ev W k
    have hb : (E != 0) = true := bne_iff_ne.mpr h1
    have HR := Lib.hid hr; clear hr
    go_enter Try.func69, Try.ntmps69
    go_wp2_with (first | (go_at_call 58; refine (size32_any _).mono ?_; rintro e w' ⟨rfl, rfl⟩) | (go_at_call 80; refine (HR.out _).mono ?_; rintro e w' ⟨rfl, rfl⟩))
    go_ret2
    exact .inl ⟨h1, rfl, rfl⟩
theorem winfo64 : (Try.prog.info? 26).map (fun i => (i.zero, i.size, i.bytes)) = some (some (.int .u64 0), 1, 8) := by kernel_rfl
theorem make_words64 (n : Nat) (h : n ≤ 1000000000) (w : World) : (Instr.makeSlice 74 (.int .i64 (n : Int)) (.int .i64 (n : Int))).run Try.prog w =
    .ok (.slice (some ⟨w.heap.size, 0, none⟩) n n) (w.alloc (.cells (cz .u64 (List.replicate n 0)).toArray 26)) := by
  rw [run_make_row' 74 26 (.int .u64 0) 8 Try.underlying74 winfo64 rfl .i64 .i64 n (by omega) (by omega) w, made_cz]
end Go.Proofs.Ytbffpallhofonaa
