/- The program's digests: Sum; the fixed fact. -/
import Derived.Test.YtijopeacgpmicaaDoorShaZ
import Derived.Test.YtijopeacgpmicaaDoorShaA
namespace Go.Proofs.YtijopeacgpmicaaDoor
open Go.RowKit Go.WideShapes Go.ChangeShapes
set_option linter.unusedVariables false

theorem one_part {w : World} {b : Nat} {A : Option Addr} {l : List UInt8} {c : Nat} (hb : w.cell? ⟨b, 0, none⟩ = some (.slice A l.length c)) (h : Rb w A l) (hA : A = none → c = 0) (hc : l.length ≤ c) : Ps (fun _ => False) w (some ⟨b, 0, none⟩) [(A, l, c)] := fun j A' l' c' hj => by
  cases j with
  | zero =>
    have hj : (A, l, c) = (A', l', c') := by simpa using hj
    injection hj with e1 e2
    injection e2 with e2 e3
    subst e1; subst e2; subst e3
    exact ⟨⟨b, 0, rfl, fun h => h, hb⟩, h, hA, hc, .inr fun _ _ h => h⟩
  | succ j => simp at hj
set_option maxRecDepth 100000 in
set_option maxHeartbeats 1000000 in
theorem sum_any (A : Option Addr) (l : List UInt8) (c : Nat) (w : World) (hst : Start w) (h : Rb w A l) (hA : A = none → c = 0) (hc : l.length ≤ c) (hl : l.length ≤ 10000) :
    Calls Tryd.prog 7 #[.slice A l.length c] w fun e w' => e = .returned (.agg (bc (byt (dig l))).toArray) ∧ Below w.heap.size w w' := by
  have b1 : Below w.heap.size w (w.alloc (.cells #[.int .u8 0, .int .u8 0, .int .u8 0, .int .u8 0, .int .u8 0, .int .u8 0, .int .u8 0, .int .u8 0, .int .u8 0, .int .u8 0, .int .u8 0, .int .u8 0, .int .u8 0, .int .u8 0, .int .u8 0, .int .u8 0, .int .u8 0, .int .u8 0, .int .u8 0, .int .u8 0] 25)) := (Below.refl _ w).alloc (Nat.le_refl _) _
  have z1 : Bt 25 (w.alloc (.cells #[.int .u8 0, .int .u8 0, .int .u8 0, .int .u8 0, .int .u8 0, .int .u8 0, .int .u8 0, .int .u8 0, .int .u8 0, .int .u8 0, .int .u8 0, .int .u8 0, .int .u8 0, .int .u8 0, .int .u8 0, .int .u8 0, .int .u8 0, .int .u8 0, .int .u8 0, .int .u8 0] 25)) w.heap.size (List.replicate 20 0) := heap_alloc_new w _
  obtain ⟨W1, hW1⟩ : ∃ W1, W1 = w.alloc (.cells #[.int .u8 0, .int .u8 0, .int .u8 0, .int .u8 0, .int .u8 0, .int .u8 0, .int .u8 0, .int .u8 0, .int .u8 0, .int .u8 0, .int .u8 0, .int .u8 0, .int .u8 0, .int .u8 0, .int .u8 0, .int .u8 0, .int .u8 0, .int .u8 0, .int .u8 0, .int .u8 0] 25) := ⟨_, rfl⟩
  rw [← hW1] at b1 z1
  have b2 : Below W1.heap.size W1 (W1.alloc (.cells #[.slice A l.length c] 22)) := (Below.refl _ W1).alloc (Nat.le_refl _) _
  have hps := one_part (w := W1.alloc (.cells #[.slice A l.length c] 22)) (bk_cell (heap_alloc_new W1 _) 0) ((h.below b1).below b2) hA hc
  have hof := of_any (some ⟨W1.heap.size, 0, none⟩) 1 [(A, l, c)] _ ((hst.below b1).below b2) hps (fun h => by cases h) (by simp) (by simp [cat]; exact hl)
  have hd : digP [(A, l, c)] = byt (dig l) := by unfold digP cat; simp
  rw [hd] at hof
  have HOF := Lib.hid hof
  have HB2 := Lib.hid (b1.trans (b2.mono b1.size)); have HZ2 := Lib.hid (z1.below b2 z1.lt)
  obtain ⟨V, hV⟩ : ∃ V, V = byt (dig l) := ⟨_, rfl⟩
  have HBL := Lib.hid (show V.length = 20 by rw [hV]; exact byt_len _)
  rw [← hV] at HOF ⊢
  have hsz : W1.heap.size = w.heap.size + 1 := by rw [hW1]; simp
  rw [hsz] at HOF
  clear hV hof hps b1 b2 z1 h hst hd hc hl hsz
  go_enter Tryd.func7, Tryd.ntmps7
  go_upto_region 1 with fail
  rw [← hW1]
  have hsz : W1.heap.size = w.heap.size + 1 := by rw [hW1]; simp
  clear hW1
  go_wp2_with fail
  refine HOF.out.mono ?_
  rintro e w3 ⟨rfl, hb⟩
  have HB3 := Lib.hid (HB2.out.trans (hb.mono HB2.out.size)); have HZ3 := Lib.hid (HZ2.out.below hb HZ2.out.lt)
  clear hb HOF hsz
  go_wp2_with (refine wpList_store_row rfl 25 (.tmp 2) (.tmp 5) rfl w.heap.size (bc V).toArray rfl rfl 25 (bc (List.replicate 20 0)).toArray HZ3.out (by rw [dsize, List.size_toArray, bc_len, HBL.out]) (by rw [List.size_toArray, List.size_toArray, bc_len, bc_len, HBL.out]; rfl) (bc_all _) ?_)
  refine bodyPost_ret (results_cell_row rfl _ _ w.heap.size 25 (bc V).toArray (0, 0) _ rfl (setRow_heap w3 w.heap.size _ _ _ _ HZ3.out) dund rfl (by rw [dsize, List.size_toArray, bc_len, HBL.out])) rfl ⟨rfl, ?_⟩
  exact below_setRow HB3.out (Nat.le_refl _) _

/-- abc, as bytes of a constant. -/
theorem abc_conv (w : World) : ∃ w', (convert 22 22 (.slice (some ⟨w.heap.size, 0, none⟩) 3 3)).run Tryd.prog (w.alloc (.cells #[.int .u8 97, .int .u8 98, .int .u8 99] 5)) = .ok (.slice (some ⟨w.heap.size, 0, none⟩) 3 3) w' ∧
    Below w.heap.size w w' ∧ Rb w' (some ⟨w.heap.size, 0, none⟩) [97, 98, 99] := by
  have ha := heap_alloc_new w (.cells #[.int .u8 97, .int .u8 98, .int .u8 99] 5)
  obtain ⟨W, hW⟩ : ∃ W, W = w.alloc (.cells #[.int .u8 97, .int .u8 98, .int .u8 99] 5) := ⟨_, rfl⟩
  have hb : Below w.heap.size w W := by rw [hW]; exact (Below.refl _ w).alloc (Nat.le_refl _) _
  rw [← hW] at ha ⊢
  have hlt : w.heap.size < W.heap.size := bk_lt ha
  have hh : (W.freeze ⟨w.heap.size, 3, none⟩ 1).heap[w.heap.size]? = some (.cells #[.int .u8 97, .int .u8 98, .int .u8 99] 5 (3, 4)) := by
    simp [World.freeze, Array.getElem?_modify, ha]
  refine ⟨W.freeze ⟨w.heap.size, 3, none⟩ 1, ?_, ?_, ?_⟩
  · have hs : W.shape? w.heap.size = some (5, 3) := by simp [World.shape?, ha]
    unfold convert
    simp [run_underlying Tryd.underlying22, run_underlying Tryd.underlying5, markStringish, hs]
  · refine hb.trans ⟨rfl, rfl, rfl, by simp [World.freeze], fun k hk => ?_⟩
    simp [World.freeze, Array.getElem?_modify]
    intro e; omega
  · have hc : ∀ i, (W.freeze ⟨w.heap.size, 3, none⟩ 1).cell? ⟨w.heap.size, i, none⟩ = (#[Value.int .u8 97, .int .u8 98, .int .u8 99] : Array Value)[i]? := fun i => by simp [World.cell?, hh]
    refine ⟨fun z hz => ?_, .inr ⟨w.heap.size, 0, rfl, bk_lt hh, fun j z hj => ?_⟩⟩
    · obtain ⟨b, _, rfl⟩ := List.mem_map.1 hz
      have := b.toNat_lt
      simp [Lit.wf, IntKind.min, IntKind.max, IntKind.signed, IntKind.bits]
      omega
    · rw [Nat.zero_add, hc]
      match j, hj with
      | 0, hj => obtain rfl : 97 = z := by simpa [nums] using hj
                 rfl
      | 1, hj => obtain rfl : 98 = z := by simpa [nums] using hj
                 rfl
      | 2, hj => obtain rfl : 99 = z := by simpa [nums] using hj
                 rfl
      | j + 3, hj => simp [nums] at hj
set_option maxRecDepth 100000 in
theorem alive9_any (w : World) (hst : Start w) : Calls Tryd.prog 6 #[] w fun e w' => e = .returned (.bool true) ∧ Below w.heap.size w w' := by
  obtain ⟨w1, hcv, b1, k1⟩ := abc_conv w
  have hs := sum_any (some ⟨w.heap.size, 0, none⟩) [97, 98, 99] 3 w1 (hst.below b1) k1 (fun h => by cases h) (Nat.le_refl _) (by decide)
  have hx := fun W => hex_any (byt (dig [97, 98, 99])) (byt_len _) W
  rw [abc_hex] at hx
  have HSM := Lib.hid hs; have HX := Lib.hid hx; have HB1 := Lib.hid b1
  clear hs hx k1 b1 hst
  generalize byt (dig [97, 98, 99]) = D at *
  go_enter Tryd.func6, Tryd.ntmps6
  go_wp2_with (first
    | (go_at_call 7; refine HSM.out.mono ?_; rintro e w2 ⟨rfl, hb⟩; have HB2 := Lib.hid (HB1.out.trans (hb.mono HB1.out.size)); clear hb)
    | (go_at_call 12; refine (HX.out _).mono ?_; rintro e w3 ⟨rfl, hb⟩; have HB3 := Lib.hid (HB2.out.trans (hb.mono HB2.out.size)); clear hb))
  go_ret
  exact ⟨rfl, HB3.out⟩

end Go.Proofs.YtijopeacgpmicaaDoor
