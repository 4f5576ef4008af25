/- Package stamp: Bytes, ShortBytes, halves, Parse, ParseShort; the document's Value of any many bytes. (Written by gen_stp.py.) -/
import Derived.Test.YtbffpallhofonaaStpE
namespace Go.Proofs.Ytbffpallhofonaa
open Go.RowKit Go.WideShapes Go.ChangeShapes
set_option linter.unusedVariables false
set_option linter.unusedSimpArgs false

theorem rz2 {k : IntKind} {W : World} {g : Nat} {a b : Int} {T : TypeId} (h : W.heap[g]? = some (.cells #[.int k a, .int k b] T (0, 0))) (ha : (Lit.int k a).wf = true) (hb : (Lit.int k b).wf = true) : Rz k W (some ⟨g, 0, none⟩) [a, b] := by
  refine ⟨?_, .inr ⟨g, 0, rfl, bk_lt h, ?_⟩⟩
  · intro z hz
    simp at hz
    rcases hz with rfl | rfl <;> assumption
  · intro j z hj
    rw [bk_cell h]
    match j, hj with
    | 0, hj => cases hj; rfl
    | 1, hj => cases hj; rfl
theorem wk2 {k : IntKind} {e : TypeId} {W : World} {g : Nat} {a b : Int} (h : Wk k e W g [a, b]) : W.cell? ⟨g, 0, none⟩ = some (.int k a) ∧ W.cell? ⟨g, 1, none⟩ = some (.int k b) := ⟨h.cell (i := 0) (by simp), h.cell (i := 1) (by simp)⟩
set_option maxHeartbeats 1600000 in
theorem sbytes32_any (n : Nat) (w : World) (hn : n < 18446744073709551616) :
    Calls Try.prog 27 #[.agg #[.int .u32 ((n / 4294967296 : Nat) : Int), .int .u32 ((n % 4294967296 : Nat) : Int)]] w fun e w' =>
      ∃ g, w.heap.size ≤ g ∧ e = .returned (.slice (some ⟨g, 0, none⟩) (be 8 n).length (be 8 n).length) ∧ Bk w' g (be 8 n) ∧ Below w.heap.size w w' := by
  have h1 : (Lit.int .u32 ((n / 4294967296 : Nat) : Int)).wf = true := by simp [Lit.wf, IntKind.min, IntKind.max, IntKind.signed, IntKind.bits]; omega
  have h2 : (Lit.int .u32 ((n % 4294967296 : Nat) : Int)).wf = true := by simp [Lit.wf, IntKind.min, IntKind.max, IntKind.signed, IntKind.bits]; omega
  have hp : ∀ (g0 : Nat) (W : World), Rz .u32 W (some ⟨g0, 0, none⟩) [((n / 4294967296 : Nat) : Int), ((n % 4294967296 : Nat) : Int)] → Calls Try.prog 50 #[.slice none 0 0, .slice (some ⟨g0, 0, none⟩) 2 2] W fun e w' =>
      ∃ g, W.heap.size ≤ g ∧ e = .returned (.slice (some ⟨g, 0, none⟩) (be 8 n).length (be 8 n).length) ∧ Bk w' g (be 8 n) ∧ Below W.heap.size W w' := fun g0 W hr => by
    have := put32_any none (some ⟨g0, 0, none⟩) [] _ 0 2 W (Rb.nil none) (fun _ => rfl) hr (by decide) (by simp)
    rw [List.nil_append, be_eight n] at this
    exact this
  generalize ((n / 4294967296 : Nat) : Int) = S at *
  generalize ((n % 4294967296 : Nat) : Int) = F at *
  generalize be 8 n = L at *
  obtain ⟨W0, hW0⟩ : ∃ W0, W0 = w.alloc (.cells #[.int .u32 S, .int .u32 F] 43) := ⟨_, rfl⟩
  have hb0 : Below w.heap.size w W0 := by rw [hW0]; exact (Below.refl _ _).alloc (Nat.le_refl _) _
  have hl : W0.heap[w.heap.size]? = some (.cells #[.int .u32 S, .int .u32 F] 43 (0, 0)) := by rw [hW0]; exact heap_alloc_new _ _
  have k1 := bk_cell hl 0; have k2 := bk_cell hl 1
  have HP := Lib.hid (fun o (W : World) (hW : W = W0.alloc o) => hp W0.heap.size W)
  have HR : Hid (∀ (T : TypeId), Rz .u32 (W0.alloc (.cells #[.int .u32 S, .int .u32 F] T)) (some ⟨W0.heap.size, 0, none⟩) [S, F]) := Lib.hid (fun T => rz2 (heap_alloc_new _ _) h1 h2)
  have B := Lib.hid hb0
  clear hl h1 h2 hp hn hb0
  go_enter Try.func27, Try.ntmps27
  go_upto_region 1 with fail
  rw [← hW0]; clear hW0
  go_wp2_with (go_at_call 50; refine (HP.out _ _ rfl (HR.out _)).mono ?_; rintro e w2 ⟨g, hg, rfl, hk, hb⟩; have K := Lib.hid hk; have G := Lib.hid (Nat.le_trans B.out.size (Nat.le_trans (by simp) hg)); have B := Lib.hid (bel_boxed B.out hb); clear hk hb hg)
  go_ret
  exact ⟨g, G.out, rfl, K.out, B.out⟩

set_option maxHeartbeats 1600000 in
theorem shalves32_yes (A : Option Addr) (l : List UInt8) (c : Nat) (w : World) (h : Rb w A l) (hA : A = none → c = 0) (hc : l.length ≤ c) (hl : l.length = 8) :
    Calls Try.prog 53 #[.slice A l.length c] w fun e w' => e = .returned (.tuple #[.int .u32 ((ebv l / 4294967296 : Nat) : Int), .int .u32 ((ebv l % 4294967296 : Nat) : Int), ev 0]) ∧ Below w.heap.size w w' := by
  have hz : rm l.length 0 2 4 = 0 := rm_fits (N := l.length) (a := 0) (k := 2) (by omega) (by omega)
  have HL := list32_yes A l c 0 2 w h hA hc (by omega) (by decide) (by decide) hz
  have eh := ebv_halves (l := l) (S := 4) (by omega)
  rw [show (256 : Nat) ^ 4 = 4294967296 by decide] at eh
  rw [show (2 : Int).toNat = 2 from rfl, show (0 : Int).toNat = 0 from rfl, eh, hl] at HL
  rw [hl]
  replace HL := Lib.hid HL
  generalize ((ebv l / 4294967296 : Nat) : Int) = S at *
  generalize ((ebv l % 4294967296 : Nat) : Int) = F at *
  clear eh hz h hA hc hl
  go_enter Try.func53, Try.ntmps53
  go_upto_region 6 with first
    | (go_at_call 58; refine (size32_any _).mono ?_; rintro e w' ⟨rfl, rfl⟩)
    | (go_at_call 69; refine HL.out.mono ?_; rintro e w2 ⟨g, hg, rfl, hk, hb⟩; have K := Lib.hid hk; have B := Lib.hid hb; clear hk hb hg)
  obtain ⟨c0, c1⟩ := wk2 K.out
  have d0 : w2.drew.cell? ⟨g, 0, none⟩ = some (.int .u32 S) := c0
  have d1 : w2.drew.cell? ⟨g, 1, none⟩ = some (.int .u32 F) := c1
  go_quiet (fail)
  go_wp2
  go_ret3
  exact ⟨rfl, B.out.trans ⟨rfl, rfl, rfl, Nat.le_refl _, fun _ _ => rfl⟩⟩
theorem shalves32_no (A : Option Addr) (l : List UInt8) (c : Nat) (w : World) (hl : l.length ≠ 8) :
    Calls Try.prog 53 #[.slice A l.length c] w fun e w' => e = .returned (.tuple #[.int .u32 0, .int .u32 0, ev 2]) ∧ Below w.heap.size w w' := by
  have d : ((l.length : Int) != 8) = true := bne_iff_ne.2 (by omega)
  generalize l.length = N at *
  go_enter Try.func53, Try.ntmps53
  go_wp2_with (go_at_call 58; refine (size32_any _).mono ?_; rintro e w' ⟨rfl, rfl⟩)
  go_ret3
  exact ⟨rfl, Below.refl _ _⟩
set_option maxHeartbeats 1600000 in
theorem sparse32_of (A : Option Addr) (N c : Nat) (S F E : Int) (w : World) 
    (H : ∀ W, Below w.heap.size w W → Calls Try.prog 53 #[.slice A N c] W fun e w' => e = .returned (.tuple #[.int .u32 S, .int .u32 F, ev E]) ∧ Below W.heap.size W w') :
    Calls Try.prog 32 #[.slice A N c] w fun e w' => e = .returned (.tuple #[.agg #[.int .u32 S, .int .u32 F], ev E]) ∧ Below w.heap.size w w' := by
  have hb0 : Below w.heap.size w (w.alloc (.cells #[.int .u32 0, .int .u32 0] 43)) := (Below.refl _ _).alloc (Nat.le_refl _) _
  have hl : (w.alloc (.cells #[.int .u32 0, .int .u32 0] 43)).heap[w.heap.size]? = some (.cells #[.int .u32 0, .int .u32 0] 43 (0, 0)) := heap_alloc_new _ _
  have HH := Lib.hid (H _ hb0)
  obtain ⟨W0, hW0⟩ : ∃ W0, W0 = w.alloc (.cells #[.int .u32 0, .int .u32 0] 43) := ⟨_, rfl⟩
  rw [← hW0] at hb0 hl HH
  have B := Lib.hid hb0; have K := Lib.hid hl
  clear hb0 hl H
  go_enter Try.func32, Try.ntmps32
  go_upto_region 1 with fail
  rw [← hW0]; clear hW0
  go_upto_region 2 with (go_at_call 53; refine HH.out.mono ?_; rintro e w2 ⟨rfl, hb⟩; have K := Lib.hid ((hb.block _ (bk_lt K.out)).trans K.out); have B := Lib.hid (B.out.trans (hb.mono B.out.size)); clear hb)
  have f0 := bk_free K.out 0; have f1 := bk_free K.out 1
  have c0 := bk_cell K.out 0; have c1 := bk_cell K.out 1
  have HC := Lib.hid (bk_set (bk_set K.out 0 (.int .u32 S)) 1 (.int .u32 F))
  go_wp2_with fail
  have c5 := bk_cell HC.out 0; have c6 := bk_cell HC.out 1
  refine bodyPost_ret (v := .tuple #[.agg #[.int .u32 S, .int .u32 F], ev E]) (by simp [results, Try.results32, go_sem, c5, c6]) rfl ⟨rfl, (B.out.setCell (Nat.le_refl _) _).setCell (Nat.le_refl _) _⟩
theorem sparse32_yes (A : Option Addr) (l : List UInt8) (c : Nat) (w : World) (h : Rb w A l) (hA : A = none → c = 0) (hc : l.length ≤ c) (hl : l.length = 8) :
    Calls Try.prog 32 #[.slice A l.length c] w fun e w' => e = .returned (.tuple #[.agg #[.int .u32 ((ebv l / 4294967296 : Nat) : Int), .int .u32 ((ebv l % 4294967296 : Nat) : Int)], ev 0]) ∧ Below w.heap.size w w' :=
  sparse32_of A _ c _ _ 0 w (fun W hb => shalves32_yes A l c W (h.below hb) hA hc hl)
theorem sparse32_no (A : Option Addr) (l : List UInt8) (c : Nat) (w : World) (hl : l.length ≠ 8) :
    Calls Try.prog 32 #[.slice A l.length c] w fun e w' => e = .returned (.tuple #[.agg #[.int .u32 0, .int .u32 0], ev 2]) ∧ Below w.heap.size w w' :=
  sparse32_of A _ c _ _ 2 w (fun W hb => shalves32_no A l c W hl)

set_option maxHeartbeats 1600000 in
theorem sbytes16_any (n : Nat) (w : World) (hn : n < 4294967296) :
    Calls Try.prog 29 #[.agg #[.int .u16 ((n / 65536 : Nat) : Int), .int .u16 ((n % 65536 : Nat) : Int)]] w fun e w' =>
      ∃ g, w.heap.size ≤ g ∧ e = .returned (.slice (some ⟨g, 0, none⟩) (be 4 n).length (be 4 n).length) ∧ Bk w' g (be 4 n) ∧ Below w.heap.size w w' := by
  have h1 : (Lit.int .u16 ((n / 65536 : Nat) : Int)).wf = true := by simp [Lit.wf, IntKind.min, IntKind.max, IntKind.signed, IntKind.bits]; omega
  have h2 : (Lit.int .u16 ((n % 65536 : Nat) : Int)).wf = true := by simp [Lit.wf, IntKind.min, IntKind.max, IntKind.signed, IntKind.bits]; omega
  have hp : ∀ (g0 : Nat) (W : World), Rz .u16 W (some ⟨g0, 0, none⟩) [((n / 65536 : Nat) : Int), ((n % 65536 : Nat) : Int)] → Calls Try.prog 51 #[.slice none 0 0, .slice (some ⟨g0, 0, none⟩) 2 2] W fun e w' =>
      ∃ g, W.heap.size ≤ g ∧ e = .returned (.slice (some ⟨g, 0, none⟩) (be 4 n).length (be 4 n).length) ∧ Bk w' g (be 4 n) ∧ Below W.heap.size W w' := fun g0 W hr => by
    have := put16_any none (some ⟨g0, 0, none⟩) [] _ 0 2 W (Rb.nil none) (fun _ => rfl) hr (by decide) (by simp)
    rw [List.nil_append, be_four n] at this
    exact this
  generalize ((n / 65536 : Nat) : Int) = S at *
  generalize ((n % 65536 : Nat) : Int) = F at *
  generalize be 4 n = L at *
  obtain ⟨W0, hW0⟩ : ∃ W0, W0 = w.alloc (.cells #[.int .u16 S, .int .u16 F] 32) := ⟨_, rfl⟩
  have hb0 : Below w.heap.size w W0 := by rw [hW0]; exact (Below.refl _ _).alloc (Nat.le_refl _) _
  have hl : W0.heap[w.heap.size]? = some (.cells #[.int .u16 S, .int .u16 F] 32 (0, 0)) := by rw [hW0]; exact heap_alloc_new _ _
  have k1 := bk_cell hl 0; have k2 := bk_cell hl 1
  have HP := Lib.hid (fun o (W : World) (hW : W = W0.alloc o) => hp W0.heap.size W)
  have HR : Hid (∀ (T : TypeId), Rz .u16 (W0.alloc (.cells #[.int .u16 S, .int .u16 F] T)) (some ⟨W0.heap.size, 0, none⟩) [S, F]) := Lib.hid (fun T => rz2 (heap_alloc_new _ _) h1 h2)
  have B := Lib.hid hb0
  clear hl h1 h2 hp hn hb0
  go_enter Try.func29, Try.ntmps29
  go_upto_region 1 with fail
  rw [← hW0]; clear hW0
  go_wp2_with (go_at_call 51; refine (HP.out _ _ rfl (HR.out _)).mono ?_; rintro e w2 ⟨g, hg, rfl, hk, hb⟩; have K := Lib.hid hk; have G := Lib.hid (Nat.le_trans B.out.size (Nat.le_trans (by simp) hg)); have B := Lib.hid (bel_boxed B.out hb); clear hk hb hg)
  go_ret
  exact ⟨g, G.out, rfl, K.out, B.out⟩

set_option maxHeartbeats 1600000 in
theorem shalves16_yes (A : Option Addr) (l : List UInt8) (c : Nat) (w : World) (h : Rb w A l) (hA : A = none → c = 0) (hc : l.length ≤ c) (hl : l.length = 4) :
    Calls Try.prog 54 #[.slice A l.length c] w fun e w' => e = .returned (.tuple #[.int .u16 ((ebv l / 65536 : Nat) : Int), .int .u16 ((ebv l % 65536 : Nat) : Int), ev 0]) ∧ Below w.heap.size w w' := by
  have hz : rm l.length 0 2 2 = 0 := rm_fits (N := l.length) (a := 0) (k := 2) (by omega) (by omega)
  have HL := list16_yes A l c 0 2 w h hA hc (by omega) (by decide) (by decide) hz
  have eh := ebv_halves (l := l) (S := 2) (by omega)
  rw [show (256 : Nat) ^ 2 = 65536 by decide] at eh
  rw [show (2 : Int).toNat = 2 from rfl, show (0 : Int).toNat = 0 from rfl, eh, hl] at HL
  rw [hl]
  replace HL := Lib.hid HL
  generalize ((ebv l / 65536 : Nat) : Int) = S at *
  generalize ((ebv l % 65536 : Nat) : Int) = F at *
  clear eh hz h hA hc hl
  go_enter Try.func54, Try.ntmps54
  go_upto_region 6 with first
    | (go_at_call 67; refine (size16_any _).mono ?_; rintro e w' ⟨rfl, rfl⟩)
    | (go_at_call 70; refine HL.out.mono ?_; rintro e w2 ⟨g, hg, rfl, hk, hb⟩; have K := Lib.hid hk; have B := Lib.hid hb; clear hk hb hg)
  obtain ⟨c0, c1⟩ := wk2 K.out
  have d0 : w2.drew.cell? ⟨g, 0, none⟩ = some (.int .u16 S) := c0
  have d1 : w2.drew.cell? ⟨g, 1, none⟩ = some (.int .u16 F) := c1
  go_quiet (fail)
  go_wp2
  go_ret3
  exact ⟨rfl, B.out.trans ⟨rfl, rfl, rfl, Nat.le_refl _, fun _ _ => rfl⟩⟩
theorem shalves16_no (A : Option Addr) (l : List UInt8) (c : Nat) (w : World) (hl : l.length ≠ 4) :
    Calls Try.prog 54 #[.slice A l.length c] w fun e w' => e = .returned (.tuple #[.int .u16 0, .int .u16 0, ev 2]) ∧ Below w.heap.size w w' := by
  have d : ((l.length : Int) != 4) = true := bne_iff_ne.2 (by omega)
  generalize l.length = N at *
  go_enter Try.func54, Try.ntmps54
  go_wp2_with (go_at_call 67; refine (size16_any _).mono ?_; rintro e w' ⟨rfl, rfl⟩)
  go_ret3
  exact ⟨rfl, Below.refl _ _⟩
set_option maxHeartbeats 1600000 in
theorem sparse16_of (A : Option Addr) (N c : Nat) (S F E : Int) (w : World) 
    (H : ∀ W, Below w.heap.size w W → Calls Try.prog 54 #[.slice A N c] W fun e w' => e = .returned (.tuple #[.int .u16 S, .int .u16 F, ev E]) ∧ Below W.heap.size W w') :
    Calls Try.prog 33 #[.slice A N c] w fun e w' => e = .returned (.tuple #[.agg #[.int .u16 S, .int .u16 F], ev E]) ∧ Below w.heap.size w w' := by
  have hb0 : Below w.heap.size w (w.alloc (.cells #[.int .u16 0, .int .u16 0] 32)) := (Below.refl _ _).alloc (Nat.le_refl _) _
  have hl : (w.alloc (.cells #[.int .u16 0, .int .u16 0] 32)).heap[w.heap.size]? = some (.cells #[.int .u16 0, .int .u16 0] 32 (0, 0)) := heap_alloc_new _ _
  have HH := Lib.hid (H _ hb0)
  obtain ⟨W0, hW0⟩ : ∃ W0, W0 = w.alloc (.cells #[.int .u16 0, .int .u16 0] 32) := ⟨_, rfl⟩
  rw [← hW0] at hb0 hl HH
  have B := Lib.hid hb0; have K := Lib.hid hl
  clear hb0 hl H
  go_enter Try.func33, Try.ntmps33
  go_upto_region 1 with fail
  rw [← hW0]; clear hW0
  go_upto_region 2 with (go_at_call 54; refine HH.out.mono ?_; rintro e w2 ⟨rfl, hb⟩; have K := Lib.hid ((hb.block _ (bk_lt K.out)).trans K.out); have B := Lib.hid (B.out.trans (hb.mono B.out.size)); clear hb)
  have f0 := bk_free K.out 0; have f1 := bk_free K.out 1
  have c0 := bk_cell K.out 0; have c1 := bk_cell K.out 1
  have HC := Lib.hid (bk_set (bk_set K.out 0 (.int .u16 S)) 1 (.int .u16 F))
  go_wp2_with fail
  have c5 := bk_cell HC.out 0; have c6 := bk_cell HC.out 1
  refine bodyPost_ret (v := .tuple #[.agg #[.int .u16 S, .int .u16 F], ev E]) (by simp [results, Try.results33, go_sem, c5, c6]) rfl ⟨rfl, (B.out.setCell (Nat.le_refl _) _).setCell (Nat.le_refl _) _⟩
theorem sparse16_yes (A : Option Addr) (l : List UInt8) (c : Nat) (w : World) (h : Rb w A l) (hA : A = none → c = 0) (hc : l.length ≤ c) (hl : l.length = 4) :
    Calls Try.prog 33 #[.slice A l.length c] w fun e w' => e = .returned (.tuple #[.agg #[.int .u16 ((ebv l / 65536 : Nat) : Int), .int .u16 ((ebv l % 65536 : Nat) : Int)], ev 0]) ∧ Below w.heap.size w w' :=
  sparse16_of A _ c _ _ 0 w (fun W hb => shalves16_yes A l c W (h.below hb) hA hc hl)
theorem sparse16_no (A : Option Addr) (l : List UInt8) (c : Nat) (w : World) (hl : l.length ≠ 4) :
    Calls Try.prog 33 #[.slice A l.length c] w fun e w' => e = .returned (.tuple #[.agg #[.int .u16 0, .int .u16 0], ev 2]) ∧ Below w.heap.size w w' :=
  sparse16_of A _ c _ _ 2 w (fun W hb => shalves16_no A l c W hl)

/-- The number of bytes, however many, to 64 bits. -/
theorem ovalue_wide (A : Option Addr) (l : List UInt8) (c : Nat) (w : World) (h : Rb w A l) (hl : l.length ≤ 1000000) :
    Calls Try.prog 34 #[.slice A l.length c] w fun e w' => e = .returned (.int .u64 ((ebv l % 18446744073709551616 : Nat) : Int)) ∧ w = w' := by
  have hcell : ∀ k (hk : k < l.length), ∃ b off, A = some ⟨b, off, none⟩ ∧ b < w.heap.size ∧ w.cell? ⟨b, off + k, none⟩ = some (.int .u8 (l[k].toNat : Int)) := fun k hk => h.cell hk
  clear h
  go_enter Try.func34, Try.ntmps34
  go_wp2
  go_loop [3, 4] (fun r i => ∃ k : Nat, k ≤ l.length ∧ r = .int .u64 ((ebv (l.take k) % 18446744073709551616 : Nat) : Int) ∧ i = .int .i64 k) (fun _ i => l.length - (intOf i).toNat)
  case atStart => exact ⟨0, Nat.zero_le _, rfl, rfl⟩
  case round =>
    obtain ⟨k, hk, rfl, rfl⟩ := hrel
    by_cases hlt : k < l.length
    · obtain ⟨b, off, rfl, _, hc⟩ := hcell k hlt
      have he := ebv_step (l := l) (i := k) hlt
      have hb : l[k].toNat < 256 := l[k].toNat_lt
      clear hcell
      generalize l[k].toNat = x at *
      generalize ebv (l.take k) = n at *
      have hw : IntKind.u64.wrap (x : Int) = (x : Int) := IntWalk.u64_in _ (by omega)
      have hm : IntKind.u64.wrap (IntKind.u64.wrap (((n % 18446744073709551616 : Nat) : Int) * 256) + (x : Int)) = ((ebv (l.take (k + 1)) % 18446744073709551616 : Nat) : Int) := by
        rw [IntKind.wrap_u64, IntKind.wrap_u64, he]; omega
      obtain ⟨m, hme⟩ : ∃ m, m = ebv (l.take (k + 1)) % 18446744073709551616 := ⟨_, rfl⟩
      rw [← hme] at hm
      have HME := Lib.hid hme
      clear hme
      generalize n % 18446744073709551616 = r at *
      clear he
      have HM := Lib.hid hm; clear hm
      obtain ⟨y, hy⟩ : ∃ y, IntKind.u64.wrap ((r : Int) * 256) = y := ⟨_, rfl⟩
      have HM2 := Lib.hid (hy ▸ HM.out)
      have hm2 : IntKind.u64.wrap (y + (x : Int)) = (m : Int) := HM2.out
      clear HM HM2
      go_wp2
      go_round
      case rel => exact ⟨k + 1, by omega, int_eq (by rw [HME.out]), by go_num⟩
      case measure => simp [intOf]; omega
    · obtain rfl : k = l.length := by omega
      clear hcell
      go_wp2
      go_ret
      exact ⟨ret1_eq (int_eq rfl), rfl⟩
end Go.Proofs.Ytbffpallhofonaa
