/- Merged: MjdA, MjdB, ListW. -/
import Derived.Test.YtiamggjebaabkaaGreatDoorGListPuts18
import Derived.Test.YtiamggjebaabkaaGreatDoorGListPuts19
namespace Go.Proofs.YtiamggjebaabkaaGreatDoor
open Go.RowKit
set_option linter.unusedVariables false

/-- The table of epochs. -/
def epsL : List (List UInt8 × Int) := [([], 0), ([109, 111, 100, 105, 102, 105, 101, 100], 40587), ([106, 117, 108, 105, 97, 110], 2440588), ([115, 116, 97, 109, 112, 101, 100], 25567), ([115, 97, 116, 101, 108, 108, 105, 116, 101], -3657)]
def Eps (w : World) : Prop := PairsAre Tryz.prog w "horologe/mjd.epochs" epsL
theorem geps : Tryz.prog.globalNamed "horologe/mjd.epochs" = some 1 := by kernel_rfl
theorem Eps.below {w w' : World} (h : Eps w) (hb : Below w.heap.size w w') : Eps w' := PairsAre.below h geps hb
theorem eps_of_head {rest : List (String × DataW Unit)} {W : World} (h : laidMet Tryz.prog (("horologe/mjd.epochs", pairData epsL) :: rest) W) : Eps W :=
  pairs_of_head geps (by kernel_rfl) Tryz.underlying225 Tryz.underlying192 Tryz.underlying9 Tryz.underlying2 rfl rfl (by kernel_rfl) (by kernel_rfl) (by kernel_rfl) h
theorem Eps.lt {w : World} (h : Eps w) : 1 < w.heap.size := PairsAre.lt h geps

theorem epoch_none (k : Int) (w : World) (h : ¬ kn k) :
    Calls Tryz.prog 120 #[.int .i64 k] w fun e w' => e = .returned (.tuple #[.agg #[.string ⟨#[]⟩, .int .i64 0], ev 11]) ∧ Below w.heap.size w w' := by
  unfold kn at h
  rcases (by omega : k < 1 ∨ (¬ k < 1 ∧ k > 4)) with a | ⟨a, b⟩
  all_goals
    clear h
    go_enter Tryz.func120, Tryz.ntmps120
    go_wp2
    refine bodyPost_ret (v := .tuple #[.agg #[.string ⟨#[]⟩, .int .i64 0], ev 11]) (by simp [results, Tryz.results120, go_sem, ev]) rfl ⟨rfl, (Below.refl _ _).alloc (Nat.le_refl _) _⟩

theorem epoch_some (k : Int) (w : World) (h : kn k) (he : Eps w) :
    Calls Tryz.prog 120 #[.int .i64 k] w fun e w' => e = .returned (.tuple #[.agg #[.string ⟨(ew k).toArray⟩, .int .i64 (ez k)], ev 0]) ∧ Below w.heap.size w w' := by
  have hlt := he.lt
  have c1 := PairsAre.cells he geps (i := 1) rfl
  have c2 := PairsAre.cells he geps (i := 2) rfl
  have c3 := PairsAre.cells he geps (i := 3) rfl
  have c4 := PairsAre.cells he geps (i := 4) rfl
  simp only [Nat.reduceMul, Nat.reduceAdd] at c1 c2 c3 c4
  obtain ⟨c1, d1⟩ := c1; obtain ⟨c2, d2⟩ := c2; obtain ⟨c3, d3⟩ := c3; obtain ⟨c4, d4⟩ := c4
  obtain ⟨-, g⟩ := kn_yes h
  clear h he
  rcases g with rfl | rfl | rfl | rfl
  · go_enter Tryz.func120, Tryz.ntmps120
    go_wp2
    refine bodyPost_ret (v := .tuple #[.agg #[.string ⟨#[109, 111, 100, 105, 102, 105, 101, 100]⟩, .int .i64 40587], ev 0]) (by simp [results, Tryz.results120, go_sem, ev]) rfl ⟨rfl, (Below.refl _ _).alloc (Nat.le_refl _) _⟩
  · go_enter Tryz.func120, Tryz.ntmps120
    go_wp2
    refine bodyPost_ret (v := .tuple #[.agg #[.string ⟨#[106, 117, 108, 105, 97, 110]⟩, .int .i64 2440588], ev 0]) (by simp [results, Tryz.results120, go_sem, ev]) rfl ⟨rfl, (Below.refl _ _).alloc (Nat.le_refl _) _⟩
  · go_enter Tryz.func120, Tryz.ntmps120
    go_wp2
    refine bodyPost_ret (v := .tuple #[.agg #[.string ⟨#[115, 116, 97, 109, 112, 101, 100]⟩, .int .i64 25567], ev 0]) (by simp [results, Tryz.results120, go_sem, ev]) rfl ⟨rfl, (Below.refl _ _).alloc (Nat.le_refl _) _⟩
  · go_enter Tryz.func120, Tryz.ntmps120
    go_wp2
    refine bodyPost_ret (v := .tuple #[.agg #[.string ⟨#[115, 97, 116, 101, 108, 108, 105, 116, 101]⟩, .int .i64 (-3657)], ev 0]) (by simp [results, Tryz.results120, go_sem, ev]) rfl ⟨rfl, (Below.refl _ _).alloc (Nat.le_refl _) _⟩
/-- A kind's row, or the empty one and ErrKind. -/
theorem epoch_any (k : Int) (w : World) (he : Eps w) :
    Calls Tryz.prog 120 #[.int .i64 k] w fun e w' => e = .returned (.tuple #[.agg #[.string ⟨(ew k).toArray⟩, .int .i64 (ez k)], ev (kE k)]) ∧ Below w.heap.size w w' := by
  by_cases h : kn k
  · rw [(kn_yes h).1]; exact epoch_some k w h he
  · obtain ⟨e1, e2, e3⟩ := kn_no h
    rw [e1, e2, e3]; exact epoch_none k w h

theorem count7_any (k n : Int) (w : World) (he : Eps w) :
    Calls Tryz.prog 91 #[.int .i64 k, .int .i64 n] w fun e w' => e = .returned (.tuple #[.int .i64 (ctN k n), ev (ctE k n)]) ∧ Below w.heap.size w w' := by
  have H := Lib.hid (epoch_any k w he)
  clear he
  have hF := Lib.hid (fun w => first_any w)
  have hL := Lib.hid (fun w => last_any w)
  have q0 := fun op t W x k => guard_ev op t W x k
  have q2 := fun W k => neq_ev W k
  have b := ez_bd k
  generalize (⟨(ew k).toArray⟩ : ByteArray) = S at *
  by_cases h : kn k
  · rw [(kn_yes h).1] at H
    by_cases g : nod n
    · obtain ⟨e1, e2⟩ := ct_far h g
      rw [e1, e2]
      unfold nod at g
      clear e1 e2 h
      generalize ez k = z at *
      rcases (by omega : n < -4371587 ∨ (¬ n < -4371587 ∧ n > 2932896)) with a | ⟨a, a'⟩
      all_goals
        clear g
        go_enter Tryz.func91, Tryz.ntmps91
        go_wp2_with fail
        refine H.out.mono ?_
        rintro e w1 ⟨rfl, hb⟩
        have B1 := Lib.hid hb; clear hb
        go_wp2_with (first
          | (go_at_call 121; refine (hF.out _).mono ?_; rintro e w' ⟨rfl, rfl⟩)
          | (go_at_call 122; refine (hL.out _).mono ?_; rintro e w' ⟨rfl, rfl⟩))
        go_ret2
        exact ⟨rfl, B1.out.alloc B1.out.size _⟩
    · obtain ⟨e1, e2⟩ := ct_yes h g
      rw [e1, e2]
      unfold nod at g
      clear e1 e2 h
      generalize ez k = z at *
      have g1 : ¬ n < -4371587 := by omega
      have g2 : ¬ n > 2932896 := by omega
      clear g
      go_enter Tryz.func91, Tryz.ntmps91
      go_wp2_with fail
      refine H.out.mono ?_
      rintro e w1 ⟨rfl, hb⟩
      have B1 := Lib.hid hb; clear hb
      go_wp2_with (first
        | (go_at_call 121; refine (hF.out _).mono ?_; rintro e w' ⟨rfl, rfl⟩)
        | (go_at_call 122; refine (hL.out _).mono ?_; rintro e w' ⟨rfl, rfl⟩))
      go_ret2
      exact ⟨rfl, B1.out.alloc B1.out.size _⟩
  · obtain ⟨e1, e2⟩ := ct_no n h
    rw [e1, e2]
    rw [(kn_no h).2.2] at H
    clear e1 e2 h
    generalize ez k = z at *
    go_enter Tryz.func91, Tryz.ntmps91
    go_wp2_with fail
    refine H.out.mono ?_
    rintro e w1 ⟨rfl, hb⟩
    have B1 := Lib.hid hb; clear hb
    go_wp2_with fail
    go_ret2
    exact ⟨rfl, B1.out.alloc B1.out.size _⟩

end Go.Proofs.YtiamggjebaabkaaGreatDoor

namespace Go.Proofs.YtiamggjebaabkaaGreatDoor
open Go.RowKit
set_option linter.unusedVariables false

theorem below_dn7 {B : Nat} {a w : World} (h : Below B a w) (n : Nat) : Below B a (w.drewN n) := ⟨h.os, h.tape, h.output, h.size, h.block⟩
end Go.Proofs.YtiamggjebaabkaaGreatDoor

namespace Go.Proofs.YtiamggjebaabkaaGreatDoor
open Go.RowKit Go.WideShapes Go.ChangeShapes
set_option linter.unusedVariables false
set_option linter.unusedSimpArgs false

theorem lepoch_any (w : World) (he : Eps w) : Calls Tryz.prog 64 #[] w fun x w' => x = .returned (.int .i64 25567) ∧ Below w.heap.size w w' := by
  have H := count7_any 3 0 w he
  rw [show ctN 3 0 = 25567 by decide, show ctE 3 0 = 0 by decide] at H
  have H' : Calls Tryz.prog 91 #[.int .i64 3, .int .i64 0] w fun e w' => e = .returned (.tuple #[.int .i64 25567, .nilIface]) ∧ Below w.heap.size w w' := H
  have HC := Lib.hid H'
  clear H H' he
  go_enter Tryz.func64, Tryz.ntmps64
  go_wp2_with (go_at_call 91; refine HC.out.mono ?_; rintro x w' ⟨rfl, hb⟩; have HB := Lib.hid hb; clear hb)
  go_ret
  exact ⟨rfl, HB.out⟩

/-- A time's box. -/
def Bi (w : World) (b : Nat) (n : Int) : Prop := w.heap[b]? = some (.cells #[.int .i64 n] 2 (0, 0))

set_option maxRecDepth 100000 in
set_option maxHeartbeats 4000000 in
theorem oncetime_no (q off : Nat) (p : Option Addr) (g k : Nat) (s : ByteArray) (w : World) (h : Sk Ts w g (.string s) k 0) (hk : k ≤ s.size) (hs : s.size ≤ 100000) (hc : w.cell? ⟨q, off, none⟩ = some (.pointer p)) (hq : q ≠ g)
    (hno : tmE s.data.toList k ≠ 0 ∨ p ≠ none) :
    Calls Tryz.prog 82 #[.pointer (some ⟨q, off, none⟩), .pointer (some ⟨g, 0, none⟩), .func (.func 83) #[] #[]] w fun x w' => x = .returned (ev 2) ∧ w.grownBy w' (some g) := by
  have HR := Lib.hid (readtime_s g k s w h hk hs)
  have hzt : tmE s.data.toList k = 0 ∨ tmE s.data.toList k = 2 := by rw [(tm_is _ _).1]; exact ti_zt _
  have HC := Lib.hid (show ∀ W, w.grownBy W (some g) → W.cell? ⟨q, off, none⟩ = some (.pointer p) from fun W hW => by
    have hlt := World.block_lt_of_cell? _ _ hc
    have := hW.block q hlt (by intro c; injection c with c; exact hq c)
    rw [← hc]; unfold World.cell?; rw [this])
  generalize tmN s.data.toList k = N at *
  rcases hzt with hE | hE
  · have hp : p ≠ none := hno.resolve_left (fun c => c hE)
    obtain ⟨ad, rfl⟩ : ∃ ad, p = some ad := by cases p with | none => exact absurd rfl hp | some ad => exact ⟨ad, rfl⟩
    rw [hE] at HR
    have HR' : Hid (Calls Tryz.prog 83 #[.pointer (some ⟨g, 0, none⟩)] w fun x w' => x = .returned (.tuple #[.int .i64 N, .nilIface]) ∧ ∃ K, Mv Ts g (.string s) K (tmE2 s.data.toList k) w w') := HR
    clear HR hE hno hp h hc hk hs
    go_enter Tryz.func82, Tryz.ntmps82
    go_wp2_with (go_at_call 83; refine HR'.out.mono ?_; rintro x w1 ⟨rfl, K, hm⟩; have M1 := Lib.hid hm.2; have c1 := HC.out _ (gb_alloc hm.2 (.cells #[.int .i64 N] 2)); clear hm)
    go_ret
    exact ⟨rfl, gb_alloc M1.out _⟩
  · rw [hE] at HR
    have HR' : Hid (Calls Tryz.prog 83 #[.pointer (some ⟨g, 0, none⟩)] w fun x w' => x = .returned (.tuple #[.int .i64 N, .iface 53 (.int .i64 2)]) ∧ ∃ K, Mv Ts g (.string s) K (tmE2 s.data.toList k) w w') := HR
    clear HR hE hno h hc hk hs
    go_enter Tryz.func82, Tryz.ntmps82
    go_wp2_with (go_at_call 83; refine HR'.out.mono ?_; rintro x w1 ⟨rfl, K, hm⟩; have M1 := Lib.hid hm.2; clear hm)
    go_ret
    exact ⟨rfl, gb_alloc M1.out _⟩
set_option maxRecDepth 100000 in
set_option maxHeartbeats 4000000 in
theorem oncetime_yes (q off : Nat) (g k : Nat) (s : ByteArray) (w : World) (h : Sk Ts w g (.string s) k 0) (hk : k ≤ s.size) (hs : s.size ≤ 100000) (hc : w.cell? ⟨q, off, none⟩ = some (.pointer none)) (hf : w.frozen? ⟨q, off, none⟩ = false) (hq : q ≠ g)
    (hE : tmE s.data.toList k = 0) :
    Calls Tryz.prog 82 #[.pointer (some ⟨q, off, none⟩), .pointer (some ⟨g, 0, none⟩), .func (.func 83) #[] #[]] w fun x w' => x = .returned (ev 0) ∧ ∃ W b, w.grownBy W (some g) ∧ w.heap.size ≤ b ∧ Bi W b (tmN s.data.toList k) ∧ w' = W.setCell ⟨q, off, none⟩ (.pointer (some ⟨b, 0, none⟩)) := by
  have HR := Lib.hid (readtime_s g k s w h hk hs)
  have HC := Lib.hid (show ∀ W, w.grownBy W (some g) → W.cell? ⟨q, off, none⟩ = some (.pointer none) ∧ W.frozen? ⟨q, off, none⟩ = false from fun W hW => by
    have hlt := World.block_lt_of_cell? _ _ hc
    have := hW.block q hlt (by intro c; injection c with c; exact hq c)
    refine ⟨by rw [← hc]; unfold World.cell?; rw [this], by rw [← hf]; unfold World.frozen?; rw [this]⟩)
  generalize tmN s.data.toList k = N at *
  rw [hE] at HR
  have HR' : Hid (Calls Tryz.prog 83 #[.pointer (some ⟨g, 0, none⟩)] w fun x w' => x = .returned (.tuple #[.int .i64 N, .nilIface]) ∧ ∃ K, Mv Ts g (.string s) K (tmE2 s.data.toList k) w w') := HR
  clear HR hE h hc hf hk hs
  go_enter Tryz.func82, Tryz.ntmps82
  go_wp2_with (go_at_call 83; refine HR'.out.mono ?_; rintro x w1 ⟨rfl, K, hm⟩; have M1 := Lib.hid hm.2; obtain ⟨c1, f1⟩ := HC.out _ (gb_alloc hm.2 (.cells #[.int .i64 N] 2)); clear hm)
  go_ret
  exact ⟨rfl, w1.alloc (.cells #[.int .i64 N] 2), w1.heap.size, gb_alloc M1.out _, M1.out.size, heap_alloc_new w1 _, rfl⟩

set_option maxRecDepth 100000 in
set_option maxHeartbeats 4000000 in
theorem oncesum_no (q off : Nat) (p : Option Addr) (g k : Nat) (s : ByteArray) (w : World) (hg : GE w) (n1 : g ≠ 7) (n2 : g ≠ 8) (h : Sk Ts w g (.string s) k 0) (hk : k ≤ s.size) (hs : s.size ≤ 100000) (hc : w.cell? ⟨q, off, none⟩ = some (.pointer p)) (hq : q ≠ g)
    (hno : dgE s.data.toList k ≠ 0 ∨ p ≠ none) :
    Calls Tryz.prog 84 #[.pointer (some ⟨q, off, none⟩), .pointer (some ⟨g, 0, none⟩), .func (.func 85) #[] #[]] w fun x w' => x = .returned (ev 2) ∧ w.grownBy w' (some g) := by
  have HR := Lib.hid (readdigest_s g k s w hg n1 n2 h hk hs)
  have hzt := dg_zt s.data.toList k
  have HC := Lib.hid (show ∀ W, w.grownBy W (some g) → W.cell? ⟨q, off, none⟩ = some (.pointer p) from fun W hW => by
    have hlt := World.block_lt_of_cell? _ _ hc
    have := hW.block q hlt (by intro c; injection c with c; exact hq c)
    rw [← hc]; unfold World.cell?; rw [this])
  rcases hzt with hE | hE
  · have hp : p ≠ none := hno.resolve_left (fun c => c hE)
    obtain ⟨ad, rfl⟩ : ∃ ad, p = some ad := by cases p with | none => exact absurd rfl hp | some ad => exact ⟨ad, rfl⟩
    have HR' : Hid (Calls Tryz.prog 85 #[.pointer (some ⟨g, 0, none⟩)] w fun x w' => (∃ D : List UInt8, x = .returned (.tuple #[.agg (bc D).toArray, .nilIface]) ∧ D.length = 20) ∧ w.grownBy w' (some g)) := Lib.hid (HR.out.mono fun x w' ⟨⟨D, hx, hD, _⟩, hb⟩ => ⟨⟨D, by rw [hx, hE]; rfl, hD⟩, hb⟩)
    clear HR hE hno hp h hc hk hs hg n1 n2
    go_enter Tryz.func84, Tryz.ntmps84
    go_wp2_with (first
      | (go_at_call 85; refine HR'.out.mono ?_; rintro x w1 ⟨⟨D, rfl, hD⟩, hm⟩; have M1 := Lib.hid hm; have HD := Lib.hid hD; have c1 := HC.out _ (gb_row (gb_alloc hm (.cells #[.int .u8 0, .int .u8 0, .int .u8 0, .int .u8 0, .int .u8 0, .int .u8 0, .int .u8 0, .int .u8 0, .int .u8 0, .int .u8 0, .int .u8 0, .int .u8 0, .int .u8 0, .int .u8 0, .int .u8 0, .int .u8 0, .int .u8 0, .int .u8 0, .int .u8 0, .int .u8 0] 49)) hm.size (bc D).toArray); clear hm hD)
      | (refine wpList_store_row rfl 49 (.tmp 7) (.tmp 13) rfl w1.heap.size (bc D).toArray rfl rfl 49 (bc (List.replicate 20 0)).toArray (heap_alloc_new w1 _) (by rw [dsize, List.size_toArray, bc_len, HD.out]) (by rw [List.size_toArray, List.size_toArray, bc_len, bc_len, HD.out]; rfl) (bc_all _) ?_))
    go_ret
    exact ⟨rfl, gb_row (gb_alloc M1.out _) M1.out.size _⟩
  · have HR' : Hid (Calls Tryz.prog 85 #[.pointer (some ⟨g, 0, none⟩)] w fun x w' => (∃ D : List UInt8, x = .returned (.tuple #[.agg (bc D).toArray, .iface 53 (.int .i64 2)]) ∧ D.length = 20) ∧ w.grownBy w' (some g)) := Lib.hid (HR.out.mono fun x w' ⟨⟨D, hx, hD, _⟩, hb⟩ => ⟨⟨D, by rw [hx, hE]; rfl, hD⟩, hb⟩)
    clear HR hE hno h hc hk hs hg n1 n2
    go_enter Tryz.func84, Tryz.ntmps84
    go_wp2_with (first
      | (go_at_call 85; refine HR'.out.mono ?_; rintro x w1 ⟨⟨D, rfl, hD⟩, hm⟩; have M1 := Lib.hid hm; have HD := Lib.hid hD; clear hm hD)
      | (refine wpList_store_row rfl 49 (.tmp 7) (.tmp 13) rfl w1.heap.size (bc D).toArray rfl rfl 49 (bc (List.replicate 20 0)).toArray (heap_alloc_new w1 _) (by rw [dsize, List.size_toArray, bc_len, HD.out]) (by rw [List.size_toArray, List.size_toArray, bc_len, bc_len, HD.out]; rfl) (bc_all _) ?_))
    go_ret
    exact ⟨rfl, gb_row (gb_alloc M1.out _) M1.out.size _⟩
set_option maxRecDepth 100000 in
set_option maxHeartbeats 4000000 in
theorem oncesum_yes (q off : Nat) (g k : Nat) (s : ByteArray) (w : World) (hg : GE w) (n1 : g ≠ 7) (n2 : g ≠ 8) (h : Sk Ts w g (.string s) k 0) (hk : k ≤ s.size) (hs : s.size ≤ 100000) (hc : w.cell? ⟨q, off, none⟩ = some (.pointer none)) (hf : w.frozen? ⟨q, off, none⟩ = false) (hq : q ≠ g)
    (hE : dgE s.data.toList k = 0) :
    Calls Tryz.prog 84 #[.pointer (some ⟨q, off, none⟩), .pointer (some ⟨g, 0, none⟩), .func (.func 85) #[] #[]] w fun x w' => x = .returned (ev 0) ∧ ∃ W b S, w.grownBy W (some g) ∧ w.heap.size ≤ b ∧ Bt 49 W b (byt S) ∧ (∀ j, j < 5 → n5 S j = hxN (dgW s.data.toList k j)) ∧ w' = W.setCell ⟨q, off, none⟩ (.pointer (some ⟨b, 0, none⟩)) := by
  have HR := Lib.hid (readdigest_s g k s w hg n1 n2 h hk hs)
  have HC := Lib.hid (show ∀ W, w.grownBy W (some g) → W.cell? ⟨q, off, none⟩ = some (.pointer none) ∧ W.frozen? ⟨q, off, none⟩ = false from fun W hW => by
    have hlt := World.block_lt_of_cell? _ _ hc
    have := hW.block q hlt (by intro c; injection c with c; exact hq c)
    refine ⟨by rw [← hc]; unfold World.cell?; rw [this], by rw [← hf]; unfold World.frozen?; rw [this]⟩)
  have HR' : Hid (Calls Tryz.prog 85 #[.pointer (some ⟨g, 0, none⟩)] w fun x w' => (∃ D : List UInt8, x = .returned (.tuple #[.agg (bc D).toArray, .nilIface]) ∧ D.length = 20 ∧ ∃ S : St, D = byt S ∧ ∀ j, j < 5 → n5 S j = hxN (dgW s.data.toList k j)) ∧ w.grownBy w' (some g)) := Lib.hid (HR.out.mono fun x w' ⟨⟨D, hx, hD, hS⟩, hb⟩ => ⟨⟨D, by rw [hx, hE]; rfl, hD, hS hE⟩, hb⟩)
  clear HR hE h hc hf hk hs hg n1 n2
  go_enter Tryz.func84, Tryz.ntmps84
  go_wp2_with (first
      | (go_at_call 85; refine HR'.out.mono ?_; rintro x w1 ⟨⟨D, rfl, hD, hS⟩, hm⟩; have M1 := Lib.hid hm; have HD := Lib.hid hD; have HS := Lib.hid hS; obtain ⟨c1, f1⟩ := HC.out _ (gb_row (gb_alloc hm (.cells #[.int .u8 0, .int .u8 0, .int .u8 0, .int .u8 0, .int .u8 0, .int .u8 0, .int .u8 0, .int .u8 0, .int .u8 0, .int .u8 0, .int .u8 0, .int .u8 0, .int .u8 0, .int .u8 0, .int .u8 0, .int .u8 0, .int .u8 0, .int .u8 0, .int .u8 0, .int .u8 0] 49)) hm.size (bc D).toArray); clear hm hD hS)
      | (refine wpList_store_row rfl 49 (.tmp 7) (.tmp 13) rfl w1.heap.size (bc D).toArray rfl rfl 49 (bc (List.replicate 20 0)).toArray (heap_alloc_new w1 _) (by rw [dsize, List.size_toArray, bc_len, HD.out]) (by rw [List.size_toArray, List.size_toArray, bc_len, bc_len, HD.out]; rfl) (bc_all _) ?_))
  go_ret
  obtain ⟨S, rfl, hS⟩ := HS.out
  exact ⟨rfl, (w1.alloc (.cells #[.int .u8 0, .int .u8 0, .int .u8 0, .int .u8 0, .int .u8 0, .int .u8 0, .int .u8 0, .int .u8 0, .int .u8 0, .int .u8 0, .int .u8 0, .int .u8 0, .int .u8 0, .int .u8 0, .int .u8 0, .int .u8 0, .int .u8 0, .int .u8 0, .int .u8 0, .int .u8 0] 49)).setRow w1.heap.size (bc (byt S)).toArray, w1.heap.size, S, gb_row (gb_alloc M1.out _) M1.out.size _, M1.out.size, setRow_heap _ _ _ _ _ _ (heap_alloc_new w1 _), hS, rfl⟩

end Go.Proofs.YtiamggjebaabkaaGreatDoor
