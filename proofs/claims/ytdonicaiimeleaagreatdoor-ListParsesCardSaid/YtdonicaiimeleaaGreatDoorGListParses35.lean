/- Merged: MjdA, MjdB, ListW, ListAC, Build. -/
import Derived.Test.YtdonicaiimeleaaGreatDoorGListParses34
import Derived.Test.YtdonicaiimeleaaGreatDoorGListParses14
import Derived.Test.YtdonicaiimeleaaGreatDoorGListParses5
import Derived.Deep.DeepCutAuto
import Derived.Deep.CutRange
import Derived.Deep.CutBlock
import Derived.LoopTactic
import Derived.Laws.Concat
import Derived.Test.YtdonicaiimeleaaGreatDoorGListParses4
import Derived.Test.YtdonicaiimeleaaGreatDoorGListParses1
import Derived.Shelf.Strings.Builder1
import Derived.Lib.Builder
import Derived.Lib.AppendStr
import Derived.Laws.Externs
namespace Go.Proofs.YtdonicaiimeleaaGreatDoor
open Go.RowKit
set_option linter.unusedVariables false

/-- The table of epochs. -/
def epsL : List (List UInt8 × Int) := [([], 0), ([109, 111, 100, 105, 102, 105, 101, 100], 40587), ([106, 117, 108, 105, 97, 110], 2440588), ([115, 116, 97, 109, 112, 101, 100], 25567), ([115, 97, 116, 101, 108, 108, 105, 116, 101], -3657)]
def Eps (w : World) : Prop := PairsAre Tryz.prog w "horologe/mjd.epochs" epsL
theorem geps : Tryz.prog.globalNamed "horologe/mjd.epochs" = some 4 := by kernel_rfl
theorem Eps.below {w w' : World} (h : Eps w) (hb : Below w.heap.size w w') : Eps w' := PairsAre.below h geps hb
theorem eps_of_head {rest : List (String × DataW Unit)} {W : World} (h : laidMet Tryz.prog (("horologe/mjd.epochs", pairData epsL) :: rest) W) : Eps W :=
  pairs_of_head geps (by kernel_rfl) Tryz.underlying217 Tryz.underlying191 Tryz.underlying9 Tryz.underlying2 rfl rfl (by kernel_rfl) (by kernel_rfl) (by kernel_rfl) h
theorem Eps.lt {w : World} (h : Eps w) : 4 < w.heap.size := PairsAre.lt h geps

theorem epoch_none (k : Int) (w : World) (h : ¬ kn k) :
    Calls Tryz.prog 117 #[.int .i64 k] w fun e w' => e = .returned (.tuple #[.agg #[.string ⟨#[]⟩, .int .i64 0], ev 11]) ∧ Below w.heap.size w w' := by
  unfold kn at h
  rcases (by omega : k < 1 ∨ (¬ k < 1 ∧ k > 4)) with a | ⟨a, b⟩
  all_goals
    clear h
    go_enter Tryz.func117, Tryz.ntmps117
    go_wp2
    refine bodyPost_ret (v := .tuple #[.agg #[.string ⟨#[]⟩, .int .i64 0], ev 11]) (by simp [results, Tryz.results117, go_sem, ev]) rfl ⟨rfl, (Below.refl _ _).alloc (Nat.le_refl _) _⟩

theorem epoch_some (k : Int) (w : World) (h : kn k) (he : Eps w) :
    Calls Tryz.prog 117 #[.int .i64 k] w fun e w' => e = .returned (.tuple #[.agg #[.string ⟨(ew k).toArray⟩, .int .i64 (ez k)], ev 0]) ∧ Below w.heap.size w w' := by
  have hlt := he.lt
  have c1 := PairsAre.cells he geps (i := 1) rfl
  have c2 := PairsAre.cells he geps (i := 2) rfl
  have c3 := PairsAre.cells he geps (i := 3) rfl
  have c4 := PairsAre.cells he geps (i := 4) rfl
  simp only [Nat.reduceMul, Nat.reduceAdd] at c1 c2 c3 c4
  obtain ⟨c1, d1⟩ := c1; obtain ⟨c2, d2⟩ := c2; obtain ⟨c3, d3⟩ := c3; obtain ⟨c4, d4⟩ := c4
  obtain ⟨-, g⟩ := kn_yes h
  clear h he
  rcases g with rfl | rfl | rfl | rfl
  · go_enter Tryz.func117, Tryz.ntmps117
    go_wp2
    refine bodyPost_ret (v := .tuple #[.agg #[.string ⟨#[109, 111, 100, 105, 102, 105, 101, 100]⟩, .int .i64 40587], ev 0]) (by simp [results, Tryz.results117, go_sem, ev]) rfl ⟨rfl, (Below.refl _ _).alloc (Nat.le_refl _) _⟩
  · go_enter Tryz.func117, Tryz.ntmps117
    go_wp2
    refine bodyPost_ret (v := .tuple #[.agg #[.string ⟨#[106, 117, 108, 105, 97, 110]⟩, .int .i64 2440588], ev 0]) (by simp [results, Tryz.results117, go_sem, ev]) rfl ⟨rfl, (Below.refl _ _).alloc (Nat.le_refl _) _⟩
  · go_enter Tryz.func117, Tryz.ntmps117
    go_wp2
    refine bodyPost_ret (v := .tuple #[.agg #[.string ⟨#[115, 116, 97, 109, 112, 101, 100]⟩, .int .i64 25567], ev 0]) (by simp [results, Tryz.results117, go_sem, ev]) rfl ⟨rfl, (Below.refl _ _).alloc (Nat.le_refl _) _⟩
  · go_enter Tryz.func117, Tryz.ntmps117
    go_wp2
    refine bodyPost_ret (v := .tuple #[.agg #[.string ⟨#[115, 97, 116, 101, 108, 108, 105, 116, 101]⟩, .int .i64 (-3657)], ev 0]) (by simp [results, Tryz.results117, go_sem, ev]) rfl ⟨rfl, (Below.refl _ _).alloc (Nat.le_refl _) _⟩
/-- A kind's row, or the empty one and ErrKind. -/
theorem epoch_any (k : Int) (w : World) (he : Eps w) :
    Calls Tryz.prog 117 #[.int .i64 k] w fun e w' => e = .returned (.tuple #[.agg #[.string ⟨(ew k).toArray⟩, .int .i64 (ez k)], ev (kE k)]) ∧ Below w.heap.size w w' := by
  by_cases h : kn k
  · rw [(kn_yes h).1]; exact epoch_some k w h he
  · obtain ⟨e1, e2, e3⟩ := kn_no h
    rw [e1, e2, e3]; exact epoch_none k w h

theorem count7_any (k n : Int) (w : World) (he : Eps w) :
    Calls Tryz.prog 94 #[.int .i64 k, .int .i64 n] w fun e w' => e = .returned (.tuple #[.int .i64 (ctN k n), ev (ctE k n)]) ∧ Below w.heap.size w w' := by
  have H := Lib.hid (epoch_any k w he)
  clear he
  have hF := Lib.hid (fun w => first_any w)
  have hL := Lib.hid (fun w => last_any w)
  have q0 := fun op t W x k => guard_ev op t W x k
  have q2 := fun W k => neq_ev W k
  have b := ez_bd k
  generalize (⟨(ew k).toArray⟩ : ByteArray) = S at *
  by_cases h : kn k
  · rw [(kn_yes h).1] at H
    by_cases g : nod n
    · obtain ⟨e1, e2⟩ := ct_far h g
      rw [e1, e2]
      unfold nod at g
      clear e1 e2 h
      generalize ez k = z at *
      rcases (by omega : n < -4371587 ∨ (¬ n < -4371587 ∧ n > 2932896)) with a | ⟨a, a'⟩
      all_goals
        clear g
        go_enter Tryz.func94, Tryz.ntmps94
        go_wp2_with fail
        refine H.out.mono ?_
        rintro e w1 ⟨rfl, hb⟩
        have B1 := Lib.hid hb; clear hb
        go_wp2_with (first
          | (go_at_call 118; refine (hF.out _).mono ?_; rintro e w' ⟨rfl, rfl⟩)
          | (go_at_call 119; refine (hL.out _).mono ?_; rintro e w' ⟨rfl, rfl⟩))
        go_ret2
        exact ⟨rfl, B1.out.alloc B1.out.size _⟩
    · obtain ⟨e1, e2⟩ := ct_yes h g
      rw [e1, e2]
      unfold nod at g
      clear e1 e2 h
      generalize ez k = z at *
      have g1 : ¬ n < -4371587 := by omega
      have g2 : ¬ n > 2932896 := by omega
      clear g
      go_enter Tryz.func94, Tryz.ntmps94
      go_wp2_with fail
      refine H.out.mono ?_
      rintro e w1 ⟨rfl, hb⟩
      have B1 := Lib.hid hb; clear hb
      go_wp2_with (first
        | (go_at_call 118; refine (hF.out _).mono ?_; rintro e w' ⟨rfl, rfl⟩)
        | (go_at_call 119; refine (hL.out _).mono ?_; rintro e w' ⟨rfl, rfl⟩))
      go_ret2
      exact ⟨rfl, B1.out.alloc B1.out.size _⟩
  · obtain ⟨e1, e2⟩ := ct_no n h
    rw [e1, e2]
    rw [(kn_no h).2.2] at H
    clear e1 e2 h
    generalize ez k = z at *
    go_enter Tryz.func94, Tryz.ntmps94
    go_wp2_with fail
    refine H.out.mono ?_
    rintro e w1 ⟨rfl, hb⟩
    have B1 := Lib.hid hb; clear hb
    go_wp2_with fail
    go_ret2
    exact ⟨rfl, B1.out.alloc B1.out.size _⟩

end Go.Proofs.YtdonicaiimeleaaGreatDoor

namespace Go.Proofs.YtdonicaiimeleaaGreatDoor
open Go.RowKit
set_option linter.unusedVariables false

theorem below_dn7 {B : Nat} {a w : World} (h : Below B a w) (n : Nat) : Below B a (w.drewN n) := ⟨h.os, h.tape, h.output, h.size, h.block⟩
end Go.Proofs.YtdonicaiimeleaaGreatDoor

namespace Go.Proofs.YtdonicaiimeleaaGreatDoor
open Go.RowKit Go.WideShapes Go.ChangeShapes
set_option linter.unusedVariables false
set_option linter.unusedSimpArgs false

theorem lepoch_any (w : World) (he : Eps w) : Calls Tryz.prog 66 #[] w fun x w' => x = .returned (.int .i64 25567) ∧ Below w.heap.size w w' := by
  have H := count7_any 3 0 w he
  rw [show ctN 3 0 = 25567 by decide, show ctE 3 0 = 0 by decide] at H
  have H' : Calls Tryz.prog 94 #[.int .i64 3, .int .i64 0] w fun e w' => e = .returned (.tuple #[.int .i64 25567, .nilIface]) ∧ Below w.heap.size w w' := H
  have HC := Lib.hid H'
  clear H H' he
  go_enter Tryz.func66, Tryz.ntmps66
  go_wp2_with (go_at_call 94; refine HC.out.mono ?_; rintro x w' ⟨rfl, hb⟩; have HB := Lib.hid hb; clear hb)
  go_ret
  exact ⟨rfl, HB.out⟩

/-- A time's box. -/
def Bi (w : World) (b : Nat) (n : Int) : Prop := w.heap[b]? = some (.cells #[.int .i64 n] 2 (0, 0))

set_option maxRecDepth 100000 in
set_option maxHeartbeats 4000000 in
theorem oncetime_no (q off : Nat) (p : Option Addr) (g k : Nat) (s : ByteArray) (w : World) (h : Sk Ts w g (.string s) k 0) (hk : k ≤ s.size) (hs : s.size ≤ 100000) (hc : w.cell? ⟨q, off, none⟩ = some (.pointer p)) (hq : q ≠ g)
    (hno : tmE s.data.toList k ≠ 0 ∨ p ≠ none) :
    Calls Tryz.prog 44 #[.pointer (some ⟨q, off, none⟩), .pointer (some ⟨g, 0, none⟩), .func (.func 45) #[] #[]] w fun x w' => x = .returned (ev 2) ∧ w.grownBy w' (some g) := by
  have HR := Lib.hid (readtime_s g k s w h hk hs)
  have hzt : tmE s.data.toList k = 0 ∨ tmE s.data.toList k = 2 := by rw [(tm_is _ _).1]; exact ti_zt _
  have HC := Lib.hid (show ∀ W, w.grownBy W (some g) → W.cell? ⟨q, off, none⟩ = some (.pointer p) from fun W hW => by
    have hlt := World.block_lt_of_cell? _ _ hc
    have := hW.block q hlt (by intro c; injection c with c; exact hq c)
    rw [← hc]; unfold World.cell?; rw [this])
  generalize tmN s.data.toList k = N at *
  rcases hzt with hE | hE
  · have hp : p ≠ none := hno.resolve_left (fun c => c hE)
    obtain ⟨ad, rfl⟩ : ∃ ad, p = some ad := by cases p with | none => exact absurd rfl hp | some ad => exact ⟨ad, rfl⟩
    rw [hE] at HR
    have HR' : Hid (Calls Tryz.prog 45 #[.pointer (some ⟨g, 0, none⟩)] w fun x w' => x = .returned (.tuple #[.int .i64 N, .nilIface]) ∧ ∃ K, Mv Ts g (.string s) K (tmE2 s.data.toList k) w w') := HR
    clear HR hE hno hp h hc hk hs
    go_enter Tryz.func44, Tryz.ntmps44
    go_wp2_with (go_at_call 45; refine HR'.out.mono ?_; rintro x w1 ⟨rfl, K, hm⟩; have M1 := Lib.hid hm.2; have c1 := HC.out _ (gb_alloc hm.2 (.cells #[.int .i64 N] 2)); clear hm)
    go_ret
    exact ⟨rfl, gb_alloc M1.out _⟩
  · rw [hE] at HR
    have HR' : Hid (Calls Tryz.prog 45 #[.pointer (some ⟨g, 0, none⟩)] w fun x w' => x = .returned (.tuple #[.int .i64 N, .iface 56 (.int .i64 2)]) ∧ ∃ K, Mv Ts g (.string s) K (tmE2 s.data.toList k) w w') := HR
    clear HR hE hno h hc hk hs
    go_enter Tryz.func44, Tryz.ntmps44
    go_wp2_with (go_at_call 45; refine HR'.out.mono ?_; rintro x w1 ⟨rfl, K, hm⟩; have M1 := Lib.hid hm.2; clear hm)
    go_ret
    exact ⟨rfl, gb_alloc M1.out _⟩
set_option maxRecDepth 100000 in
set_option maxHeartbeats 4000000 in
theorem oncetime_yes (q off : Nat) (g k : Nat) (s : ByteArray) (w : World) (h : Sk Ts w g (.string s) k 0) (hk : k ≤ s.size) (hs : s.size ≤ 100000) (hc : w.cell? ⟨q, off, none⟩ = some (.pointer none)) (hf : w.frozen? ⟨q, off, none⟩ = false) (hq : q ≠ g)
    (hE : tmE s.data.toList k = 0) :
    Calls Tryz.prog 44 #[.pointer (some ⟨q, off, none⟩), .pointer (some ⟨g, 0, none⟩), .func (.func 45) #[] #[]] w fun x w' => x = .returned (ev 0) ∧ ∃ W b, w.grownBy W (some g) ∧ w.heap.size ≤ b ∧ Bi W b (tmN s.data.toList k) ∧ w' = W.setCell ⟨q, off, none⟩ (.pointer (some ⟨b, 0, none⟩)) := by
  have HR := Lib.hid (readtime_s g k s w h hk hs)
  have HC := Lib.hid (show ∀ W, w.grownBy W (some g) → W.cell? ⟨q, off, none⟩ = some (.pointer none) ∧ W.frozen? ⟨q, off, none⟩ = false from fun W hW => by
    have hlt := World.block_lt_of_cell? _ _ hc
    have := hW.block q hlt (by intro c; injection c with c; exact hq c)
    refine ⟨by rw [← hc]; unfold World.cell?; rw [this], by rw [← hf]; unfold World.frozen?; rw [this]⟩)
  generalize tmN s.data.toList k = N at *
  rw [hE] at HR
  have HR' : Hid (Calls Tryz.prog 45 #[.pointer (some ⟨g, 0, none⟩)] w fun x w' => x = .returned (.tuple #[.int .i64 N, .nilIface]) ∧ ∃ K, Mv Ts g (.string s) K (tmE2 s.data.toList k) w w') := HR
  clear HR hE h hc hf hk hs
  go_enter Tryz.func44, Tryz.ntmps44
  go_wp2_with (go_at_call 45; refine HR'.out.mono ?_; rintro x w1 ⟨rfl, K, hm⟩; have M1 := Lib.hid hm.2; obtain ⟨c1, f1⟩ := HC.out _ (gb_alloc hm.2 (.cells #[.int .i64 N] 2)); clear hm)
  go_ret
  exact ⟨rfl, w1.alloc (.cells #[.int .i64 N] 2), w1.heap.size, gb_alloc M1.out _, M1.out.size, heap_alloc_new w1 _, rfl⟩

set_option maxRecDepth 100000 in
set_option maxHeartbeats 4000000 in
theorem oncesum_no (q off : Nat) (p : Option Addr) (g k : Nat) (s : ByteArray) (w : World) (hg : GE w) (n1 : g ≠ 6) (n2 : g ≠ 7) (h : Sk Ts w g (.string s) k 0) (hk : k ≤ s.size) (hs : s.size ≤ 100000) (hc : w.cell? ⟨q, off, none⟩ = some (.pointer p)) (hq : q ≠ g)
    (hno : dgE s.data.toList k ≠ 0 ∨ p ≠ none) :
    Calls Tryz.prog 46 #[.pointer (some ⟨q, off, none⟩), .pointer (some ⟨g, 0, none⟩), .func (.func 47) #[] #[]] w fun x w' => x = .returned (ev 2) ∧ w.grownBy w' (some g) := by
  have HR := Lib.hid (readdigest_s g k s w hg n1 n2 h hk hs)
  have hzt := dg_zt s.data.toList k
  have HC := Lib.hid (show ∀ W, w.grownBy W (some g) → W.cell? ⟨q, off, none⟩ = some (.pointer p) from fun W hW => by
    have hlt := World.block_lt_of_cell? _ _ hc
    have := hW.block q hlt (by intro c; injection c with c; exact hq c)
    rw [← hc]; unfold World.cell?; rw [this])
  rcases hzt with hE | hE
  · have hp : p ≠ none := hno.resolve_left (fun c => c hE)
    obtain ⟨ad, rfl⟩ : ∃ ad, p = some ad := by cases p with | none => exact absurd rfl hp | some ad => exact ⟨ad, rfl⟩
    have HR' : Hid (Calls Tryz.prog 47 #[.pointer (some ⟨g, 0, none⟩)] w fun x w' => (∃ D : List UInt8, x = .returned (.tuple #[.agg (bc D).toArray, .nilIface]) ∧ D.length = 20) ∧ w.grownBy w' (some g)) := Lib.hid (HR.out.mono fun x w' ⟨⟨D, hx, hD, _⟩, hb⟩ => ⟨⟨D, by rw [hx, hE]; rfl, hD⟩, hb⟩)
    clear HR hE hno hp h hc hk hs hg n1 n2
    go_enter Tryz.func46, Tryz.ntmps46
    go_wp2_with (first
      | (go_at_call 47; refine HR'.out.mono ?_; rintro x w1 ⟨⟨D, rfl, hD⟩, hm⟩; have M1 := Lib.hid hm; have HD := Lib.hid hD; have c1 := HC.out _ (gb_row (gb_alloc hm (.cells #[.int .u8 0, .int .u8 0, .int .u8 0, .int .u8 0, .int .u8 0, .int .u8 0, .int .u8 0, .int .u8 0, .int .u8 0, .int .u8 0, .int .u8 0, .int .u8 0, .int .u8 0, .int .u8 0, .int .u8 0, .int .u8 0, .int .u8 0, .int .u8 0, .int .u8 0, .int .u8 0] 74)) hm.size (bc D).toArray); clear hm hD)
      | (refine wpList_store_row rfl 74 (.tmp 7) (.tmp 13) rfl w1.heap.size (bc D).toArray rfl rfl 74 (bc (List.replicate 20 0)).toArray (heap_alloc_new w1 _) (by rw [dsize, List.size_toArray, bc_len, HD.out]) (by rw [List.size_toArray, List.size_toArray, bc_len, bc_len, HD.out]; rfl) (bc_all _) ?_))
    go_ret
    exact ⟨rfl, gb_row (gb_alloc M1.out _) M1.out.size _⟩
  · have HR' : Hid (Calls Tryz.prog 47 #[.pointer (some ⟨g, 0, none⟩)] w fun x w' => (∃ D : List UInt8, x = .returned (.tuple #[.agg (bc D).toArray, .iface 56 (.int .i64 2)]) ∧ D.length = 20) ∧ w.grownBy w' (some g)) := Lib.hid (HR.out.mono fun x w' ⟨⟨D, hx, hD, _⟩, hb⟩ => ⟨⟨D, by rw [hx, hE]; rfl, hD⟩, hb⟩)
    clear HR hE hno h hc hk hs hg n1 n2
    go_enter Tryz.func46, Tryz.ntmps46
    go_wp2_with (first
      | (go_at_call 47; refine HR'.out.mono ?_; rintro x w1 ⟨⟨D, rfl, hD⟩, hm⟩; have M1 := Lib.hid hm; have HD := Lib.hid hD; clear hm hD)
      | (refine wpList_store_row rfl 74 (.tmp 7) (.tmp 13) rfl w1.heap.size (bc D).toArray rfl rfl 74 (bc (List.replicate 20 0)).toArray (heap_alloc_new w1 _) (by rw [dsize, List.size_toArray, bc_len, HD.out]) (by rw [List.size_toArray, List.size_toArray, bc_len, bc_len, HD.out]; rfl) (bc_all _) ?_))
    go_ret
    exact ⟨rfl, gb_row (gb_alloc M1.out _) M1.out.size _⟩
set_option maxRecDepth 100000 in
set_option maxHeartbeats 4000000 in
theorem oncesum_yes (q off : Nat) (g k : Nat) (s : ByteArray) (w : World) (hg : GE w) (n1 : g ≠ 6) (n2 : g ≠ 7) (h : Sk Ts w g (.string s) k 0) (hk : k ≤ s.size) (hs : s.size ≤ 100000) (hc : w.cell? ⟨q, off, none⟩ = some (.pointer none)) (hf : w.frozen? ⟨q, off, none⟩ = false) (hq : q ≠ g)
    (hE : dgE s.data.toList k = 0) :
    Calls Tryz.prog 46 #[.pointer (some ⟨q, off, none⟩), .pointer (some ⟨g, 0, none⟩), .func (.func 47) #[] #[]] w fun x w' => x = .returned (ev 0) ∧ ∃ W b S, w.grownBy W (some g) ∧ w.heap.size ≤ b ∧ Bt 74 W b (byt S) ∧ (∀ j, j < 5 → n5 S j = hxN (dgW s.data.toList k j)) ∧ w' = W.setCell ⟨q, off, none⟩ (.pointer (some ⟨b, 0, none⟩)) := by
  have HR := Lib.hid (readdigest_s g k s w hg n1 n2 h hk hs)
  have HC := Lib.hid (show ∀ W, w.grownBy W (some g) → W.cell? ⟨q, off, none⟩ = some (.pointer none) ∧ W.frozen? ⟨q, off, none⟩ = false from fun W hW => by
    have hlt := World.block_lt_of_cell? _ _ hc
    have := hW.block q hlt (by intro c; injection c with c; exact hq c)
    refine ⟨by rw [← hc]; unfold World.cell?; rw [this], by rw [← hf]; unfold World.frozen?; rw [this]⟩)
  have HR' : Hid (Calls Tryz.prog 47 #[.pointer (some ⟨g, 0, none⟩)] w fun x w' => (∃ D : List UInt8, x = .returned (.tuple #[.agg (bc D).toArray, .nilIface]) ∧ D.length = 20 ∧ ∃ S : St, D = byt S ∧ ∀ j, j < 5 → n5 S j = hxN (dgW s.data.toList k j)) ∧ w.grownBy w' (some g)) := Lib.hid (HR.out.mono fun x w' ⟨⟨D, hx, hD, hS⟩, hb⟩ => ⟨⟨D, by rw [hx, hE]; rfl, hD, hS hE⟩, hb⟩)
  clear HR hE h hc hf hk hs hg n1 n2
  go_enter Tryz.func46, Tryz.ntmps46
  go_wp2_with (first
      | (go_at_call 47; refine HR'.out.mono ?_; rintro x w1 ⟨⟨D, rfl, hD, hS⟩, hm⟩; have M1 := Lib.hid hm; have HD := Lib.hid hD; have HS := Lib.hid hS; obtain ⟨c1, f1⟩ := HC.out _ (gb_row (gb_alloc hm (.cells #[.int .u8 0, .int .u8 0, .int .u8 0, .int .u8 0, .int .u8 0, .int .u8 0, .int .u8 0, .int .u8 0, .int .u8 0, .int .u8 0, .int .u8 0, .int .u8 0, .int .u8 0, .int .u8 0, .int .u8 0, .int .u8 0, .int .u8 0, .int .u8 0, .int .u8 0, .int .u8 0] 74)) hm.size (bc D).toArray); clear hm hD hS)
      | (refine wpList_store_row rfl 74 (.tmp 7) (.tmp 13) rfl w1.heap.size (bc D).toArray rfl rfl 74 (bc (List.replicate 20 0)).toArray (heap_alloc_new w1 _) (by rw [dsize, List.size_toArray, bc_len, HD.out]) (by rw [List.size_toArray, List.size_toArray, bc_len, bc_len, HD.out]; rfl) (bc_all _) ?_))
  go_ret
  obtain ⟨S, rfl, hS⟩ := HS.out
  exact ⟨rfl, (w1.alloc (.cells #[.int .u8 0, .int .u8 0, .int .u8 0, .int .u8 0, .int .u8 0, .int .u8 0, .int .u8 0, .int .u8 0, .int .u8 0, .int .u8 0, .int .u8 0, .int .u8 0, .int .u8 0, .int .u8 0, .int .u8 0, .int .u8 0, .int .u8 0, .int .u8 0, .int .u8 0, .int .u8 0] 74)).setRow w1.heap.size (bc (byt S)).toArray, w1.heap.size, S, gb_row (gb_alloc M1.out _) M1.out.size _, M1.out.size, setRow_heap _ _ _ _ _ _ (heap_alloc_new w1 _), hS, rfl⟩

end Go.Proofs.YtdonicaiimeleaaGreatDoor

namespace Go.Proofs.YtdonicaiimeleaaGreatDoor
open Go.RowKit Go.WideShapes Go.ChangeShapes
set_option linter.unusedVariables false
set_option linter.unusedSimpArgs false

theorem digits11_any (n : Int) (w : World) (hn : fits n) (ht : Tab w) : Calls Tryz.prog 50 #[.int .i64 n] w fun x w' => x = .returned (.string ⟨(ptL n 0).toArray⟩) ∧ Below w.heap.size w w' := by
  have H := Lib.hid (put_any n 0 w hn (by decide) ht)
  clear hn ht
  go_enter Tryz.func50, Tryz.ntmps50
  go_wp2_with (go_at_call 80; refine H.out.mono ?_; rintro x w' ⟨rfl, hb⟩; have HB := Lib.hid hb; clear hb)
  go_ret
  exact ⟨rfl, HB.out⟩

/-- The seconds from 1 January 1900 to the beginning of a day. -/
def sc11 (d : Int) : Int := (d + 25567) * 86400
theorem seconds_any (d : Int) (w : World) (he : Eps w) (hd : -100000000 ≤ d ∧ d ≤ 100000000) : Calls Tryz.prog 51 #[.int .i64 d] w fun x w' => x = .returned (.int .i64 (sc11 d)) ∧ Below w.heap.size w w' := by
  have H := Lib.hid (lepoch_any w he)
  have j1 : IntKind.i64.wrap (d + 25567) = d + 25567 := IntWalk.i64_in _ (by omega)
  have j2 : IntKind.i64.wrap ((d + 25567) * 86400) = (d + 25567) * 86400 := IntWalk.i64_in _ (by omega)
  unfold sc11
  clear he hd
  go_enter Tryz.func51, Tryz.ntmps51
  go_wp2_with (go_at_call 66; refine H.out.mono ?_; rintro x w' ⟨rfl, hb⟩; have HB := Lib.hid hb; clear hb)
  go_ret
  exact ⟨by simp [j1, j2], HB.out⟩

/-- Eight hexadecimal digits at a time, each behind a blank. -/
def w8 : Nat → List UInt8 → List UInt8
  | 0, _ => []
  | n + 1, h => 32 :: h.take 8 ++ w8 n (h.drop 8)
end Go.Proofs.YtdonicaiimeleaaGreatDoor

namespace Go.Proofs.YtdonicaiimeleaaGreatDoor
open Go.RowKit
set_option linter.unusedVariables false
set_option linter.unusedSimpArgs false

/-- The builder b holds the bytes l. -/
def Bd (w : World) (B b : Nat) (l : List UInt8) : Prop := Lib.IsBuilder 109 5 B b (Lib.byteCells l) w
theorem bd_info : (Tryz.prog.info? 5).map (fun i => (i.zero, i.size, i.bytes)) = some (some (.int .u8 0), 1, 1) := by kernel_rfl
theorem Bd.new (w : World) : Bd (w.alloc (.cells #[.pointer none, .slice none 0 0] 109)) w.heap.size w.heap.size [] :=
  .inl ⟨Nat.le_refl _, .slice none 0 0, heap_alloc_new w _, ⟨rfl, .inl ⟨rfl, rfl⟩⟩, by intro e; cases e⟩
theorem Bd.below {w w' : World} {B b : Nat} {l : List UInt8} (h : Bd w B b l) (hb : Below w.heap.size w w') : Bd w' B b l := by
  have k : ∀ p, Lib.BuilderAt 109 5 B b p (Lib.byteCells l) w → Lib.BuilderAt 109 5 B b p (Lib.byteCells l) w' := fun p ⟨h1, v, h2, h3, h4⟩ =>
    ⟨h1, v, (hb.block _ (bk_lt h2)).trans h2, ⟨h3.1, by
      rcases h3.2 with h0 | ⟨g, cap, cur, k1, k2, k3, k4⟩
      · exact .inl h0
      · exact .inr ⟨g, cap, cur, k1, k2, (hb.block g (bk_lt k3)).trans k3, k4⟩⟩, h4⟩
  rcases h with h | h
  · exact .inl (k _ h)
  · exact .inr (k _ h)
/-- Blocks of another type than bytes, but for the builder's own, stand as they stood. -/
def Keep8 (b : Nat) (w w' : World) : Prop := w.heap.size ≤ w'.heap.size ∧ ∀ k cs T fr, w.heap[k]? = some (.cells cs T fr) → T ≠ 5 → k ≠ b → w'.heap[k]? = some (.cells cs T fr)
theorem Keep8.refl (b : Nat) (w : World) : Keep8 b w w := ⟨Nat.le_refl _, fun _ _ _ _ h _ _ => h⟩
theorem Keep8.trans {b : Nat} {w w1 w2 : World} (h : Keep8 b w w1) (k : Keep8 b w1 w2) : Keep8 b w w2 := ⟨Nat.le_trans h.1 k.1, fun j cs T fr a c d => k.2 j cs T fr (h.2 j cs T fr a c d) c d⟩
theorem Keep8.below {b : Nat} {w w1 : World} (h : Below w.heap.size w w1) : Keep8 b w w1 := ⟨h.size, fun j cs T fr a _ _ => (h.block j (bk_lt a)).trans a⟩
theorem Keep8.set (b i : Nat) (w : World) (v : Value) : Keep8 b w (w.setCell ⟨b, i, none⟩ v) := ⟨by simp [World.setCell], fun j cs T fr a _ d => (Below.heap_setCell w ⟨b, i, none⟩ v j d).trans a⟩

set_option maxRecDepth 100000 in
set_option maxHeartbeats 1000000 in
theorem copycheck_any (B b : Nat) (l : List UInt8) (w : World) (h : Bd w B b l) : Calls Tryz.prog 79 #[.pointer (some ⟨b, 0, none⟩)] w fun e w' => e = .returned (.tuple #[]) ∧ Lib.BuilderAt 109 5 B b (.pointer (some ⟨b, 0, none⟩)) (Lib.byteCells l) w' ∧ Below B w w' ∧ Keep8 b w w' := by
  rcases h with h | h
  · have HK := Lib.hid (And.intro (h.used (.pointer (some ⟨b, 0, none⟩))) (And.intro ((Below.refl B w).setCell (p := ⟨b, 0, none⟩) h.1 (.pointer (some ⟨b, 0, none⟩))) (Keep8.set b 0 w (.pointer (some ⟨b, 0, none⟩)))))
    have c0 := h.cell0
    have f0 := h.frozen0
    have hsh := h.shape
    clear h
    obtain ⟨j, hj, hjs⟩ := Option.map_eq_some_iff.1 (show (Tryz.prog.info? 109).map (·.size) = some 2 by kernel_rfl)
    go_enter Tryz.func79, Tryz.ntmps79
    go_wp2
    rw [Lib.run_to_unsafe w ⟨b, 0, none⟩ Tryz.underlying107 Tryz.underlying168 hj (by rw [hjs]; decide) hsh (Nat.zero_lt_succ 1)]
    simp only [Result.andThen]
    rw [Oper.upon_value]
    go_wp2
    rw [run_callFunc_extern Tryz.func103 (by kernel_rfl) (by kernel_rfl) (by kernel_rfl) (e := Extern.AbiNoEscape.same) (by kernel_rfl)]
    rw [Lib.run_noEscape]
    simp only [Result.andThen]
    rw [Oper.upon_value]
    go_wp2
    rw [Lib.run_from_unsafe w ⟨b, 0, none⟩ Tryz.underlying168 Tryz.underlying107 hj hsh (by kernel_rfl)]
    simp only [Result.andThen]
    rw [Oper.upon_value]
    go_wp2
    go_end0
    exact ⟨rfl, HK.out⟩
  · have HK := Lib.hid h
    have c0 := h.cell0
    clear h
    obtain ⟨j, hj, hjs⟩ := Option.map_eq_some_iff.1 (show (Tryz.prog.info? 109).map (·.size) = some 2 by kernel_rfl)
    go_enter Tryz.func79, Tryz.ntmps79
    go_wp2
    rw [Lib.run_neq_ptr_same w _ Tryz.underlying107 hj]
    go_wp2
    go_end0
    exact ⟨rfl, HK.out, Below.refl B _, Keep8.refl b _⟩
set_option maxRecDepth 100000 in
set_option maxHeartbeats 1000000 in
theorem writestring_any (B b : Nat) (l m : List UInt8) (w : World) (h : Bd w B b l) (hlen : l.length + m.length ≤ 10000000) (hBw : B ≤ w.heap.size) :
    Calls Tryz.prog 49 #[.pointer (some ⟨b, 0, none⟩), .string ⟨m.toArray⟩] w fun e w' => (∃ v, e = .returned v) ∧ Bd w' B b (l ++ m) ∧ Below B w w' ∧ Keep8 b w w' := by
  obtain ⟨i0, hi, hz0, hz1, hz2⟩ := info_parts bd_info
  have HC := Lib.hid (copycheck_any B b l w h)
  obtain ⟨s, hs⟩ : ∃ s : ByteArray, s = ⟨m.toArray⟩ := ⟨_, rfl⟩
  have hsm : Lib.strCells s = Lib.byteCells m := by rw [hs]; simp [Lib.strCells, Lib.byteCells]
  have hsz : s.size = m.length := by rw [hs]; simp [ByteArray.size]
  rw [← hs]
  clear h hs
  go_enter Tryz.func49, Tryz.ntmps49
  go_wp2_with (go_at_call 79; refine HC.out.mono ?_)
  rintro e w1 ⟨rfl, h1, hb1, hk1⟩
  obtain ⟨hB, v, hbk, hown, hne⟩ := h1
  have c0 : w1.cell? ⟨b, 0, none⟩ = some (.pointer (some ⟨b, 0, none⟩)) := bk_cell hbk 0
  have c1 : w1.cell? ⟨b, 1, none⟩ = some v := bk_cell hbk 1
  go_wp2_with (at_builtin; refine Lib.wpList_append_own_string _ rfl _ _ 84 9 rfl B 5 i0 Tryz.underlying84 Tryz.underlying9 hi hz0 hz1 hz2 _ _ _ rfl hown s rfl ?c3 ?c4 ?c5 ?_)
  case c3 => rw [Lib.byteCells_length]; unfold maxLen; omega
  case c4 => rw [Lib.byteCells_length]; omega
  case c5 => have := hb1.size; omega
  intro v' w2 hown' hgrow _
  have hlt : b < w1.heap.size := bk_lt hbk
  have hb2 : w2.heap[b]? = some (.cells #[.pointer (some ⟨b, 0, none⟩), v] 109 (0, 0)) := (hgrow.block b hlt (fun e => hne e.symm)).trans hbk
  have d0 : w2.cell? ⟨b, 0, none⟩ = some (.pointer (some ⟨b, 0, none⟩)) := bk_cell hb2 0
  have d1 : w2.cell? ⟨b, 1, none⟩ = some v := bk_cell hb2 1
  have f1 : w2.frozen? ⟨b, 1, none⟩ = false := bk_free hb2 1
  obtain ⟨ao, n', cap, rfl⟩ : ∃ ao n' cap, v' = .slice ao n' cap := by
    rcases hown'.2 with ⟨hv, _⟩ | ⟨g, cap, cur, hv, _⟩
    · exact ⟨_, _, _, hv⟩
    · exact ⟨_, _, _, hv⟩
  have HK8 := Lib.hid (hk1.trans (Keep8.trans (w1 := w2) ⟨hgrow.size, fun k cs T fr a c d => (hgrow.block k (bk_lt a) (fun e => by
      rcases hown.2 with ⟨hv, _⟩ | ⟨g, cap9, cur, hv, _, k3, _⟩
      · rw [hv] at e; cases e
      · rw [hv] at e
        injection e with e
        subst e
        rw [k3] at a
        injection a with a
        injection a with _ a _
        exact c a.symm)).trans a⟩ (Keep8.set b 1 w2 (.slice ao n' cap))))
  have HP : Hid (Lib.BuilderAt 109 5 B b (.pointer (some ⟨b, 0, none⟩)) (Lib.byteCells (l ++ m)) (w2.setCell ⟨b, 1, none⟩ (.slice ao n' cap)) ∧ Below B w (w2.setCell ⟨b, 1, none⟩ (.slice ao n' cap))) := Lib.hid ⟨Lib.BuilderAt.put (T := 109) (e := 5) hB hb2 (bs' := Lib.byteCells (l ++ m)) (by
      have e9 : Lib.byteCells (l ++ m) = Lib.byteCells l ++ Lib.strCells s := by rw [hsm]; simp [Lib.byteCells]
      rw [e9, List.length_append, Lib.strCells_length, hsm, hsz]; exact hown') (by decide), (hb1.grown hgrow (by have := hb1.size; omega) (fun k hk => (hown.lt k hk).1)).setCell (p := ⟨b, 1, none⟩) hB _⟩
  clear hown hown' hgrow hbk hb2 hb1 hk1 hsm c0 c1 hne
  go_wp2
  go_ret2
  exact ⟨⟨_, rfl⟩, .inr HP.out.1, HP.out.2, HK8.out⟩

end Go.Proofs.YtdonicaiimeleaaGreatDoor
