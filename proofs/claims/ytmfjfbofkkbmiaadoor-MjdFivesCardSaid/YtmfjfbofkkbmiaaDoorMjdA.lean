/- Package mjd: epochOf, Count, Day, Word. -/
import Derived.Test.YtmfjfbofkkbmiaaDoorMjdM
import Derived.Test.YtmfjfbofkkbmiaaDoorPairs
import Derived.Test.YtmfjfbofkkbmiaaDoorDayB
namespace Go.Proofs.YtmfjfbofkkbmiaaDoor
open Go.RowKit
set_option linter.unusedVariables false

/-- The table of epochs. -/
def epsL : List (List UInt8 × Int) := [([], 0), ([109, 111, 100, 105, 102, 105, 101, 100], 40587), ([106, 117, 108, 105, 97, 110], 2440588), ([115, 116, 97, 109, 112, 101, 100], 25567), ([115, 97, 116, 101, 108, 108, 105, 116, 101], -3657)]
def Eps (w : World) : Prop := PairsAre Tryd.prog w "horologe/mjd.epochs" epsL
theorem geps : Tryd.prog.globalNamed "horologe/mjd.epochs" = some 0 := by kernel_rfl
theorem Eps.below {w w' : World} (h : Eps w) (hb : Below w.heap.size w w') : Eps w' := PairsAre.below h geps hb
theorem eps_of_head {rest : List (String × DataW Unit)} {W : World} (h : laidMet Tryd.prog (("horologe/mjd.epochs", pairData epsL) :: rest) W) : Eps W :=
  pairs_of_head geps (by kernel_rfl) Tryd.underlying66 Tryd.underlying50 Tryd.underlying9 Tryd.underlying2 rfl rfl (by kernel_rfl) (by kernel_rfl) (by kernel_rfl) h
theorem Eps.lt {w : World} (h : Eps w) : 0 < w.heap.size := PairsAre.lt h geps

theorem epoch_none (k : Int) (w : World) (h : ¬ kn k) :
    Calls Tryd.prog 24 #[.int .i64 k] w fun e w' => e = .returned (.tuple #[.agg #[.string ⟨#[]⟩, .int .i64 0], ev 11]) ∧ Below w.heap.size w w' := by
  unfold kn at h
  rcases (by omega : k < 1 ∨ (¬ k < 1 ∧ k > 4)) with a | ⟨a, b⟩
  all_goals
    clear h
    go_enter Tryd.func24, Tryd.ntmps24
    go_wp2
    refine bodyPost_ret (v := .tuple #[.agg #[.string ⟨#[]⟩, .int .i64 0], ev 11]) (by simp [results, Tryd.results24, go_sem, ev]) rfl ⟨rfl, (Below.refl _ _).alloc (Nat.le_refl _) _⟩

theorem epoch_some (k : Int) (w : World) (h : kn k) (he : Eps w) :
    Calls Tryd.prog 24 #[.int .i64 k] w fun e w' => e = .returned (.tuple #[.agg #[.string ⟨(ew k).toArray⟩, .int .i64 (ez k)], ev 0]) ∧ Below w.heap.size w w' := by
  have hlt := he.lt
  have c1 := PairsAre.cells he geps (i := 1) rfl
  have c2 := PairsAre.cells he geps (i := 2) rfl
  have c3 := PairsAre.cells he geps (i := 3) rfl
  have c4 := PairsAre.cells he geps (i := 4) rfl
  simp only [Nat.reduceMul, Nat.reduceAdd] at c1 c2 c3 c4
  obtain ⟨c1, d1⟩ := c1; obtain ⟨c2, d2⟩ := c2; obtain ⟨c3, d3⟩ := c3; obtain ⟨c4, d4⟩ := c4
  obtain ⟨-, g⟩ := kn_yes h
  clear h he
  rcases g with rfl | rfl | rfl | rfl
  · go_enter Tryd.func24, Tryd.ntmps24
    go_wp2
    refine bodyPost_ret (v := .tuple #[.agg #[.string ⟨#[109, 111, 100, 105, 102, 105, 101, 100]⟩, .int .i64 40587], ev 0]) (by simp [results, Tryd.results24, go_sem, ev]) rfl ⟨rfl, (Below.refl _ _).alloc (Nat.le_refl _) _⟩
  · go_enter Tryd.func24, Tryd.ntmps24
    go_wp2
    refine bodyPost_ret (v := .tuple #[.agg #[.string ⟨#[106, 117, 108, 105, 97, 110]⟩, .int .i64 2440588], ev 0]) (by simp [results, Tryd.results24, go_sem, ev]) rfl ⟨rfl, (Below.refl _ _).alloc (Nat.le_refl _) _⟩
  · go_enter Tryd.func24, Tryd.ntmps24
    go_wp2
    refine bodyPost_ret (v := .tuple #[.agg #[.string ⟨#[115, 116, 97, 109, 112, 101, 100]⟩, .int .i64 25567], ev 0]) (by simp [results, Tryd.results24, go_sem, ev]) rfl ⟨rfl, (Below.refl _ _).alloc (Nat.le_refl _) _⟩
  · go_enter Tryd.func24, Tryd.ntmps24
    go_wp2
    refine bodyPost_ret (v := .tuple #[.agg #[.string ⟨#[115, 97, 116, 101, 108, 108, 105, 116, 101]⟩, .int .i64 (-3657)], ev 0]) (by simp [results, Tryd.results24, go_sem, ev]) rfl ⟨rfl, (Below.refl _ _).alloc (Nat.le_refl _) _⟩
/-- A kind's row, or the empty one and ErrKind. -/
theorem epoch_any (k : Int) (w : World) (he : Eps w) :
    Calls Tryd.prog 24 #[.int .i64 k] w fun e w' => e = .returned (.tuple #[.agg #[.string ⟨(ew k).toArray⟩, .int .i64 (ez k)], ev (kE k)]) ∧ Below w.heap.size w w' := by
  by_cases h : kn k
  · rw [(kn_yes h).1]; exact epoch_some k w h he
  · obtain ⟨e1, e2, e3⟩ := kn_no h
    rw [e1, e2, e3]; exact epoch_none k w h

theorem word_any (k : Int) (w : World) (he : Eps w) :
    Calls Tryd.prog 13 #[.int .i64 k] w fun e w' => e = .returned (.string ⟨(ew k).toArray⟩) ∧ Below w.heap.size w w' := by
  have H := Lib.hid (epoch_any k w he)
  clear he
  generalize (⟨(ew k).toArray⟩ : ByteArray) = S at *
  generalize ez k = z at *
  generalize ev (kE k) = v at *
  go_enter Tryd.func13, Tryd.ntmps13
  go_wp2_with fail
  refine H.out.mono ?_
  rintro e w1 ⟨rfl, hb⟩
  have B1 := Lib.hid hb; clear hb
  go_wp2_with fail
  go_ret
  exact ⟨rfl, B1.out.alloc B1.out.size _⟩

theorem count7_any (k n : Int) (w : World) (he : Eps w) :
    Calls Tryd.prog 8 #[.int .i64 k, .int .i64 n] w fun e w' => e = .returned (.tuple #[.int .i64 (ctN k n), ev (ctE k n)]) ∧ Below w.heap.size w w' := by
  have H := Lib.hid (epoch_any k w he)
  clear he
  have hF := Lib.hid (fun w => first_any w)
  have hL := Lib.hid (fun w => last_any w)
  have q0 := fun op t W x k => guard_ev op t W x k
  have q2 := fun W k => neq_ev W k
  have b := ez_bd k
  generalize (⟨(ew k).toArray⟩ : ByteArray) = S at *
  by_cases h : kn k
  · rw [(kn_yes h).1] at H
    by_cases g : nod n
    · obtain ⟨e1, e2⟩ := ct_far h g
      rw [e1, e2]
      unfold nod at g
      clear e1 e2 h
      generalize ez k = z at *
      rcases (by omega : n < -4371587 ∨ (¬ n < -4371587 ∧ n > 2932896)) with a | ⟨a, a'⟩
      all_goals
        clear g
        go_enter Tryd.func8, Tryd.ntmps8
        go_wp2_with fail
        refine H.out.mono ?_
        rintro e w1 ⟨rfl, hb⟩
        have B1 := Lib.hid hb; clear hb
        go_wp2_with (first
          | (go_at_call 25; refine (hF.out _).mono ?_; rintro e w' ⟨rfl, rfl⟩)
          | (go_at_call 26; refine (hL.out _).mono ?_; rintro e w' ⟨rfl, rfl⟩))
        go_ret2
        exact ⟨rfl, B1.out.alloc B1.out.size _⟩
    · obtain ⟨e1, e2⟩ := ct_yes h g
      rw [e1, e2]
      unfold nod at g
      clear e1 e2 h
      generalize ez k = z at *
      have g1 : ¬ n < -4371587 := by omega
      have g2 : ¬ n > 2932896 := by omega
      clear g
      go_enter Tryd.func8, Tryd.ntmps8
      go_wp2_with fail
      refine H.out.mono ?_
      rintro e w1 ⟨rfl, hb⟩
      have B1 := Lib.hid hb; clear hb
      go_wp2_with (first
        | (go_at_call 25; refine (hF.out _).mono ?_; rintro e w' ⟨rfl, rfl⟩)
        | (go_at_call 26; refine (hL.out _).mono ?_; rintro e w' ⟨rfl, rfl⟩))
      go_ret2
      exact ⟨rfl, B1.out.alloc B1.out.size _⟩
  · obtain ⟨e1, e2⟩ := ct_no n h
    rw [e1, e2]
    rw [(kn_no h).2.2] at H
    clear e1 e2 h
    generalize ez k = z at *
    go_enter Tryd.func8, Tryd.ntmps8
    go_wp2_with fail
    refine H.out.mono ?_
    rintro e w1 ⟨rfl, hb⟩
    have B1 := Lib.hid hb; clear hb
    go_wp2_with fail
    go_ret2
    exact ⟨rfl, B1.out.alloc B1.out.size _⟩

end Go.Proofs.YtmfjfbofkkbmiaaDoor
