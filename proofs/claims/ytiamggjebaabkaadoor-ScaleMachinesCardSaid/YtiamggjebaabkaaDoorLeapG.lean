/- The document's answer for tables of leap seconds: Offset, Leap, Next, Same. -/
import Derived.Test.YtiamggjebaabkaaDoorLeapB
namespace Go.Proofs.YtiamggjebaabkaaDoor
open Go.RowKit
set_option linter.unusedVariables false
set_option linter.unusedSimpArgs false

theorem lp_hit {L : List Rw} (V : Vr L) {n : Int} {i : Nat} (h1 : 1 ≤ i) (hi : i < L.length) (h : rd L i - 1 = n) : lpN L n = ro L i - ro L (i - 1) := by
  have a := (nx_first V n h1 hi).1 (by omega)
  have e : nx L n = i := by
    rcases Nat.lt_or_ge (nx L n) i with c | c
    · have p := nx_pos L n
      have := (nx_first V n (i := nx L n) (by omega) (by omega)).2 (Nat.le_refl _)
      have := V.mono c hi
      omega
    · omega
  unfold lpN
  rw [e, if_pos ⟨hi, h⟩]
theorem lp_miss {L : List Rw} {n : Int} (h : ∀ i, 1 ≤ i → i < L.length → rd L i - 1 ≠ n) : lpN L n = 0 := by
  unfold lpN
  rw [if_neg]
  rintro ⟨h1, h2⟩
  exact h _ (nx_pos L n) h1 h2
theorem nx_hit {L : List Rw} (V : Vr L) {n : Int} {i : Nat} (h1 : 1 ≤ i) (hi : i < L.length) (h : n < rd L i) (hj : ∀ j, 1 ≤ j → j < i → ¬ n < rd L j) : nx L n = i := by
  have a := (nx_first V n h1 hi).1 h
  rcases Nat.lt_or_ge (nx L n) i with c | c
  · have p := nx_pos L n
    exact absurd ((nx_first V n (i := nx L n) (by omega) (by omega)).2 (Nat.le_refl _)) (hj _ (by omega) c)
  · omega
theorem nx_miss {L : List Rw} (V : Vr L) {n : Int} (h : ∀ i, 1 ≤ i → i < L.length → ¬ n < rd L i) : ¬ nx L n < L.length := by
  intro c
  have p := nx_pos L n
  exact h _ p c ((nx_first V n (i := nx L n) (by omega) c).2 (Nat.le_refl _))

/-- What the document's Offset has seen of the first k rows. -/
def onO (L : List Rw) (n : Int) (k : Nat) : Int := if cn L n k = 0 then 0 else ro L (cn L n k - 1)
def onB (L : List Rw) (n : Int) (k : Nat) : Bool := !decide (cn L n k = 0)
theorem on_yes {L : List Rw} {n : Int} {k : Nat} (h : rd L k ≤ n) : onO L n (k + 1) = ro L k ∧ onB L n (k + 1) = true := by
  unfold onO onB cn
  rw [if_pos h]
  simp
theorem on_no {L : List Rw} {n : Int} {k : Nat} (h : ¬ rd L k ≤ n) : onO L n (k + 1) = onO L n k ∧ onB L n (k + 1) = onB L n k := by
  unfold onO onB
  rw [show cn L n (k + 1) = cn L n k by rw [cn, if_neg h]]
  exact ⟨rfl, rfl⟩

theorem dbox (w : World) (A : Option Addr) (n c : Nat) (u e : Int) : ∃ W0, W0 = w.alloc (.cells #[.slice A n c, .int .i64 u, .int .i64 e] 41) ∧ Below w.heap.size w W0 ∧ W0.heap.size = w.heap.size + 1 ∧
    W0.cell? ⟨w.heap.size, 0, none⟩ = some (.slice A n c) ∧ W0.cell? ⟨w.heap.size, 1, none⟩ = some (.int .i64 u) ∧ W0.cell? ⟨w.heap.size, 2, none⟩ = some (.int .i64 e) := by
  have h := heap_alloc_new w (.cells #[.slice A n c, .int .i64 u, .int .i64 e] 41)
  exact ⟨_, rfl, bel_box w _, by simp, bk_cell h 0, bk_cell h 1, bk_cell h 2⟩

set_option maxHeartbeats 4000000 in
theorem roffset_any (A : Option Addr) (c : Nat) (L : List Rw) (u e n : Int) (w : World) (hr : Rp w.heap.size w A L) (hL : L.length ≤ 100000) :
    Calls Tryd.prog 26 #[.agg #[.slice A L.length c, .int .i64 u, .int .i64 e], .int .i64 n] w fun x w' => x = .returned (.tuple #[.int .i64 (ofN L n), .bool (ofB L n)]) ∧ Below w.heap.size w w' := by
  obtain ⟨W0, hW0, hb, hs, c0, c1, c2⟩ := dbox w A L.length c u e
  have HR := Lib.hid (hr.keep hb); have HB := Lib.hid hb
  show Calls _ _ _ _ fun x w' => x = .returned (.tuple #[.int .i64 (onO L n L.length), .bool (onB L n L.length)]) ∧ _
  obtain ⟨N, hN⟩ : ∃ N, L.length = N := ⟨_, rfl⟩
  rw [hN] at c0 hL hW0 ⊢
  have HN := Lib.hid hN
  clear hr hb hs c1 c2 hN
  go_enter Tryd.func26, Tryd.ntmps26
  go_upto_region 1 with fail
  rw [← hW0]
  clear hW0
  go_wp2
  go_loopg [6, 7, 8] N (fun gg s6 s7 s8 wr => ∃ k : Nat, k ≤ N ∧ N - k ≤ gg ∧ s6 = .int .i64 (onO L n k) ∧ s7 = .bool (onB L n k) ∧ s8 = .int .i64 k ∧ wr = W0)
  case atStart => exact ⟨0, Nat.zero_le _, by omega, rfl, rfl, rfl, rfl⟩
  case round =>
    obtain ⟨k, hk, hg, rfl, rfl, rfl, rfl⟩ := hrel
    by_cases hlt : k < N
    · have hltz : (k : Int) < (N : Int) := by omega
      obtain ⟨b, off, rfl, -, -, hc⟩ := HR.out.pos (by have := HN.out; omega)
      obtain ⟨d1, d2⟩ := hc k (by have := HN.out; omega)
      clear hc HR
      by_cases h : rd L k ≤ n
      · have E := Lib.hid (on_yes h)
        go_wp2
        go_roundg (N - (k + 1))
        case measure => omega
        case rel => exact ⟨k + 1, by omega, by omega, by rw [E.out.1], by rw [E.out.2], by go_num, rfl⟩
      · have E := Lib.hid (on_no h)
        go_wp2
        go_roundg (N - (k + 1))
        case measure => omega
        case rel => exact ⟨k + 1, by omega, by omega, by rw [E.out.1], by rw [E.out.2], by go_num, rfl⟩
    · have hltz : ¬ (k : Int) < (N : Int) := by omega
      obtain rfl : N = k := by omega
      go_wp2
      go_ret2
      exact ⟨rfl, HB.out⟩

set_option maxHeartbeats 4000000 in
theorem rleap10_any (A : Option Addr) (c : Nat) (L : List Rw) (u e n : Int) (w : World) (hr : Rp w.heap.size w A L) (V : Vr L) (hL : L.length ≤ 100000) :
    Calls Tryd.prog 42 #[.agg #[.slice A L.length c, .int .i64 u, .int .i64 e], .int .i64 n] w fun x w' => x = .returned (.int .i64 (lpN L n)) ∧ Below w.heap.size w w' := by
  obtain ⟨W0, hW0, hb, hs, c0, c1, c2⟩ := dbox w A L.length c u e
  have HR := Lib.hid (hr.keep hb); have HB := Lib.hid hb
  obtain ⟨N, hN⟩ : ∃ N, L.length = N := ⟨_, rfl⟩
  rw [hN] at c0 hL hW0 ⊢
  have HN := Lib.hid hN
  clear hr hb hs c1 c2 hN
  go_enter Tryd.func42, Tryd.ntmps42
  go_upto_region 1 with fail
  rw [← hW0]
  clear hW0
  go_wp2
  have HV := Lib.hid V
  clear V
  go_loopg [5] N (fun gg s5 wr => ∃ k : Nat, N - k ≤ gg ∧ s5 = .int .i64 ((k : Int) + 1) ∧ wr = W0 ∧ Hid (∀ i, 1 ≤ i → i < k + 1 → rd L i - 1 ≠ n))
  case atStart => exact ⟨0, by omega, rfl, rfl, Lib.hid fun i h1 h2 => by omega⟩
  case round =>
    obtain ⟨k, hg, rfl, rfl, F⟩ := hrel
    by_cases hlt : k + 1 < N
    · have hltz : (k : Int) + 1 < (N : Int) := by omega
      have hltz0 : (k : Int) < (N : Int) := by omega
      have hkz : (0 : Int) ≤ (k : Int) := by omega
      have hkb : (k : Int) ≤ 100000 := by omega
      have e1 : ((k : Int) + 1).toNat = k + 1 := by omega
      have HK := Lib.hid hlt
      obtain ⟨b, off, rfl, -, -, hc⟩ := HR.out.pos (by have := HN.out; omega)
      obtain ⟨d1, d2⟩ := hc (k + 1) (by have := HN.out; omega)
      obtain ⟨d3, d4⟩ := hc k (by have := HN.out; omega)
      have q0 := HV.out.day (k + 1) (by have := HN.out; omega)
      have o0 := HV.out.off (k + 1) (by have := HN.out; omega)
      have o1 := HV.out.off k (by have := HN.out; omega)
      have i0 : IntKind.i64.wrap ((k : Int) + 1 - 1) = (k : Int) := by rw [show (k : Int) + 1 - 1 = k by omega]; exact IntWalk.i64_in _ (by omega)
      have i1 : IntKind.i64.wrap (rd L (k + 1) - 1) = rd L (k + 1) - 1 := IntWalk.i64_in _ (by omega)
      have i2 : IntKind.i64.wrap (ro L (k + 1) - ro L k) = ro L (k + 1) - ro L k := IntWalk.i64_in _ (by omega)
      have q1 := q0.1
      have q2 := q0.2
      clear hc HR q0 o0 o1
      by_cases h : rd L (k + 1) - 1 = n
      · have E := Lib.hid (lp_hit HV.out (i := k + 1) (by omega) (by have := HN.out; have := HK.out; omega) h)
        go_wp2
        go_quiet (fail)
        go_wp2
        go_ret
        exact ⟨ret1_eq (int_eq E.out.symm), HB.out.trans (drewN_below _ _ _)⟩
      · have H := Lib.hid h
        go_wp2
        go_roundg (N - (k + 1))
        case measure => omega
        case rel =>
          refine ⟨k + 1, by omega, by go_num, rfl, Lib.hid fun i h1 h2 => ?_⟩
          by_cases e : i = k + 1
          · subst e; exact H.out
          · exact F.out i h1 (by omega)
    · have hltz : ¬ (k : Int) + 1 < (N : Int) := by omega
      have HK := Lib.hid hlt
      have E := Lib.hid (lp_miss (L := L) (n := n) fun i h1 h2 => F.out i h1 (by have := HN.out; have := HK.out; omega))
      go_wp2
      go_ret
      exact ⟨ret1_eq (int_eq E.out.symm), HB.out⟩

end Go.Proofs.YtiamggjebaabkaaDoor
