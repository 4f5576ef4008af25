/- Merged: RulV. -/
import Derived.Test.YtkhcneacjnpcnaaGPosixParses17
import Derived.Test.YtkhcneacjnpcnaaGPosixParses33
namespace Go.Proofs.Ytkhcneacjnpcnaa
open Go.RowKit Go.WideShapes Go.ChangeShapes
set_option linter.unusedVariables false
set_option linter.unusedSimpArgs false

/-! plain -/
/-- A byte more. -/
theorem spt_end (c : UInt8) : ∀ l : List UInt8, ∃ ps q, spt c l = ps ++ [q] ∧ spt c (l ++ [c]) = ps ++ [q] ++ [[]] ∧ (∀ b, b ≠ c → spt c (l ++ [b]) = ps ++ [q ++ [b]]) ∧ ps.length + q.length ≤ l.length
  | [] => ⟨[], [], rfl, by simp [spt], fun b h => by simp [spt, h], by simp⟩
  | a :: l => by
    obtain ⟨ps, q, h1, h2, h3, h4⟩ := spt_end c l
    by_cases e : a = c
    · refine ⟨[] :: ps, q, by rw [spt, if_pos e, h1]; rfl, by rw [List.cons_append, spt, if_pos e, h2]; rfl, fun b hb => by rw [List.cons_append, spt, if_pos e, h3 b hb]; rfl, by simp; omega⟩
    · cases ps with
      | nil =>
        refine ⟨[], a :: q, by rw [spt, if_neg e, h1]; rfl, by rw [List.cons_append, spt, if_neg e, h2]; rfl, fun b hb => by rw [List.cons_append, spt, if_neg e, h3 b hb]; rfl, by simp at h4 ⊢; omega⟩
      | cons p ps =>
        refine ⟨(a :: p) :: ps, q, by rw [spt, if_neg e, h1]; rfl, by rw [List.cons_append, spt, if_neg e, h2]; rfl, fun b hb => by rw [List.cons_append, spt, if_neg e, h3 b hb]; rfl, by simp at h4 ⊢; omega⟩

/-! number -/
def nuB (i j : Nat) (a : List UInt8) : Bool := decide (fg i j a)
def nuN (i j : Nat) (a : List UInt8) : Int := if fg i j a then ((dv a : Nat) : Int) else 0
set_option maxHeartbeats 1000000 in
theorem number_any (s : ByteArray) (i j : Nat) (w : World) (hj : j ≤ 5) (hs : s.size ≤ 100000) :
    Calls Try.prog 33 #[.string s, .int .i64 i, .int .i64 j] w fun e w' => e = .returned (.tuple #[.int .i64 (nuN i j s.data.toList), .bool (nuB i j s.data.toList)]) ∧ w = w' := by
  have hM := many_any s w (by unfold maxLen; omega)
  have hsz : s.data.toList.length = s.size := by simp
  have hle := lead_le s.data.toList
  have hd : (fg i j s.data.toList ∧ i ≤ s.size ∧ s.size ≤ j ∧ lead s.data.toList = s.size) ∨ (¬ fg i j s.data.toList ∧ (s.size < i ∨ (¬ s.size < i ∧ j < s.size) ∨ (¬ s.size < i ∧ ¬ j < s.size ∧ lead s.data.toList < s.size))) := by
    unfold fg; rw [hsz]; rw [hsz] at hle; omega
  have HM := Lib.hid hM
  clear hM
  rcases hd with ⟨f, h1, h2, h3⟩ | ⟨f, h⟩
  · have e1 : nuN i j s.data.toList = ((dv s.data.toList : Nat) : Int) := if_pos f
    have e2 : nuB i j s.data.toList = true := decide_eq_true f
    rw [e1, e2]
    rw [h3] at HM
    have t3 : decide (s.size < s.size) = false := decide_eq_false (by omega)
    have HI := Lib.hid (fg_isd f)
    have HS := Lib.hid hsz
    obtain ⟨R, hR⟩ : ∃ R : Nat, R = dv s.data.toList := ⟨_, rfl⟩
    have HR := Lib.hid hR
    rw [← hR]
    have hs5 : s.size ≤ 5 := by omega
    have t1 : decide (s.size < i) = false := decide_eq_false (by omega)
    have t2 : decide (j < s.size) = false := decide_eq_false (by omega)
    clear e1 e2 f h1 h2 h3 hle hsz hR hj hs
    go_enter Try.func33, Try.ntmps33
    go_wp2_with (go_at_call 48; refine HM.out.mono ?_; rintro e w' ⟨rfl, rfl⟩)
    clear HM t1 t2 t3
    go_loop [8, 9] (fun n i => ∃ k N : Nat, k ≤ s.size ∧ i = .int .i64 k ∧ RowKit.Hid (N = dv (s.data.toList.take k)) ∧ N < 100000 ∧ n = .int .i64 N) (fun _ i => s.size - (intOf i).toNat)
    case atStart => exact ⟨0, 0, Nat.zero_le _, rfl, by show _ = _; simp [dv], by omega, rfl⟩
    case round =>
      obtain ⟨k, N, hk, rfl, HN, nb, rfl⟩ := hrel
      by_cases hlt : k < s.size
      · have hb := isd_bd (HI.out s[k] (by rw [← at_list s k hlt]; exact List.getElem_mem _))
        have hst := dv_step hlt
        have hlen : (s.data.toList.take (k + 1)).length ≤ 5 := by rw [List.length_take]; omega
        have hb2 := dv_lt (l := s.data.toList.take (k + 1)) fun b hb => HI.out b (List.mem_of_mem_take hb)
        have hb3 : 10 ^ (s.data.toList.take (k + 1)).length ≤ 10 ^ 5 := Nat.pow_le_pow_right (by decide) hlen
        rw [hst, ← HN.out] at hb2
        have HNN : RowKit.Hid (10 * N + (s[k].toNat - 48) = dv (s.data.toList.take (k + 1))) := by show _ = _; rw [hst, HN.out]
        have nb2 : 10 * N + (s[k].toNat - 48) < 100000 := by omega
        clear hst hlen hb2 hb3
        go_wp2
        go_round
        case rel => exact ⟨k + 1, 10 * N + (s[k].toNat - 48), by omega, by go_num, HNN, nb2, by congr 1; omega⟩
        case measure => simp [intOf]; omega
      · have e : k = s.size := by omega
        subst e
        obtain rfl : R = N := by
          have h := HN.out
          rw [List.take_of_length_le (by rw [HS.out]; exact Nat.le_refl _)] at h; rw [h]; exact HR.out
        go_wp2
        go_ret2
        exact ⟨rfl, rfl⟩
  · have e1 : nuN i j s.data.toList = 0 := if_neg f
    have e2 : nuB i j s.data.toList = false := decide_eq_false f
    rw [e1, e2]
    clear e1 e2 f hle hsz hj hs
    rcases h with h | ⟨h1, h⟩ | ⟨h1, h2, h3⟩
    · have t1 : decide (s.size < i) = true := decide_eq_true (by omega)
      clear h
      go_enter Try.func33, Try.ntmps33
      go_wp2
      go_ret2
      exact ⟨rfl, rfl⟩
    · have t1 : decide (s.size < i) = false := decide_eq_false (by omega)
      have t2 : decide (j < s.size) = true := decide_eq_true (by omega)
      clear h h1
      go_enter Try.func33, Try.ntmps33
      go_wp2
      go_ret2
      exact ⟨rfl, rfl⟩
    · have t1 : decide (s.size < i) = false := decide_eq_false (by omega)
      have t2 : decide (j < s.size) = false := decide_eq_false (by omega)
      have t3 : decide (lead s.data.toList < s.size) = true := decide_eq_true (by omega)
      generalize lead s.data.toList = z at *
      clear h1 h2 h3
      go_enter Try.func33, Try.ntmps33
      go_wp2_with (go_at_call 48; refine HM.out.mono ?_; rintro e w' ⟨rfl, rfl⟩)
      go_ret2
      exact ⟨rfl, rfl⟩

/-! parts -/
theorem Os.one (w : World) : Os (w.alloc (.cells #[.string ⟨#[]⟩] 9)) w.heap.size (.slice (some ⟨w.heap.size, 0, none⟩) 1 1) [[]] :=
  ⟨rfl, .inr ⟨w.heap.size, 1, #[.string ⟨#[]⟩], rfl, Nat.le_refl _, heap_alloc_new w _, Nat.le_refl _, by unfold maxLen; omega, rfl, rfl⟩⟩
theorem Os.pos16 {w : World} {base : Nat} {v : Value} {ls : List (List UInt8)} (h : Os w base v ls) (h1 : 1 ≤ ls.length) : ∃ g c, v = .slice (some ⟨g, 0, none⟩) ls.length c ∧ base ≤ g := by
  rcases h.2 with ⟨hv, hn⟩ | ⟨g, cap, cur, hv, hb, -⟩
  · omega
  · exact ⟨g, cap, hv, hb⟩
theorem Os.cell16 {w : World} {base g n c : Nat} {ls : List (List UInt8)} (h : Os w base (.slice (some ⟨g, 0, none⟩) n c) ls) {j : Nat} {l : List UInt8} (hj : ls[j]? = some l) : w.cell? ⟨g, j, none⟩ = some (sv l) := by
  obtain ⟨A, c', e, hr, -⟩ := h.reads
  injection e with e1 e2 e3
  subst e1
  rcases hr with h0 | ⟨b, off, h1, h2, h3⟩
  · rw [h0] at hj; simp at hj
  · injection h1 with h1
    injection h1 with h1 h4
    subst h1; subst h4
    simpa using h3 j l hj
theorem Os.put16 {w : World} {base g n c : Nat} {ps : List (List UInt8)} {q : List UInt8} (h : Os w base (.slice (some ⟨g, 0, none⟩) n c) (ps ++ [q])) (u : List UInt8) :
    Os (w.setCell ⟨g, ps.length, none⟩ (sv u)) base (.slice (some ⟨g, 0, none⟩) n c) (ps ++ [u]) := by
  have hn : n = (ps ++ [q]).length := by
    obtain ⟨A, c', e, -⟩ := h.reads
    injection e with e1 e2 e3
  unfold Os at h ⊢
  rw [← hn] at h
  have hs := (World.ownsRow.stored h ps.length (sv u)).1
  have e : ((ps ++ [q]).map sv).set ps.length (sv u) = (ps ++ [u]).map sv := by simp
  rw [e] at hs
  rw [show (ps ++ [u]).length = n by rw [hn]; simp]
  exact hs
end Go.Proofs.Ytkhcneacjnpcnaa
