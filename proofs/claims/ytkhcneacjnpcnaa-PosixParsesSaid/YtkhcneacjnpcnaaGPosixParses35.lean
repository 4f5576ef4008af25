/- Merged: RulW. -/
import Derived.Test.YtkhcneacjnpcnaaGPosixParses34
import Derived.Test.YtkhcneacjnpcnaaGPosixParses21
import Derived.Laws.DeepStrings4
namespace Go.Proofs.Ytkhcneacjnpcnaa
open Go.RowKit Go.WideShapes Go.ChangeShapes
set_option linter.unusedVariables false
set_option linter.unusedSimpArgs false

set_option maxRecDepth 100000 in
set_option maxHeartbeats 4000000 in
theorem parts_any (s : ByteArray) (c : UInt8) (w : World) (hs : s.size ≤ 900) :
    Calls Try.prog 32 #[.string s, .int .u8 (c.toNat : Int)] w fun x w' => ∃ v, x = .returned v ∧ Os w' w.heap.size v (spt c s.data.toList) ∧ Below w.heap.size w w' := by
  obtain ⟨W0, hW0⟩ : ∃ W0, W0 = w.alloc (.cells #[.string ⟨#[]⟩] 9) := ⟨_, rfl⟩
  have o0 : Os W0 w.heap.size (.slice (some ⟨w.heap.size, 0, none⟩) 1 1) [[]] := by rw [hW0]; exact Os.one w
  have b0 : Below w.heap.size w W0 := by rw [hW0]; exact (Below.refl _ w).alloc (Nat.le_refl _) _
  have O0 := Lib.hid o0; have B0 := Lib.hid b0
  clear o0 b0
  obtain ⟨l, hl⟩ : ∃ l, l = s.data.toList := ⟨_, rfl⟩
  have hsz : l.length = s.size := by rw [hl]; simp
  rw [← hl]
  have HLs := Lib.hid hl
  have HSZ := Lib.hid hsz
  obtain ⟨N, hN⟩ : ∃ N, N = s.size := ⟨_, rfl⟩
  have HN := Lib.hid hN
  have N9 : N ≤ 900 := by omega
  clear hl
  go_enter Try.func32, Try.ntmps32
  go_upto_region 2 with fail
  rw [← hW0]
  clear hW0
  go_wp2
  go_loopg [5, 6] N (fun gg s5 s6 wr => ∃ (k g n c' : Nat), k ≤ N ∧ N - k ≤ gg ∧ s5 = .slice (some ⟨g, 0, none⟩) n c' ∧ s6 = .int .i64 k ∧ Hid (n = (spt c (l.take k)).length) ∧ Hid (Os wr w.heap.size (.slice (some ⟨g, 0, none⟩) n c') (spt c (l.take k))) ∧ Hid (Below w.heap.size w wr))
  case atStart => exact ⟨0, w.heap.size, 1, 1, Nat.zero_le _, by omega, rfl, rfl, Lib.hid (by simp [spt]), Lib.hid (by rw [List.take_zero]; exact O0.out), B0⟩
  case round =>
    clear O0 B0
    obtain ⟨k, g, n, c', hk, hg, rfl, rfl, HL, O, B⟩ := hrel
    have zs : (s.size : Int) = (N : Int) := by have := HN.out; omega
    by_cases hlt : k < N
    · have hks : k < s.size := by have := HN.out; omega
      have hltz : (k : Int) < (s.size : Int) := by omega
      have hb := byte_at hks
      rw [← HLs.out] at hb
      have htk : l.take (k + 1) = l.take k ++ [s[k]] := by rw [HLs.out]; exact take_snoc s k hks
      obtain ⟨ps, q, e1, e2, e3, e4⟩ := spt_end c (l.take k)
      have hlen : (l.take k).length ≤ 900 := by rw [List.length_take]; omega
      by_cases hc : s[k] = c
      · have t1 : ((s[k].toNat : Int) == (c.toNat : Int)) = true := by rw [hc]; simp
        have E1 : Hid (spt c (l.take (k + 1)) = spt c (l.take k) ++ [[]]) := Lib.hid (by rw [htk, hc, e2, e1])
        have LO : Hid ((spt c (l.take k)).length ≤ 1000000) := Lib.hid (by rw [e1]; simp; omega)
        have OB := Lib.hid (O.out.below ((Below.refl _ wr).alloc (Nat.le_refl _) (.cells #[.string ⟨#[]⟩] 9)) (Nat.le_refl _))
        have BB := Lib.hid (B.out.trans (((Below.refl _ wr).alloc (Nat.le_refl _) (.cells #[.string ⟨#[]⟩] 9)).mono B.out.size))
        have C2 : Hid ((wr.alloc (.cells #[.string ⟨#[]⟩] 9)).cell? ⟨wr.heap.size, 0, none⟩ = some (sv [])) := Lib.hid (one_str wr ⟨#[]⟩)
        clear hb hc e1 e2 e3 e4 htk hlen
        go_wp2_with (at_builtin; refine app_str _ _ w.heap.size _ _ OB.out wr.heap.size _ C2.out LO.out BB.out.size rfl rfl rfl rfl ?_; intro v' w1 hv hb; obtain ⟨g9, c9, rfl, -⟩ := hv.pos16 (by simp); obtain ⟨n9, hn9⟩ : ∃ n9, n9 = (spt c (l.take k) ++ [[]]).length := ⟨_, rfl⟩; rw [← hn9] at hv ⊢; have O9 := Lib.hid hv; have N8 := Lib.hid hn9; have B9 := Lib.hid (BB.out.trans hb); clear hv hb hn9)
        go_roundg (N - (k + 1))
        case measure => omega
        case rel => exact ⟨k + 1, g9, n9, c9, by omega, by omega, rfl, by go_num, Lib.hid (by rw [E1.out]; exact N8.out), Lib.hid (by rw [E1.out]; exact O9.out), B9⟩
      · have t1 : ((s[k].toNat : Int) == (c.toNat : Int)) = false := by
          have : s[k].toNat ≠ c.toNat := fun e => hc (UInt8.toNat_inj.1 e)
          simp; omega
        have E1 : Hid (spt c (l.take (k + 1)) = ps ++ [q ++ [s[k]]]) := Lib.hid (by rw [htk, e3 _ hc])
        have hO := O.out
        rw [e1] at hO
        have hn : n = ps.length + 1 := by rw [HL.out, e1]; simp
        obtain ⟨Q, hQ⟩ : ∃ Q, Q = (⟨q.toArray⟩ : ByteArray) := ⟨_, rfl⟩
        obtain ⟨X, hX⟩ : ∃ X, X = s.extract k (k + 1) := ⟨_, rfl⟩
        have x1 : X.data.toList = [s[k]] := by
          rw [hX, cut_mid, ← HLs.out, show k + 1 - k = 1 by omega, List.drop_eq_getElem_cons (by rw [HSZ.out]; exact hks), List.take_succ_cons, List.take_zero]
          obtain ⟨h1, h2⟩ := List.getElem?_eq_some_iff.1 hb
          rw [h2]
        have x2 : X.size = 1 := by have := congrArg List.length x1; simpa using this
        have q2 := ba_size hQ
        obtain ⟨Z, A, z1, z2⟩ := add_ba Q X (by rw [q2.1]; omega) (by omega)
        have hZ : Value.string Z = sv (q ++ [s[k]]) := str_is (by rw [z1, q2.2, x1])
        have cl : wr.cell? ⟨g, ps.length, none⟩ = some (.string Q) := by rw [hQ]; exact hO.cell16 (by simp)
        have fr : wr.frozen? ⟨g, ps.length, none⟩ = false := by
          have h := hO
          unfold Os at h
          have : n = (ps ++ [q]).length := by rw [hn]; simp
          rw [← this] at h
          exact World.ownsRow.frozenAt h ps.length
        have hP := hO.put16 (q ++ [s[k]])
        rw [← hZ] at hP
        have OO := Lib.hid hP
        have hBg : w.heap.size ≤ g := by
          obtain ⟨g', c'', e', h'⟩ := hO.pos16 (by simp)
          injection e' with e' _ _
          injection e' with e'
          injection e' with e'
          omega
        have BB := Lib.hid (B.out.setCell (p := ⟨g, ps.length, none⟩) hBg (.string Z))
        have EX := Lib.hid hX
        obtain ⟨m, hm⟩ : ∃ m, m = ps.length := ⟨_, rfl⟩
        have mb : m ≤ 1000 := by omega
        rw [← hm] at cl fr hn
        have HM := Lib.hid hm
        subst hn
        rw [← hm] at OO BB
        clear hb hc e1 e2 e3 e4 htk hlen hO hP hm x1 q2 z1 z2 hZ hQ hBg x2
        rw [EX.out] at A
        have w1 : IntKind.i64.wrap (((m + 1 : Nat) : Int) - 1) = (m : Int) := by rw [IntWalk.i64_in _ (by omega)]; omega
        have w2 : IntKind.i64.wrap ((k : Int) + 1) = (k : Int) + 1 := IntWalk.i64_in _ (by omega)
        go_upto_region 7 with fail
        go_region
        have O8 := Lib.hid (OO.out.below (B := (wr.setCell ⟨g, m, none⟩ (.string Z)).heap.size) (Below.refl _ _).drew (Nat.le_refl _))
        have B8 := Lib.hid (BB.out.drew)
        go_wp2_with fail
        go_roundg (N - (k + 1))
        case measure => omega
        case rel => exact ⟨k + 1, g, m + 1, c', by omega, by omega, rfl, by go_num, Lib.hid (by rw [E1.out, HM.out]; simp), Lib.hid (by rw [E1.out]; exact O8.out), B8⟩
    · have hltz : ¬ (k : Int) < (s.size : Int) := by omega
      obtain rfl : N = k := by omega
      have e : l.take N = l := List.take_of_length_le (by rw [HSZ.out, HN.out]; exact Nat.le_refl _)
      have O9 := O.out
      rw [e] at O9
      have OO := Lib.hid O9
      clear e O9
      go_wp2
      go_ret
      exact ⟨_, rfl, OO.out, B.out⟩
end Go.Proofs.Ytkhcneacjnpcnaa
