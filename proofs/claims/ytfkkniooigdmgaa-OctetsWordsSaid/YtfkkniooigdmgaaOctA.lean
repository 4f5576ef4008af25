/- Parts of slices of bytes; room, extended, Size. -/
import Derived.Test.YtfkkniooigdmgaaOctM
import Derived.Test.YtfkkniooigdmgaaOwn
import Derived.Test.YtfkkniooigdmgaaShelf
import Derived.Deep.OwnRows
namespace Go.Proofs.Ytfkkniooigdmgaa
open Go.RowKit Go.WideShapes Go.ChangeShapes
set_option linter.unusedVariables false

theorem bsize : ∀ w : World, (sizeOf (Try.prog.elem 22)).run Try.prog w = .ok 1 w := fun w => by kernel_rfl
theorem bslice : Try.prog.underlying 22 = some (.slice (Try.prog.elem 22)) := by kernel_rfl
theorem map_add_zero (A : Option Addr) : A.map (·.add 0) = A := by
  cases A with
  | none => rfl
  | some a => simp [Addr.add]

/-- The part from lo to hi of a slice that reads as bytes. -/
theorem part_lh {w : World} {A : Option Addr} {l : List UInt8} {c lo hi : Nat} (h : Rb w A l) (hA : A = none → c = 0) (hc : l.length ≤ c) (h1 : lo ≤ hi) (h2 : hi ≤ l.length) :
    ∃ A' c' m, m = (l.drop lo).take (hi - lo) ∧ (∀ w', (Instr.slice 22 (.slice A l.length c) (some (.int .i64 (lo : Int))) (some (.int .i64 (hi : Int))) none).run Try.prog w' = .ok (.slice A' m.length c') w') ∧
      Rb w A' m ∧ (A' = none → c' = 0) ∧ m.length ≤ c' ∧ c' ≤ c ∧ (lo < c → A' = A.map (·.add lo)) := by
  have hm : ((l.drop lo).take (hi - lo)).length = hi - lo := by simp; omega
  refine ⟨if c = lo then A else A.map (·.add lo), c - lo, _, rfl, fun w' => ?_, ?_, ?_, by omega, by omega, fun h => if_neg (by omega)⟩
  · rw [run_slice_lh w' 22 A l.length c bslice .i64 .i64 lo hi (by omega) (by omega) (by omega), bsize]
    simp only [Result.andThen, sliced, Int.toNat_natCast, Nat.mul_one, hm]
  · by_cases hcl : c = lo
    · rw [if_pos hcl]
      have e : (l.drop lo).take (hi - lo) = [] := List.eq_nil_of_length_eq_zero (by omega)
      rw [e]; exact Rb.nil _
    · rw [if_neg hcl]
      cases A with
      | none =>
        rw [h.none_]
        simp only [List.drop_nil, List.take_nil]
        exact Rb.nil _
      | some a =>
        rcases h.2 with h0 | ⟨b, off, e, _⟩
        · have e : l = [] := by unfold nums at h0; simpa using h0
          rw [e]
          simp only [List.drop_nil, List.take_nil]
          exact Rb.nil _
        · injection e with e
          subst e
          have e2 : (⟨b, off, none⟩ : Addr).add lo = ⟨b, off + lo, none⟩ := add_plain ..
          rw [Option.map_some, e2]
          exact (h.drop_ lo).take_ _
  · split
    · intro e; have := hA e; omega
    · intro e
      have : A = none := by simpa using e
      have := hA this; omega
/-- Why bytes have no room for so many parts of a size (0: they have). -/
def rm (len : Nat) (at_ many : Int) (size : Nat) : Int := if at_ < 0 ∨ len < at_ ∨ many < 0 then 1 else if (len - at_) / size < many then 4 else 0
theorem rm_lo (len : Nat) (at_ many : Int) (size : Nat) : 0 ≤ rm len at_ many size ∧ rm len at_ many size < 100 := by unfold rm; split <;> (try split) <;> decide
set_option maxHeartbeats 800000 in
theorem room_any (A : Option Addr) (l : List UInt8) (c : Nat) (at_ many : Int) (size : Nat) (w : World) (hl : l.length ≤ 1000000) (ha : fits at_) (hm : fits many) (hs : size = 1 ∨ size = 2 ∨ size = 4 ∨ size = 8) :
    Calls Try.prog 38 #[.slice A l.length c, .int .i64 at_, .int .i64 many, .int .i64 size] w fun e w' => e = .returned (ev (rm l.length at_ many size)) ∧ w = w' := by
  unfold fits at ha hm
  generalize l.length = N at *
  by_cases h1 : at_ < 0
  · have HR := Lib.hid (show rm N at_ many size = 1 by unfold rm; rw [if_pos (.inl h1)])
    go_enter Try.func38, Try.ntmps38
    go_wp2
    go_ret
    exact ⟨by rw [HR.out]; rfl, rfl⟩
  · by_cases h2 : (N : Int) < at_
    · have HR := Lib.hid (show rm N at_ many size = 1 by unfold rm; rw [if_pos (.inr (.inl h2))])
      go_enter Try.func38, Try.ntmps38
      go_wp2
      go_ret
      exact ⟨by rw [HR.out]; rfl, rfl⟩
    · by_cases h3 : many < 0
      · have HR := Lib.hid (show rm N at_ many size = 1 by unfold rm; rw [if_pos (.inr (.inr h3))])
        go_enter Try.func38, Try.ntmps38
        go_wp2
        go_ret
        exact ⟨by rw [HR.out]; rfl, rfl⟩
      · have e : rm N at_ many size = if (N - at_) / size < many then 4 else 0 := by unfold rm; rw [if_neg (by omega)]
        obtain ⟨a, rfl⟩ := Int.eq_ofNat_of_zero_le (a := at_) (by omega)
        have hlo : (a : Int) ≤ N := by omega
        clear h1 h2
        by_cases h4 : ((N : Int) - a) / size < many
        · have HR := Lib.hid (show rm N a many size = 4 by rw [e, if_pos h4])
          clear e
          rcases hs with rfl | rfl | rfl | rfl
          · have h5 : (N : Int) - a < many := by omega
            clear h4
            go_enter Try.func38, Try.ntmps38
            go_wp2
            go_ret
            exact ⟨by rw [HR.out]; rfl, rfl⟩
          · have h5 : ((N : Int) - a) / 2 < many := h4
            clear h4
            go_enter Try.func38, Try.ntmps38
            go_wp2
            go_ret
            exact ⟨by rw [HR.out]; rfl, rfl⟩
          · have h5 : ((N : Int) - a) / 4 < many := h4
            clear h4
            go_enter Try.func38, Try.ntmps38
            go_wp2
            go_ret
            exact ⟨by rw [HR.out]; rfl, rfl⟩
          · have h5 : ((N : Int) - a) / 8 < many := h4
            clear h4
            go_enter Try.func38, Try.ntmps38
            go_wp2
            go_ret
            exact ⟨by rw [HR.out]; rfl, rfl⟩
        · have HR := Lib.hid (show rm N a many size = 0 by rw [e, if_neg h4])
          clear e
          rcases hs with rfl | rfl | rfl | rfl
          · have h5 : ¬ (N : Int) - a < many := by omega
            clear h4
            go_enter Try.func38, Try.ntmps38
            go_wp2
            go_ret
            exact ⟨by rw [HR.out]; rfl, rfl⟩
          · have h5 : ¬ ((N : Int) - a) / 2 < many := h4
            clear h4
            go_enter Try.func38, Try.ntmps38
            go_wp2
            go_ret
            exact ⟨by rw [HR.out]; rfl, rfl⟩
          · have h5 : ¬ ((N : Int) - a) / 4 < many := h4
            clear h4
            go_enter Try.func38, Try.ntmps38
            go_wp2
            go_ret
            exact ⟨by rw [HR.out]; rfl, rfl⟩
          · have h5 : ¬ ((N : Int) - a) / 8 < many := h4
            clear h4
            go_enter Try.func38, Try.ntmps38
            go_wp2
            go_ret
            exact ⟨by rw [HR.out]; rfl, rfl⟩

theorem info8 : (Try.prog.info? 5).map (fun i => (i.zero, i.size, i.bytes)) = some (some (.int .u8 0), 1, 1) := by kernel_rfl
theorem size8 : (Try.prog.info? 5).map (·.size) = some 1 := by kernel_rfl
theorem made_bc (n : Nat) : madeCells #[Value.int .u8 0] n = (bc (List.replicate n 0)).toArray := by
  have := toList_madeCells_one (Value.int .u8 0) n
  rw [bc_rep, ← this]
theorem make_bytes (n : Nat) (h : n ≤ 1000000000) (w : World) : (Instr.makeSlice 22 (.int .i64 (n : Int)) (.int .i64 (n : Int))).run Try.prog w =
    .ok (.slice (some ⟨w.heap.size, 0, none⟩) n n) (w.alloc (.cells (bc (List.replicate n 0)).toArray 5)) := by
  rw [run_make_row' 22 5 (.int .u8 0) 1 Try.underlying22 info8 rfl .i64 .i64 n (by omega) (by omega) w, made_bc]

/-- copy of bytes to the head of a block that the call made. -/
theorem copy_new {ops : Array Oper} {rest : List Oper} {o : Oper} {a : Act} {Q : Exit → Act → World → Prop} {w : World} {n cap c : Nat} (d s : Operand) (B : Nat) (w0 : World) (g : Nat) (Z : List UInt8) (A : Option Addr) (l : List UInt8)
    (hg : Bk w g Z) (hr : Rb w A l) (hz : l.length ≤ Z.length) (hb : Below B w0 w) (hBg : B ≤ g)
    (hgd : o.guard = none) (ho : o.op = .call { callee := .builtin .copy, args := #[d, s], argTypes := #[22, 22] })
    (hd : a.eval d = .slice (some ⟨g, 0, none⟩) n cap) (hs : a.eval s = .slice A l.length c) (hn : l.length ≤ n)
    (h : ∀ w', Bk w' g (splice Z 0 l) → Below B w0 w' → wpList Try.prog ops Q rest (a.put o.dst (goInt l.length)) w') : wpList Try.prog ops Q (o :: rest) a w := by
  refine wpList_copy_splice hgd d s 22 22 ho 5 Try.underlying22 size8 _ _ _ _ _ _ hd hs g 0 (bc Z) 5 hg (bc l) (by rw [bc_len]; exact (Nat.min_eq_left hn).symm) (fun hp => ⟨rfl, ?_⟩) (by rw [bc_len, bc_len]; omega) bc_one B w0 hb hBg ?_
  · rw [bc_len] at hp
    obtain ⟨b, off, rfl, _, _⟩ := hr.cell hp
    refine ⟨_, rfl, fun j v hv => ?_⟩
    obtain ⟨hj, rfl⟩ := bc_get hv
    obtain ⟨b', off', e, _, h3⟩ := hr.cell hj
    injection e with e
    injection e with e1 e2
    subst e1; subst e2
    rw [add_plain]; exact h3
  · intro w' h1 h2
    rw [bc_len]
    refine h w' ?_ h2
    have := h1.out
    rw [bc_splice] at this
    exact this
set_option maxHeartbeats 800000 in
theorem extended_any (A : Option Addr) (l : List UInt8) (c m : Nat) (w : World) (h : Rb w A l) (hl : l.length ≤ 1000000) (hm : m ≤ 1000000) :
    Calls Try.prog 39 #[.slice A l.length c, .int .i64 m] w fun e w' =>
      e = .returned (.slice (some ⟨w.heap.size, 0, none⟩) (l ++ List.replicate m 0).length (l ++ List.replicate m 0).length) ∧ Bk w' w.heap.size (l ++ List.replicate m 0) ∧ Below w.heap.size w w' := by
  have e0 : (l ++ List.replicate m 0).length = l.length + m := by simp
  rw [e0]; clear e0
  have hmk := fun w => make_bytes (l.length + m) (by omega) w
  rw [show ((l.length + m : Nat) : Int) = (l.length : Int) + (m : Int) by omega] at hmk
  have hg : Bk (w.alloc (.cells (bc (List.replicate (l.length + m) 0)).toArray 5)) w.heap.size (List.replicate (l.length + m) 0) := heap_alloc_new w _
  have hb : Below w.heap.size w (w.alloc (.cells (bc (List.replicate (l.length + m) 0)).toArray 5)) := (Below.refl _ _).alloc (Nat.le_refl _) _
  have hr := h.below hb
  have e : splice (List.replicate (l.length + m) 0) 0 l = l ++ List.replicate m 0 := by unfold splice; simp
  have hz : l.length ≤ (List.replicate (l.length + m) (0 : UInt8)).length := by simp
  have HG := Lib.hid hg; have HB := Lib.hid hb; have HR := Lib.hid hr; have E := Lib.hid e; have HZ := Lib.hid hz
  have HN := Lib.hid (List.length_replicate (n := l.length + m) (a := (0 : UInt8)))
  generalize List.replicate (l.length + m) (0 : UInt8) = Z at *
  clear hg hb hr e hz h
  go_enter Try.func39, Try.ntmps39
  go_wp2_with (refine copy_new (.tmp 11) (.tmp 12) w.heap.size w w.heap.size Z A l HG.out HR.out HZ.out HB.out (Nat.le_refl _) rfl rfl rfl rfl (Nat.le_add_right _ _) ?_; intro w2 hk2 hb2; rw [E.out] at hk2; have HK2 := Lib.hid hk2; have HB2 := Lib.hid hb2; clear hk2 hb2)
  go_ret
  exact ⟨rfl, HK2.out, HB2.out⟩

set_option maxRecDepth 100000 in
theorem size8_any (w : World) : Calls Try.prog 22 #[] w fun e w' => e = .returned (.int .i64 1) ∧ w = w' := by
  have hb := fun w => Try.bits_Len64 255 w (by decide) (by decide)
  rw [show (Lib.bitLen (255 : Int).toNat) = 8 by decide +kernel] at hb
  go_enter Try.func22, Try.ntmps22
  go_wp2_with (go_at_call 47; refine (hb _).mono ?_; rintro e w' ⟨rfl, rfl⟩)
  go_ret
  exact ⟨rfl, rfl⟩
set_option maxRecDepth 100000 in
theorem size16_any (w : World) : Calls Try.prog 29 #[] w fun e w' => e = .returned (.int .i64 2) ∧ w = w' := by
  have hb := fun w => Try.bits_Len64 65535 w (by decide) (by decide)
  rw [show (Lib.bitLen (65535 : Int).toNat) = 16 by decide +kernel] at hb
  go_enter Try.func29, Try.ntmps29
  go_wp2_with (go_at_call 47; refine (hb _).mono ?_; rintro e w' ⟨rfl, rfl⟩)
  go_ret
  exact ⟨rfl, rfl⟩
set_option maxRecDepth 100000 in
theorem size32_any (w : World) : Calls Try.prog 32 #[] w fun e w' => e = .returned (.int .i64 4) ∧ w = w' := by
  have hb := fun w => Try.bits_Len64 4294967295 w (by decide) (by decide)
  rw [show (Lib.bitLen (4294967295 : Int).toNat) = 32 by decide +kernel] at hb
  go_enter Try.func32, Try.ntmps32
  go_wp2_with (go_at_call 47; refine (hb _).mono ?_; rintro e w' ⟨rfl, rfl⟩)
  go_ret
  exact ⟨rfl, rfl⟩
set_option maxRecDepth 100000 in
theorem size64_any (w : World) : Calls Try.prog 21 #[] w fun e w' => e = .returned (.int .i64 8) ∧ w = w' := by
  have hb := fun w => Try.bits_Len64 18446744073709551615 w (by decide) (by decide)
  rw [show (Lib.bitLen (18446744073709551615 : Int).toNat) = 64 by decide +kernel] at hb
  go_enter Try.func21, Try.ntmps21
  go_wp2_with (go_at_call 47; refine (hb _).mono ?_; rintro e w' ⟨rfl, rfl⟩)
  go_ret
  exact ⟨rfl, rfl⟩
end Go.Proofs.Ytfkkniooigdmgaa
