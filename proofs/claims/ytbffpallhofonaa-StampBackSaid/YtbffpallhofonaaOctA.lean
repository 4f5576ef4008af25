/- Parts of slices of bytes; room, extended, Size. -/
import Derived.Test.YtbffpallhofonaaOctM
import Derived.Test.YtbffpallhofonaaOwn
import Derived.Test.YtbffpallhofonaaPart
import Derived.Test.YtbffpallhofonaaShelf
import Derived.Deep.OwnRows
namespace Go.Proofs.Ytbffpallhofonaa
open Go.RowKit Go.WideShapes Go.ChangeShapes
set_option linter.unusedVariables false

/-- Why bytes have no room for so many parts of a size (0: they have). -/
def rm (len : Nat) (at_ many : Int) (size : Nat) : Int := if at_ < 0 ∨ len < at_ ∨ many < 0 then 1 else if (len - at_) / size < many then 4 else 0
theorem rm_lo (len : Nat) (at_ many : Int) (size : Nat) : 0 ≤ rm len at_ many size ∧ rm len at_ many size < 100 := by unfold rm; split <;> (try split) <;> decide
set_option maxHeartbeats 800000 in
theorem room_any (A : Option Addr) (l : List UInt8) (c : Nat) (at_ many : Int) (size : Nat) (w : World) (hl : l.length ≤ 1000000) (ha : fits at_) (hm : fits many) (hs : size = 1 ∨ size = 2 ∨ size = 4 ∨ size = 8) :
    Calls Try.prog 80 #[.slice A l.length c, .int .i64 at_, .int .i64 many, .int .i64 size] w fun e w' => e = .returned (ev (rm l.length at_ many size)) ∧ w = w' := by
  unfold fits at ha hm
  generalize l.length = N at *
  by_cases h1 : at_ < 0
  · have HR := Lib.hid (show rm N at_ many size = 1 by unfold rm; rw [if_pos (.inl h1)])
    go_enter Try.func80, Try.ntmps80
    go_wp2
    go_ret
    exact ⟨by rw [HR.out]; rfl, rfl⟩
  · by_cases h2 : (N : Int) < at_
    · have HR := Lib.hid (show rm N at_ many size = 1 by unfold rm; rw [if_pos (.inr (.inl h2))])
      go_enter Try.func80, Try.ntmps80
      go_wp2
      go_ret
      exact ⟨by rw [HR.out]; rfl, rfl⟩
    · by_cases h3 : many < 0
      · have HR := Lib.hid (show rm N at_ many size = 1 by unfold rm; rw [if_pos (.inr (.inr h3))])
        go_enter Try.func80, Try.ntmps80
        go_wp2
        go_ret
        exact ⟨by rw [HR.out]; rfl, rfl⟩
      · have e : rm N at_ many size = if (N - at_) / size < many then 4 else 0 := by unfold rm; rw [if_neg (by omega)]
        obtain ⟨a, rfl⟩ := Int.eq_ofNat_of_zero_le (a := at_) (by omega)
        have hlo : (a : Int) ≤ N := by omega
        clear h1 h2
        by_cases h4 : ((N : Int) - a) / size < many
        · have HR := Lib.hid (show rm N a many size = 4 by rw [e, if_pos h4])
          clear e
          rcases hs with rfl | rfl | rfl | rfl
          · have h5 : (N : Int) - a < many := by omega
            clear h4
            go_enter Try.func80, Try.ntmps80
            go_wp2
            go_ret
            exact ⟨by rw [HR.out]; rfl, rfl⟩
          · have h5 : ((N : Int) - a) / 2 < many := h4
            clear h4
            go_enter Try.func80, Try.ntmps80
            go_wp2
            go_ret
            exact ⟨by rw [HR.out]; rfl, rfl⟩
          · have h5 : ((N : Int) - a) / 4 < many := h4
            clear h4
            go_enter Try.func80, Try.ntmps80
            go_wp2
            go_ret
            exact ⟨by rw [HR.out]; rfl, rfl⟩
          · have h5 : ((N : Int) - a) / 8 < many := h4
            clear h4
            go_enter Try.func80, Try.ntmps80
            go_wp2
            go_ret
            exact ⟨by rw [HR.out]; rfl, rfl⟩
        · have HR := Lib.hid (show rm N a many size = 0 by rw [e, if_neg h4])
          clear e
          rcases hs with rfl | rfl | rfl | rfl
          · have h5 : ¬ (N : Int) - a < many := by omega
            clear h4
            go_enter Try.func80, Try.ntmps80
            go_wp2
            go_ret
            exact ⟨by rw [HR.out]; rfl, rfl⟩
          · have h5 : ¬ ((N : Int) - a) / 2 < many := h4
            clear h4
            go_enter Try.func80, Try.ntmps80
            go_wp2
            go_ret
            exact ⟨by rw [HR.out]; rfl, rfl⟩
          · have h5 : ¬ ((N : Int) - a) / 4 < many := h4
            clear h4
            go_enter Try.func80, Try.ntmps80
            go_wp2
            go_ret
            exact ⟨by rw [HR.out]; rfl, rfl⟩
          · have h5 : ¬ ((N : Int) - a) / 8 < many := h4
            clear h4
            go_enter Try.func80, Try.ntmps80
            go_wp2
            go_ret
            exact ⟨by rw [HR.out]; rfl, rfl⟩

theorem info8 : (Try.prog.info? 5).map (fun i => (i.zero, i.size, i.bytes)) = some (some (.int .u8 0), 1, 1) := by kernel_rfl
theorem size8 : (Try.prog.info? 5).map (·.size) = some 1 := by kernel_rfl
theorem made_bc (n : Nat) : madeCells #[Value.int .u8 0] n = (bc (List.replicate n 0)).toArray := by
  have := toList_madeCells_one (Value.int .u8 0) n
  rw [bc_rep, ← this]
theorem make_bytes (n : Nat) (h : n ≤ 1000000000) (w : World) : (Instr.makeSlice 56 (.int .i64 (n : Int)) (.int .i64 (n : Int))).run Try.prog w =
    .ok (.slice (some ⟨w.heap.size, 0, none⟩) n n) (w.alloc (.cells (bc (List.replicate n 0)).toArray 5)) := by
  rw [run_make_row' 56 5 (.int .u8 0) 1 Try.underlying56 info8 rfl .i64 .i64 n (by omega) (by omega) w, made_bc]

/-- copy of bytes to the head of a block that the call made. -/
theorem copy_new {ops : Array Oper} {rest : List Oper} {o : Oper} {a : Act} {Q : Exit → Act → World → Prop} {w : World} {n cap c : Nat} (d s : Operand) (B : Nat) (w0 : World) (g : Nat) (Z : List UInt8) (A : Option Addr) (l : List UInt8)
    (hg : Bk w g Z) (hr : Rb w A l) (hz : l.length ≤ Z.length) (hb : Below B w0 w) (hBg : B ≤ g)
    (hgd : o.guard = none) (ho : o.op = .call { callee := .builtin .copy, args := #[d, s], argTypes := #[56, 56] })
    (hd : a.eval d = .slice (some ⟨g, 0, none⟩) n cap) (hs : a.eval s = .slice A l.length c) (hn : l.length ≤ n)
    (h : ∀ w', Bk w' g (splice Z 0 l) → Below B w0 w' → wpList Try.prog ops Q rest (a.put o.dst (goInt l.length)) w') : wpList Try.prog ops Q (o :: rest) a w := by
  refine wpList_copy_splice hgd d s 56 56 ho 5 Try.underlying56 size8 _ _ _ _ _ _ hd hs g 0 (bc Z) 5 hg (bc l) (by rw [bc_len]; exact (Nat.min_eq_left hn).symm) (fun hp => ⟨rfl, ?_⟩) (by rw [bc_len, bc_len]; omega) bc_one B w0 hb hBg ?_
  · rw [bc_len] at hp
    obtain ⟨b, off, rfl, _, _⟩ := hr.cell hp
    refine ⟨_, rfl, fun j v hv => ?_⟩
    obtain ⟨hj, rfl⟩ := bc_get hv
    obtain ⟨b', off', e, _, h3⟩ := hr.cell hj
    injection e with e
    injection e with e1 e2
    subst e1; subst e2
    rw [add_plain]; exact h3
  · intro w' h1 h2
    rw [bc_len]
    refine h w' ?_ h2
    have := h1.out
    rw [bc_splice] at this
    exact this
set_option maxHeartbeats 800000 in
theorem extended_any (A : Option Addr) (l : List UInt8) (c m : Nat) (w : World) (h : Rb w A l) (hl : l.length ≤ 1000000) (hm : m ≤ 1000000) :
    Calls Try.prog 64 #[.slice A l.length c, .int .i64 m] w fun e w' =>
      e = .returned (.slice (some ⟨w.heap.size, 0, none⟩) (l ++ List.replicate m 0).length (l ++ List.replicate m 0).length) ∧ Bk w' w.heap.size (l ++ List.replicate m 0) ∧ Below w.heap.size w w' := by
  have e0 : (l ++ List.replicate m 0).length = l.length + m := by simp
  rw [e0]; clear e0
  have hmk := fun w => make_bytes (l.length + m) (by omega) w
  rw [show ((l.length + m : Nat) : Int) = (l.length : Int) + (m : Int) by omega] at hmk
  have hg : Bk (w.alloc (.cells (bc (List.replicate (l.length + m) 0)).toArray 5)) w.heap.size (List.replicate (l.length + m) 0) := heap_alloc_new w _
  have hb : Below w.heap.size w (w.alloc (.cells (bc (List.replicate (l.length + m) 0)).toArray 5)) := (Below.refl _ _).alloc (Nat.le_refl _) _
  have hr := h.below hb
  have e : splice (List.replicate (l.length + m) 0) 0 l = l ++ List.replicate m 0 := by unfold splice; simp
  have hz : l.length ≤ (List.replicate (l.length + m) (0 : UInt8)).length := by simp
  have HG := Lib.hid hg; have HB := Lib.hid hb; have HR := Lib.hid hr; have E := Lib.hid e; have HZ := Lib.hid hz
  have HN := Lib.hid (List.length_replicate (n := l.length + m) (a := (0 : UInt8)))
  generalize List.replicate (l.length + m) (0 : UInt8) = Z at *
  clear hg hb hr e hz h
  go_enter Try.func64, Try.ntmps64
  go_wp2_with (refine copy_new (.tmp 11) (.tmp 12) w.heap.size w w.heap.size Z A l HG.out HR.out HZ.out HB.out (Nat.le_refl _) rfl rfl rfl rfl (Nat.le_add_right _ _) ?_; intro w2 hk2 hb2; rw [E.out] at hk2; have HK2 := Lib.hid hk2; have HB2 := Lib.hid hb2; clear hk2 hb2)
  go_ret
  exact ⟨rfl, HK2.out, HB2.out⟩

set_option maxRecDepth 100000 in
theorem size16_any (w : World) : Calls Try.prog 67 #[] w fun e w' => e = .returned (.int .i64 2) ∧ w = w' := by
  have hb := fun w => Try.bits_Len64 65535 w (by decide) (by decide)
  rw [show (Lib.bitLen (65535 : Int).toNat) = 16 by decide +kernel] at hb
  go_enter Try.func67, Try.ntmps67
  go_wp2_with (go_at_call 74; refine (hb _).mono ?_; rintro e w' ⟨rfl, rfl⟩)
  go_ret
  exact ⟨rfl, rfl⟩
set_option maxRecDepth 100000 in
theorem size32_any (w : World) : Calls Try.prog 58 #[] w fun e w' => e = .returned (.int .i64 4) ∧ w = w' := by
  have hb := fun w => Try.bits_Len64 4294967295 w (by decide) (by decide)
  rw [show (Lib.bitLen (4294967295 : Int).toNat) = 32 by decide +kernel] at hb
  go_enter Try.func58, Try.ntmps58
  go_wp2_with (go_at_call 74; refine (hb _).mono ?_; rintro e w' ⟨rfl, rfl⟩)
  go_ret
  exact ⟨rfl, rfl⟩
end Go.Proofs.Ytbffpallhofonaa
