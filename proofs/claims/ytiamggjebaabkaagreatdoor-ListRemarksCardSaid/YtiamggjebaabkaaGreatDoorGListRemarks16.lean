/- Merged: ShaN, OctA, OctB, OctD, OctE. -/
import Derived.Test.YtiamggjebaabkaaGreatDoorGListRemarks15
import Derived.Test.YtiamggjebaabkaaGreatDoorGListRemarks5
import Derived.Test.YtiamggjebaabkaaGreatDoorGListRemarks7
import Derived.Test.YtiamggjebaabkaaGreatDoorGListRemarks2
import Derived.Deep.OwnRows
import Derived.LoopTactic
import Derived.Laws.BitsAllLaws
namespace Go.Proofs.YtiamggjebaabkaaGreatDoor
open Go.RowKit
set_option linter.unusedVariables false

/-- A block's word. -/
def bw (l : List UInt8) (t : Nat) : BitVec 32 := BitVec.ofNat 32 (ebv ((l.drop (4 * t)).take 4))
/-- The word behind those that there are. -/
def snx (l : List UInt8) (t : Nat) (p : List (BitVec 32)) : BitVec 32 :=
  if t < 16 then bw l t else rot (p.getD (t - 3) 0 ^^^ p.getD (t - 8) 0 ^^^ p.getD (t - 14) 0 ^^^ p.getD (t - 16) 0) 1
/-- A block's first words. -/
def sch (l : List UInt8) : Nat → List (BitVec 32)
  | 0 => []
  | n + 1 => sch l n ++ [snx l n (sch l n)]
theorem sch_len (l : List UInt8) (n : Nat) : (sch l n).length = n := by
  induction n with
  | zero => rfl
  | succ n ih => simp [sch, ih]
theorem sch_get (l : List UInt8) {i n : Nat} (h : i < n) : (sch l n).getD i 0 = snx l i (sch l i) := by
  induction n with
  | zero => omega
  | succ n ih =>
    rw [show sch l (n + 1) = sch l n ++ [snx l n (sch l n)] from rfl]
    rw [List.getD_eq_getElem?_getD]
    rcases (by omega : i < n ∨ i = n) with g | rfl
    · rw [List.getElem?_append_left (by rw [sch_len]; exact g), ← List.getD_eq_getElem?_getD]; exact ih g
    · rw [List.getElem?_append_right (by rw [sch_len]; exact Nat.le_refl _), sch_len, Nat.sub_self]; rfl
theorem sch_at (l : List UInt8) {i n : Nat} (h : i < n) : (sch l n)[i]? = some (snx l i (sch l i)) := by
  have e := sch_get l h
  have hl : i < (sch l n).length := by rw [sch_len]; exact h
  rw [List.getD_eq_getElem?_getD, List.getElem?_eq_getElem hl] at e
  rw [List.getElem?_eq_getElem hl]
  exact congrArg some e
/-- The state behind the first rounds. -/
def rds (p : List (BitVec 32)) (s : St) : Nat → St
  | 0 => s
  | n + 1 => srd n (p.getD n 0) (rds p s n)
def plus (s r : St) : St := ⟨s.a + r.a, s.b + r.b, s.c + r.c, s.d + r.d, s.e + r.e⟩
/-- The state behind a block. -/
def stp (s : St) (l : List UInt8) : St := plus s (rds (sch l 80) s 80)
def s0 : St := ⟨0x67452301#32, 0xefcdab89#32, 0x98badcfe#32, 0x10325476#32, 0xc3d2e1f0#32⟩
/-- How many zeros; the padded text. -/
def pz (n : Nat) : Nat := (119 - n % 64) % 64
def padL (l : List UInt8) : List UInt8 := l ++ 128 :: (List.replicate (pz l.length) 0 ++ be 8 (8 * l.length))
/-- How many blocks. -/
def pb (n : Nat) : Nat := (n + 72) / 64
theorem spad_len (l : List UInt8) : (padL l).length = 64 * pb l.length := by
  unfold padL pb pz
  simp only [List.length_append, List.length_cons, List.length_replicate, be_len]
  omega
/-- The state behind the first blocks. -/
def runN (p : List UInt8) : Nat → St
  | 0 => s0
  | n + 1 => stp (runN p n) ((p.drop (64 * n)).take 64)
def dig (l : List UInt8) : St := runN (padL l) (pb l.length)
/-- Its bytes, and their signs. -/
def byt (s : St) : List UInt8 := be 4 s.a.toNat ++ (be 4 s.b.toNat ++ (be 4 s.c.toNat ++ (be 4 s.d.toNat ++ be 4 s.e.toNat)))
theorem byt_len (s : St) : (byt s).length = 20 := by simp [byt, be_len]
/-- Four bytes and a word undo one another. -/
theorem word_back (x : BitVec 32) : BitVec.ofNat 32 (ebv (be 4 x.toNat)) = x := by
  rw [ebv_be_fit (by have := x.isLt; omega)]; simp

end Go.Proofs.YtiamggjebaabkaaGreatDoor

namespace Go.Proofs.YtiamggjebaabkaaGreatDoor
open Go.RowKit Go.WideShapes Go.ChangeShapes
set_option linter.unusedVariables false

/-- Why bytes have no room for so many parts of a size (0: they have). -/
def rm (len : Nat) (at_ many : Int) (size : Nat) : Int := if at_ < 0 ∨ len < at_ ∨ many < 0 then 1 else if (len - at_) / size < many then 4 else 0
set_option maxHeartbeats 800000 in
theorem room_any (A : Option Addr) (l : List UInt8) (c : Nat) (at_ many : Int) (size : Nat) (w : World) (hl : l.length ≤ 1000000) (ha : fits at_) (hm : fits many) (hs : size = 1 ∨ size = 2 ∨ size = 4 ∨ size = 8) :
    Calls Tryz.prog 206 #[.slice A l.length c, .int .i64 at_, .int .i64 many, .int .i64 size] w fun e w' => e = .returned (ev (rm l.length at_ many size)) ∧ w = w' := by
  unfold fits at ha hm
  generalize l.length = N at *
  by_cases h1 : at_ < 0
  · have HR := Lib.hid (show rm N at_ many size = 1 by unfold rm; rw [if_pos (.inl h1)])
    go_enter Tryz.func206, Tryz.ntmps206
    go_wp2
    go_ret
    exact ⟨by rw [HR.out]; rfl, rfl⟩
  · by_cases h2 : (N : Int) < at_
    · have HR := Lib.hid (show rm N at_ many size = 1 by unfold rm; rw [if_pos (.inr (.inl h2))])
      go_enter Tryz.func206, Tryz.ntmps206
      go_wp2
      go_ret
      exact ⟨by rw [HR.out]; rfl, rfl⟩
    · by_cases h3 : many < 0
      · have HR := Lib.hid (show rm N at_ many size = 1 by unfold rm; rw [if_pos (.inr (.inr h3))])
        go_enter Tryz.func206, Tryz.ntmps206
        go_wp2
        go_ret
        exact ⟨by rw [HR.out]; rfl, rfl⟩
      · have e : rm N at_ many size = if (N - at_) / size < many then 4 else 0 := by unfold rm; rw [if_neg (by omega)]
        obtain ⟨a, rfl⟩ := Int.eq_ofNat_of_zero_le (a := at_) (by omega)
        have hlo : (a : Int) ≤ N := by omega
        clear h1 h2
        by_cases h4 : ((N : Int) - a) / size < many
        · have HR := Lib.hid (show rm N a many size = 4 by rw [e, if_pos h4])
          clear e
          rcases hs with rfl | rfl | rfl | rfl
          · have h5 : (N : Int) - a < many := by omega
            clear h4
            go_enter Tryz.func206, Tryz.ntmps206
            go_wp2
            go_ret
            exact ⟨by rw [HR.out]; rfl, rfl⟩
          · have h5 : ((N : Int) - a) / 2 < many := h4
            clear h4
            go_enter Tryz.func206, Tryz.ntmps206
            go_wp2
            go_ret
            exact ⟨by rw [HR.out]; rfl, rfl⟩
          · have h5 : ((N : Int) - a) / 4 < many := h4
            clear h4
            go_enter Tryz.func206, Tryz.ntmps206
            go_wp2
            go_ret
            exact ⟨by rw [HR.out]; rfl, rfl⟩
          · have h5 : ((N : Int) - a) / 8 < many := h4
            clear h4
            go_enter Tryz.func206, Tryz.ntmps206
            go_wp2
            go_ret
            exact ⟨by rw [HR.out]; rfl, rfl⟩
        · have HR := Lib.hid (show rm N a many size = 0 by rw [e, if_neg h4])
          clear e
          rcases hs with rfl | rfl | rfl | rfl
          · have h5 : ¬ (N : Int) - a < many := by omega
            clear h4
            go_enter Tryz.func206, Tryz.ntmps206
            go_wp2
            go_ret
            exact ⟨by rw [HR.out]; rfl, rfl⟩
          · have h5 : ¬ ((N : Int) - a) / 2 < many := h4
            clear h4
            go_enter Tryz.func206, Tryz.ntmps206
            go_wp2
            go_ret
            exact ⟨by rw [HR.out]; rfl, rfl⟩
          · have h5 : ¬ ((N : Int) - a) / 4 < many := h4
            clear h4
            go_enter Tryz.func206, Tryz.ntmps206
            go_wp2
            go_ret
            exact ⟨by rw [HR.out]; rfl, rfl⟩
          · have h5 : ¬ ((N : Int) - a) / 8 < many := h4
            clear h4
            go_enter Tryz.func206, Tryz.ntmps206
            go_wp2
            go_ret
            exact ⟨by rw [HR.out]; rfl, rfl⟩

theorem info8 : (Tryz.prog.info? 5).map (fun i => (i.zero, i.size, i.bytes)) = some (some (.int .u8 0), 1, 1) := by kernel_rfl
theorem size8 : (Tryz.prog.info? 5).map (·.size) = some 1 := by kernel_rfl
theorem made_bc (n : Nat) : madeCells #[Value.int .u8 0] n = (bc (List.replicate n 0)).toArray := by
  have := toList_madeCells_one (Value.int .u8 0) n
  rw [bc_rep, ← this]
theorem make_bytes (n : Nat) (h : n ≤ 1000000000) (w : World) : (Instr.makeSlice 59 (.int .i64 (n : Int)) (.int .i64 (n : Int))).run Tryz.prog w =
    .ok (.slice (some ⟨w.heap.size, 0, none⟩) n n) (w.alloc (.cells (bc (List.replicate n 0)).toArray 5)) := by
  rw [run_make_row' 59 5 (.int .u8 0) 1 Tryz.underlying59 info8 rfl .i64 .i64 n (by omega) (by omega) w, made_bc]

/-- copy of bytes to the head of a block that the call made. -/
theorem copy_new {ops : Array Oper} {rest : List Oper} {o : Oper} {a : Act} {Q : Exit → Act → World → Prop} {w : World} {n cap c : Nat} (d s : Operand) (B : Nat) (w0 : World) (g : Nat) (Z : List UInt8) (A : Option Addr) (l : List UInt8)
    (hg : Bk w g Z) (hr : Rb w A l) (hz : l.length ≤ Z.length) (hb : Below B w0 w) (hBg : B ≤ g)
    (hgd : o.guard = none) (ho : o.op = .call { callee := .builtin .copy, args := #[d, s], argTypes := #[59, 59] })
    (hd : a.eval d = .slice (some ⟨g, 0, none⟩) n cap) (hs : a.eval s = .slice A l.length c) (hn : l.length ≤ n)
    (h : ∀ w', Bk w' g (splice Z 0 l) → Below B w0 w' → wpList Tryz.prog ops Q rest (a.put o.dst (goInt l.length)) w') : wpList Tryz.prog ops Q (o :: rest) a w := by
  refine wpList_copy_splice hgd d s 59 59 ho 5 Tryz.underlying59 size8 _ _ _ _ _ _ hd hs g 0 (bc Z) 5 hg (bc l) (by rw [bc_len]; exact (Nat.min_eq_left hn).symm) (fun hp => ⟨rfl, ?_⟩) (by rw [bc_len, bc_len]; omega) bc_one B w0 hb hBg ?_
  · rw [bc_len] at hp
    obtain ⟨b, off, rfl, _, _⟩ := hr.cell hp
    refine ⟨_, rfl, fun j v hv => ?_⟩
    obtain ⟨hj, rfl⟩ := bc_get hv
    obtain ⟨b', off', e, _, h3⟩ := hr.cell hj
    injection e with e
    injection e with e1 e2
    subst e1; subst e2
    rw [add_plain]; exact h3
  · intro w' h1 h2
    rw [bc_len]
    refine h w' ?_ h2
    have := h1.out
    rw [bc_splice] at this
    exact this
set_option maxHeartbeats 800000 in
theorem extended_any (A : Option Addr) (l : List UInt8) (c m : Nat) (w : World) (h : Rb w A l) (hl : l.length ≤ 1000000) (hm : m ≤ 1000000) :
    Calls Tryz.prog 161 #[.slice A l.length c, .int .i64 m] w fun e w' =>
      e = .returned (.slice (some ⟨w.heap.size, 0, none⟩) (l ++ List.replicate m 0).length (l ++ List.replicate m 0).length) ∧ Bk w' w.heap.size (l ++ List.replicate m 0) ∧ Below w.heap.size w w' := by
  have e0 : (l ++ List.replicate m 0).length = l.length + m := by simp
  rw [e0]; clear e0
  have hmk := fun w => make_bytes (l.length + m) (by omega) w
  rw [show ((l.length + m : Nat) : Int) = (l.length : Int) + (m : Int) by omega] at hmk
  have hg : Bk (w.alloc (.cells (bc (List.replicate (l.length + m) 0)).toArray 5)) w.heap.size (List.replicate (l.length + m) 0) := heap_alloc_new w _
  have hb : Below w.heap.size w (w.alloc (.cells (bc (List.replicate (l.length + m) 0)).toArray 5)) := (Below.refl _ _).alloc (Nat.le_refl _) _
  have hr := h.below hb
  have e : splice (List.replicate (l.length + m) 0) 0 l = l ++ List.replicate m 0 := by unfold splice; simp
  have hz : l.length ≤ (List.replicate (l.length + m) (0 : UInt8)).length := by simp
  have HG := Lib.hid hg; have HB := Lib.hid hb; have HR := Lib.hid hr; have E := Lib.hid e; have HZ := Lib.hid hz
  have HN := Lib.hid (List.length_replicate (n := l.length + m) (a := (0 : UInt8)))
  generalize List.replicate (l.length + m) (0 : UInt8) = Z at *
  clear hg hb hr e hz h
  go_enter Tryz.func161, Tryz.ntmps161
  go_wp2_with (refine copy_new (.tmp 11) (.tmp 12) w.heap.size w w.heap.size Z A l HG.out HR.out HZ.out HB.out (Nat.le_refl _) rfl rfl rfl rfl (Nat.le_add_right _ _) ?_; intro w2 hk2 hb2; rw [E.out] at hk2; have HK2 := Lib.hid hk2; have HB2 := Lib.hid hb2; clear hk2 hb2)
  go_ret
  exact ⟨rfl, HK2.out, HB2.out⟩

set_option maxRecDepth 100000 in
theorem size32_any (w : World) : Calls Tryz.prog 160 #[] w fun e w' => e = .returned (.int .i64 4) ∧ w = w' := by
  have hb := fun w => Tryz.bits_Len64 4294967295 w (by decide) (by decide)
  rw [show (Lib.bitLen (4294967295 : Int).toNat) = 32 by decide +kernel] at hb
  go_enter Tryz.func160, Tryz.ntmps160
  go_wp2_with (go_at_call 181; refine (hb _).mono ?_; rintro e w' ⟨rfl, rfl⟩)
  go_ret
  exact ⟨rfl, rfl⟩
set_option maxRecDepth 100000 in
theorem size64_any (w : World) : Calls Tryz.prog 186 #[] w fun e w' => e = .returned (.int .i64 8) ∧ w = w' := by
  have hb := fun w => Tryz.bits_Len64 18446744073709551615 w (by decide) (by decide)
  rw [show (Lib.bitLen (18446744073709551615 : Int).toNat) = 64 by decide +kernel] at hb
  go_enter Tryz.func186, Tryz.ntmps186
  go_wp2_with (go_at_call 181; refine (hb _).mono ?_; rintro e w' ⟨rfl, rfl⟩)
  go_ret
  exact ⟨rfl, rfl⟩
end Go.Proofs.YtiamggjebaabkaaGreatDoor

namespace Go.Proofs.YtiamggjebaabkaaGreatDoor
open Go.RowKit Go.WideShapes Go.ChangeShapes
set_option linter.unusedVariables false

theorem byte_nat (r : Nat) : ((UInt8.ofNat (r % 256)).toNat : Int) = (r : Int) % 256 := by simp
theorem pow_step (x j : Nat) : x / 256 ^ (j + 1) = x / 256 ^ j / 256 := by rw [Nat.pow_succ, Nat.div_div_eq_div_mul]
theorem grown_self (w : World) (g : Nat) : w.grownBy w (some g) := ⟨rfl, rfl, rfl, Nat.le_refl _, fun _ _ _ => rfl⟩
theorem grown_set {w wr : World} {g : Nat} (h : w.grownBy wr (some g)) (i : Nat) (v : Value) : w.grownBy (wr.setCell ⟨g, i, none⟩ v) (some g) :=
  ⟨h.os, h.tape, h.output, by simpa [World.setCell] using h.size, fun k hk hne => (Below.heap_setCell wr ⟨g, i, none⟩ v k (fun e => hne (by rw [e]))).trans (h.block k hk hne)⟩
/-- One byte more is laid ahead of those that lie. -/
theorem fill_step {wr : World} {g off j k x r : Nat} {L : List UInt8} (h : Bk wr g (splice L (off + (k + 1)) (be j x))) (hl : off + k + 1 + j ≤ L.length) (hr : r = x / 256 ^ j) :
    Bk (wr.setCell ⟨g, off + k, none⟩ (.int .u8 ((r : Int) % 256))) g (splice L (off + k) (be (j + 1) x)) := by
  have := h.set (off + k) (UInt8.ofNat (r % 256))
  rw [byte_nat, ← Nat.add_assoc, splice_cons _ (by rw [be_len]; omega)] at this
  rw [be, ← hr]; exact this
theorem fill_cell {wr : World} {g off j k x : Nat} {L : List UInt8} (h : Bk wr g (splice L (off + (k + 1)) (be j x))) (hl : off + k + 1 + j ≤ L.length) : ∃ v, wr.cell? ⟨g, off + k, none⟩ = some (.int .u8 v) := by
  have hlen : (splice L (off + (k + 1)) (be j x)).length = L.length := splice_len (by rw [be_len]; omega)
  exact ⟨_, h.cell (by rw [hlen]; omega)⟩
set_option maxHeartbeats 800000 in
theorem fill32_any (g off cap x : Nat) (L : List UInt8) (w : World) (h : Bk w g L) (hl : off + 4 ≤ L.length) (hx : x < 4294967296) :
    Calls Tryz.prog 163 #[.slice (some ⟨g, off, none⟩) 4 cap, .int .u32 x] w fun e w' => e = .returned (.tuple #[]) ∧ Bk w' g (splice L off (be 4 x)) ∧ w.grownBy w' (some g) := by
  have h0 : Bk w g (splice L (off + 4) (be 0 x)) := by rw [show be 0 x = [] from rfl, splice_nil]; exact h
  have H0 := Lib.hid h0; have HG := Lib.hid (grown_self w g)
  clear h h0
  go_enter Tryz.func163, Tryz.ntmps163
  go_wp2
  go_loopw [4, 10] (fun r i wr => ∃ j k : Nat, j + k = 4 ∧ r = .int .u64 (x / 256 ^ j : Nat) ∧ i = .int .i64 j ∧ Hid (Bk wr g (splice L (off + k) (be j x))) ∧ Hid (w.grownBy wr (some g))) (fun _ i _ => 4 - (intOf i).toNat)
  case atStart => exact ⟨0, 4, by omega, int_eq (by simp), rfl, H0, HG⟩
  case round =>
    obtain ⟨j, k, hjk, rfl, rfl, HB, HW⟩ := hrel
    clear H0 HG
    cases k with
    | zero =>
      obtain rfl : j = 4 := by omega
      go_wp2
      go_end0
      exact ⟨rfl, HB.out, HW.out⟩
    | succ k =>
      obtain ⟨r, hr⟩ : ∃ r, r = x / 256 ^ j := ⟨_, rfl⟩
      have hr1 : r < 18446744073709551616 := by rw [hr]; exact Nat.lt_of_le_of_lt (Nat.div_le_self _ _) (by omega)
      have HB2 := Lib.hid (fill_step HB.out (by omega) hr)
      obtain ⟨v, hv⟩ := fill_cell HB.out (by omega)
      have hf := HB.out.free (off + k)
      have HW2 := Lib.hid (grown_set HW.out (off + k) (.int .u8 ((r : Int) % 256)))
      have HR2 : Hid (x / 256 ^ (j + 1) = r / 256) := by rw [pow_step, ← hr]; exact rfl
      rw [← hr]
      clear hr
      have hk : (3 - (j : Int)).toNat = k := by omega
      have hlt : j < 4 := by omega
      go_wp2
      go_roundw
      case rel => exact ⟨j + 1, k, by omega, int_eq (by rw [HR2.out]; omega), by go_num, HB2, HW2⟩
      case measure => simp [intOf]; omega
set_option maxHeartbeats 800000 in
theorem fill64_any (g off cap x : Nat) (L : List UInt8) (w : World) (h : Bk w g L) (hl : off + 8 ≤ L.length) (hx : x < 18446744073709551616) :
    Calls Tryz.prog 187 #[.slice (some ⟨g, off, none⟩) 8 cap, .int .u64 x] w fun e w' => e = .returned (.tuple #[]) ∧ Bk w' g (splice L off (be 8 x)) ∧ w.grownBy w' (some g) := by
  have h0 : Bk w g (splice L (off + 8) (be 0 x)) := by rw [show be 0 x = [] from rfl, splice_nil]; exact h
  have H0 := Lib.hid h0; have HG := Lib.hid (grown_self w g)
  clear h h0
  go_enter Tryz.func187, Tryz.ntmps187
  go_wp2
  go_loopw [4, 9] (fun r i wr => ∃ j k : Nat, j + k = 8 ∧ r = .int .u64 (x / 256 ^ j : Nat) ∧ i = .int .i64 j ∧ Hid (Bk wr g (splice L (off + k) (be j x))) ∧ Hid (w.grownBy wr (some g))) (fun _ i _ => 8 - (intOf i).toNat)
  case atStart => exact ⟨0, 8, by omega, int_eq (by simp), rfl, H0, HG⟩
  case round =>
    obtain ⟨j, k, hjk, rfl, rfl, HB, HW⟩ := hrel
    clear H0 HG
    cases k with
    | zero =>
      obtain rfl : j = 8 := by omega
      go_wp2
      go_end0
      exact ⟨rfl, HB.out, HW.out⟩
    | succ k =>
      obtain ⟨r, hr⟩ : ∃ r, r = x / 256 ^ j := ⟨_, rfl⟩
      have hr1 : r < 18446744073709551616 := by rw [hr]; exact Nat.lt_of_le_of_lt (Nat.div_le_self _ _) (by omega)
      have HB2 := Lib.hid (fill_step HB.out (by omega) hr)
      obtain ⟨v, hv⟩ := fill_cell HB.out (by omega)
      have hf := HB.out.free (off + k)
      have HW2 := Lib.hid (grown_set HW.out (off + k) (.int .u8 ((r : Int) % 256)))
      have HR2 : Hid (x / 256 ^ (j + 1) = r / 256) := by rw [pow_step, ← hr]; exact rfl
      rw [← hr]
      clear hr
      have hk : (7 - (j : Int)).toNat = k := by omega
      have hlt : j < 8 := by omega
      go_wp2
      go_roundw
      case rel => exact ⟨j + 1, k, by omega, int_eq (by rw [HR2.out]; omega), by go_num, HB2, HW2⟩
      case measure => simp [intOf]; omega
end Go.Proofs.YtiamggjebaabkaaGreatDoor

namespace Go.Proofs.YtiamggjebaabkaaGreatDoor
open Go.RowKit Go.WideShapes Go.ChangeShapes
set_option linter.unusedVariables false

set_option maxRecDepth 100000 in
theorem or8 {n x : Nat} (hx : x < 256) (h : n * 256 + 255 < 18446744073709551616) : bits .or .u64 ((n : Int) * 256) (x : Int) = ((n * 256 + x : Nat) : Int) := by
  rw [show ((n : Int) * 256) = ((n * 256 : Nat) : Int) by simp, u64_or_nat _ _ (by omega) (by omega)]
  congr 1
  rw [show n * 256 = 2 ^ 8 * n by omega, ← Nat.two_pow_add_eq_or_of_lt (by omega : x < 2 ^ 8)]
set_option maxHeartbeats 800000 in
theorem join32_any (A : Option Addr) (l : List UInt8) (c : Nat) (w : World) (h : Rb w A l) (hl : l.length = 4) :
    Calls Tryz.prog 207 #[.slice A 4 c] w fun e w' => e = .returned (.int .u32 (ebv l : Nat)) ∧ w = w' := by
  obtain ⟨b, off, rfl, _, _⟩ := h.cell (i := 0) (by omega)
  have hv := ebv_lt l
  rw [hl] at hv
  have hcell : ∀ k (hk : k < l.length), w.cell? ⟨b, off + k, none⟩ = some (.int .u8 (l[k].toNat : Int)) := fun k hk => by
    obtain ⟨b', off', e, _, h3⟩ := h.cell hk
    injection e with e
    injection e with e1 e2
    subst e1; subst e2; exact h3
  have htk : ∀ k, k < 4 → ebv (l.take k) * 256 + 255 < 256 ^ 8 := fun k hk => Nat.lt_of_lt_of_le (ebv_take_lt (k := 4) hk (by omega)) (Nat.pow_le_pow_right (by decide) (by decide))
  have hall : ebv (l.take 4) = ebv l := by rw [← hl, List.take_length]
  have HV := Lib.hid hv; have HA := Lib.hid hall; have HL := Lib.hid hl
  clear h hv hall
  go_enter Tryz.func207, Tryz.ntmps207
  go_wp2
  go_loop [3, 5, 8] (fun r _ i => ∃ k : Nat, k ≤ 4 ∧ r = .int .u64 (ebv (l.take k) : Nat) ∧ i = .int .i64 k) (fun _ _ i => 4 - (intOf i).toNat)
  case atStart => exact ⟨0, Nat.zero_le _, rfl, rfl⟩
  case round =>
    obtain ⟨k, hk, rfl, rfl⟩ := hrel
    by_cases hlt : k < 4
    · have hc := hcell k (by omega)
      have HE := Lib.hid (ebv_step (l := l) (i := k) (by omega))
      have ht := htk k hlt
      have hb : l[k].toNat < 256 := l[k].toNat_lt
      clear hcell HV HA htk
      generalize l[k].toNat = x at *
      generalize ebv (l.take k) = n at *
      have ho := or8 hb (by omega : n * 256 + 255 < 18446744073709551616)
      have hw : IntKind.u64.wrap (x : Int) = (x : Int) := IntWalk.u64_in _ (by omega)
      go_wp2
      go_round
      case rel => exact ⟨k + 1, by omega, int_eq (by rw [HE.out]; omega), by go_num⟩
      case measure => simp [intOf]; omega
    · obtain rfl : k = 4 := by omega
      have hv2 := HV.out
      have ha2 := HA.out
      clear HV HA htk hcell
      rw [ha2]; clear ha2
      obtain ⟨n, hn⟩ : ∃ n, n = ebv l := ⟨_, rfl⟩
      rw [← hn] at hv2 ⊢
      have HN := Lib.hid hn; clear hn
      go_wp2
      go_ret
      exact ⟨ret1_eq (int_eq (by rw [HN.out])), rfl⟩
end Go.Proofs.YtiamggjebaabkaaGreatDoor

namespace Go.Proofs.YtiamggjebaabkaaGreatDoor
open Go.RowKit Go.WideShapes Go.ChangeShapes
set_option linter.unusedVariables false

theorem rm_zero {N S : Nat} {at_ many : Int} (h : rm N at_ many S = 0) : 0 ≤ at_ ∧ at_ ≤ N ∧ 0 ≤ many ∧ many ≤ (N - at_) / S := by
  unfold rm at h
  split at h
  · cases h
  · split at h
    · cases h
    · omega
end Go.Proofs.YtiamggjebaabkaaGreatDoor
