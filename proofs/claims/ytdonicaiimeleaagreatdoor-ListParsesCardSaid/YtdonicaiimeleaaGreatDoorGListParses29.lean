/- Merged: OctM, ShaN, OctA, OctB. -/
import Derived.Test.YtdonicaiimeleaaGreatDoorGListParses23
import Derived.Laws.CopyOwn
import Derived.Test.YtdonicaiimeleaaGreatDoorGListParses28
import Derived.Test.YtdonicaiimeleaaGreatDoorGListParses25
import Derived.Test.YtdonicaiimeleaaGreatDoorGListParses4
import Derived.Deep.OwnRows
import Derived.LoopTactic
namespace Go.Proofs.YtdonicaiimeleaaGreatDoor
open Go.RowKit
set_option linter.unusedVariables false

/-- The k bytes of n, the highest first. -/
def be (k n : Nat) : List UInt8 := match k with
  | 0 => []
  | k + 1 => UInt8.ofNat (n / 256 ^ k % 256) :: be k n
theorem be_len (k n : Nat) : (be k n).length = k := by
  induction k with
  | zero => rfl
  | succ k ih => simp [be, ih]
/-- The number of bytes. -/
def ebv (l : List UInt8) : Nat := l.foldl (fun n b => n * 256 + b.toNat) 0
theorem ebv_snoc (l : List UInt8) (b : UInt8) : ebv (l ++ [b]) = ebv l * 256 + b.toNat := by simp [ebv]
theorem ebv_step {l : List UInt8} {i : Nat} (h : i < l.length) : ebv (l.take (i + 1)) = ebv (l.take i) * 256 + l[i].toNat := by
  rw [← ebv_snoc, List.take_succ_eq_append_getElem h]
theorem fold_cons (l : List UInt8) (x : Nat) : l.foldl (fun n b => n * 256 + b.toNat) x = x * 256 ^ l.length + ebv l := by
  induction l generalizing x with
  | nil => simp [ebv]
  | cons b l ih =>
    simp only [List.foldl_cons, List.length_cons, ebv, Nat.zero_mul, Nat.zero_add]
    rw [ih, ih b.toNat, Nat.pow_succ, Nat.add_mul, Nat.mul_assoc, Nat.mul_comm 256, Nat.add_assoc]
theorem ebv_cons (b : UInt8) (l : List UInt8) : ebv (b :: l) = b.toNat * 256 ^ l.length + ebv l := by
  show (b :: l).foldl _ 0 = _
  rw [List.foldl_cons, fold_cons]; simp
theorem ebv_lt (l : List UInt8) : ebv l < 256 ^ l.length := by
  induction l with
  | nil => simp [ebv]
  | cons b l ih =>
    rw [ebv_cons, List.length_cons, Nat.pow_succ]
    have hb := b.toNat_lt
    have : (b.toNat + 1) * 256 ^ l.length ≤ 256 * 256 ^ l.length := Nat.mul_le_mul_right _ (by omega)
    rw [Nat.add_mul] at this; omega
theorem ebv_be (k n : Nat) : ebv (be k n) = n % 256 ^ k := by
  induction k with
  | zero => simp [be, ebv, Nat.mod_one]
  | succ k ih =>
    rw [be, ebv_cons, ih, be_len]
    have h : (UInt8.ofNat (n / 256 ^ k % 256)).toNat = n / 256 ^ k % 256 := by simp
    rw [h, Nat.pow_succ, Nat.mod_mul, Nat.mul_comm, Nat.add_comm]
theorem ebv_be_fit {k n : Nat} (h : n < 256 ^ k) : ebv (be k n) = n := by rw [ebv_be, Nat.mod_eq_of_lt h]
theorem ebv_take_lt {l : List UInt8} {i k : Nat} (hi : i < k) (h : i ≤ l.length) : ebv (l.take i) * 256 + 255 < 256 ^ k := by
  have h1 := ebv_lt (l.take i)
  rw [List.length_take, Nat.min_eq_left h] at h1
  have h2 : 256 ^ (i + 1) ≤ 256 ^ k := Nat.pow_le_pow_right (by decide) (by omega)
  rw [Nat.pow_succ] at h2
  omega

/-- Bytes as cells. -/
def bc (l : List UInt8) : List Value := l.map fun b => Value.int .u8 (b.toNat : Int)
theorem bc_len (l : List UInt8) : (bc l).length = l.length := by simp [bc]
theorem bc_at {l : List UInt8} {j : Nat} (h : j < l.length) : (bc l)[j]? = some (.int .u8 (l[j].toNat : Int)) := by
  unfold bc; rw [List.getElem?_map, List.getElem?_eq_getElem h]; rfl
theorem bc_get {l : List UInt8} {j : Nat} {v : Value} (h : (bc l)[j]? = some v) : ∃ hj : j < l.length, v = .int .u8 (l[j].toNat : Int) := by
  have hj : j < l.length := by
    have := (List.getElem?_eq_some_iff.1 h).1
    rwa [bc_len] at this
  refine ⟨hj, ?_⟩
  rw [bc_at hj] at h
  exact (Option.some.inj h).symm
theorem bc_rep (n : Nat) : bc (List.replicate n 0) = List.replicate n (.int .u8 0) := by simp [bc]
theorem bc_one {l : List UInt8} : ∀ v ∈ bc l, v.oneCell' = true := by
  intro v hv
  obtain ⟨b, _, rfl⟩ := List.mem_map.1 hv
  rfl
theorem bc_splice (L : List UInt8) (off : Nat) (cs : List UInt8) : splice (bc L) off (bc cs) = bc (splice L off cs) := by
  simp [splice, bc, List.map_take, List.map_drop]

theorem splice_nil {α : Type} (L : List α) (off : Nat) : splice L off [] = L := by simp [splice]
theorem splice_cons {α : Type} {L : List α} {off : Nat} {cs : List α} (c : α) (h : off + 1 + cs.length ≤ L.length) : (splice L (off + 1) cs).set off c = splice L off (c :: cs) := by
  unfold splice
  rw [List.set_append_left _ _ (by rw [List.length_take]; omega), List.length_cons]
  have e1 : (L.take (off + 1)).set off c = L.take off ++ [c] := by
    rw [List.take_succ_eq_append_getElem (by omega), List.set_append_right _ _ (by rw [List.length_take]; omega), List.length_take, Nat.min_eq_left (by omega), Nat.sub_self]
    rfl
  rw [e1, show off + 1 + cs.length = off + (cs.length + 1) by omega]
  simp
theorem splice_all {α : Type} {L cs : List α} (h : L.length = cs.length) : splice L 0 cs = cs := by
  unfold splice; rw [List.drop_eq_nil_of_le (by omega)]; simp
theorem splice_len {α : Type} {L : List α} {off : Nat} {cs : List α} (h : off + cs.length ≤ L.length) : (splice L off cs).length = L.length := length_splice L off cs h
theorem splice_end {α : Type} {L M cs : List α} (h : M.length = cs.length) : splice (L ++ M) L.length cs = L ++ cs := by
  unfold splice; rw [List.drop_eq_nil_of_le (by simp; omega)]; simp
/-- Behind a part that is laid anew a further one. -/
theorem splice_two {α : Type} {L : List α} {off : Nat} {a b : List α} (h : off + a.length + b.length ≤ L.length) : splice (splice L off a) (off + a.length) b = splice L off (a ++ b) := by
  unfold splice
  have h1 : off ≤ L.length := by omega
  have e1 : (L.take off ++ (a ++ L.drop (off + a.length))).take (off + a.length) = L.take off ++ a := by
    rw [← List.append_assoc, List.take_append_of_le_length (by simp; omega)]
    exact List.take_of_length_le (by simp; omega)
  have e2 : (L.take off ++ (a ++ L.drop (off + a.length))).drop (off + a.length + b.length) = L.drop (off + (a ++ b).length) := by
    rw [← List.append_assoc, List.drop_append, List.drop_eq_nil_of_le (by simp; omega), List.nil_append, List.drop_drop]
    congr 1
    simp
    omega
  rw [e1, e2]; simp

/-- The block g holds just the bytes L. -/
def Bk (w : World) (g : Nat) (L : List UInt8) : Prop := w.heap[g]? = some (.cells (bc L).toArray 5 (0, 0))
theorem Bk.lt {w : World} {g : Nat} {L : List UInt8} (h : Bk w g L) : g < w.heap.size := (Array.getElem?_eq_some_iff.1 h).1
theorem Bk.cell {w : World} {g : Nat} {L : List UInt8} (h : Bk w g L) {i : Nat} (hi : i < L.length) : w.cell? ⟨g, i, none⟩ = some (.int .u8 (L[i].toNat : Int)) := by
  have e := bc_at hi
  unfold Bk at h
  simp [World.cell?, h]; simpa using e
theorem Bk.free {w : World} {g : Nat} {L : List UInt8} (h : Bk w g L) (i : Nat) : w.frozen? ⟨g, i, none⟩ = false := by
  unfold Bk at h; simp [World.frozen?, h]
theorem Bk.below {w w' : World} {g B : Nat} {L : List UInt8} (h : Bk w g L) (hb : Below B w w') (hB : g < B) : Bk w' g L := (hb.block g hB).trans h
theorem Bk.kept {w w' : World} {g : Nat} {L : List UInt8} {row : Option Nat} (h : Bk w g L) (hg : w.grownBy w' row) (hne : some g ≠ row) : Bk w' g L := (hg.block g h.lt hne).trans h
theorem Bk.alloc {w : World} {g : Nat} {L : List UInt8} (h : Bk w g L) (o : Obj) : Bk (w.alloc o) g L := h.kept (World.grownBy_alloc w o none) (by simp)
theorem Bk.set {w : World} {g : Nat} {L : List UInt8} (h : Bk w g L) (i : Nat) (b : UInt8) : Bk (w.setCell ⟨g, i, none⟩ (.int .u8 (b.toNat : Int))) g (L.set i b) := by
  unfold Bk at h ⊢
  have e : bc (L.set i b) = (bc L).set i (.int .u8 (b.toNat : Int)) := by simp [bc, List.map_set]
  rw [e]
  simp [World.setCell, Array.getElem?_modify, h]
/-- A part of the block reads as its bytes. -/
theorem Bk.reads {w : World} {g : Nat} {L : List UInt8} (h : Bk w g L) (off : Nat) {n : Nat} : Rb w (some ⟨g, off, none⟩) ((L.drop off).take n) := by
  refine ⟨fun z hz => ?_, .inr ⟨g, off, rfl, h.lt, fun j z hj => ?_⟩⟩
  · obtain ⟨b, _, rfl⟩ := List.mem_map.1 hz
    have := b.toNat_lt
    simp [Lit.wf, IntKind.min, IntKind.max, IntKind.signed, IntKind.bits]
    omega
  · unfold nums at hj
    rw [List.getElem?_map] at hj
    cases hq : ((L.drop off).take n)[j]? with
    | none => rw [hq] at hj; cases hj
    | some b =>
      rw [hq] at hj
      obtain ⟨h1, h2⟩ := List.getElem?_eq_some_iff.1 hq
      simp only [List.length_take, List.length_drop] at h1
      simp at h2
      have hc := h.cell (i := off + j) (by omega)
      rw [hc]
      simp at hj
      rw [← hj, h2]
theorem Bk.whole {w : World} {g : Nat} {L : List UInt8} (h : Bk w g L) : Rb w (some ⟨g, 0, none⟩) L := by
  have := h.reads 0 (n := L.length)
  simpa using this
end Go.Proofs.YtdonicaiimeleaaGreatDoor

namespace Go.Proofs.YtdonicaiimeleaaGreatDoor
open Go.RowKit
set_option linter.unusedVariables false

/-- A block's word. -/
def bw (l : List UInt8) (t : Nat) : BitVec 32 := BitVec.ofNat 32 (ebv ((l.drop (4 * t)).take 4))
/-- The word behind those that there are. -/
def snx (l : List UInt8) (t : Nat) (p : List (BitVec 32)) : BitVec 32 :=
  if t < 16 then bw l t else rot (p.getD (t - 3) 0 ^^^ p.getD (t - 8) 0 ^^^ p.getD (t - 14) 0 ^^^ p.getD (t - 16) 0) 1
/-- A block's first words. -/
def sch (l : List UInt8) : Nat → List (BitVec 32)
  | 0 => []
  | n + 1 => sch l n ++ [snx l n (sch l n)]
theorem sch_len (l : List UInt8) (n : Nat) : (sch l n).length = n := by
  induction n with
  | zero => rfl
  | succ n ih => simp [sch, ih]
theorem sch_get (l : List UInt8) {i n : Nat} (h : i < n) : (sch l n).getD i 0 = snx l i (sch l i) := by
  induction n with
  | zero => omega
  | succ n ih =>
    rw [show sch l (n + 1) = sch l n ++ [snx l n (sch l n)] from rfl]
    rw [List.getD_eq_getElem?_getD]
    rcases (by omega : i < n ∨ i = n) with g | rfl
    · rw [List.getElem?_append_left (by rw [sch_len]; exact g), ← List.getD_eq_getElem?_getD]; exact ih g
    · rw [List.getElem?_append_right (by rw [sch_len]; exact Nat.le_refl _), sch_len, Nat.sub_self]; rfl
theorem sch_at (l : List UInt8) {i n : Nat} (h : i < n) : (sch l n)[i]? = some (snx l i (sch l i)) := by
  have e := sch_get l h
  have hl : i < (sch l n).length := by rw [sch_len]; exact h
  rw [List.getD_eq_getElem?_getD, List.getElem?_eq_getElem hl] at e
  rw [List.getElem?_eq_getElem hl]
  exact congrArg some e
/-- The state behind the first rounds. -/
def rds (p : List (BitVec 32)) (s : St) : Nat → St
  | 0 => s
  | n + 1 => srd n (p.getD n 0) (rds p s n)
def plus (s r : St) : St := ⟨s.a + r.a, s.b + r.b, s.c + r.c, s.d + r.d, s.e + r.e⟩
/-- The state behind a block. -/
def stp (s : St) (l : List UInt8) : St := plus s (rds (sch l 80) s 80)
def s0 : St := ⟨0x67452301#32, 0xefcdab89#32, 0x98badcfe#32, 0x10325476#32, 0xc3d2e1f0#32⟩
/-- How many zeros; the padded text. -/
def pz (n : Nat) : Nat := (119 - n % 64) % 64
def padL (l : List UInt8) : List UInt8 := l ++ 128 :: (List.replicate (pz l.length) 0 ++ be 8 (8 * l.length))
/-- How many blocks. -/
def pb (n : Nat) : Nat := (n + 72) / 64
theorem spad_len (l : List UInt8) : (padL l).length = 64 * pb l.length := by
  unfold padL pb pz
  simp only [List.length_append, List.length_cons, List.length_replicate, be_len]
  omega
/-- The state behind the first blocks. -/
def runN (p : List UInt8) : Nat → St
  | 0 => s0
  | n + 1 => stp (runN p n) ((p.drop (64 * n)).take 64)
def dig (l : List UInt8) : St := runN (padL l) (pb l.length)
/-- Its bytes, and their signs. -/
def byt (s : St) : List UInt8 := be 4 s.a.toNat ++ (be 4 s.b.toNat ++ (be 4 s.c.toNat ++ (be 4 s.d.toNat ++ be 4 s.e.toNat)))
theorem byt_len (s : St) : (byt s).length = 20 := by simp [byt, be_len]
/-- Four bytes and a word undo one another. -/
theorem word_back (x : BitVec 32) : BitVec.ofNat 32 (ebv (be 4 x.toNat)) = x := by
  rw [ebv_be_fit (by have := x.isLt; omega)]; simp

end Go.Proofs.YtdonicaiimeleaaGreatDoor

namespace Go.Proofs.YtdonicaiimeleaaGreatDoor
open Go.RowKit Go.WideShapes Go.ChangeShapes
set_option linter.unusedVariables false

/-- Why bytes have no room for so many parts of a size (0: they have). -/
def rm (len : Nat) (at_ many : Int) (size : Nat) : Int := if at_ < 0 ∨ len < at_ ∨ many < 0 then 1 else if (len - at_) / size < many then 4 else 0
set_option maxHeartbeats 800000 in
theorem room_any (A : Option Addr) (l : List UInt8) (c : Nat) (at_ many : Int) (size : Nat) (w : World) (hl : l.length ≤ 1000000) (ha : fits at_) (hm : fits many) (hs : size = 1 ∨ size = 2 ∨ size = 4 ∨ size = 8) :
    Calls Tryz.prog 197 #[.slice A l.length c, .int .i64 at_, .int .i64 many, .int .i64 size] w fun e w' => e = .returned (ev (rm l.length at_ many size)) ∧ w = w' := by
  unfold fits at ha hm
  generalize l.length = N at *
  by_cases h1 : at_ < 0
  · have HR := Lib.hid (show rm N at_ many size = 1 by unfold rm; rw [if_pos (.inl h1)])
    go_enter Tryz.func197, Tryz.ntmps197
    go_wp2
    go_ret
    exact ⟨by rw [HR.out]; rfl, rfl⟩
  · by_cases h2 : (N : Int) < at_
    · have HR := Lib.hid (show rm N at_ many size = 1 by unfold rm; rw [if_pos (.inr (.inl h2))])
      go_enter Tryz.func197, Tryz.ntmps197
      go_wp2
      go_ret
      exact ⟨by rw [HR.out]; rfl, rfl⟩
    · by_cases h3 : many < 0
      · have HR := Lib.hid (show rm N at_ many size = 1 by unfold rm; rw [if_pos (.inr (.inr h3))])
        go_enter Tryz.func197, Tryz.ntmps197
        go_wp2
        go_ret
        exact ⟨by rw [HR.out]; rfl, rfl⟩
      · have e : rm N at_ many size = if (N - at_) / size < many then 4 else 0 := by unfold rm; rw [if_neg (by omega)]
        obtain ⟨a, rfl⟩ := Int.eq_ofNat_of_zero_le (a := at_) (by omega)
        have hlo : (a : Int) ≤ N := by omega
        clear h1 h2
        by_cases h4 : ((N : Int) - a) / size < many
        · have HR := Lib.hid (show rm N a many size = 4 by rw [e, if_pos h4])
          clear e
          rcases hs with rfl | rfl | rfl | rfl
          · have h5 : (N : Int) - a < many := by omega
            clear h4
            go_enter Tryz.func197, Tryz.ntmps197
            go_wp2
            go_ret
            exact ⟨by rw [HR.out]; rfl, rfl⟩
          · have h5 : ((N : Int) - a) / 2 < many := h4
            clear h4
            go_enter Tryz.func197, Tryz.ntmps197
            go_wp2
            go_ret
            exact ⟨by rw [HR.out]; rfl, rfl⟩
          · have h5 : ((N : Int) - a) / 4 < many := h4
            clear h4
            go_enter Tryz.func197, Tryz.ntmps197
            go_wp2
            go_ret
            exact ⟨by rw [HR.out]; rfl, rfl⟩
          · have h5 : ((N : Int) - a) / 8 < many := h4
            clear h4
            go_enter Tryz.func197, Tryz.ntmps197
            go_wp2
            go_ret
            exact ⟨by rw [HR.out]; rfl, rfl⟩
        · have HR := Lib.hid (show rm N a many size = 0 by rw [e, if_neg h4])
          clear e
          rcases hs with rfl | rfl | rfl | rfl
          · have h5 : ¬ (N : Int) - a < many := by omega
            clear h4
            go_enter Tryz.func197, Tryz.ntmps197
            go_wp2
            go_ret
            exact ⟨by rw [HR.out]; rfl, rfl⟩
          · have h5 : ¬ ((N : Int) - a) / 2 < many := h4
            clear h4
            go_enter Tryz.func197, Tryz.ntmps197
            go_wp2
            go_ret
            exact ⟨by rw [HR.out]; rfl, rfl⟩
          · have h5 : ¬ ((N : Int) - a) / 4 < many := h4
            clear h4
            go_enter Tryz.func197, Tryz.ntmps197
            go_wp2
            go_ret
            exact ⟨by rw [HR.out]; rfl, rfl⟩
          · have h5 : ¬ ((N : Int) - a) / 8 < many := h4
            clear h4
            go_enter Tryz.func197, Tryz.ntmps197
            go_wp2
            go_ret
            exact ⟨by rw [HR.out]; rfl, rfl⟩

theorem info8 : (Tryz.prog.info? 5).map (fun i => (i.zero, i.size, i.bytes)) = some (some (.int .u8 0), 1, 1) := by kernel_rfl
theorem size8 : (Tryz.prog.info? 5).map (·.size) = some 1 := by kernel_rfl
theorem made_bc (n : Nat) : madeCells #[Value.int .u8 0] n = (bc (List.replicate n 0)).toArray := by
  have := toList_madeCells_one (Value.int .u8 0) n
  rw [bc_rep, ← this]
theorem make_bytes (n : Nat) (h : n ≤ 1000000000) (w : World) : (Instr.makeSlice 84 (.int .i64 (n : Int)) (.int .i64 (n : Int))).run Tryz.prog w =
    .ok (.slice (some ⟨w.heap.size, 0, none⟩) n n) (w.alloc (.cells (bc (List.replicate n 0)).toArray 5)) := by
  rw [run_make_row' 84 5 (.int .u8 0) 1 Tryz.underlying84 info8 rfl .i64 .i64 n (by omega) (by omega) w, made_bc]

/-- copy of bytes to the head of a block that the call made. -/
theorem copy_new {ops : Array Oper} {rest : List Oper} {o : Oper} {a : Act} {Q : Exit → Act → World → Prop} {w : World} {n cap c : Nat} (d s : Operand) (B : Nat) (w0 : World) (g : Nat) (Z : List UInt8) (A : Option Addr) (l : List UInt8)
    (hg : Bk w g Z) (hr : Rb w A l) (hz : l.length ≤ Z.length) (hb : Below B w0 w) (hBg : B ≤ g)
    (hgd : o.guard = none) (ho : o.op = .call { callee := .builtin .copy, args := #[d, s], argTypes := #[84, 84] })
    (hd : a.eval d = .slice (some ⟨g, 0, none⟩) n cap) (hs : a.eval s = .slice A l.length c) (hn : l.length ≤ n)
    (h : ∀ w', Bk w' g (splice Z 0 l) → Below B w0 w' → wpList Tryz.prog ops Q rest (a.put o.dst (goInt l.length)) w') : wpList Tryz.prog ops Q (o :: rest) a w := by
  refine wpList_copy_splice hgd d s 84 84 ho 5 Tryz.underlying84 size8 _ _ _ _ _ _ hd hs g 0 (bc Z) 5 hg (bc l) (by rw [bc_len]; exact (Nat.min_eq_left hn).symm) (fun hp => ⟨rfl, ?_⟩) (by rw [bc_len, bc_len]; omega) bc_one B w0 hb hBg ?_
  · rw [bc_len] at hp
    obtain ⟨b, off, rfl, _, _⟩ := hr.cell hp
    refine ⟨_, rfl, fun j v hv => ?_⟩
    obtain ⟨hj, rfl⟩ := bc_get hv
    obtain ⟨b', off', e, _, h3⟩ := hr.cell hj
    injection e with e
    injection e with e1 e2
    subst e1; subst e2
    rw [add_plain]; exact h3
  · intro w' h1 h2
    rw [bc_len]
    refine h w' ?_ h2
    have := h1.out
    rw [bc_splice] at this
    exact this
set_option maxHeartbeats 800000 in
theorem extended_any (A : Option Addr) (l : List UInt8) (c m : Nat) (w : World) (h : Rb w A l) (hl : l.length ≤ 1000000) (hm : m ≤ 1000000) :
    Calls Tryz.prog 124 #[.slice A l.length c, .int .i64 m] w fun e w' =>
      e = .returned (.slice (some ⟨w.heap.size, 0, none⟩) (l ++ List.replicate m 0).length (l ++ List.replicate m 0).length) ∧ Bk w' w.heap.size (l ++ List.replicate m 0) ∧ Below w.heap.size w w' := by
  have e0 : (l ++ List.replicate m 0).length = l.length + m := by simp
  rw [e0]; clear e0
  have hmk := fun w => make_bytes (l.length + m) (by omega) w
  rw [show ((l.length + m : Nat) : Int) = (l.length : Int) + (m : Int) by omega] at hmk
  have hg : Bk (w.alloc (.cells (bc (List.replicate (l.length + m) 0)).toArray 5)) w.heap.size (List.replicate (l.length + m) 0) := heap_alloc_new w _
  have hb : Below w.heap.size w (w.alloc (.cells (bc (List.replicate (l.length + m) 0)).toArray 5)) := (Below.refl _ _).alloc (Nat.le_refl _) _
  have hr := h.below hb
  have e : splice (List.replicate (l.length + m) 0) 0 l = l ++ List.replicate m 0 := by unfold splice; simp
  have hz : l.length ≤ (List.replicate (l.length + m) (0 : UInt8)).length := by simp
  have HG := Lib.hid hg; have HB := Lib.hid hb; have HR := Lib.hid hr; have E := Lib.hid e; have HZ := Lib.hid hz
  have HN := Lib.hid (List.length_replicate (n := l.length + m) (a := (0 : UInt8)))
  generalize List.replicate (l.length + m) (0 : UInt8) = Z at *
  clear hg hb hr e hz h
  go_enter Tryz.func124, Tryz.ntmps124
  go_wp2_with (refine copy_new (.tmp 11) (.tmp 12) w.heap.size w w.heap.size Z A l HG.out HR.out HZ.out HB.out (Nat.le_refl _) rfl rfl rfl rfl (Nat.le_add_right _ _) ?_; intro w2 hk2 hb2; rw [E.out] at hk2; have HK2 := Lib.hid hk2; have HB2 := Lib.hid hb2; clear hk2 hb2)
  go_ret
  exact ⟨rfl, HK2.out, HB2.out⟩

set_option maxRecDepth 100000 in
theorem size32_any (w : World) : Calls Tryz.prog 123 #[] w fun e w' => e = .returned (.int .i64 4) ∧ w = w' := by
  have hb := fun w => Tryz.bits_Len64 4294967295 w (by decide) (by decide)
  rw [show (Lib.bitLen (4294967295 : Int).toNat) = 32 by decide +kernel] at hb
  go_enter Tryz.func123, Tryz.ntmps123
  go_wp2_with (go_at_call 158; refine (hb _).mono ?_; rintro e w' ⟨rfl, rfl⟩)
  go_ret
  exact ⟨rfl, rfl⟩
set_option maxRecDepth 100000 in
theorem size64_any (w : World) : Calls Tryz.prog 189 #[] w fun e w' => e = .returned (.int .i64 8) ∧ w = w' := by
  have hb := fun w => Tryz.bits_Len64 18446744073709551615 w (by decide) (by decide)
  rw [show (Lib.bitLen (18446744073709551615 : Int).toNat) = 64 by decide +kernel] at hb
  go_enter Tryz.func189, Tryz.ntmps189
  go_wp2_with (go_at_call 158; refine (hb _).mono ?_; rintro e w' ⟨rfl, rfl⟩)
  go_ret
  exact ⟨rfl, rfl⟩
end Go.Proofs.YtdonicaiimeleaaGreatDoor

namespace Go.Proofs.YtdonicaiimeleaaGreatDoor
open Go.RowKit Go.WideShapes Go.ChangeShapes
set_option linter.unusedVariables false

theorem byte_nat (r : Nat) : ((UInt8.ofNat (r % 256)).toNat : Int) = (r : Int) % 256 := by simp
theorem pow_step (x j : Nat) : x / 256 ^ (j + 1) = x / 256 ^ j / 256 := by rw [Nat.pow_succ, Nat.div_div_eq_div_mul]
theorem grown_self (w : World) (g : Nat) : w.grownBy w (some g) := ⟨rfl, rfl, rfl, Nat.le_refl _, fun _ _ _ => rfl⟩
theorem grown_set {w wr : World} {g : Nat} (h : w.grownBy wr (some g)) (i : Nat) (v : Value) : w.grownBy (wr.setCell ⟨g, i, none⟩ v) (some g) :=
  ⟨h.os, h.tape, h.output, by simpa [World.setCell] using h.size, fun k hk hne => (Below.heap_setCell wr ⟨g, i, none⟩ v k (fun e => hne (by rw [e]))).trans (h.block k hk hne)⟩
/-- One byte more is laid ahead of those that lie. -/
theorem fill_step {wr : World} {g off j k x r : Nat} {L : List UInt8} (h : Bk wr g (splice L (off + (k + 1)) (be j x))) (hl : off + k + 1 + j ≤ L.length) (hr : r = x / 256 ^ j) :
    Bk (wr.setCell ⟨g, off + k, none⟩ (.int .u8 ((r : Int) % 256))) g (splice L (off + k) (be (j + 1) x)) := by
  have := h.set (off + k) (UInt8.ofNat (r % 256))
  rw [byte_nat, ← Nat.add_assoc, splice_cons _ (by rw [be_len]; omega)] at this
  rw [be, ← hr]; exact this
theorem fill_cell {wr : World} {g off j k x : Nat} {L : List UInt8} (h : Bk wr g (splice L (off + (k + 1)) (be j x))) (hl : off + k + 1 + j ≤ L.length) : ∃ v, wr.cell? ⟨g, off + k, none⟩ = some (.int .u8 v) := by
  have hlen : (splice L (off + (k + 1)) (be j x)).length = L.length := splice_len (by rw [be_len]; omega)
  exact ⟨_, h.cell (by rw [hlen]; omega)⟩
set_option maxHeartbeats 800000 in
theorem fill32_any (g off cap x : Nat) (L : List UInt8) (w : World) (h : Bk w g L) (hl : off + 4 ≤ L.length) (hx : x < 4294967296) :
    Calls Tryz.prog 126 #[.slice (some ⟨g, off, none⟩) 4 cap, .int .u32 x] w fun e w' => e = .returned (.tuple #[]) ∧ Bk w' g (splice L off (be 4 x)) ∧ w.grownBy w' (some g) := by
  have h0 : Bk w g (splice L (off + 4) (be 0 x)) := by rw [show be 0 x = [] from rfl, splice_nil]; exact h
  have H0 := Lib.hid h0; have HG := Lib.hid (grown_self w g)
  clear h h0
  go_enter Tryz.func126, Tryz.ntmps126
  go_wp2
  go_loopw [4, 10] (fun r i wr => ∃ j k : Nat, j + k = 4 ∧ r = .int .u64 (x / 256 ^ j : Nat) ∧ i = .int .i64 j ∧ Hid (Bk wr g (splice L (off + k) (be j x))) ∧ Hid (w.grownBy wr (some g))) (fun _ i _ => 4 - (intOf i).toNat)
  case atStart => exact ⟨0, 4, by omega, int_eq (by simp), rfl, H0, HG⟩
  case round =>
    obtain ⟨j, k, hjk, rfl, rfl, HB, HW⟩ := hrel
    clear H0 HG
    cases k with
    | zero =>
      obtain rfl : j = 4 := by omega
      go_wp2
      go_end0
      exact ⟨rfl, HB.out, HW.out⟩
    | succ k =>
      obtain ⟨r, hr⟩ : ∃ r, r = x / 256 ^ j := ⟨_, rfl⟩
      have hr1 : r < 18446744073709551616 := by rw [hr]; exact Nat.lt_of_le_of_lt (Nat.div_le_self _ _) (by omega)
      have HB2 := Lib.hid (fill_step HB.out (by omega) hr)
      obtain ⟨v, hv⟩ := fill_cell HB.out (by omega)
      have hf := HB.out.free (off + k)
      have HW2 := Lib.hid (grown_set HW.out (off + k) (.int .u8 ((r : Int) % 256)))
      have HR2 : Hid (x / 256 ^ (j + 1) = r / 256) := by rw [pow_step, ← hr]; exact rfl
      rw [← hr]
      clear hr
      have hk : (3 - (j : Int)).toNat = k := by omega
      have hlt : j < 4 := by omega
      go_wp2
      go_roundw
      case rel => exact ⟨j + 1, k, by omega, int_eq (by rw [HR2.out]; omega), by go_num, HB2, HW2⟩
      case measure => simp [intOf]; omega
set_option maxHeartbeats 800000 in
theorem fill64_any (g off cap x : Nat) (L : List UInt8) (w : World) (h : Bk w g L) (hl : off + 8 ≤ L.length) (hx : x < 18446744073709551616) :
    Calls Tryz.prog 190 #[.slice (some ⟨g, off, none⟩) 8 cap, .int .u64 x] w fun e w' => e = .returned (.tuple #[]) ∧ Bk w' g (splice L off (be 8 x)) ∧ w.grownBy w' (some g) := by
  have h0 : Bk w g (splice L (off + 8) (be 0 x)) := by rw [show be 0 x = [] from rfl, splice_nil]; exact h
  have H0 := Lib.hid h0; have HG := Lib.hid (grown_self w g)
  clear h h0
  go_enter Tryz.func190, Tryz.ntmps190
  go_wp2
  go_loopw [4, 9] (fun r i wr => ∃ j k : Nat, j + k = 8 ∧ r = .int .u64 (x / 256 ^ j : Nat) ∧ i = .int .i64 j ∧ Hid (Bk wr g (splice L (off + k) (be j x))) ∧ Hid (w.grownBy wr (some g))) (fun _ i _ => 8 - (intOf i).toNat)
  case atStart => exact ⟨0, 8, by omega, int_eq (by simp), rfl, H0, HG⟩
  case round =>
    obtain ⟨j, k, hjk, rfl, rfl, HB, HW⟩ := hrel
    clear H0 HG
    cases k with
    | zero =>
      obtain rfl : j = 8 := by omega
      go_wp2
      go_end0
      exact ⟨rfl, HB.out, HW.out⟩
    | succ k =>
      obtain ⟨r, hr⟩ : ∃ r, r = x / 256 ^ j := ⟨_, rfl⟩
      have hr1 : r < 18446744073709551616 := by rw [hr]; exact Nat.lt_of_le_of_lt (Nat.div_le_self _ _) (by omega)
      have HB2 := Lib.hid (fill_step HB.out (by omega) hr)
      obtain ⟨v, hv⟩ := fill_cell HB.out (by omega)
      have hf := HB.out.free (off + k)
      have HW2 := Lib.hid (grown_set HW.out (off + k) (.int .u8 ((r : Int) % 256)))
      have HR2 : Hid (x / 256 ^ (j + 1) = r / 256) := by rw [pow_step, ← hr]; exact rfl
      rw [← hr]
      clear hr
      have hk : (7 - (j : Int)).toNat = k := by omega
      have hlt : j < 8 := by omega
      go_wp2
      go_roundw
      case rel => exact ⟨j + 1, k, by omega, int_eq (by rw [HR2.out]; omega), by go_num, HB2, HW2⟩
      case measure => simp [intOf]; omega
end Go.Proofs.YtdonicaiimeleaaGreatDoor
