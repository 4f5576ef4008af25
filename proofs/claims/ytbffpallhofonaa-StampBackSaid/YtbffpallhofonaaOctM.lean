/- Numbers as bytes, the highest first; rows with a part laid anew. -/
import Derived.Test.YtbffpallhofonaaRow
import Derived.Laws.CopyOwn
namespace Go.Proofs.Ytbffpallhofonaa
open Go.RowKit
set_option linter.unusedVariables false

/-- The k bytes of n, the highest first. -/
def be (k n : Nat) : List UInt8 := match k with
  | 0 => []
  | k + 1 => UInt8.ofNat (n / 256 ^ k % 256) :: be k n
theorem be_len (k n : Nat) : (be k n).length = k := by
  induction k with
  | zero => rfl
  | succ k ih => simp [be, ih]
/-- The number of bytes. -/
def ebv (l : List UInt8) : Nat := l.foldl (fun n b => n * 256 + b.toNat) 0
theorem ebv_nil : ebv [] = 0 := rfl
theorem ebv_snoc (l : List UInt8) (b : UInt8) : ebv (l ++ [b]) = ebv l * 256 + b.toNat := by simp [ebv]
theorem ebv_step {l : List UInt8} {i : Nat} (h : i < l.length) : ebv (l.take (i + 1)) = ebv (l.take i) * 256 + l[i].toNat := by
  rw [← ebv_snoc, List.take_succ_eq_append_getElem h]
theorem fold_cons (l : List UInt8) (x : Nat) : l.foldl (fun n b => n * 256 + b.toNat) x = x * 256 ^ l.length + ebv l := by
  induction l generalizing x with
  | nil => simp [ebv]
  | cons b l ih =>
    simp only [List.foldl_cons, List.length_cons, ebv, Nat.zero_mul, Nat.zero_add]
    rw [ih, ih b.toNat, Nat.pow_succ, Nat.add_mul, Nat.mul_assoc, Nat.mul_comm 256, Nat.add_assoc]
theorem ebv_cons (b : UInt8) (l : List UInt8) : ebv (b :: l) = b.toNat * 256 ^ l.length + ebv l := by
  show (b :: l).foldl _ 0 = _
  rw [List.foldl_cons, fold_cons]; simp
theorem ebv_lt (l : List UInt8) : ebv l < 256 ^ l.length := by
  induction l with
  | nil => simp [ebv]
  | cons b l ih =>
    rw [ebv_cons, List.length_cons, Nat.pow_succ]
    have hb := b.toNat_lt
    have : (b.toNat + 1) * 256 ^ l.length ≤ 256 * 256 ^ l.length := Nat.mul_le_mul_right _ (by omega)
    rw [Nat.add_mul] at this; omega
theorem ebv_be (k n : Nat) : ebv (be k n) = n % 256 ^ k := by
  induction k with
  | zero => simp [be, ebv, Nat.mod_one]
  | succ k ih =>
    rw [be, ebv_cons, ih, be_len]
    have h : (UInt8.ofNat (n / 256 ^ k % 256)).toNat = n / 256 ^ k % 256 := by simp
    rw [h, Nat.pow_succ, Nat.mod_mul, Nat.mul_comm, Nat.add_comm]
theorem ebv_be_fit {k n : Nat} (h : n < 256 ^ k) : ebv (be k n) = n := by rw [ebv_be, Nat.mod_eq_of_lt h]
theorem ebv_take_lt {l : List UInt8} {i k : Nat} (hi : i < k) (h : i ≤ l.length) : ebv (l.take i) * 256 + 255 < 256 ^ k := by
  have h1 := ebv_lt (l.take i)
  rw [List.length_take, Nat.min_eq_left h] at h1
  have h2 : 256 ^ (i + 1) ≤ 256 ^ k := Nat.pow_le_pow_right (by decide) (by omega)
  rw [Nat.pow_succ] at h2
  omega

/-- Bytes as cells. -/
def bc (l : List UInt8) : List Value := l.map fun b => Value.int .u8 (b.toNat : Int)
theorem bc_len (l : List UInt8) : (bc l).length = l.length := by simp [bc]
theorem bc_at {l : List UInt8} {j : Nat} (h : j < l.length) : (bc l)[j]? = some (.int .u8 (l[j].toNat : Int)) := by
  unfold bc; rw [List.getElem?_map, List.getElem?_eq_getElem h]; rfl
theorem bc_get {l : List UInt8} {j : Nat} {v : Value} (h : (bc l)[j]? = some v) : ∃ hj : j < l.length, v = .int .u8 (l[j].toNat : Int) := by
  have hj : j < l.length := by
    have := (List.getElem?_eq_some_iff.1 h).1
    rwa [bc_len] at this
  refine ⟨hj, ?_⟩
  rw [bc_at hj] at h
  exact (Option.some.inj h).symm
theorem bc_app (a b : List UInt8) : bc (a ++ b) = bc a ++ bc b := by simp [bc]
theorem bc_rep (n : Nat) : bc (List.replicate n 0) = List.replicate n (.int .u8 0) := by simp [bc]
theorem bc_one {l : List UInt8} : ∀ v ∈ bc l, v.oneCell' = true := by
  intro v hv
  obtain ⟨b, _, rfl⟩ := List.mem_map.1 hv
  rfl
theorem bc_splice (L : List UInt8) (off : Nat) (cs : List UInt8) : splice (bc L) off (bc cs) = bc (splice L off cs) := by
  simp [splice, bc, List.map_take, List.map_drop]

theorem splice_nil {α : Type} (L : List α) (off : Nat) : splice L off [] = L := by simp [splice]
theorem splice_cons {α : Type} {L : List α} {off : Nat} {cs : List α} (c : α) (h : off + 1 + cs.length ≤ L.length) : (splice L (off + 1) cs).set off c = splice L off (c :: cs) := by
  unfold splice
  rw [List.set_append_left _ _ (by rw [List.length_take]; omega), List.length_cons]
  have e1 : (L.take (off + 1)).set off c = L.take off ++ [c] := by
    rw [List.take_succ_eq_append_getElem (by omega), List.set_append_right _ _ (by rw [List.length_take]; omega), List.length_take, Nat.min_eq_left (by omega), Nat.sub_self]
    rfl
  rw [e1, show off + 1 + cs.length = off + (cs.length + 1) by omega]
  simp
theorem splice_all {α : Type} {L cs : List α} (h : L.length = cs.length) : splice L 0 cs = cs := by
  unfold splice; rw [List.drop_eq_nil_of_le (by omega)]; simp
theorem splice_len {α : Type} {L : List α} {off : Nat} {cs : List α} (h : off + cs.length ≤ L.length) : (splice L off cs).length = L.length := length_splice L off cs h
theorem splice_end {α : Type} {L M cs : List α} (h : M.length = cs.length) : splice (L ++ M) L.length cs = L ++ cs := by
  unfold splice; rw [List.drop_eq_nil_of_le (by simp; omega)]; simp
/-- Behind a part that is laid anew a further one. -/
theorem splice_two {α : Type} {L : List α} {off : Nat} {a b : List α} (h : off + a.length + b.length ≤ L.length) : splice (splice L off a) (off + a.length) b = splice L off (a ++ b) := by
  unfold splice
  have h1 : off ≤ L.length := by omega
  have e1 : (L.take off ++ (a ++ L.drop (off + a.length))).take (off + a.length) = L.take off ++ a := by
    rw [← List.append_assoc, List.take_append_of_le_length (by simp; omega)]
    exact List.take_of_length_le (by simp; omega)
  have e2 : (L.take off ++ (a ++ L.drop (off + a.length))).drop (off + a.length + b.length) = L.drop (off + (a ++ b).length) := by
    rw [← List.append_assoc, List.drop_append, List.drop_eq_nil_of_le (by simp; omega), List.nil_append, List.drop_drop]
    congr 1
    simp
    omega
  rw [e1, e2]; simp

/-- The block g holds just the bytes L. -/
def Bk (w : World) (g : Nat) (L : List UInt8) : Prop := w.heap[g]? = some (.cells (bc L).toArray 5 (0, 0))
theorem Bk.lt {w : World} {g : Nat} {L : List UInt8} (h : Bk w g L) : g < w.heap.size := (Array.getElem?_eq_some_iff.1 h).1
theorem Bk.cell {w : World} {g : Nat} {L : List UInt8} (h : Bk w g L) {i : Nat} (hi : i < L.length) : w.cell? ⟨g, i, none⟩ = some (.int .u8 (L[i].toNat : Int)) := by
  have e := bc_at hi
  unfold Bk at h
  simp [World.cell?, h]; simpa using e
theorem Bk.free {w : World} {g : Nat} {L : List UInt8} (h : Bk w g L) (i : Nat) : w.frozen? ⟨g, i, none⟩ = false := by
  unfold Bk at h; simp [World.frozen?, h]
theorem Bk.below {w w' : World} {g B : Nat} {L : List UInt8} (h : Bk w g L) (hb : Below B w w') (hB : g < B) : Bk w' g L := (hb.block g hB).trans h
theorem Bk.kept {w w' : World} {g : Nat} {L : List UInt8} {row : Option Nat} (h : Bk w g L) (hg : w.grownBy w' row) (hne : some g ≠ row) : Bk w' g L := (hg.block g h.lt hne).trans h
theorem Bk.alloc {w : World} {g : Nat} {L : List UInt8} (h : Bk w g L) (o : Obj) : Bk (w.alloc o) g L := h.kept (World.grownBy_alloc w o none) (by simp)
theorem Bk.set {w : World} {g : Nat} {L : List UInt8} (h : Bk w g L) (i : Nat) (b : UInt8) : Bk (w.setCell ⟨g, i, none⟩ (.int .u8 (b.toNat : Int))) g (L.set i b) := by
  unfold Bk at h ⊢
  have e : bc (L.set i b) = (bc L).set i (.int .u8 (b.toNat : Int)) := by simp [bc, List.map_set]
  rw [e]
  simp [World.setCell, Array.getElem?_modify, h]
/-- A part of the block reads as its bytes. -/
theorem Bk.reads {w : World} {g : Nat} {L : List UInt8} (h : Bk w g L) (off : Nat) {n : Nat} : Rb w (some ⟨g, off, none⟩) ((L.drop off).take n) := by
  refine ⟨fun z hz => ?_, .inr ⟨g, off, rfl, h.lt, fun j z hj => ?_⟩⟩
  · obtain ⟨b, _, rfl⟩ := List.mem_map.1 hz
    have := b.toNat_lt
    simp [Lit.wf, IntKind.min, IntKind.max, IntKind.signed, IntKind.bits]
    omega
  · unfold nums at hj
    rw [List.getElem?_map] at hj
    cases hq : ((L.drop off).take n)[j]? with
    | none => rw [hq] at hj; cases hj
    | some b =>
      rw [hq] at hj
      obtain ⟨h1, h2⟩ := List.getElem?_eq_some_iff.1 hq
      simp only [List.length_take, List.length_drop] at h1
      simp at h2
      have hc := h.cell (i := off + j) (by omega)
      rw [hc]
      simp at hj
      rw [← hj, h2]
theorem Bk.whole {w : World} {g : Nat} {L : List UInt8} (h : Bk w g L) : Rb w (some ⟨g, 0, none⟩) L := by
  have := h.reads 0 (n := L.length)
  simpa using this
end Go.Proofs.Ytbffpallhofonaa
