/- The digest as lists: the words of a block, its rounds, the padded text, signs. No walk stands here. -/
import Derived.Test.YtijopeacgpmicaaDoorShaM
import Derived.Test.YtijopeacgpmicaaDoorOctM
namespace Go.Proofs.YtijopeacgpmicaaDoor
open Go.RowKit
set_option linter.unusedVariables false

/-- A block's word. -/
def bw (l : List UInt8) (t : Nat) : BitVec 32 := BitVec.ofNat 32 (ebv ((l.drop (4 * t)).take 4))
/-- The word behind those that there are. -/
def nx (l : List UInt8) (t : Nat) (p : List (BitVec 32)) : BitVec 32 :=
  if t < 16 then bw l t else rot (p.getD (t - 3) 0 ^^^ p.getD (t - 8) 0 ^^^ p.getD (t - 14) 0 ^^^ p.getD (t - 16) 0) 1
/-- A block's first words. -/
def sch (l : List UInt8) : Nat → List (BitVec 32)
  | 0 => []
  | n + 1 => sch l n ++ [nx l n (sch l n)]
theorem sch_len (l : List UInt8) (n : Nat) : (sch l n).length = n := by
  induction n with
  | zero => rfl
  | succ n ih => simp [sch, ih]
theorem sch_get (l : List UInt8) {i n : Nat} (h : i < n) : (sch l n).getD i 0 = nx l i (sch l i) := by
  induction n with
  | zero => omega
  | succ n ih =>
    rw [show sch l (n + 1) = sch l n ++ [nx l n (sch l n)] from rfl]
    rw [List.getD_eq_getElem?_getD]
    rcases (by omega : i < n ∨ i = n) with g | rfl
    · rw [List.getElem?_append_left (by rw [sch_len]; exact g), ← List.getD_eq_getElem?_getD]; exact ih g
    · rw [List.getElem?_append_right (by rw [sch_len]; exact Nat.le_refl _), sch_len, Nat.sub_self]; rfl
theorem sch_at (l : List UInt8) {i n : Nat} (h : i < n) : (sch l n)[i]? = some (nx l i (sch l i)) := by
  have e := sch_get l h
  have hl : i < (sch l n).length := by rw [sch_len]; exact h
  rw [List.getD_eq_getElem?_getD, List.getElem?_eq_getElem hl] at e
  rw [List.getElem?_eq_getElem hl]
  exact congrArg some e
theorem sch_same (l : List UInt8) {i n m : Nat} (h : i < n) (k : i < m) : (sch l n).getD i 0 = (sch l m).getD i 0 := by rw [sch_get l h, sch_get l k]
/-- The state behind the first rounds. -/
def rds (p : List (BitVec 32)) (s : St) : Nat → St
  | 0 => s
  | n + 1 => rd n (p.getD n 0) (rds p s n)
def plus (s r : St) : St := ⟨s.a + r.a, s.b + r.b, s.c + r.c, s.d + r.d, s.e + r.e⟩
/-- The state behind a block. -/
def stp (s : St) (l : List UInt8) : St := plus s (rds (sch l 80) s 80)
def s0 : St := ⟨0x67452301#32, 0xefcdab89#32, 0x98badcfe#32, 0x10325476#32, 0xc3d2e1f0#32⟩
/-- How many zeros; the padded text. -/
def pz (n : Nat) : Nat := (119 - n % 64) % 64
def padL (l : List UInt8) : List UInt8 := l ++ 128 :: (List.replicate (pz l.length) 0 ++ be 8 (8 * l.length))
/-- How many blocks. -/
def pb (n : Nat) : Nat := (n + 72) / 64
theorem pad_len (l : List UInt8) : (padL l).length = 64 * pb l.length := by
  unfold padL pb pz
  simp only [List.length_append, List.length_cons, List.length_replicate, be_len]
  omega
/-- The state behind the first blocks. -/
def runN (p : List UInt8) : Nat → St
  | 0 => s0
  | n + 1 => stp (runN p n) ((p.drop (64 * n)).take 64)
def dig (l : List UInt8) : St := runN (padL l) (pb l.length)
/-- Its bytes, and their signs. -/
def byt (s : St) : List UInt8 := be 4 s.a.toNat ++ (be 4 s.b.toNat ++ (be 4 s.c.toNat ++ (be 4 s.d.toNat ++ be 4 s.e.toNat)))
theorem byt_len (s : St) : (byt s).length = 20 := by simp [byt, be_len]
def sg (n : Nat) : UInt8 := UInt8.ofNat (if n < 10 then 48 + n else 87 + n)
def hxL (l : List UInt8) : List UInt8 := l.flatMap fun b => [sg (b.toNat / 16), sg (b.toNat % 16)]
/-- Four bytes and a word undo one another. -/
theorem word_back (x : BitVec 32) : BitVec.ofNat 32 (ebv (be 4 x.toNat)) = x := by
  rw [ebv_be_fit (by have := x.isLt; omega)]; simp

end Go.Proofs.YtijopeacgpmicaaDoor
