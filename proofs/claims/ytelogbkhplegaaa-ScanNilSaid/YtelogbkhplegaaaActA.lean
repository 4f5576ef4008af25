/- One act of a scanner and of the document's: what it comes to; what an act's walk keeps. (Written by gen2.py.) -/
import Derived.Test.YtelogbkhplegaaaSameA
import Derived.Test.YtelogbkhplegaaaScanH
import Derived.Test.YtelogbkhplegaaaDocE
import Derived.Test.YtelogbkhplegaaaDocF
import Derived.Deep.RegionHeld3
import Derived.Deep.DeepCutAuto
import Derived.Deep.CutRange
import Derived.Deep.CutBlock
import Derived.Outline
namespace Go.Proofs.Ytelogbkhplegaaa
open Go.RowKit
set_option linter.unusedVariables false

/-- An act, as the statements have it. -/
structure ActD where
  kind : Int
  b : UInt8
  word : ByteArray
  L : Option Addr
  list : List ByteArray
  cl : Nat
  least : Int
  most : Int
abbrev Ta : TypeId := 35
abbrev ActD.cells (a : ActD) : Array Value := #[.int .i64 a.kind, .int .u8 (a.b.toNat : Int), .string a.word, .slice a.L a.list.length a.cl, .int .i64 a.least, .int .i64 a.most]
/-- What an act's list reads as; its numbers fit. -/
structure ActD.Ok (a : ActD) (w : World) : Prop where
  k : fits a.kind
  lo : fits a.least
  hi : fits a.most
  ls : Rst w a.L a.list
/-- It isn't long. -/
structure ActD.Small (a : ActD) : Prop where
  word : a.word.size ≤ 60
  list : a.list.length ≤ 12
  each : ∀ z ∈ a.list, z.size ≤ 60
/-- Which of nine kinds of acts it is. -/
def ActD.u (a : ActD) : Int := IntKind.u64.wrap a.kind
def ActD.n (a : ActD) : Int := a.u % 9
/-- Where a scanner stands behind an act, and its error. -/
def acK (l : List UInt8) (a : ActD) (k : Nat) (e : Int) : Nat :=
  if a.n = 0 then (if (rs l k e).head? = some a.b then k + 1 else k)
  else if a.n = 1 then fdK k (rs l k e) e a.word.data.toList
  else if a.n = 2 then k + tw (inB a.word.data.toList) (rs l k e)
  else if a.n = 3 then k + tw (noB a.b) (rs l k e)
  else if a.n = 4 then fgK k (rs l k e) e a.least a.most
  else if a.n = 5 then fdK k (rs l k e) e a.word.data.toList
  else if a.n = 6 then k + wdN (rs l k e) e a.list
  else if a.n = 7 then skK k (rs l k e).length e a.most
  else k
def acE (l : List UInt8) (a : ActD) (k : Nat) (e : Int) : Int :=
  if a.n = 0 then e
  else if a.n = 1 then e
  else if a.n = 2 then e
  else if a.n = 3 then e
  else if a.n = 4 then fgE (rs l k e) e a.least a.most
  else if a.n = 5 then muE (rs l k e) e a.word.data.toList
  else if a.n = 6 then wdE (rs l k e) e a.list
  else if a.n = 7 then skE (rs l k e).length e a.most
  else flE e 11

/-! ### bounds -/
theorem fdK_le {k N : Nat} {r : List UInt8} {e : Int} {w : List UInt8} (hr : k + r.length ≤ N) : fdK k r e w ≤ N := by
  unfold fdK fdT
  split
  · rename_i h
    simp at h
    have := fmB_le h.2; omega
  · omega
theorem wdN_le {r : List UInt8} {e : Int} : ∀ (ws : List ByteArray), wdN r e ws ≤ r.length
  | [] => Nat.zero_le _
  | w :: ws => by
    unfold wdN
    split
    · rename_i h
      unfold fdT at h; simp at h
      exact fmB_le h.2
    · exact wdN_le ws
theorem rs_room {l : List UInt8} {k : Nat} (e : Int) (hk : k ≤ l.length) : k + (rs l k e).length ≤ l.length := by have := rs_le l k e; omega
theorem head_pos {r : List UInt8} {b : UInt8} (h : r.head? = some b) : 0 < r.length := by cases r with | nil => cases h | cons => simp
theorem acK_le {l : List UInt8} {a : ActD} {k : Nat} {e : Int} (hk : k ≤ l.length) : acK l a k e ≤ l.length := by
  have hr := rs_room e hk
  unfold acK
  split
  · split
    · rename_i h; have := head_pos h; omega
    · exact hk
  split
  · exact fdK_le hr
  split
  · have := tw_le (inB a.word.data.toList) (rs l k e); omega
  split
  · have := tw_le (noB a.b) (rs l k e); omega
  split
  · unfold fgK; split
    · have := tkK_le (rs l k e) a.least a.most mx; omega
    · exact hk
  split
  · exact fdK_le hr
  split
  · have := wdN_le (r := rs l k e) (e := e) a.list; omega
  split
  · unfold skK; split
    · omega
    · exact hk
  exact hk
theorem wdE_lo {r : List UInt8} {e : Int} (h : 0 ≤ e) (h2 : e < 100) : ∀ (ws : List ByteArray), 0 ≤ wdE r e ws ∧ wdE r e ws < 100
  | [] => by unfold wdE flE; split <;> omega
  | w :: ws => by
    unfold wdE; split
    · exact ⟨h, h2⟩
    · exact wdE_lo h h2 ws
theorem acE_lo {l : List UInt8} {a : ActD} {k : Nat} {e : Int} (h : 0 ≤ e) (h2 : e < 100) : 0 ≤ acE l a k e ∧ acE l a k e < 100 := by
  unfold acE
  split
  · exact ⟨h, h2⟩
  split
  · exact ⟨h, h2⟩
  split
  · exact ⟨h, h2⟩
  split
  · exact ⟨h, h2⟩
  split
  · unfold fgE; split
    · rcases tkE_cases (rs l k e) a.least a.most mx with h | h | h | h <;> rw [h] <;> decide
    · exact ⟨h, h2⟩
  split
  · unfold muE flE; split
    · exact ⟨h, h2⟩
    · split <;> omega
  split
  · exact wdE_lo h h2 _
  split
  · unfold skE; split
    · exact ⟨h, h2⟩
    · split
      · decide
      · split <;> decide
  unfold flE; split <;> omega

/-! ### what an act's walk keeps -/
/-- A block that holds an act. -/
def Ak (w : World) (p : Nat) (a : ActD) : Prop := w.heap[p]? = some (.cells a.cells Ta (0, 0))
theorem Ak.lt {w : World} {p : Nat} {a : ActD} (h : Ak w p a) : p < w.heap.size := whole_lt h
theorem Ak.cell {w : World} {p : Nat} {a : ActD} (h : Ak w p a) (i : Nat) : w.cell? ⟨p, i, none⟩ = a.cells[i]? := whole_cell h i
theorem Ak.below {w w' : World} {p B : Nat} {a : ActD} (h : Ak w p a) (hb : Below B w w') (hB : p < B) : Ak w' p a := (hb.block p hB).trans h
theorem Ak.kept {w w' : World} {p g : Nat} {a : ActD} (h : Ak w p a) (hg : w.grownBy w' (some g)) (hne : p ≠ g) : Ak w' p a := (hg.block p h.lt (by intro e; injection e with e; exact hne e)).trans h
theorem Dk.kept {w w' : World} {p g : Nat} {s : ByteArray} {k : Nat} {e : Int} (h : Dk w p s k e) (hg : w.grownBy w' (some g)) (hne : p ≠ g) : Dk w' p s k e := (hg.block p h.lt (by intro e; injection e with e; exact hne e)).trans h
/-- Three cells of a block are written. -/
abbrev put3 (w : World) (p : Nat) (x y z : Value) : World := ((w.setCell ⟨p, 0, none⟩ x).setCell ⟨p, 1, none⟩ y).setCell ⟨p, 2, none⟩ z
theorem put3_heap (w : World) (p : Nat) (x y z : Value) {q : Nat} (h : q ≠ p) : (put3 w p x y z).heap[q]? = w.heap[q]? := by
  unfold put3
  rw [Below.heap_setCell _ _ _ _ h, Below.heap_setCell _ _ _ _ h, Below.heap_setCell _ _ _ _ h]
theorem put3_dk {w : World} {p : Nat} {s s' : ByteArray} {k k' : Nat} {e e' : Int} (h : Dk w p s k e) : Dk (put3 w p (.string s') (.int .i64 (k' : Int)) (.int .i64 e')) p s' k' e' :=
  wset (wset (wset h 0 (.string s')) 1 (.int .i64 (k' : Int))) 2 (.int .i64 e')
theorem put3_gb {w W : World} {g p : Nat} (h : w.grownBy W (some g)) (hp : w.heap.size ≤ p) (x y z : Value) : w.grownBy (put3 W p x y z) (some g) :=
  ⟨h.os, h.tape, h.output, by simpa [World.setCell] using h.size, fun k hk hne => (put3_heap W p x y z (by omega)).trans (h.block k hk hne)⟩
theorem put3_held {w W : World} {g p q : Nat} {x y z : Value} (hpq : p ≠ q) (h0 : W.cell? ⟨p, 0, none⟩ = some x) (h1 : W.cell? ⟨p, 1, none⟩ = some y) (h2 : W.cell? ⟨p, 2, none⟩ = some z) (hg : w.grownBy W (some g)) (hq : w.heap.size ≤ q) (a b c : Value) :
    (put3 W q a b c).cell? ⟨p, 0, none⟩ = some x ∧ (put3 W q a b c).cell? ⟨p, 1, none⟩ = some y ∧ (put3 W q a b c).cell? ⟨p, 2, none⟩ = some z ∧ w.grownBy (put3 W q a b c) (some g) := by
  have e : ∀ i, (put3 W q a b c).cell? ⟨p, i, none⟩ = W.cell? ⟨p, i, none⟩ := fun i => World.cell?_of_block (put3_heap W q a b c hpq)
  exact ⟨(e 0).trans h0, (e 1).trans h1, (e 2).trans h2, put3_gb hg hq a b c⟩
theorem rst_far {w w' : World} {A : Option Addr} {ws : List ByteArray} {p : Nat} (h : Rst w A ws) (hh : ∀ q, q ≠ p → w'.heap[q]? = w.heap[q]?) (hz : w.heap.size ≤ w'.heap.size) (hne : Away ws A p) : Rst w' A ws := by
  by_cases h0 : ws = []
  · exact .inl h0
  rcases h with h1 | ⟨b, off, h1, h2, h3⟩
  · exact .inl h1
  · exact .inr ⟨b, off, h1, Nat.lt_of_lt_of_le h2 hz, fun j z hz => (World.cell?_of_block (w := w) (hh b (hne h0 _ h1))).trans (h3 j z hz)⟩
/-- The act's answer: the document's scanner then, a bool that is true where both stood alike; the scanner then. -/
def ActP (T : TypeId) (g : Nat) (v : Value) (s : ByteArray) (K : Nat) (E : Int) (M : Nat) (F : Int) (P : Bool → Prop) (w : World) (x : Ending) (w' : World) : Prop :=
  ∃ t : Bool, x = .returned (.tuple #[dm s M F, .bool t]) ∧ P t ∧ Sk T w' g v K E ∧ w.grownBy w' (some g)
/-- What is kept through a statement of an act: the next scanner of the document's in block n, the act in block c, the result's block q, the text, the act's list. -/
structure Kps (w : World) (g n c q : Nat) (v : Value) (s : ByteArray) (M : Nat) (F : Int) (a : ActD) (W : World) : Prop where
  n : Dk W n s M F
  c : Ak W c a
  q : Dk W q ⟨#[]⟩ 0 0
  t : Txs W g v s
  l : Rst W a.L a.list
  g : w.grownBy W (some g)
theorem Kps.drew {w : World} {g n c q : Nat} {v : Value} {s : ByteArray} {M : Nat} {F : Int} {a : ActD} {W : World} (h : Kps w g n c q v s M F a W) : Kps w g n c q v s M F a W.drew :=
  ⟨h.n, h.c, h.q, h.t, h.l, gb_draw h.g 1⟩
theorem Kps.step {w : World} {g n c q : Nat} {v : Value} {s : ByteArray} {M : Nat} {F : Int} {a : ActD} {W W' : World} (h : Kps w g n c q v s M F a W) (hg : W.grownBy W' (some g)) (hn : n ≠ g) (hc : c ≠ g) (hq : q ≠ g) (hl : Away a.list a.L g) : Kps w g n c q v s M F a W' :=
  ⟨h.n.kept hg hn, h.c.kept hg hc, h.q.kept hg hq, h.t.kept hg, h.l.kept hg hl, h.g.trans hg⟩
theorem Kps.cells {w : World} {g n c q : Nat} {v : Value} {s : ByteArray} {M : Nat} {F : Int} {a : ActD} {W : World} (h : Kps w g n c q v s M F a W) :
    W.cell? ⟨n, 0, none⟩ = some (.string s) ∧ W.cell? ⟨n, 1, none⟩ = some (.int .i64 (M : Int)) ∧ W.cell? ⟨n, 2, none⟩ = some (.int .i64 F) ∧
    W.cell? ⟨c, 1, none⟩ = some (.int .u8 (a.b.toNat : Int)) ∧ W.cell? ⟨c, 2, none⟩ = some (.string a.word) ∧ W.cell? ⟨c, 3, none⟩ = some (.slice a.L a.list.length a.cl) ∧
    W.cell? ⟨c, 4, none⟩ = some (.int .i64 a.least) ∧ W.cell? ⟨c, 5, none⟩ = some (.int .i64 a.most) ∧ Kps w g n c q v s M F a W :=
  ⟨h.n.c0, h.n.c1, h.n.c2, h.c.cell 1, h.c.cell 2, h.c.cell 3, h.c.cell 4, h.c.cell 5, h⟩
theorem Sks.put {W : World} {g p k : Nat} {e : Int} {v : Value} (h : Sk Ts W g v k e) (hg : g ≠ p) (x y z : Value) : Sk Ts (put3 W p x y z) g v k e := (put3_heap W p x y z hg).trans h
/-- Behind an act's statement the document's scanner, the result's block, the scanner, and all else. -/
structure Mids (w : World) (g p q : Nat) (v : Value) (s : ByteArray) (K : Nat) (E : Int) (M : Nat) (F : Int) (W : World) : Prop where
  p : Dk W p s M F
  q : Dk W q ⟨#[]⟩ 0 0
  k : Sk Ts W g v K E
  t : Txs W g v s
  g : w.grownBy W (some g)
theorem Txs.far {w w' : World} {g p : Nat} {v : Value} {s : ByteArray} (h : Txs w g v s) (hh : ∀ q, q ≠ p → w'.heap[q]? = w.heap[q]?) (hz : w.heap.size ≤ w'.heap.size) (hp : w.heap.size ≤ p ∨ ∀ A n c ad, v = .slice A n c → A = some ad → ad.block ≠ p) : Txs w' g v s := by
  exact h
theorem Kps.put {w : World} {g n c q p : Nat} {v : Value} {s : ByteArray} {M : Nat} {F : Int} {a : ActD} {W : World} (h : Kps w g n c q v s M F a W) (hn : n ≠ p) (hc : c ≠ p) (hq : q ≠ p) (hp : w.heap.size ≤ p)
    (hv : ∀ A n c ad, v = .slice A n c → A = some ad → ad.block < w.heap.size) (hl : Away a.list a.L p) (x y z : Value) : Kps w g n c q v s M F a (put3 W p x y z) :=
  ⟨(put3_heap W p x y z hn).trans h.n, (put3_heap W p x y z hc).trans h.c, (put3_heap W p x y z hq).trans h.q,
    h.t.far (fun r hr => put3_heap W p x y z hr) (by simp [World.setCell]) (.inr fun A n c ad e1 e2 => by have := hv A n c ad e1 e2; omega),
    rst_far h.l (fun r hr => put3_heap W p x y z hr) (by simp [World.setCell]) hl, put3_gb h.g hp x y z⟩
/-- What is kept through a statement of an act: the next scanner of the document's in block n, the act in block c, the result's block q, the text, the act's list. -/
structure Kpb (w : World) (g n c q : Nat) (v : Value) (s : ByteArray) (M : Nat) (F : Int) (a : ActD) (W : World) : Prop where
  n : Dk W n s M F
  c : Ak W c a
  q : Dk W q ⟨#[]⟩ 0 0
  t : Txb W g v s
  l : Rst W a.L a.list
  g : w.grownBy W (some g)
theorem Kpb.drew {w : World} {g n c q : Nat} {v : Value} {s : ByteArray} {M : Nat} {F : Int} {a : ActD} {W : World} (h : Kpb w g n c q v s M F a W) : Kpb w g n c q v s M F a W.drew :=
  ⟨h.n, h.c, h.q, h.t, h.l, gb_draw h.g 1⟩
theorem Kpb.step {w : World} {g n c q : Nat} {v : Value} {s : ByteArray} {M : Nat} {F : Int} {a : ActD} {W W' : World} (h : Kpb w g n c q v s M F a W) (hg : W.grownBy W' (some g)) (hn : n ≠ g) (hc : c ≠ g) (hq : q ≠ g) (hl : Away a.list a.L g) : Kpb w g n c q v s M F a W' :=
  ⟨h.n.kept hg hn, h.c.kept hg hc, h.q.kept hg hq, h.t.kept hg, h.l.kept hg hl, h.g.trans hg⟩
theorem Kpb.cells {w : World} {g n c q : Nat} {v : Value} {s : ByteArray} {M : Nat} {F : Int} {a : ActD} {W : World} (h : Kpb w g n c q v s M F a W) :
    W.cell? ⟨n, 0, none⟩ = some (.string s) ∧ W.cell? ⟨n, 1, none⟩ = some (.int .i64 (M : Int)) ∧ W.cell? ⟨n, 2, none⟩ = some (.int .i64 F) ∧
    W.cell? ⟨c, 1, none⟩ = some (.int .u8 (a.b.toNat : Int)) ∧ W.cell? ⟨c, 2, none⟩ = some (.string a.word) ∧ W.cell? ⟨c, 3, none⟩ = some (.slice a.L a.list.length a.cl) ∧
    W.cell? ⟨c, 4, none⟩ = some (.int .i64 a.least) ∧ W.cell? ⟨c, 5, none⟩ = some (.int .i64 a.most) ∧ Kpb w g n c q v s M F a W :=
  ⟨h.n.c0, h.n.c1, h.n.c2, h.c.cell 1, h.c.cell 2, h.c.cell 3, h.c.cell 4, h.c.cell 5, h⟩
theorem Skb.put {W : World} {g p k : Nat} {e : Int} {v : Value} (h : Sk Tb W g v k e) (hg : g ≠ p) (x y z : Value) : Sk Tb (put3 W p x y z) g v k e := (put3_heap W p x y z hg).trans h
/-- Behind an act's statement the document's scanner, the result's block, the scanner, and all else. -/
structure Midb (w : World) (g p q : Nat) (v : Value) (s : ByteArray) (K : Nat) (E : Int) (M : Nat) (F : Int) (W : World) : Prop where
  p : Dk W p s M F
  q : Dk W q ⟨#[]⟩ 0 0
  k : Sk Tb W g v K E
  t : Txb W g v s
  g : w.grownBy W (some g)
theorem Txb.far {w w' : World} {g p : Nat} {v : Value} {s : ByteArray} (h : Txb w g v s) (hh : ∀ q, q ≠ p → w'.heap[q]? = w.heap[q]?) (hz : w.heap.size ≤ w'.heap.size) (hp : w.heap.size ≤ p ∨ ∀ A n c ad, v = .slice A n c → A = some ad → ad.block ≠ p) : Txb w' g v s := by
  obtain ⟨A, c, h1, h2, h3, h4, h5, h6⟩ := h
  refine ⟨A, c, h1, ⟨h2.1, ?_⟩, h3, h4, h5, h6⟩
  rcases h2.2 with h0 | ⟨b, off, e1, e2, e3⟩
  · exact .inl h0
  · refine .inr ⟨b, off, e1, Nat.lt_of_lt_of_le e2 hz, fun j z hj => (World.cell?_of_block (w := w) (hh b ?_)).trans (e3 j z hj)⟩
    rcases hp with hp | hp
    · omega
    · exact hp _ _ _ _ h1 e1
theorem Kpb.put {w : World} {g n c q p : Nat} {v : Value} {s : ByteArray} {M : Nat} {F : Int} {a : ActD} {W : World} (h : Kpb w g n c q v s M F a W) (hn : n ≠ p) (hc : c ≠ p) (hq : q ≠ p) (hp : w.heap.size ≤ p)
    (hv : ∀ A n c ad, v = .slice A n c → A = some ad → ad.block < w.heap.size) (hl : Away a.list a.L p) (x y z : Value) : Kpb w g n c q v s M F a (put3 W p x y z) :=
  ⟨(put3_heap W p x y z hn).trans h.n, (put3_heap W p x y z hc).trans h.c, (put3_heap W p x y z hq).trans h.q,
    h.t.far (fun r hr => put3_heap W p x y z hr) (by simp [World.setCell]) (.inr fun A n c ad e1 e2 => by have := hv A n c ad e1 e2; omega),
    rst_far h.l (fun r hr => put3_heap W p x y z hr) (by simp [World.setCell]) hl, put3_gb h.g hp x y z⟩
end Go.Proofs.Ytelogbkhplegaaa
