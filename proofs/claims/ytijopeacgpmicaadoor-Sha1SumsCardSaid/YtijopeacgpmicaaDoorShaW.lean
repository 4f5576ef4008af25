/- The program's digests: read, Words, From. -/
import Derived.Test.YtijopeacgpmicaaDoorShaT
import Derived.Test.YtijopeacgpmicaaDoorShaV
import Derived.Test.YtijopeacgpmicaaDoorOctH
import Derived.BigQuiet
namespace Go.Proofs.YtijopeacgpmicaaDoor
open Go.RowKit Go.WideShapes Go.ChangeShapes
set_option linter.unusedVariables false

/-- The words that bytes begin with. -/
def wds (l : List UInt8) (n : Nat) : List (BitVec 32) := (List.range n).map (bw l)
theorem wds_len (l : List UInt8) (n : Nat) : (wds l n).length = n := by simp [wds]
theorem ebv4 (m : List UInt8) : ebv (m.take 4) < 4294967296 := by
  have h := ebv_lt (m.take 4)
  have h2 : (m.take 4).length ≤ 4 := by simp; omega
  have h3 : 256 ^ (m.take 4).length ≤ 256 ^ 4 := Nat.pow_le_pow_right (by decide) h2
  omega
theorem wl_wds (l : List UInt8) (n : Nat) : wl l 4 n = (wds l n).map u := by
  unfold wl wds
  rw [List.map_map]
  refine List.map_congr_left fun i _ => ?_
  show _ = u (bw l i)
  unfold u bw
  rw [BitVec.toNat_ofNat, Nat.mul_comm i 4, Nat.mod_eq_of_lt (by have := ebv4 (l.drop (4 * i)); omega)]
/-- The block g, of the type T, holds just the words p. -/
def Wb (T : TypeId) (w : World) (g : Nat) (p : List (BitVec 32)) : Prop := w.heap[g]? = some (.cells (cz .u32 (p.map u)).toArray T (0, 0))
theorem Wb.lt {T : TypeId} {w : World} {g : Nat} {p : List (BitVec 32)} (h : Wb T w g p) : g < w.heap.size := bk_lt h
theorem Wb.cell {T : TypeId} {w : World} {g : Nat} {p : List (BitVec 32)} (h : Wb T w g p) {i : Nat} {y : BitVec 32} (hi : p[i]? = some y) : w.cell? ⟨g, i, none⟩ = some (.int .u32 (u y)) := by
  rw [bk_cell h]
  simp [cz, hi]
theorem Wb.free {T : TypeId} {w : World} {g : Nat} {p : List (BitVec 32)} (h : Wb T w g p) (i : Nat) : w.frozen? ⟨g, i, none⟩ = false := bk_free h i
theorem Wb.below {T : TypeId} {w w' : World} {g B : Nat} {p : List (BitVec 32)} (h : Wb T w g p) (hb : Below B w w') (hB : g < B) : Wb T w' g p := (hb.block g hB).trans h
theorem Wb.set {T : TypeId} {w : World} {g : Nat} {p : List (BitVec 32)} (h : Wb T w g p) (i : Nat) (y : BitVec 32) : Wb T (w.setCell ⟨g, i, none⟩ (.int .u32 (u y))) g (p.set i y) := by
  have e := bk_set h i (.int .u32 (u y))
  unfold Wb
  rw [e]
  simp [cz, List.map_set]
theorem wsize : (Tryd.prog.info? 27).map (·.size) = some 1 := by kernel_rfl
/-- copy of words to the head of a block. -/
theorem copy_w {ops : Array Oper} {rest : List Oper} {o : Oper} {a : Act} {Q : Exit → Act → World → Prop} {w : World} (d s : Operand) (B : Nat) (w0 : World) (T : TypeId) (g : Nat) (Z p : List (BitVec 32)) (g' n dcap c : Nat)
    (hg : Wb T w g Z) (hr : Wk .u32 27 w g' (p.map u)) (hp : p.length = n) (hz : n ≤ Z.length) (hb : Below B w0 w) (hBg : B ≤ g)
    (hgd : o.guard = none) (ho : o.op = .call { callee := .builtin .copy, args := #[d, s], argTypes := #[48, 48] })
    (hd : a.eval d = .slice (some ⟨g, 0, none⟩) n dcap) (hs : a.eval s = .slice (some ⟨g', 0, none⟩) n c)
    (h : ∀ w', Wb T w' g (p ++ Z.drop n) → Below B w0 w' → wpList Tryd.prog ops Q rest (a.put o.dst (goInt n)) w') : wpList Tryd.prog ops Q (o :: rest) a w := by
  have hcl : (cz .u32 (p.map u)).length = n := by rw [cz_len, List.length_map, hp]
  refine wpList_copy_splice hgd d s 48 48 ho 27 Tryd.underlying48 wsize _ _ _ _ _ _ hd hs g 0 (cz .u32 (Z.map u)) T hg (cz .u32 (p.map u)) (by rw [hcl]; exact (Nat.min_self n).symm) (fun hp => ⟨rfl, _, rfl, fun j v hv => ?_⟩) (by rw [hcl, cz_len, List.length_map]; omega) (fun v hv => ?_) B w0 hb hBg ?_
  · rw [add_plain, Nat.zero_add]
    obtain ⟨z, hz, rfl⟩ := cz_at hv
    obtain ⟨h1, h2⟩ := List.getElem?_eq_some_iff.1 hz
    rw [hr.cell h1, h2]
  · unfold cz at hv
    obtain ⟨z, _, rfl⟩ := List.mem_map.mp hv
    rfl
  · intro w' h1 h2
    rw [hcl]
    refine h w' ?_ h2
    have h3 := h1.out
    unfold Wb
    rw [h3]
    congr 2
    unfold splice
    simp [cz, hp, List.map_drop]

set_option maxRecDepth 100000 in
theorem read_any (T : TypeId) (g n dcap : Nat) (Z : List (BitVec 32)) (A : Option Addr) (l : List UInt8) (c : Nat) (w : World) (hg : Wb T w g Z) (hz : n ≤ Z.length) (h : Rb w A l) (hA : A = none → c = 0) (hc : l.length ≤ c) (hl : 4 * n ≤ l.length) (hl2 : l.length ≤ 1000000) :
    Calls Tryd.prog 20 #[.slice (some ⟨g, 0, none⟩) n dcap, .slice A l.length c] w fun e w' => e = .returned (.tuple #[]) ∧ Wb T w' g (wds l n ++ Z.drop n) ∧ Below g w w' := by
  have hL := list32_yes A l c 0 (n : Int) w h hA hc hl2 (by unfold fits; omega) (by unfold fits; omega) (by unfold rm; rw [if_neg (by omega), if_neg (by omega)])
  simp only [Int.toNat_natCast, Int.toNat_zero, List.drop_zero] at hL
  rw [wl_wds] at hL
  have HL := Lib.hid hL
  have HG := Lib.hid hg; have HZ := Lib.hid hz; have HP := Lib.hid (wds_len l n)
  clear hL h hA hc hl hl2 hg hz
  generalize wds l n = p at *
  go_enter Tryd.func20, Tryd.ntmps20
  go_wp2_with (first
    | (go_at_call 30; refine HL.out.mono ?_; rintro e w1 ⟨g', hg', rfl, hk, hb⟩; have HK := Lib.hid hk; have HB := Lib.hid hb; clear hk hb)
    | (refine copy_w (.tmp 13) (.tmp 14) g w T g Z p g' n dcap n (HG.out.below HB.out HG.out.lt) HK.out HP.out HZ.out (HB.out.mono (Nat.le_of_lt HG.out.lt)) (Nat.le_refl _) rfl rfl rfl rfl ?_; intro w2 h1 h2; have H1 := Lib.hid h1; have H2 := Lib.hid h2; clear h1 h2))
  go_end0
  exact ⟨rfl, H1.out, H2.out⟩

end Go.Proofs.YtijopeacgpmicaaDoor
