/- Merged: ShaG, ListAC, Build. -/
import Derived.Test.YtiamggjebaabkaaGreatDoorGListPuts18
import Derived.Deep.DeepCutAuto
import Derived.Deep.CutRange
import Derived.Deep.CutBlock
import Derived.LoopTactic
import Derived.Test.YtiamggjebaabkaaGreatDoorGListPuts20
import Derived.Test.YtiamggjebaabkaaGreatDoorGListPuts11
import Derived.Laws.Concat
import Derived.Test.YtiamggjebaabkaaGreatDoorGListPuts2
import Derived.Test.YtiamggjebaabkaaGreatDoorGListPuts10
import Derived.Shelf.Strings.Builder1
import Derived.Lib.Builder
import Derived.Lib.AppendStr
import Derived.Laws.Externs
namespace Go.Proofs.YtiamggjebaabkaaGreatDoor
open Go.RowKit Go.WideShapes Go.ChangeShapes
set_option linter.unusedVariables false

/-- append of bytes to a row of the call's own, in a region that draws. -/
theorem app_step_s {ops : Array Oper} {o : Oper} {a : Act} {w : World} {K : Act → World → Prop} {Q : Exit → Act → World → Prop} {X : Prop} (s x : Operand) (base : Nat) (v : Value) (m : List UInt8) (hown : Oz w base 5 .u8 v (nums m))
    (A : Option Addr) (l : List UInt8) (n c : Nat) (hn : l.length = n) (hr : Rb w A l) (hA : A = none → c = 0) (hm : m.length ≤ 1000000000) (hl : l.length ≤ 1000000000) (hbase : base ≤ w.heap.size)
    (hw : Region.wanted o (yielded ops a.tmps) = true) (ho : o.op = .call { callee := .builtin .append, args := #[s, x], argTypes := #[59, 59] }) (hs : a.eval s = v) (hx : a.eval x = .slice A n c)
    (h : ∀ v' w' r, r = m ++ l → Oz w' base 5 .u8 v' (nums r) → Below base w w' → K (a.put o.dst v') w') :
    if Region.wanted o (yielded ops a.tmps) = true then Oper.wp Tryz.prog o a w K Q else X := by
  rw [if_pos hw]
  obtain ⟨v', w', hrun, h2, h3⟩ := run_app (P := Tryz.prog) w base 59 o.type 5 .u8 elb v (nums m) hown A (nums l) c hr hA (by rw [nums_len]; exact hm) (by rw [nums_len]; exact hl) hbase
  rw [nums_len, hn] at hrun
  rw [← nums_app] at h2
  unfold Oper.wp execOp
  simp only [ho, resolve, invoke, builtin, Sem.run_bind, Sem.run_pure, Result.andThen_ok, List.map_toArray, List.map_cons, List.map_nil, hs, hx, hrun]
  exact h v' w' _ rfl h2 h3
theorem dig_at (n : Nat) (h : n < 16) (w : World) : (Instr.index 9 (.string ⟨#[48, 49, 50, 51, 52, 53, 54, 55, 56, 57, 97, 98, 99, 100, 101, 102]⟩) (.int .u8 (n : Int))).run Tryz.prog w = .ok (.int .u8 ((ssg n).toNat : Int)) w := by
  rcases (by omega : n = 0 ∨ n = 1 ∨ n = 2 ∨ n = 3 ∨ n = 4 ∨ n = 5 ∨ n = 6 ∨ n = 7 ∨ n = 8 ∨ n = 9 ∨ n = 10 ∨ n = 11 ∨ n = 12 ∨ n = 13 ∨ n = 14 ∨ n = 15) with rfl | rfl | rfl | rfl | rfl | rfl | rfl | rfl | rfl | rfl | rfl | rfl | rfl | rfl | rfl | rfl <;> kernel_rfl
theorem and15 : ∀ b : Fin 256, bits .and .u8 (b.val : Int) 15 = ((b.val % 16 : Nat) : Int) := by decide +kernel
theorem hx_snoc (l : List UInt8) (b : UInt8) : hxL (l ++ [b]) = hxL l ++ [ssg (b.toNat / 16), ssg (b.toNat % 16)] := by simp [hxL]
theorem hxL_len (l : List UInt8) : (hxL l).length = 2 * l.length := by
  induction l with
  | nil => rfl
  | cons b l ih =>
    show ([ssg (b.toNat / 16), ssg (b.toNat % 16)] ++ hxL l).length = _
    rw [List.length_append, ih]; simp; omega
/-- An element of an array of bytes. -/
theorem index20 {D : List UInt8} {n : Nat} (hD : D.length = 20) (hn : n < 20) (w : World) : (Instr.index 49 (.agg (bc D).toArray) (.int .i64 (n : Int))).run Tryz.prog w = .ok (.int .u8 ((D[n]'(by omega)).toNat : Int)) w := by
  have h2 : (0 : Int) ≤ (n : Int) ∧ (n : Int) < (20 : Nat) := by omega
  have h : (bc D)[n]? = some (.int .u8 ((D[n]'(by omega)).toNat : Int)) := bc_at (by omega)
  simp [Instr.index, run_underlying dund, asIntOf, h2, Go.part, h, hn]

def z40 : Array Value := (bc (List.replicate 40 0)).toArray
theorem make40 (w : World) : (Instr.makeSlice 59 (.int .i64 0) (.int .i64 40)).run Tryz.prog w = .ok (.slice (some ⟨w.heap.size, 0, none⟩) 0 40) (w.alloc (.cells z40 5)) := by kernel_rfl
theorem own40 (w : World) : Oz (w.alloc (.cells z40 5)) w.heap.size 5 .u8 (.slice (some ⟨w.heap.size, 0, none⟩) 0 40) (nums []) :=
  ⟨rfl, .inr ⟨w.heap.size, 40, _, rfl, Nat.le_refl _, heap_alloc_new w _, by decide, by decide, rfl, rfl⟩⟩

set_option maxRecDepth 100000 in
set_option maxHeartbeats 2000000 in
theorem hex_any (D : List UInt8) (hD : D.length = 20) (w : World) :
    Calls Tryz.prog 65 #[.agg (bc D).toArray] w fun e w' => e = .returned (.string ⟨(hxL D).toArray⟩) ∧ Below w.heap.size w w' := by
  have hix := fun n (hn : n < 20) w => index20 hD hn w
  obtain ⟨C, hC⟩ : ∃ C, C = (bc D).toArray := ⟨_, rfl⟩
  rw [← hC] at hix ⊢
  have hsz : (Tryz.prog.info? 49).map (·.size) = some C.size := by rw [hC, dsize, List.size_toArray, bc_len, hD]
  have HIX := Lib.hid hix; have HSZ := Lib.hid hsz
  clear hix hsz hC
  have hmk := make40
  obtain ⟨w1, hw1⟩ : ∃ w1, w1 = w.alloc (.cells C 49) := ⟨_, rfl⟩
  have C1 := Lib.hid (show w1.heap[w.heap.size]? = some (.cells C 49 (0, 0)) by rw [hw1]; exact heap_alloc_new w _)
  have B1 := Lib.hid (show Below w.heap.size w w1 by rw [hw1]; exact (Below.refl _ w).alloc (Nat.le_refl _) _)
  go_enter Tryz.func65, Tryz.ntmps65
  go_upto_region 1 with fail
  rw [← hw1]; clear hw1
  go_upto_region 2 with fail
  have O2 := Lib.hid (own40 w1)
  have B2 := Lib.hid ((Below.refl w1.heap.size w1).alloc (Nat.le_refl _) (.cells z40 5))
  have C2 := Lib.hid ((B2.out.block _ (bk_lt C1.out)).trans C1.out)
  clear hmk
  generalize w1.alloc (.cells z40 5) = w2 at *
  go_wp2_with (refine wpList_load_row rfl 49 (.tmp 1) rfl w.heap.size rfl 49 C (0, 0) _ C2.out dund rfl HSZ.out ?_)
  go_loopw [3, 8] (fun v i wr => ∃ (t : Nat) (m : List UInt8), i = .int .i64 t ∧ t ≤ 20 ∧ Hid (m = hxL (D.take t)) ∧ Hid (Oz wr w1.heap.size 5 .u8 v (nums m)) ∧ Hid (Below w1.heap.size w1 wr)) (fun _ i _ => 20 - (intOf i).toNat)
  case atStart => exact ⟨0, [], rfl, by omega, Lib.hid rfl, O2, B2⟩
  case round =>
    clear O2 B2 C2
    obtain ⟨t, m, rfl, ht, HM, O, B⟩ := hrel
    by_cases hlt : t < 20
    · have ix := fun w => HIX.out t hlt w
      have hbx : (D[t]'(by omega)).toNat < 256 := UInt8.toNat_lt _
      have hm1 : hxL (D.take (t + 1)) = m ++ [ssg ((D[t]'(by omega)).toNat / 16), ssg ((D[t]'(by omega)).toNat % 16)] := by
        rw [List.take_succ_eq_append_getElem (by omega), hx_snoc, HM.out]
      have hml : m.length ≤ 40 := by rw [HM.out, hxL_len, List.length_take]; omega
      have HM1 := Lib.hid hm1; have HML := Lib.hid hml
      clear hm1 hml
      obtain ⟨b, hb⟩ : ∃ b, b = (D[t]'(by omega)).toNat := ⟨_, rfl⟩
      rw [← hb] at ix HM1 hbx
      have hand : bits .and .u8 (b : Int) 15 = ((b % 16 : Nat) : Int) := and15 ⟨b, hbx⟩
      have d1 := fun w => dig_at (b / 16) (by omega) w
      have d2 := fun w => dig_at (b % 16) (by omega) w
      have hsh : (b : Int) / 16 = ((b / 16 : Nat) : Int) := by omega
      clear hb
      have HBX := Lib.hid hbx
      clear hbx
      generalize b / 16 = q at *
      generalize b % 16 = r at *
      go_upto_region 5 with fail
      have bb := (Below.refl wr.heap.size wr).alloc (Nat.le_refl _) (.cells #[.int .u8 ((ssg q).toNat : Int), .int .u8 ((ssg r).toNat : Int)] 5)
      have OB := Lib.hid (Oz.below O.out bb.drew (Nat.le_refl _))
      have nb : Rb (wr.alloc (.cells #[.int .u8 ((ssg q).toNat : Int), .int .u8 ((ssg r).toNat : Int)] 5)).drew (some ⟨wr.heap.size, 0, none⟩) [ssg q, ssg r] :=
        Bt.reads (T := 5) (heap_alloc_new wr _)
      have NB := Lib.hid nb
      have ES := Lib.hid (Below.drew B.out)
      have FS := Lib.hid (Below.drew (B.out.alloc B.out.size (.cells #[.int .u8 ((ssg q).toNat : Int), .int .u8 ((ssg r).toNat : Int)] 5)))
      clear nb bb
      go_region_held3 (fun w' => Below w1.heap.size w1 w')
        (with_reducible (first | exact ES.out | exact FS.out | exact GS.out))
        (first
          | (refine app_step_s (.tmp 11) (.tmp 18) w1.heap.size _ m OB.out _ [ssg q, ssg r] 2 2 rfl NB.out (fun h => by cases h) (by have := HML.out; omega) (by simp) FS.out.size rfl rfl rfl rfl ?_
             intro v' w3 r3 h1 h2 h3
             rw [← HM1.out] at h1
             subst h1
             have O3 := Lib.hid h2
             have GS := Lib.hid (FS.out.trans h3)
             clear h2 h3))
      all_goals go_wp2_with fail
      all_goals exact ⟨⟨t + 1, _, by go_num, by omega, Lib.hid rfl, O3, GS⟩, by simp [intOf]; omega⟩
    · obtain rfl : t = 20 := by omega
      clear hlt ht
      have hm : m = hxL D := by rw [HM.out, ← hD, List.take_length]
      subst hm
      obtain ⟨A, c, rfl, hr, hA, -⟩ := own_reads O.out
      have hcv := fun w' (h : Rb w' A (hxL D)) => conv_bytes (P := Tryz.prog) (src := 59) (dst := 9) (e := 5) Tryz.underlying59 (by kernel_rfl) (by kernel_rfl) w' A (hxL D) c h hA
      have hc := hcv wr hr
      have BB := Lib.hid (Below.trans B1.out (B.out.mono B1.out.size))
      clear hcv hr hA O HM
      go_wp2_with fail
      go_ret
      exact ⟨rfl, BB.out⟩

end Go.Proofs.YtiamggjebaabkaaGreatDoor

namespace Go.Proofs.YtiamggjebaabkaaGreatDoor
open Go.RowKit Go.WideShapes Go.ChangeShapes
set_option linter.unusedVariables false
set_option linter.unusedSimpArgs false

theorem digits11_any (n : Int) (w : World) (hn : fits n) (ht : Tab w) : Calls Tryz.prog 38 #[.int .i64 n] w fun x w' => x = .returned (.string ⟨(ptL n 0).toArray⟩) ∧ Below w.heap.size w w' := by
  have H := Lib.hid (put_any n 0 w hn (by decide) ht)
  clear hn ht
  go_enter Tryz.func38, Tryz.ntmps38
  go_wp2_with (go_at_call 63; refine H.out.mono ?_; rintro x w' ⟨rfl, hb⟩; have HB := Lib.hid hb; clear hb)
  go_ret
  exact ⟨rfl, HB.out⟩

/-- The seconds from 1 January 1900 to the beginning of a day. -/
def sc11 (d : Int) : Int := (d + 25567) * 86400
theorem seconds_any (d : Int) (w : World) (he : Eps w) (hd : -100000000 ≤ d ∧ d ≤ 100000000) : Calls Tryz.prog 39 #[.int .i64 d] w fun x w' => x = .returned (.int .i64 (sc11 d)) ∧ Below w.heap.size w w' := by
  have H := Lib.hid (lepoch_any w he)
  have j1 : IntKind.i64.wrap (d + 25567) = d + 25567 := IntWalk.i64_in _ (by omega)
  have j2 : IntKind.i64.wrap ((d + 25567) * 86400) = (d + 25567) * 86400 := IntWalk.i64_in _ (by omega)
  unfold sc11
  clear he hd
  go_enter Tryz.func39, Tryz.ntmps39
  go_wp2_with (go_at_call 64; refine H.out.mono ?_; rintro x w' ⟨rfl, hb⟩; have HB := Lib.hid hb; clear hb)
  go_ret
  exact ⟨by simp [j1, j2], HB.out⟩

/-- Eight hexadecimal digits at a time, each behind a blank. -/
def w8 : Nat → List UInt8 → List UInt8
  | 0, _ => []
  | n + 1, h => 32 :: h.take 8 ++ w8 n (h.drop 8)
theorem w8_len : ∀ (n : Nat) (h : List UInt8), (w8 n h).length ≤ 9 * n
  | 0, _ => by simp [w8]
  | n + 1, h => by
    have := w8_len n (h.drop 8)
    simp [w8]; omega
theorem w8_snoc : ∀ (n : Nat) (h : List UInt8), w8 (n + 1) h = w8 n h ++ 32 :: (h.drop (8 * n)).take 8
  | 0, h => by simp [w8]
  | n + 1, h => by
    rw [w8, w8_snoc n, w8, List.drop_drop, show 8 + 8 * n = 8 * (n + 1) by omega]; simp
theorem ba_take (l : List UInt8) (n : Nat) : (⟨l.toArray⟩ : ByteArray).extract 0 n = ⟨(l.take n).toArray⟩ := by
  apply ByteArray.ext; simp
theorem ba_drop (l : List UInt8) (n : Nat) : (⟨l.toArray⟩ : ByteArray).extract n l.length = ⟨(l.drop n).toArray⟩ := by
  apply ByteArray.ext; simp
  exact List.take_of_length_le (by simp)

set_option maxRecDepth 100000 in
set_option maxHeartbeats 2000000 in
theorem words11_any (D : List UInt8) (hD : D.length = 20) (w : World) : Calls Tryz.prog 40 #[.agg (bc D).toArray] w fun x w' => x = .returned (.string ⟨(w8 5 (hxL D)).toArray⟩) ∧ Below w.heap.size w w' := by
  have H0 := fun w' => Lib.hid (hex_any D hD w')
  have hlen : (hxL D).length = 40 := by rw [hxL_len, hD]
  obtain ⟨C, hC⟩ : ∃ C, C = (bc D).toArray := ⟨_, rfl⟩
  have hsz : (Tryz.prog.info? 49).map (·.size) = some C.size := by rw [hC, dsize, List.size_toArray, bc_len, hD]
  rw [← hC] at H0 ⊢
  obtain ⟨h, hh⟩ : ∃ h, h = hxL D := ⟨_, rfl⟩
  rw [← hh] at H0 hlen ⊢
  have H := H0 (w.alloc (.cells C 49))
  clear H0 hC hh hD
  have HSZ := Lib.hid hsz
  go_enter Tryz.func40, Tryz.ntmps40
  go_upto_region 1 with fail
  obtain ⟨w1, hw1⟩ : ∃ w1, w1 = w.alloc (.cells C 49) := ⟨_, rfl⟩
  have C1 := Lib.hid (show w1.heap[w.heap.size]? = some (.cells C 49 (0, 0)) by rw [hw1]; exact heap_alloc_new w _)
  have B1 := Lib.hid (show Below w.heap.size w w1 by rw [hw1]; exact (Below.refl _ w).alloc (Nat.le_refl _) _)
  rw [← hw1] at H ⊢; clear hw1
  go_wp2_with (refine wpList_load_row rfl 49 (.tmp 1) rfl w.heap.size rfl 49 C (0, 0) _ C1.out dund rfl HSZ.out ?_)
  refine H.out.mono ?_
  rintro x w2 ⟨rfl, hb⟩
  have B2 := Lib.hid (B1.out.trans (hb.mono B1.out.size))
  clear hb H C1 B1
  go_upto_region 3 with fail
  go_loopg [3, 4] 5 (fun gg a b wr => ∃ t : Nat, t ≤ 5 ∧ 5 - t ≤ gg ∧ a = .string ⟨(h.drop (8 * t)).toArray⟩ ∧ b = .string ⟨(w8 t h).toArray⟩ ∧ Hid (Below w.heap.size w wr))
  case atStart => exact ⟨0, by omega, by omega, by simp, rfl, B2⟩
  case round =>
    obtain ⟨t, ht, hg, rfl, rfl, BW⟩ := hrel
    obtain ⟨r, hr⟩ : ∃ r, r = h.drop (8 * t) := ⟨_, rfl⟩
    have hrl : r.length = 40 - 8 * t := by rw [hr]; simp [hlen]
    by_cases hlt : t < 5
    · have z1 : ((40 - 8 * t : Nat) : Int) > 0 := by omega
      have hw : w8 (t + 1) h = w8 t h ++ 32 :: r.take 8 := by rw [hr]; exact w8_snoc t h
      have hd : h.drop (8 * (t + 1)) = r.drop 8 := by rw [hr, List.drop_drop]; congr 1
      have e1 := ba_take r 8
      have e2 := ba_drop r 8
      rw [hrl] at e2
      have hs : (⟨r.toArray⟩ : ByteArray).size = 40 - 8 * t := by simp [ByteArray.size, hrl]
      rw [← hr]
      obtain ⟨S, hS⟩ : ∃ S : ByteArray, S = ⟨r.toArray⟩ := ⟨_, rfl⟩
      obtain ⟨T, hT⟩ : ∃ T : ByteArray, T = ⟨(w8 t h).toArray⟩ := ⟨_, rfl⟩
      rw [← hS] at e1 e2 hs ⊢
      rw [← hT]
      obtain ⟨N, hN⟩ : ∃ N, N = 40 - 8 * t := ⟨_, rfl⟩
      rw [← hN] at hs e2 z1
      have z2 : 8 ≤ N := by omega
      have z3 : (8 : Int) ≤ (N : Int) := by omega
      have z4 : N ≤ 40 := by omega
      have HT := Lib.hid (show T ++ ((⟨#[32]⟩ : ByteArray) ++ ⟨(r.take 8).toArray⟩) = ⟨(w8 (t + 1) h).toArray⟩ by
        rw [hT, hw, show (⟨#[32]⟩ : ByteArray) = ⟨[(32 : UInt8)].toArray⟩ from rfl, bs_append, bs_append]; rfl)
      have HD := Lib.hid hd
      have z5 : T.size ≤ 45 := by rw [hT]; have := w8_len t h; simp [ByteArray.size]; omega
      have z6 : ¬ 9223372036854775807 < T.size + (1 + 8) := by omega
      have z7 : (⟨(r.take 8).toArray⟩ : ByteArray).size = 8 := by simp [ByteArray.size, hrl]; omega
      generalize (⟨(r.take 8).toArray⟩ : ByteArray) = P8 at *
      clear hS hT hN hr hrl hw hd
      go_wp2
      go_roundg (5 - (t + 1))
      case measure => omega
      case rel => exact ⟨t + 1, by omega, by omega, by rw [HD.out], by rw [HT.out], BW⟩
    · obtain rfl : t = 5 := by omega
      rw [← hr]
      have hs : (⟨r.toArray⟩ : ByteArray).size = 0 := by simp [ByteArray.size, hrl]
      go_wp2
      go_ret
      exact ⟨rfl, BW.out⟩

end Go.Proofs.YtiamggjebaabkaaGreatDoor

namespace Go.Proofs.YtiamggjebaabkaaGreatDoor
open Go.RowKit
set_option linter.unusedVariables false
set_option linter.unusedSimpArgs false

/-- The builder b holds the bytes l. -/
def Bd (w : World) (B b : Nat) (l : List UInt8) : Prop := Lib.IsBuilder 89 5 B b (Lib.byteCells l) w
theorem bd_info : (Tryz.prog.info? 5).map (fun i => (i.zero, i.size, i.bytes)) = some (some (.int .u8 0), 1, 1) := by kernel_rfl
theorem Bd.new (w : World) : Bd (w.alloc (.cells #[.pointer none, .slice none 0 0] 89)) w.heap.size w.heap.size [] :=
  .inl ⟨Nat.le_refl _, .slice none 0 0, heap_alloc_new w _, ⟨rfl, .inl ⟨rfl, rfl⟩⟩, by intro e; cases e⟩
theorem Bd.below {w w' : World} {B b : Nat} {l : List UInt8} (h : Bd w B b l) (hb : Below w.heap.size w w') : Bd w' B b l := by
  have k : ∀ p, Lib.BuilderAt 89 5 B b p (Lib.byteCells l) w → Lib.BuilderAt 89 5 B b p (Lib.byteCells l) w' := fun p ⟨h1, v, h2, h3, h4⟩ =>
    ⟨h1, v, (hb.block _ (bk_lt h2)).trans h2, ⟨h3.1, by
      rcases h3.2 with h0 | ⟨g, cap, cur, k1, k2, k3, k4⟩
      · exact .inl h0
      · exact .inr ⟨g, cap, cur, k1, k2, (hb.block g (bk_lt k3)).trans k3, k4⟩⟩, h4⟩
  rcases h with h | h
  · exact .inl (k _ h)
  · exact .inr (k _ h)
/-- Blocks of another type than bytes, but for the builder's own, stand as they stood. -/
def Keep8 (b : Nat) (w w' : World) : Prop := w.heap.size ≤ w'.heap.size ∧ ∀ k cs T fr, w.heap[k]? = some (.cells cs T fr) → T ≠ 5 → k ≠ b → w'.heap[k]? = some (.cells cs T fr)
theorem Keep8.refl (b : Nat) (w : World) : Keep8 b w w := ⟨Nat.le_refl _, fun _ _ _ _ h _ _ => h⟩
theorem Keep8.trans {b : Nat} {w w1 w2 : World} (h : Keep8 b w w1) (k : Keep8 b w1 w2) : Keep8 b w w2 := ⟨Nat.le_trans h.1 k.1, fun j cs T fr a c d => k.2 j cs T fr (h.2 j cs T fr a c d) c d⟩
theorem Keep8.below {b : Nat} {w w1 : World} (h : Below w.heap.size w w1) : Keep8 b w w1 := ⟨h.size, fun j cs T fr a _ _ => (h.block j (bk_lt a)).trans a⟩
theorem Keep8.set (b i : Nat) (w : World) (v : Value) : Keep8 b w (w.setCell ⟨b, i, none⟩ v) := ⟨by simp [World.setCell], fun j cs T fr a _ d => (Below.heap_setCell w ⟨b, i, none⟩ v j d).trans a⟩

set_option maxRecDepth 100000 in
set_option maxHeartbeats 1000000 in
theorem copycheck_any (B b : Nat) (l : List UInt8) (w : World) (h : Bd w B b l) : Calls Tryz.prog 62 #[.pointer (some ⟨b, 0, none⟩)] w fun e w' => e = .returned (.tuple #[]) ∧ Lib.BuilderAt 89 5 B b (.pointer (some ⟨b, 0, none⟩)) (Lib.byteCells l) w' ∧ Below B w w' ∧ Keep8 b w w' := by
  rcases h with h | h
  · have HK := Lib.hid (And.intro (h.used (.pointer (some ⟨b, 0, none⟩))) (And.intro ((Below.refl B w).setCell (p := ⟨b, 0, none⟩) h.1 (.pointer (some ⟨b, 0, none⟩))) (Keep8.set b 0 w (.pointer (some ⟨b, 0, none⟩)))))
    have c0 := h.cell0
    have f0 := h.frozen0
    have hsh := h.shape
    clear h
    obtain ⟨j, hj, hjs⟩ := Option.map_eq_some_iff.1 (show (Tryz.prog.info? 89).map (·.size) = some 2 by kernel_rfl)
    go_enter Tryz.func62, Tryz.ntmps62
    go_wp2
    rw [Lib.run_to_unsafe w ⟨b, 0, none⟩ Tryz.underlying87 Tryz.underlying146 hj (by rw [hjs]; decide) hsh (Nat.zero_lt_succ 1)]
    simp only [Result.andThen]
    rw [Oper.upon_value]
    go_wp2
    rw [run_callFunc_extern Tryz.func87 (by kernel_rfl) (by kernel_rfl) (by kernel_rfl) (e := Extern.AbiNoEscape.same) (by kernel_rfl)]
    rw [Lib.run_noEscape]
    simp only [Result.andThen]
    rw [Oper.upon_value]
    go_wp2
    rw [Lib.run_from_unsafe w ⟨b, 0, none⟩ Tryz.underlying146 Tryz.underlying87 hj hsh (by kernel_rfl)]
    simp only [Result.andThen]
    rw [Oper.upon_value]
    go_wp2
    go_end0
    exact ⟨rfl, HK.out⟩
  · have HK := Lib.hid h
    have c0 := h.cell0
    clear h
    obtain ⟨j, hj, hjs⟩ := Option.map_eq_some_iff.1 (show (Tryz.prog.info? 89).map (·.size) = some 2 by kernel_rfl)
    go_enter Tryz.func62, Tryz.ntmps62
    go_wp2
    rw [Lib.run_neq_ptr_same w _ Tryz.underlying87 hj]
    go_wp2
    go_end0
    exact ⟨rfl, HK.out, Below.refl B _, Keep8.refl b _⟩
set_option maxRecDepth 100000 in
set_option maxHeartbeats 1000000 in
theorem writestring_any (B b : Nat) (l m : List UInt8) (w : World) (h : Bd w B b l) (hlen : l.length + m.length ≤ 10000000) (hBw : B ≤ w.heap.size) :
    Calls Tryz.prog 37 #[.pointer (some ⟨b, 0, none⟩), .string ⟨m.toArray⟩] w fun e w' => (∃ v, e = .returned v) ∧ Bd w' B b (l ++ m) ∧ Below B w w' ∧ Keep8 b w w' := by
  obtain ⟨i0, hi, hz0, hz1, hz2⟩ := info_parts bd_info
  have HC := Lib.hid (copycheck_any B b l w h)
  obtain ⟨s, hs⟩ : ∃ s : ByteArray, s = ⟨m.toArray⟩ := ⟨_, rfl⟩
  have hsm : Lib.strCells s = Lib.byteCells m := by rw [hs]; simp [Lib.strCells, Lib.byteCells]
  have hsz : s.size = m.length := by rw [hs]; simp [ByteArray.size]
  rw [← hs]
  clear h hs
  go_enter Tryz.func37, Tryz.ntmps37
  go_wp2_with (go_at_call 62; refine HC.out.mono ?_)
  rintro e w1 ⟨rfl, h1, hb1, hk1⟩
  obtain ⟨hB, v, hbk, hown, hne⟩ := h1
  have c0 : w1.cell? ⟨b, 0, none⟩ = some (.pointer (some ⟨b, 0, none⟩)) := bk_cell hbk 0
  have c1 : w1.cell? ⟨b, 1, none⟩ = some v := bk_cell hbk 1
  go_wp2_with (at_builtin; refine Lib.wpList_append_own_string _ rfl _ _ 59 9 rfl B 5 i0 Tryz.underlying59 Tryz.underlying9 hi hz0 hz1 hz2 _ _ _ rfl hown s rfl ?c3 ?c4 ?c5 ?_)
  case c3 => rw [Lib.byteCells_length]; unfold maxLen; omega
  case c4 => rw [Lib.byteCells_length]; omega
  case c5 => have := hb1.size; omega
  intro v' w2 hown' hgrow _
  have hlt : b < w1.heap.size := bk_lt hbk
  have hb2 : w2.heap[b]? = some (.cells #[.pointer (some ⟨b, 0, none⟩), v] 89 (0, 0)) := (hgrow.block b hlt (fun e => hne e.symm)).trans hbk
  have d0 : w2.cell? ⟨b, 0, none⟩ = some (.pointer (some ⟨b, 0, none⟩)) := bk_cell hb2 0
  have d1 : w2.cell? ⟨b, 1, none⟩ = some v := bk_cell hb2 1
  have f1 : w2.frozen? ⟨b, 1, none⟩ = false := bk_free hb2 1
  obtain ⟨ao, n', cap, rfl⟩ : ∃ ao n' cap, v' = .slice ao n' cap := by
    rcases hown'.2 with ⟨hv, _⟩ | ⟨g, cap, cur, hv, _⟩
    · exact ⟨_, _, _, hv⟩
    · exact ⟨_, _, _, hv⟩
  have HK8 := Lib.hid (hk1.trans (Keep8.trans (w1 := w2) ⟨hgrow.size, fun k cs T fr a c d => (hgrow.block k (bk_lt a) (fun e => by
      rcases hown.2 with ⟨hv, _⟩ | ⟨g, cap9, cur, hv, _, k3, _⟩
      · rw [hv] at e; cases e
      · rw [hv] at e
        injection e with e
        subst e
        rw [k3] at a
        injection a with a
        injection a with _ a _
        exact c a.symm)).trans a⟩ (Keep8.set b 1 w2 (.slice ao n' cap))))
  have HP : Hid (Lib.BuilderAt 89 5 B b (.pointer (some ⟨b, 0, none⟩)) (Lib.byteCells (l ++ m)) (w2.setCell ⟨b, 1, none⟩ (.slice ao n' cap)) ∧ Below B w (w2.setCell ⟨b, 1, none⟩ (.slice ao n' cap))) := Lib.hid ⟨Lib.BuilderAt.put (T := 89) (e := 5) hB hb2 (bs' := Lib.byteCells (l ++ m)) (by
      have e9 : Lib.byteCells (l ++ m) = Lib.byteCells l ++ Lib.strCells s := by rw [hsm]; simp [Lib.byteCells]
      rw [e9, List.length_append, Lib.strCells_length, hsm, hsz]; exact hown') (by decide), (hb1.grown hgrow (by have := hb1.size; omega) (fun k hk => (hown.lt k hk).1)).setCell (p := ⟨b, 1, none⟩) hB _⟩
  clear hown hown' hgrow hbk hb2 hb1 hk1 hsm c0 c1 hne
  go_wp2
  go_ret2
  exact ⟨⟨_, rfl⟩, .inr HP.out.1, HP.out.2, HK8.out⟩

end Go.Proofs.YtiamggjebaabkaaGreatDoor
