/- Merged: ShaI, ShaK, Iter. -/
import Derived.Test.YtdonicaiimeleaaGreatDoorGListParses34
import Derived.Deep.DeepCutAuto
import Derived.Deep.CutRange
import Derived.Deep.CutBlock
import Derived.LoopTactic
import Derived.Test.YtdonicaiimeleaaGreatDoorGListParses30
import Derived.Test.YtdonicaiimeleaaGreatDoorGListParses31
import Derived.Test.YtdonicaiimeleaaGreatDoorGListParses32
import Derived.Laws.CopyRow
import Derived.Deep.RegionHeld3
import Derived.Test.YtdonicaiimeleaaGreatDoorGListParses1
import Derived.RangeFuncFrom
import Derived.RangeFuncBound
import Derived.RangeFuncCalls
import Derived.RangeFuncLeaves
namespace Go.Proofs.YtdonicaiimeleaaGreatDoor
open Go.RowKit Go.WideShapes Go.ChangeShapes
set_option linter.unusedVariables false

/-- append of bytes to a row of the call's own, in a plain region; what it holds then has a name. -/
theorem app_nm {ops : Array Oper} {rest : List Oper} {o : Oper} {a : Act} {Q : Exit → Act → World → Prop} {w : World} (s x : Operand) (base : Nat) (v : Value) (m : List UInt8) (hown : Oz w base 5 .u8 v (nums m))
    (A : Option Addr) (l : List UInt8) (n c : Nat) (hn : l.length = n) (hr : Rb w A l) (hA : A = none → c = 0) (hm : m.length ≤ 1000000000) (hl : l.length ≤ 1000000000) (hbase : base ≤ w.heap.size)
    (hgd : o.guard = none) (ho : o.op = .call { callee := .builtin .append, args := #[s, x], argTypes := #[84, 84] }) (hs : a.eval s = v) (hx : a.eval x = .slice A n c)
    (h : ∀ A' c' w' r, r = m ++ l → Oz w' base 5 .u8 (.slice A' r.length c') (nums r) → Rb w' A' r → (A' = none → c' = 0) → r.length ≤ c' → Below base w w' → wpList Tryz.prog ops Q rest (a.put o.dst (.slice A' r.length c')) w') :
    wpList Tryz.prog ops Q (o :: rest) a w :=
  app_bytes s x base v m hown A l c hr hA hm hl hbase hgd ho hs (by rw [hn]; exact hx) fun A' c' w' h1 h2 h3 h4 h5 => h A' c' w' _ rfl h1 h2 h3 h4 h5
/-- A byte in a block of its own. -/
theorem one_byte (w : World) (b : UInt8) : Rb (w.alloc (.cells #[.int .u8 (b.toNat : Int)] 5)) (some ⟨w.heap.size, 0, none⟩) [b] := Bt.reads (T := 5) (heap_alloc_new w _)

/-- A slice's length. -/
def lenOf9 : Value → Nat
  | .slice _ n _ => n
  | _ => 0

set_option maxRecDepth 100000 in
set_option maxHeartbeats 2000000 in
theorem rpad_any (A : Option Addr) (l : List UInt8) (c : Nat) (w : World) (h : Rb w A l) (hA : A = none → c = 0) (hl : l.length ≤ 100000) :
    Calls Tryz.prog 56 #[.slice A l.length c] w fun e w' => ∃ A' c', e = .returned (.slice A' (padL l).length c') ∧ Rb w' A' (padL l) ∧ (A' = none → c' = 0) ∧ (padL l).length ≤ c' ∧ Below w.heap.size w w' := by
  have H := Lib.hid h; have HA := Lib.hid hA
  clear h hA
  obtain ⟨N, hN⟩ : ∃ N, N = l.length := ⟨_, rfl⟩
  rw [← hN] at hl ⊢
  have HN := Lib.hid hN
  clear hN
  go_enter Tryz.func56, Tryz.ntmps56
  go_wp2_with (first
    | (refine app_nm (.tmp 4) (.tmp 5) w.heap.size _ [] (own_nil w) A l N c HN.out.symm (H.out.below ((Below.refl _ w).alloc (Nat.le_refl _) _)) HA.out (by decide) (by have := HN.out; omega) (by simp) rfl rfl rfl rfl ?_
       intro A1 c1 w1 r1 hr1 hown _ _ _ hb
       have R1 := Lib.hid (show r1 = l from hr1); have O1 := Lib.hid hown; have B1 := Lib.hid (((Below.refl _ w).alloc (Nat.le_refl _) _).trans hb)
       clear hr1 hown hb)
    | (refine app_nm (.tmp 7) (.tmp 8) w.heap.size _ r1 (Oz.below O1.out ((Below.refl _ w1).alloc (Nat.le_refl _) _) (Nat.le_refl _)) (some ⟨w1.heap.size, 0, none⟩) [128] 1 1 rfl (one_byte w1 128) (fun h => by cases h) (by have := HN.out; rw [R1.out]; omega) (by decide) (by rw [World.size_alloc]; exact Nat.le_succ_of_le B1.out.size) rfl rfl rfl rfl ?_
       intro A2 c2 w2 r2 hr2 hown _ _ _ hb
       have R2 := Lib.hid (show r2 = l ++ 128 :: List.replicate 0 0 by rw [hr2, R1.out]; rfl); have O2 := Lib.hid hown; have B2 := Lib.hid ((B1.out.alloc B1.out.size _).trans hb)
       clear hr2 hown hb R1 O1 B1))
  go_loopw [3] (fun v wr => ∃ (k : Nat) (r : List UInt8) (A' : Option Addr) (c' : Nat), v = .slice A' r.length c' ∧ k ≤ pz N ∧ Hid (r = l ++ 128 :: List.replicate k 0) ∧ Hid (Oz wr w.heap.size 5 .u8 (.slice A' r.length c') (nums r)) ∧ Hid (Below w.heap.size w wr)) (fun v _ => pz N + N + 1 - (lenOf9 v))
  case atStart => exact ⟨0, r2, A2, c2, rfl, Nat.zero_le _, R2, O2, B2⟩
  case round =>
    obtain ⟨k, r, A', c', rfl, hk, HR, O, B⟩ := hrel
    have hrl : r.length = N + 1 + k := by rw [HR.out, HN.out]; simp; omega
    have HRL := Lib.hid hrl
    by_cases hlt : k < pz N
    · have hne : (r.length : Int) % 64 ≠ 56 := by unfold pz at hlt; omega
      have hmu : pz N + N + 1 - (r.length + 1) < pz N + N + 1 - r.length := by omega
      have hpk : k ≤ 63 := by unfold pz at hlt; omega
      have HMU := Lib.hid hmu; have HPK := Lib.hid hpk
      clear hmu hrl hpk
      go_wp2_with (refine app_nm (.tmp 14) (.tmp 15) w.heap.size _ r (Oz.below O.out ((Below.refl _ wr).alloc (Nat.le_refl _) _) (Nat.le_refl _)) (some ⟨wr.heap.size, 0, none⟩) [0] 1 1 rfl (one_byte wr 0) (fun h => by cases h) (by have := HRL.out; have := HPK.out; omega) (by decide) (by rw [World.size_alloc]; exact Nat.le_succ_of_le B.out.size) rfl rfl rfl rfl ?_
                   intro A3 c3 w3 r3 hr3 hown _ _ _ hb
                   have R3 := Lib.hid (show r3 = l ++ 128 :: List.replicate (k + 1) 0 by rw [hr3, HR.out, List.replicate_succ']; simp)
                   have L3 := Lib.hid (show r3.length = r.length + 1 by rw [hr3]; simp)
                   have O3 := Lib.hid hown; have B3 := Lib.hid ((B.out.alloc B.out.size _).trans hb)
                   clear hr3 hown hb)
      exact ⟨⟨k + 1, r3, A3, c3, rfl, by omega, R3, O3, B3⟩, by show pz N + N + 1 - r3.length < pz N + N + 1 - r.length; rw [L3.out]; exact HMU.out⟩
    · obtain rfl : k = pz N := by omega
      have heq : (r.length : Int) % 64 = 56 := by unfold pz at hrl; omega
      have hnm := fun W => number_any (N * 8) 8 W (by decide) (by omega)
      rw [show ((N * 8 : Nat) : Int) = (N : Int) * 8 by omega, be_len] at hnm
      have HNM := Lib.hid hnm
      have HP := Lib.hid (show padL l = r ++ be 8 (N * 8) by rw [HR.out]; unfold padL; rw [← HN.out, Nat.mul_comm 8 N]; simp)
      have HPZ := Lib.hid (show pz N ≤ 63 by unfold pz; omega)
      have HBL := Lib.hid (be_len 8 (N * 8))
      clear hnm hlt hk hrl
      generalize be 8 (N * 8) = L at *
      go_wp2_with (first
        | (go_at_call 83; refine (HNM.out _).mono ?_; rintro e w2 ⟨rfl, hk, hb⟩; have K2 := Lib.hid hk; have B2 := Lib.hid (B.out.trans (hb.mono B.out.size)); have O2 := Lib.hid (Oz.below O.out hb (Nat.le_refl _)); clear hk hb)
        | (refine app_nm (.tmp 17) (.tmp 22) w.heap.size _ r O2.out _ L 8 _ HBL.out K2.out.whole (fun h => by cases h) (by have := HRL.out; have := HPZ.out; omega) (by have := HBL.out; omega) B2.out.size rfl rfl rfl rfl ?_
           intro A3 c3 w3 r3 hr3 hown hrd hnil hle hb
           have R3 := Lib.hid hr3
           have RD := Lib.hid hrd; have NI := Lib.hid hnil; have LE := Lib.hid hle; have B3 := Lib.hid (B2.out.trans hb)
           clear hr3 hown hrd hnil hle hb))
      go_ret
      rw [HP.out, ← R3.out]
      exact ⟨A3, c3, rfl, RD.out, NI.out, LE.out, B3.out⟩

end Go.Proofs.YtdonicaiimeleaaGreatDoor

namespace Go.Proofs.YtdonicaiimeleaaGreatDoor
open Go.RowKit Go.WideShapes Go.ChangeShapes
set_option linter.unusedVariables false

theorem Bt.set {T : TypeId} {w : World} {g : Nat} {Z : List UInt8} (h : Bt T w g Z) (cs : List UInt8) : Bt T (w.setRow g (bc cs).toArray) g cs := setRow_heap w g _ _ _ _ h
theorem copy_cells (Z L : List UInt8) (off : Nat) : ((bc Z).toArray.toList.take off ++ bc L ++ (bc Z).toArray.toList.drop (off + (bc L).length)).toArray = (bc (splice Z off L)).toArray := by
  rw [bc_len]
  simp [splice, bc, List.map_take, List.map_drop]
theorem src_cells {w : World} {A : Option Addr} {L : List UInt8} (h : Rb w A L) (h0 : 0 < L.length) : ∃ ad, A = some ad ∧ ∀ j v, (bc L)[j]? = some v → w.cell? (ad.add j) = some v := by
  obtain ⟨b, off, rfl, _, _⟩ := h.cell h0
  refine ⟨_, rfl, fun j v hv => ?_⟩
  obtain ⟨hj, rfl⟩ := bc_get hv
  obtain ⟨b', off', e, _, h3⟩ := h.cell hj
  injection e with e
  injection e with e1 e2
  subst e1; subst e2
  rw [add_plain]; exact h3
/-- copy of bytes to a place of a block, in a region that draws. -/
theorem copy_step {ops : Array Oper} {o : Oper} {a : Act} {w : World} {K : Act → World → Prop} {Q : Exit → Act → World → Prop} {X : Prop} (d s : Operand) (T : TypeId) (g off dn dc sn sc : Nat) (Z : List UInt8) (A : Option Addr) (L : List UInt8)
    (hg : Bt T w g Z) (hr : Rb w A (L)) (h0 : 0 < L.length) (hn : L.length = Nat.min sn dn) (hfit : off + L.length ≤ Z.length)
    (hw : Region.wanted o (yielded ops a.tmps) = true) (ho : o.op = .call { callee := .builtin .copy, args := #[d, s], argTypes := #[84, 84] })
    (hd : a.eval d = .slice (some ⟨g, off, none⟩) dn dc) (hs : a.eval s = .slice A sn sc)
    (h : K (a.put o.dst (goInt L.length)) (w.setRow g (bc (splice Z off L)).toArray)) :
    if Region.wanted o (yielded ops a.tmps) = true then Oper.wp Tryz.prog o a w K Q else X := by
  rw [if_pos hw]
  obtain ⟨ad, rfl, hc⟩ := src_cells hr h0
  have hrun := run_copy_row (P := Tryz.prog) w 84 84 o.type 5 g off dn dc ad sn sc (bc Z).toArray T (bc L) Tryz.underlying84 size8 hg (by rw [bc_len]; exact hn) hc (by rw [bc_len, List.size_toArray, bc_len]; exact hfit) bc_one
  rw [copy_cells, bc_len] at hrun
  unfold Oper.wp
  simp [execOp, ho, resolve, invoke, builtin, hd, hs, hrun, Result.andThen]
  exact h
/-- The same in the plain region of a fenced walk. -/
theorem copy_in {F : Fence} {n : Nat} {ops : Array Oper} {rest : List Oper} {o : Oper} {a : Act} {w : World} {Q : Exit → Act → World → Prop} (d s : Operand) (T : TypeId) (g off dn dc sn sc t : Nat) (Z : List UInt8) (A : Option Addr) (L : List UInt8) (ht : L.length = t)
    (hg : Bt T w g Z) (hr : Rb w A (L)) (h0 : 0 < L.length) (hn : L.length = Nat.min sn dn) (hfit : off + L.length ≤ Z.length)
    (hgd : o.guard = none) (ho : o.op = .call { callee := .builtin .copy, args := #[d, s], argTypes := #[84, 84] })
    (hd : a.eval d = .slice (some ⟨g, off, none⟩) dn dc) (hs : a.eval s = .slice A sn sc)
    (h : wpListIn F n Tryz.prog ops Q rest (a.put o.dst (.int .i64 (t : Int))) (w.setRow g (bc (splice Z off L)).toArray)) :
    wpListIn F n Tryz.prog ops Q (o :: rest) a w := by
  refine wpListIn_plain hgd fun K hK => ?_
  obtain ⟨ad, rfl, hc⟩ := src_cells hr h0
  have hrun := run_copy_row (P := Tryz.prog) w 84 84 o.type 5 g off dn dc ad sn sc (bc Z).toArray T (bc L) Tryz.underlying84 size8 hg (by rw [bc_len]; exact hn) hc (by rw [bc_len, List.size_toArray, bc_len]; exact hfit) bc_one
  rw [copy_cells, bc_len, ht] at hrun
  unfold Oper.wpIn
  refine ⟨?_, ?_⟩
  · simp [Oper.about, ho, resolve, Target.leads, Sem.run_pure]
  · rw [Oper.semAt_plain F _ _ (by rw [ho]; intro c hc'; cases hc')]
    simp [execOp, ho, resolve, invoke, builtin, hd, hs, hrun, Result.andThen]
    exact hK _ _ h

/-- What stands behind a text of so many bytes. -/
def padT (n : Nat) : List UInt8 := 128 :: (List.replicate (pz n) 0 ++ be 8 (8 * n))
theorem padT_len (n : Nat) : (padT n).length = 64 * pb n - n ∧ 9 ≤ (padT n).length ∧ (padT n).length ≤ 72 := by
  unfold padT pb pz
  simp only [List.length_append, List.length_cons, List.length_replicate, be_len]
  omega
theorem padT_is (n : Nat) : splice ((List.replicate (64 * pb n - n) (0 : UInt8)).set 0 128) (64 * pb n - n - 8) (be 8 (8 * n)) = padT n := by
  have h1 : 64 * pb n - n = pz n + 9 := by unfold pb pz; omega
  rw [h1, List.replicate_succ, List.set_cons_zero]
  unfold splice padT
  rw [be_len, show pz n + 9 - 8 = pz n + 1 by omega, List.take_succ_cons, show pz n + 1 + 8 = (pz n + 8) + 1 by omega, List.drop_succ_cons, List.drop_replicate, List.take_replicate]
  simp
theorem padL_is (l : List UInt8) : padL l = l ++ padT l.length := rfl

set_option maxRecDepth 100000 in
set_option maxHeartbeats 2000000 in
theorem padding_any (n : Nat) (w : World) (hn : n ≤ 100000) :
    Calls Tryz.prog 139 #[.int .i64 (n : Int)] w fun e w' => ∃ g, w.heap.size ≤ g ∧ e = .returned (.slice (some ⟨g, 0, none⟩) (padT n).length (padT n).length) ∧ Bk w' g (padT n) ∧ Below w.heap.size w w' := by
  have hb := fun W => blocks_any (n : Int) W (by unfold fits; omega)
  rw [pbI_nat] at hb
  obtain ⟨hl1, hl2, hl3⟩ := padT_len n
  have hpt := padT_is n
  rw [hl1]
  rw [hl1] at hl2 hl3
  have hK : n ≤ 64 * pb n ∧ pb n ≤ 2000 := by unfold pb; omega
  obtain ⟨M, hM⟩ : ∃ M, M = 64 * pb n - n := ⟨_, rfl⟩
  have hMi : (pb n : Int) * 64 - (n : Int) = (M : Int) := by omega
  rw [← hM] at hpt hl2 hl3 ⊢
  generalize pb n = K at *
  have HPT := Lib.hid hpt; have HB := Lib.hid hb; have HL := Lib.hid (And.intro hl2 hl3)
  obtain ⟨P, hP⟩ : ∃ P, P = padT n := ⟨_, rfl⟩
  rw [← hP] at HPT ⊢
  have hL8 : wb 8 [8 * (n : Int)] = be 8 (8 * n) := by simp [wb]; congr 1
  have hput : ∀ (W : World) (A : Option Addr), Rz .u64 W A [8 * (n : Int)] → Calls Tryz.prog 174 #[.slice none 0 0, .slice A 1 1] W fun e w' => ∃ g, W.heap.size ≤ g ∧ e = .returned (.slice (some ⟨g, 0, none⟩) 8 8) ∧ Bk w' g (be 8 (8 * n)) ∧ Below W.heap.size W w' := fun W A hz => by
    have := put64_any none A [] [8 * (n : Int)] 0 1 W (Rb.nil _) (fun _ => rfl) hz (by decide) (by simp)
    rw [List.nil_append, hL8, be_len] at this
    exact this
  have hbl := be_len 8 (8 * n)
  have hsl : ∀ (g : Nat) (w' : World), (Instr.slice 84 (.slice (some ⟨g, 0, none⟩) M M) (some (.int .i64 ((M - 8 : Nat) : Int))) none none).run Tryz.prog w' = .ok (.slice (some ⟨g, M - 8, none⟩) 8 8) w' := fun g w' => by
    obtain ⟨A2, h1, h2⟩ := slice_end g (M - 8) 8 (by omega)
    rw [show M - 8 + 8 = M by omega] at h2
    rw [h2 w', h1 (by decide)]
  have HPUT := Lib.hid hput; have HBL := Lib.hid hbl
  clear hput hbl hL8
  generalize be 8 (8 * n) = L at *
  have q2 : IntKind.i64.wrap ((M : Int) - 8) = ((M - 8 : Nat) : Int) := by rw [IntWalk.i64_in _ (by omega)]; omega
  have HM8 := Lib.hid (show M - 8 + 8 = M by omega)
  generalize M - 8 = o8 at *
  have hmk := fun w => make_bytes M (by omega) w
  clear hl1 hpt hb hM hP
  have q1 : (n : Int) ≤ 100000 := by omega
  go_enter Tryz.func139, Tryz.ntmps139
  go_upto_region 3 with (go_at_call 173; refine (HB.out _).mono ?_; rintro e w' ⟨rfl, rfl⟩)
  have k1 : Bk (w.alloc (.cells (bc (List.replicate M 0)).toArray 5)) w.heap.size (List.replicate M 0) := heap_alloc_new w _
  have B1 := Lib.hid ((Below.refl w.heap.size w).alloc (Nat.le_refl _) (.cells (bc (List.replicate M 0)).toArray 5))
  clear hmk
  generalize w.alloc (.cells (bc (List.replicate M 0)).toArray 5) = w1 at *
  have c0 : w1.cell? ⟨w.heap.size, 0, none⟩ = some (.int .u8 0) := by
    have := k1.cell (i := 0) (by rw [List.length_replicate]; omega)
    rw [List.getElem_replicate] at this; exact this
  have f0 := k1.free 0
  have K2 := Lib.hid (k1.set 0 128)
  have B2 := Lib.hid (B1.out.setCell (p := ⟨w.heap.size, 0, none⟩) (Nat.le_refl _) (.int .u8 128))
  have hm0 : (0 : Int) < (M : Int) := by omega
  clear k1
  go_upto_region 4 with fail
  clear c0 f0 hm0
  have K2' : Hid (Bt 5 (w1.setCell ⟨w.heap.size, 0, none⟩ (.int .u8 128)) w.heap.size ((List.replicate M 0).set 0 128)) := Lib.hid K2.out
  clear K2
  generalize w1.setCell ⟨w.heap.size, 0, none⟩ (.int .u8 128) = w2 at *
  have q3 : IntKind.u64.wrap (8 * (n : Int)) = 8 * (n : Int) := by simp [IntKind.wrap, IntKind.signed, IntKind.bits]; omega
  have q4 : IntKind.u64.wrap (n : Int) = (n : Int) := by simp [IntKind.wrap, IntKind.signed, IntKind.bits]; omega
  have bb := (Below.refl w2.heap.size w2).alloc (Nat.le_refl _) (.cells #[.int .u64 (8 * (n : Int))] 149)
  have NB : Hid (Rz .u64 (w2.alloc (.cells #[.int .u64 (8 * (n : Int))] 149)).drew (some ⟨w2.heap.size, 0, none⟩) [8 * (n : Int)]) := Lib.hid ⟨fun z hz => by
      rw [List.mem_singleton.mp hz]
      simp [Lit.wf, IntKind.min, IntKind.max, IntKind.signed, IntKind.bits]
      omega, .inr ⟨w2.heap.size, 0, rfl, by simp, fun j z hj => by
        cases j with
        | zero =>
          obtain rfl : 8 * (n : Int) = z := by simpa using hj
          exact bk_cell (heap_alloc_new w2 _) 0
        | succ j => simp at hj⟩⟩
  have ES := Lib.hid (Below.drew (Below.refl w2.heap.size w2))
  have FS := Lib.hid (Below.drew bb)
  clear bb
  have SE := Lib.hid (B2.out.trans (ES.out.mono B2.out.size))
  have SF := Lib.hid (B2.out.trans (FS.out.mono B2.out.size))
  go_region_held3 (fun w' => Below w.heap.size w w')
    (with_reducible (first | exact SE.out | exact SF.out | exact SG.out | exact HS'.out | fail "none"))
    (first
      | (go_at_call 174; refine (HPUT.out _ _ NB.out).mono ?_; rintro e w3 ⟨g3, hg3, rfl, hk, hb⟩; have K3 := Lib.hid hk; have GS := Lib.hid (FS.out.trans (hb.mono FS.out.size)); have SG := Lib.hid (B2.out.trans (GS.out.mono B2.out.size)); clear hk hb)
      | (refine copy_step (.tmp 17) (.tmp 22) 5 w.heap.size o8 8 8 8 8 ((List.replicate M 0).set 0 128) (some ⟨g3, 0, none⟩) L (K2'.out.below GS.out K2'.out.lt) K3.out.whole (by have := HBL.out; omega) (by rw [HBL.out]; rfl) (by rw [List.length_set, List.length_replicate]; have := HBL.out; have := HM8.out; omega) rfl rfl rfl rfl ?_
         have K4 := Lib.hid ((K2'.out.below GS.out K2'.out.lt).set (splice ((List.replicate M 0).set 0 128) o8 L))
         have HS' := Lib.hid (below_setRow (B2.out.trans (GS.out.mono B2.out.size)) (Nat.le_refl _) (bc (splice ((List.replicate M 0).set 0 128) o8 L)).toArray)))
  rw [HPT.out] at K4 HS' ⊢
  generalize w3.setRow w.heap.size (bc P).toArray = w5 at *
  go_wp2_with fail
  go_ret
  exact ⟨w.heap.size, Nat.le_refl _, rfl, K4.out, HS'.out⟩

end Go.Proofs.YtdonicaiimeleaaGreatDoor

namespace Go.Proofs.YtdonicaiimeleaaGreatDoor
open Go.RowKit
set_option linter.unusedVariables false

section
variable {F : Fence} {n : Nat} {P : Program}

/-- All cells but one's own lie as they lay. -/
def Keeps (own : Nat → Prop) (A B : World) : Prop := ∀ j o, ¬ own j → A.heap[j]? = some o → o.isCells = true → B.heap[j]? = some o
theorem Keeps.refl (own : Nat → Prop) (A : World) : Keeps own A A := fun _ _ _ h _ => h
theorem Keeps.trans {own : Nat → Prop} {A B C : World} (h : Keeps own A B) (k : Keeps own B C) : Keeps own A C := fun j o h1 h2 h3 => k j o h1 (h j o h1 h2 h3) h3
theorem Keeps.at_ {own : Nat → Prop} {A B : World} {l : Nat} {o : Obj} (h : A.heap[l]? = some o) (hc : o.isCells = false) (hs : ∀ j, j ≠ l → B.heap[j]? = A.heap[j]?) : Keeps own A B := fun j o' _ h2 h3 => by
  by_cases e : j = l
  · subst e
    rw [h] at h2
    cases h2
    rw [hc] at h3; cases h3
  · rw [hs j e]; exact h2
theorem Keeps.below {own : Nat → Prop} {A B : World} (h : Below A.heap.size A B) : Keeps own A B := fun j o _ h2 _ => (h.block j (Array.getElem?_eq_some_iff.1 h2).1).trans h2
/-- An iterator gives the values xs; its caller keeps all cells but its own; what the iterator turns lies beyond its own beginning. -/
def Gives {α : Type} (F : Fence) (n : Nat) (P : Program) (g : Nat) (lb : Array Value) (encs : α → Array Value) (own : Nat → Prop) (xs : List α) (w : World) : Prop :=
  ∀ (l : Nat) (J : Nat → World → Prop) (W : World), Below w.heap.size w W → (∀ k A B, J k A → Below W.heap.size A B → J k B) →
    (∀ k x A, J k A → xs[k]? = some x → YieldAt F (n - 1) P l (encs x) A fun e B => e = .returned (.bool true) ∧ J (k + 1) B ∧ Keeps own A B ∧ A.heap.size ≤ B.heap.size) →
    J 0 W → CallsIn F n P g (#[.func (.yield l) #[] #[]] ++ lb) W fun e B => (∃ v, e = .returned v) ∧ J xs.length B

theorem put_below {W : World} {l B : Nat} (o : Obj) (h : B ≤ l) : Below B W (W.putObj l o) :=
  ⟨rfl, rfl, rfl, by simp [World.putObj], fun k hk => World.putObj_heap_other (by omega)⟩
theorem put_size (W : World) (l : Nat) (o : Obj) : (W.putObj l o).heap.size = W.heap.size := by simp [World.putObj]

theorem range_gives {α : Type} {g : Operand} {ps : Array Tmp} {assign body : Code} {Q : Exit → Act → World → Prop} {a : Act} {w : World}
    (hro : F.round = none) (h1 : 1 ≤ n) {gf : Nat} {lb : Array Value} (hg : a.eval g = .func (.func gf) #[] lb) (hFg : F.fn gf) (eg : ∀ args w, (callFunc gf args).run P w = .ok (.enter gf args) w)
    {encs : α → Array Value} {own : Nat → Prop} {xs : List α} {w0 : World} (hseq : Gives F (n - 1) P gf lb encs own xs w0) (hb0 : Below w0.heap.size w0 w) (hps : ∀ x, (encs x).size = ps.size)
    (I : Nat → World → Prop) (hI : ∀ k A B, I k A → Below w.heap.size A B → I k B) (h0 : I 0 w)
    (hround : ∀ (l k : Nat) (x : α) (W : World), I k W → xs[k]? = some x → w.heap.size ≤ l → l < W.heap.size →
      assign.wpIn (F.inRound l) (n - 1 - 1) P (Exit.then (fun a1 w1 => KeepsOthers W w1 ∧ Keeps own W w1 ∧ I k w1 ∧
        ∀ w2, (∀ j, j ≠ l → w2.heap[j]? = w1.heap[j]?) → w2.heap.size = w1.heap.size → Below w.heap.size w1 w2 →
          body.wpIn (F.inRound l) (n - 1 - 1) P (fun e _ w3 => e = .normal ∧ KeepsOthers w2 w3 ∧ Keeps own w2 w3 ∧ I (k + 1) w3) a1 w2) (fun _ _ _ => False))
        { tmps := (ps.zip (encs x)).foldl (fun t (p, v) => t.setIfInBounds p v) a.tmps, defers := [] } W)
    (hdone : ∀ (D : Nat) (W : World), w.heap.size ≤ D → I xs.length W → W.heap[D]? = some (.deferred (some [])) → Q .normal { a with defers := { target := .collected D, args := #[] } :: a.defers } W) :
    (Code.rangeFunc g ps assign body).wpIn F n P Q a w := by
  refine wpIn_rangeFunc fun fn hfn => ?_
  rw [hro]
  obtain ⟨B0, hB0⟩ : ∃ B0, B0 = w.heap.size := ⟨_, rfl⟩
  let rc : LoopState → Loop := fun st => { state := st, pending := none, fn := fn, tmps := a.tmps, params := ps, assign := assign, body := body, defers := w.heap.size }
  obtain ⟨W1, hW1⟩ : ∃ W1, W1 = (w.alloc (.deferred (some []))).alloc (.loop (rc .ready)) := ⟨_, rfl⟩
  have sz : W1.heap.size = w.heap.size + 2 := by rw [hW1]; simp
  have cl : W1.heap[w.heap.size + 1]? = some (.loop (rc .ready)) := by
    have := World.alloc_heap_new (w.alloc (.deferred (some []))) (.loop (rc .ready))
    rw [World.size_alloc] at this
    rw [hW1]; exact this
  have cd : W1.heap[w.heap.size]? = some (.deferred (some [])) := by
    rw [hW1]; exact (Below.heap_alloc _ _ _ (by simp)).trans (World.alloc_heap_new w _)
  have b1 : Below w.heap.size w W1 := by rw [hW1]; exact ((Below.refl _ w).alloc (Nat.le_refl _) _).alloc (by simp) _
  refine ⟨w.heap.size + 1, [{ target := .collected w.heap.size, args := #[] }], W1, { target := .fn (.func gf) lb, args := #[.func (.yield (w.heap.size + 1)) #[] #[]] }, W1, gf,
    #[.func (.yield (w.heap.size + 1)) #[] #[]] ++ lb, W1, ?_, ?_, ?_, ?_, fun _ => h1, ?_⟩
  · rw [hW1]; exact run_enterLoop_outer _ _ _ _ _
  · simp only [resolve, hg]
    simp [go_sem]
  · intro f' hf'; simp [Target.leads] at hf'; subst hf'; exact hFg
  · simp [invoke, go_sem, eg]
  · refine (hseq (w.heap.size + 1) (fun k W => I k W ∧ W.heap[w.heap.size + 1]? = some (.loop (rc .ready)) ∧ W.heap[w.heap.size]? = some (.deferred (some []))) W1 (hb0.trans (b1.mono hb0.size))
      (fun k A B hk hb => ⟨hI k A B hk.1 (hb.mono (by omega)), (hb.block _ (by omega)).trans hk.2.1, (hb.block _ (by omega)).trans hk.2.2⟩) ?_ ⟨hI 0 w W1 h0 b1, cl, cd⟩).mono ?_
    · rintro k x W ⟨hi, hl, hd⟩ hx
      have hlt : w.heap.size + 1 < W.heap.size := (Array.getElem?_eq_some_iff.1 hl).1
      refine ⟨fn, _, assign, body, run_yield (P := P) (args := encs x) hl (hps x), roundIn_of_wpIn hfn (wpIn_mono (hround (w.heap.size + 1) k x W hi hx (by omega) hlt) ?_)⟩
      rintro e a1 w1 he
      cases e with
      | normal =>
        obtain ⟨o1, k1, i1, hbody⟩ := he
        have l1 := o1.same _ _ hl rfl
        have d1 := o1.same _ _ hd rfl
        have lt1 := (Array.getElem?_eq_some_iff.1 l1).1
        refine ⟨_, run_beginRound l1 rfl, wpIn_mono (hbody _ (fun j hj => World.putObj_heap_other hj) (put_size _ _ _) (put_below _ (by omega))) ?_⟩
        rintro e a3 w3 ⟨rfl, o3, k3, i3⟩
        have l2 : (w1.putObj (w.heap.size + 1) (.loop { rc .ready with state := .busy })).heap[w.heap.size + 1]? = some (.loop (rc .busy)) := World.putObj_heap_same lt1
        have d2 : (w1.putObj (w.heap.size + 1) (.loop { rc .ready with state := .busy })).heap[w.heap.size]? = some (.deferred (some [])) := (World.putObj_heap_other (by omega)).trans d1
        have l3 := o3.same _ _ l2 rfl
        have d3 := o3.same _ _ d2 rfl
        have lt3 := (Array.getElem?_eq_some_iff.1 l3).1
        refine ⟨_, _, run_endRound (P := P) none l3, rfl, ⟨hI _ _ _ i3 (put_below _ (by omega)), World.putObj_heap_same lt3, (World.putObj_heap_other (by omega)).trans d3⟩, ?_, ?_⟩
        · have s2 : Keeps own w1 (w1.putObj (w.heap.size + 1) (.loop { rc .ready with state := .busy })) := Keeps.at_ l1 rfl fun j hj => World.putObj_heap_other hj
          have s4 : Keeps own w3 (w3.putObj (w.heap.size + 1) (.loop { rc .busy with state := if (none : Option Code).isNone then .ready else .done, pending := none })) := Keeps.at_ l3 rfl fun j hj => World.putObj_heap_other hj
          exact k1.trans (s2.trans (k3.trans s4))
        · rw [put_size]
          have h2 := o3.size
          rw [put_size] at h2
          exact Nat.le_trans o1.size h2
      | ret => exact he.elim
      | exit id => exact he.elim
      | goto t => exact he.elim
      | panic c => exact he.elim
      | outgrown => exact he.elim
    · rintro e W2 ⟨⟨v, rfl⟩, hi, hl, hd⟩
      refine ⟨none, _, run_endLoop (P := P) hl (by simp [rc]), ?_⟩
      exact hdone w.heap.size _ (Nat.le_refl _) (hI _ _ _ hi (put_below _ (by omega))) ((World.putObj_heap_other (by omega)).trans hd)
end
end Go.Proofs.YtdonicaiimeleaaGreatDoor
