/- Merged: ShaQ, ShaE. -/
import Derived.Test.YtiamggjebaabkaaGreatDoorGListRemarks27
import Derived.Test.YtiamggjebaabkaaGreatDoorGListRemarks28
import Derived.Test.YtiamggjebaabkaaGreatDoorGListRemarks21
import Derived.Deep.DeepCutAuto
import Derived.Deep.CutRange
import Derived.Deep.CutBlock
import Derived.Deep.LoopGhost
import Derived.LoopTactic
namespace Go.Proofs.YtiamggjebaabkaaGreatDoor
open Go.RowKit Go.WideShapes Go.ChangeShapes
set_option linter.unusedVariables false

/-- A part as a value. -/
def tv (p : Pt) : Value := .slice p.1 p.2.1.length p.2.2
theorem cat_take (ps : List Pt) {j : Nat} {A : Option Addr} {l : List UInt8} {c : Nat} (h : ps[j]? = some (A, l, c)) : (cat (ps.take (j + 1))).length = (cat (ps.take j)).length + l.length := by
  rw [List.take_add_one, h]
  unfold cat
  rw [List.flatMap_append, List.length_append]
  simp
theorem cat_take_le (ps : List Pt) (j : Nat) : (cat (ps.take j)).length ≤ (cat ps).length := by
  have h : cat ps = cat (ps.take j) ++ cat (ps.drop j) := by
    unfold cat
    rw [← List.flatMap_append, List.take_append_drop]
  rw [h, List.length_append]; omega
/-- The padding as a part. -/
def padP (g N : Nat) : Pt := (some ⟨g, 0, none⟩, padT N, (padT N).length)

theorem Ps.rv {own : Nat → Prop} {w : World} {Ap : Option Addr} {ps : List Pt} (h : Ps own w Ap ps) : Rv w Ap (ps.map tv) := by
  cases ps with
  | nil => exact .inl rfl
  | cons p0 ps =>
    obtain ⟨⟨b, off, h1, -, h3⟩, -⟩ := h 0 p0.1 p0.2.1 p0.2.2 rfl
    refine .inr ⟨b, off, h1, World.block_lt_of_cell? _ _ h3, fun j v hj => ?_⟩
    rw [List.getElem?_map] at hj
    cases e : (p0 :: ps)[j]? with
    | none => rw [e] at hj; cases hj
    | some p =>
      rw [e] at hj
      obtain rfl : tv p = v := by simpa using hj
      obtain ⟨⟨b', off', h1', -, h3'⟩, -⟩ := h j p.1 p.2.1 p.2.2 e
      rw [h1] at h1'
      injection h1' with h1'
      injection h1' with e1 e2
      subst e1; subst e2
      exact h3'
theorem Ps.none_ {own : Nat → Prop} {w : World} {Ap : Option Addr} {ps : List Pt} (h : Ps own w Ap ps) (hn : Ap = none) : ps.map tv = [] := by
  cases ps with
  | nil => rfl
  | cons p0 ps =>
    obtain ⟨⟨b, off, h1, -, -⟩, -⟩ := h 0 p0.1 p0.2.1 p0.2.2 rfl
    rw [hn] at h1; cases h1
theorem Ov.open_ {w : World} {base : Nat} {v : Value} {vs : List Value} (h : Ov w base v vs) (h0 : 0 < vs.length) : ∃ b c, v = .slice (some ⟨b, 0, none⟩) vs.length c ∧ base ≤ b ∧ ∀ i u, vs[i]? = some u → w.cell? ⟨b, i, none⟩ = some u := by
  rcases h.2 with ⟨hv, hn⟩ | ⟨g, cap, cur, hv, hb, hh, hc, hm, _, _⟩
  · omega
  · refine ⟨g, cap, hv, hb, fun i u hu => ?_⟩
    have := World.ownsRow.cells h (g := g) (by rw [hv]; rfl) i u hu
    rw [add_plain, Nat.zero_add] at this
    exact this

set_option maxRecDepth 100000 in
set_option maxHeartbeats 2000000 in
theorem padded_any (own : Nat → Prop) (Ap : Option Addr) (cp : Nat) (ps : List Pt) (w : World) (hps : Ps own w Ap ps) (hn : Ap = none → cp = 0) (hpl : ps.length ≤ 100) (hT : (cat ps).length ≤ 10000) (how : ∀ j, own j → j < w.heap.size) :
    Calls Tryz.prog 93 #[.slice Ap ps.length cp] w fun e w' => ∃ A' c' g, e = .returned (.slice A' (ps.length + 1) c') ∧ Ps own w' A' (ps ++ [padP g (cat ps).length]) ∧ Below w.heap.size w w' := by
  obtain ⟨n, hnn⟩ : ∃ n, n = ps.length := ⟨_, rfl⟩
  rw [← hnn] at hpl ⊢
  have HNN := Lib.hid hnn
  have HPS := Lib.hid hps; have HNA := Lib.hid hn; have HOW := Lib.hid how; have HT := Lib.hid hT; have HPL := Lib.hid hpl
  clear hps hn how hT hnn
  go_enter Tryz.func93, Tryz.ntmps93
  go_wp2
  go_loopw [3, 8] (fun s i wr => ∃ j z : Nat, s = .int .i64 z ∧ i = .int .i64 j ∧ j ≤ n ∧ Hid (z = (cat (ps.take j)).length) ∧ w = wr) (fun _ i _ => n - (intOf i).toNat)
  case atStart => exact ⟨0, 0, rfl, rfl, Nat.zero_le _, Lib.hid rfl, rfl⟩
  case round =>
    obtain ⟨j, z, rfl, rfl, hj, HZ, rfl⟩ := hrel
    by_cases hlt : j < n
    · obtain ⟨⟨A, l, c⟩, hp⟩ : ∃ p, ps[j]? = some p := ⟨_, List.getElem?_eq_getElem (by rw [← HNN.out]; exact hlt)⟩
      obtain ⟨⟨b, off, rfl, hb2, hc3⟩, -, -, -, -⟩ := HPS.out j A l c hp
      have hz : z + l.length ≤ 10000 := by
        have h1 := cat_take ps hp
        have h2 := cat_take_le ps (j + 1)
        have := HZ.out
        have := HT.out
        omega
      have HZ1 := Lib.hid (show z + l.length = (cat (ps.take (j + 1))).length by rw [cat_take ps hp, HZ.out])
      clear hp hb2
      go_wp2
      exact ⟨⟨j + 1, z + l.length, by go_num, by go_num, by omega, HZ1, trivial⟩, by simp [intOf]; omega⟩
    · obtain rfl : j = n := by omega
      obtain ⟨N, hN⟩ : ∃ N, N = (cat ps).length := ⟨_, rfl⟩
      obtain rfl : z = N := by rw [hN, HZ.out, HNN.out, List.take_length]
      have hN2 : z ≤ 10000 := by rw [hN]; exact HT.out
      have HPD := Lib.hid (padding_any z w (by omega))
      have HNZ := Lib.hid hN
      have HM := Lib.hid (padT_len z)
      clear hlt hj HZ hN
      obtain ⟨M, hM⟩ : ∃ M, M = (padT z).length := ⟨_, rfl⟩
      rw [← hM] at HPD HM
      have HMM := Lib.hid hM
      clear hM
      go_wp2_with (go_at_call 125; refine HPD.out.mono ?_; rintro e w1 ⟨g, hg, rfl, hk, hb⟩; have HG := Lib.hid hg; have K1 := Lib.hid hk; have B1 := Lib.hid hb; clear hg hk hb)
      obtain ⟨W2, hW2⟩ : ∃ W2, W2 = (w1.alloc (.cells #[.slice (some ⟨g, 0, none⟩) M M] 59)).alloc (.cells #[.slice Ap j cp, .slice (some ⟨w1.heap.size, 0, none⟩) 1 1] 154) := ⟨_, rfl⟩
      have b2 : Below w1.heap.size w1 W2 := by rw [hW2]; exact ((Below.refl _ w1).alloc (Nat.le_refl _) _).alloc (by simp) _
      have hh : W2.heap[w1.heap.size + 1]? = some (.cells #[.slice Ap j cp, .slice (some ⟨w1.heap.size, 0, none⟩) 1 1] 154 (0, 0)) := by
        rw [hW2]
        have := heap_alloc_new (w1.alloc (.cells #[.slice (some ⟨g, 0, none⟩) M M] 59)) (.cells #[.slice Ap j cp, .slice (some ⟨w1.heap.size, 0, none⟩) 1 1] 154)
        rw [World.size_alloc] at this
        exact this
      have r2 : Rv W2 (some ⟨w1.heap.size, 0, none⟩) [.slice (some ⟨g, 0, none⟩) M M] := by
        have h1 : Rv (w1.alloc (.cells #[.slice (some ⟨g, 0, none⟩) M M] 59)) (some ⟨w1.heap.size, 0, none⟩) [.slice (some ⟨g, 0, none⟩) M M] := .inr ⟨w1.heap.size, 0, rfl, by simp, fun i v hi => by
          cases i with
          | zero =>
            obtain rfl : Value.slice (some ⟨g, 0, none⟩) M M = v := by simpa using hi
            exact bk_cell (heap_alloc_new w1 _) 0
          | succ i => simp at hi⟩
        rw [hW2]
        exact h1.below ((Below.refl _ _).alloc (Nat.le_refl _) _)
      have r1 : Rv W2 Ap (ps.map tv) := (HPS.out.rv.below B1.out).below b2
      have hl : (ps.map tv).length = j := by rw [List.length_map, HNN.out]
      have hcc := concat_any (w1.heap.size + 1) Ap (some ⟨w1.heap.size, 0, none⟩) cp 1 (ps.map tv) [.slice (some ⟨g, 0, none⟩) M M] W2 (by rw [hl]; exact bk_cell hh 0) (bk_cell hh 1) r1 r2 HNA.out (fun h => by cases h) HPS.out.none_ (fun h => by cases h)
        (fun u hu => by obtain ⟨p, _, rfl⟩ := List.mem_map.mp hu; rfl) (fun u hu => by rw [List.mem_singleton.mp hu]; rfl) (by rw [hl]; have := HPL.out; omega) rfl
      rw [← hW2]
      refine hcc.mono ?_
      rintro e w3 ⟨v', rfl, hov, hb3⟩
      obtain ⟨b, c', rfl, hbase, hcell⟩ := hov.open_ (by simp)
      have hl2 : (ps.map tv ++ [Value.slice (some ⟨g, 0, none⟩) M M]).length = j + 1 := by rw [List.length_append, hl]; rfl
      rw [hl2]
      have b3 : Below w.heap.size w w3 := B1.out.trans ((b2.trans (hb3.mono b2.size)).mono B1.out.size)
      have hno : ∀ a, w.heap.size ≤ a → ¬ own a := fun a ha ho => by have := HOW.out a ho; omega
      have hfin : Ps own w3 (some ⟨b, 0, none⟩) (ps ++ [padP g (cat ps).length]) := fun i A l c hi => by
        have hlt : i < j + 1 := by
          have := (List.getElem?_eq_some_iff.1 hi).1
          rw [List.length_append, ← HNN.out] at this; exact this
        have hwb : w.heap.size ≤ b := Nat.le_trans (Nat.le_trans B1.out.size b2.size) hbase
        refine ⟨⟨b, 0, rfl, hno _ hwb, ?_⟩, ?_⟩
        · rw [Nat.zero_add]
          apply hcell
          by_cases e : i < j
          · rw [List.getElem?_append_left (by rw [hl]; exact e), List.getElem?_map]
            rw [List.getElem?_append_left (by rw [← HNN.out]; exact e)] at hi
            rw [hi]; rfl
          · obtain rfl : i = j := by omega
            rw [List.getElem?_append_right (by rw [hl]; exact Nat.le_refl _), hl, Nat.sub_self]
            rw [List.getElem?_append_right (by rw [← HNN.out]; exact Nat.le_refl _), ← HNN.out, Nat.sub_self] at hi
            have hi : padP g (cat ps).length = (A, l, c) := by simpa using hi
            unfold padP at hi
            rw [← HNZ.out, ← HMM.out] at hi
            injection hi with e1 hi
            injection hi with e2 e3
            subst e1; subst e2; subst e3
            rw [← HMM.out]; rfl
        · by_cases e : i < j
          · rw [List.getElem?_append_left (by rw [← HNN.out]; exact e)] at hi
            obtain ⟨-, h4, h5, h6, h7⟩ := HPS.out i A l c hi
            exact ⟨h4.below b3, h5, h6, h7⟩
          · obtain rfl : i = j := by omega
            rw [List.getElem?_append_right (by rw [← HNN.out]; exact Nat.le_refl _), ← HNN.out, Nat.sub_self] at hi
            have hi : padP g (cat ps).length = (A, l, c) := by simpa using hi
            unfold padP at hi
            rw [← HNZ.out] at hi
            injection hi with e1 hi
            injection hi with e2 e3
            subst e1; subst e2; subst e3
            refine ⟨Bk.whole ((K1.out.below b2 K1.out.lt).below hb3 (Nat.lt_of_lt_of_le K1.out.lt b2.size)), (fun h => by cases h), Nat.le_refl _, .inr fun a ha => ?_⟩
            injection ha with ha
            rw [← ha]
            exact hno _ HG.out
      have HF := Lib.hid hfin; have B3 := Lib.hid b3
      clear hfin b3 hno hl2 hcell hbase hb3 hcc hl r1 r2 hh b2 hov
      go_wp2_with fail
      go_ret
      exact ⟨_, _, g, rfl, HF.out, B3.out⟩

end Go.Proofs.YtiamggjebaabkaaGreatDoor

namespace Go.Proofs.YtiamggjebaabkaaGreatDoor
open Go.RowKit Go.WideShapes Go.ChangeShapes
set_option linter.unusedVariables false

theorem wds_sch (l : List UInt8) : wds l 16 = sch l 16 := by
  refine List.ext_getElem? fun i => ?_
  by_cases h : i < 16
  · rw [sch_at l h]
    unfold snx wds
    rw [if_pos h]
    simp [h]
  · rw [List.getElem?_eq_none (by rw [wds_len]; omega), List.getElem?_eq_none (by rw [sch_len]; omega)]
theorem sch_set (l : List UInt8) {t : Nat} (h : t < 80) : (sch l t ++ List.replicate (80 - t) 0).set t (snx l t (sch l t)) = sch l (t + 1) ++ List.replicate (80 - (t + 1)) 0 := by
  rw [List.set_append_right _ _ (by rw [sch_len]; exact Nat.le_refl _), sch_len, Nat.sub_self, show 80 - t = (80 - (t + 1)) + 1 by omega, List.replicate_succ, List.set_cons_zero]
  show _ = (sch l t ++ [snx l t (sch l t)]) ++ _
  rw [List.append_assoc]; rfl
/-- All words of a block. -/
def schv (l : List UInt8) : Array Value := (cz .u32 ((sch l 80).map u)).toArray
/-- Eighty zeros. -/
def zv80 : Array Value := (cz .u32 ((List.replicate 80 (0 : BitVec 32)).map u)).toArray
theorem zero80 : ∀ w : World, (zeroValue 198).run Tryz.prog w = .ok (.agg zv80) w := fun w => by kernel_rfl
theorem wsize80 : (Tryz.prog.info? 198).map (·.size) = some 80 := by kernel_rfl
theorem wund80 : Tryz.prog.underlying 198 = some (.array 80 35) := by kernel_rfl
theorem schv_size (l : List UInt8) : (schv l).size = 80 := by unfold schv; rw [List.size_toArray, cz_len, List.length_map, sch_len]
theorem schv_all (l : List UInt8) : (schv l).all (·.oneCell') = true := by
  unfold schv
  simp only [List.all_toArray, List.all_eq_true]
  intro v hv
  unfold cz at hv
  obtain ⟨z, _, rfl⟩ := List.mem_map.mp hv
  rfl

set_option maxRecDepth 100000 in
set_option maxHeartbeats 2000000 in
theorem sext_any (l : List UInt8) (hl : l.length = 64) (w : World) :
    Calls Tryz.prog 126 #[.agg (bc l).toArray] w fun e w' => e = .returned (.agg (schv l)) ∧ Below w.heap.size w w' := by
  obtain ⟨V, hV⟩ : ∃ V, V = schv l := ⟨_, rfl⟩
  rw [← hV]
  have HI := Lib.hid (show (Tryz.prog.info? 198).map (·.size) = some V.size by rw [hV, wsize80, schv_size])
  have HO := Lib.hid (show zv80.size = V.size by rw [hV, schv_size]; unfold zv80; rw [List.size_toArray, cz_len, List.length_map, List.length_replicate])
  have HA := Lib.hid (show V.all (·.oneCell') = true by rw [hV]; exact schv_all l)
  have HV := Lib.hid hV
  clear hV
  obtain ⟨W0, hW0⟩ : ∃ W0, W0 = ((w.alloc (.cells (bc l).toArray 159)).alloc (.cells zv80 198)).alloc (.cells zv80 198) := ⟨_, rfl⟩
  have b0 : Below w.heap.size w W0 := by rw [hW0]; exact (((Below.refl _ w).alloc (Nat.le_refl _) _).alloc (by simp) _).alloc (by simp; omega) _
  have z2 : Wb 198 W0 (w.heap.size + 1 + 1) (List.replicate 80 0) := by
    rw [hW0]
    have := heap_alloc_new ((w.alloc (.cells (bc l).toArray 159)).alloc (.cells zv80 198)) (.cells zv80 198)
    rw [World.size_alloc, World.size_alloc] at this
    exact this
  have z1 : Wb 198 W0 (w.heap.size + 1) (List.replicate 80 0) := by
    rw [hW0]
    have := heap_alloc_new (w.alloc (.cells (bc l).toArray 159)) (.cells zv80 198)
    rw [World.size_alloc] at this
    have k : Wb 198 ((w.alloc (.cells (bc l).toArray 159)).alloc (.cells zv80 198)) (w.heap.size + 1) (List.replicate 80 0) := this
    exact k.below ((Below.refl _ _).alloc (Nat.le_refl _) _) k.lt
  have z0 : Bt 159 W0 w.heap.size l := by
    rw [hW0]
    have k : Bt 159 (w.alloc (.cells (bc l).toArray 159)) w.heap.size l := heap_alloc_new w _
    exact k.below ((((Below.refl _ _).alloc (Nat.le_refl _) _).alloc (by simp) _)) (by simp)
  have HS := Lib.hid (show w.heap.size + 1 + 1 < W0.heap.size from z2.lt)
  have Z1 := Lib.hid z1
  have B0 := Lib.hid b0
  have HR := Lib.hid (fun W (hb : Below W0.heap.size W0 W) => read_any 198 (w.heap.size + 1 + 1) 16 80 (List.replicate 80 0) (some ⟨w.heap.size, 0, none⟩) l 64 W (z2.below hb z2.lt) (by decide) (z0.reads.below hb) (fun h => by cases h) (by omega) (by omega) (by omega))
  rw [hl, wds_sch, show List.drop 16 (List.replicate 80 (0 : BitVec 32)) = List.replicate (80 - 16) 0 by rfl] at HR
  clear z0 z1 z2 b0
  have hz := zero80
  go_enter Tryz.func126, Tryz.ntmps126
  go_upto_region 2 with fail
  rw [← hW0]; clear hW0 hz
  refine wp_region_still_tail 2 (by kernel_rfl) (by kernel_rfl) ?_
  simp only [List.take_succ_cons, List.take_zero, List.drop_succ_cons, List.drop_zero]
  show wpStill _ _ W0.drew (fun a' => wpList _ _ _ _ a' W0.drew) _ _
  still_step
  still_step
  refine wpStill_nil ?_
  go_wp2_with (go_at_call 159; refine (HR.out _ (Below.drew (Below.refl _ _))).mono ?_; rintro e w1 ⟨rfl, hk, hb⟩; have K1 := Lib.hid hk; have B1 := Lib.hid (Below.trans (Below.mono B0.out (Nat.le_refl _)) (Below.trans (Below.drew (Below.refl w.heap.size W0)) (Below.mono hb (by omega)))); have Z2 := Lib.hid ((Z1.out.below (Below.drew (Below.refl _ _)) (Nat.lt_trans (Nat.lt_succ_self _) HS.out)).below hb (Nat.lt_succ_self _)); clear hk hb)
  clear HR Z1 B0
  go_loopw [4] (fun i wr => ∃ t : Nat, i = .int .i64 t ∧ 16 ≤ t ∧ t ≤ 80 ∧ Hid (Wb 198 wr (w.heap.size + 1 + 1) (sch l t ++ List.replicate (80 - t) 0)) ∧ Hid (Wb 198 wr (w.heap.size + 1) (List.replicate 80 0)) ∧ Hid (Below w.heap.size w wr)) (fun i _ => 80 - (intOf i).toNat)
  case atStart => exact ⟨16, rfl, by omega, by omega, K1, Z2, B1⟩
  case round =>
    clear K1 Z2 B1
    obtain ⟨t, rfl, t0, ht, K, Z, B⟩ := hrel
    by_cases hlt : t < 80
    · have at_ : ∀ i, i < t → wr.cell? ⟨w.heap.size + 1 + 1, i, none⟩ = some (.int .u32 (u (snx l i (sch l i)))) := fun i hi => K.out.cell (by rw [List.getElem?_append_left (by rw [sch_len]; exact hi)]; exact sch_at l hi)
      have k3 := at_ (t - 3) (by omega)
      have k8 := at_ (t - 8) (by omega)
      have k14 := at_ (t - 14) (by omega)
      have k16 := at_ (t - 16) (by omega)
      clear at_
      have kt : wr.cell? ⟨w.heap.size + 1 + 1, t, none⟩ = some (.int .u32 (u 0)) := K.out.cell (by rw [List.getElem?_append_right (by rw [sch_len]; exact Nat.le_refl _), sch_len, Nat.sub_self, List.getElem?_replicate, if_pos (by omega)])
      go_upto_region 6 with fail
      have E : Hid (snx l t (sch l t) = rot (snx l (t - 3) (sch l (t - 3)) ^^^ snx l (t - 8) (sch l (t - 8)) ^^^ snx l (t - 14) (sch l (t - 14)) ^^^ snx l (t - 16) (sch l (t - 16))) 1) := Lib.hid (by
        conv => lhs; unfold snx
        rw [if_neg (by omega), sch_get l (show t - 3 < t by omega), sch_get l (show t - 8 < t by omega), sch_get l (show t - 14 < t by omega), sch_get l (show t - 16 < t by omega)])
      generalize snx l (t - 3) (sch l (t - 3)) = x3 at *
      generalize snx l (t - 8) (sch l (t - 8)) = x8 at *
      generalize snx l (t - 14) (sch l (t - 14)) = x14 at *
      generalize snx l (t - 16) (sch l (t - 16)) = x16 at *
      have q3 : IntKind.i64.wrap ((t : Int) - 3) = ((t - 3 : Nat) : Int) := by rw [IntWalk.i64_in _ (by omega)]; omega
      have q8 : IntKind.i64.wrap ((t : Int) - 8) = ((t - 8 : Nat) : Int) := by rw [IntWalk.i64_in _ (by omega)]; omega
      have q14 : IntKind.i64.wrap ((t : Int) - 14) = ((t - 14 : Nat) : Int) := by rw [IntWalk.i64_in _ (by omega)]; omega
      have q16 : IntKind.i64.wrap ((t : Int) - 16) = ((t - 16 : Nat) : Int) := by rw [IntWalk.i64_in _ (by omega)]; omega
      obtain ⟨l3, l8, l14, l16, lt⟩ : ((t - 3 : Nat) : Int) < 80 ∧ ((t - 8 : Nat) : Int) < 80 ∧ ((t - 14 : Nat) : Int) < 80 ∧ ((t - 16 : Nat) : Int) < 80 ∧ (t : Int) < 80 := by omega
      generalize t - 3 = i3 at *
      generalize t - 8 = i8 at *
      generalize t - 14 = i14 at *
      generalize t - 16 = i16 at *
      have rx := fun x y => u_xor x y
      refine wp_region_still_tail 22 (by kernel_rfl) (by kernel_rfl) ?_
      simp only [List.take_succ_cons, List.take_zero, List.drop_succ_cons, List.drop_zero]
      show wpStill _ _ wr.drew (fun a' => wpList _ _ _ _ a' wr.drew) _ _
      obtain ⟨w3, hw3⟩ : ∃ w3, w3 = wr.drew := ⟨_, rfl⟩
      have B3 : Hid (Below w.heap.size w w3) := Lib.hid (by rw [hw3]; exact B.out.drew)
      have K3 : Hid (Wb 198 w3 (w.heap.size + 1 + 1) (sch l t ++ List.replicate (80 - t) 0)) := Lib.hid (by rw [hw3]; exact K.out)
      have Z3 : Hid (Wb 198 w3 (w.heap.size + 1) (List.replicate 80 0)) := Lib.hid (by rw [hw3]; exact Z.out)
      have e3 : w3.cell? ⟨w.heap.size + 1 + 1, i3, none⟩ = some (.int .u32 (u x3)) := by rw [hw3]; exact k3
      have e8 : w3.cell? ⟨w.heap.size + 1 + 1, i8, none⟩ = some (.int .u32 (u x8)) := by rw [hw3]; exact k8
      have e14 : w3.cell? ⟨w.heap.size + 1 + 1, i14, none⟩ = some (.int .u32 (u x14)) := by rw [hw3]; exact k14
      have e16 : w3.cell? ⟨w.heap.size + 1 + 1, i16, none⟩ = some (.int .u32 (u x16)) := by rw [hw3]; exact k16
      have et : w3.cell? ⟨w.heap.size + 1 + 1, t, none⟩ = some (.int .u32 (u 0)) := by rw [hw3]; exact kt
      have ft : w3.frozen? ⟨w.heap.size + 1 + 1, t, none⟩ = false := K3.out.free t
      rw [← hw3]
      clear hw3 k3 k8 k14 k16 kt K Z B
      repeat still_step
      still_call ((rotl1_any _ _).mono fun _ _ h => ⟨h.1, h.2.symm⟩)
      repeat still_step
      refine wpStill_nil ?_
      obtain ⟨w4, hw4⟩ : ∃ w4, w4 = w3.setCell ⟨w.heap.size + 1 + 1, t, none⟩ (.int .u32 (u (rot (x3 ^^^ x8 ^^^ x14 ^^^ x16) 1))) := ⟨_, rfl⟩
      have k4 := K3.out.set t (rot (x3 ^^^ x8 ^^^ x14 ^^^ x16) 1)
      rw [← hw4, ← E.out, sch_set l hlt] at k4
      have z4 : Wb 198 w4 (w.heap.size + 1) (List.replicate 80 0) := by
        rw [hw4]
        exact (heap_setCell_other w3 _ _ _ (by show w.heap.size + 1 ≠ w.heap.size + 1 + 1; omega)).trans Z3.out
      have b4 : Below w.heap.size w w4 := by rw [hw4]; exact B3.out.setCell (by show w.heap.size ≤ w.heap.size + 1 + 1; omega) _
      have K4 := Lib.hid k4; have Z4 := Lib.hid z4; have B4 := Lib.hid b4; have HW4 := Lib.hid hw4
      clear k4 z4 b4 hw4 K3 Z3 B3 E e3 e8 e14 e16 q3 q8 q14 q16 l3 l8 l14 l16 rx
      go_wp2_with fail
      rw [← HW4.out]
      refine ⟨?_, by simp [intOf]; omega⟩
      first
        | exact ⟨t + 1, by go_num, by omega, by omega, K4, Z4, B4⟩
        | ((repeat apply Exists.intro); exact (0 : Nat))
    · obtain rfl : t = 80 := by omega
      clear hlt t0 ht
      have k : wr.heap[w.heap.size + 1 + 1]? = some (.cells V 198 (0, 0)) := by rw [HV.out]; have := K.out; rw [Nat.sub_self, List.replicate_zero, List.append_nil] at this; exact this
      have z : wr.heap[w.heap.size + 1]? = some (.cells zv80 198 (0, 0)) := by unfold zv80; exact Z.out
      have KK := Lib.hid k; have ZZ := Lib.hid z
      clear k K z Z
      go_wp2_with (first
        | (refine wpList_load_row rfl 198 (.tmp 3) rfl (w.heap.size + 1 + 1) rfl 198 V (0, 0) _ KK.out wund80 rfl HI.out ?_)
        | (refine wpList_store_row rfl 198 (.tmp 2) (.tmp 34) rfl (w.heap.size + 1) V rfl rfl 198 zv80 ZZ.out HI.out HO.out HA.out ?_))
      refine bodyPost_ret (results_cell_row rfl _ _ (w.heap.size + 1) 198 V (0, 0) _ rfl (setRow_heap wr (w.heap.size + 1) _ _ _ _ ZZ.out) wund80 rfl HI.out) rfl ⟨rfl, ?_⟩
      exact below_setRow B.out (Nat.le_succ _) _

end Go.Proofs.YtiamggjebaabkaaGreatDoor
