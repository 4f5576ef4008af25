/- Merged: ShaO, ShaQ. -/
import Derived.Test.YtdonicaiimeleaaGreatDoorGListParses37
import Derived.Shelf.Abstract
import Derived.Shelf.RegionOpen
import Derived.WalkKit
import Derived.OwnWalkIn
import Derived.TacticsInMore
import Derived.LoopNIn
import Derived.LoopIn
namespace Go.Proofs.YtdonicaiimeleaaGreatDoor
open Go.RowKit Go.Shelf Go.WideShapes Go.ChangeShapes
attribute [local go_sem] Oper.semAt_some
set_option linter.unusedVariables false

/-- Sixty-four zeros. -/
def zv64 : Array Value := (bc (List.replicate 64 0)).toArray
theorem zero64 : ∀ w : World, (zeroValue 178).run Tryz.prog w = .ok (.agg zv64) w := fun w => by kernel_rfl
theorem bund9 : Tryz.prog.underlying 178 = some (.array 64 5) := by kernel_rfl
theorem bsize9 : (Tryz.prog.info? 178).map (·.size) = some 64 := by kernel_rfl
theorem Ps.below {own : Nat → Prop} {W w : World} {Ap : Option Addr} {ps : List Pt} (h : Ps own W Ap ps) (hb : Below W.heap.size W w) : Ps own w Ap ps := fun j A l c hj => by
  obtain ⟨⟨b, off, h1, h2, h3⟩, h4, h5, h6, h7⟩ := h j A l c hj
  exact ⟨⟨b, off, h1, h2, (hb.cell (p := ⟨b, off + j, none⟩) (World.block_lt_of_cell? _ _ h3)).trans h3⟩, h4.below hb, h5, h6, h7⟩
/-- The end of a block's array, from f on. -/
theorem tail64 {b f : Nat} (hf : f < 64) (w : World) : (Instr.sliceAt 178 (.pointer (some ⟨b, 0, none⟩)) (some (.int .i64 (f : Int))) none none).run Tryz.prog w = .ok (.slice (some ⟨b, f, none⟩) (64 - f) (64 - f)) w := by
  have ha : Tryz.prog.arrayLen 178 = 64 := by kernel_rfl
  have he : Tryz.prog.elem 178 = 5 := by kernel_rfl
  have hs : ∀ w : World, (sizeOf 5).run Tryz.prog w = .ok 1 w := fun w => by kernel_rfl
  rw [run_sliceAt_array_l w 178 ⟨b, 0, none⟩ (by rw [ha, he]; exact bund9) .i64 (f : Int) (by omega) (by rw [ha]; omega), ha, he, hs]
  have h1 : ¬ 64 = f := by omega
  simp [Result.andThen, slicedAt, h1, add_plain]

set_option maxRecDepth 100000 in
set_option maxHeartbeats 4000000 in
theorem blocks_gives (n : Nat) (hn : 1 ≤ n) (own : Nat → Prop) (Bx : Nat) (Ap : Option Addr) (cp : Nat) (ps : List Pt) (T : List UInt8) (K : Nat) (hT : T = cat ps) (hK : T.length = 64 * K) (hTl : T.length ≤ 200000) (hpl : ps.length ≤ 1000) (w : World)
    (hbx : w.cell? ⟨Bx, 0, none⟩ = some (.slice Ap ps.length cp)) (hps : Ps own w Ap ps) (how : ∀ j, own j → j < w.heap.size) :
    Gives Fence.wide n Tryz.prog 137 #[.pointer (some ⟨Bx, 0, none⟩)] (fun x : List UInt8 => #[.agg (bc x).toArray]) own (blks T K) w := fun l J W hW hJ hY h0 => by
  have c1 := (hW.cell (p := ⟨Bx, 0, none⟩) (World.block_lt_of_cell? _ _ hbx)).trans hbx
  have HPS := Lib.hid (hps.below hW)
  have key : ∀ k wr, k < K → J k wr → Hid (YieldAt Fence.wide (n - 1) Tryz.prog l #[.agg (bc (blk9 T k)).toArray] wr fun e B => e = .returned (.bool true) ∧ J (k + 1) B ∧ Keeps own wr B ∧ wr.heap.size ≤ B.heap.size) :=
    fun k wr hk hj => Lib.hid (hY k (blk9 T k) wr hj (blks_at hk))
  have HJ := Lib.hid hJ; have KEY := Lib.hid key; have HK := Lib.hid hK; have HT := Lib.hid hT; have HTL := Lib.hid hTl; have HPL := Lib.hid hpl
  have HOW := Lib.hid (show ¬ own W.heap.size from fun h => by have := how _ h; have := hW.size; omega)
  rw [blks_len]
  clear hY hJ key hK hT hTl hbx hps hW how
  have B1 := Lib.hid ((Below.refl W.heap.size W).alloc (Nat.le_refl _) (.cells zv64 178))
  have Z1 : Hid (Bt 178 (W.alloc (.cells zv64 178)) W.heap.size (List.replicate 64 0)) := Lib.hid (heap_alloc_new W _)
  have J1 := Lib.hid (HJ.out 0 W _ h0 B1.out)
  have c1' : (W.alloc (.cells zv64 178)).cell? ⟨Bx, 0, none⟩ = some (.slice Ap ps.length cp) := (B1.out.cell (p := ⟨Bx, 0, none⟩) (World.block_lt_of_cell? _ _ c1)).trans c1
  have hz := zero64
  clear c1 h0
  refine callsIn_of_wp Tryz.func137 rfl trivial ?_ rfl
  simp only [Tryz.ntmps137, List.size_toArray, List.length_cons, List.length_nil, Nat.reduceAdd, Nat.reduceSub, Array.replicate_succ, Array.replicate_zero, List.push_toArray, List.append_toArray, List.nil_append, List.cons_append]
  gi_wp2
  have KB1 : Hid (KB own W (W.alloc (.cells zv64 178))) := Lib.hid ((KB.refl own W).below B1.out)
  have SZ1 : Hid (W.heap.size < (W.alloc (.cells zv64 178)).heap.size) := Lib.hid (by simp)
  clear hz c1' B1
  generalize W.alloc (.cells zv64 178) = W1 at *
  gi_loopw [4, 10] (fun f i wr => ∃ (j k f' : Nat) (Z : List UInt8), f = .int .i64 f' ∧ i = .int .i64 j ∧ j ≤ ps.length ∧ f' < 64 ∧ Hid (64 * k + f' ≤ T.length) ∧ Hid (T.drop (64 * k + f') = cat (ps.drop j)) ∧
    Hid (Bt 178 wr W.heap.size Z) ∧ Hid (Z.length = 64 ∧ Z.take f' = (T.drop (64 * k)).take f') ∧ Hid (J k wr) ∧ Hid (KB own W wr)) (fun _ i _ => ps.length - (intOf i).toNat)
  case atStart => exact ⟨0, 0, 0, _, rfl, rfl, Nat.zero_le _, by omega, Lib.hid (Nat.zero_le _), Lib.hid (by rw [HT.out]; rfl), Z1, Lib.hid ⟨by simp, by simp⟩, J1, KB1⟩
  case round =>
    clear Z1 J1 KB1 SZ1
    obtain ⟨j, k, f', Z, rfl, rfl, hj, hf, HM, HD, HZ, HZL, HJ1, HKB⟩ := hrel
    by_cases hlt : j < ps.length
    · obtain ⟨⟨A, r, c⟩, hp⟩ : ∃ p, ps[j]? = some p := ⟨_, List.getElem?_eq_getElem hlt⟩
      obtain ⟨⟨b, off, rfl, hb2, hc3⟩, hrd, hnil, hle, hno⟩ := HPS.out j A r c hp
      have cj := HKB.out.cell (p := ⟨b, off + j, none⟩) (show ¬ own b from hb2) hc3
      have hd2 : cat (ps.drop j) = r ++ cat (ps.drop (j + 1)) := by
        rw [List.drop_eq_getElem_cons hlt]
        have e : ps[j] = (A, r, c) := (List.getElem?_eq_some_iff.1 hp).2
        rw [e]; rfl
      have HD2 := Lib.hid (HD.out.trans hd2)
      have HRD := Lib.hid hrd; have HNIL := Lib.hid hnil; have HLE := Lib.hid hle; have HNO := Lib.hid hno
      clear hp hb2 hc3 hrd hnil hle hno hd2 HD
      gi_wp2
      gi_loopw [4, 6] (fun f p wr => ∃ (k f' : Nat) (Z : List UInt8) (A : Option Addr) (r : List UInt8) (c : Nat), f = .int .i64 f' ∧ p = .slice A r.length c ∧ f' < 64 ∧ Hid (64 * k + f' ≤ T.length) ∧ Hid (T.drop (64 * k + f') = r ++ cat (ps.drop (j + 1))) ∧
        Hid (Bt 178 wr W.heap.size Z) ∧ Hid (Z.length = 64 ∧ Z.take f' = (T.drop (64 * k)).take f') ∧ Hid (J k wr) ∧ Hid (KB own W wr) ∧ Hid (Rb W A r) ∧ Hid (A = none → c = 0) ∧ Hid (r.length ≤ c) ∧ Hid (NO own A r)) (fun _ p _ => lenOf9 p)
      case atStart => exact ⟨k, f', Z, A, r, c, rfl, rfl, hf, HM, HD2, HZ, HZL, HJ1, HKB, HRD, HNIL, HLE, HNO⟩
      case round =>
        clear HM HD2 HZ HZL HJ1 HKB HRD HNIL HLE HNO hf cj
        obtain ⟨k, f', Z, A, r, c, rfl, rfl, hf, HM, HD, HZ, HZL, HJ1, HKB, HRD, HNIL, HLE, HNO⟩ := hrel
        by_cases h0 : 0 < r.length
        · obtain ⟨t, ht⟩ : ∃ t, t = Nat.min (64 - f') r.length := ⟨_, rfl⟩
          have ht1 : 0 < t ∧ f' + t ≤ 64 ∧ t ≤ r.length ∧ t ≤ 64 - f' := by
            have : Nat.min (64 - f') r.length = min (64 - f') r.length := rfl
            omega
          obtain ⟨ht1, hft, ht2, ht3⟩ := ht1
          have hLt : (r.take t).length = t := by rw [List.length_take]; omega
          have hmn : (r.take t).length = Nat.min r.length (64 - f') := by rw [hLt, ht]; exact Nat.min_comm _ _
          have hrt : Rb W A (r.take t) := Rb.take_ HRD.out t
          obtain ⟨A2, c2, hrest, hrd2, hnil2, hle2, hno2⟩ := rest_of HRD.out HNO.out HNIL.out HLE.out ht2
          obtain ⟨z1, z2, z3⟩ := fills9 HZL.out.1 hft ht2 HZL.out.2 HD.out
          have hml : (r.drop t).length < r.length := by rw [List.length_drop]; omega
          have hmt : 64 * k + (f' + t) ≤ T.length := by
            have h1 : (T.drop (64 * k + f')).length = (r ++ cat (ps.drop (j + 1))).length := by rw [HD.out]
            rw [List.length_drop, List.length_append] at h1
            omega
          have hsl := fun w => tail64 (b := W.heap.size) hf w
          have hfit : f' + (r.take t).length ≤ Z.length := by rw [hLt, HZL.out.1]; exact hft
          obtain ⟨d, hd⟩ : ∃ d, d = 64 - f' := ⟨_, rfl⟩
          rw [← hd] at hsl hmn
          obtain ⟨Z4, hZ4⟩ : ∃ Z4, Z4 = splice Z f' (r.take t) := ⟨_, rfl⟩
          rw [← hZ4] at z1 z2
          have K4 : Hid (Bt 178 (wr.setRow W.heap.size (bc Z4).toArray) W.heap.size Z4) := Lib.hid (Bt.set HZ.out Z4)
          have b4 : Below W.heap.size wr (wr.setRow W.heap.size (bc Z4).toArray) := below_setRow (Below.refl _ wr) (Nat.le_refl _) _
          have J4 := Lib.hid (HJ.out k _ _ HJ1.out b4)
          have KB4 := Lib.hid (HKB.out.below b4)
          have HRT := Lib.hid (hrt.kb (HNO.out.take t) HKB.out)
          have HLT := Lib.hid hLt; have HMN := Lib.hid hmn; have HFIT := Lib.hid hfit; have HZ4 := Lib.hid hZ4; have HML := Lib.hid hml; have HMT := Lib.hid hmt
          have HZZ := Lib.hid (And.intro z1 z2); have HD3 := Lib.hid z3; have HRD2 := Lib.hid hrd2; have HNIL2 := Lib.hid hnil2; have HLE2 := Lib.hid hle2; have HNO2 := Lib.hid hno2
          clear ht hLt hmn hrt hrd2 hnil2 hle2 hno2 z1 z2 z3 hml hmt hfit hd hZ4 b4 ht3
          generalize r.take t = L at *
          generalize r.drop t = r2 at *
          by_cases hfull : f' + t = 64
          · have hfi : (f' : Int) + (t : Int) = 64 := by omega
            have hkK : k < K := by have := HMT.out; have := HK.out; omega
            have hz4 : blk9 T k = Z4 := by
              have h1 := HZZ.out.2
              rw [hfull, List.take_of_length_le (Nat.le_of_eq HZZ.out.1)] at h1
              exact h1.symm
            obtain ⟨fn, tmps, assign, body, hy, hR⟩ := (KEY.out k _ hkK J4.out).out
            rw [hz4] at hy
            have HI := Lib.hid (show (Tryz.prog.info? 178).map (·.size) = some (bc Z4).toArray.size by rw [bsize9, List.size_toArray, bc_len, HZZ.out.1])
            have HD4 := Lib.hid (show T.drop (64 * (k + 1) + 0) = r2 ++ cat (ps.drop (j + 1)) by rw [← HD3.out, hfull, show 64 * (k + 1) + 0 = 64 * k + 64 by omega])
            have HM4 := Lib.hid (show 64 * (k + 1) + 0 ≤ T.length by have := HMT.out; omega)
            clear hz4
            gi_wp2_with (first
              | (refine copy_in (.tmp 18) (.tmp 19) 178 W.heap.size f' d d r.length c t Z A L HLT.out HZ.out HRT.out (by rw [HLT.out]; exact ht1) HMN.out HFIT.out rfl rfl rfl rfl ?_; rw [← HZ4.out])
              | (refine load_in rfl 178 (.tmp 3) rfl W.heap.size rfl 178 (bc Z4).toArray (0, 0) _ _ K4.out bund9 HI.out ?_))
            refine hR.mono ?_
            rintro e W3 ⟨rfl, hJ3, hK3, hS3⟩
            have K5 : Hid (Bt 178 W3 W.heap.size Z4) := Lib.hid (hK3 _ _ HOW.out K4.out rfl)
            have KB5 := Lib.hid (KB4.out.keeps hK3)
            have J5 := Lib.hid hJ3
            clear hJ3 hK3 hS3
            gi_wp2
            exact ⟨⟨k + 1, 0, Z4, A2, r2, c2, by go_num, rfl, by omega, HM4, HD4, K5, Lib.hid ⟨HZZ.out.1, by simp⟩, J5, KB5, HRD2, HNIL2, HLE2, HNO2⟩, HML.out⟩
          · have hfi : (f' : Int) + (t : Int) ≠ 64 := by omega
            gi_wp2_with (refine copy_in (.tmp 18) (.tmp 19) 178 W.heap.size f' d d r.length c t Z A L HLT.out HZ.out HRT.out (by rw [HLT.out]; exact ht1) HMN.out HFIT.out rfl rfl rfl rfl ?_; rw [← HZ4.out])
            exact ⟨⟨k, f' + t, Z4, A2, r2, c2, by go_num, rfl, by omega, HMT, HD3, K4, HZZ, J4, KB4, HRD2, HNIL2, HLE2, HNO2⟩, HML.out⟩
        · have hr0 : r = [] := List.eq_nil_of_length_eq_zero (by omega)
          subst hr0
          gi_wp2
          exact ⟨⟨j + 1, k, f', Z, rfl, by go_num, by omega, hf, HM, HD, HZ, HZL, HJ1, HKB⟩, by simp [intOf]; omega⟩
    · obtain rfl : j = ps.length := by omega
      have e : 64 * k + f' = 64 * K := by
        have h1 : (T.drop (64 * k + f')).length = 0 := by rw [HD.out, List.drop_length]; rfl
        rw [List.length_drop] at h1
        have := HM.out
        have := HK.out
        omega
      obtain rfl : k = K := by omega
      gi_wp2
      go_end0
      exact ⟨⟨_, rfl⟩, HJ1.out⟩

end Go.Proofs.YtdonicaiimeleaaGreatDoor

namespace Go.Proofs.YtdonicaiimeleaaGreatDoor
open Go.RowKit Go.WideShapes Go.ChangeShapes
set_option linter.unusedVariables false

/-- A part as a value. -/
def tv (p : Pt) : Value := .slice p.1 p.2.1.length p.2.2
theorem cat_take (ps : List Pt) {j : Nat} {A : Option Addr} {l : List UInt8} {c : Nat} (h : ps[j]? = some (A, l, c)) : (cat (ps.take (j + 1))).length = (cat (ps.take j)).length + l.length := by
  rw [List.take_add_one, h]
  unfold cat
  rw [List.flatMap_append, List.length_append]
  simp
theorem cat_take_le (ps : List Pt) (j : Nat) : (cat (ps.take j)).length ≤ (cat ps).length := by
  have h : cat ps = cat (ps.take j) ++ cat (ps.drop j) := by
    unfold cat
    rw [← List.flatMap_append, List.take_append_drop]
  rw [h, List.length_append]; omega
/-- The padding as a part. -/
def padP (g N : Nat) : Pt := (some ⟨g, 0, none⟩, padT N, (padT N).length)

theorem Ps.rv {own : Nat → Prop} {w : World} {Ap : Option Addr} {ps : List Pt} (h : Ps own w Ap ps) : Rv w Ap (ps.map tv) := by
  cases ps with
  | nil => exact .inl rfl
  | cons p0 ps =>
    obtain ⟨⟨b, off, h1, -, h3⟩, -⟩ := h 0 p0.1 p0.2.1 p0.2.2 rfl
    refine .inr ⟨b, off, h1, World.block_lt_of_cell? _ _ h3, fun j v hj => ?_⟩
    rw [List.getElem?_map] at hj
    cases e : (p0 :: ps)[j]? with
    | none => rw [e] at hj; cases hj
    | some p =>
      rw [e] at hj
      obtain rfl : tv p = v := by simpa using hj
      obtain ⟨⟨b', off', h1', -, h3'⟩, -⟩ := h j p.1 p.2.1 p.2.2 e
      rw [h1] at h1'
      injection h1' with h1'
      injection h1' with e1 e2
      subst e1; subst e2
      exact h3'
theorem Ps.none_ {own : Nat → Prop} {w : World} {Ap : Option Addr} {ps : List Pt} (h : Ps own w Ap ps) (hn : Ap = none) : ps.map tv = [] := by
  cases ps with
  | nil => rfl
  | cons p0 ps =>
    obtain ⟨⟨b, off, h1, -, -⟩, -⟩ := h 0 p0.1 p0.2.1 p0.2.2 rfl
    rw [hn] at h1; cases h1
theorem Ov.open_ {w : World} {base : Nat} {v : Value} {vs : List Value} (h : Ov w base v vs) (h0 : 0 < vs.length) : ∃ b c, v = .slice (some ⟨b, 0, none⟩) vs.length c ∧ base ≤ b ∧ ∀ i u, vs[i]? = some u → w.cell? ⟨b, i, none⟩ = some u := by
  rcases h.2 with ⟨hv, hn⟩ | ⟨g, cap, cur, hv, hb, hh, hc, hm, _, _⟩
  · omega
  · refine ⟨g, cap, hv, hb, fun i u hu => ?_⟩
    have := World.ownsRow.cells h (g := g) (by rw [hv]; rfl) i u hu
    rw [add_plain, Nat.zero_add] at this
    exact this

set_option maxRecDepth 100000 in
set_option maxHeartbeats 2000000 in
theorem padded_any (own : Nat → Prop) (Ap : Option Addr) (cp : Nat) (ps : List Pt) (w : World) (hps : Ps own w Ap ps) (hn : Ap = none → cp = 0) (hpl : ps.length ≤ 100) (hT : (cat ps).length ≤ 10000) (how : ∀ j, own j → j < w.heap.size) :
    Calls Tryz.prog 108 #[.slice Ap ps.length cp] w fun e w' => ∃ A' c' g, e = .returned (.slice A' (ps.length + 1) c') ∧ Ps own w' A' (ps ++ [padP g (cat ps).length]) ∧ Below w.heap.size w w' := by
  obtain ⟨n, hnn⟩ : ∃ n, n = ps.length := ⟨_, rfl⟩
  rw [← hnn] at hpl ⊢
  have HNN := Lib.hid hnn
  have HPS := Lib.hid hps; have HNA := Lib.hid hn; have HOW := Lib.hid how; have HT := Lib.hid hT; have HPL := Lib.hid hpl
  clear hps hn how hT hnn
  go_enter Tryz.func108, Tryz.ntmps108
  go_wp2
  go_loopw [3, 8] (fun s i wr => ∃ j z : Nat, s = .int .i64 z ∧ i = .int .i64 j ∧ j ≤ n ∧ Hid (z = (cat (ps.take j)).length) ∧ w = wr) (fun _ i _ => n - (intOf i).toNat)
  case atStart => exact ⟨0, 0, rfl, rfl, Nat.zero_le _, Lib.hid rfl, rfl⟩
  case round =>
    obtain ⟨j, z, rfl, rfl, hj, HZ, rfl⟩ := hrel
    by_cases hlt : j < n
    · obtain ⟨⟨A, l, c⟩, hp⟩ : ∃ p, ps[j]? = some p := ⟨_, List.getElem?_eq_getElem (by rw [← HNN.out]; exact hlt)⟩
      obtain ⟨⟨b, off, rfl, hb2, hc3⟩, -, -, -, -⟩ := HPS.out j A l c hp
      have hz : z + l.length ≤ 10000 := by
        have h1 := cat_take ps hp
        have h2 := cat_take_le ps (j + 1)
        have := HZ.out
        have := HT.out
        omega
      have HZ1 := Lib.hid (show z + l.length = (cat (ps.take (j + 1))).length by rw [cat_take ps hp, HZ.out])
      clear hp hb2
      go_wp2
      exact ⟨⟨j + 1, z + l.length, by go_num, by go_num, by omega, HZ1, trivial⟩, by simp [intOf]; omega⟩
    · obtain rfl : j = n := by omega
      obtain ⟨N, hN⟩ : ∃ N, N = (cat ps).length := ⟨_, rfl⟩
      obtain rfl : z = N := by rw [hN, HZ.out, HNN.out, List.take_length]
      have hN2 : z ≤ 10000 := by rw [hN]; exact HT.out
      have HPD := Lib.hid (padding_any z w (by omega))
      have HNZ := Lib.hid hN
      have HM := Lib.hid (padT_len z)
      clear hlt hj HZ hN
      obtain ⟨M, hM⟩ : ∃ M, M = (padT z).length := ⟨_, rfl⟩
      rw [← hM] at HPD HM
      have HMM := Lib.hid hM
      clear hM
      go_wp2_with (go_at_call 139; refine HPD.out.mono ?_; rintro e w1 ⟨g, hg, rfl, hk, hb⟩; have HG := Lib.hid hg; have K1 := Lib.hid hk; have B1 := Lib.hid hb; clear hg hk hb)
      obtain ⟨W2, hW2⟩ : ∃ W2, W2 = (w1.alloc (.cells #[.slice (some ⟨g, 0, none⟩) M M] 84)).alloc (.cells #[.slice Ap j cp, .slice (some ⟨w1.heap.size, 0, none⟩) 1 1] 173) := ⟨_, rfl⟩
      have b2 : Below w1.heap.size w1 W2 := by rw [hW2]; exact ((Below.refl _ w1).alloc (Nat.le_refl _) _).alloc (by simp) _
      have hh : W2.heap[w1.heap.size + 1]? = some (.cells #[.slice Ap j cp, .slice (some ⟨w1.heap.size, 0, none⟩) 1 1] 173 (0, 0)) := by
        rw [hW2]
        have := heap_alloc_new (w1.alloc (.cells #[.slice (some ⟨g, 0, none⟩) M M] 84)) (.cells #[.slice Ap j cp, .slice (some ⟨w1.heap.size, 0, none⟩) 1 1] 173)
        rw [World.size_alloc] at this
        exact this
      have r2 : Rv W2 (some ⟨w1.heap.size, 0, none⟩) [.slice (some ⟨g, 0, none⟩) M M] := by
        have h1 : Rv (w1.alloc (.cells #[.slice (some ⟨g, 0, none⟩) M M] 84)) (some ⟨w1.heap.size, 0, none⟩) [.slice (some ⟨g, 0, none⟩) M M] := .inr ⟨w1.heap.size, 0, rfl, by simp, fun i v hi => by
          cases i with
          | zero =>
            obtain rfl : Value.slice (some ⟨g, 0, none⟩) M M = v := by simpa using hi
            exact bk_cell (heap_alloc_new w1 _) 0
          | succ i => simp at hi⟩
        rw [hW2]
        exact h1.below ((Below.refl _ _).alloc (Nat.le_refl _) _)
      have r1 : Rv W2 Ap (ps.map tv) := (HPS.out.rv.below B1.out).below b2
      have hl : (ps.map tv).length = j := by rw [List.length_map, HNN.out]
      have hcc := concat_any (w1.heap.size + 1) Ap (some ⟨w1.heap.size, 0, none⟩) cp 1 (ps.map tv) [.slice (some ⟨g, 0, none⟩) M M] W2 (by rw [hl]; exact bk_cell hh 0) (bk_cell hh 1) r1 r2 HNA.out (fun h => by cases h) HPS.out.none_ (fun h => by cases h)
        (fun u hu => by obtain ⟨p, _, rfl⟩ := List.mem_map.mp hu; rfl) (fun u hu => by rw [List.mem_singleton.mp hu]; rfl) (by rw [hl]; have := HPL.out; omega) rfl
      rw [← hW2]
      refine hcc.mono ?_
      rintro e w3 ⟨v', rfl, hov, hb3⟩
      obtain ⟨b, c', rfl, hbase, hcell⟩ := hov.open_ (by simp)
      have hl2 : (ps.map tv ++ [Value.slice (some ⟨g, 0, none⟩) M M]).length = j + 1 := by rw [List.length_append, hl]; rfl
      rw [hl2]
      have b3 : Below w.heap.size w w3 := B1.out.trans ((b2.trans (hb3.mono b2.size)).mono B1.out.size)
      have hno : ∀ a, w.heap.size ≤ a → ¬ own a := fun a ha ho => by have := HOW.out a ho; omega
      have hfin : Ps own w3 (some ⟨b, 0, none⟩) (ps ++ [padP g (cat ps).length]) := fun i A l c hi => by
        have hlt : i < j + 1 := by
          have := (List.getElem?_eq_some_iff.1 hi).1
          rw [List.length_append, ← HNN.out] at this; exact this
        have hwb : w.heap.size ≤ b := Nat.le_trans (Nat.le_trans B1.out.size b2.size) hbase
        refine ⟨⟨b, 0, rfl, hno _ hwb, ?_⟩, ?_⟩
        · rw [Nat.zero_add]
          apply hcell
          by_cases e : i < j
          · rw [List.getElem?_append_left (by rw [hl]; exact e), List.getElem?_map]
            rw [List.getElem?_append_left (by rw [← HNN.out]; exact e)] at hi
            rw [hi]; rfl
          · obtain rfl : i = j := by omega
            rw [List.getElem?_append_right (by rw [hl]; exact Nat.le_refl _), hl, Nat.sub_self]
            rw [List.getElem?_append_right (by rw [← HNN.out]; exact Nat.le_refl _), ← HNN.out, Nat.sub_self] at hi
            have hi : padP g (cat ps).length = (A, l, c) := by simpa using hi
            unfold padP at hi
            rw [← HNZ.out, ← HMM.out] at hi
            injection hi with e1 hi
            injection hi with e2 e3
            subst e1; subst e2; subst e3
            rw [← HMM.out]; rfl
        · by_cases e : i < j
          · rw [List.getElem?_append_left (by rw [← HNN.out]; exact e)] at hi
            obtain ⟨-, h4, h5, h6, h7⟩ := HPS.out i A l c hi
            exact ⟨h4.below b3, h5, h6, h7⟩
          · obtain rfl : i = j := by omega
            rw [List.getElem?_append_right (by rw [← HNN.out]; exact Nat.le_refl _), ← HNN.out, Nat.sub_self] at hi
            have hi : padP g (cat ps).length = (A, l, c) := by simpa using hi
            unfold padP at hi
            rw [← HNZ.out] at hi
            injection hi with e1 hi
            injection hi with e2 e3
            subst e1; subst e2; subst e3
            refine ⟨Bk.whole ((K1.out.below b2 K1.out.lt).below hb3 (Nat.lt_of_lt_of_le K1.out.lt b2.size)), (fun h => by cases h), Nat.le_refl _, .inr fun a ha => ?_⟩
            injection ha with ha
            rw [← ha]
            exact hno _ HG.out
      have HF := Lib.hid hfin; have B3 := Lib.hid b3
      clear hfin b3 hno hl2 hcell hbase hb3 hcc hl r1 r2 hh b2 hov
      go_wp2_with fail
      go_ret
      exact ⟨_, _, g, rfl, HF.out, B3.out⟩

end Go.Proofs.YtdonicaiimeleaaGreatDoor
