/- Merged: OctD, OctE, ShaR, ShaS, ShaT. -/
import Derived.Test.YtdonicaiimeleaaGreatDoorGListParses29
import Derived.LoopTactic
import Derived.Laws.BitsAllLaws
import Derived.Test.YtdonicaiimeleaaGreatDoorGListParses23
import Derived.Test.YtdonicaiimeleaaGreatDoorGListParses1
import Derived.Maps.AppendAt
import Derived.StillTailTactics
import Derived.Deep.DeepCutAuto
import Derived.Deep.CutRange
import Derived.Deep.CutBlock
import Derived.Deep.LoopGhost
import Derived.BigQuiet
namespace Go.Proofs.YtdonicaiimeleaaGreatDoor
open Go.RowKit Go.WideShapes Go.ChangeShapes
set_option linter.unusedVariables false

set_option maxRecDepth 100000 in
theorem or8 {n x : Nat} (hx : x < 256) (h : n * 256 + 255 < 18446744073709551616) : bits .or .u64 ((n : Int) * 256) (x : Int) = ((n * 256 + x : Nat) : Int) := by
  rw [show ((n : Int) * 256) = ((n * 256 : Nat) : Int) by simp, u64_or_nat _ _ (by omega) (by omega)]
  congr 1
  rw [show n * 256 = 2 ^ 8 * n by omega, ← Nat.two_pow_add_eq_or_of_lt (by omega : x < 2 ^ 8)]
set_option maxHeartbeats 800000 in
theorem join32_any (A : Option Addr) (l : List UInt8) (c : Nat) (w : World) (h : Rb w A l) (hl : l.length = 4) :
    Calls Tryz.prog 198 #[.slice A 4 c] w fun e w' => e = .returned (.int .u32 (ebv l : Nat)) ∧ w = w' := by
  obtain ⟨b, off, rfl, _, _⟩ := h.cell (i := 0) (by omega)
  have hv := ebv_lt l
  rw [hl] at hv
  have hcell : ∀ k (hk : k < l.length), w.cell? ⟨b, off + k, none⟩ = some (.int .u8 (l[k].toNat : Int)) := fun k hk => by
    obtain ⟨b', off', e, _, h3⟩ := h.cell hk
    injection e with e
    injection e with e1 e2
    subst e1; subst e2; exact h3
  have htk : ∀ k, k < 4 → ebv (l.take k) * 256 + 255 < 256 ^ 8 := fun k hk => Nat.lt_of_lt_of_le (ebv_take_lt (k := 4) hk (by omega)) (Nat.pow_le_pow_right (by decide) (by decide))
  have hall : ebv (l.take 4) = ebv l := by rw [← hl, List.take_length]
  have HV := Lib.hid hv; have HA := Lib.hid hall; have HL := Lib.hid hl
  clear h hv hall
  go_enter Tryz.func198, Tryz.ntmps198
  go_wp2
  go_loop [3, 5, 8] (fun r _ i => ∃ k : Nat, k ≤ 4 ∧ r = .int .u64 (ebv (l.take k) : Nat) ∧ i = .int .i64 k) (fun _ _ i => 4 - (intOf i).toNat)
  case atStart => exact ⟨0, Nat.zero_le _, rfl, rfl⟩
  case round =>
    obtain ⟨k, hk, rfl, rfl⟩ := hrel
    by_cases hlt : k < 4
    · have hc := hcell k (by omega)
      have HE := Lib.hid (ebv_step (l := l) (i := k) (by omega))
      have ht := htk k hlt
      have hb : l[k].toNat < 256 := l[k].toNat_lt
      clear hcell HV HA htk
      generalize l[k].toNat = x at *
      generalize ebv (l.take k) = n at *
      have ho := or8 hb (by omega : n * 256 + 255 < 18446744073709551616)
      have hw : IntKind.u64.wrap (x : Int) = (x : Int) := IntWalk.u64_in _ (by omega)
      go_wp2
      go_round
      case rel => exact ⟨k + 1, by omega, int_eq (by rw [HE.out]; omega), by go_num⟩
      case measure => simp [intOf]; omega
    · obtain rfl : k = 4 := by omega
      have hv2 := HV.out
      have ha2 := HA.out
      clear HV HA htk hcell
      rw [ha2]; clear ha2
      obtain ⟨n, hn⟩ : ∃ n, n = ebv l := ⟨_, rfl⟩
      rw [← hn] at hv2 ⊢
      have HN := Lib.hid hn; clear hn
      go_wp2
      go_ret
      exact ⟨ret1_eq (int_eq (by rw [HN.out])), rfl⟩
theorem ovalue_any (A : Option Addr) (l : List UInt8) (c : Nat) (w : World) (h : Rb w A l) (hl : l.length ≤ 8) :
    Calls Tryz.prog 84 #[.slice A l.length c] w fun e w' => e = .returned (.int .u64 (ebv l : Nat)) ∧ w = w' := by
  have htk : ∀ k, k < l.length → ebv (l.take k) * 256 + 255 < 256 ^ 8 := fun k hk => ebv_take_lt (k := 8) (by omega) (by omega)
  have hcell : ∀ k (hk : k < l.length), ∃ b off, A = some ⟨b, off, none⟩ ∧ b < w.heap.size ∧ w.cell? ⟨b, off + k, none⟩ = some (.int .u8 (l[k].toNat : Int)) := fun k hk => h.cell hk
  clear h
  go_enter Tryz.func84, Tryz.ntmps84
  go_wp2
  go_loop [3, 4] (fun r i => ∃ k : Nat, k ≤ l.length ∧ r = .int .u64 (ebv (l.take k) : Nat) ∧ i = .int .i64 k) (fun _ i => l.length - (intOf i).toNat)
  case atStart => exact ⟨0, Nat.zero_le _, rfl, rfl⟩
  case round =>
    obtain ⟨k, hk, rfl, rfl⟩ := hrel
    by_cases hlt : k < l.length
    · obtain ⟨b, off, rfl, _, hc⟩ := hcell k hlt
      have HE := Lib.hid (ebv_step (l := l) (i := k) hlt)
      have ht := htk k hlt
      have hb : l[k].toNat < 256 := l[k].toNat_lt
      clear hcell htk
      generalize l[k].toNat = x at *
      generalize ebv (l.take k) = n at *
      have hw : IntKind.u64.wrap (x : Int) = (x : Int) := IntWalk.u64_in _ (by omega)
      go_wp2
      go_round
      case rel => exact ⟨k + 1, by omega, int_eq (by rw [HE.out]; omega), by go_num⟩
      case measure => simp [intOf]; omega
    · obtain rfl : k = l.length := by omega
      clear hcell htk
      go_wp2
      go_ret
      exact ⟨ret1_eq (int_eq rfl), rfl⟩

set_option maxHeartbeats 800000 in
theorem number_any (x k : Nat) (w : World) (hk : k ≤ 8) (hx : x < 18446744073709551616) :
    Calls Tryz.prog 83 #[.int .u64 (x : Int), .int .i64 (k : Int)] w fun e w' =>
      e = .returned (.slice (some ⟨w.heap.size, 0, none⟩) (be k x).length (be k x).length) ∧ Bk w' w.heap.size (be k x) ∧ Below w.heap.size w w' := by
  rw [be_len]
  have hmk := make_bytes k (by omega) w
  have hg : Bk (w.alloc (.cells (bc (List.replicate k 0)).toArray 5)) w.heap.size (List.replicate k 0) := heap_alloc_new w _
  have hb : Below w.heap.size w (w.alloc (.cells (bc (List.replicate k 0)).toArray 5)) := (Below.refl _ _).alloc (Nat.le_refl _) _
  generalize (w.alloc (.cells (bc (List.replicate k 0)).toArray 5)) = W1 at *
  have h0 : Bk W1 w.heap.size (splice (List.replicate k 0) k (be 0 x)) := by rw [show be 0 x = [] from rfl, splice_nil]; exact hg
  have HN := Lib.hid (List.length_replicate (n := k) (a := (0 : UInt8)))
  generalize List.replicate k (0 : UInt8) = Z at *
  have H0 := Lib.hid h0; have HB := Lib.hid hb
  generalize w.heap.size = g at *
  clear hg h0 hb
  go_enter Tryz.func83, Tryz.ntmps83
  go_wp2
  go_loopw [0, 6] (fun r i wr => ∃ j m : Nat, j + m = k ∧ r = .int .u64 (x / 256 ^ j : Nat) ∧ i = .int .i64 ((m : Int) - 1) ∧ Hid (Bk wr g (splice Z m (be j x))) ∧ Hid (Below g w wr)) (fun _ i _ => (intOf i + 1).toNat)
  case atStart => exact ⟨0, k, by omega, int_eq (by simp), rfl, H0, HB⟩
  case round =>
    obtain ⟨j, m, hjm, rfl, rfl, HK, HW⟩ := hrel
    clear H0 HB
    cases m with
    | zero =>
      obtain rfl : j = k := by omega
      go_wp2
      go_ret
      exact ⟨rfl, by rw [splice_all (by rw [HN.out, be_len])] at HK; exact HK.out, HW.out⟩
    | succ m =>
      have e1 : (((m + 1 : Nat) : Int) - 1) = (m : Int) := by omega
      rw [e1]; clear e1
      obtain ⟨r, hr⟩ : ∃ r, r = x / 256 ^ j := ⟨_, rfl⟩
      have hr1 : r < 18446744073709551616 := by rw [hr]; exact Nat.lt_of_le_of_lt (Nat.div_le_self _ _) (by omega)
      have hkb := HK.out
      rw [show m + 1 = 0 + (m + 1) by omega] at hkb
      have h2 := fill_step hkb (by rw [HN.out]; omega) hr
      obtain ⟨v, hv⟩ := fill_cell hkb (by rw [HN.out]; omega)
      have hf := hkb.free (0 + m)
      simp only [Nat.zero_add] at h2 hv hf
      have HB2 := Lib.hid h2
      have HW2 := Lib.hid (HW.out.setCell (p := ⟨g, m, none⟩) (Nat.le_refl _) (.int .u8 ((r : Int) % 256)))
      have HR2 : Hid (x / 256 ^ (j + 1) = r / 256) := by rw [pow_step, ← hr]; exact rfl
      rw [← hr]
      clear hr hkb h2
      go_wp2
      go_roundw
      case rel => exact ⟨j + 1, m, by omega, int_eq (by rw [HR2.out]; omega), by go_num, HB2, HW2⟩
      case measure => simp [intOf]
end Go.Proofs.YtdonicaiimeleaaGreatDoor

namespace Go.Proofs.YtdonicaiimeleaaGreatDoor
open Go.RowKit Go.WideShapes Go.ChangeShapes
set_option linter.unusedVariables false

theorem rm_zero {N S : Nat} {at_ many : Int} (h : rm N at_ many S = 0) : 0 ≤ at_ ∧ at_ ≤ N ∧ 0 ≤ many ∧ many ≤ (N - at_) / S := by
  unfold rm at h
  split at h
  · cases h
  · split at h
    · cases h
    · omega
end Go.Proofs.YtdonicaiimeleaaGreatDoor

namespace Go.Proofs.YtdonicaiimeleaaGreatDoor
open Go.RowKit
set_option linter.unusedVariables false

theorem turn1_any (x : BitVec 32) (w : World) : Calls Tryz.prog 85 #[.int .u32 (u x), .int .i64 1] w fun e w' => e = .returned (.int .u32 (u (rot x 1))) ∧ w = w' := by
  have r1 : IntKind.u32.wrap (u x * 2) = u (x <<< 1) := u_shl x 1
  have r2 : u x / (2147483648 : Int) = u (x >>> 31) := u_shr x 31
  have r3 := u_or (x <<< 1) (x >>> 31)
  rw [show x <<< 1 ||| x >>> 31 = rot x 1 from rfl] at r3
  generalize rot x 1 = r at *
  generalize x <<< 1 = y at *
  generalize x >>> 31 = z at *
  go_enter Tryz.func85, Tryz.ntmps85
  go_wp2
  go_ret
  exact ⟨rfl, rfl⟩
theorem turn5_any (x : BitVec 32) (w : World) : Calls Tryz.prog 85 #[.int .u32 (u x), .int .i64 5] w fun e w' => e = .returned (.int .u32 (u (rot x 5))) ∧ w = w' := by
  have r1 : IntKind.u32.wrap (u x * 32) = u (x <<< 5) := u_shl x 5
  have r2 : u x / (134217728 : Int) = u (x >>> 27) := u_shr x 27
  have r3 := u_or (x <<< 5) (x >>> 27)
  rw [show x <<< 5 ||| x >>> 27 = rot x 5 from rfl] at r3
  generalize rot x 5 = r at *
  generalize x <<< 5 = y at *
  generalize x >>> 27 = z at *
  go_enter Tryz.func85, Tryz.ntmps85
  go_wp2
  go_ret
  exact ⟨rfl, rfl⟩
theorem turn30_any (x : BitVec 32) (w : World) : Calls Tryz.prog 85 #[.int .u32 (u x), .int .i64 30] w fun e w' => e = .returned (.int .u32 (u (rot x 30))) ∧ w = w' := by
  have r1 : IntKind.u32.wrap (u x * 1073741824) = u (x <<< 30) := u_shl x 30
  have r2 : u x / (4 : Int) = u (x >>> 2) := u_shr x 2
  have r3 := u_or (x <<< 30) (x >>> 2)
  rw [show x <<< 30 ||| x >>> 2 = rot x 30 from rfl] at r3
  generalize rot x 30 = r at *
  generalize x <<< 30 = y at *
  generalize x >>> 2 = z at *
  go_enter Tryz.func85, Tryz.ntmps85
  go_wp2
  go_ret
  exact ⟨rfl, rfl⟩

end Go.Proofs.YtdonicaiimeleaaGreatDoor

namespace Go.Proofs.YtdonicaiimeleaaGreatDoor
open Go.RowKit Go.WideShapes Go.ChangeShapes
set_option linter.unusedVariables false

theorem info32 : (Tryz.prog.info? 35).map (fun i => (i.zero, i.size, i.bytes)) = some (some (.int .u32 0), 1, 4) := by kernel_rfl
theorem elw : El Tryz.prog 150 35 .u32 := el_mk Tryz.underlying150 info32 (by decide)
theorem u_wf (x : BitVec 32) : (Lit.int .u32 (u x)).wf = true := by
  have := u_lo x; have := u_hi x
  simp [Lit.wf, IntKind.min, IntKind.max, IntKind.signed, IntKind.bits]
  omega
/-- A row of words of the call's own. -/
def Wo (w : World) (base : Nat) (v : Value) (p : List (BitVec 32)) : Prop := Oz w base 35 .u32 v (p.map u)
theorem Wo.reads {w : World} {base : Nat} {v : Value} {p : List (BitVec 32)} (h : Wo w base v p) : ∃ A c, v = .slice A p.length c ∧ Rz .u32 w A (p.map u) ∧ (A = none → c = 0) ∧ p.length ≤ c ∧ c ≤ maxLen := by
  have := Oz.reads h (fun z hz => by obtain ⟨x, _, rfl⟩ := List.mem_map.mp hz; exact u_wf x)
  rwa [List.length_map] at this
/-- append of one word. -/
theorem app_word {ops : Array Oper} {rest : List Oper} {o : Oper} {a : Act} {Q : Exit → Act → World → Prop} {W : World} (s x : Operand) (base : Nat) (v : Value) (p : List (BitVec 32)) (d : Int) (y : BitVec 32)
    (hown : Wo W base v p) (hd : d = u y) (hlen : p.length ≤ 10000) (hbase : base ≤ W.heap.size)
    (hgd : o.guard = none) (ho : o.op = .call { callee := .builtin .append, args := #[s, x], argTypes := #[150, 150] })
    (hs : a.eval s = v) (hx : a.eval x = .slice (some ⟨W.heap.size, 0, none⟩) 1 1)
    (h : ∀ v' w', Wo w' base v' (p ++ [y]) → Below base W w' → wpList Tryz.prog ops Q rest (a.put o.dst v') w') :
    wpList Tryz.prog ops Q (o :: rest) a (W.alloc (.cells #[.int .u32 d] 35)) := by
  subst hd
  have hA : Below base W (W.alloc (.cells #[.int .u32 (u y)] 35)) := (Below.refl _ _).alloc hbase _
  refine app_list hgd s x 150 35 .u32 elw ho base v (p.map u) hs (Oz.below hown ((Below.refl _ _).alloc (Nat.le_refl _) _) (Nat.le_refl _)) (some ⟨W.heap.size, 0, none⟩) [u y] 1 hx
    ⟨fun z hz => by rw [List.mem_singleton.mp hz]; exact u_wf y, .inr ⟨W.heap.size, 0, rfl, by simp, fun j z hj => ?_⟩⟩ (fun e => by cases e) (by rw [List.length_map]; omega) (by simp) (by simp; omega) ?_
  · cases j with
    | zero =>
      obtain rfl : u y = z := by simpa using hj
      exact bk_cell (heap_alloc_new W _) 0
    | succ j => simp at hj
  · intro v' w' h1 h2
    exact h v' w' (by unfold Wo; rw [List.map_append]; exact h1) (hA.trans (h2.mono (Nat.le_refl _)))

/-- A row of words that isn't empty: its block. -/
theorem Wo.open_ {w : World} {base : Nat} {v : Value} {p : List (BitVec 32)} (h : Wo w base v p) (h0 : 0 < p.length) :
    ∃ b c, v = .slice (some ⟨b, 0, none⟩) p.length c ∧ base ≤ b ∧ b < w.heap.size ∧ (∀ i y, p[i]? = some y → w.cell? ⟨b, i, none⟩ = some (.int .u32 (u y))) ∧ p.length ≤ c ∧ c ≤ maxLen := by
  rcases h.2 with ⟨hv, hn⟩ | ⟨g, cap, cur, hv, hb, hh, hc, hm, _, _⟩
  · rw [List.length_map] at hn; omega
  · rw [List.length_map] at hv hc
    refine ⟨g, cap, hv, hb, bk_lt hh, fun i y hy => ?_, hc, hm⟩
    have := World.ownsRow.cells h (g := g) (by rw [hv]; rfl) i (.int .u32 (u y)) (by unfold cz; rw [List.getElem?_map, List.getElem?_map, hy]; rfl)
    rw [← this]
    unfold Addr.add
    by_cases h0 : i = 0
    · subst h0; rfl
    · simp [h0]
set_option maxRecDepth 100000 in
/-- append of one word; what the row held lies on. -/
theorem run_app_kept (w : World) (base : Nat) (ty : TypeId) (b c : Nat) (p : List (BitVec 32)) (hown : Wo w base (.slice (some ⟨b, 0, none⟩) p.length c) p)
    (g cc : Nat) (y : BitVec 32) (hy : w.cell? ⟨g, 0, none⟩ = some (.int .u32 (u y))) (hp : p.length ≤ 10000) (hbase : base ≤ w.heap.size) :
    ∃ v' w', (Builtin.append_ #[150, 150] ty #[.slice (some ⟨b, 0, none⟩) p.length c, .slice (some ⟨g, 0, none⟩) 1 cc]).run Tryz.prog w = .ok v' w' ∧ Wo w' base v' (p ++ [y]) ∧ Below base w w' ∧
      ∀ i z, p[i]? = some z → w'.cell? ⟨b, i, none⟩ = some (.int .u32 (u z)) := by
  obtain ⟨i, ht, hi, hz0, hz1, hz2⟩ := elw
  have hnews : ∀ j v, [Value.int .u32 (u y)][j]? = some v → w.cell? ((⟨g, 0, none⟩ : Addr).add j) = some v := fun j v hv => by
    cases j with
    | zero =>
      obtain rfl : Value.int .u32 (u y) = v := by simpa using hv
      exact hy
    | succ j => simp at hv
  have h1 : ∀ v ∈ [Value.int .u32 (u y)], v.oneCell' = true := fun v hv => by rw [List.mem_singleton.mp hv]; rfl
  have ha : ∀ (v : Nat) (j : Nat), (⟨v, 0, none⟩ : Addr).add j = ⟨v, j, none⟩ := fun v j => by rw [add_plain, Nat.zero_add]
  have hown0 := hown
  unfold Wo Oz at hown0
  rw [List.length_map] at hown0
  obtain ⟨v', w', hr, h2, h3, _, h5⟩ := run_append_own_at (P := Tryz.prog) w base 150 ty 35 i (.int .u32 0) 1 i.bytes ht hi hz0 hz1 rfl rfl (by decide) _ p.length (cz .u32 (p.map u)) hown0 ⟨g, 0, none⟩ 1 cc [.int .u32 (u y)] rfl hnews h1
    (by unfold maxLen; omega) (by have := Nat.mul_le_mul_left (p.length + 1) hz2; omega) hbase
  have hw : Wo w' base v' (p ++ [y]) := by
    unfold Wo Oz
    rw [List.length_map, List.length_append, List.map_append, cz_append]; exact h2
  have hbb : base ≤ b := by
    rcases hown0.2 with ⟨hv, _⟩ | ⟨g', cap, cur, hv, hb, _⟩
    · cases hv
    · injection hv with hv _; injection hv with hv; injection hv with hv; omega
  refine ⟨v', w', hr, hw, (Below.refl _ _).grown h3 hbase (fun g' hg' => (show b = g' by simpa [Value.ownBlock] using hg') ▸ hbb), fun j z hz => ?_⟩
  have hc : (cz .u32 (p.map u))[j]? = some (.int .u32 (u z)) := by unfold cz; rw [List.getElem?_map, List.getElem?_map, hz]; rfl
  rcases h5 with h5 | h5
  · have := World.ownsRow.cells h2 (g := b) (by rw [h5]; rfl) j (.int .u32 (u z)) (by rw [List.getElem?_append_left (List.getElem?_eq_some_iff.1 hc).1]; exact hc)
    rw [ha] at this; exact this
  · have hold := World.ownsRow.cells hown0 (g := b) rfl j _ hc
    rw [ha] at hold
    have hlt : b < w.heap.size := World.block_lt_of_cell? _ _ hold
    rcases hown0.2 with ⟨hv, _⟩ | ⟨g', cap, cur, hv, hb, hg, hnc, hcm, hcs, htake⟩
    · cases hv
    · injection hv with hv _ hv2
      injection hv with hv; injection hv with hv
      subst hv; subst hv2
      by_cases hroom : p.length + 1 ≤ c
      · have hr2 := run_append_room (P := Tryz.prog) w 150 ty 35 i ht hi b p.length c cur hg ⟨g, 0, none⟩ 1 cc [.int .u32 (u y)] (by simp [hz1]) hnews h1 hroom (by simp [hz1, hcs]; omega)
        rw [hr2] at hr
        injection hr with hr _
        rw [← hr] at h5
        simp [Value.ownBlock] at h5
        omega
      · have hr2 := run_append_grow (P := Tryz.prog) w 150 ty 35 i (.int .u32 0) ht hi hz0 ⟨b, 0, none⟩ p.length c (cz .u32 (p.map u)) (by simp [cz, hz1]) (World.ownsRow.cells hown0 rfl) ⟨g, 0, none⟩ 1 cc [.int .u32 (u y)] (by simp [hz1]) hnews (by omega) (by omega)
          (growslice_fits (by omega) (by have := Nat.mul_le_mul_left (p.length + 1) hz2; omega))
        rw [hr2] at hr
        injection hr with _ hr
        rw [← hr]
        have : ∀ o, (w.drew.alloc o).cell? ⟨b, j, none⟩ = w.cell? ⟨b, j, none⟩ := fun o => ((Below.refl w.heap.size w).drew.alloc (Nat.le_refl _) o).cell hlt
        rw [this]; exact hold
/-- The same as a step of a region that draws. -/
theorem app_step_w {ops : Array Oper} {o : Oper} {a : Act} {w : World} {K : Act → World → Prop} {Q : Exit → Act → World → Prop} {X : Prop} (s x : Operand) (base b c : Nat) (p : List (BitVec 32)) (hown : Wo w base (.slice (some ⟨b, 0, none⟩) p.length c) p)
    (g cc : Nat) (y : BitVec 32) (hy : w.cell? ⟨g, 0, none⟩ = some (.int .u32 (u y))) (hp : p.length ≤ 10000) (hbase : base ≤ w.heap.size)
    (hw : Region.wanted o (yielded ops a.tmps) = true) (ho : o.op = .call { callee := .builtin .append, args := #[s, x], argTypes := #[150, 150] }) (hs : a.eval s = .slice (some ⟨b, 0, none⟩) p.length c) (hx : a.eval x = .slice (some ⟨g, 0, none⟩) 1 cc)
    (h : ∀ v' w', Wo w' base v' (p ++ [y]) → Below base w w' → (∀ i z, p[i]? = some z → w'.cell? ⟨b, i, none⟩ = some (.int .u32 (u z))) → K (a.put o.dst v') w') :
    if Region.wanted o (yielded ops a.tmps) = true then Oper.wp Tryz.prog o a w K Q else X := by
  rw [if_pos hw]
  obtain ⟨v', w', hrun, h2, h3, h4⟩ := run_app_kept w base o.type b c p hown g cc y hy hp hbase
  unfold Oper.wp execOp
  simp only [ho, resolve, invoke, builtin, Sem.run_bind, Sem.run_pure, Result.andThen_ok, List.map_toArray, List.map_cons, List.map_nil, hs, hx, hrun]
  exact h v' w' h2 h3 h4

end Go.Proofs.YtdonicaiimeleaaGreatDoor

namespace Go.Proofs.YtdonicaiimeleaaGreatDoor
open Go.RowKit
set_option linter.unusedVariables false

/-- A state's block. -/
def stv (s : St) : Array Value := #[.int .u32 (u s.a), .int .u32 (u s.b), .int .u32 (u s.c), .int .u32 (u s.d), .int .u32 (u s.e)]
def Sb (w : World) (p : Nat) (s : St) : Prop := w.heap[p]? = some (.cells (stv s) 36 (0, 0))
theorem Sb.lt {w : World} {p : Nat} {s : St} (h : Sb w p s) : p < w.heap.size := bk_lt h
theorem Sb.keep {w w' : World} {p : Nat} {s : St} (h : Sb w p s) (hb : Below w.heap.size w w') : Sb w' p s := (hb.block p h.lt).trans h
theorem Sb.all {w : World} {p : Nat} {s : St} (h : Sb w p s) : w.cell? ⟨p, 0, none⟩ = some (.int .u32 (u s.a)) ∧ w.cell? ⟨p, 1, none⟩ = some (.int .u32 (u s.b)) ∧ w.cell? ⟨p, 2, none⟩ = some (.int .u32 (u s.c)) ∧ w.cell? ⟨p, 3, none⟩ = some (.int .u32 (u s.d)) ∧ w.cell? ⟨p, 4, none⟩ = some (.int .u32 (u s.e)) :=
  ⟨bk_cell h 0, bk_cell h 1, bk_cell h 2, bk_cell h 3, bk_cell h 4⟩
theorem Sb.frees {w : World} {p : Nat} {s : St} (h : Sb w p s) : w.frozen? ⟨p, 0, none⟩ = false ∧ w.frozen? ⟨p, 1, none⟩ = false ∧ w.frozen? ⟨p, 2, none⟩ = false ∧ w.frozen? ⟨p, 3, none⟩ = false ∧ w.frozen? ⟨p, 4, none⟩ = false :=
  ⟨bk_free h 0, bk_free h 1, bk_free h 2, bk_free h 3, bk_free h 4⟩
theorem Sb.s0 {w : World} {p : Nat} {s : St} (h : Sb w p s) (v : BitVec 32) : Sb (w.setCell ⟨p, 0, none⟩ (.int .u32 (u v))) p ⟨v, s.b, s.c, s.d, s.e⟩ := by
  have e := bk_set h 0 (.int .u32 (u v))
  unfold Sb
  rw [e]; rfl
theorem Sb.s1 {w : World} {p : Nat} {s : St} (h : Sb w p s) (v : BitVec 32) : Sb (w.setCell ⟨p, 1, none⟩ (.int .u32 (u v))) p ⟨s.a, v, s.c, s.d, s.e⟩ := by
  have e := bk_set h 1 (.int .u32 (u v))
  unfold Sb
  rw [e]; rfl
theorem Sb.s2 {w : World} {p : Nat} {s : St} (h : Sb w p s) (v : BitVec 32) : Sb (w.setCell ⟨p, 2, none⟩ (.int .u32 (u v))) p ⟨s.a, s.b, v, s.d, s.e⟩ := by
  have e := bk_set h 2 (.int .u32 (u v))
  unfold Sb
  rw [e]; rfl
theorem Sb.s3 {w : World} {p : Nat} {s : St} (h : Sb w p s) (v : BitVec 32) : Sb (w.setCell ⟨p, 3, none⟩ (.int .u32 (u v))) p ⟨s.a, s.b, s.c, v, s.e⟩ := by
  have e := bk_set h 3 (.int .u32 (u v))
  unfold Sb
  rw [e]; rfl
theorem Sb.s4 {w : World} {p : Nat} {s : St} (h : Sb w p s) (v : BitVec 32) : Sb (w.setCell ⟨p, 4, none⟩ (.int .u32 (u v))) p ⟨s.a, s.b, s.c, s.d, v⟩ := by
  have e := bk_set h 4 (.int .u32 (u v))
  unfold Sb
  rw [e]; rfl
/-- A state stored. -/
abbrev put5 (W : World) (q : Nat) (s : St) : World := ((((W.setCell ⟨q, 0, none⟩ (.int .u32 (u s.a))).setCell ⟨q, 1, none⟩ (.int .u32 (u s.b))).setCell ⟨q, 2, none⟩ (.int .u32 (u s.c))).setCell ⟨q, 3, none⟩ (.int .u32 (u s.d))).setCell ⟨q, 4, none⟩ (.int .u32 (u s.e))
theorem put5_sb {W : World} {q : Nat} {l : St} (g : Sb W q l) (s : St) : Sb (put5 W q s) q s := ((((g.s0 s.a).s1 s.b).s2 s.c).s3 s.d).s4 s.e
theorem put5_below {B : Nat} {w W : World} {q : Nat} (b : Below B w W) (hq : B ≤ q) (s : St) : Below B w (put5 W q s) := ((((b.setCell hq _).setCell hq _).setCell hq _).setCell hq _).setCell hq _
def zs5 : St := ⟨0, 0, 0, 0, 0⟩
/-- The part of a block that a word is. -/
theorem word_part {W : World} {A : Option Addr} {l : List UInt8} {c : Nat} (h : Rb W A l) (hA : A = none → c = 0) (hc : l.length ≤ c) (hl : l.length = 64) {t : Nat} (ht : t < 16) :
    ∃ A' c' m, m.length = 4 ∧ m = (l.drop (4 * t)).take 4 ∧ (∀ w', (Instr.slice 84 (.slice A l.length c) (some (.int .i64 ((4 * t : Nat) : Int))) (some (.int .i64 ((4 * t + 4 : Nat) : Int))) none).run Tryz.prog w' = .ok (.slice A' m.length c') w') ∧ Rb W A' m := by
  obtain ⟨A', c', m, e, r, hb, -, -, -, -⟩ := part_lh h hA hc (lo := 4 * t) (hi := 4 * t + 4) (by omega) (by omega)
  rw [show 4 * t + 4 - 4 * t = 4 by omega] at e
  exact ⟨A', c', m, by rw [e]; simp; omega, e, r, hb⟩

end Go.Proofs.YtdonicaiimeleaaGreatDoor
