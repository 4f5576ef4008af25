/- Merged: ListT, Blk, ListA. -/
import Derived.Test.YtiamggjebaabkaaGreatDoorGListPuts3
import Derived.Test.YtiamggjebaabkaaGreatDoorGListPuts9
import Derived.Test.YtiamggjebaabkaaGreatDoorGListPuts1
import Derived.Outline
import Derived.Deep.Draws
import Derived.Laws.Rows
import Derived.Deep.LoopGhost
import Derived.Deep.QuietTactic
import Derived.BigQuiet
import Derived.Laws.AppendOwn
import Derived.Laws.AppendOwnNone
import Derived.Laws.OwnMore
import Derived.OwnWalk
import Derived.Carry
import Derived.Lib.SliceRun
import Derived.Deep.DeepCutAuto
import Derived.Deep.CutRange
import Derived.Deep.CutBlock
namespace Go.Proofs.YtiamggjebaabkaaGreatDoor
open Go.RowKit
set_option linter.unusedVariables false
set_option linter.unusedSimpArgs false

/-- What the two errors of strconv are: interfaces. -/
def GE (w : World) : Prop := (∃ v, w.cell? ⟨7, 0, none⟩ = some v ∧ (v = .nilIface ∨ ∃ t p, v = .iface t p)) ∧ ∃ v, w.cell? ⟨8, 0, none⟩ = some v ∧ (v = .nilIface ∨ ∃ t p, v = .iface t p)
theorem GE.below {w w' : World} (h : GE w) (hb : Below w.heap.size w w') : GE w' := by
  obtain ⟨⟨v, h1, h2⟩, u, h3, h4⟩ := h
  exact ⟨⟨v, (hb.cell (p := ⟨_, 0, none⟩) (World.block_lt_of_cell? _ _ h1)).trans h1, h2⟩, u, (hb.cell (p := ⟨_, 0, none⟩) (World.block_lt_of_cell? _ _ h3)).trans h3, h4⟩
theorem GE.kept {w w' : World} {g : Nat} (h : GE w) (hb : w.grownBy w' (some g)) (h1 : g ≠ 7) (h2 : g ≠ 8) : GE w' := by
  obtain ⟨⟨v, a1, a2⟩, u, a3, a4⟩ := h
  have k : ∀ b, b ≠ g → ∀ x, w.cell? ⟨b, 0, none⟩ = some x → w'.cell? ⟨b, 0, none⟩ = some x := fun b hb' x hx => by
    have hlt := World.block_lt_of_cell? _ _ hx
    have := hb.block b hlt (by intro c; injection c with c; exact hb' c)
    rw [← hx]
    unfold World.cell?
    rw [this]
  exact ⟨⟨v, k _ (Ne.symm h1) v a1, a2⟩, u, k _ (Ne.symm h2) u a3, a4⟩

theorem pup_empty (w : World) (hg : GE w) : Calls Tryz.prog 144 #[.string ⟨#[]⟩, .int .i64 16, .int .i64 32] w fun e w' => (∃ t p, e = .returned (.tuple #[.int .u64 0, .iface t p])) ∧ Below w.heap.size w w' := by
  have HP := Lib.hid (pu_empty w)
  obtain ⟨⟨v, h1, h2⟩, -⟩ := hg
  have HT := Lib.hid (Tryz.strconv_toError_syntax ⟨#[80, 97, 114, 115, 101, 85, 105, 110, 116]⟩ ⟨#[]⟩ 16 32 v w (by decide) h1 h2)
  clear h1 h2
  go_enter Tryz.func144, Tryz.ntmps144
  go_wp2_with (first
    | (go_at_call 173; refine HP.out.mono ?_; rintro e w' ⟨rfl, rfl⟩)
    | (go_at_call 174; refine HT.out.mono ?_; rintro e w' ⟨p, rfl, -, -, hb⟩; have HB := Lib.hid hb; clear hb))
  go_ret2
  exact ⟨⟨_, _, rfl⟩, HB.out⟩
theorem pup_some (t : ByteArray) (n : Nat) (w : World) (hne : t.size ≠ 0) (ht : t.size ≤ 100000) (hx : hxA t.data.toList = true) (hn : pu16 0 t.data.toList = some n) :
    Calls Tryz.prog 144 #[.string t, .int .i64 16, .int .i64 32] w fun e w' => e = .returned (.tuple #[.int .u64 n, .nilIface]) ∧ Below w.heap.size w w' := by
  have HP := pu_any t w hne ht hx
  rw [hn] at HP
  have HP' : Calls Tryz.prog 173 #[.string t, .int .i64 16, .int .i64 32] w fun e w' => e = .returned (.tuple #[.int .u64 n, .nilIface]) ∧ Below w.heap.size w w' := HP
  have HQ := Lib.hid HP'
  clear HP HP' hne ht hx hn
  go_enter Tryz.func144, Tryz.ntmps144
  go_wp2_with (go_at_call 173; refine HQ.out.mono ?_; rintro e w' ⟨rfl, hb⟩; have HB := Lib.hid hb; clear hb)
  go_ret2
  exact ⟨rfl, HB.out⟩
theorem pup_none (t : ByteArray) (w : World) (hg : GE w) (hne : t.size ≠ 0) (ht : t.size ≤ 100000) (hx : hxA t.data.toList = true) (hn : pu16 0 t.data.toList = none) :
    Calls Tryz.prog 144 #[.string t, .int .i64 16, .int .i64 32] w fun e w' => (∃ y p, e = .returned (.tuple #[.int .u64 4294967295, .iface y p])) ∧ Below w.heap.size w w' := by
  have HP := pu_any t w hne ht hx
  rw [hn] at HP
  have HP' : Calls Tryz.prog 173 #[.string t, .int .i64 16, .int .i64 32] w fun e w' => e = .returned (.tuple #[.int .u64 4294967295, .iface 257 (.int .i64 1)]) ∧ Below w.heap.size w w' := HP
  have HQ := Lib.hid HP'
  have HT := Lib.hid (fun w1 (hg1 : GE w1) => show ∃ v, Calls Tryz.prog 174 #[.string ⟨#[80, 97, 114, 115, 101, 85, 105, 110, 116]⟩, .string t, .int .i64 16, .int .i64 32, .iface 257 (.int .i64 1)] w1 fun e w' => ∃ N, e = .returned (.iface 259 (.pointer (some ⟨N, 0, none⟩))) ∧ w1.heap.size ≤ N ∧ w'.heap[N]? = some (.cells #[.string ⟨#[80, 97, 114, 115, 101, 85, 105, 110, 116]⟩, .string t, v] 268 (0, 0)) ∧ Below w1.heap.size w1 w' from by
    obtain ⟨-, v, h1, h2⟩ := hg1
    exact ⟨v, Tryz.strconv_toError_range ⟨#[80, 97, 114, 115, 101, 85, 105, 110, 116]⟩ t 16 32 v w1 (by omega) h1 h2⟩)
  have HG := Lib.hid hg
  clear HP HP' hne ht hx hn hg
  go_enter Tryz.func144, Tryz.ntmps144
  go_wp2_with (first
    | (go_at_call 173; refine HQ.out.mono ?_; rintro e w1 ⟨rfl, hb⟩; have HB := Lib.hid hb; clear hb)
    | (go_at_call 174; obtain ⟨v, hv⟩ := HT.out _ (HG.out.below HB.out); refine hv.mono ?_; clear hv; rintro e w' ⟨p, rfl, -, -, hb⟩; have HB2 := Lib.hid (HB.out.trans (hb.mono HB.out.size)); clear hb))
  go_ret2
  exact ⟨⟨_, _, rfl⟩, HB2.out⟩

/-- Is a byte a sign of base 16? -/
def hd (b : UInt8) : Bool := (hv b).isSome
theorem inb_hex : inB [48, 49, 50, 51, 52, 53, 54, 55, 56, 57, 97, 98, 99, 100, 101, 102, 65, 66, 67, 68, 69, 70] = hd := by
  funext c
  have h : ∀ n : Nat, n < 256 → inB [48, 49, 50, 51, 52, 53, 54, 55, 56, 57, 97, 98, 99, 100, 101, 102, 65, 66, 67, 68, 69, 70] (UInt8.ofNat n) = hd (UInt8.ofNat n) := by decide +kernel
  have := h c.toNat c.toNat_lt
  rwa [UInt8.ofNat_toNat] at this
theorem pu_step {l : List UInt8} (h8 : l.length ≤ 8) : ∀ (m k : Nat), k + m = l.length → hxS l k < 16 ^ k → pu16 (hxS l k) (l.drop k) = some (hxS l l.length)
  | 0, k, h, _ => by
    obtain rfl : k = l.length := h
    rw [List.drop_length, pu16]
  | m + 1, k, h, hb => by
    have hk : k < l.length := by omega
    have hp : (16 : Nat) ^ (k + 1) ≤ 16 ^ 8 := Nat.pow_le_pow_right (by decide) (by omega)
    have h9 : (16 : Nat) ^ 8 = 4294967296 := by decide
    have hv16 : (hv l[k]).getD 0 < 16 := by
      cases hh : hv l[k] with
      | none => decide
      | some x => exact hv_lt hh
    have e : ((l[k]?).bind hv).getD 0 = (hv l[k]).getD 0 := by rw [List.getElem?_eq_getElem hk]; rfl
    have h3 : hxS l k * 16 + (hv l[k]).getD 0 < 16 ^ (k + 1) := by rw [Nat.pow_succ]; omega
    have e2 : hxS l (k + 1) = hxS l k * 16 + (hv l[k]).getD 0 := by
      rw [hxS, e]; exact Nat.mod_eq_of_lt (by omega)
    rw [List.drop_eq_getElem_cons hk, pu16, if_neg (by omega), ← e2]
    exact pu_step h8 m (k + 1) (by omega) (by rw [e2]; exact h3)
theorem pu_hx {l : List UInt8} (h8 : l.length ≤ 8) (hx : hxA l = true) : pu16 0 l = some (hxN l) := by
  have := pu_step h8 l.length 0 (by omega) (show (0 : Nat) < 1 by decide)
  rw [List.drop_zero] at this
  unfold hxN
  rw [if_pos hx]
  exact this

/-- A word of a digest: where it stands then, the error then, the word. -/
def swK (l : List UInt8) (k : Nat) (e : Int) : Nat := k + tw hd (rs l k e)
def swE (l : List UInt8) (k : Nat) (e : Int) : Int := if tw hd (rs l k e) = 0 ∨ 8 < tw hd (rs l k e) then flE e 2 else e
def swW (l : List UInt8) (k : Nat) (e : Int) : List UInt8 := (rs l k e).take (tw hd (rs l k e))
theorem tw_all (p : UInt8 → Bool) (r : List UInt8) : ∀ b ∈ r.take (tw p r), p b = true := by
  obtain ⟨g, m, e, h1, _, h3, _, h5⟩ := tw_part p r
  rw [h5]; exact h1
set_option maxHeartbeats 1000000 in
theorem readword_s (g k : Nat) (e : Int) (s : ByteArray) (w : World) (hg : GE w) (n1 : g ≠ 7) (n2 : g ≠ 8) (h : Sk Ts w g (.string s) k e) (hk : k ≤ s.size) (hs : s.size ≤ 100000) :
    Calls Tryz.prog 112 #[.pointer (some ⟨g, 0, none⟩)] w fun x w' => (∃ n : Nat, x = .returned (.int .u32 (n : Int)) ∧ n ≤ 4294967295 ∧ (swE s.data.toList k e = 0 → n = hxN (swW s.data.toList k e))) ∧ Mv Ts g (.string s) (swK s.data.toList k e) (swE s.data.toList k e) w w' := by
  have H := run_s g k e (.string s) s ⟨#[48, 49, 50, 51, 52, 53, 54, 55, 56, 57, 97, 98, 99, 100, 101, 102, 65, 66, 67, 68, 69, 70]⟩ w h rfl hk hs
  rw [show (⟨#[48, 49, 50, 51, 52, 53, 54, 55, 56, 57, 97, 98, 99, 100, 101, 102, 65, 66, 67, 68, 69, 70]⟩ : ByteArray).data.toList = [48, 49, 50, 51, 52, 53, 54, 55, 56, 57, 97, 98, 99, 100, 101, 102, 65, 66, 67, 68, 69, 70] from rfl, inb_hex] at H
  have eK : k + tw hd (rs s.data.toList k e) = swK s.data.toList k e := rfl
  have eW : (rs s.data.toList k e).take (tw hd (rs s.data.toList k e)) = swW s.data.toList k e := rfl
  have eE : swE s.data.toList k e = if tw hd (rs s.data.toList k e) = 0 ∨ 8 < tw hd (rs s.data.toList k e) then flE e 2 else e := rfl
  have hle := tw_le hd (rs s.data.toList k e)
  have hrl := rs_le s.data.toList k e
  have hsz : s.data.toList.length = s.size := by simp
  have hal : hxA (swW s.data.toList k e) = true := by rw [← eW]; exact List.all_eq_true.2 (tw_all hd _)
  have hlen : (swW s.data.toList k e).length = tw hd (rs s.data.toList k e) := by rw [← eW, List.length_take]; omega
  rw [eK, eW] at H
  rw [← hlen] at eE
  have hl2 : (swW s.data.toList k e).length ≤ 100000 := by omega
  clear eK eW hle hrl hsz hlen h hk hs
  generalize swK s.data.toList k e = K at *
  generalize swW s.data.toList k e = W at *
  generalize swE s.data.toList k e = E at *
  generalize hv : Value.string s = v at *
  have HG := Lib.hid hg
  have HN := Lib.hid (And.intro n1 n2)
  clear hv hg n1 n2
  by_cases h0 : W.length = 0
  · obtain rfl : W = [] := List.eq_nil_of_length_eq_zero h0
    rw [if_pos (.inl rfl)] at eE
    have HR := Lib.hid H
    have HE := Lib.hid eE
    clear H eE hal h0 hl2
    go_enter Tryz.func112, Tryz.ntmps112
    go_wp2_with (first
      | (go_at_call 106; refine HR.out.mono ?_; rintro x w1 ⟨rfl, hm⟩; have HM := Lib.hid hm; have S1 := Lib.hid hm.1; clear hm)
      | (go_at_call 144; refine (pup_empty w1 (HG.out.kept HM.out.2 HN.out.1 HN.out.2)).mono ?_; rintro x w2 ⟨⟨ty, p, rfl⟩, hb⟩; have HB := Lib.hid hb; have S2 := Lib.hid (HM.out.1.below hb HM.out.1.lt); clear hb)
      | (go_at_call 141; refine (fail_s g K e 2 _ v _ S2.out rfl (by decide)).mono ?_; rintro x w3 ⟨rfl, hm2⟩; have HM2 := Lib.hid hm2; clear hm2))
    go_ret
    exact ⟨⟨0, rfl, by decide, fun _ => rfl⟩, by rw [HE.out]; exact HM2.out.1, (gb_below HM.out.2 HB.out).trans HM2.out.2⟩
  · have hss : (⟨W.toArray⟩ : ByteArray).size = W.length := by rw [Lib.size_mk]
    have hdl : (⟨W.toArray⟩ : ByteArray).data.toList = W := by simp
    by_cases h8 : W.length ≤ 8
    · rw [if_neg (by omega)] at eE
      have HP := fun w1 => pup_some ⟨W.toArray⟩ (hxN W) w1 (by rw [hss]; exact h0) (by rw [hss]; exact hl2) (by rw [hdl]; exact hal) (by rw [hdl]; exact pu_hx h8 hal)
      have hz : ¬ ((⟨W.toArray⟩ : ByteArray).size : Int) > 8 := by rw [hss]; omega
      have hn : hxN W ≤ 4294967295 := pu_lt W 0 _ (by omega) (pu_hx h8 hal)
      generalize hxN W = n at *
      generalize (⟨W.toArray⟩ : ByteArray) = S at *
      have HP' := Lib.hid HP
      have HR := Lib.hid H
      have HE := Lib.hid eE
      clear H eE hal h0 hl2 hss hdl h8 HP
      go_enter Tryz.func112, Tryz.ntmps112
      go_wp2_with (first
        | (go_at_call 106; refine HR.out.mono ?_; rintro x w1 ⟨rfl, hm⟩; have HM := Lib.hid hm; clear hm)
        | (go_at_call 144; refine (HP'.out _).mono ?_; rintro x w2 ⟨rfl, hb⟩; have HB := Lib.hid hb; have S2 := Lib.hid (HM.out.1.below hb HM.out.1.lt); clear hb))
      go_ret
      exact ⟨⟨n, rfl, hn, fun _ => rfl⟩, by rw [HE.out]; exact S2.out, gb_below HM.out.2 HB.out⟩
    · rw [if_pos (.inr (by omega))] at eE
      have hz : ((⟨W.toArray⟩ : ByteArray).size : Int) > 8 := by rw [hss]; omega
      have HEz : Hid (E = 0 → e = 0 ∧ (2 : Int) = 0) := Lib.hid (fun h => by rw [eE] at h; unfold flE at h; split at h; exact absurd h (by decide); exact absurd h ‹_›)
      have ffE : flE (flE e 2) 2 = flE e 2 := by unfold flE; split <;> rfl
      cases hp : pu16 0 W with
      | some n =>
        have HP := fun w1 => pup_some ⟨W.toArray⟩ n w1 (by rw [hss]; exact h0) (by rw [hss]; exact hl2) (by rw [hdl]; exact hal) (by rw [hdl]; exact hp)
        have hn : n ≤ 4294967295 := pu_lt W 0 _ (by omega) hp
        generalize hxN W = n' at *
        generalize (⟨W.toArray⟩ : ByteArray) = S at *
        have HP' := Lib.hid HP
        have HR := Lib.hid H
        have HE := Lib.hid eE
        have HFF := Lib.hid ffE
        have UE : Hid (Value.iface 53 (.int .i64 2) = ev 2) := Lib.hid rfl
        have N2 : Hid ((2 : Int) ≠ 0) := Lib.hid (by decide)
        clear H eE hal h0 hl2 hss hdl h8 HP hp ffE
        go_enter Tryz.func112, Tryz.ntmps112
        go_wp2_with (first
          | (go_at_call 106; refine HR.out.mono ?_; rintro x w1 ⟨rfl, hm⟩; have HM := Lib.hid hm; clear hm)
          | (go_at_call 141; refine (fail_s g K e 2 _ v _ HM.out.1 rfl (by decide)).mono ?_; rintro x w3 ⟨rfl, hm2⟩; have HM2 := Lib.hid hm2; clear hm2)
          | (go_at_call 144; refine (HP'.out _).mono ?_; rintro x w2 ⟨rfl, hb⟩; have HB := Lib.hid hb; have S2 := Lib.hid (HM2.out.1.below hb HM2.out.1.lt); clear hb))
        go_ret
        exact ⟨⟨n, rfl, hn, fun h => absurd (HEz.out h).2 (by decide)⟩, by rw [HE.out]; exact S2.out, gb_below (HM.out.2.trans HM2.out.2) HB.out⟩
      | none =>
        have HP := fun w1 hg1 => pup_none ⟨W.toArray⟩ w1 hg1 (by rw [hss]; exact h0) (by rw [hss]; exact hl2) (by rw [hdl]; exact hal) (by rw [hdl]; exact hp)
        generalize hxN W = n' at *
        generalize (⟨W.toArray⟩ : ByteArray) = S at *
        have HP' := Lib.hid HP
        have HR := Lib.hid H
        have HE := Lib.hid eE
        have HFF := Lib.hid ffE
        clear H eE hal h0 hl2 hss hdl h8 HP hp ffE
        go_enter Tryz.func112, Tryz.ntmps112
        go_wp2_with (first
          | (go_at_call 106; refine HR.out.mono ?_; rintro x w1 ⟨rfl, hm⟩; have HM := Lib.hid hm; clear hm)
          | (go_at_call 141; refine (fail_s g K (flE e 2) 2 _ v _ S2.out rfl (by decide)).mono ?_; rintro x w4 ⟨rfl, hm4⟩; have HM4 := Lib.hid hm4; clear hm4)
          | (go_at_call 144; refine (HP'.out _ (HG.out.kept (HM.out.2.trans HM2.out.2) HN.out.1 HN.out.2)).mono ?_; rintro x w2 ⟨⟨ty, p, rfl⟩, hb⟩; have HB := Lib.hid hb; have S2 := Lib.hid (HM2.out.1.below hb HM2.out.1.lt); clear hb)
          | (go_at_call 141; refine (fail_s g K e 2 _ v _ HM.out.1 rfl (by decide)).mono ?_; rintro x w3 ⟨rfl, hm2⟩; have HM2 := Lib.hid hm2; clear hm2))
        go_ret
        exact ⟨⟨4294967295, rfl, by decide, fun h => absurd (HEz.out h).2 (by decide)⟩, by rw [HE.out, ← HFF.out]; exact HM4.out.1, (gb_below (HM.out.2.trans HM2.out.2) HB.out).trans HM4.out.2⟩

end Go.Proofs.YtiamggjebaabkaaGreatDoor

namespace Go.Proofs.YtiamggjebaabkaaGreatDoor
open Go.RowKit
set_option linter.unusedVariables false

theorem bk_cell {w : World} {g : Nat} {cs : Array Value} {t : TypeId} (h : w.heap[g]? = some (.cells cs t (0, 0))) (i : Nat) : w.cell? ⟨g, i, none⟩ = cs[i]? := by simp [World.cell?, h]
theorem bk_free {w : World} {g : Nat} {cs : Array Value} {t : TypeId} (h : w.heap[g]? = some (.cells cs t (0, 0))) (i : Nat) : w.frozen? ⟨g, i, none⟩ = false := by simp [World.frozen?, h]
theorem bk_lt {w : World} {g : Nat} {o : Obj} (h : w.heap[g]? = some o) : g < w.heap.size := by
  rcases Nat.lt_or_ge g w.heap.size with k | k
  · exact k
  · rw [Array.getElem?_eq_none k] at h; cases h
theorem bk_set {w : World} {g : Nat} {cs : Array Value} {t : TypeId} (h : w.heap[g]? = some (.cells cs t (0, 0))) (i : Nat) (u : Value) : (w.setCell ⟨g, i, none⟩ u).heap[g]? = some (.cells (cs.setIfInBounds i u) t (0, 0)) := by
  simp [World.setCell, Array.getElem?_modify, h]

end Go.Proofs.YtiamggjebaabkaaGreatDoor

namespace Go.Proofs.YtiamggjebaabkaaGreatDoor
open Go.RowKit Go.WideShapes Go.ChangeShapes
set_option linter.unusedVariables false
set_option linter.unusedSimpArgs false

/-- A text's value. -/
def sv (l : List UInt8) : Value := .string ⟨l.toArray⟩
/-- A row of strings of the call's own. -/
def Os (w : World) (base : Nat) (v : Value) (ls : List (List UInt8)) : Prop := w.ownsRow base 9 1 v ls.length (ls.map sv)
theorem Os.below {w w' : World} {base B : Nat} {v : Value} {ls : List (List UInt8)} (h : Os w base v ls) (hb : Below B w w') (hB : w.heap.size ≤ B) : Os w' base v ls := by
  refine ⟨h.1, ?_⟩
  rcases h.2 with h0 | ⟨g, cap, cur, h1, h2, h3, h4⟩
  · exact .inl h0
  · exact .inr ⟨g, cap, cur, h1, h2, (hb.block g (Nat.lt_of_lt_of_le (bk_lt h3) hB)).trans h3, h4⟩
theorem Os.made (w : World) : Os (w.alloc (.cells #[] 9)) w.heap.size (.slice (some ⟨w.heap.size, 0, none⟩) 0 0) [] := World.ownsRow_made w #[] 0 (Nat.le_refl _) (Nat.zero_le _) rfl
/-- The slice at A reads as the strings ls. -/
def Rs (w : World) (A : Option Addr) (ls : List (List UInt8)) : Prop := ls = [] ∨ ∃ b off, A = some ⟨b, off, none⟩ ∧ b < w.heap.size ∧ ∀ j l, ls[j]? = some l → w.cell? ⟨b, off + j, none⟩ = some (sv l)
theorem Rs.below {w w' : World} {A : Option Addr} {ls : List (List UInt8)} (h : Rs w A ls) (hb : Below w.heap.size w w') : Rs w' A ls := by
  rcases h with h | ⟨b, off, h1, h2, h3⟩
  · exact .inl h
  · exact .inr ⟨b, off, h1, Nat.lt_of_lt_of_le h2 hb.size, fun j l hj => (hb.cell (p := ⟨b, off + j, none⟩) h2).trans (h3 j l hj)⟩
theorem Os.reads {w : World} {base : Nat} {v : Value} {ls : List (List UInt8)} (h : Os w base v ls) : ∃ A c, v = .slice A ls.length c ∧ Rs w A ls ∧ (A = none → c = 0 ∧ ls = []) := by
  rcases h.2 with ⟨hv, hn⟩ | ⟨g, cap, cur, hv, hb, hh, hc, hm, hs, ht⟩
  · obtain rfl : ls = [] := List.eq_nil_of_length_eq_zero hn
    exact ⟨none, 0, hv, .inl rfl, fun _ => ⟨rfl, rfl⟩⟩
  · refine ⟨_, cap, hv, .inr ⟨g, 0, rfl, bk_lt hh, fun j l hj => ?_⟩, fun h => (by cases h)⟩
    have hu : (ls.map sv)[j]? = some (sv l) := by rw [List.getElem?_map, hj]; rfl
    have h1 : j < ls.length * 1 := by
      have := (List.getElem?_eq_some_iff.1 hj).1
      omega
    rw [← ht, List.getElem?_take, if_pos h1] at hu
    rw [bk_cell hh, Nat.zero_add]
    simpa using hu
theorem Os.block {w : World} {base : Nat} {v : Value} {ls : List (List UInt8)} (h : Os w base v ls) : ∀ g, v.ownBlock = some g → base ≤ g := fun g hg => (World.ownsRow.lt h g hg).1

theorem cut_mid (X : ByteArray) (a b : Nat) : (X.extract a b).data.toList = (X.data.toList.drop a).take (b - a) := by
  rw [ByteArray.data_extract, Array.toList_extract]
end Go.Proofs.YtiamggjebaabkaaGreatDoor
