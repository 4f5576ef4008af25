/- Merged: ListT, ListU, ShaM. -/
import Derived.Test.YtdonicaiimeleaaGreatDoorGListParses23
import Derived.Test.YtdonicaiimeleaaGreatDoorGListParses27
import Derived.Test.YtdonicaiimeleaaGreatDoorGListParses17
import Derived.Test.YtdonicaiimeleaaGreatDoorGListParses1
import Derived.Laws.Entries
namespace Go.Proofs.YtdonicaiimeleaaGreatDoor
open Go.RowKit
set_option linter.unusedVariables false
set_option linter.unusedSimpArgs false

/-- What the two errors of strconv are: interfaces. -/
def GE (w : World) : Prop := (∃ v, w.cell? ⟨6, 0, none⟩ = some v ∧ (v = .nilIface ∨ ∃ t p, v = .iface t p)) ∧ ∃ v, w.cell? ⟨7, 0, none⟩ = some v ∧ (v = .nilIface ∨ ∃ t p, v = .iface t p)
theorem GE.below {w w' : World} (h : GE w) (hb : Below w.heap.size w w') : GE w' := by
  obtain ⟨⟨v, h1, h2⟩, u, h3, h4⟩ := h
  exact ⟨⟨v, (hb.cell (p := ⟨_, 0, none⟩) (World.block_lt_of_cell? _ _ h1)).trans h1, h2⟩, u, (hb.cell (p := ⟨_, 0, none⟩) (World.block_lt_of_cell? _ _ h3)).trans h3, h4⟩
theorem GE.kept {w w' : World} {g : Nat} (h : GE w) (hb : w.grownBy w' (some g)) (h1 : g ≠ 6) (h2 : g ≠ 7) : GE w' := by
  obtain ⟨⟨v, a1, a2⟩, u, a3, a4⟩ := h
  have k : ∀ b, b ≠ g → ∀ x, w.cell? ⟨b, 0, none⟩ = some x → w'.cell? ⟨b, 0, none⟩ = some x := fun b hb' x hx => by
    have hlt := World.block_lt_of_cell? _ _ hx
    have := hb.block b hlt (by intro c; injection c with c; exact hb' c)
    rw [← hx]
    unfold World.cell?
    rw [this]
  exact ⟨⟨v, k _ (Ne.symm h1) v a1, a2⟩, u, k _ (Ne.symm h2) u a3, a4⟩

theorem pup_empty (w : World) (hg : GE w) : Calls Tryz.prog 98 #[.string ⟨#[]⟩, .int .i64 16, .int .i64 32] w fun e w' => (∃ t p, e = .returned (.tuple #[.int .u64 0, .iface t p])) ∧ Below w.heap.size w w' := by
  have HP := Lib.hid (pu_empty w)
  obtain ⟨⟨v, h1, h2⟩, -⟩ := hg
  have HT := Lib.hid (Tryz.strconv_toError_syntax ⟨#[80, 97, 114, 115, 101, 85, 105, 110, 116]⟩ ⟨#[]⟩ 16 32 v w (by decide) h1 h2)
  clear h1 h2
  go_enter Tryz.func98, Tryz.ntmps98
  go_wp2_with (first
    | (go_at_call 121; refine HP.out.mono ?_; rintro e w' ⟨rfl, rfl⟩)
    | (go_at_call 122; refine HT.out.mono ?_; rintro e w' ⟨p, rfl, -, -, hb⟩; have HB := Lib.hid hb; clear hb))
  go_ret2
  exact ⟨⟨_, _, rfl⟩, HB.out⟩
theorem pup_some (t : ByteArray) (n : Nat) (w : World) (hne : t.size ≠ 0) (ht : t.size ≤ 100000) (hx : hxA t.data.toList = true) (hn : pu16 0 t.data.toList = some n) :
    Calls Tryz.prog 98 #[.string t, .int .i64 16, .int .i64 32] w fun e w' => e = .returned (.tuple #[.int .u64 n, .nilIface]) ∧ Below w.heap.size w w' := by
  have HP := pu_any t w hne ht hx
  rw [hn] at HP
  have HP' : Calls Tryz.prog 121 #[.string t, .int .i64 16, .int .i64 32] w fun e w' => e = .returned (.tuple #[.int .u64 n, .nilIface]) ∧ Below w.heap.size w w' := HP
  have HQ := Lib.hid HP'
  clear HP HP' hne ht hx hn
  go_enter Tryz.func98, Tryz.ntmps98
  go_wp2_with (go_at_call 121; refine HQ.out.mono ?_; rintro e w' ⟨rfl, hb⟩; have HB := Lib.hid hb; clear hb)
  go_ret2
  exact ⟨rfl, HB.out⟩
theorem pup_none (t : ByteArray) (w : World) (hg : GE w) (hne : t.size ≠ 0) (ht : t.size ≤ 100000) (hx : hxA t.data.toList = true) (hn : pu16 0 t.data.toList = none) :
    Calls Tryz.prog 98 #[.string t, .int .i64 16, .int .i64 32] w fun e w' => (∃ y p, e = .returned (.tuple #[.int .u64 4294967295, .iface y p])) ∧ Below w.heap.size w w' := by
  have HP := pu_any t w hne ht hx
  rw [hn] at HP
  have HP' : Calls Tryz.prog 121 #[.string t, .int .i64 16, .int .i64 32] w fun e w' => e = .returned (.tuple #[.int .u64 4294967295, .iface 220 (.int .i64 1)]) ∧ Below w.heap.size w w' := HP
  have HQ := Lib.hid HP'
  have HT := Lib.hid (fun w1 (hg1 : GE w1) => show ∃ v, Calls Tryz.prog 122 #[.string ⟨#[80, 97, 114, 115, 101, 85, 105, 110, 116]⟩, .string t, .int .i64 16, .int .i64 32, .iface 220 (.int .i64 1)] w1 fun e w' => ∃ N, e = .returned (.iface 222 (.pointer (some ⟨N, 0, none⟩))) ∧ w1.heap.size ≤ N ∧ w'.heap[N]? = some (.cells #[.string ⟨#[80, 97, 114, 115, 101, 85, 105, 110, 116]⟩, .string t, v] 244 (0, 0)) ∧ Below w1.heap.size w1 w' from by
    obtain ⟨-, v, h1, h2⟩ := hg1
    exact ⟨v, Tryz.strconv_toError_range ⟨#[80, 97, 114, 115, 101, 85, 105, 110, 116]⟩ t 16 32 v w1 (by omega) h1 h2⟩)
  have HG := Lib.hid hg
  clear HP HP' hne ht hx hn hg
  go_enter Tryz.func98, Tryz.ntmps98
  go_wp2_with (first
    | (go_at_call 121; refine HQ.out.mono ?_; rintro e w1 ⟨rfl, hb⟩; have HB := Lib.hid hb; clear hb)
    | (go_at_call 122; obtain ⟨v, hv⟩ := HT.out _ (HG.out.below HB.out); refine hv.mono ?_; clear hv; rintro e w' ⟨p, rfl, -, -, hb⟩; have HB2 := Lib.hid (HB.out.trans (hb.mono HB.out.size)); clear hb))
  go_ret2
  exact ⟨⟨_, _, rfl⟩, HB2.out⟩

/-- Is a byte a sign of base 16? -/
def hd (b : UInt8) : Bool := (hv b).isSome
theorem inb_hex : inB [48, 49, 50, 51, 52, 53, 54, 55, 56, 57, 97, 98, 99, 100, 101, 102, 65, 66, 67, 68, 69, 70] = hd := by
  funext c
  have h : ∀ n : Nat, n < 256 → inB [48, 49, 50, 51, 52, 53, 54, 55, 56, 57, 97, 98, 99, 100, 101, 102, 65, 66, 67, 68, 69, 70] (UInt8.ofNat n) = hd (UInt8.ofNat n) := by decide +kernel
  have := h c.toNat c.toNat_lt
  rwa [UInt8.ofNat_toNat] at this
theorem pu_step {l : List UInt8} (h8 : l.length ≤ 8) : ∀ (m k : Nat), k + m = l.length → hxS l k < 16 ^ k → pu16 (hxS l k) (l.drop k) = some (hxS l l.length)
  | 0, k, h, _ => by
    obtain rfl : k = l.length := h
    rw [List.drop_length, pu16]
  | m + 1, k, h, hb => by
    have hk : k < l.length := by omega
    have hp : (16 : Nat) ^ (k + 1) ≤ 16 ^ 8 := Nat.pow_le_pow_right (by decide) (by omega)
    have h9 : (16 : Nat) ^ 8 = 4294967296 := by decide
    have hv16 : (hv l[k]).getD 0 < 16 := by
      cases hh : hv l[k] with
      | none => decide
      | some x => exact hv_lt hh
    have e : ((l[k]?).bind hv).getD 0 = (hv l[k]).getD 0 := by rw [List.getElem?_eq_getElem hk]; rfl
    have h3 : hxS l k * 16 + (hv l[k]).getD 0 < 16 ^ (k + 1) := by rw [Nat.pow_succ]; omega
    have e2 : hxS l (k + 1) = hxS l k * 16 + (hv l[k]).getD 0 := by
      rw [hxS, e]; exact Nat.mod_eq_of_lt (by omega)
    rw [List.drop_eq_getElem_cons hk, pu16, if_neg (by omega), ← e2]
    exact pu_step h8 m (k + 1) (by omega) (by rw [e2]; exact h3)
theorem pu_hx {l : List UInt8} (h8 : l.length ≤ 8) (hx : hxA l = true) : pu16 0 l = some (hxN l) := by
  have := pu_step h8 l.length 0 (by omega) (show (0 : Nat) < 1 by decide)
  rw [List.drop_zero] at this
  unfold hxN
  rw [if_pos hx]
  exact this

/-- A word of a digest: where it stands then, the error then, the word. -/
def swK (l : List UInt8) (k : Nat) (e : Int) : Nat := k + tw hd (rs l k e)
def swE (l : List UInt8) (k : Nat) (e : Int) : Int := if tw hd (rs l k e) = 0 ∨ 8 < tw hd (rs l k e) then flE e 2 else e
def swW (l : List UInt8) (k : Nat) (e : Int) : List UInt8 := (rs l k e).take (tw hd (rs l k e))
theorem tw_all (p : UInt8 → Bool) (r : List UInt8) : ∀ b ∈ r.take (tw p r), p b = true := by
  obtain ⟨g, m, e, h1, _, h3, _, h5⟩ := tw_part p r
  rw [h5]; exact h1
set_option maxHeartbeats 1000000 in
theorem readword_s (g k : Nat) (e : Int) (s : ByteArray) (w : World) (hg : GE w) (n1 : g ≠ 6) (n2 : g ≠ 7) (h : Sk Ts w g (.string s) k e) (hk : k ≤ s.size) (hs : s.size ≤ 100000) :
    Calls Tryz.prog 70 #[.pointer (some ⟨g, 0, none⟩)] w fun x w' => (∃ n : Nat, x = .returned (.int .u32 (n : Int)) ∧ n ≤ 4294967295 ∧ (swE s.data.toList k e = 0 → n = hxN (swW s.data.toList k e))) ∧ Mv Ts g (.string s) (swK s.data.toList k e) (swE s.data.toList k e) w w' := by
  have H := run_s g k e (.string s) s ⟨#[48, 49, 50, 51, 52, 53, 54, 55, 56, 57, 97, 98, 99, 100, 101, 102, 65, 66, 67, 68, 69, 70]⟩ w h rfl hk hs
  rw [show (⟨#[48, 49, 50, 51, 52, 53, 54, 55, 56, 57, 97, 98, 99, 100, 101, 102, 65, 66, 67, 68, 69, 70]⟩ : ByteArray).data.toList = [48, 49, 50, 51, 52, 53, 54, 55, 56, 57, 97, 98, 99, 100, 101, 102, 65, 66, 67, 68, 69, 70] from rfl, inb_hex] at H
  have eK : k + tw hd (rs s.data.toList k e) = swK s.data.toList k e := rfl
  have eW : (rs s.data.toList k e).take (tw hd (rs s.data.toList k e)) = swW s.data.toList k e := rfl
  have eE : swE s.data.toList k e = if tw hd (rs s.data.toList k e) = 0 ∨ 8 < tw hd (rs s.data.toList k e) then flE e 2 else e := rfl
  have hle := tw_le hd (rs s.data.toList k e)
  have hrl := rs_le s.data.toList k e
  have hsz : s.data.toList.length = s.size := by simp
  have hal : hxA (swW s.data.toList k e) = true := by rw [← eW]; exact List.all_eq_true.2 (tw_all hd _)
  have hlen : (swW s.data.toList k e).length = tw hd (rs s.data.toList k e) := by rw [← eW, List.length_take]; omega
  rw [eK, eW] at H
  rw [← hlen] at eE
  have hl2 : (swW s.data.toList k e).length ≤ 100000 := by omega
  clear eK eW hle hrl hsz hlen h hk hs
  generalize swK s.data.toList k e = K at *
  generalize swW s.data.toList k e = W at *
  generalize swE s.data.toList k e = E at *
  generalize hv : Value.string s = v at *
  have HG := Lib.hid hg
  have HN := Lib.hid (And.intro n1 n2)
  clear hv hg n1 n2
  by_cases h0 : W.length = 0
  · obtain rfl : W = [] := List.eq_nil_of_length_eq_zero h0
    rw [if_pos (.inl rfl)] at eE
    have HR := Lib.hid H
    have HE := Lib.hid eE
    clear H eE hal h0 hl2
    go_enter Tryz.func70, Tryz.ntmps70
    go_wp2_with (first
      | (go_at_call 63; refine HR.out.mono ?_; rintro x w1 ⟨rfl, hm⟩; have HM := Lib.hid hm; have S1 := Lib.hid hm.1; clear hm)
      | (go_at_call 98; refine (pup_empty w1 (HG.out.kept HM.out.2 HN.out.1 HN.out.2)).mono ?_; rintro x w2 ⟨⟨ty, p, rfl⟩, hb⟩; have HB := Lib.hid hb; have S2 := Lib.hid (HM.out.1.below hb HM.out.1.lt); clear hb)
      | (go_at_call 95; refine (fail_s g K e 2 _ v _ S2.out rfl (by decide)).mono ?_; rintro x w3 ⟨rfl, hm2⟩; have HM2 := Lib.hid hm2; clear hm2))
    go_ret
    exact ⟨⟨0, rfl, by decide, fun _ => rfl⟩, by rw [HE.out]; exact HM2.out.1, (gb_below HM.out.2 HB.out).trans HM2.out.2⟩
  · have hss : (⟨W.toArray⟩ : ByteArray).size = W.length := by rw [Lib.size_mk]
    have hdl : (⟨W.toArray⟩ : ByteArray).data.toList = W := by simp
    by_cases h8 : W.length ≤ 8
    · rw [if_neg (by omega)] at eE
      have HP := fun w1 => pup_some ⟨W.toArray⟩ (hxN W) w1 (by rw [hss]; exact h0) (by rw [hss]; exact hl2) (by rw [hdl]; exact hal) (by rw [hdl]; exact pu_hx h8 hal)
      have hz : ¬ ((⟨W.toArray⟩ : ByteArray).size : Int) > 8 := by rw [hss]; omega
      have hn : hxN W ≤ 4294967295 := pu_lt W 0 _ (by omega) (pu_hx h8 hal)
      generalize hxN W = n at *
      generalize (⟨W.toArray⟩ : ByteArray) = S at *
      have HP' := Lib.hid HP
      have HR := Lib.hid H
      have HE := Lib.hid eE
      clear H eE hal h0 hl2 hss hdl h8 HP
      go_enter Tryz.func70, Tryz.ntmps70
      go_wp2_with (first
        | (go_at_call 63; refine HR.out.mono ?_; rintro x w1 ⟨rfl, hm⟩; have HM := Lib.hid hm; clear hm)
        | (go_at_call 98; refine (HP'.out _).mono ?_; rintro x w2 ⟨rfl, hb⟩; have HB := Lib.hid hb; have S2 := Lib.hid (HM.out.1.below hb HM.out.1.lt); clear hb))
      go_ret
      exact ⟨⟨n, rfl, hn, fun _ => rfl⟩, by rw [HE.out]; exact S2.out, gb_below HM.out.2 HB.out⟩
    · rw [if_pos (.inr (by omega))] at eE
      have hz : ((⟨W.toArray⟩ : ByteArray).size : Int) > 8 := by rw [hss]; omega
      have HEz : Hid (E = 0 → e = 0 ∧ (2 : Int) = 0) := Lib.hid (fun h => by rw [eE] at h; unfold flE at h; split at h; exact absurd h (by decide); exact absurd h ‹_›)
      have ffE : flE (flE e 2) 2 = flE e 2 := by unfold flE; split <;> rfl
      cases hp : pu16 0 W with
      | some n =>
        have HP := fun w1 => pup_some ⟨W.toArray⟩ n w1 (by rw [hss]; exact h0) (by rw [hss]; exact hl2) (by rw [hdl]; exact hal) (by rw [hdl]; exact hp)
        have hn : n ≤ 4294967295 := pu_lt W 0 _ (by omega) hp
        generalize hxN W = n' at *
        generalize (⟨W.toArray⟩ : ByteArray) = S at *
        have HP' := Lib.hid HP
        have HR := Lib.hid H
        have HE := Lib.hid eE
        have HFF := Lib.hid ffE
        have UE : Hid (Value.iface 56 (.int .i64 2) = ev 2) := Lib.hid rfl
        have N2 : Hid ((2 : Int) ≠ 0) := Lib.hid (by decide)
        clear H eE hal h0 hl2 hss hdl h8 HP hp ffE
        go_enter Tryz.func70, Tryz.ntmps70
        go_wp2_with (first
          | (go_at_call 63; refine HR.out.mono ?_; rintro x w1 ⟨rfl, hm⟩; have HM := Lib.hid hm; clear hm)
          | (go_at_call 95; refine (fail_s g K e 2 _ v _ HM.out.1 rfl (by decide)).mono ?_; rintro x w3 ⟨rfl, hm2⟩; have HM2 := Lib.hid hm2; clear hm2)
          | (go_at_call 98; refine (HP'.out _).mono ?_; rintro x w2 ⟨rfl, hb⟩; have HB := Lib.hid hb; have S2 := Lib.hid (HM2.out.1.below hb HM2.out.1.lt); clear hb))
        go_ret
        exact ⟨⟨n, rfl, hn, fun h => absurd (HEz.out h).2 (by decide)⟩, by rw [HE.out]; exact S2.out, gb_below (HM.out.2.trans HM2.out.2) HB.out⟩
      | none =>
        have HP := fun w1 hg1 => pup_none ⟨W.toArray⟩ w1 hg1 (by rw [hss]; exact h0) (by rw [hss]; exact hl2) (by rw [hdl]; exact hal) (by rw [hdl]; exact hp)
        generalize hxN W = n' at *
        generalize (⟨W.toArray⟩ : ByteArray) = S at *
        have HP' := Lib.hid HP
        have HR := Lib.hid H
        have HE := Lib.hid eE
        have HFF := Lib.hid ffE
        clear H eE hal h0 hl2 hss hdl h8 HP hp ffE
        go_enter Tryz.func70, Tryz.ntmps70
        go_wp2_with (first
          | (go_at_call 63; refine HR.out.mono ?_; rintro x w1 ⟨rfl, hm⟩; have HM := Lib.hid hm; clear hm)
          | (go_at_call 95; refine (fail_s g K (flE e 2) 2 _ v _ S2.out rfl (by decide)).mono ?_; rintro x w4 ⟨rfl, hm4⟩; have HM4 := Lib.hid hm4; clear hm4)
          | (go_at_call 98; refine (HP'.out _ (HG.out.kept (HM.out.2.trans HM2.out.2) HN.out.1 HN.out.2)).mono ?_; rintro x w2 ⟨⟨ty, p, rfl⟩, hb⟩; have HB := Lib.hid hb; have S2 := Lib.hid (HM2.out.1.below hb HM2.out.1.lt); clear hb)
          | (go_at_call 95; refine (fail_s g K e 2 _ v _ HM.out.1 rfl (by decide)).mono ?_; rintro x w3 ⟨rfl, hm2⟩; have HM2 := Lib.hid hm2; clear hm2))
        go_ret
        exact ⟨⟨4294967295, rfl, by decide, fun h => absurd (HEz.out h).2 (by decide)⟩, by rw [HE.out, ← HFF.out]; exact HM4.out.1, (gb_below (HM.out.2.trans HM2.out.2) HB.out).trans HM4.out.2⟩

end Go.Proofs.YtdonicaiimeleaaGreatDoor

namespace Go.Proofs.YtdonicaiimeleaaGreatDoor
set_option linter.unusedVariables false

/-- Behind i words: where the program's reader stands, and the error. -/
def it11 (l : List UInt8) (k : Nat) : Nat → Nat × Int
  | 0 => (k, 0)
  | i + 1 => (swK l (gaK l (it11 l k i).1 (it11 l k i).2) (gaE l (it11 l k i).1 (it11 l k i).2), swE l (gaK l (it11 l k i).1 (it11 l k i).2) (gaE l (it11 l k i).1 (it11 l k i).2))
/-- Word i. -/
def dgW (l : List UInt8) (k i : Nat) : List UInt8 := swW l (gaK l (it11 l k i).1 (it11 l k i).2) (gaE l (it11 l k i).1 (it11 l k i).2)
def dgE (l : List UInt8) (k : Nat) : Int := enE l (ruK l (it11 l k 5).1 (it11 l k 5).2) (it11 l k 5).2
theorem sw_two (l : List UInt8) (k : Nat) : swK l k 2 = k ∧ swE l k 2 = 2 := by
  unfold swK swE
  rw [rs_two]
  exact ⟨rfl, rfl⟩
theorem hex_gp {b : UInt8} (h : hd b = true) : gp b = false := by
  have h2 : ∀ n : Nat, n < 256 → hd (UInt8.ofNat n) = true → gp (UInt8.ofNat n) = false := by decide +kernel
  have := h2 b.toNat b.toNat_lt
  rw [UInt8.ofNat_toNat] at this
  exact this h
theorem gp_hex {b : UInt8} (h : gp b = true) : hd b = false := by
  cases hh : hd b with
  | false => rfl
  | true => rw [hex_gp hh] at h; cases h
theorem hxB_is {w : List UInt8} : hxB w = true ↔ (∀ b ∈ w, hd b = true) ∧ 1 ≤ w.length ∧ w.length ≤ 8 := by
  unfold hxB hxA
  simp only [Bool.and_eq_true, decide_eq_true_eq, List.all_eq_true]
  exact Iff.rfl
/-- A gap and a word. -/
def Hw (r w r' : List UInt8) : Prop := ∃ g, r = g ++ (w ++ r') ∧ Gs g ∧ g ≠ [] ∧ hxB w = true ∧ ∀ b ∈ r'.head?, hd b = false
theorem en_hex {r : List UInt8} (h : En r) : ∀ b ∈ r.head?, hd b = false := by
  intro b hb
  rcases h with rfl | h
  · cases hb
  · cases r with
    | nil => cases hb
    | cons c r => injection hb with hb; subst hb; exact gp_hex h
theorem sw_yes {l : List UInt8} {k : Nat} {w r' : List UInt8} (h : Hw (l.drop k) w r') : swE l (gaK l k 0) (gaE l k 0) = 0 ∧ l.drop (swK l (gaK l k 0) (gaE l k 0)) = r' ∧ swW l (gaK l k 0) (gaE l k 0) = w := by
  obtain ⟨g, e, h1, h2, h3, h4⟩ := h
  obtain ⟨hh, hp, h8⟩ := hxB_is.1 h3
  have hw0 : w ≠ [] := fun c => by rw [c] at hp; exact absurd hp (by decide)
  obtain ⟨a1, a2, a3⟩ := ga_yes e h1 h2 (wd_head (fun b hb => hex_gp (hh b hb)) hw0)
  have ht : tw hd (l.drop (k + g.length)) = w.length := by rw [a3]; exact tw_app hh h4
  rw [a1, a2]
  unfold swE swK swW
  rw [rs_zero, ht]
  refine ⟨if_neg (by omega), ?_, by rw [a3]; simp⟩
  rw [← List.drop_drop, a3]; simp
theorem sw_cases (l : List UInt8) (k : Nat) : swE l (gaK l k 0) (gaE l k 0) = 2 ∨ ∃ w r', Hw (l.drop k) w r' := by
  rcases ga_part l k with ⟨a1, a2⟩ | ⟨g, m, e, g1, g2, g3, a1, a2, a3⟩
  · left; rw [a1, a2]; exact (sw_two l k).2
  · obtain ⟨w, r', e2, h1, h2, h3, h4, h5⟩ := tw_part hd m
    by_cases hb : w.length = 0 ∨ 8 < w.length
    · left
      rw [a1, a2]
      unfold swE
      rw [rs_zero, a3, h3, if_pos hb]; rfl
    · right
      exact ⟨w, r', g, by rw [e, e2], g1, g2, hxB_is.2 ⟨h1, by omega, by omega⟩, h2⟩
/-- Words, one behind the other, each behind a gap; gaps perhaps behind the last. -/
def Ch : List (List UInt8) → List UInt8 → Prop
  | [], r => Gs r
  | w :: ws, r => ∃ r', Hw r w r' ∧ Ch ws r'
theorem ch_en : ∀ {ws : List (List UInt8)} {r : List UInt8}, Ch ws r → En r
  | [], r, h => gs_en h
  | w :: ws, r, ⟨r', ⟨g, e, h1, h2, _⟩, _⟩ => by rw [e]; exact en_app h1 h2
theorem ch_doc : ∀ {ws : List (List UInt8)} {r : List UInt8}, Ch ws r → wdL r = ws ∧ ws.all hxB = true
  | [], r, h => ⟨wdL_gaps h, rfl⟩
  | w :: ws, r, ⟨r', ⟨g, e, h1, h2, h3, _⟩, hc⟩ => by
    obtain ⟨a, b⟩ := ch_doc hc
    obtain ⟨hh, hp, h8⟩ := hxB_is.1 h3
    have hw0 : w ≠ [] := fun c => by rw [c] at hp; exact absurd hp (by decide)
    refine ⟨?_, by rw [List.all_cons, h3, b]; rfl⟩
    rw [e, wdL_cons h1 (fun b hb => hex_gp (hh b hb)) hw0 (ch_en hc), a]
theorem ch_of : ∀ {ws : List (List UInt8)} {r : List UInt8}, wdL r = ws → ws.all hxB = true → (ws = [] ∨ gpL r = true) → Ch ws r
  | [], r, h, _, _ => wd_none h
  | w :: ws, r, h, ha, hg => by
    obtain ⟨g, r', e, h1, h2, h3, h4, h5⟩ := wd_more h
    rw [List.all_cons, Bool.and_eq_true] at ha
    have hg1 : gpL r = true := by
      rcases hg with hg | hg
      · cases hg
      · exact hg
    refine ⟨r', ⟨g, e, h1, ?_, ha.1, en_hex h4⟩, ch_of h5 ha.2 ?_⟩
    · rintro rfl
      rw [e, List.nil_append] at hg1
      cases w with
      | nil => exact h3 rfl
      | cons b w => have := h2 b (by simp); simp [gpL, this] at hg1
    · rcases h4 with rfl | h4
      · left; rw [← h5]; rfl
      · exact .inr h4
theorem it_yes {l : List UInt8} {k : Nat} : ∀ {ws : List (List UInt8)} {i : Nat}, (it11 l k i).2 = 0 → Ch ws (l.drop (it11 l k i).1) →
    (it11 l k (i + ws.length)).2 = 0 ∧ Gs (l.drop (it11 l k (i + ws.length)).1) ∧ ∀ j u, ws[j]? = some u → dgW l k (i + j) = u
  | [], i, h, hc => ⟨h, hc, fun j u hj => by simp at hj⟩
  | w :: ws, i, h, ⟨r', hw, hc⟩ => by
    obtain ⟨a, b, c⟩ := sw_yes hw
    have e1 : (it11 l k (i + 1)).2 = 0 := by rw [it11, h]; exact a
    have e2 : l.drop (it11 l k (i + 1)).1 = r' := by rw [it11, h]; exact b
    have e3 : dgW l k i = w := by unfold dgW; rw [h]; exact c
    obtain ⟨x, y, z⟩ := it_yes (ws := ws) (i := i + 1) e1 (by rw [e2]; exact hc)
    have en : i + (w :: ws).length = i + 1 + ws.length := by simp; omega
    rw [en]
    refine ⟨x, y, fun j u hj => ?_⟩
    cases j with
    | zero => simp at hj; rw [← hj]; exact e3
    | succ j =>
      have := z j u (by simpa using hj)
      rwa [show i + 1 + j = i + (j + 1) by omega] at this
theorem it_two {l : List UInt8} {k i : Nat} (h : (it11 l k i).2 = 2) : ∀ n, (it11 l k (i + n)).2 = 2
  | 0 => h
  | n + 1 => by
    have ih := it_two h n
    show (it11 l k (i + n + 1)).2 = 2
    rw [it11, ih]
    show swE l (gaK l (it11 l k (i + n)).1 2) (gaE l (it11 l k (i + n)).1 2) = 2
    rw [(ga_two l _).1, (ga_two l _).2]
    exact (sw_two l _).2
theorem it_cases {l : List UInt8} {k : Nat} : ∀ (n i : Nat), (it11 l k i).2 = 0 → (it11 l k (i + n)).2 = 2 ∨ ((it11 l k (i + n)).2 = 0 ∧ ∃ ws, ws.length = n ∧ (Gs (l.drop (it11 l k (i + n)).1) → Ch ws (l.drop (it11 l k i).1)))
  | 0, i, h => .inr ⟨h, [], rfl, fun g => g⟩
  | n + 1, i, h => by
    rcases sw_cases l (it11 l k i).1 with a | ⟨w, r', hw⟩
    · left
      have e1 : (it11 l k (i + 1)).2 = 2 := by rw [it11, h]; exact a
      have := it_two e1 n
      rwa [show i + 1 + n = i + (n + 1) by omega] at this
    · obtain ⟨a, b, c⟩ := sw_yes hw
      have e1 : (it11 l k (i + 1)).2 = 0 := by rw [it11, h]; exact a
      have e2 : l.drop (it11 l k (i + 1)).1 = r' := by rw [it11, h]; exact b
      have en : i + 1 + n = i + (n + 1) := by omega
      rcases it_cases n (i + 1) e1 with x | ⟨x, ws, y, z⟩
      · left; rw [← en]; exact x
      · right
        rw [← en]
        exact ⟨x, w :: ws, by simp [y], fun g => ⟨r', hw, by rw [← e2]; exact z g⟩⟩
/-- The program's reader of digests finds what the document's does. -/
theorem dg_is (l : List UInt8) (k : Nat) : (dgE l k = 0 ∧ gpL (l.drop k) = true ∧ (wdL (l.drop k)).length = 5 ∧ suE (wdL (l.drop k)) = 0 ∧ ∀ j, j < 5 → hxN (dgW l k j) = suN (wdL (l.drop k)) j) ∨
    (dgE l k = 2 ∧ (gpL (l.drop k) = false ∨ (wdL (l.drop k)).length ≠ 5 ∨ suE (wdL (l.drop k)) = 2)) := by
  have yes : ∀ ws : List (List UInt8), ws.length = 5 → Ch ws (l.drop k) → dgE l k = 0 ∧ gpL (l.drop k) = true ∧ (wdL (l.drop k)).length = 5 ∧ suE (wdL (l.drop k)) = 0 ∧ ∀ j, j < 5 → hxN (dgW l k j) = suN (wdL (l.drop k)) j := by
    intro ws h5 hc
    obtain ⟨a, b, c⟩ := it_yes (l := l) (k := k) (ws := ws) (i := 0) rfl hc
    rw [h5, Nat.zero_add] at a b
    obtain ⟨x, y⟩ := ch_doc hc
    refine ⟨?_, ?_, by rw [x]; exact h5, ?_, fun j hj => ?_⟩
    · unfold dgE
      rw [a, en_zero, if_pos (ru_gaps b)]
    · rcases ch_en hc with hn | hn
      · exfalso
        rw [hn] at x
        rw [← x] at h5
        exact absurd h5 (by decide)
      · exact hn
    · unfold suE; rw [x, if_pos y]
    · have hj5 : j < ws.length := by omega
      have := c j ws[j] (List.getElem?_eq_getElem hj5)
      rw [Nat.zero_add] at this
      unfold suN
      rw [x, this, List.getElem?_eq_getElem hj5]; rfl
  by_cases hd : gpL (l.drop k) = true ∧ (wdL (l.drop k)).length = 5 ∧ (wdL (l.drop k)).all hxB = true
  · exact .inl (yes _ hd.2.1 (ch_of rfl hd.2.2 (.inr hd.1)))
  · rcases it_cases (l := l) (k := k) 5 0 rfl with a | ⟨a, ws, h5, hc⟩
    · right
      rw [Nat.zero_add] at a
      refine ⟨by unfold dgE; rw [a]; exact en_two _ _, ?_⟩
      by_cases h1 : gpL (l.drop k) = true
      · by_cases h2 : (wdL (l.drop k)).length = 5
        · right; right
          unfold suE
          rw [if_neg (fun c => hd ⟨h1, h2, c⟩)]
        · exact .inr (.inl h2)
      · exact .inl (by simpa using h1)
    · rw [Nat.zero_add] at a hc
      by_cases hz : l.drop (ruK l (it11 l k 5).1 0) = []
      · exact .inl (yes ws h5 (hc (ru_end hz)))
      · right
        refine ⟨by unfold dgE; rw [a, en_zero, if_neg hz], ?_⟩
        by_cases h1 : gpL (l.drop k) = true
        · by_cases h2 : (wdL (l.drop k)).length = 5
          · right; right
            unfold suE
            rw [if_neg (fun c => hd ⟨h1, h2, c⟩)]
          · exact .inr (.inl h2)
        · exact .inl (by simpa using h1)

end Go.Proofs.YtdonicaiimeleaaGreatDoor

namespace Go.Proofs.YtdonicaiimeleaaGreatDoor
open Go.RowKit
set_option linter.unusedVariables false

/-- A word's value. -/
def u (x : BitVec 32) : Int := (x.toNat : Int)
theorem u_lo (x : BitVec 32) : 0 ≤ u x := by unfold u; omega
theorem u_hi (x : BitVec 32) : u x ≤ 4294967295 := by unfold u; have := x.isLt; omega
theorem wrap32 (n : Nat) : IntKind.u32.wrap (n : Int) = ((n % 4294967296 : Nat) : Int) := by
  simp [IntKind.wrap, IntKind.signed, IntKind.bits]
theorem of_u (x : BitVec 32) : BitVec.ofInt 32 (u x) = x := by
  unfold u; apply BitVec.eq_of_toNat_eq; simp
theorem u_and (x y : BitVec 32) : bits .and .u32 (u x) (u y) = u (x &&& y) := by
  unfold bits
  show IntKind.u32.wrap (((BitVec.ofInt 32 (u x) &&& BitVec.ofInt 32 (u y)).toNat : Nat) : Int) = _
  rw [of_u, of_u, wrap32, Nat.mod_eq_of_lt (x &&& y).isLt]; rfl
theorem u_or (x y : BitVec 32) : bits .or .u32 (u x) (u y) = u (x ||| y) := by
  unfold bits
  show IntKind.u32.wrap (((BitVec.ofInt 32 (u x) ||| BitVec.ofInt 32 (u y)).toNat : Nat) : Int) = _
  rw [of_u, of_u, wrap32, Nat.mod_eq_of_lt (x ||| y).isLt]; rfl
theorem u_xor (x y : BitVec 32) : bits .xor .u32 (u x) (u y) = u (x ^^^ y) := by
  unfold bits
  show IntKind.u32.wrap (((BitVec.ofInt 32 (u x) ^^^ BitVec.ofInt 32 (u y)).toNat : Nat) : Int) = _
  rw [of_u, of_u, wrap32, Nat.mod_eq_of_lt (x ^^^ y).isLt]; rfl
theorem u_not (x : BitVec 32) : bits .xor .u32 4294967295 (u x) = u (~~~x) := by
  have h : (4294967295 : Int) = u (BitVec.allOnes 32) := by decide
  rw [h, u_xor, BitVec.allOnes_xor]
theorem u_add (x y : BitVec 32) : IntKind.u32.wrap (u x + u y) = u (x + y) := by
  unfold u
  rw [show (x.toNat : Int) + (y.toNat : Int) = ((x.toNat + y.toNat : Nat) : Int) by omega, wrap32, BitVec.toNat_add]
theorem u_shl (x : BitVec 32) (k : Nat) : IntKind.u32.wrap (u x * 2 ^ k) = u (x <<< k) := by
  unfold u
  rw [show (x.toNat : Int) * 2 ^ k = ((x.toNat * 2 ^ k : Nat) : Int) by push_cast; rfl, wrap32, BitVec.toNat_shiftLeft, Nat.shiftLeft_eq]
theorem u_shr (x : BitVec 32) (k : Nat) : u x / 2 ^ k = u (x >>> k) := by
  unfold u
  rw [BitVec.toNat_ushiftRight, Nat.shiftRight_eq_div_pow, show (2 : Int) ^ k = ((2 ^ k : Nat) : Int) by push_cast; rfl]
  rfl

/-- A word turned left. -/
def rot (x : BitVec 32) (k : Nat) : BitVec 32 := x <<< k ||| x >>> (32 - k)
/-- The state. -/
structure St where
  a : BitVec 32
  b : BitVec 32
  c : BitVec 32
  d : BitVec 32
  e : BitVec 32
/-- A round's choice, its number, and the state behind it. -/
def ff (t : Nat) (b c d : BitVec 32) : BitVec 32 := if t ≤ 19 then (b &&& c) ||| (~~~b &&& d) else if t ≤ 39 then b ^^^ c ^^^ d else if t ≤ 59 then (b &&& c) ||| (b &&& d) ||| (c &&& d) else b ^^^ c ^^^ d
def kk (t : Nat) : BitVec 32 := if t ≤ 19 then 0x5a827999#32 else if t ≤ 39 then 0x6ed9eba1#32 else if t ≤ 59 then 0x8f1bbcdc#32 else 0xca62c1d6#32
def srd (t : Nat) (x : BitVec 32) (s : St) : St := ⟨rot s.a 5 + ff t s.b s.c s.d + s.e + kk t + x, s.a, rot s.b 30, s.c, s.d⟩

end Go.Proofs.YtdonicaiimeleaaGreatDoor
