/- Get, Cut, Set; the document's Part and Get. (Written by gen4.py.) -/
import Derived.Test.YtfkkniooigdmgaaOctD
namespace Go.Proofs.Ytfkkniooigdmgaa
open Go.RowKit Go.WideShapes Go.ChangeShapes
set_option linter.unusedVariables false

/-- The part of bytes that holds so many (nothing where it isn't there). -/
def pm (l : List UInt8) (at_ many : Int) : List UInt8 := if rm l.length at_ many 1 = 0 then (l.drop at_.toNat).take many.toNat else []
/-- The number of so many bytes at a place (0 where they aren't there). -/
def gv (l : List UInt8) (at_ : Int) (S : Nat) : Nat := ebv (pm l at_ S)
theorem rm_zero {N S : Nat} {at_ many : Int} (h : rm N at_ many S = 0) : 0 ≤ at_ ∧ at_ ≤ N ∧ 0 ≤ many ∧ many ≤ (N - at_) / S := by
  unfold rm at h
  split at h
  · cases h
  · split at h
    · cases h
    · omega
theorem rm_zero1 {N : Nat} {at_ many : Int} (h : rm N at_ many 1 = 0) : ∃ a m : Nat, at_ = a ∧ many = m ∧ a + m ≤ N := by
  obtain ⟨h1, h2, h3, h4⟩ := rm_zero h
  simp only [Int.cast_ofNat_Int, Int.ediv_one] at h4
  exact ⟨at_.toNat, many.toNat, by omega, by omega, by omega⟩
theorem rm_four {N : Nat} {at_ many : Int} (h : rm N at_ many 1 ≠ 0) (h1 : 0 ≤ at_) (h2 : at_ ≤ N) (h3 : 0 ≤ many) : rm N at_ many 1 = 4 ∧ (N : Int) - at_ < many := by
  unfold rm at h ⊢
  rw [if_neg (by omega)] at h ⊢
  by_cases g : ((N : Int) - at_) / (1 : Nat) < many
  · rw [if_pos g]
    simp only [Int.cast_ofNat_Int, Int.ediv_one] at g
    exact ⟨rfl, g⟩
  · rw [if_neg g] at h; exact absurd rfl h
theorem rm_swap {N S : Nat} {at_ : Int} (hS : S = 1 ∨ S = 2 ∨ S = 4 ∨ S = 8) : rm N at_ S 1 = rm N at_ 1 S := by
  unfold rm
  by_cases h : at_ < 0 ∨ (N : Int) < at_
  · rw [if_pos (show at_ < 0 ∨ (N : Int) < at_ ∨ (S : Int) < 0 by omega), if_pos (show at_ < 0 ∨ (N : Int) < at_ ∨ (1 : Int) < 0 by omega)]
  · rw [if_neg (show ¬ (at_ < 0 ∨ (N : Int) < at_ ∨ (S : Int) < 0) by omega), if_neg (show ¬ (at_ < 0 ∨ (N : Int) < at_ ∨ (1 : Int) < 0) by omega)]
    have e : ((N : Int) - at_) / (1 : Nat) < (S : Int) ↔ ((N : Int) - at_) / (S : Nat) < 1 := by
      simp only [Int.cast_ofNat_Int, Int.ediv_one]
      rcases hS with rfl | rfl | rfl | rfl <;> simp only [Int.cast_ofNat_Int] <;> omega
    by_cases g : ((N : Int) - at_) / (1 : Nat) < (S : Int)
    · rw [if_pos g, if_pos (e.1 g)]
    · rw [if_neg g, if_neg (fun q => g (e.2 q))]
theorem rm_one {N S : Nat} {at_ : Int} (hS : S = 1 ∨ S = 2 ∨ S = 4 ∨ S = 8) (h : rm N at_ 1 S = 0) : ∃ a : Nat, at_ = a ∧ a + S ≤ N := by
  rw [← rm_swap hS] at h
  obtain ⟨a, m, h1, h2, h3⟩ := rm_zero1 h
  exact ⟨a, h1, by omega⟩
theorem pm_zero {l : List UInt8} {a m : Nat} (h : rm l.length a m 1 = 0) : pm l a m = (l.drop a).take m := by unfold pm; rw [if_pos h]; rfl
theorem pm_not {l : List UInt8} {at_ many : Int} (h : rm l.length at_ many 1 ≠ 0) : pm l at_ many = [] := by unfold pm; rw [if_neg h]
theorem pm_len {l : List UInt8} {at_ : Int} {S : Nat} : (pm l at_ S).length ≤ S := by
  unfold pm; split
  · simp; omega
  · simp

theorem part_lo {w : World} {A : Option Addr} {l : List UInt8} {c lo : Nat} (h : Rb w A l) (hA : A = none → c = 0) (hc : l.length ≤ c) (h1 : lo ≤ l.length) :
    ∃ A' c' m, m = l.drop lo ∧ (∀ w', (Instr.slice 22 (.slice A l.length c) (some (.int .i64 (lo : Int))) none none).run Try.prog w' = .ok (.slice A' m.length c') w') ∧
      Rb w A' m ∧ (A' = none → c' = 0) ∧ m.length ≤ c' ∧ c' ≤ c ∧ (lo < c → A' = A.map (·.add lo)) := by
  obtain ⟨A', c', m, hm, hr, h2⟩ := part_lh h hA hc h1 (Nat.le_refl _)
  refine ⟨A', c', m, by rw [hm]; exact List.take_of_length_le (by simp), fun w' => ?_, h2⟩
  have := hr w'
  rw [run_slice_lh w' 22 A l.length c bslice .i64 .i64 lo l.length (by omega) (by omega) (by omega)] at this
  rw [run_slice_l w' 22 A l.length c bslice .i64 lo (by omega) (by omega), ← this]
  simp
theorem part_hi {w : World} {A : Option Addr} {l : List UInt8} {c hi : Nat} (h : Rb w A l) (hA : A = none → c = 0) (hc : l.length ≤ c) (h1 : hi ≤ l.length) :
    ∃ A' c' m, m = l.take hi ∧ (∀ w', (Instr.slice 22 (.slice A l.length c) none (some (.int .i64 (hi : Int))) none).run Try.prog w' = .ok (.slice A' m.length c') w') ∧
      Rb w A' m ∧ (A' = none → c' = 0) ∧ m.length ≤ c' ∧ c' ≤ c := by
  obtain ⟨A', c', m, hm, hr, h2, h3, h4, h5, _⟩ := part_lh (lo := 0) h hA hc (Nat.zero_le _) h1
  refine ⟨A', c', m, by rw [hm]; simp, fun w' => ?_, h2, h3, h4, h5⟩
  have := hr w'
  rw [run_slice_lh w' 22 A l.length c bslice .i64 .i64 (0 : Nat) hi (by omega) (by omega) (by omega)] at this
  rw [run_slice_h w' 22 A l.length c bslice .i64 hi (by omega) (by omega), ← this]
  simp

set_option maxHeartbeats 800000 in
theorem rpart_any (A : Option Addr) (l : List UInt8) (c : Nat) (at_ many : Int) (w : World) (h : Rb w A l) (hA : A = none → c = 0) (hc : l.length ≤ c) (hl : l.length ≤ 1000000) (ha : fits at_) (hm : fits many) :
    Calls Try.prog 12 #[.slice A l.length c, .int .i64 at_, .int .i64 many] w fun e w' =>
      (∃ A' c', e = .returned (.tuple #[.slice A' (pm l at_ many).length c', .int .i64 (rm l.length at_ many 1)]) ∧ Rb w A' (pm l at_ many) ∧ (A' = none → c' = 0) ∧ (pm l at_ many).length ≤ c') ∧ w = w' := by
  unfold fits at ha hm
  by_cases h1 : rm l.length at_ many 1 = 0
  · obtain ⟨a, m, rfl, rfl, h3⟩ := rm_zero1 h1
    rw [h1, pm_zero h1]
    clear h1
    obtain ⟨A1, c1, m1, hm1, r1, R1, N1, L1, _, _⟩ := part_lo h hA hc (by omega : a ≤ l.length)
    have hm2 : m ≤ m1.length := by rw [hm1, List.length_drop]; omega
    obtain ⟨A2, c2, m2, hm3, r2, R2, N2, L2, _⟩ := part_hi R1 N1 L1 hm2
    rw [← hm1, ← hm3]
    have H3 := Lib.hid R2; have H4 := Lib.hid N2; have H5 := Lib.hid L2
    have hlen : m1.length ≤ 1000000 := by rw [hm1, List.length_drop]; omega
    clear hm1 hm3 R2 N2 L2 R1 N1 L1 h hA
    generalize m1.length = k1 at *
    generalize l.length = N at *
    go_enter Try.func12, Try.ntmps12
    go_wp2
    go_ret2
    exact ⟨⟨A2, c2, rfl, H3.out, H4.out, H5.out⟩, rfl⟩
  · rw [pm_not h1]
    by_cases g1 : at_ < 0
    · have HR := Lib.hid (show rm l.length at_ many 1 = 1 by unfold rm; rw [if_pos (.inl g1)])
      clear h1 h hA
      generalize l.length = N at *
      go_enter Try.func12, Try.ntmps12
      go_wp2
      go_ret2
      refine ⟨⟨none, 0, by rw [HR.out]; rfl, Rb.nil _, ?_⟩, rfl⟩; simp
    · by_cases g2 : many < 0
      · have HR := Lib.hid (show rm l.length at_ many 1 = 1 by unfold rm; rw [if_pos (.inr (.inr g2))])
        clear h1 h hA
        generalize l.length = N at *
        go_enter Try.func12, Try.ntmps12
        go_wp2
        go_ret2
        refine ⟨⟨none, 0, by rw [HR.out]; rfl, Rb.nil _, ?_⟩, rfl⟩; simp
      · by_cases g3 : (l.length : Int) < at_
        · have HR := Lib.hid (show rm l.length at_ many 1 = 1 by unfold rm; rw [if_pos (.inr (.inl g3))])
          clear h1 h hA
          generalize l.length = N at *
          go_enter Try.func12, Try.ntmps12
          go_wp2
          go_ret2
          refine ⟨⟨none, 0, by rw [HR.out]; rfl, Rb.nil _, ?_⟩, rfl⟩; simp
        · obtain ⟨e4, hlt⟩ := rm_four h1 (by omega) (by omega) (by omega)
          have HR := Lib.hid e4
          clear h1 e4
          obtain ⟨a, rfl⟩ := Int.eq_ofNat_of_zero_le (a := at_) (by omega)
          obtain ⟨A1, c1, m1, hm1, r1, R1, N1, L1, _, _⟩ := part_lo h hA hc (by omega : a ≤ l.length)
          have hm2 : (m1.length : Int) < many := by rw [hm1, List.length_drop]; omega
          have hlen : m1.length ≤ 1000000 := by rw [hm1, List.length_drop]; omega
          clear hm1 R1 N1 h hA
          generalize m1.length = k1 at *
          generalize l.length = N at *
          go_enter Try.func12, Try.ntmps12
          go_wp2
          go_ret2
          refine ⟨⟨none, 0, by rw [HR.out]; rfl, Rb.nil _, ?_⟩, rfl⟩; simp
set_option maxHeartbeats 800000 in
theorem rget_any (A : Option Addr) (l : List UInt8) (c : Nat) (at_ : Int) (S : Nat) (w : World) (h : Rb w A l) (hA : A = none → c = 0) (hc : l.length ≤ c) (hl : l.length ≤ 1000000) (ha : fits at_) (hS : S = 1 ∨ S = 2 ∨ S = 4 ∨ S = 8) :
    Calls Try.prog 24 #[.slice A l.length c, .int .i64 at_, .int .i64 (S : Int)] w fun e w' =>
      e = .returned (.tuple #[.int .u64 (gv l at_ S : Nat), .int .i64 (rm l.length at_ 1 S)]) ∧ w = w' := by
  have hp := rpart_any A l c at_ S w h hA hc hl ha (by unfold fits; omega)
  rw [rm_swap hS] at hp
  have hv := fun A' c' (h : Rb w A' (pm l at_ S)) => value_any A' (pm l at_ S) c' w h (Nat.le_trans pm_len (by omega))
  have hz : rm l.length at_ 1 S ≠ 0 → gv l at_ S = 0 := fun q => by
    unfold gv; rw [← rm_swap hS] at q; rw [pm_not q]; rfl
  change ∀ A' c' (h : Rb w A' (pm l at_ S)), Calls _ _ _ _ (fun e w' => e = .returned (.int .u64 (gv l at_ S : Nat)) ∧ w = w') at hv
  generalize gv l at_ S = G at *
  generalize pm l at_ S = m at *
  generalize rm l.length at_ 1 S = E at *
  generalize l.length = N at *
  have HP := Lib.hid hp; have HV := Lib.hid hv; have HZ := Lib.hid hz
  clear hp hv hz h hA
  by_cases hE : E = 0
  · subst hE
    go_enter Try.func24, Try.ntmps24
    go_wp2_with (first | (go_at_call 12; refine HP.out.mono ?_; rintro e w' ⟨⟨A', c', rfl, R, _⟩, rfl⟩; have R' := Lib.hid R; clear R) | (go_at_call 49; refine (HV.out _ _ R'.out).mono ?_; rintro e w' ⟨rfl, rfl⟩))
    go_ret2
    exact ⟨rfl, rfl⟩
  · have hb : (E != 0) = true := bne_iff_ne.mpr hE
    have hG := HZ.out hE
    subst hG
    go_enter Try.func24, Try.ntmps24
    go_wp2_with (go_at_call 12; refine HP.out.mono ?_; rintro e w' ⟨⟨A', c', rfl, R, _⟩, rfl⟩; clear R)
    go_ret2
    exact ⟨rfl, rfl⟩
set_option maxHeartbeats 800000 in
theorem get8_any (A : Option Addr) (l : List UInt8) (c : Nat) (at_ : Int) (w : World) (h : Rb w A l) (hA : A = none → c = 0) (hc : l.length ≤ c) (hl : l.length ≤ 1000000) (ha : fits at_) :
    Calls Try.prog 23 #[.slice A l.length c, .int .i64 at_] w fun e w' =>
      e = .returned (.tuple #[.int .u8 (gv l at_ 1 : Nat), ev (rm l.length at_ 1 1)]) ∧ w = w' := by
  have hr : ∀ w, Calls Try.prog 38 #[.slice A l.length c, .int .i64 at_, .int .i64 1, .int .i64 1] w fun e w' => e = .returned (ev (rm l.length at_ 1 1)) ∧ w = w' := fun w => room_any A l c at_ 1 1 w hl ha (by decide) (by omega)
  by_cases h1 : rm l.length at_ 1 1 = 0
  · have h1' := h1
    rw [← rm_swap (by omega)] at h1'
    obtain ⟨a, rfl, h2⟩ := rm_one (by omega) h1
    rw [h1] at hr ⊢
    simp only [ev_zero] at hr ⊢
    have e : gv l a 1 = ebv ((l.drop a).take 1) := by unfold gv; rw [pm_zero h1']
    rw [e]
    clear h1 h1' e
    obtain ⟨A', c', m, hm, r, R, _, _, _, _⟩ := part_lh (lo := a) (hi := a + 1) h hA hc (by omega) h2
    rw [Nat.add_sub_cancel_left] at hm
    rw [← hm]
    have hml : m.length = 1 := by rw [hm]; simp; omega
    have hj := join8_any A' m c' w R hml
    rw [show ((a + 1 : Nat) : Int) = (a : Int) + 1 by omega, hml] at r
    have HJ := Lib.hid hj; have HR := Lib.hid hr
    clear hm hml R hj h hA hr
    generalize l.length = N at *
    generalize ebv m = G at *
    go_enter Try.func23, Try.ntmps23
    go_wp2_with (first | (go_at_call 22; refine (size8_any _).mono ?_; rintro e w' ⟨rfl, rfl⟩) | (go_at_call 38; refine (HR.out _).mono ?_; rintro e w' ⟨rfl, rfl⟩) | (go_at_call 48; refine HJ.out.mono ?_; rintro e w' ⟨rfl, rfl⟩))
    go_ret2
    exact ⟨rfl, rfl⟩
  · have hz : gv l at_ 1 = 0 := by unfold gv; rw [pm_not (by rw [rm_swap (by omega)]; exact h1)]; rfl
    rw [hz]
    clear hz h hA
    generalize rm l.length at_ 1 1 = E at *
    generalize l.length = N at *
    have q0 := fun op t W x k => guard_ev op t W x k
    have q2 := fun W k => neq_ev W k
    have hb : (E != 0) = true := bne_iff_ne.mpr h1
    have HR := Lib.hid hr; clear hr
    go_enter Try.func23, Try.ntmps23
    go_wp2_with (first | (go_at_call 22; refine (size8_any _).mono ?_; rintro e w' ⟨rfl, rfl⟩) | (go_at_call 38; refine (HR.out _).mono ?_; rintro e w' ⟨rfl, rfl⟩))
    go_ret2
    exact ⟨rfl, rfl⟩
set_option maxHeartbeats 800000 in
theorem set8_any (A : Option Addr) (l : List UInt8) (c : Nat) (at_ : Int) (x : Nat) (w : World) (h : Rb w A l) (hA : A = none → c = 0) (hl : l.length ≤ 1000000) (ha : fits at_) (hx : x < 256) :
    Calls Try.prog 25 #[.slice A l.length c, .int .i64 at_, .int .u8 (x : Int)] w fun e w' =>
      (rm l.length at_ 1 1 ≠ 0 ∧ e = .returned (.tuple #[.slice none 0 0, ev (rm l.length at_ 1 1)]) ∧ w = w') ∨
      (rm l.length at_ 1 1 = 0 ∧ e = .returned (.tuple #[.slice (some ⟨w.heap.size, 0, none⟩) (splice l at_.toNat (be 1 x)).length (splice l at_.toNat (be 1 x)).length, .nilIface]) ∧ Bk w' w.heap.size (splice l at_.toNat (be 1 x)) ∧ Below w.heap.size w w') := by
  have hr : ∀ w, Calls Try.prog 38 #[.slice A l.length c, .int .i64 at_, .int .i64 1, .int .i64 1] w fun e w' => e = .returned (ev (rm l.length at_ 1 1)) ∧ w = w' := fun w => room_any A l c at_ 1 1 w hl ha (by decide) (by omega)
  by_cases h1 : rm l.length at_ 1 1 = 0
  · obtain ⟨a, rfl, h2⟩ := rm_one (by omega) h1
    rw [h1] at hr ⊢
    simp only [ev_zero] at hr ⊢
    clear h1
    have he := extended_any A l c 0 w h hl (by omega)
    rw [List.replicate_zero, List.append_nil] at he
    have hlen : (splice l a (be 1 x)).length = l.length := splice_len (by rw [be_len]; omega)
    have hsl : ∀ w', (Instr.slice 22 (.slice (some ⟨w.heap.size, 0, none⟩) l.length l.length) (some (.int .i64 (a : Int))) (some (.int .i64 ((a : Int) + 1))) none).run Try.prog w' = .ok (.slice (some ⟨w.heap.size, a, none⟩) 1 (l.length - a)) w' := fun w' => by
      rw [run_slice_lh w' 22 (some ⟨w.heap.size, 0, none⟩) l.length l.length bslice .i64 .i64 a ((a : Int) + 1) (by omega) (by omega) (by omega), bsize]
      have h3 : ¬ l.length = a := by omega
      simp [Result.andThen, sliced, h3, Addr.add]
      omega
    have hf := fun w1 (k : Bk w1 w.heap.size l) => fill8_any w.heap.size a (l.length - a) x l w1 k h2 hx
    rw [show ((a : Nat) : Int).toNat = a from rfl, hlen]
    have HE := Lib.hid he; have HF := Lib.hid hf; have HR := Lib.hid hr
    clear he hf hr hlen h hA
    have h2' : a + 1 ≤ 1000000 := by omega
    obtain ⟨g, hg⟩ : ∃ g, g = w.heap.size := ⟨_, rfl⟩
    rw [← hg] at hsl HE HF ⊢
    have HG := Lib.hid hg; clear hg
    generalize splice l a (be 1 x) = R at *
    go_enter Try.func25, Try.ntmps25
    go_wp2_with (first | (go_at_call 22; refine (size8_any _).mono ?_; rintro e w' ⟨rfl, rfl⟩) | (go_at_call 38; refine (HR.out _).mono ?_; rintro e w' ⟨rfl, rfl⟩) | (go_at_call 39; refine HE.out.mono ?_; rintro e w2 ⟨rfl, hk, hb⟩; have HK := Lib.hid hk; have HB := Lib.hid hb; clear hk hb) | (go_at_call 50; refine (HF.out _ HK.out).mono ?_; rintro e w3 ⟨rfl, hk, hgr⟩; have HK3 := Lib.hid hk; have HB3 := Lib.hid (HB.out.grown hgr (by rw [HG.out]; exact HB.out.size) (fun k e => by cases e; exact Nat.le_refl _)); clear hk hgr))
    go_ret2
    exact .inr ⟨by trivial, rfl, HK3.out, HB3.out⟩
  · clear h hA
    generalize rm l.length at_ 1 1 = E at *
    generalize l.length = N at *
    have q0 := fun op t W x k => guard_ev op t W x k
    have q2 := fun W k => neq_ev W k
    have hb : (E != 0) = true := bne_iff_ne.mpr h1
    have HR := Lib.hid hr; clear hr
    go_enter Try.func25, Try.ntmps25
    go_wp2_with (first | (go_at_call 22; refine (size8_any _).mono ?_; rintro e w' ⟨rfl, rfl⟩) | (go_at_call 38; refine (HR.out _).mono ?_; rintro e w' ⟨rfl, rfl⟩))
    go_ret2
    exact .inl ⟨h1, rfl, rfl⟩
set_option maxHeartbeats 800000 in
theorem get16_any (A : Option Addr) (l : List UInt8) (c : Nat) (at_ : Int) (w : World) (h : Rb w A l) (hA : A = none → c = 0) (hc : l.length ≤ c) (hl : l.length ≤ 1000000) (ha : fits at_) :
    Calls Try.prog 19 #[.slice A l.length c, .int .i64 at_] w fun e w' =>
      e = .returned (.tuple #[.int .u16 (gv l at_ 2 : Nat), ev (rm l.length at_ 1 2)]) ∧ w = w' := by
  have hr : ∀ w, Calls Try.prog 38 #[.slice A l.length c, .int .i64 at_, .int .i64 1, .int .i64 2] w fun e w' => e = .returned (ev (rm l.length at_ 1 2)) ∧ w = w' := fun w => room_any A l c at_ 1 2 w hl ha (by decide) (by omega)
  by_cases h1 : rm l.length at_ 1 2 = 0
  · have h1' := h1
    rw [← rm_swap (by omega)] at h1'
    obtain ⟨a, rfl, h2⟩ := rm_one (by omega) h1
    rw [h1] at hr ⊢
    simp only [ev_zero] at hr ⊢
    have e : gv l a 2 = ebv ((l.drop a).take 2) := by unfold gv; rw [pm_zero h1']
    rw [e]
    clear h1 h1' e
    obtain ⟨A', c', m, hm, r, R, _, _, _, _⟩ := part_lh (lo := a) (hi := a + 2) h hA hc (by omega) h2
    rw [Nat.add_sub_cancel_left] at hm
    rw [← hm]
    have hml : m.length = 2 := by rw [hm]; simp; omega
    have hj := join16_any A' m c' w R hml
    rw [show ((a + 2 : Nat) : Int) = (a : Int) + 2 by omega, hml] at r
    have HJ := Lib.hid hj; have HR := Lib.hid hr
    clear hm hml R hj h hA hr
    generalize l.length = N at *
    generalize ebv m = G at *
    go_enter Try.func19, Try.ntmps19
    go_wp2_with (first | (go_at_call 29; refine (size16_any _).mono ?_; rintro e w' ⟨rfl, rfl⟩) | (go_at_call 38; refine (HR.out _).mono ?_; rintro e w' ⟨rfl, rfl⟩) | (go_at_call 45; refine HJ.out.mono ?_; rintro e w' ⟨rfl, rfl⟩))
    go_ret2
    exact ⟨rfl, rfl⟩
  · have hz : gv l at_ 2 = 0 := by unfold gv; rw [pm_not (by rw [rm_swap (by omega)]; exact h1)]; rfl
    rw [hz]
    clear hz h hA
    generalize rm l.length at_ 1 2 = E at *
    generalize l.length = N at *
    have q0 := fun op t W x k => guard_ev op t W x k
    have q2 := fun W k => neq_ev W k
    have hb : (E != 0) = true := bne_iff_ne.mpr h1
    have HR := Lib.hid hr; clear hr
    go_enter Try.func19, Try.ntmps19
    go_wp2_with (first | (go_at_call 29; refine (size16_any _).mono ?_; rintro e w' ⟨rfl, rfl⟩) | (go_at_call 38; refine (HR.out _).mono ?_; rintro e w' ⟨rfl, rfl⟩))
    go_ret2
    exact ⟨rfl, rfl⟩
set_option maxHeartbeats 800000 in
theorem set16_any (A : Option Addr) (l : List UInt8) (c : Nat) (at_ : Int) (x : Nat) (w : World) (h : Rb w A l) (hA : A = none → c = 0) (hl : l.length ≤ 1000000) (ha : fits at_) (hx : x < 65536) :
    Calls Try.prog 30 #[.slice A l.length c, .int .i64 at_, .int .u16 (x : Int)] w fun e w' =>
      (rm l.length at_ 1 2 ≠ 0 ∧ e = .returned (.tuple #[.slice none 0 0, ev (rm l.length at_ 1 2)]) ∧ w = w') ∨
      (rm l.length at_ 1 2 = 0 ∧ e = .returned (.tuple #[.slice (some ⟨w.heap.size, 0, none⟩) (splice l at_.toNat (be 2 x)).length (splice l at_.toNat (be 2 x)).length, .nilIface]) ∧ Bk w' w.heap.size (splice l at_.toNat (be 2 x)) ∧ Below w.heap.size w w') := by
  have hr : ∀ w, Calls Try.prog 38 #[.slice A l.length c, .int .i64 at_, .int .i64 1, .int .i64 2] w fun e w' => e = .returned (ev (rm l.length at_ 1 2)) ∧ w = w' := fun w => room_any A l c at_ 1 2 w hl ha (by decide) (by omega)
  by_cases h1 : rm l.length at_ 1 2 = 0
  · obtain ⟨a, rfl, h2⟩ := rm_one (by omega) h1
    rw [h1] at hr ⊢
    simp only [ev_zero] at hr ⊢
    clear h1
    have he := extended_any A l c 0 w h hl (by omega)
    rw [List.replicate_zero, List.append_nil] at he
    have hlen : (splice l a (be 2 x)).length = l.length := splice_len (by rw [be_len]; omega)
    have hsl : ∀ w', (Instr.slice 22 (.slice (some ⟨w.heap.size, 0, none⟩) l.length l.length) (some (.int .i64 (a : Int))) (some (.int .i64 ((a : Int) + 2))) none).run Try.prog w' = .ok (.slice (some ⟨w.heap.size, a, none⟩) 2 (l.length - a)) w' := fun w' => by
      rw [run_slice_lh w' 22 (some ⟨w.heap.size, 0, none⟩) l.length l.length bslice .i64 .i64 a ((a : Int) + 2) (by omega) (by omega) (by omega), bsize]
      have h3 : ¬ l.length = a := by omega
      simp [Result.andThen, sliced, h3, Addr.add]
      omega
    have hf := fun w1 (k : Bk w1 w.heap.size l) => fill16_any w.heap.size a (l.length - a) x l w1 k h2 hx
    rw [show ((a : Nat) : Int).toNat = a from rfl, hlen]
    have HE := Lib.hid he; have HF := Lib.hid hf; have HR := Lib.hid hr
    clear he hf hr hlen h hA
    have h2' : a + 2 ≤ 1000000 := by omega
    obtain ⟨g, hg⟩ : ∃ g, g = w.heap.size := ⟨_, rfl⟩
    rw [← hg] at hsl HE HF ⊢
    have HG := Lib.hid hg; clear hg
    generalize splice l a (be 2 x) = R at *
    go_enter Try.func30, Try.ntmps30
    go_wp2_with (first | (go_at_call 29; refine (size16_any _).mono ?_; rintro e w' ⟨rfl, rfl⟩) | (go_at_call 38; refine (HR.out _).mono ?_; rintro e w' ⟨rfl, rfl⟩) | (go_at_call 39; refine HE.out.mono ?_; rintro e w2 ⟨rfl, hk, hb⟩; have HK := Lib.hid hk; have HB := Lib.hid hb; clear hk hb) | (go_at_call 42; refine (HF.out _ HK.out).mono ?_; rintro e w3 ⟨rfl, hk, hgr⟩; have HK3 := Lib.hid hk; have HB3 := Lib.hid (HB.out.grown hgr (by rw [HG.out]; exact HB.out.size) (fun k e => by cases e; exact Nat.le_refl _)); clear hk hgr))
    go_ret2
    exact .inr ⟨by trivial, rfl, HK3.out, HB3.out⟩
  · clear h hA
    generalize rm l.length at_ 1 2 = E at *
    generalize l.length = N at *
    have q0 := fun op t W x k => guard_ev op t W x k
    have q2 := fun W k => neq_ev W k
    have hb : (E != 0) = true := bne_iff_ne.mpr h1
    have HR := Lib.hid hr; clear hr
    go_enter Try.func30, Try.ntmps30
    go_wp2_with (first | (go_at_call 29; refine (size16_any _).mono ?_; rintro e w' ⟨rfl, rfl⟩) | (go_at_call 38; refine (HR.out _).mono ?_; rintro e w' ⟨rfl, rfl⟩))
    go_ret2
    exact .inl ⟨h1, rfl, rfl⟩
set_option maxHeartbeats 800000 in
theorem get32_any (A : Option Addr) (l : List UInt8) (c : Nat) (at_ : Int) (w : World) (h : Rb w A l) (hA : A = none → c = 0) (hc : l.length ≤ c) (hl : l.length ≤ 1000000) (ha : fits at_) :
    Calls Try.prog 33 #[.slice A l.length c, .int .i64 at_] w fun e w' =>
      e = .returned (.tuple #[.int .u32 (gv l at_ 4 : Nat), ev (rm l.length at_ 1 4)]) ∧ w = w' := by
  have hr : ∀ w, Calls Try.prog 38 #[.slice A l.length c, .int .i64 at_, .int .i64 1, .int .i64 4] w fun e w' => e = .returned (ev (rm l.length at_ 1 4)) ∧ w = w' := fun w => room_any A l c at_ 1 4 w hl ha (by decide) (by omega)
  by_cases h1 : rm l.length at_ 1 4 = 0
  · have h1' := h1
    rw [← rm_swap (by omega)] at h1'
    obtain ⟨a, rfl, h2⟩ := rm_one (by omega) h1
    rw [h1] at hr ⊢
    simp only [ev_zero] at hr ⊢
    have e : gv l a 4 = ebv ((l.drop a).take 4) := by unfold gv; rw [pm_zero h1']
    rw [e]
    clear h1 h1' e
    obtain ⟨A', c', m, hm, r, R, _, _, _, _⟩ := part_lh (lo := a) (hi := a + 4) h hA hc (by omega) h2
    rw [Nat.add_sub_cancel_left] at hm
    rw [← hm]
    have hml : m.length = 4 := by rw [hm]; simp; omega
    have hj := join32_any A' m c' w R hml
    rw [show ((a + 4 : Nat) : Int) = (a : Int) + 4 by omega, hml] at r
    have HJ := Lib.hid hj; have HR := Lib.hid hr
    clear hm hml R hj h hA hr
    generalize l.length = N at *
    generalize ebv m = G at *
    go_enter Try.func33, Try.ntmps33
    go_wp2_with (first | (go_at_call 32; refine (size32_any _).mono ?_; rintro e w' ⟨rfl, rfl⟩) | (go_at_call 38; refine (HR.out _).mono ?_; rintro e w' ⟨rfl, rfl⟩) | (go_at_call 46; refine HJ.out.mono ?_; rintro e w' ⟨rfl, rfl⟩))
    go_ret2
    exact ⟨rfl, rfl⟩
  · have hz : gv l at_ 4 = 0 := by unfold gv; rw [pm_not (by rw [rm_swap (by omega)]; exact h1)]; rfl
    rw [hz]
    clear hz h hA
    generalize rm l.length at_ 1 4 = E at *
    generalize l.length = N at *
    have q0 := fun op t W x k => guard_ev op t W x k
    have q2 := fun W k => neq_ev W k
    have hb : (E != 0) = true := bne_iff_ne.mpr h1
    have HR := Lib.hid hr; clear hr
    go_enter Try.func33, Try.ntmps33
    go_wp2_with (first | (go_at_call 32; refine (size32_any _).mono ?_; rintro e w' ⟨rfl, rfl⟩) | (go_at_call 38; refine (HR.out _).mono ?_; rintro e w' ⟨rfl, rfl⟩))
    go_ret2
    exact ⟨rfl, rfl⟩
set_option maxHeartbeats 800000 in
theorem set32_any (A : Option Addr) (l : List UInt8) (c : Nat) (at_ : Int) (x : Nat) (w : World) (h : Rb w A l) (hA : A = none → c = 0) (hl : l.length ≤ 1000000) (ha : fits at_) (hx : x < 4294967296) :
    Calls Try.prog 34 #[.slice A l.length c, .int .i64 at_, .int .u32 (x : Int)] w fun e w' =>
      (rm l.length at_ 1 4 ≠ 0 ∧ e = .returned (.tuple #[.slice none 0 0, ev (rm l.length at_ 1 4)]) ∧ w = w') ∨
      (rm l.length at_ 1 4 = 0 ∧ e = .returned (.tuple #[.slice (some ⟨w.heap.size, 0, none⟩) (splice l at_.toNat (be 4 x)).length (splice l at_.toNat (be 4 x)).length, .nilIface]) ∧ Bk w' w.heap.size (splice l at_.toNat (be 4 x)) ∧ Below w.heap.size w w') := by
  have hr : ∀ w, Calls Try.prog 38 #[.slice A l.length c, .int .i64 at_, .int .i64 1, .int .i64 4] w fun e w' => e = .returned (ev (rm l.length at_ 1 4)) ∧ w = w' := fun w => room_any A l c at_ 1 4 w hl ha (by decide) (by omega)
  by_cases h1 : rm l.length at_ 1 4 = 0
  · obtain ⟨a, rfl, h2⟩ := rm_one (by omega) h1
    rw [h1] at hr ⊢
    simp only [ev_zero] at hr ⊢
    clear h1
    have he := extended_any A l c 0 w h hl (by omega)
    rw [List.replicate_zero, List.append_nil] at he
    have hlen : (splice l a (be 4 x)).length = l.length := splice_len (by rw [be_len]; omega)
    have hsl : ∀ w', (Instr.slice 22 (.slice (some ⟨w.heap.size, 0, none⟩) l.length l.length) (some (.int .i64 (a : Int))) (some (.int .i64 ((a : Int) + 4))) none).run Try.prog w' = .ok (.slice (some ⟨w.heap.size, a, none⟩) 4 (l.length - a)) w' := fun w' => by
      rw [run_slice_lh w' 22 (some ⟨w.heap.size, 0, none⟩) l.length l.length bslice .i64 .i64 a ((a : Int) + 4) (by omega) (by omega) (by omega), bsize]
      have h3 : ¬ l.length = a := by omega
      simp [Result.andThen, sliced, h3, Addr.add]
      omega
    have hf := fun w1 (k : Bk w1 w.heap.size l) => fill32_any w.heap.size a (l.length - a) x l w1 k h2 hx
    rw [show ((a : Nat) : Int).toNat = a from rfl, hlen]
    have HE := Lib.hid he; have HF := Lib.hid hf; have HR := Lib.hid hr
    clear he hf hr hlen h hA
    have h2' : a + 4 ≤ 1000000 := by omega
    obtain ⟨g, hg⟩ : ∃ g, g = w.heap.size := ⟨_, rfl⟩
    rw [← hg] at hsl HE HF ⊢
    have HG := Lib.hid hg; clear hg
    generalize splice l a (be 4 x) = R at *
    go_enter Try.func34, Try.ntmps34
    go_wp2_with (first | (go_at_call 32; refine (size32_any _).mono ?_; rintro e w' ⟨rfl, rfl⟩) | (go_at_call 38; refine (HR.out _).mono ?_; rintro e w' ⟨rfl, rfl⟩) | (go_at_call 39; refine HE.out.mono ?_; rintro e w2 ⟨rfl, hk, hb⟩; have HK := Lib.hid hk; have HB := Lib.hid hb; clear hk hb) | (go_at_call 41; refine (HF.out _ HK.out).mono ?_; rintro e w3 ⟨rfl, hk, hgr⟩; have HK3 := Lib.hid hk; have HB3 := Lib.hid (HB.out.grown hgr (by rw [HG.out]; exact HB.out.size) (fun k e => by cases e; exact Nat.le_refl _)); clear hk hgr))
    go_ret2
    exact .inr ⟨by trivial, rfl, HK3.out, HB3.out⟩
  · clear h hA
    generalize rm l.length at_ 1 4 = E at *
    generalize l.length = N at *
    have q0 := fun op t W x k => guard_ev op t W x k
    have q2 := fun W k => neq_ev W k
    have hb : (E != 0) = true := bne_iff_ne.mpr h1
    have HR := Lib.hid hr; clear hr
    go_enter Try.func34, Try.ntmps34
    go_wp2_with (first | (go_at_call 32; refine (size32_any _).mono ?_; rintro e w' ⟨rfl, rfl⟩) | (go_at_call 38; refine (HR.out _).mono ?_; rintro e w' ⟨rfl, rfl⟩))
    go_ret2
    exact .inl ⟨h1, rfl, rfl⟩
set_option maxHeartbeats 800000 in
theorem get64_any (A : Option Addr) (l : List UInt8) (c : Nat) (at_ : Int) (w : World) (h : Rb w A l) (hA : A = none → c = 0) (hc : l.length ≤ c) (hl : l.length ≤ 1000000) (ha : fits at_) :
    Calls Try.prog 18 #[.slice A l.length c, .int .i64 at_] w fun e w' =>
      e = .returned (.tuple #[.int .u64 (gv l at_ 8 : Nat), ev (rm l.length at_ 1 8)]) ∧ w = w' := by
  have hr : ∀ w, Calls Try.prog 38 #[.slice A l.length c, .int .i64 at_, .int .i64 1, .int .i64 8] w fun e w' => e = .returned (ev (rm l.length at_ 1 8)) ∧ w = w' := fun w => room_any A l c at_ 1 8 w hl ha (by decide) (by omega)
  by_cases h1 : rm l.length at_ 1 8 = 0
  · have h1' := h1
    rw [← rm_swap (by omega)] at h1'
    obtain ⟨a, rfl, h2⟩ := rm_one (by omega) h1
    rw [h1] at hr ⊢
    simp only [ev_zero] at hr ⊢
    have e : gv l a 8 = ebv ((l.drop a).take 8) := by unfold gv; rw [pm_zero h1']
    rw [e]
    clear h1 h1' e
    obtain ⟨A', c', m, hm, r, R, _, _, _, _⟩ := part_lh (lo := a) (hi := a + 8) h hA hc (by omega) h2
    rw [Nat.add_sub_cancel_left] at hm
    rw [← hm]
    have hml : m.length = 8 := by rw [hm]; simp; omega
    have hj := join64_any A' m c' w R hml
    rw [show ((a + 8 : Nat) : Int) = (a : Int) + 8 by omega, hml] at r
    have HJ := Lib.hid hj; have HR := Lib.hid hr
    clear hm hml R hj h hA hr
    generalize l.length = N at *
    generalize ebv m = G at *
    go_enter Try.func18, Try.ntmps18
    go_wp2_with (first | (go_at_call 21; refine (size64_any _).mono ?_; rintro e w' ⟨rfl, rfl⟩) | (go_at_call 38; refine (HR.out _).mono ?_; rintro e w' ⟨rfl, rfl⟩) | (go_at_call 44; refine HJ.out.mono ?_; rintro e w' ⟨rfl, rfl⟩))
    go_ret2
    exact ⟨rfl, rfl⟩
  · have hz : gv l at_ 8 = 0 := by unfold gv; rw [pm_not (by rw [rm_swap (by omega)]; exact h1)]; rfl
    rw [hz]
    clear hz h hA
    generalize rm l.length at_ 1 8 = E at *
    generalize l.length = N at *
    have q0 := fun op t W x k => guard_ev op t W x k
    have q2 := fun W k => neq_ev W k
    have hb : (E != 0) = true := bne_iff_ne.mpr h1
    have HR := Lib.hid hr; clear hr
    go_enter Try.func18, Try.ntmps18
    go_wp2_with (first | (go_at_call 21; refine (size64_any _).mono ?_; rintro e w' ⟨rfl, rfl⟩) | (go_at_call 38; refine (HR.out _).mono ?_; rintro e w' ⟨rfl, rfl⟩))
    go_ret2
    exact ⟨rfl, rfl⟩
set_option maxHeartbeats 800000 in
theorem set64_any (A : Option Addr) (l : List UInt8) (c : Nat) (at_ : Int) (x : Nat) (w : World) (h : Rb w A l) (hA : A = none → c = 0) (hl : l.length ≤ 1000000) (ha : fits at_) (hx : x < 18446744073709551616) :
    Calls Try.prog 36 #[.slice A l.length c, .int .i64 at_, .int .u64 (x : Int)] w fun e w' =>
      (rm l.length at_ 1 8 ≠ 0 ∧ e = .returned (.tuple #[.slice none 0 0, ev (rm l.length at_ 1 8)]) ∧ w = w') ∨
      (rm l.length at_ 1 8 = 0 ∧ e = .returned (.tuple #[.slice (some ⟨w.heap.size, 0, none⟩) (splice l at_.toNat (be 8 x)).length (splice l at_.toNat (be 8 x)).length, .nilIface]) ∧ Bk w' w.heap.size (splice l at_.toNat (be 8 x)) ∧ Below w.heap.size w w') := by
  have hr : ∀ w, Calls Try.prog 38 #[.slice A l.length c, .int .i64 at_, .int .i64 1, .int .i64 8] w fun e w' => e = .returned (ev (rm l.length at_ 1 8)) ∧ w = w' := fun w => room_any A l c at_ 1 8 w hl ha (by decide) (by omega)
  by_cases h1 : rm l.length at_ 1 8 = 0
  · obtain ⟨a, rfl, h2⟩ := rm_one (by omega) h1
    rw [h1] at hr ⊢
    simp only [ev_zero] at hr ⊢
    clear h1
    have he := extended_any A l c 0 w h hl (by omega)
    rw [List.replicate_zero, List.append_nil] at he
    have hlen : (splice l a (be 8 x)).length = l.length := splice_len (by rw [be_len]; omega)
    have hsl : ∀ w', (Instr.slice 22 (.slice (some ⟨w.heap.size, 0, none⟩) l.length l.length) (some (.int .i64 (a : Int))) (some (.int .i64 ((a : Int) + 8))) none).run Try.prog w' = .ok (.slice (some ⟨w.heap.size, a, none⟩) 8 (l.length - a)) w' := fun w' => by
      rw [run_slice_lh w' 22 (some ⟨w.heap.size, 0, none⟩) l.length l.length bslice .i64 .i64 a ((a : Int) + 8) (by omega) (by omega) (by omega), bsize]
      have h3 : ¬ l.length = a := by omega
      simp [Result.andThen, sliced, h3, Addr.add]
      omega
    have hf := fun w1 (k : Bk w1 w.heap.size l) => fill64_any w.heap.size a (l.length - a) x l w1 k h2 hx
    rw [show ((a : Nat) : Int).toNat = a from rfl, hlen]
    have HE := Lib.hid he; have HF := Lib.hid hf; have HR := Lib.hid hr
    clear he hf hr hlen h hA
    have h2' : a + 8 ≤ 1000000 := by omega
    obtain ⟨g, hg⟩ : ∃ g, g = w.heap.size := ⟨_, rfl⟩
    rw [← hg] at hsl HE HF ⊢
    have HG := Lib.hid hg; clear hg
    generalize splice l a (be 8 x) = R at *
    go_enter Try.func36, Try.ntmps36
    go_wp2_with (first | (go_at_call 21; refine (size64_any _).mono ?_; rintro e w' ⟨rfl, rfl⟩) | (go_at_call 38; refine (HR.out _).mono ?_; rintro e w' ⟨rfl, rfl⟩) | (go_at_call 39; refine HE.out.mono ?_; rintro e w2 ⟨rfl, hk, hb⟩; have HK := Lib.hid hk; have HB := Lib.hid hb; clear hk hb) | (go_at_call 43; refine (HF.out _ HK.out).mono ?_; rintro e w3 ⟨rfl, hk, hgr⟩; have HK3 := Lib.hid hk; have HB3 := Lib.hid (HB.out.grown hgr (by rw [HG.out]; exact HB.out.size) (fun k e => by cases e; exact Nat.le_refl _)); clear hk hgr))
    go_ret2
    exact .inr ⟨by trivial, rfl, HK3.out, HB3.out⟩
  · clear h hA
    generalize rm l.length at_ 1 8 = E at *
    generalize l.length = N at *
    have q0 := fun op t W x k => guard_ev op t W x k
    have q2 := fun W k => neq_ev W k
    have hb : (E != 0) = true := bne_iff_ne.mpr h1
    have HR := Lib.hid hr; clear hr
    go_enter Try.func36, Try.ntmps36
    go_wp2_with (first | (go_at_call 21; refine (size64_any _).mono ?_; rintro e w' ⟨rfl, rfl⟩) | (go_at_call 38; refine (HR.out _).mono ?_; rintro e w' ⟨rfl, rfl⟩))
    go_ret2
    exact .inl ⟨h1, rfl, rfl⟩
set_option maxHeartbeats 800000 in
theorem cut_any (A : Option Addr) (l : List UInt8) (c : Nat) (at_ many : Int) (w : World) (h : Rb w A l) (hA : A = none → c = 0) (hc : l.length ≤ c) (hl : l.length ≤ 1000000) (ha : fits at_) (hm : fits many) :
    Calls Try.prog 11 #[.slice A l.length c, .int .i64 at_, .int .i64 many] w fun e w' =>
      (rm l.length at_ many 1 ≠ 0 ∧ pm l at_ many = [] ∧ e = .returned (.tuple #[.slice none 0 0, ev (rm l.length at_ many 1)]) ∧ w = w') ∨
      (rm l.length at_ many 1 = 0 ∧ e = .returned (.tuple #[.slice (some ⟨w.heap.size, 0, none⟩) (pm l at_ many).length (pm l at_ many).length, .nilIface]) ∧ Bk w' w.heap.size (pm l at_ many) ∧ Below w.heap.size w w') := by
  have hr : ∀ w, Calls Try.prog 38 #[.slice A l.length c, .int .i64 at_, .int .i64 many, .int .i64 1] w fun e w' => e = .returned (ev (rm l.length at_ many 1)) ∧ w = w' := fun w => room_any A l c at_ many 1 w hl ha hm (by omega)
  by_cases h1 : rm l.length at_ many 1 = 0
  · obtain ⟨a, m, rfl, rfl, h2⟩ := rm_zero1 h1
    rw [pm_zero h1]
    rw [h1] at hr ⊢
    simp only [ev_zero] at hr ⊢
    clear h1
    obtain ⟨A', c', p, hp, r, R, _, _, _, _⟩ := part_lh (lo := a) (hi := a + m) h hA hc (by omega) h2
    rw [Nat.add_sub_cancel_left] at hp
    rw [← hp]
    have hpl : p.length ≤ 1000000 := by rw [hp]; simp; omega
    have he := extended_any A' p c' 0 w R hpl (by omega)
    rw [List.replicate_zero, List.append_nil] at he
    rw [show ((a + m : Nat) : Int) = (a : Int) + m by omega] at r
    have HE := Lib.hid he; have HR := Lib.hid hr
    clear hp hpl R he h hA hr
    have h2' : a + m ≤ 1000000 := by omega
    generalize l.length = N at *
    generalize w.heap.size = g at *
    go_enter Try.func11, Try.ntmps11
    go_wp2_with (first | (go_at_call 38; refine (HR.out _).mono ?_; rintro e w' ⟨rfl, rfl⟩) | (go_at_call 39; refine HE.out.mono ?_; rintro e w2 ⟨rfl, hk, hb⟩; have HK := Lib.hid hk; have HB := Lib.hid hb; clear hk hb))
    go_ret2
    exact .inr ⟨by trivial, rfl, HK.out, HB.out⟩
  · have hp := Lib.hid (pm_not h1)
    clear h hA
    generalize pm l at_ many = p at *
    generalize rm l.length at_ many 1 = E at *
    generalize l.length = N at *
    have q0 := fun op t W x k => guard_ev op t W x k
    have q2 := fun W k => neq_ev W k
    have hb : (E != 0) = true := bne_iff_ne.mpr h1
    have HR := Lib.hid hr; clear hr
    go_enter Try.func11, Try.ntmps11
    go_wp2_with (go_at_call 38; refine (HR.out _).mono ?_; rintro e w' ⟨rfl, rfl⟩)
    go_ret2
    exact .inl ⟨h1, hp.out, rfl, rfl⟩
end Go.Proofs.Ytfkkniooigdmgaa
