/- Scanners: Word. (Written by gen2.py.) -/
import Derived.Test.YtelogbkhplegaaaScanD
namespace Go.Proofs.Ytelogbkhplegaaa
open Go.RowKit
set_option linter.unusedVariables false

/-- The slice at A reads as the strings ws. -/
def Rst (w : World) (A : Option Addr) (ws : List ByteArray) : Prop :=
  ws = [] ∨ ∃ b off, A = some ⟨b, off, none⟩ ∧ b < w.heap.size ∧ ∀ j z, ws[j]? = some z → w.cell? ⟨b, off + j, none⟩ = some (.string z)
theorem Rst.below {w w' : World} {A : Option Addr} {ws : List ByteArray} (h : Rst w A ws) (hb : Below w.heap.size w w') : Rst w' A ws := by
  rcases h with h0 | ⟨b, off, h1, h2, h3⟩
  · exact .inl h0
  · exact .inr ⟨b, off, h1, Nat.lt_of_lt_of_le h2 hb.size, fun j z hz => (hb.cell (p := ⟨b, off + j, none⟩) h2).trans (h3 j z hz)⟩
/-- The list, if it isn't empty, lies elsewhere. -/
def Away (ws : List ByteArray) (A : Option Addr) (g : Nat) : Prop := ws ≠ [] → ∀ ad, A = some ad → ad.block ≠ g
theorem Rst.away {w : World} {A : Option Addr} {ws : List ByteArray} {g : Nat} (h : Rst w A ws) (hg : w.heap.size ≤ g) : Away ws A g := fun h0 ad had => by
  rcases h with h1 | ⟨b, off, h1, h2, _⟩
  · exact absurd h1 h0
  · rw [h1] at had; injection had with had; subst had; show b ≠ g; omega
theorem Rst.kept {w w' : World} {A : Option Addr} {ws : List ByteArray} {g : Nat} (h : Rst w A ws) (hg : w.grownBy w' (some g)) (hne : Away ws A g) : Rst w' A ws := by
  by_cases h0 : ws = []
  · exact .inl h0
  rcases h with h1 | ⟨b, off, h1, h2, h3⟩
  · exact .inl h1
  · exact .inr ⟨b, off, h1, Nat.lt_of_lt_of_le h2 hg.size, fun j z hz => hg.cell (h3 j z hz) (by intro e; injection e with e; exact hne h0 _ h1 e)⟩
theorem Rst.cell {w : World} {A : Option Addr} {ws : List ByteArray} (h : Rst w A ws) {i : Nat} (hi : i < ws.length) : ∃ b off z, ws[i]? = some z ∧ A = some ⟨b, off, none⟩ ∧ b < w.heap.size ∧ w.cell? ⟨b, off + i, none⟩ = some (.string z) := by
  rcases h with h0 | ⟨b, off, h1, h2, h3⟩
  · rw [h0] at hi; simp at hi
  · exact ⟨b, off, _, List.getElem?_eq_getElem hi, h1, h2, h3 i _ (List.getElem?_eq_getElem hi)⟩

/-- The first of the words that is taken: its place in the list, or -1; how many bytes; is there one? -/
def wdI (r : List UInt8) (e : Int) : Nat → List ByteArray → Int
  | _, [] => -1
  | i, w :: ws => if fdT r e w.data.toList = true then (i : Int) else wdI r e (i + 1) ws
def wdN (r : List UInt8) (e : Int) : List ByteArray → Nat
  | [] => 0
  | w :: ws => if fdT r e w.data.toList = true then w.data.toList.length else wdN r e ws
def wdE (r : List UInt8) (e : Int) : List ByteArray → Int
  | [] => flE e 2
  | w :: ws => if fdT r e w.data.toList = true then e else wdE r e ws
theorem wd_step {r : List UInt8} {e : Int} {ws : List ByteArray} {j : Nat} {z : ByteArray} (h : ws[j]? = some z) (hf : fdT r e z.data.toList = false) :
    wdI r e j (ws.drop j) = wdI r e (j + 1) (ws.drop (j + 1)) ∧ wdN r e (ws.drop j) = wdN r e (ws.drop (j + 1)) ∧ wdE r e (ws.drop j) = wdE r e (ws.drop (j + 1)) := by
  obtain ⟨h1, rfl⟩ := List.getElem?_eq_some_iff.1 h
  rw [List.drop_eq_getElem_cons h1]
  refine ⟨?_, ?_, ?_⟩
  · rw [wdI, if_neg (by rw [hf]; decide)]
  · rw [wdN, if_neg (by rw [hf]; decide)]
  · rw [wdE, if_neg (by rw [hf]; decide)]
theorem wd_hit {r : List UInt8} {e : Int} {ws : List ByteArray} {j : Nat} {z : ByteArray} (h : ws[j]? = some z) (hf : fdT r e z.data.toList = true) :
    wdI r e j (ws.drop j) = (j : Int) ∧ wdN r e (ws.drop j) = z.data.toList.length ∧ wdE r e (ws.drop j) = e := by
  obtain ⟨h1, rfl⟩ := List.getElem?_eq_some_iff.1 h
  rw [List.drop_eq_getElem_cons h1]
  refine ⟨?_, ?_, ?_⟩
  · rw [wdI, if_pos hf]
  · rw [wdN, if_pos hf]
  · rw [wdE, if_pos hf]
theorem wd_end {r : List UInt8} {e : Int} {ws : List ByteArray} {j : Nat} (h : ws.length ≤ j) :
    wdI r e j (ws.drop j) = -1 ∧ wdN r e (ws.drop j) = 0 ∧ wdE r e (ws.drop j) = flE e 2 := by
  rw [List.drop_eq_nil_of_le h]
  exact ⟨rfl, rfl, rfl⟩

set_option maxHeartbeats 1600000 in
theorem word_s (g k : Nat) (e : Int) (v : Value) (s : ByteArray) (L : Option Addr) (ws : List ByteArray) (cl : Nat) (w : World) (h : Sk Ts w g v k e) (ht : Txs w g v s) (hk : k ≤ s.size) (hs : s.size ≤ 1000)
    (hL : Rst w L ws) (hLg : Away ws L g) (hLn : ws.length ≤ 100) (hLw : ∀ z ∈ ws, z.size ≤ 1000) :
    Calls Try.prog 26 #[.pointer (some ⟨g, 0, none⟩), .slice L ws.length cl] w fun x w' =>
      x = .returned (.int .i64 (wdI (rs s.data.toList k e) e 0 ws)) ∧ Mv Ts g v (k + wdN (rs s.data.toList k e) e ws) (wdE (rs s.data.toList k e) e ws) w w' := by
  have HS := Lib.hid h
  have HT := Lib.hid ht
  have HL := Lib.hid hL
  have HLg := Lib.hid hLg
  have HLw := Lib.hid hLw
  obtain ⟨r, hr⟩ : ∃ r, r = rs s.data.toList k e := ⟨_, rfl⟩
  rw [← hr]
  have HR := Lib.hid hr
  obtain ⟨I, hI⟩ : ∃ I, I = wdI r e 0 ws := ⟨_, rfl⟩
  obtain ⟨N, hN⟩ : ∃ N, N = wdN r e ws := ⟨_, rfl⟩
  obtain ⟨E, hE⟩ : ∃ E, E = wdE r e ws := ⟨_, rfl⟩
  rw [← hI, ← hN, ← hE]
  have HI := Lib.hid hI; have HN := Lib.hid hN; have HE := Lib.hid hE
  obtain ⟨nn, hnn⟩ : ∃ nn, nn = ws.length := ⟨_, rfl⟩
  rw [← hnn] at hLn ⊢
  have HNN := Lib.hid hnn
  clear h ht hL hLg hLw hr hI hN hE hnn
  go_enter Try.func26, Try.ntmps26
  go_wp2
  go_loopw [5, 6, 9] (fun _ _ i wr => ∃ j : Nat, i = .int .i64 j ∧ j ≤ nn ∧ Hid (Mv Ts g v k e w wr) ∧ Hid (I = wdI r e j (ws.drop j)) ∧ Hid (N = wdN r e (ws.drop j)) ∧ Hid (E = wdE r e (ws.drop j))) (fun _ _ i _ => nn - (intOf i).toNat)
  case atStart => exact ⟨0, rfl, Nat.zero_le _, ⟨HS.out, gb_refl _ _⟩, HI, HN, HE⟩
  case round =>
    obtain ⟨j, rfl, hj, HM, HI1, HN1, HE1⟩ := hrel
    clear HI HN HE
    by_cases hlt : j < nn
    · have hlt' : j < ws.length := by have := HNN.out; omega
      obtain ⟨b, off, z, hz, hb1, hb2, hcell⟩ := (HL.out.kept HM.out.2 HLg.out).cell hlt'
      have hsz := HLw.out z (List.mem_of_getElem? hz)
      have HZ := Lib.hid hz; clear hz
      have HF := fold_s g k e v s z wr HM.out.1 (HT.out.kept HM.out.2) hk hs hsz
      rw [← HR.out] at HF
      cases hf : fdT r e z.data.toList
      · rw [hf, fd_no hf] at HF
        obtain ⟨s1, s2, s3⟩ := wd_step HZ.out hf
        have S1 := Lib.hid s1; have S2 := Lib.hid s2; have S3 := Lib.hid s3
        have HF' := Lib.hid HF
        subst hb1
        clear HF s1 s2 s3 hf hlt'
        go_wp2_with (go_at_call 24; refine HF'.out.mono ?_; rintro x w1 ⟨rfl, hm⟩; have HM1 := Lib.hid hm; clear hm)
        go_roundw
        case rel => exact ⟨j + 1, by go_num, by omega, HM.out.then_s HM1.out, HI1.out.trans S1.out, HN1.out.trans S2.out, HE1.out.trans S3.out⟩
        case measure => simp [intOf]; omega
      · rw [hf, fd_yes hf] at HF
        obtain ⟨s1, s2, s3⟩ := wd_hit HZ.out hf
        obtain rfl : I = (j : Int) := HI1.out.trans s1
        obtain rfl : E = e := HE1.out.trans s3
        have hN2 := HN1.out.trans s2
        rw [← hN2] at HF
        have HF' := Lib.hid HF
        subst hb1
        clear HF s1 s2 s3 hf hlt' hN2 HI1 HN1 HE1
        go_wp2_with (go_at_call 24; refine HF'.out.mono ?_; rintro x w1 ⟨rfl, hm⟩; have HM1 := Lib.hid hm; clear hm)
        go_ret
        exact ⟨rfl, HM.out.then_s HM1.out⟩
    · obtain ⟨s1, s2, s3⟩ := wd_end (r := r) (e := e) (ws := ws) (j := j) (by have := HNN.out; omega)
      obtain rfl : I = -1 := HI1.out.trans s1
      obtain rfl : N = 0 := HN1.out.trans s2
      obtain rfl : E = flE e 2 := HE1.out.trans s3
      clear s1 s2 s3 HI1 HN1 HE1
      go_wp2_with (go_at_call 21; refine (fail_s g k e 2 _ v _ HM.out.1 rfl (by decide)).mono ?_; rintro x w2 ⟨rfl, hm2⟩; have HM2 := Lib.hid hm2; clear hm2)
      go_ret
      exact ⟨rfl, HM.out.then_s HM2.out⟩
set_option maxHeartbeats 1600000 in
theorem word_b (g k : Nat) (e : Int) (v : Value) (s : ByteArray) (L : Option Addr) (ws : List ByteArray) (cl : Nat) (w : World) (h : Sk Tb w g v k e) (ht : Txb w g v s) (hk : k ≤ s.size) (hs : s.size ≤ 1000)
    (hL : Rst w L ws) (hLg : Away ws L g) (hLn : ws.length ≤ 100) (hLw : ∀ z ∈ ws, z.size ≤ 1000) :
    Calls Try.prog 46 #[.pointer (some ⟨g, 0, none⟩), .slice L ws.length cl] w fun x w' =>
      x = .returned (.int .i64 (wdI (rs s.data.toList k e) e 0 ws)) ∧ Mv Tb g v (k + wdN (rs s.data.toList k e) e ws) (wdE (rs s.data.toList k e) e ws) w w' := by
  have HS := Lib.hid h
  have HT := Lib.hid ht
  have HL := Lib.hid hL
  have HLg := Lib.hid hLg
  have HLw := Lib.hid hLw
  obtain ⟨r, hr⟩ : ∃ r, r = rs s.data.toList k e := ⟨_, rfl⟩
  rw [← hr]
  have HR := Lib.hid hr
  obtain ⟨I, hI⟩ : ∃ I, I = wdI r e 0 ws := ⟨_, rfl⟩
  obtain ⟨N, hN⟩ : ∃ N, N = wdN r e ws := ⟨_, rfl⟩
  obtain ⟨E, hE⟩ : ∃ E, E = wdE r e ws := ⟨_, rfl⟩
  rw [← hI, ← hN, ← hE]
  have HI := Lib.hid hI; have HN := Lib.hid hN; have HE := Lib.hid hE
  obtain ⟨nn, hnn⟩ : ∃ nn, nn = ws.length := ⟨_, rfl⟩
  rw [← hnn] at hLn ⊢
  have HNN := Lib.hid hnn
  clear h ht hL hLg hLw hr hI hN hE hnn
  go_enter Try.func46, Try.ntmps46
  go_wp2
  go_loopw [5, 6, 9] (fun _ _ i wr => ∃ j : Nat, i = .int .i64 j ∧ j ≤ nn ∧ Hid (Mv Tb g v k e w wr) ∧ Hid (I = wdI r e j (ws.drop j)) ∧ Hid (N = wdN r e (ws.drop j)) ∧ Hid (E = wdE r e (ws.drop j))) (fun _ _ i _ => nn - (intOf i).toNat)
  case atStart => exact ⟨0, rfl, Nat.zero_le _, ⟨HS.out, gb_refl _ _⟩, HI, HN, HE⟩
  case round =>
    obtain ⟨j, rfl, hj, HM, HI1, HN1, HE1⟩ := hrel
    clear HI HN HE
    by_cases hlt : j < nn
    · have hlt' : j < ws.length := by have := HNN.out; omega
      obtain ⟨b, off, z, hz, hb1, hb2, hcell⟩ := (HL.out.kept HM.out.2 HLg.out).cell hlt'
      have hsz := HLw.out z (List.mem_of_getElem? hz)
      have HZ := Lib.hid hz; clear hz
      have HF := fold_b g k e v s z wr HM.out.1 (HT.out.kept HM.out.2) hk hs hsz
      rw [← HR.out] at HF
      cases hf : fdT r e z.data.toList
      · rw [hf, fd_no hf] at HF
        obtain ⟨s1, s2, s3⟩ := wd_step HZ.out hf
        have S1 := Lib.hid s1; have S2 := Lib.hid s2; have S3 := Lib.hid s3
        have HF' := Lib.hid HF
        subst hb1
        clear HF s1 s2 s3 hf hlt'
        go_wp2_with (go_at_call 41; refine HF'.out.mono ?_; rintro x w1 ⟨rfl, hm⟩; have HM1 := Lib.hid hm; clear hm)
        go_roundw
        case rel => exact ⟨j + 1, by go_num, by omega, HM.out.then_b HM1.out, HI1.out.trans S1.out, HN1.out.trans S2.out, HE1.out.trans S3.out⟩
        case measure => simp [intOf]; omega
      · rw [hf, fd_yes hf] at HF
        obtain ⟨s1, s2, s3⟩ := wd_hit HZ.out hf
        obtain rfl : I = (j : Int) := HI1.out.trans s1
        obtain rfl : E = e := HE1.out.trans s3
        have hN2 := HN1.out.trans s2
        rw [← hN2] at HF
        have HF' := Lib.hid HF
        subst hb1
        clear HF s1 s2 s3 hf hlt' hN2 HI1 HN1 HE1
        go_wp2_with (go_at_call 41; refine HF'.out.mono ?_; rintro x w1 ⟨rfl, hm⟩; have HM1 := Lib.hid hm; clear hm)
        go_ret
        exact ⟨rfl, HM.out.then_b HM1.out⟩
    · obtain ⟨s1, s2, s3⟩ := wd_end (r := r) (e := e) (ws := ws) (j := j) (by have := HNN.out; omega)
      obtain rfl : I = -1 := HI1.out.trans s1
      obtain rfl : N = 0 := HN1.out.trans s2
      obtain rfl : E = flE e 2 := HE1.out.trans s3
      clear s1 s2 s3 HI1 HN1 HE1
      go_wp2_with (go_at_call 48; refine (fail_b g k e 2 _ v _ HM.out.1 rfl (by decide)).mono ?_; rintro x w2 ⟨rfl, hm2⟩; have HM2 := Lib.hid hm2; clear hm2)
      go_ret
      exact ⟨rfl, HM.out.then_b HM2.out⟩
end Go.Proofs.Ytelogbkhplegaaa
