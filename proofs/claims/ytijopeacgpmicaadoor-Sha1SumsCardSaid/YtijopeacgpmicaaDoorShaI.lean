/- The document's answer for digests: Pad. -/
import Derived.Test.YtijopeacgpmicaaDoorShaH
namespace Go.Proofs.YtijopeacgpmicaaDoor
open Go.RowKit Go.WideShapes Go.ChangeShapes
set_option linter.unusedVariables false

/-- append of bytes to a row of the call's own, in a plain region; what it holds then has a name. -/
theorem app_nm {ops : Array Oper} {rest : List Oper} {o : Oper} {a : Act} {Q : Exit → Act → World → Prop} {w : World} (s x : Operand) (base : Nat) (v : Value) (m : List UInt8) (hown : Oz w base 5 .u8 v (nums m))
    (A : Option Addr) (l : List UInt8) (n c : Nat) (hn : l.length = n) (hr : Rb w A l) (hA : A = none → c = 0) (hm : m.length ≤ 1000000000) (hl : l.length ≤ 1000000000) (hbase : base ≤ w.heap.size)
    (hgd : o.guard = none) (ho : o.op = .call { callee := .builtin .append, args := #[s, x], argTypes := #[22, 22] }) (hs : a.eval s = v) (hx : a.eval x = .slice A n c)
    (h : ∀ A' c' w' r, r = m ++ l → Oz w' base 5 .u8 (.slice A' r.length c') (nums r) → Rb w' A' r → (A' = none → c' = 0) → r.length ≤ c' → Below base w w' → wpList Tryd.prog ops Q rest (a.put o.dst (.slice A' r.length c')) w') :
    wpList Tryd.prog ops Q (o :: rest) a w :=
  app_bytes s x base v m hown A l c hr hA hm hl hbase hgd ho hs (by rw [hn]; exact hx) fun A' c' w' h1 h2 h3 h4 h5 => h A' c' w' _ rfl h1 h2 h3 h4 h5
/-- A byte in a block of its own. -/
theorem one_byte (w : World) (b : UInt8) : Rb (w.alloc (.cells #[.int .u8 (b.toNat : Int)] 5)) (some ⟨w.heap.size, 0, none⟩) [b] := Bt.reads (T := 5) (heap_alloc_new w _)

/-- A slice's length. -/
def lenOf9 : Value → Nat
  | .slice _ n _ => n
  | _ => 0

set_option maxRecDepth 100000 in
set_option maxHeartbeats 2000000 in
theorem rpad_any (A : Option Addr) (l : List UInt8) (c : Nat) (w : World) (h : Rb w A l) (hA : A = none → c = 0) (hl : l.length ≤ 100000) :
    Calls Tryd.prog 15 #[.slice A l.length c] w fun e w' => ∃ A' c', e = .returned (.slice A' (padL l).length c') ∧ Rb w' A' (padL l) ∧ (A' = none → c' = 0) ∧ (padL l).length ≤ c' ∧ Below w.heap.size w w' := by
  have H := Lib.hid h; have HA := Lib.hid hA
  clear h hA
  obtain ⟨N, hN⟩ : ∃ N, N = l.length := ⟨_, rfl⟩
  rw [← hN] at hl ⊢
  have HN := Lib.hid hN
  clear hN
  go_enter Tryd.func15, Tryd.ntmps15
  go_wp2_with (first
    | (refine app_nm (.tmp 4) (.tmp 5) w.heap.size _ [] (own_nil w) A l N c HN.out.symm (H.out.below ((Below.refl _ w).alloc (Nat.le_refl _) _)) HA.out (by decide) (by have := HN.out; omega) (by simp) rfl rfl rfl rfl ?_
       intro A1 c1 w1 r1 hr1 hown _ _ _ hb
       have R1 := Lib.hid (show r1 = l from hr1); have O1 := Lib.hid hown; have B1 := Lib.hid (((Below.refl _ w).alloc (Nat.le_refl _) _).trans hb)
       clear hr1 hown hb)
    | (refine app_nm (.tmp 7) (.tmp 8) w.heap.size _ r1 (Oz.below O1.out ((Below.refl _ w1).alloc (Nat.le_refl _) _) (Nat.le_refl _)) (some ⟨w1.heap.size, 0, none⟩) [128] 1 1 rfl (one_byte w1 128) (fun h => by cases h) (by have := HN.out; rw [R1.out]; omega) (by decide) (by rw [World.size_alloc]; exact Nat.le_succ_of_le B1.out.size) rfl rfl rfl rfl ?_
       intro A2 c2 w2 r2 hr2 hown _ _ _ hb
       have R2 := Lib.hid (show r2 = l ++ 128 :: List.replicate 0 0 by rw [hr2, R1.out]; rfl); have O2 := Lib.hid hown; have B2 := Lib.hid ((B1.out.alloc B1.out.size _).trans hb)
       clear hr2 hown hb R1 O1 B1))
  go_loopw [3] (fun v wr => ∃ (k : Nat) (r : List UInt8) (A' : Option Addr) (c' : Nat), v = .slice A' r.length c' ∧ k ≤ pz N ∧ Hid (r = l ++ 128 :: List.replicate k 0) ∧ Hid (Oz wr w.heap.size 5 .u8 (.slice A' r.length c') (nums r)) ∧ Hid (Below w.heap.size w wr)) (fun v _ => pz N + N + 1 - (lenOf9 v))
  case atStart => exact ⟨0, r2, A2, c2, rfl, Nat.zero_le _, R2, O2, B2⟩
  case round =>
    obtain ⟨k, r, A', c', rfl, hk, HR, O, B⟩ := hrel
    have hrl : r.length = N + 1 + k := by rw [HR.out, HN.out]; simp; omega
    have HRL := Lib.hid hrl
    by_cases hlt : k < pz N
    · have hne : (r.length : Int) % 64 ≠ 56 := by unfold pz at hlt; omega
      have hmu : pz N + N + 1 - (r.length + 1) < pz N + N + 1 - r.length := by omega
      have hpk : k ≤ 63 := by unfold pz at hlt; omega
      have HMU := Lib.hid hmu; have HPK := Lib.hid hpk
      clear hmu hrl hpk
      go_wp2_with (refine app_nm (.tmp 14) (.tmp 15) w.heap.size _ r (Oz.below O.out ((Below.refl _ wr).alloc (Nat.le_refl _) _) (Nat.le_refl _)) (some ⟨wr.heap.size, 0, none⟩) [0] 1 1 rfl (one_byte wr 0) (fun h => by cases h) (by have := HRL.out; have := HPK.out; omega) (by decide) (by rw [World.size_alloc]; exact Nat.le_succ_of_le B.out.size) rfl rfl rfl rfl ?_
                   intro A3 c3 w3 r3 hr3 hown _ _ _ hb
                   have R3 := Lib.hid (show r3 = l ++ 128 :: List.replicate (k + 1) 0 by rw [hr3, HR.out, List.replicate_succ']; simp)
                   have L3 := Lib.hid (show r3.length = r.length + 1 by rw [hr3]; simp)
                   have O3 := Lib.hid hown; have B3 := Lib.hid ((B.out.alloc B.out.size _).trans hb)
                   clear hr3 hown hb)
      exact ⟨⟨k + 1, r3, A3, c3, rfl, by omega, R3, O3, B3⟩, by show pz N + N + 1 - r3.length < pz N + N + 1 - r.length; rw [L3.out]; exact HMU.out⟩
    · obtain rfl : k = pz N := by omega
      have heq : (r.length : Int) % 64 = 56 := by unfold pz at hrl; omega
      have hnm := fun W => number_any (N * 8) 8 W (by decide) (by omega)
      rw [show ((N * 8 : Nat) : Int) = (N : Int) * 8 by omega, be_len] at hnm
      have HNM := Lib.hid hnm
      have HP := Lib.hid (show padL l = r ++ be 8 (N * 8) by rw [HR.out]; unfold padL; rw [← HN.out, Nat.mul_comm 8 N]; simp)
      have HPZ := Lib.hid (show pz N ≤ 63 by unfold pz; omega)
      have HBL := Lib.hid (be_len 8 (N * 8))
      clear hnm hlt hk hrl
      generalize be 8 (N * 8) = L at *
      go_wp2_with (first
        | (go_at_call 21; refine (HNM.out _).mono ?_; rintro e w2 ⟨rfl, hk, hb⟩; have K2 := Lib.hid hk; have B2 := Lib.hid (B.out.trans (hb.mono B.out.size)); have O2 := Lib.hid (Oz.below O.out hb (Nat.le_refl _)); clear hk hb)
        | (refine app_nm (.tmp 17) (.tmp 22) w.heap.size _ r O2.out _ L 8 _ HBL.out K2.out.whole (fun h => by cases h) (by have := HRL.out; have := HPZ.out; omega) (by have := HBL.out; omega) B2.out.size rfl rfl rfl rfl ?_
           intro A3 c3 w3 r3 hr3 hown hrd hnil hle hb
           have R3 := Lib.hid hr3
           have RD := Lib.hid hrd; have NI := Lib.hid hnil; have LE := Lib.hid hle; have B3 := Lib.hid (B2.out.trans hb)
           clear hr3 hown hrd hnil hle hb))
      go_ret
      rw [HP.out, ← R3.out]
      exact ⟨A3, c3, rfl, RD.out, NI.out, LE.out, B3.out⟩

end Go.Proofs.YtijopeacgpmicaaDoor
