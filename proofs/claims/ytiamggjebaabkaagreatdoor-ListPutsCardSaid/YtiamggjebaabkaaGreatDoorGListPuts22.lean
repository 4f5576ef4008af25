/- Merged: ShaH, ShaI. -/
import Derived.Test.YtiamggjebaabkaaGreatDoorGListPuts21
import Derived.Test.YtiamggjebaabkaaGreatDoorGListPuts15
namespace Go.Proofs.YtiamggjebaabkaaGreatDoor
open Go.RowKit Go.WideShapes Go.ChangeShapes
set_option linter.unusedVariables false

/-- A state's words. -/
def ws5 (s : St) : List (BitVec 32) := [s.a, s.b, s.c, s.d, s.e]
def byN (s : St) (n : Nat) : List UInt8 := ((ws5 s).take n).flatMap fun x => be 4 x.toNat
theorem byN_five (s : St) : byN s 5 = byt s := by simp [byN, ws5, byt]
theorem byN_len (s : St) (n : Nat) : (byN s n).length ≤ 20 := by
  have h : ∀ p : List (BitVec 32), (p.flatMap fun x => be 4 x.toNat).length = 4 * p.length := fun p => by
    induction p with
    | nil => rfl
    | cons x p ih => rw [List.flatMap_cons, List.length_append, ih, be_len, List.length_cons]; omega
  unfold byN
  rw [h, List.length_take]
  simp [ws5]
  omega
theorem byN_succ (s : St) {n : Nat} {x : BitVec 32} (h : (ws5 s)[n]? = some x) : byN s (n + 1) = byN s n ++ be 4 x.toNat := by
  unfold byN
  rw [List.take_add_one, h]
  simp
set_option maxRecDepth 100000 in
set_option maxHeartbeats 1000000 in
theorem rbytes_any (s : St) (w : World) :
    Calls Tryz.prog 22 #[.agg (stv s)] w fun e w' => ∃ A c, e = .returned (.slice A (byt s).length c) ∧ Rb w' A (byt s) ∧ (A = none → c = 0) ∧ Below w.heap.size w w' := by
  obtain ⟨w1, hw1⟩ : ∃ w1, w1 = w.alloc (.cells (stv s) 36) := ⟨_, rfl⟩
  have P1 := Lib.hid (show Sb w1 w.heap.size s by rw [hw1]; exact heap_alloc_new w _)
  have B1 := Lib.hid (show Below w.heap.size w w1 by rw [hw1]; exact (Below.refl _ w).alloc (Nat.le_refl _) _)
  go_enter Tryz.func22, Tryz.ntmps22
  go_upto_region 1 with fail
  rw [← hw1]; clear hw1
  go_wp2
  go_loopw [3, 4] (fun v i wr => ∃ (t : Nat) (m : List UInt8), i = .int .i64 t ∧ t ≤ 5 ∧ Hid (m = byN s t) ∧ Hid (Oz wr w1.heap.size 5 .u8 v (nums m)) ∧ Hid (Below w1.heap.size w1 wr)) (fun _ i _ => 5 - (intOf i).toNat)
  case atStart => exact ⟨0, [], rfl, by omega, Lib.hid rfl, Lib.hid (Oz.nil _ _ _), Lib.hid (Below.refl _ _)⟩
  case round =>
    obtain ⟨t, m, rfl, ht, HM, O, B⟩ := hrel
    by_cases hlt : t < 5
    · obtain ⟨c0, c1, c2, c3, c4⟩ := (P1.out.keep B.out).all
      have hx : ∃ x, (ws5 s)[t]? = some x ∧ wr.cell? ⟨w.heap.size, t, none⟩ = some (.int .u32 (u x)) := by
        rcases (by omega : t = 0 ∨ t = 1 ∨ t = 2 ∨ t = 3 ∨ t = 4) with rfl | rfl | rfl | rfl | rfl
        · exact ⟨_, rfl, c0⟩
        · exact ⟨_, rfl, c1⟩
        · exact ⟨_, rfl, c2⟩
        · exact ⟨_, rfl, c3⟩
        · exact ⟨_, rfl, c4⟩
      clear c0 c1 c2 c3 c4
      obtain ⟨x, hx, cx⟩ := hx
      have HM1 := Lib.hid (show byN s (t + 1) = m ++ be 4 x.toNat by rw [byN_succ s hx, HM.out])
      have HML := Lib.hid (show m.length ≤ 20 by rw [HM.out]; exact byN_len s t)
      have HN := Lib.hid (fun W => number_any x.toNat 4 W (by decide) (by have := x.isLt; omega))
      have hux : u x = (x.toNat : Int) := rfl
      rw [hux] at cx
      have HX := Lib.hid x.isLt
      clear hx hux HM
      have hbl : (be 4 x.toNat).length = 4 := be_len _ _
      have HBL := Lib.hid hbl
      rw [hbl] at HN
      clear hbl
      generalize be 4 x.toNat = L at *
      generalize x.toNat = X at *
      have hxx : X < 4294967296 := HX.out
      go_wp2_with (first
        | (go_at_call 49; refine (HN.out _).mono ?_; rintro e w2 ⟨rfl, hk, hb⟩; have K2 := Lib.hid hk; have B2 := Lib.hid (B.out.trans (hb.mono B.out.size)); have O2 := Lib.hid (Oz.below O.out hb (Nat.le_refl _)); clear hk hb)
        | (refine app_bytes (.tmp 9) (.tmp 14) w1.heap.size _ m O2.out _ L _ K2.out.whole (fun h => by cases h) (by have := HML.out; omega) (by have := HBL.out; omega) B2.out.size rfl rfl rfl (by rw [HBL.out]; rfl) ?_; intro A' c' w3 hown _ _ _ hb; have O3 := Lib.hid hown; have B3 := Lib.hid (B2.out.trans hb); clear hown hb))
      exact ⟨⟨t + 1, m ++ L, by go_num, by omega, Lib.hid HM1.out.symm, Lib.hid (by rw [← List.length_append]; exact O3.out), B3⟩, by simp [intOf]; omega⟩
    · obtain rfl : t = 5 := by omega
      obtain rfl : m = byt s := by rw [HM.out, byN_five]
      obtain ⟨A, c, rfl, hr, hA, -⟩ := own_reads O.out
      have HR := Lib.hid hr; have HA := Lib.hid hA
      clear hr hA hlt ht HM O
      go_wp2_with fail
      go_ret
      exact ⟨A, c, rfl, HR.out, HA.out, B1.out.trans (B.out.mono B1.out.size)⟩

/-- A sign of a text of sixteen. -/
theorem sign_at (n : Nat) (h : n < 16) (w : World) : (Instr.slice 9 (.string ⟨#[48, 49, 50, 51, 52, 53, 54, 55, 56, 57, 97, 98, 99, 100, 101, 102]⟩) (some (.int .u8 (n : Int))) (some (.int .u8 ((n : Int) + 1))) none).run Tryz.prog w = .ok (.string ⟨[ssg n].toArray⟩) w := by
  rcases (by omega : n = 0 ∨ n = 1 ∨ n = 2 ∨ n = 3 ∨ n = 4 ∨ n = 5 ∨ n = 6 ∨ n = 7 ∨ n = 8 ∨ n = 9 ∨ n = 10 ∨ n = 11 ∨ n = 12 ∨ n = 13 ∨ n = 14 ∨ n = 15) with rfl | rfl | rfl | rfl | rfl | rfl | rfl | rfl | rfl | rfl | rfl | rfl | rfl | rfl | rfl | rfl <;> kernel_rfl
theorem sums9 (a : List UInt8) (x y : UInt8) (ha : a.length ≤ 1000) : ∃ X1 : ByteArray,
    (∀ W, (Op.stringOp .add ⟨[x].toArray⟩ ⟨[y].toArray⟩).run Tryz.prog W = .ok (.string X1) W) ∧ (∀ W, (Op.stringOp .add ⟨a.toArray⟩ X1).run Tryz.prog W = .ok (.string ⟨(a ++ [x, y]).toArray⟩) W) := by
  have f := fun (x y : List UInt8) (hx : x.length ≤ 1000) (hy : y.length ≤ 1000) W => run_string_add_lists (P := Tryz.prog) (w := W) x y (by omega) (by omega)
  exact ⟨⟨([x] ++ [y]).toArray⟩, f _ _ (by simp) (by simp), f _ _ ha (by simp)⟩

set_option maxRecDepth 100000 in
set_option maxHeartbeats 2000000 in
theorem rhex_any (A : Option Addr) (D : List UInt8) (c : Nat) (w : World) (h : Rb w A D) (hD : D.length ≤ 100) :
    Calls Tryz.prog 48 #[.slice A D.length c] w fun e w' => e = .returned (.string ⟨(hxL D).toArray⟩) ∧ Below w.heap.size w w' := by
  have H := Lib.hid h
  have HD := Lib.hid hD
  clear h
  obtain ⟨N, hN⟩ : ∃ N, N = D.length := ⟨_, rfl⟩
  rw [← hN] at hD ⊢
  have HN := Lib.hid hN
  clear hN
  go_enter Tryz.func48, Tryz.ntmps48
  go_wp2
  go_loopw [4, 5] (fun v i wr => ∃ (t : Nat) (m : List UInt8), i = .int .i64 t ∧ v = .string ⟨m.toArray⟩ ∧ t ≤ N ∧ Hid (m = hxL (D.take t)) ∧ Hid (Below w.heap.size w wr)) (fun _ i _ => N - (intOf i).toNat)
  case atStart => exact ⟨0, [], rfl, rfl, by omega, Lib.hid rfl, Lib.hid (Below.refl _ _)⟩
  case round =>
    obtain ⟨t, m, rfl, rfl, ht, HM, B⟩ := hrel
    by_cases hlt : t < N
    · have hlt' : t < D.length := by rw [← HN.out]; exact hlt
      obtain ⟨b, off, rfl, -, hc⟩ := (H.out.below B.out).cell hlt'
      have hbx : (D[t]'hlt').toNat < 256 := UInt8.toNat_lt _
      have hm1 : hxL (D.take (t + 1)) = m ++ [ssg ((D[t]'hlt').toNat / 16), ssg ((D[t]'hlt').toNat % 16)] := by
        rw [List.take_succ_eq_append_getElem hlt', hx_snoc, HM.out]
      have hml : m.length ≤ 1000 := by rw [HM.out, hxL_len, List.length_take]; have := HD.out; omega
      obtain ⟨X1, s1, s2⟩ := sums9 m (ssg ((D[t]'hlt').toNat / 16)) (ssg ((D[t]'hlt').toNat % 16)) hml
      rw [← hm1] at s2
      clear hm1 hml HM
      obtain ⟨y, hy⟩ : ∃ y, y = (D[t]'hlt').toNat := ⟨_, rfl⟩
      rw [← hy] at hc s1 hbx
      have d1 := fun w => sign_at (y / 16) (by omega) w
      have d2 := fun w => sign_at (y % 16) (by omega) w
      have hq : (y : Int) / 16 = ((y / 16 : Nat) : Int) := by omega
      have hr : (y : Int) % 16 = ((y % 16 : Nat) : Int) := by omega
      have hq2 : ((y / 16 : Nat) : Int) + 1 ≤ 255 := by omega
      have hr2 : ((y % 16 : Nat) : Int) + 1 ≤ 255 := by omega
      clear hy hlt'
      have HBX := Lib.hid hbx
      clear hbx
      generalize y / 16 = q at *
      generalize y % 16 = r at *
      generalize ssg q = sq at *
      generalize ssg r = sr at *
      obtain ⟨m1, e1⟩ : ∃ m1, m1 = hxL (D.take (t + 1)) := ⟨_, rfl⟩
      rw [← e1] at s2
      have E1 := Lib.hid e1
      clear e1
      go_upto_region 6 with fail
      go_quiet (fail)
      have BB : Hid (Below w.heap.size w (wr.drewN nq)) := Lib.hid (B.out.trans ⟨rfl, rfl, rfl, Nat.le_refl _, fun _ _ => rfl⟩)
      generalize wr.drewN nq = w9 at *
      clear s1 s2 d1 d2 hc
      go_wp2_with fail
      exact ⟨⟨t + 1, m1, by go_num, rfl, by omega, E1, BB⟩, by simp [intOf]; omega⟩
    · obtain rfl : t = N := by omega
      obtain rfl : m = hxL D := by rw [HM.out, HN.out, List.take_length]
      clear hlt ht HM
      go_wp2_with fail
      go_ret
      exact ⟨rfl, B.out⟩

end Go.Proofs.YtiamggjebaabkaaGreatDoor

namespace Go.Proofs.YtiamggjebaabkaaGreatDoor
open Go.RowKit Go.WideShapes Go.ChangeShapes
set_option linter.unusedVariables false

/-- append of bytes to a row of the call's own, in a plain region; what it holds then has a name. -/
theorem app_nm {ops : Array Oper} {rest : List Oper} {o : Oper} {a : Act} {Q : Exit → Act → World → Prop} {w : World} (s x : Operand) (base : Nat) (v : Value) (m : List UInt8) (hown : Oz w base 5 .u8 v (nums m))
    (A : Option Addr) (l : List UInt8) (n c : Nat) (hn : l.length = n) (hr : Rb w A l) (hA : A = none → c = 0) (hm : m.length ≤ 1000000000) (hl : l.length ≤ 1000000000) (hbase : base ≤ w.heap.size)
    (hgd : o.guard = none) (ho : o.op = .call { callee := .builtin .append, args := #[s, x], argTypes := #[59, 59] }) (hs : a.eval s = v) (hx : a.eval x = .slice A n c)
    (h : ∀ A' c' w' r, r = m ++ l → Oz w' base 5 .u8 (.slice A' r.length c') (nums r) → Rb w' A' r → (A' = none → c' = 0) → r.length ≤ c' → Below base w w' → wpList Tryz.prog ops Q rest (a.put o.dst (.slice A' r.length c')) w') :
    wpList Tryz.prog ops Q (o :: rest) a w :=
  app_bytes s x base v m hown A l c hr hA hm hl hbase hgd ho hs (by rw [hn]; exact hx) fun A' c' w' h1 h2 h3 h4 h5 => h A' c' w' _ rfl h1 h2 h3 h4 h5
/-- A byte in a block of its own. -/
theorem one_byte (w : World) (b : UInt8) : Rb (w.alloc (.cells #[.int .u8 (b.toNat : Int)] 5)) (some ⟨w.heap.size, 0, none⟩) [b] := Bt.reads (T := 5) (heap_alloc_new w _)

/-- A slice's length. -/
def lenOf9 : Value → Nat
  | .slice _ n _ => n
  | _ => 0

set_option maxRecDepth 100000 in
set_option maxHeartbeats 2000000 in
theorem rpad_any (A : Option Addr) (l : List UInt8) (c : Nat) (w : World) (h : Rb w A l) (hA : A = none → c = 0) (hl : l.length ≤ 100000) :
    Calls Tryz.prog 69 #[.slice A l.length c] w fun e w' => ∃ A' c', e = .returned (.slice A' (padL l).length c') ∧ Rb w' A' (padL l) ∧ (A' = none → c' = 0) ∧ (padL l).length ≤ c' ∧ Below w.heap.size w w' := by
  have H := Lib.hid h; have HA := Lib.hid hA
  clear h hA
  obtain ⟨N, hN⟩ : ∃ N, N = l.length := ⟨_, rfl⟩
  rw [← hN] at hl ⊢
  have HN := Lib.hid hN
  clear hN
  go_enter Tryz.func69, Tryz.ntmps69
  go_wp2_with (first
    | (refine app_nm (.tmp 4) (.tmp 5) w.heap.size _ [] (own_nil w) A l N c HN.out.symm (H.out.below ((Below.refl _ w).alloc (Nat.le_refl _) _)) HA.out (by decide) (by have := HN.out; omega) (by simp) rfl rfl rfl rfl ?_
       intro A1 c1 w1 r1 hr1 hown _ _ _ hb
       have R1 := Lib.hid (show r1 = l from hr1); have O1 := Lib.hid hown; have B1 := Lib.hid (((Below.refl _ w).alloc (Nat.le_refl _) _).trans hb)
       clear hr1 hown hb)
    | (refine app_nm (.tmp 7) (.tmp 8) w.heap.size _ r1 (Oz.below O1.out ((Below.refl _ w1).alloc (Nat.le_refl _) _) (Nat.le_refl _)) (some ⟨w1.heap.size, 0, none⟩) [128] 1 1 rfl (one_byte w1 128) (fun h => by cases h) (by have := HN.out; rw [R1.out]; omega) (by decide) (by rw [World.size_alloc]; exact Nat.le_succ_of_le B1.out.size) rfl rfl rfl rfl ?_
       intro A2 c2 w2 r2 hr2 hown _ _ _ hb
       have R2 := Lib.hid (show r2 = l ++ 128 :: List.replicate 0 0 by rw [hr2, R1.out]; rfl); have O2 := Lib.hid hown; have B2 := Lib.hid ((B1.out.alloc B1.out.size _).trans hb)
       clear hr2 hown hb R1 O1 B1))
  go_loopw [3] (fun v wr => ∃ (k : Nat) (r : List UInt8) (A' : Option Addr) (c' : Nat), v = .slice A' r.length c' ∧ k ≤ pz N ∧ Hid (r = l ++ 128 :: List.replicate k 0) ∧ Hid (Oz wr w.heap.size 5 .u8 (.slice A' r.length c') (nums r)) ∧ Hid (Below w.heap.size w wr)) (fun v _ => pz N + N + 1 - (lenOf9 v))
  case atStart => exact ⟨0, r2, A2, c2, rfl, Nat.zero_le _, R2, O2, B2⟩
  case round =>
    obtain ⟨k, r, A', c', rfl, hk, HR, O, B⟩ := hrel
    have hrl : r.length = N + 1 + k := by rw [HR.out, HN.out]; simp; omega
    have HRL := Lib.hid hrl
    by_cases hlt : k < pz N
    · have hne : (r.length : Int) % 64 ≠ 56 := by unfold pz at hlt; omega
      have hmu : pz N + N + 1 - (r.length + 1) < pz N + N + 1 - r.length := by omega
      have hpk : k ≤ 63 := by unfold pz at hlt; omega
      have HMU := Lib.hid hmu; have HPK := Lib.hid hpk
      clear hmu hrl hpk
      go_wp2_with (refine app_nm (.tmp 14) (.tmp 15) w.heap.size _ r (Oz.below O.out ((Below.refl _ wr).alloc (Nat.le_refl _) _) (Nat.le_refl _)) (some ⟨wr.heap.size, 0, none⟩) [0] 1 1 rfl (one_byte wr 0) (fun h => by cases h) (by have := HRL.out; have := HPK.out; omega) (by decide) (by rw [World.size_alloc]; exact Nat.le_succ_of_le B.out.size) rfl rfl rfl rfl ?_
                   intro A3 c3 w3 r3 hr3 hown _ _ _ hb
                   have R3 := Lib.hid (show r3 = l ++ 128 :: List.replicate (k + 1) 0 by rw [hr3, HR.out, List.replicate_succ']; simp)
                   have L3 := Lib.hid (show r3.length = r.length + 1 by rw [hr3]; simp)
                   have O3 := Lib.hid hown; have B3 := Lib.hid ((B.out.alloc B.out.size _).trans hb)
                   clear hr3 hown hb)
      exact ⟨⟨k + 1, r3, A3, c3, rfl, by omega, R3, O3, B3⟩, by show pz N + N + 1 - r3.length < pz N + N + 1 - r.length; rw [L3.out]; exact HMU.out⟩
    · obtain rfl : k = pz N := by omega
      have heq : (r.length : Int) % 64 = 56 := by unfold pz at hrl; omega
      have hnm := fun W => number_any (N * 8) 8 W (by decide) (by omega)
      rw [show ((N * 8 : Nat) : Int) = (N : Int) * 8 by omega, be_len] at hnm
      have HNM := Lib.hid hnm
      have HP := Lib.hid (show padL l = r ++ be 8 (N * 8) by rw [HR.out]; unfold padL; rw [← HN.out, Nat.mul_comm 8 N]; simp)
      have HPZ := Lib.hid (show pz N ≤ 63 by unfold pz; omega)
      have HBL := Lib.hid (be_len 8 (N * 8))
      clear hnm hlt hk hrl
      generalize be 8 (N * 8) = L at *
      go_wp2_with (first
        | (go_at_call 49; refine (HNM.out _).mono ?_; rintro e w2 ⟨rfl, hk, hb⟩; have K2 := Lib.hid hk; have B2 := Lib.hid (B.out.trans (hb.mono B.out.size)); have O2 := Lib.hid (Oz.below O.out hb (Nat.le_refl _)); clear hk hb)
        | (refine app_nm (.tmp 17) (.tmp 22) w.heap.size _ r O2.out _ L 8 _ HBL.out K2.out.whole (fun h => by cases h) (by have := HRL.out; have := HPZ.out; omega) (by have := HBL.out; omega) B2.out.size rfl rfl rfl rfl ?_
           intro A3 c3 w3 r3 hr3 hown hrd hnil hle hb
           have R3 := Lib.hid hr3
           have RD := Lib.hid hrd; have NI := Lib.hid hnil; have LE := Lib.hid hle; have B3 := Lib.hid (B2.out.trans hb)
           clear hr3 hown hrd hnil hle hb))
      go_ret
      rw [HP.out, ← R3.out]
      exact ⟨A3, c3, rfl, RD.out, NI.out, LE.out, B3.out⟩

end Go.Proofs.YtiamggjebaabkaaGreatDoor
