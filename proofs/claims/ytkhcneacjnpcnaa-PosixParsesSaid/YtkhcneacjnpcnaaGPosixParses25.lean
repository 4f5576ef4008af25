/- Merged: RulJ. -/
import Derived.Test.YtkhcneacjnpcnaaGPosixParses24
namespace Go.Proofs.Ytkhcneacjnpcnaa
open Go.RowKit
set_option linter.unusedVariables false
set_option linter.unusedSimpArgs false

theorem new16_s (s : ByteArray) (w : World) :
    Calls Try.prog 9 #[.string s] w fun x w' => x = .returned (.pointer (some ⟨w.heap.size, 0, none⟩)) ∧ w' = w.alloc (.cells #[.string s, .int .i64 0, .nilIface] Ts) := by
  go_enter Try.func9, Try.ntmps9
  go_wp2
  go_ret
  exact ⟨rfl, rfl⟩
theorem gnew16_s (s : ByteArray) (w : World) : Sk Ts (w.alloc (.cells #[.string s, .int .i64 0, .nilIface] Ts)) w.heap.size (.string s) 0 0 := heap_alloc_new w _

/-- Parse's memory: the scanner, the result's box, the rule's, the clock's. -/
structure Pc (w W : World) (g : Nat) (v : Value) (k : Nat) (e : Int) (p : Nat) (q : Nat) (qs : Array Value) (z : Nat) (zs : Array Value) : Prop where
  sk : Sk Ts W g v k e
  res : W.heap[p]? = some (.cells #[.int .i64 0, .int .i64 0, .int .i64 0, .int .i64 0, .int .i64 0] 24 (0, 0))
  bq : W.heap[q]? = some (.cells qs 24 (0, 0))
  bz : W.heap[z]? = some (.cells zs 88 (0, 0))
  bel : Below w.heap.size w W
  lg : w.heap.size ≤ g
  lp : w.heap.size ≤ p
  lq : w.heap.size ≤ q
  lz : w.heap.size ≤ z
  pg : p ≠ g
  qg : q ≠ g
  zg : z ≠ g
  pq : p ≠ q
  pz : p ≠ z
  qz : q ≠ z
theorem mv_block {W W' : World} {g k x : Nat} {v : Value} {e : Int} {o : Obj} (hm : Mv Ts g v k e W W') (h : W.heap[x]? = some o) (hne : x ≠ g) : W'.heap[x]? = some o := (hm.2.block x (bk_lt h) (by intro c; injection c with c; exact hne c)).trans h
theorem bel_mv {w W W' : World} {g k : Nat} {v : Value} {e : Int} (h : Below w.heap.size w W) (hm : Mv Ts g v k e W W') (hg : w.heap.size ≤ g) : Below w.heap.size w W' := h.trans (gb_bel hm.2 hg h.size)
theorem bel_keep {W W' : World} {x : Nat} {o : Obj} (hb : Below W.heap.size W W') (h : W.heap[x]? = some o) : W'.heap[x]? = some o := (hb.block x (bk_lt h)).trans h
section
variable {w W W' : World} {g k k' p q z : Nat} {v : Value} {e e' : Int} {qs zs : Array Value}
theorem Pc.mv (h : Pc w W g v k e p q qs z zs) (hm : Mv Ts g v k' e' W W') : Pc w W' g v k' e' p q qs z zs :=
  ⟨hm.1, mv_block hm h.res h.pg, mv_block hm h.bq h.qg, mv_block hm h.bz h.zg, bel_mv h.bel hm h.lg, h.lg, h.lp, h.lq, h.lz, h.pg, h.qg, h.zg, h.pq, h.pz, h.qz⟩
theorem Pc.keep (h : Pc w W g v k e p q qs z zs) (hb : Below W.heap.size W W') : Pc w W' g v k e p q qs z zs :=
  ⟨h.sk.below hb h.sk.lt, bel_keep hb h.res, bel_keep hb h.bq, bel_keep hb h.bz, h.bel.trans (hb.mono h.bel.size), h.lg, h.lp, h.lq, h.lz, h.pg, h.qg, h.zg, h.pq, h.pz, h.qz⟩
theorem Pc.drew (h : Pc w W g v k e p q qs z zs) (n : Nat) : Pc w (W.drewN n) g v k e p q qs z zs :=
  ⟨h.sk, h.res, h.bq, h.bz, below_dn16 h.bel n, h.lg, h.lp, h.lq, h.lz, h.pg, h.qg, h.zg, h.pq, h.pz, h.qz⟩
theorem Pc.setz (h : Pc w W g v k e p q qs z zs) (i : Nat) (u : Value) : Pc w (W.setCell ⟨z, i, none⟩ u) g v k e p q qs z (zs.setIfInBounds i u) :=
  ⟨blk_set h.sk (fun c => h.zg c.symm) i u, blk_set h.res h.pz i u, blk_set h.bq h.qz i u, bk_set h.bz i u, h.bel.setCell h.lz u, h.lg, h.lp, h.lq, h.lz, h.pg, h.qg, h.zg, h.pq, h.pz, h.qz⟩
theorem Pc.setq (h : Pc w W g v k e p q qs z zs) (i : Nat) (u : Value) : Pc w (W.setCell ⟨q, i, none⟩ u) g v k e p q (qs.setIfInBounds i u) z zs :=
  ⟨blk_set h.sk (fun c => h.qg c.symm) i u, blk_set h.res h.pq i u, bk_set h.bq i u, blk_set h.bz (fun c => h.qz c.symm) i u, h.bel.setCell h.lq u, h.lg, h.lp, h.lq, h.lz, h.pg, h.qg, h.zg, h.pq, h.pz, h.qz⟩
theorem Pc.seep (h : Pc w W g v k e p q qs z zs) : W.cell? ⟨p, 0, none⟩ = some (.int .i64 0) ∧ W.cell? ⟨p, 1, none⟩ = some (.int .i64 0) ∧ W.cell? ⟨p, 2, none⟩ = some (.int .i64 0) ∧ W.cell? ⟨p, 3, none⟩ = some (.int .i64 0) ∧ W.cell? ⟨p, 4, none⟩ = some (.int .i64 0) ∧
    W.frozen? ⟨p, 0, none⟩ = false ∧ W.frozen? ⟨p, 1, none⟩ = false ∧ W.frozen? ⟨p, 2, none⟩ = false ∧ W.frozen? ⟨p, 3, none⟩ = false ∧ W.frozen? ⟨p, 4, none⟩ = false :=
  ⟨bk_cell h.res 0, bk_cell h.res 1, bk_cell h.res 2, bk_cell h.res 3, bk_cell h.res 4, bk_free h.res 0, bk_free h.res 1, bk_free h.res 2, bk_free h.res 3, bk_free h.res 4⟩
theorem Pc.seeq {K M D A T : Int} (h : Pc w W g v k e p q #[.int .i64 K, .int .i64 M, .int .i64 D, .int .i64 A, .int .i64 T] z zs) : W.cell? ⟨q, 0, none⟩ = some (.int .i64 K) ∧ W.cell? ⟨q, 1, none⟩ = some (.int .i64 M) ∧ W.cell? ⟨q, 2, none⟩ = some (.int .i64 D) ∧ W.cell? ⟨q, 3, none⟩ = some (.int .i64 A) ∧ W.cell? ⟨q, 4, none⟩ = some (.int .i64 T) ∧ W.frozen? ⟨q, 4, none⟩ = false :=
  ⟨bk_cell h.bq 0, bk_cell h.bq 1, bk_cell h.bq 2, bk_cell h.bq 3, bk_cell h.bq 4, bk_free h.bq 4⟩
theorem Pc.seez {n : Bool} {a m s : Int} (h : Pc w W g v k e p q qs z #[.bool n, .int .i64 a, .int .i64 m, .int .i64 s]) : W.cell? ⟨z, 0, none⟩ = some (.bool n) ∧ W.cell? ⟨z, 1, none⟩ = some (.int .i64 a) ∧ W.cell? ⟨z, 2, none⟩ = some (.int .i64 m) ∧ W.cell? ⟨z, 3, none⟩ = some (.int .i64 s) ∧
    W.frozen? ⟨z, 0, none⟩ = false ∧ W.frozen? ⟨z, 1, none⟩ = false ∧ W.frozen? ⟨z, 2, none⟩ = false ∧ W.frozen? ⟨z, 3, none⟩ = false :=
  ⟨bk_cell h.bz 0, bk_cell h.bz 1, bk_cell h.bz 2, bk_cell h.bz 3, bk_free h.bz 0, bk_free h.bz 1, bk_free h.bz 2, bk_free h.bz 3⟩
theorem Pc.putz {n n' : Bool} {a m s a' m' s' : Int} (h : Pc w W g v k e p q qs z #[.bool n', .int .i64 a', .int .i64 m', .int .i64 s']) : Pc w (put16c W z n a m s) g v k e p q qs z #[.bool n, .int .i64 a, .int .i64 m, .int .i64 s] :=
  (((h.setz 0 (.bool n)).setz 1 (.int .i64 a)).setz 2 (.int .i64 m)).setz 3 (.int .i64 s)
/-- The result stored. -/
theorem Pc.done (h : Pc w W g v k e p q qs z zs) (K M D A T : Int) : Below w.heap.size w (put16r W p K M D A T) ∧ (put16r W p K M D A T).cell? ⟨p, 0, none⟩ = some (.int .i64 K) ∧ (put16r W p K M D A T).cell? ⟨p, 1, none⟩ = some (.int .i64 M) ∧ (put16r W p K M D A T).cell? ⟨p, 2, none⟩ = some (.int .i64 D) ∧
    (put16r W p K M D A T).cell? ⟨p, 3, none⟩ = some (.int .i64 A) ∧ (put16r W p K M D A T).cell? ⟨p, 4, none⟩ = some (.int .i64 T) := by
  have h0 := bk_set (bk_set (bk_set (bk_set (bk_set h.res 0 (.int .i64 K)) 1 (.int .i64 M)) 2 (.int .i64 D)) 3 (.int .i64 A)) 4 (.int .i64 T)
  exact ⟨((((h.bel.setCell h.lp _).setCell h.lp _).setCell h.lp _).setCell h.lp _).setCell h.lp _, bk_cell h0 0, bk_cell h0 1, bk_cell h0 2, bk_cell h0 3, bk_cell h0 4⟩
end
set_option maxHeartbeats 4000000 in
theorem parse16_s_bad (str : ByteArray) (w : World) (K M D A : Int) (k k1 k2 : Nat) (e e2 : Int) (n : Bool) (h m s : Int) 
    (HD : Hid (∀ g w, Sk Ts w g (.string str) 0 0 → Calls Try.prog 57 #[.pointer (some ⟨g, 0, none⟩)] w fun x w' => x = .returned (.agg #[.int .i64 K, .int .i64 M, .int .i64 D, .int .i64 A, .int .i64 0]) ∧ Mv Ts g (.string str) k e w w'))
    (HT : Hid (∀ g w, Sk Ts w g (.string str) k e → Calls Try.prog 35 #[.pointer (some ⟨g, 0, none⟩), .int .u8 47] w fun x w' => x = .returned (.bool true) ∧ Mv Ts g (.string str) k1 e w w'))
    (HC : Hid (∀ g w, Sk Ts w g (.string str) k1 e → Calls Try.prog 54 #[.pointer (some ⟨g, 0, none⟩)] w fun x w' => x = .returned (.agg #[.bool n, .int .i64 h, .int .i64 m, .int .i64 s]) ∧ Mv Ts g (.string str) k2 e2 w w'))
    (HE : Hid (∀ g w, Sk Ts w g (.string str) k2 e2 → Calls Try.prog 11 #[.pointer (some ⟨g, 0, none⟩)] w fun x w' => x = .returned (ev 2) ∧ ∃ n, w' = w.drewN n))
    : Calls Try.prog 44 #[.string str] w fun x w' => x = .returned (.tuple #[.agg #[.int .i64 0, .int .i64 0, .int .i64 0, .int .i64 0, .int .i64 0], ev 2]) ∧ Below w.heap.size w w' := by
  have q0 := fun op t W x k => guard_ev op t W x k
  have q2 := fun W k => neq_ev W k
  have HK : Hid (∀ w, Calls Try.prog 58 #[.int .i64 7200] w fun e w' => e = .returned (.agg #[.bool false, .int .i64 2, .int .i64 0, .int .i64 0]) ∧ Below w.heap.size w w') := Lib.hid (fun w => clockof_any 7200 w (by decide))
  obtain ⟨W0, hW0⟩ : ∃ W0, W0 = w.alloc (.cells #[.int .i64 0, .int .i64 0, .int .i64 0, .int .i64 0, .int .i64 0] 24) := ⟨_, rfl⟩
  have hN := new16_s str W0
  have hS := gnew16_s str W0
  have b0 : Below w.heap.size w W0 := by rw [hW0]; exact bel16 w _
  have r0' : W0.heap[w.heap.size]? = some (.cells #[.int .i64 0, .int .i64 0, .int .i64 0, .int .i64 0, .int .i64 0] 24 (0, 0)) := by rw [hW0]; exact heap_alloc_new w _
  have b1 : Below w.heap.size w (W0.alloc (.cells #[.string str, .int .i64 0, .nilIface] Ts)) := b0.alloc b0.size _
  have r1' := bel_keep (bel16 W0 (.cells #[.string str, .int .i64 0, .nilIface] Ts)) r0'
  obtain ⟨g, hg⟩ : ∃ g, g = W0.heap.size := ⟨_, rfl⟩
  have pg : w.heap.size ≠ g := by have := bk_lt r0'; omega
  have lg : w.heap.size ≤ g := by have := b0.size; omega
  obtain ⟨W1, hW1⟩ : ∃ W1, W1 = W0.alloc (.cells #[.string str, .int .i64 0, .nilIface] Ts) := ⟨_, rfl⟩
  rw [← hW1, ← hg] at hN hS
  rw [← hW1] at b1 r1'
  have HN := Lib.hid hN; have HS := Lib.hid hS; have B1 := Lib.hid b1; have R1 := Lib.hid r1'; have PG := Lib.hid pg; have LG := Lib.hid lg
  clear hN hS b0 r0' b1 r1' pg lg hW1 hg
  generalize hv : Value.string str = v at *
  have HV := Lib.hid hv
  clear hv
  go_enter Try.func44, Try.ntmps44
  go_upto_region 1 with fail
  rw [← hW0]; clear hW0
  go_upto_region 3 with (first
    | (go_at_call 9; refine HN.out.mono ?_; rintro x w' ⟨rfl, rfl⟩)
    | (go_at_call 57; refine (HD.out _ _ HS.out).mono ?_; rintro x w2 ⟨rfl, hm⟩; have M2 := Lib.hid hm; clear hm))
  have s3 := M2.out.1.alloc (.cells #[.int .i64 K, .int .i64 M, .int .i64 D, .int .i64 A, .int .i64 0] 24)
  have p3 := bel_keep (bel16 w2 (.cells #[.int .i64 K, .int .i64 M, .int .i64 D, .int .i64 A, .int .i64 0] 24)) (mv_block M2.out R1.out PG.out)
  have c3 := bel_mv B1.out M2.out LG.out
  have d3 := c3.alloc c3.size (.cells #[.int .i64 K, .int .i64 M, .int .i64 D, .int .i64 A, .int .i64 0] 24)
  have e3' : (w2.alloc (.cells #[.int .i64 K, .int .i64 M, .int .i64 D, .int .i64 A, .int .i64 0] 24)).heap[w2.heap.size]? = some (.cells #[.int .i64 K, .int .i64 M, .int .i64 D, .int .i64 A, .int .i64 0] 24 (0, 0)) := heap_alloc_new w2 _
  obtain ⟨q, hq⟩ : ∃ q, q = w2.heap.size := ⟨_, rfl⟩
  have qg : q ≠ g := by have := M2.out.1.lt; omega
  have pq : w.heap.size ≠ q := by have := bk_lt (mv_block M2.out R1.out PG.out); omega
  have lq : w.heap.size ≤ q := by have := c3.size; omega
  obtain ⟨W3, hW3⟩ : ∃ W3, W3 = w2.alloc (.cells #[.int .i64 K, .int .i64 M, .int .i64 D, .int .i64 A, .int .i64 0] 24) := ⟨_, rfl⟩
  rw [← hW3] at s3 p3 d3 e3'
  rw [← hq] at e3'
  rw [← hW3, ← hq]
  have S3 := Lib.hid s3; have P3 := Lib.hid p3; have D3 := Lib.hid d3; have E3 := Lib.hid e3'; have QG := Lib.hid qg; have PQ := Lib.hid pq; have LQ := Lib.hid lq
  clear hW3 hq s3 p3 c3 d3 e3' qg pq lq
  go_upto_region 4 with (go_at_call 58; refine (HK.out _).mono ?_; rintro x w4 ⟨rfl, hb⟩; have B4 := Lib.hid hb; clear hb)
  have hb5 := bel16 w4 (.cells #[.bool false, .int .i64 2, .int .i64 0, .int .i64 0] 88)
  have c4 := D3.out.trans (B4.out.mono D3.out.size)
  have S5 : Pc w (w4.alloc (.cells #[.bool false, .int .i64 2, .int .i64 0, .int .i64 0] 88)) g v k e w.heap.size q #[.int .i64 K, .int .i64 M, .int .i64 D, .int .i64 A, .int .i64 0] w4.heap.size #[.bool false, .int .i64 2, .int .i64 0, .int .i64 0] :=
    ⟨(S3.out.below B4.out S3.out.lt).alloc _, bel_keep hb5 (bel_keep B4.out P3.out), bel_keep hb5 (bel_keep B4.out E3.out), heap_alloc_new w4 _, c4.alloc c4.size _, LG.out, Nat.le_refl _, LQ.out, c4.size, PG.out, QG.out, by have := (S3.out.below B4.out S3.out.lt).lt; omega, PQ.out, by have := bk_lt (bel_keep B4.out P3.out); omega, by have := bk_lt (bel_keep B4.out E3.out); omega⟩
  obtain ⟨z, hz⟩ : ∃ z, z = w4.heap.size := ⟨_, rfl⟩
  obtain ⟨W5, hW5⟩ : ∃ W5, W5 = w4.alloc (.cells #[.bool false, .int .i64 2, .int .i64 0, .int .i64 0] 88) := ⟨_, rfl⟩
  rw [← hW5, ← hz] at S5
  rw [← hW5, ← hz]
  have S := Lib.hid S5
  clear hW5 hz hb5 c4 S5
  go_upto_region 6 with (first
    | (go_at_call 35; refine (HT.out _ _ S.out.sk).mono ?_; rintro x w6 ⟨rfl, hm⟩; have S := Lib.hid (S.out.mv hm); clear hm)
    | (go_at_call 54; refine (HC.out _ _ S.out.sk).mono ?_; rintro x w7 ⟨rfl, hm⟩; have S := Lib.hid (S.out.mv hm); clear hm; obtain ⟨z0, z1, z2, z3, f0, f1, f2, f3⟩ := S.out.seez))
  show Code.wp _ _ _ _ (put16c w7 z n h m s)
  have S8 := S.out.putz (n := n) (a := h) (m := m) (s := s)
  obtain ⟨W8, hW8⟩ : ∃ W8, W8 = put16c w7 z n h m s := ⟨_, rfl⟩
  rw [← hW8] at S8
  rw [← hW8]
  replace S := Lib.hid S8
  clear S8 hW8
  clear z0 z1 z2 z3 f0 f1 f2 f3
  go_upto_region 7 with (go_at_call 11; refine (HE.out _ _ S.out.sk).mono ?_; rintro x w9 ⟨rfl, nq, rfl⟩; have S := Lib.hid (S.out.drew nq))
  obtain ⟨p0, p1, p2, p3, p4, g0, g1, g2, g3, g4⟩ := S.out.seep
  go_wp2_with fail
  obtain ⟨F, r0, r1', r2, r3, r4⟩ := S.out.done 0 0 0 0 0
  show bodyPost _ _ _ _ _ (put16r (W8.drewN nq) w.heap.size 0 0 0 0 0)
  generalize put16r (W8.drewN nq) w.heap.size 0 0 0 0 0 = WW at *
  refine bodyPost_ret (v := .tuple #[.agg #[.int .i64 0, .int .i64 0, .int .i64 0, .int .i64 0, .int .i64 0], ev 2]) (by simp [results, Try.results44, go_sem, r0, r1', r2, r3, r4, ev]) rfl ⟨rfl, F⟩
set_option maxHeartbeats 4000000 in
theorem parse16_s_unfit (str : ByteArray) (w : World) (K M D A : Int) (k k1 k2 : Nat) (e e2 : Int) (n : Bool) (h m s : Int) 
    (HD : Hid (∀ g w, Sk Ts w g (.string str) 0 0 → Calls Try.prog 57 #[.pointer (some ⟨g, 0, none⟩)] w fun x w' => x = .returned (.agg #[.int .i64 K, .int .i64 M, .int .i64 D, .int .i64 A, .int .i64 0]) ∧ Mv Ts g (.string str) k e w w'))
    (HT : Hid (∀ g w, Sk Ts w g (.string str) k e → Calls Try.prog 35 #[.pointer (some ⟨g, 0, none⟩), .int .u8 47] w fun x w' => x = .returned (.bool true) ∧ Mv Ts g (.string str) k1 e w w'))
    (HC : Hid (∀ g w, Sk Ts w g (.string str) k1 e → Calls Try.prog 54 #[.pointer (some ⟨g, 0, none⟩)] w fun x w' => x = .returned (.agg #[.bool n, .int .i64 h, .int .i64 m, .int .i64 s]) ∧ Mv Ts g (.string str) k2 e2 w w'))
    (HE : Hid (∀ g w, Sk Ts w g (.string str) k2 e2 → Calls Try.prog 11 #[.pointer (some ⟨g, 0, none⟩)] w fun x w' => x = .returned (ev 0) ∧ ∃ n, w' = w.drewN n))
    (HF : Hid (∀ w, Calls Try.prog 55 #[.agg #[.bool n, .int .i64 h, .int .i64 m, .int .i64 s], .int .i64 167] w fun x w' => x = .returned (.bool false) ∧ Below w.heap.size w w'))
    : Calls Try.prog 44 #[.string str] w fun x w' => x = .returned (.tuple #[.agg #[.int .i64 0, .int .i64 0, .int .i64 0, .int .i64 0, .int .i64 0], ev 1]) ∧ Below w.heap.size w w' := by
  have q0 := fun op t W x k => guard_ev op t W x k
  have q2 := fun W k => neq_ev W k
  have HK : Hid (∀ w, Calls Try.prog 58 #[.int .i64 7200] w fun e w' => e = .returned (.agg #[.bool false, .int .i64 2, .int .i64 0, .int .i64 0]) ∧ Below w.heap.size w w') := Lib.hid (fun w => clockof_any 7200 w (by decide))
  obtain ⟨W0, hW0⟩ : ∃ W0, W0 = w.alloc (.cells #[.int .i64 0, .int .i64 0, .int .i64 0, .int .i64 0, .int .i64 0] 24) := ⟨_, rfl⟩
  have hN := new16_s str W0
  have hS := gnew16_s str W0
  have b0 : Below w.heap.size w W0 := by rw [hW0]; exact bel16 w _
  have r0' : W0.heap[w.heap.size]? = some (.cells #[.int .i64 0, .int .i64 0, .int .i64 0, .int .i64 0, .int .i64 0] 24 (0, 0)) := by rw [hW0]; exact heap_alloc_new w _
  have b1 : Below w.heap.size w (W0.alloc (.cells #[.string str, .int .i64 0, .nilIface] Ts)) := b0.alloc b0.size _
  have r1' := bel_keep (bel16 W0 (.cells #[.string str, .int .i64 0, .nilIface] Ts)) r0'
  obtain ⟨g, hg⟩ : ∃ g, g = W0.heap.size := ⟨_, rfl⟩
  have pg : w.heap.size ≠ g := by have := bk_lt r0'; omega
  have lg : w.heap.size ≤ g := by have := b0.size; omega
  obtain ⟨W1, hW1⟩ : ∃ W1, W1 = W0.alloc (.cells #[.string str, .int .i64 0, .nilIface] Ts) := ⟨_, rfl⟩
  rw [← hW1, ← hg] at hN hS
  rw [← hW1] at b1 r1'
  have HN := Lib.hid hN; have HS := Lib.hid hS; have B1 := Lib.hid b1; have R1 := Lib.hid r1'; have PG := Lib.hid pg; have LG := Lib.hid lg
  clear hN hS b0 r0' b1 r1' pg lg hW1 hg
  generalize hv : Value.string str = v at *
  have HV := Lib.hid hv
  clear hv
  go_enter Try.func44, Try.ntmps44
  go_upto_region 1 with fail
  rw [← hW0]; clear hW0
  go_upto_region 3 with (first
    | (go_at_call 9; refine HN.out.mono ?_; rintro x w' ⟨rfl, rfl⟩)
    | (go_at_call 57; refine (HD.out _ _ HS.out).mono ?_; rintro x w2 ⟨rfl, hm⟩; have M2 := Lib.hid hm; clear hm))
  have s3 := M2.out.1.alloc (.cells #[.int .i64 K, .int .i64 M, .int .i64 D, .int .i64 A, .int .i64 0] 24)
  have p3 := bel_keep (bel16 w2 (.cells #[.int .i64 K, .int .i64 M, .int .i64 D, .int .i64 A, .int .i64 0] 24)) (mv_block M2.out R1.out PG.out)
  have c3 := bel_mv B1.out M2.out LG.out
  have d3 := c3.alloc c3.size (.cells #[.int .i64 K, .int .i64 M, .int .i64 D, .int .i64 A, .int .i64 0] 24)
  have e3' : (w2.alloc (.cells #[.int .i64 K, .int .i64 M, .int .i64 D, .int .i64 A, .int .i64 0] 24)).heap[w2.heap.size]? = some (.cells #[.int .i64 K, .int .i64 M, .int .i64 D, .int .i64 A, .int .i64 0] 24 (0, 0)) := heap_alloc_new w2 _
  obtain ⟨q, hq⟩ : ∃ q, q = w2.heap.size := ⟨_, rfl⟩
  have qg : q ≠ g := by have := M2.out.1.lt; omega
  have pq : w.heap.size ≠ q := by have := bk_lt (mv_block M2.out R1.out PG.out); omega
  have lq : w.heap.size ≤ q := by have := c3.size; omega
  obtain ⟨W3, hW3⟩ : ∃ W3, W3 = w2.alloc (.cells #[.int .i64 K, .int .i64 M, .int .i64 D, .int .i64 A, .int .i64 0] 24) := ⟨_, rfl⟩
  rw [← hW3] at s3 p3 d3 e3'
  rw [← hq] at e3'
  rw [← hW3, ← hq]
  have S3 := Lib.hid s3; have P3 := Lib.hid p3; have D3 := Lib.hid d3; have E3 := Lib.hid e3'; have QG := Lib.hid qg; have PQ := Lib.hid pq; have LQ := Lib.hid lq
  clear hW3 hq s3 p3 c3 d3 e3' qg pq lq
  go_upto_region 4 with (go_at_call 58; refine (HK.out _).mono ?_; rintro x w4 ⟨rfl, hb⟩; have B4 := Lib.hid hb; clear hb)
  have hb5 := bel16 w4 (.cells #[.bool false, .int .i64 2, .int .i64 0, .int .i64 0] 88)
  have c4 := D3.out.trans (B4.out.mono D3.out.size)
  have S5 : Pc w (w4.alloc (.cells #[.bool false, .int .i64 2, .int .i64 0, .int .i64 0] 88)) g v k e w.heap.size q #[.int .i64 K, .int .i64 M, .int .i64 D, .int .i64 A, .int .i64 0] w4.heap.size #[.bool false, .int .i64 2, .int .i64 0, .int .i64 0] :=
    ⟨(S3.out.below B4.out S3.out.lt).alloc _, bel_keep hb5 (bel_keep B4.out P3.out), bel_keep hb5 (bel_keep B4.out E3.out), heap_alloc_new w4 _, c4.alloc c4.size _, LG.out, Nat.le_refl _, LQ.out, c4.size, PG.out, QG.out, by have := (S3.out.below B4.out S3.out.lt).lt; omega, PQ.out, by have := bk_lt (bel_keep B4.out P3.out); omega, by have := bk_lt (bel_keep B4.out E3.out); omega⟩
  obtain ⟨z, hz⟩ : ∃ z, z = w4.heap.size := ⟨_, rfl⟩
  obtain ⟨W5, hW5⟩ : ∃ W5, W5 = w4.alloc (.cells #[.bool false, .int .i64 2, .int .i64 0, .int .i64 0] 88) := ⟨_, rfl⟩
  rw [← hW5, ← hz] at S5
  rw [← hW5, ← hz]
  have S := Lib.hid S5
  clear hW5 hz hb5 c4 S5
  go_upto_region 6 with (first
    | (go_at_call 35; refine (HT.out _ _ S.out.sk).mono ?_; rintro x w6 ⟨rfl, hm⟩; have S := Lib.hid (S.out.mv hm); clear hm)
    | (go_at_call 54; refine (HC.out _ _ S.out.sk).mono ?_; rintro x w7 ⟨rfl, hm⟩; have S := Lib.hid (S.out.mv hm); clear hm; obtain ⟨z0, z1, z2, z3, f0, f1, f2, f3⟩ := S.out.seez))
  show Code.wp _ _ _ _ (put16c w7 z n h m s)
  have S8 := S.out.putz (n := n) (a := h) (m := m) (s := s)
  obtain ⟨W8, hW8⟩ : ∃ W8, W8 = put16c w7 z n h m s := ⟨_, rfl⟩
  rw [← hW8] at S8
  rw [← hW8]
  replace S := Lib.hid S8
  clear S8 hW8
  clear z0 z1 z2 z3 f0 f1 f2 f3
  go_upto_region 9 with (go_at_call 11; refine (HE.out _ _ S.out.sk).mono ?_; rintro x w9 ⟨rfl, nq, rfl⟩; have S := Lib.hid (S.out.drew nq))
  obtain ⟨W9, hW9⟩ : ∃ W9, W9 = W8.drewN nq := ⟨_, rfl⟩
  rw [← hW9] at S
  rw [← hW9]
  clear hW9
  obtain ⟨z0, z1, z2, z3, f0, f1, f2, f3⟩ := S.out.seez
  go_wp2_with (go_at_call 55; refine (HF.out _).mono ?_; rintro x w10 ⟨rfl, hb⟩; have S := Lib.hid (S.out.keep hb); clear hb; obtain ⟨p0, p1, p2, p3, p4, g0, g1, g2, g3, g4⟩ := S.out.seep)
  obtain ⟨F, r0, r1', r2, r3, r4⟩ := S.out.done 0 0 0 0 0
  show bodyPost _ _ _ _ _ (put16r w10 w.heap.size 0 0 0 0 0)
  generalize put16r w10 w.heap.size 0 0 0 0 0 = WW at *
  refine bodyPost_ret (v := .tuple #[.agg #[.int .i64 0, .int .i64 0, .int .i64 0, .int .i64 0, .int .i64 0], ev 1]) (by simp [results, Try.results44, go_sem, r0, r1', r2, r3, r4, ev]) rfl ⟨rfl, F⟩
set_option maxHeartbeats 4000000 in
theorem parse16_s_wrong (str : ByteArray) (w : World) (K M D A : Int) (k k1 k2 : Nat) (e e2 : Int) (n : Bool) (h m s : Int) (T R : Int) (r0 : R ≠ 0) 
    (HD : Hid (∀ g w, Sk Ts w g (.string str) 0 0 → Calls Try.prog 57 #[.pointer (some ⟨g, 0, none⟩)] w fun x w' => x = .returned (.agg #[.int .i64 K, .int .i64 M, .int .i64 D, .int .i64 A, .int .i64 0]) ∧ Mv Ts g (.string str) k e w w'))
    (HT : Hid (∀ g w, Sk Ts w g (.string str) k e → Calls Try.prog 35 #[.pointer (some ⟨g, 0, none⟩), .int .u8 47] w fun x w' => x = .returned (.bool true) ∧ Mv Ts g (.string str) k1 e w w'))
    (HC : Hid (∀ g w, Sk Ts w g (.string str) k1 e → Calls Try.prog 54 #[.pointer (some ⟨g, 0, none⟩)] w fun x w' => x = .returned (.agg #[.bool n, .int .i64 h, .int .i64 m, .int .i64 s]) ∧ Mv Ts g (.string str) k2 e2 w w'))
    (HE : Hid (∀ g w, Sk Ts w g (.string str) k2 e2 → Calls Try.prog 11 #[.pointer (some ⟨g, 0, none⟩)] w fun x w' => x = .returned (ev 0) ∧ ∃ n, w' = w.drewN n))
    (HF : Hid (∀ w, Calls Try.prog 55 #[.agg #[.bool n, .int .i64 h, .int .i64 m, .int .i64 s], .int .i64 167] w fun x w' => x = .returned (.bool true) ∧ Below w.heap.size w w'))
    (HO : Hid (∀ w, Calls Try.prog 56 #[.agg #[.bool n, .int .i64 h, .int .i64 m, .int .i64 s]] w fun x w' => x = .returned (.int .i64 T) ∧ Below w.heap.size w w'))
    (HX : Hid (∀ w, Calls Try.prog 28 #[.agg #[.int .i64 K, .int .i64 M, .int .i64 D, .int .i64 A, .int .i64 T]] w fun x w' => x = .returned (ev R) ∧ Below w.heap.size w w'))
    : Calls Try.prog 44 #[.string str] w fun x w' => x = .returned (.tuple #[.agg #[.int .i64 0, .int .i64 0, .int .i64 0, .int .i64 0, .int .i64 0], ev R]) ∧ Below w.heap.size w w' := by
  have q0 := fun op t W x k => guard_ev op t W x k
  have q2 := fun W k => neq_ev W k
  have r1 := ne_yes r0
  clear r0
  have HK : Hid (∀ w, Calls Try.prog 58 #[.int .i64 7200] w fun e w' => e = .returned (.agg #[.bool false, .int .i64 2, .int .i64 0, .int .i64 0]) ∧ Below w.heap.size w w') := Lib.hid (fun w => clockof_any 7200 w (by decide))
  obtain ⟨W0, hW0⟩ : ∃ W0, W0 = w.alloc (.cells #[.int .i64 0, .int .i64 0, .int .i64 0, .int .i64 0, .int .i64 0] 24) := ⟨_, rfl⟩
  have hN := new16_s str W0
  have hS := gnew16_s str W0
  have b0 : Below w.heap.size w W0 := by rw [hW0]; exact bel16 w _
  have r0' : W0.heap[w.heap.size]? = some (.cells #[.int .i64 0, .int .i64 0, .int .i64 0, .int .i64 0, .int .i64 0] 24 (0, 0)) := by rw [hW0]; exact heap_alloc_new w _
  have b1 : Below w.heap.size w (W0.alloc (.cells #[.string str, .int .i64 0, .nilIface] Ts)) := b0.alloc b0.size _
  have r1' := bel_keep (bel16 W0 (.cells #[.string str, .int .i64 0, .nilIface] Ts)) r0'
  obtain ⟨g, hg⟩ : ∃ g, g = W0.heap.size := ⟨_, rfl⟩
  have pg : w.heap.size ≠ g := by have := bk_lt r0'; omega
  have lg : w.heap.size ≤ g := by have := b0.size; omega
  obtain ⟨W1, hW1⟩ : ∃ W1, W1 = W0.alloc (.cells #[.string str, .int .i64 0, .nilIface] Ts) := ⟨_, rfl⟩
  rw [← hW1, ← hg] at hN hS
  rw [← hW1] at b1 r1'
  have HN := Lib.hid hN; have HS := Lib.hid hS; have B1 := Lib.hid b1; have R1 := Lib.hid r1'; have PG := Lib.hid pg; have LG := Lib.hid lg
  clear hN hS b0 r0' b1 r1' pg lg hW1 hg
  generalize hv : Value.string str = v at *
  have HV := Lib.hid hv
  clear hv
  go_enter Try.func44, Try.ntmps44
  go_upto_region 1 with fail
  rw [← hW0]; clear hW0
  go_upto_region 3 with (first
    | (go_at_call 9; refine HN.out.mono ?_; rintro x w' ⟨rfl, rfl⟩)
    | (go_at_call 57; refine (HD.out _ _ HS.out).mono ?_; rintro x w2 ⟨rfl, hm⟩; have M2 := Lib.hid hm; clear hm))
  have s3 := M2.out.1.alloc (.cells #[.int .i64 K, .int .i64 M, .int .i64 D, .int .i64 A, .int .i64 0] 24)
  have p3 := bel_keep (bel16 w2 (.cells #[.int .i64 K, .int .i64 M, .int .i64 D, .int .i64 A, .int .i64 0] 24)) (mv_block M2.out R1.out PG.out)
  have c3 := bel_mv B1.out M2.out LG.out
  have d3 := c3.alloc c3.size (.cells #[.int .i64 K, .int .i64 M, .int .i64 D, .int .i64 A, .int .i64 0] 24)
  have e3' : (w2.alloc (.cells #[.int .i64 K, .int .i64 M, .int .i64 D, .int .i64 A, .int .i64 0] 24)).heap[w2.heap.size]? = some (.cells #[.int .i64 K, .int .i64 M, .int .i64 D, .int .i64 A, .int .i64 0] 24 (0, 0)) := heap_alloc_new w2 _
  obtain ⟨q, hq⟩ : ∃ q, q = w2.heap.size := ⟨_, rfl⟩
  have qg : q ≠ g := by have := M2.out.1.lt; omega
  have pq : w.heap.size ≠ q := by have := bk_lt (mv_block M2.out R1.out PG.out); omega
  have lq : w.heap.size ≤ q := by have := c3.size; omega
  obtain ⟨W3, hW3⟩ : ∃ W3, W3 = w2.alloc (.cells #[.int .i64 K, .int .i64 M, .int .i64 D, .int .i64 A, .int .i64 0] 24) := ⟨_, rfl⟩
  rw [← hW3] at s3 p3 d3 e3'
  rw [← hq] at e3'
  rw [← hW3, ← hq]
  have S3 := Lib.hid s3; have P3 := Lib.hid p3; have D3 := Lib.hid d3; have E3 := Lib.hid e3'; have QG := Lib.hid qg; have PQ := Lib.hid pq; have LQ := Lib.hid lq
  clear hW3 hq s3 p3 c3 d3 e3' qg pq lq
  go_upto_region 4 with (go_at_call 58; refine (HK.out _).mono ?_; rintro x w4 ⟨rfl, hb⟩; have B4 := Lib.hid hb; clear hb)
  have hb5 := bel16 w4 (.cells #[.bool false, .int .i64 2, .int .i64 0, .int .i64 0] 88)
  have c4 := D3.out.trans (B4.out.mono D3.out.size)
  have S5 : Pc w (w4.alloc (.cells #[.bool false, .int .i64 2, .int .i64 0, .int .i64 0] 88)) g v k e w.heap.size q #[.int .i64 K, .int .i64 M, .int .i64 D, .int .i64 A, .int .i64 0] w4.heap.size #[.bool false, .int .i64 2, .int .i64 0, .int .i64 0] :=
    ⟨(S3.out.below B4.out S3.out.lt).alloc _, bel_keep hb5 (bel_keep B4.out P3.out), bel_keep hb5 (bel_keep B4.out E3.out), heap_alloc_new w4 _, c4.alloc c4.size _, LG.out, Nat.le_refl _, LQ.out, c4.size, PG.out, QG.out, by have := (S3.out.below B4.out S3.out.lt).lt; omega, PQ.out, by have := bk_lt (bel_keep B4.out P3.out); omega, by have := bk_lt (bel_keep B4.out E3.out); omega⟩
  obtain ⟨z, hz⟩ : ∃ z, z = w4.heap.size := ⟨_, rfl⟩
  obtain ⟨W5, hW5⟩ : ∃ W5, W5 = w4.alloc (.cells #[.bool false, .int .i64 2, .int .i64 0, .int .i64 0] 88) := ⟨_, rfl⟩
  rw [← hW5, ← hz] at S5
  rw [← hW5, ← hz]
  have S := Lib.hid S5
  clear hW5 hz hb5 c4 S5
  go_upto_region 6 with (first
    | (go_at_call 35; refine (HT.out _ _ S.out.sk).mono ?_; rintro x w6 ⟨rfl, hm⟩; have S := Lib.hid (S.out.mv hm); clear hm)
    | (go_at_call 54; refine (HC.out _ _ S.out.sk).mono ?_; rintro x w7 ⟨rfl, hm⟩; have S := Lib.hid (S.out.mv hm); clear hm; obtain ⟨z0, z1, z2, z3, f0, f1, f2, f3⟩ := S.out.seez))
  show Code.wp _ _ _ _ (put16c w7 z n h m s)
  have S8 := S.out.putz (n := n) (a := h) (m := m) (s := s)
  obtain ⟨W8, hW8⟩ : ∃ W8, W8 = put16c w7 z n h m s := ⟨_, rfl⟩
  rw [← hW8] at S8
  rw [← hW8]
  replace S := Lib.hid S8
  clear S8 hW8
  clear z0 z1 z2 z3 f0 f1 f2 f3
  go_upto_region 9 with (go_at_call 11; refine (HE.out _ _ S.out.sk).mono ?_; rintro x w9 ⟨rfl, nq, rfl⟩; have S := Lib.hid (S.out.drew nq))
  obtain ⟨W9, hW9⟩ : ∃ W9, W9 = W8.drewN nq := ⟨_, rfl⟩
  rw [← hW9] at S
  rw [← hW9]
  clear hW9
  obtain ⟨z0, z1, z2, z3, f0, f1, f2, f3⟩ := S.out.seez
  go_upto_region 12 with (first
    | (go_at_call 55; refine (HF.out _).mono ?_; rintro x w10 ⟨rfl, hb⟩; have S := Lib.hid (S.out.keep hb); clear hb; obtain ⟨z0, z1, z2, z3, f0, f1, f2, f3⟩ := S.out.seez)
    | (go_at_call 56; refine (HO.out _).mono ?_; rintro x w11 ⟨rfl, hb⟩; have S := Lib.hid (S.out.keep hb); clear hb; obtain ⟨q0', q1', q2', q3', q4', fq⟩ := S.out.seeq; have S := Lib.hid (S.out.setq 4 (.int .i64 T))))
  obtain ⟨W12, hW12⟩ : ∃ W12, W12 = w11.setCell ⟨q, 4, none⟩ (.int .i64 T) := ⟨_, rfl⟩
  rw [← hW12] at S
  rw [← hW12]
  clear hW12 q0' q1' q2' q3' q4' fq
  have S12 : Pc w W12 g v _ _ w.heap.size q #[.int .i64 K, .int .i64 M, .int .i64 D, .int .i64 A, .int .i64 T] z _ := S.out
  replace S := Lib.hid S12
  clear S12
  obtain ⟨q0', q1', q2', q3', q4', fq⟩ := S.out.seeq
  go_wp2_with (go_at_call 28; refine (HX.out _).mono ?_; rintro x w13 ⟨rfl, hb⟩; have S := Lib.hid (S.out.keep hb); clear hb; obtain ⟨q0', q1', q2', q3', q4', fq⟩ := S.out.seeq; obtain ⟨p0, p1, p2, p3, p4, g0, g1, g2, g3, g4⟩ := S.out.seep)
  obtain ⟨F, r0, r1', r2, r3, r4⟩ := S.out.done 0 0 0 0 0
  show bodyPost _ _ _ _ _ (put16r w13 w.heap.size 0 0 0 0 0)
  generalize put16r w13 w.heap.size 0 0 0 0 0 = WW at *
  refine bodyPost_ret (v := .tuple #[.agg #[.int .i64 0, .int .i64 0, .int .i64 0, .int .i64 0, .int .i64 0], ev R]) (by simp [results, Try.results44, go_sem, r0, r1', r2, r3, r4, ev]) rfl ⟨rfl, F⟩
set_option maxHeartbeats 4000000 in
theorem parse16_s_good (str : ByteArray) (w : World) (K M D A : Int) (k k1 k2 : Nat) (e e2 : Int) (n : Bool) (h m s : Int) (T : Int) 
    (HD : Hid (∀ g w, Sk Ts w g (.string str) 0 0 → Calls Try.prog 57 #[.pointer (some ⟨g, 0, none⟩)] w fun x w' => x = .returned (.agg #[.int .i64 K, .int .i64 M, .int .i64 D, .int .i64 A, .int .i64 0]) ∧ Mv Ts g (.string str) k e w w'))
    (HT : Hid (∀ g w, Sk Ts w g (.string str) k e → Calls Try.prog 35 #[.pointer (some ⟨g, 0, none⟩), .int .u8 47] w fun x w' => x = .returned (.bool true) ∧ Mv Ts g (.string str) k1 e w w'))
    (HC : Hid (∀ g w, Sk Ts w g (.string str) k1 e → Calls Try.prog 54 #[.pointer (some ⟨g, 0, none⟩)] w fun x w' => x = .returned (.agg #[.bool n, .int .i64 h, .int .i64 m, .int .i64 s]) ∧ Mv Ts g (.string str) k2 e2 w w'))
    (HE : Hid (∀ g w, Sk Ts w g (.string str) k2 e2 → Calls Try.prog 11 #[.pointer (some ⟨g, 0, none⟩)] w fun x w' => x = .returned (ev 0) ∧ ∃ n, w' = w.drewN n))
    (HF : Hid (∀ w, Calls Try.prog 55 #[.agg #[.bool n, .int .i64 h, .int .i64 m, .int .i64 s], .int .i64 167] w fun x w' => x = .returned (.bool true) ∧ Below w.heap.size w w'))
    (HO : Hid (∀ w, Calls Try.prog 56 #[.agg #[.bool n, .int .i64 h, .int .i64 m, .int .i64 s]] w fun x w' => x = .returned (.int .i64 T) ∧ Below w.heap.size w w'))
    (HX : Hid (∀ w, Calls Try.prog 28 #[.agg #[.int .i64 K, .int .i64 M, .int .i64 D, .int .i64 A, .int .i64 T]] w fun x w' => x = .returned (ev 0) ∧ Below w.heap.size w w'))
    : Calls Try.prog 44 #[.string str] w fun x w' => x = .returned (.tuple #[.agg #[.int .i64 K, .int .i64 M, .int .i64 D, .int .i64 A, .int .i64 T], ev 0]) ∧ Below w.heap.size w w' := by
  have q0 := fun op t W x k => guard_ev op t W x k
  have q2 := fun W k => neq_ev W k
  have HK : Hid (∀ w, Calls Try.prog 58 #[.int .i64 7200] w fun e w' => e = .returned (.agg #[.bool false, .int .i64 2, .int .i64 0, .int .i64 0]) ∧ Below w.heap.size w w') := Lib.hid (fun w => clockof_any 7200 w (by decide))
  obtain ⟨W0, hW0⟩ : ∃ W0, W0 = w.alloc (.cells #[.int .i64 0, .int .i64 0, .int .i64 0, .int .i64 0, .int .i64 0] 24) := ⟨_, rfl⟩
  have hN := new16_s str W0
  have hS := gnew16_s str W0
  have b0 : Below w.heap.size w W0 := by rw [hW0]; exact bel16 w _
  have r0' : W0.heap[w.heap.size]? = some (.cells #[.int .i64 0, .int .i64 0, .int .i64 0, .int .i64 0, .int .i64 0] 24 (0, 0)) := by rw [hW0]; exact heap_alloc_new w _
  have b1 : Below w.heap.size w (W0.alloc (.cells #[.string str, .int .i64 0, .nilIface] Ts)) := b0.alloc b0.size _
  have r1' := bel_keep (bel16 W0 (.cells #[.string str, .int .i64 0, .nilIface] Ts)) r0'
  obtain ⟨g, hg⟩ : ∃ g, g = W0.heap.size := ⟨_, rfl⟩
  have pg : w.heap.size ≠ g := by have := bk_lt r0'; omega
  have lg : w.heap.size ≤ g := by have := b0.size; omega
  obtain ⟨W1, hW1⟩ : ∃ W1, W1 = W0.alloc (.cells #[.string str, .int .i64 0, .nilIface] Ts) := ⟨_, rfl⟩
  rw [← hW1, ← hg] at hN hS
  rw [← hW1] at b1 r1'
  have HN := Lib.hid hN; have HS := Lib.hid hS; have B1 := Lib.hid b1; have R1 := Lib.hid r1'; have PG := Lib.hid pg; have LG := Lib.hid lg
  clear hN hS b0 r0' b1 r1' pg lg hW1 hg
  generalize hv : Value.string str = v at *
  have HV := Lib.hid hv
  clear hv
  go_enter Try.func44, Try.ntmps44
  go_upto_region 1 with fail
  rw [← hW0]; clear hW0
  go_upto_region 3 with (first
    | (go_at_call 9; refine HN.out.mono ?_; rintro x w' ⟨rfl, rfl⟩)
    | (go_at_call 57; refine (HD.out _ _ HS.out).mono ?_; rintro x w2 ⟨rfl, hm⟩; have M2 := Lib.hid hm; clear hm))
  have s3 := M2.out.1.alloc (.cells #[.int .i64 K, .int .i64 M, .int .i64 D, .int .i64 A, .int .i64 0] 24)
  have p3 := bel_keep (bel16 w2 (.cells #[.int .i64 K, .int .i64 M, .int .i64 D, .int .i64 A, .int .i64 0] 24)) (mv_block M2.out R1.out PG.out)
  have c3 := bel_mv B1.out M2.out LG.out
  have d3 := c3.alloc c3.size (.cells #[.int .i64 K, .int .i64 M, .int .i64 D, .int .i64 A, .int .i64 0] 24)
  have e3' : (w2.alloc (.cells #[.int .i64 K, .int .i64 M, .int .i64 D, .int .i64 A, .int .i64 0] 24)).heap[w2.heap.size]? = some (.cells #[.int .i64 K, .int .i64 M, .int .i64 D, .int .i64 A, .int .i64 0] 24 (0, 0)) := heap_alloc_new w2 _
  obtain ⟨q, hq⟩ : ∃ q, q = w2.heap.size := ⟨_, rfl⟩
  have qg : q ≠ g := by have := M2.out.1.lt; omega
  have pq : w.heap.size ≠ q := by have := bk_lt (mv_block M2.out R1.out PG.out); omega
  have lq : w.heap.size ≤ q := by have := c3.size; omega
  obtain ⟨W3, hW3⟩ : ∃ W3, W3 = w2.alloc (.cells #[.int .i64 K, .int .i64 M, .int .i64 D, .int .i64 A, .int .i64 0] 24) := ⟨_, rfl⟩
  rw [← hW3] at s3 p3 d3 e3'
  rw [← hq] at e3'
  rw [← hW3, ← hq]
  have S3 := Lib.hid s3; have P3 := Lib.hid p3; have D3 := Lib.hid d3; have E3 := Lib.hid e3'; have QG := Lib.hid qg; have PQ := Lib.hid pq; have LQ := Lib.hid lq
  clear hW3 hq s3 p3 c3 d3 e3' qg pq lq
  go_upto_region 4 with (go_at_call 58; refine (HK.out _).mono ?_; rintro x w4 ⟨rfl, hb⟩; have B4 := Lib.hid hb; clear hb)
  have hb5 := bel16 w4 (.cells #[.bool false, .int .i64 2, .int .i64 0, .int .i64 0] 88)
  have c4 := D3.out.trans (B4.out.mono D3.out.size)
  have S5 : Pc w (w4.alloc (.cells #[.bool false, .int .i64 2, .int .i64 0, .int .i64 0] 88)) g v k e w.heap.size q #[.int .i64 K, .int .i64 M, .int .i64 D, .int .i64 A, .int .i64 0] w4.heap.size #[.bool false, .int .i64 2, .int .i64 0, .int .i64 0] :=
    ⟨(S3.out.below B4.out S3.out.lt).alloc _, bel_keep hb5 (bel_keep B4.out P3.out), bel_keep hb5 (bel_keep B4.out E3.out), heap_alloc_new w4 _, c4.alloc c4.size _, LG.out, Nat.le_refl _, LQ.out, c4.size, PG.out, QG.out, by have := (S3.out.below B4.out S3.out.lt).lt; omega, PQ.out, by have := bk_lt (bel_keep B4.out P3.out); omega, by have := bk_lt (bel_keep B4.out E3.out); omega⟩
  obtain ⟨z, hz⟩ : ∃ z, z = w4.heap.size := ⟨_, rfl⟩
  obtain ⟨W5, hW5⟩ : ∃ W5, W5 = w4.alloc (.cells #[.bool false, .int .i64 2, .int .i64 0, .int .i64 0] 88) := ⟨_, rfl⟩
  rw [← hW5, ← hz] at S5
  rw [← hW5, ← hz]
  have S := Lib.hid S5
  clear hW5 hz hb5 c4 S5
  go_upto_region 6 with (first
    | (go_at_call 35; refine (HT.out _ _ S.out.sk).mono ?_; rintro x w6 ⟨rfl, hm⟩; have S := Lib.hid (S.out.mv hm); clear hm)
    | (go_at_call 54; refine (HC.out _ _ S.out.sk).mono ?_; rintro x w7 ⟨rfl, hm⟩; have S := Lib.hid (S.out.mv hm); clear hm; obtain ⟨z0, z1, z2, z3, f0, f1, f2, f3⟩ := S.out.seez))
  show Code.wp _ _ _ _ (put16c w7 z n h m s)
  have S8 := S.out.putz (n := n) (a := h) (m := m) (s := s)
  obtain ⟨W8, hW8⟩ : ∃ W8, W8 = put16c w7 z n h m s := ⟨_, rfl⟩
  rw [← hW8] at S8
  rw [← hW8]
  replace S := Lib.hid S8
  clear S8 hW8
  clear z0 z1 z2 z3 f0 f1 f2 f3
  go_upto_region 9 with (go_at_call 11; refine (HE.out _ _ S.out.sk).mono ?_; rintro x w9 ⟨rfl, nq, rfl⟩; have S := Lib.hid (S.out.drew nq))
  obtain ⟨W9, hW9⟩ : ∃ W9, W9 = W8.drewN nq := ⟨_, rfl⟩
  rw [← hW9] at S
  rw [← hW9]
  clear hW9
  obtain ⟨z0, z1, z2, z3, f0, f1, f2, f3⟩ := S.out.seez
  go_upto_region 12 with (first
    | (go_at_call 55; refine (HF.out _).mono ?_; rintro x w10 ⟨rfl, hb⟩; have S := Lib.hid (S.out.keep hb); clear hb; obtain ⟨z0, z1, z2, z3, f0, f1, f2, f3⟩ := S.out.seez)
    | (go_at_call 56; refine (HO.out _).mono ?_; rintro x w11 ⟨rfl, hb⟩; have S := Lib.hid (S.out.keep hb); clear hb; obtain ⟨q0', q1', q2', q3', q4', fq⟩ := S.out.seeq; have S := Lib.hid (S.out.setq 4 (.int .i64 T))))
  obtain ⟨W12, hW12⟩ : ∃ W12, W12 = w11.setCell ⟨q, 4, none⟩ (.int .i64 T) := ⟨_, rfl⟩
  rw [← hW12] at S
  rw [← hW12]
  clear hW12 q0' q1' q2' q3' q4' fq
  have S12 : Pc w W12 g v _ _ w.heap.size q #[.int .i64 K, .int .i64 M, .int .i64 D, .int .i64 A, .int .i64 T] z _ := S.out
  replace S := Lib.hid S12
  clear S12
  obtain ⟨q0', q1', q2', q3', q4', fq⟩ := S.out.seeq
  go_wp2_with (go_at_call 28; refine (HX.out _).mono ?_; rintro x w13 ⟨rfl, hb⟩; have S := Lib.hid (S.out.keep hb); clear hb; obtain ⟨q0', q1', q2', q3', q4', fq⟩ := S.out.seeq; obtain ⟨p0, p1, p2, p3, p4, g0, g1, g2, g3, g4⟩ := S.out.seep)
  obtain ⟨F, r0, r1', r2, r3, r4⟩ := S.out.done K M D A T
  show bodyPost _ _ _ _ _ (put16r w13 w.heap.size K M D A T)
  generalize put16r w13 w.heap.size K M D A T = WW at *
  refine bodyPost_ret (v := .tuple #[.agg #[.int .i64 K, .int .i64 M, .int .i64 D, .int .i64 A, .int .i64 T], ev 0]) (by simp [results, Try.results44, go_sem, r0, r1', r2, r3, r4, ev]) rfl ⟨rfl, F⟩
set_option maxHeartbeats 4000000 in
theorem parse16_n_bad (str : ByteArray) (w : World) (K M D A : Int) (k k1 : Nat) (e : Int) 
    (HD : Hid (∀ g w, Sk Ts w g (.string str) 0 0 → Calls Try.prog 57 #[.pointer (some ⟨g, 0, none⟩)] w fun x w' => x = .returned (.agg #[.int .i64 K, .int .i64 M, .int .i64 D, .int .i64 A, .int .i64 0]) ∧ Mv Ts g (.string str) k e w w'))
    (HT : Hid (∀ g w, Sk Ts w g (.string str) k e → Calls Try.prog 35 #[.pointer (some ⟨g, 0, none⟩), .int .u8 47] w fun x w' => x = .returned (.bool false) ∧ Mv Ts g (.string str) k1 e w w'))
    (HE : Hid (∀ g w, Sk Ts w g (.string str) k1 e → Calls Try.prog 11 #[.pointer (some ⟨g, 0, none⟩)] w fun x w' => x = .returned (ev 2) ∧ ∃ n, w' = w.drewN n))
    : Calls Try.prog 44 #[.string str] w fun x w' => x = .returned (.tuple #[.agg #[.int .i64 0, .int .i64 0, .int .i64 0, .int .i64 0, .int .i64 0], ev 2]) ∧ Below w.heap.size w w' := by
  have q0 := fun op t W x k => guard_ev op t W x k
  have q2 := fun W k => neq_ev W k
  have HK : Hid (∀ w, Calls Try.prog 58 #[.int .i64 7200] w fun e w' => e = .returned (.agg #[.bool false, .int .i64 2, .int .i64 0, .int .i64 0]) ∧ Below w.heap.size w w') := Lib.hid (fun w => clockof_any 7200 w (by decide))
  obtain ⟨W0, hW0⟩ : ∃ W0, W0 = w.alloc (.cells #[.int .i64 0, .int .i64 0, .int .i64 0, .int .i64 0, .int .i64 0] 24) := ⟨_, rfl⟩
  have hN := new16_s str W0
  have hS := gnew16_s str W0
  have b0 : Below w.heap.size w W0 := by rw [hW0]; exact bel16 w _
  have r0' : W0.heap[w.heap.size]? = some (.cells #[.int .i64 0, .int .i64 0, .int .i64 0, .int .i64 0, .int .i64 0] 24 (0, 0)) := by rw [hW0]; exact heap_alloc_new w _
  have b1 : Below w.heap.size w (W0.alloc (.cells #[.string str, .int .i64 0, .nilIface] Ts)) := b0.alloc b0.size _
  have r1' := bel_keep (bel16 W0 (.cells #[.string str, .int .i64 0, .nilIface] Ts)) r0'
  obtain ⟨g, hg⟩ : ∃ g, g = W0.heap.size := ⟨_, rfl⟩
  have pg : w.heap.size ≠ g := by have := bk_lt r0'; omega
  have lg : w.heap.size ≤ g := by have := b0.size; omega
  obtain ⟨W1, hW1⟩ : ∃ W1, W1 = W0.alloc (.cells #[.string str, .int .i64 0, .nilIface] Ts) := ⟨_, rfl⟩
  rw [← hW1, ← hg] at hN hS
  rw [← hW1] at b1 r1'
  have HN := Lib.hid hN; have HS := Lib.hid hS; have B1 := Lib.hid b1; have R1 := Lib.hid r1'; have PG := Lib.hid pg; have LG := Lib.hid lg
  clear hN hS b0 r0' b1 r1' pg lg hW1 hg
  generalize hv : Value.string str = v at *
  have HV := Lib.hid hv
  clear hv
  go_enter Try.func44, Try.ntmps44
  go_upto_region 1 with fail
  rw [← hW0]; clear hW0
  go_upto_region 3 with (first
    | (go_at_call 9; refine HN.out.mono ?_; rintro x w' ⟨rfl, rfl⟩)
    | (go_at_call 57; refine (HD.out _ _ HS.out).mono ?_; rintro x w2 ⟨rfl, hm⟩; have M2 := Lib.hid hm; clear hm))
  have s3 := M2.out.1.alloc (.cells #[.int .i64 K, .int .i64 M, .int .i64 D, .int .i64 A, .int .i64 0] 24)
  have p3 := bel_keep (bel16 w2 (.cells #[.int .i64 K, .int .i64 M, .int .i64 D, .int .i64 A, .int .i64 0] 24)) (mv_block M2.out R1.out PG.out)
  have c3 := bel_mv B1.out M2.out LG.out
  have d3 := c3.alloc c3.size (.cells #[.int .i64 K, .int .i64 M, .int .i64 D, .int .i64 A, .int .i64 0] 24)
  have e3' : (w2.alloc (.cells #[.int .i64 K, .int .i64 M, .int .i64 D, .int .i64 A, .int .i64 0] 24)).heap[w2.heap.size]? = some (.cells #[.int .i64 K, .int .i64 M, .int .i64 D, .int .i64 A, .int .i64 0] 24 (0, 0)) := heap_alloc_new w2 _
  obtain ⟨q, hq⟩ : ∃ q, q = w2.heap.size := ⟨_, rfl⟩
  have qg : q ≠ g := by have := M2.out.1.lt; omega
  have pq : w.heap.size ≠ q := by have := bk_lt (mv_block M2.out R1.out PG.out); omega
  have lq : w.heap.size ≤ q := by have := c3.size; omega
  obtain ⟨W3, hW3⟩ : ∃ W3, W3 = w2.alloc (.cells #[.int .i64 K, .int .i64 M, .int .i64 D, .int .i64 A, .int .i64 0] 24) := ⟨_, rfl⟩
  rw [← hW3] at s3 p3 d3 e3'
  rw [← hq] at e3'
  rw [← hW3, ← hq]
  have S3 := Lib.hid s3; have P3 := Lib.hid p3; have D3 := Lib.hid d3; have E3 := Lib.hid e3'; have QG := Lib.hid qg; have PQ := Lib.hid pq; have LQ := Lib.hid lq
  clear hW3 hq s3 p3 c3 d3 e3' qg pq lq
  go_upto_region 4 with (go_at_call 58; refine (HK.out _).mono ?_; rintro x w4 ⟨rfl, hb⟩; have B4 := Lib.hid hb; clear hb)
  have hb5 := bel16 w4 (.cells #[.bool false, .int .i64 2, .int .i64 0, .int .i64 0] 88)
  have c4 := D3.out.trans (B4.out.mono D3.out.size)
  have S5 : Pc w (w4.alloc (.cells #[.bool false, .int .i64 2, .int .i64 0, .int .i64 0] 88)) g v k e w.heap.size q #[.int .i64 K, .int .i64 M, .int .i64 D, .int .i64 A, .int .i64 0] w4.heap.size #[.bool false, .int .i64 2, .int .i64 0, .int .i64 0] :=
    ⟨(S3.out.below B4.out S3.out.lt).alloc _, bel_keep hb5 (bel_keep B4.out P3.out), bel_keep hb5 (bel_keep B4.out E3.out), heap_alloc_new w4 _, c4.alloc c4.size _, LG.out, Nat.le_refl _, LQ.out, c4.size, PG.out, QG.out, by have := (S3.out.below B4.out S3.out.lt).lt; omega, PQ.out, by have := bk_lt (bel_keep B4.out P3.out); omega, by have := bk_lt (bel_keep B4.out E3.out); omega⟩
  obtain ⟨z, hz⟩ : ∃ z, z = w4.heap.size := ⟨_, rfl⟩
  obtain ⟨W5, hW5⟩ : ∃ W5, W5 = w4.alloc (.cells #[.bool false, .int .i64 2, .int .i64 0, .int .i64 0] 88) := ⟨_, rfl⟩
  rw [← hW5, ← hz] at S5
  rw [← hW5, ← hz]
  have S := Lib.hid S5
  clear hW5 hz hb5 c4 S5
  go_upto_region 6 with (go_at_call 35; refine (HT.out _ _ S.out.sk).mono ?_; rintro x w6 ⟨rfl, hm⟩; have S := Lib.hid (S.out.mv hm); clear hm)
  go_upto_region 7 with (go_at_call 11; refine (HE.out _ _ S.out.sk).mono ?_; rintro x w9 ⟨rfl, nq, rfl⟩; have S := Lib.hid (S.out.drew nq))
  obtain ⟨p0, p1, p2, p3, p4, g0, g1, g2, g3, g4⟩ := S.out.seep
  go_wp2_with fail
  obtain ⟨F, r0, r1', r2, r3, r4⟩ := S.out.done 0 0 0 0 0
  show bodyPost _ _ _ _ _ (put16r (w6.drewN nq) w.heap.size 0 0 0 0 0)
  generalize put16r (w6.drewN nq) w.heap.size 0 0 0 0 0 = WW at *
  refine bodyPost_ret (v := .tuple #[.agg #[.int .i64 0, .int .i64 0, .int .i64 0, .int .i64 0, .int .i64 0], ev 2]) (by simp [results, Try.results44, go_sem, r0, r1', r2, r3, r4, ev]) rfl ⟨rfl, F⟩
set_option maxHeartbeats 4000000 in
theorem parse16_n_wrong (str : ByteArray) (w : World) (K M D A : Int) (k k1 : Nat) (e : Int) (T R : Int) (r0 : R ≠ 0) 
    (HD : Hid (∀ g w, Sk Ts w g (.string str) 0 0 → Calls Try.prog 57 #[.pointer (some ⟨g, 0, none⟩)] w fun x w' => x = .returned (.agg #[.int .i64 K, .int .i64 M, .int .i64 D, .int .i64 A, .int .i64 0]) ∧ Mv Ts g (.string str) k e w w'))
    (HT : Hid (∀ g w, Sk Ts w g (.string str) k e → Calls Try.prog 35 #[.pointer (some ⟨g, 0, none⟩), .int .u8 47] w fun x w' => x = .returned (.bool false) ∧ Mv Ts g (.string str) k1 e w w'))
    (HE : Hid (∀ g w, Sk Ts w g (.string str) k1 e → Calls Try.prog 11 #[.pointer (some ⟨g, 0, none⟩)] w fun x w' => x = .returned (ev 0) ∧ ∃ n, w' = w.drewN n))
    (HF : Hid (∀ w, Calls Try.prog 55 #[.agg #[.bool false, .int .i64 2, .int .i64 0, .int .i64 0], .int .i64 167] w fun x w' => x = .returned (.bool true) ∧ Below w.heap.size w w'))
    (HO : Hid (∀ w, Calls Try.prog 56 #[.agg #[.bool false, .int .i64 2, .int .i64 0, .int .i64 0]] w fun x w' => x = .returned (.int .i64 T) ∧ Below w.heap.size w w'))
    (HX : Hid (∀ w, Calls Try.prog 28 #[.agg #[.int .i64 K, .int .i64 M, .int .i64 D, .int .i64 A, .int .i64 T]] w fun x w' => x = .returned (ev R) ∧ Below w.heap.size w w'))
    : Calls Try.prog 44 #[.string str] w fun x w' => x = .returned (.tuple #[.agg #[.int .i64 0, .int .i64 0, .int .i64 0, .int .i64 0, .int .i64 0], ev R]) ∧ Below w.heap.size w w' := by
  have q0 := fun op t W x k => guard_ev op t W x k
  have q2 := fun W k => neq_ev W k
  have r1 := ne_yes r0
  clear r0
  have HK : Hid (∀ w, Calls Try.prog 58 #[.int .i64 7200] w fun e w' => e = .returned (.agg #[.bool false, .int .i64 2, .int .i64 0, .int .i64 0]) ∧ Below w.heap.size w w') := Lib.hid (fun w => clockof_any 7200 w (by decide))
  obtain ⟨W0, hW0⟩ : ∃ W0, W0 = w.alloc (.cells #[.int .i64 0, .int .i64 0, .int .i64 0, .int .i64 0, .int .i64 0] 24) := ⟨_, rfl⟩
  have hN := new16_s str W0
  have hS := gnew16_s str W0
  have b0 : Below w.heap.size w W0 := by rw [hW0]; exact bel16 w _
  have r0' : W0.heap[w.heap.size]? = some (.cells #[.int .i64 0, .int .i64 0, .int .i64 0, .int .i64 0, .int .i64 0] 24 (0, 0)) := by rw [hW0]; exact heap_alloc_new w _
  have b1 : Below w.heap.size w (W0.alloc (.cells #[.string str, .int .i64 0, .nilIface] Ts)) := b0.alloc b0.size _
  have r1' := bel_keep (bel16 W0 (.cells #[.string str, .int .i64 0, .nilIface] Ts)) r0'
  obtain ⟨g, hg⟩ : ∃ g, g = W0.heap.size := ⟨_, rfl⟩
  have pg : w.heap.size ≠ g := by have := bk_lt r0'; omega
  have lg : w.heap.size ≤ g := by have := b0.size; omega
  obtain ⟨W1, hW1⟩ : ∃ W1, W1 = W0.alloc (.cells #[.string str, .int .i64 0, .nilIface] Ts) := ⟨_, rfl⟩
  rw [← hW1, ← hg] at hN hS
  rw [← hW1] at b1 r1'
  have HN := Lib.hid hN; have HS := Lib.hid hS; have B1 := Lib.hid b1; have R1 := Lib.hid r1'; have PG := Lib.hid pg; have LG := Lib.hid lg
  clear hN hS b0 r0' b1 r1' pg lg hW1 hg
  generalize hv : Value.string str = v at *
  have HV := Lib.hid hv
  clear hv
  go_enter Try.func44, Try.ntmps44
  go_upto_region 1 with fail
  rw [← hW0]; clear hW0
  go_upto_region 3 with (first
    | (go_at_call 9; refine HN.out.mono ?_; rintro x w' ⟨rfl, rfl⟩)
    | (go_at_call 57; refine (HD.out _ _ HS.out).mono ?_; rintro x w2 ⟨rfl, hm⟩; have M2 := Lib.hid hm; clear hm))
  have s3 := M2.out.1.alloc (.cells #[.int .i64 K, .int .i64 M, .int .i64 D, .int .i64 A, .int .i64 0] 24)
  have p3 := bel_keep (bel16 w2 (.cells #[.int .i64 K, .int .i64 M, .int .i64 D, .int .i64 A, .int .i64 0] 24)) (mv_block M2.out R1.out PG.out)
  have c3 := bel_mv B1.out M2.out LG.out
  have d3 := c3.alloc c3.size (.cells #[.int .i64 K, .int .i64 M, .int .i64 D, .int .i64 A, .int .i64 0] 24)
  have e3' : (w2.alloc (.cells #[.int .i64 K, .int .i64 M, .int .i64 D, .int .i64 A, .int .i64 0] 24)).heap[w2.heap.size]? = some (.cells #[.int .i64 K, .int .i64 M, .int .i64 D, .int .i64 A, .int .i64 0] 24 (0, 0)) := heap_alloc_new w2 _
  obtain ⟨q, hq⟩ : ∃ q, q = w2.heap.size := ⟨_, rfl⟩
  have qg : q ≠ g := by have := M2.out.1.lt; omega
  have pq : w.heap.size ≠ q := by have := bk_lt (mv_block M2.out R1.out PG.out); omega
  have lq : w.heap.size ≤ q := by have := c3.size; omega
  obtain ⟨W3, hW3⟩ : ∃ W3, W3 = w2.alloc (.cells #[.int .i64 K, .int .i64 M, .int .i64 D, .int .i64 A, .int .i64 0] 24) := ⟨_, rfl⟩
  rw [← hW3] at s3 p3 d3 e3'
  rw [← hq] at e3'
  rw [← hW3, ← hq]
  have S3 := Lib.hid s3; have P3 := Lib.hid p3; have D3 := Lib.hid d3; have E3 := Lib.hid e3'; have QG := Lib.hid qg; have PQ := Lib.hid pq; have LQ := Lib.hid lq
  clear hW3 hq s3 p3 c3 d3 e3' qg pq lq
  go_upto_region 4 with (go_at_call 58; refine (HK.out _).mono ?_; rintro x w4 ⟨rfl, hb⟩; have B4 := Lib.hid hb; clear hb)
  have hb5 := bel16 w4 (.cells #[.bool false, .int .i64 2, .int .i64 0, .int .i64 0] 88)
  have c4 := D3.out.trans (B4.out.mono D3.out.size)
  have S5 : Pc w (w4.alloc (.cells #[.bool false, .int .i64 2, .int .i64 0, .int .i64 0] 88)) g v k e w.heap.size q #[.int .i64 K, .int .i64 M, .int .i64 D, .int .i64 A, .int .i64 0] w4.heap.size #[.bool false, .int .i64 2, .int .i64 0, .int .i64 0] :=
    ⟨(S3.out.below B4.out S3.out.lt).alloc _, bel_keep hb5 (bel_keep B4.out P3.out), bel_keep hb5 (bel_keep B4.out E3.out), heap_alloc_new w4 _, c4.alloc c4.size _, LG.out, Nat.le_refl _, LQ.out, c4.size, PG.out, QG.out, by have := (S3.out.below B4.out S3.out.lt).lt; omega, PQ.out, by have := bk_lt (bel_keep B4.out P3.out); omega, by have := bk_lt (bel_keep B4.out E3.out); omega⟩
  obtain ⟨z, hz⟩ : ∃ z, z = w4.heap.size := ⟨_, rfl⟩
  obtain ⟨W5, hW5⟩ : ∃ W5, W5 = w4.alloc (.cells #[.bool false, .int .i64 2, .int .i64 0, .int .i64 0] 88) := ⟨_, rfl⟩
  rw [← hW5, ← hz] at S5
  rw [← hW5, ← hz]
  have S := Lib.hid S5
  clear hW5 hz hb5 c4 S5
  go_upto_region 6 with (go_at_call 35; refine (HT.out _ _ S.out.sk).mono ?_; rintro x w6 ⟨rfl, hm⟩; have S := Lib.hid (S.out.mv hm); clear hm)
  go_upto_region 9 with (go_at_call 11; refine (HE.out _ _ S.out.sk).mono ?_; rintro x w9 ⟨rfl, nq, rfl⟩; have S := Lib.hid (S.out.drew nq))
  obtain ⟨W9, hW9⟩ : ∃ W9, W9 = w6.drewN nq := ⟨_, rfl⟩
  rw [← hW9] at S
  rw [← hW9]
  clear hW9
  obtain ⟨z0, z1, z2, z3, f0, f1, f2, f3⟩ := S.out.seez
  go_upto_region 12 with (first
    | (go_at_call 55; refine (HF.out _).mono ?_; rintro x w10 ⟨rfl, hb⟩; have S := Lib.hid (S.out.keep hb); clear hb; obtain ⟨z0, z1, z2, z3, f0, f1, f2, f3⟩ := S.out.seez)
    | (go_at_call 56; refine (HO.out _).mono ?_; rintro x w11 ⟨rfl, hb⟩; have S := Lib.hid (S.out.keep hb); clear hb; obtain ⟨q0', q1', q2', q3', q4', fq⟩ := S.out.seeq; have S := Lib.hid (S.out.setq 4 (.int .i64 T))))
  obtain ⟨W12, hW12⟩ : ∃ W12, W12 = w11.setCell ⟨q, 4, none⟩ (.int .i64 T) := ⟨_, rfl⟩
  rw [← hW12] at S
  rw [← hW12]
  clear hW12 q0' q1' q2' q3' q4' fq
  have S12 : Pc w W12 g v _ _ w.heap.size q #[.int .i64 K, .int .i64 M, .int .i64 D, .int .i64 A, .int .i64 T] z _ := S.out
  replace S := Lib.hid S12
  clear S12
  obtain ⟨q0', q1', q2', q3', q4', fq⟩ := S.out.seeq
  go_wp2_with (go_at_call 28; refine (HX.out _).mono ?_; rintro x w13 ⟨rfl, hb⟩; have S := Lib.hid (S.out.keep hb); clear hb; obtain ⟨q0', q1', q2', q3', q4', fq⟩ := S.out.seeq; obtain ⟨p0, p1, p2, p3, p4, g0, g1, g2, g3, g4⟩ := S.out.seep)
  obtain ⟨F, r0, r1', r2, r3, r4⟩ := S.out.done 0 0 0 0 0
  show bodyPost _ _ _ _ _ (put16r w13 w.heap.size 0 0 0 0 0)
  generalize put16r w13 w.heap.size 0 0 0 0 0 = WW at *
  refine bodyPost_ret (v := .tuple #[.agg #[.int .i64 0, .int .i64 0, .int .i64 0, .int .i64 0, .int .i64 0], ev R]) (by simp [results, Try.results44, go_sem, r0, r1', r2, r3, r4, ev]) rfl ⟨rfl, F⟩
set_option maxHeartbeats 4000000 in
theorem parse16_n_good (str : ByteArray) (w : World) (K M D A : Int) (k k1 : Nat) (e : Int) (T : Int) 
    (HD : Hid (∀ g w, Sk Ts w g (.string str) 0 0 → Calls Try.prog 57 #[.pointer (some ⟨g, 0, none⟩)] w fun x w' => x = .returned (.agg #[.int .i64 K, .int .i64 M, .int .i64 D, .int .i64 A, .int .i64 0]) ∧ Mv Ts g (.string str) k e w w'))
    (HT : Hid (∀ g w, Sk Ts w g (.string str) k e → Calls Try.prog 35 #[.pointer (some ⟨g, 0, none⟩), .int .u8 47] w fun x w' => x = .returned (.bool false) ∧ Mv Ts g (.string str) k1 e w w'))
    (HE : Hid (∀ g w, Sk Ts w g (.string str) k1 e → Calls Try.prog 11 #[.pointer (some ⟨g, 0, none⟩)] w fun x w' => x = .returned (ev 0) ∧ ∃ n, w' = w.drewN n))
    (HF : Hid (∀ w, Calls Try.prog 55 #[.agg #[.bool false, .int .i64 2, .int .i64 0, .int .i64 0], .int .i64 167] w fun x w' => x = .returned (.bool true) ∧ Below w.heap.size w w'))
    (HO : Hid (∀ w, Calls Try.prog 56 #[.agg #[.bool false, .int .i64 2, .int .i64 0, .int .i64 0]] w fun x w' => x = .returned (.int .i64 T) ∧ Below w.heap.size w w'))
    (HX : Hid (∀ w, Calls Try.prog 28 #[.agg #[.int .i64 K, .int .i64 M, .int .i64 D, .int .i64 A, .int .i64 T]] w fun x w' => x = .returned (ev 0) ∧ Below w.heap.size w w'))
    : Calls Try.prog 44 #[.string str] w fun x w' => x = .returned (.tuple #[.agg #[.int .i64 K, .int .i64 M, .int .i64 D, .int .i64 A, .int .i64 T], ev 0]) ∧ Below w.heap.size w w' := by
  have q0 := fun op t W x k => guard_ev op t W x k
  have q2 := fun W k => neq_ev W k
  have HK : Hid (∀ w, Calls Try.prog 58 #[.int .i64 7200] w fun e w' => e = .returned (.agg #[.bool false, .int .i64 2, .int .i64 0, .int .i64 0]) ∧ Below w.heap.size w w') := Lib.hid (fun w => clockof_any 7200 w (by decide))
  obtain ⟨W0, hW0⟩ : ∃ W0, W0 = w.alloc (.cells #[.int .i64 0, .int .i64 0, .int .i64 0, .int .i64 0, .int .i64 0] 24) := ⟨_, rfl⟩
  have hN := new16_s str W0
  have hS := gnew16_s str W0
  have b0 : Below w.heap.size w W0 := by rw [hW0]; exact bel16 w _
  have r0' : W0.heap[w.heap.size]? = some (.cells #[.int .i64 0, .int .i64 0, .int .i64 0, .int .i64 0, .int .i64 0] 24 (0, 0)) := by rw [hW0]; exact heap_alloc_new w _
  have b1 : Below w.heap.size w (W0.alloc (.cells #[.string str, .int .i64 0, .nilIface] Ts)) := b0.alloc b0.size _
  have r1' := bel_keep (bel16 W0 (.cells #[.string str, .int .i64 0, .nilIface] Ts)) r0'
  obtain ⟨g, hg⟩ : ∃ g, g = W0.heap.size := ⟨_, rfl⟩
  have pg : w.heap.size ≠ g := by have := bk_lt r0'; omega
  have lg : w.heap.size ≤ g := by have := b0.size; omega
  obtain ⟨W1, hW1⟩ : ∃ W1, W1 = W0.alloc (.cells #[.string str, .int .i64 0, .nilIface] Ts) := ⟨_, rfl⟩
  rw [← hW1, ← hg] at hN hS
  rw [← hW1] at b1 r1'
  have HN := Lib.hid hN; have HS := Lib.hid hS; have B1 := Lib.hid b1; have R1 := Lib.hid r1'; have PG := Lib.hid pg; have LG := Lib.hid lg
  clear hN hS b0 r0' b1 r1' pg lg hW1 hg
  generalize hv : Value.string str = v at *
  have HV := Lib.hid hv
  clear hv
  go_enter Try.func44, Try.ntmps44
  go_upto_region 1 with fail
  rw [← hW0]; clear hW0
  go_upto_region 3 with (first
    | (go_at_call 9; refine HN.out.mono ?_; rintro x w' ⟨rfl, rfl⟩)
    | (go_at_call 57; refine (HD.out _ _ HS.out).mono ?_; rintro x w2 ⟨rfl, hm⟩; have M2 := Lib.hid hm; clear hm))
  have s3 := M2.out.1.alloc (.cells #[.int .i64 K, .int .i64 M, .int .i64 D, .int .i64 A, .int .i64 0] 24)
  have p3 := bel_keep (bel16 w2 (.cells #[.int .i64 K, .int .i64 M, .int .i64 D, .int .i64 A, .int .i64 0] 24)) (mv_block M2.out R1.out PG.out)
  have c3 := bel_mv B1.out M2.out LG.out
  have d3 := c3.alloc c3.size (.cells #[.int .i64 K, .int .i64 M, .int .i64 D, .int .i64 A, .int .i64 0] 24)
  have e3' : (w2.alloc (.cells #[.int .i64 K, .int .i64 M, .int .i64 D, .int .i64 A, .int .i64 0] 24)).heap[w2.heap.size]? = some (.cells #[.int .i64 K, .int .i64 M, .int .i64 D, .int .i64 A, .int .i64 0] 24 (0, 0)) := heap_alloc_new w2 _
  obtain ⟨q, hq⟩ : ∃ q, q = w2.heap.size := ⟨_, rfl⟩
  have qg : q ≠ g := by have := M2.out.1.lt; omega
  have pq : w.heap.size ≠ q := by have := bk_lt (mv_block M2.out R1.out PG.out); omega
  have lq : w.heap.size ≤ q := by have := c3.size; omega
  obtain ⟨W3, hW3⟩ : ∃ W3, W3 = w2.alloc (.cells #[.int .i64 K, .int .i64 M, .int .i64 D, .int .i64 A, .int .i64 0] 24) := ⟨_, rfl⟩
  rw [← hW3] at s3 p3 d3 e3'
  rw [← hq] at e3'
  rw [← hW3, ← hq]
  have S3 := Lib.hid s3; have P3 := Lib.hid p3; have D3 := Lib.hid d3; have E3 := Lib.hid e3'; have QG := Lib.hid qg; have PQ := Lib.hid pq; have LQ := Lib.hid lq
  clear hW3 hq s3 p3 c3 d3 e3' qg pq lq
  go_upto_region 4 with (go_at_call 58; refine (HK.out _).mono ?_; rintro x w4 ⟨rfl, hb⟩; have B4 := Lib.hid hb; clear hb)
  have hb5 := bel16 w4 (.cells #[.bool false, .int .i64 2, .int .i64 0, .int .i64 0] 88)
  have c4 := D3.out.trans (B4.out.mono D3.out.size)
  have S5 : Pc w (w4.alloc (.cells #[.bool false, .int .i64 2, .int .i64 0, .int .i64 0] 88)) g v k e w.heap.size q #[.int .i64 K, .int .i64 M, .int .i64 D, .int .i64 A, .int .i64 0] w4.heap.size #[.bool false, .int .i64 2, .int .i64 0, .int .i64 0] :=
    ⟨(S3.out.below B4.out S3.out.lt).alloc _, bel_keep hb5 (bel_keep B4.out P3.out), bel_keep hb5 (bel_keep B4.out E3.out), heap_alloc_new w4 _, c4.alloc c4.size _, LG.out, Nat.le_refl _, LQ.out, c4.size, PG.out, QG.out, by have := (S3.out.below B4.out S3.out.lt).lt; omega, PQ.out, by have := bk_lt (bel_keep B4.out P3.out); omega, by have := bk_lt (bel_keep B4.out E3.out); omega⟩
  obtain ⟨z, hz⟩ : ∃ z, z = w4.heap.size := ⟨_, rfl⟩
  obtain ⟨W5, hW5⟩ : ∃ W5, W5 = w4.alloc (.cells #[.bool false, .int .i64 2, .int .i64 0, .int .i64 0] 88) := ⟨_, rfl⟩
  rw [← hW5, ← hz] at S5
  rw [← hW5, ← hz]
  have S := Lib.hid S5
  clear hW5 hz hb5 c4 S5
  go_upto_region 6 with (go_at_call 35; refine (HT.out _ _ S.out.sk).mono ?_; rintro x w6 ⟨rfl, hm⟩; have S := Lib.hid (S.out.mv hm); clear hm)
  go_upto_region 9 with (go_at_call 11; refine (HE.out _ _ S.out.sk).mono ?_; rintro x w9 ⟨rfl, nq, rfl⟩; have S := Lib.hid (S.out.drew nq))
  obtain ⟨W9, hW9⟩ : ∃ W9, W9 = w6.drewN nq := ⟨_, rfl⟩
  rw [← hW9] at S
  rw [← hW9]
  clear hW9
  obtain ⟨z0, z1, z2, z3, f0, f1, f2, f3⟩ := S.out.seez
  go_upto_region 12 with (first
    | (go_at_call 55; refine (HF.out _).mono ?_; rintro x w10 ⟨rfl, hb⟩; have S := Lib.hid (S.out.keep hb); clear hb; obtain ⟨z0, z1, z2, z3, f0, f1, f2, f3⟩ := S.out.seez)
    | (go_at_call 56; refine (HO.out _).mono ?_; rintro x w11 ⟨rfl, hb⟩; have S := Lib.hid (S.out.keep hb); clear hb; obtain ⟨q0', q1', q2', q3', q4', fq⟩ := S.out.seeq; have S := Lib.hid (S.out.setq 4 (.int .i64 T))))
  obtain ⟨W12, hW12⟩ : ∃ W12, W12 = w11.setCell ⟨q, 4, none⟩ (.int .i64 T) := ⟨_, rfl⟩
  rw [← hW12] at S
  rw [← hW12]
  clear hW12 q0' q1' q2' q3' q4' fq
  have S12 : Pc w W12 g v _ _ w.heap.size q #[.int .i64 K, .int .i64 M, .int .i64 D, .int .i64 A, .int .i64 T] z _ := S.out
  replace S := Lib.hid S12
  clear S12
  obtain ⟨q0', q1', q2', q3', q4', fq⟩ := S.out.seeq
  go_wp2_with (go_at_call 28; refine (HX.out _).mono ?_; rintro x w13 ⟨rfl, hb⟩; have S := Lib.hid (S.out.keep hb); clear hb; obtain ⟨q0', q1', q2', q3', q4', fq⟩ := S.out.seeq; obtain ⟨p0, p1, p2, p3, p4, g0, g1, g2, g3, g4⟩ := S.out.seep)
  obtain ⟨F, r0, r1', r2, r3, r4⟩ := S.out.done K M D A T
  show bodyPost _ _ _ _ _ (put16r w13 w.heap.size K M D A T)
  generalize put16r w13 w.heap.size K M D A T = WW at *
  refine bodyPost_ret (v := .tuple #[.agg #[.int .i64 K, .int .i64 M, .int .i64 D, .int .i64 A, .int .i64 T], ev 0]) (by simp [results, Try.results44, go_sem, r0, r1', r2, r3, r4, ev]) rfl ⟨rfl, F⟩
end Go.Proofs.Ytkhcneacjnpcnaa
