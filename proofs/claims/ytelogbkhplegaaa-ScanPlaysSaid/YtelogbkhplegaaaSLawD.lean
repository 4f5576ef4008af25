/- ScanPlays: what any scanner answers, of strings and of bytes, behind any acts. -/
import Derived.Test.YtelogbkhplegaaaSLawA
import Derived.Test.YtelogbkhplegaaaActZ
namespace Go.Proofs.Ytelogbkhplegaaa
open Go.RowKit
set_option linter.unusedVariables false

/-- A new scanner of bytes; where its text lies. -/
theorem new_by (A : Option Addr) (s : ByteArray) (c : Nat) (w : World) (h : Rb w A s.data.toList) (hA : A = none → c = 0) (hs : s.size ≤ 1000) :
    Calls Try.prog 9 #[.slice A s.size c] w fun x w' => ∃ g y cb, x = .returned (.pointer (some ⟨g, 0, none⟩)) ∧ w.heap.size ≤ y ∧ y < g ∧ Sk Tb w' g (.slice (some ⟨y, 0, none⟩) s.size cb) 0 0 ∧ Rb w' (some ⟨y, 0, none⟩) s.data.toList ∧ s.size ≤ cb ∧ cb ≤ maxLen ∧ Below w.heap.size w w' := by
  have hconv := conv_bytes (P := Try.prog) (src := 25) (dst := 9) Try.underlying25 Try.underlying5 Try.underlying9 w A s.data.toList c h hA
  rw [show s.data.toList.length = s.size by simp, show (⟨s.data.toList.toArray⟩ : ByteArray) = s by simp] at hconv
  obtain ⟨c', w1, hstr, r1, r2, r3, r4, r5⟩ := of_string w s hs
  have R1 := Lib.hid r1; have R2 := Lib.hid r2; have R3 := Lib.hid r3; have R4 := Lib.hid r4; have R5 := Lib.hid r5
  clear h hA r1 r2 r3 r4 r5
  go_enter Try.func9, Try.ntmps9
  go_wp2
  go_ret
  refine ⟨_, w.heap.size, _, rfl, Nat.le_refl _, ?_, heap_alloc_new w1 _, R1.out.below ((Below.refl _ _).alloc (Nat.le_refl _) _), R2.out, R3.out, R4.out.alloc R4.out.size _⟩
  have := R5.out; omega
/-- The document's answer and the scanner's go together. -/
theorem act_sync_s (g k : Nat) (e : Int) (s : ByteArray) (a : ActD) (w : World) (h : Sk Ts w g (.string s) k e) (hk : k ≤ s.size) (hs : s.size ≤ 1000) (he : 0 ≤ e) (he' : e < 100) (ha : a.Ok w) (hL : Away a.list a.L g) (hsm : a.Small) :
    Calls Try.prog 11 #[.pointer (some ⟨g, 0, none⟩), .agg #[.string s, .int .i64 (k : Int), .int .i64 e], .agg #[.int .i64 a.kind, .int .u8 (a.b.toNat : Int), .string a.word, .slice a.L a.list.length a.cl, .int .i64 a.least, .int .i64 a.most]] w fun x w' =>
      x = .returned (.tuple #[.agg #[.string s, .int .i64 (acK s.data.toList a k e : Int), .int .i64 (acE s.data.toList a k e)], .bool true]) ∧ Sk Ts w' g (.string s) (acK s.data.toList a k e) (acE s.data.toList a k e) ∧ w.grownBy w' (some g) :=
  (act_s g k k e e (.string s) s a w h rfl hk hk hs he he' ha hL hsm (fun A n c ad h => by cases h)).mono fun x w' ⟨t, h1, h2, h3, h4⟩ => by
    have ht := h2 rfl rfl
    subst ht
    exact ⟨h1, h3, h4⟩
theorem act_sync_b (g k y cb : Nat) (e : Int) (s : ByteArray) (a : ActD) (w : World) (h : Sk Tb w g (.slice (some ⟨y, 0, none⟩) s.size cb) k e) (hr : Rb w (some ⟨y, 0, none⟩) s.data.toList) (hc : s.size ≤ cb) (hc2 : cb ≤ maxLen) (hy : y < g) (hk : k ≤ s.size) (hs : s.size ≤ 1000) (he : 0 ≤ e) (he' : e < 100) (ha : a.Ok w) (hL : Away a.list a.L g) (hsm : a.Small) :
    Calls Try.prog 12 #[.pointer (some ⟨g, 0, none⟩), .agg #[.string s, .int .i64 (k : Int), .int .i64 e], .agg #[.int .i64 a.kind, .int .u8 (a.b.toNat : Int), .string a.word, .slice a.L a.list.length a.cl, .int .i64 a.least, .int .i64 a.most]] w fun x w' =>
      x = .returned (.tuple #[.agg #[.string s, .int .i64 (acK s.data.toList a k e : Int), .int .i64 (acE s.data.toList a k e)], .bool true]) ∧ Sk Tb w' g (.slice (some ⟨y, 0, none⟩) s.size cb) (acK s.data.toList a k e) (acE s.data.toList a k e) ∧ w.grownBy w' (some g) :=
  (act_b g k k e e _ s a w h ⟨_, _, rfl, hr, (fun h => by cases h), hc, hc2, (fun ad had => by injection had with had; subst had; show y ≠ g; omega)⟩ hk hk hs he he' ha hL hsm
    (fun A n c ad h1 h2 => by injection h1 with h1 _ _; subst h1; injection h2 with h2; subst h2; have := h.lt; show y < _; omega)).mono fun x w' ⟨t, h1, h2, h3, h4⟩ => by
    have ht := h2 rfl rfl
    subst ht
    exact ⟨h1, h3, h4⟩
/-- What holds at each round. -/
structure Pl (w : World) (x gs y gb p q cb : Nat) (s : ByteArray) (k : Nat) (e : Int) (W : World) : Prop where
  a : Sk Ts W gs (.string s) k e
  b : Sk Tb W gb (.slice (some ⟨y, 0, none⟩) s.size cb) k e
  y : Rb W (some ⟨y, 0, none⟩) s.data.toList
  x : Rb W (some ⟨x, 0, none⟩) s.data.toList
  m : Dk W p s k e
  n : Dk W q s k e
  B : Below w.heap.size w W
  k : k ≤ s.size
  e : 0 ≤ e ∧ e < 100
theorem Pl.below {w : World} {x gs y gb p q cb : Nat} {s : ByteArray} {k : Nat} {e : Int} {W W' : World} (h : Pl w x gs y gb p q cb s k e W) (hb : Below W.heap.size W W') : Pl w x gs y gb p q cb s k e W' :=
  ⟨h.a.below hb h.a.lt, h.b.below hb h.b.lt, h.y.below hb, h.x.below hb, h.m.below hb h.m.lt, h.n.below hb h.n.lt, h.B.trans (hb.mono h.B.size), h.k, h.e⟩
/-- In what order the blocks lie. -/
def Or6 (w : World) (x gs y gb p q : Nat) : Prop := w.heap.size ≤ x ∧ x < gs ∧ gs < y ∧ y < gb ∧ gb < p ∧ p < q
theorem Sk.far3 {T : TypeId} {W : World} {g p k : Nat} {e : Int} {v : Value} (h : Sk T W g v k e) (hg : g ≠ p) (x y z : Value) : Sk T (put3 W p x y z) g v k e := (put3_heap W p x y z hg).trans h
theorem Dk.far3 {W : World} {g p k : Nat} {e : Int} {s : ByteArray} (h : Dk W g s k e) (hg : g ≠ p) (x y z : Value) : Dk (put3 W p x y z) g s k e := (put3_heap W p x y z hg).trans h
theorem below_put3 {w W : World} {p : Nat} (h : Below w.heap.size w W) (hp : w.heap.size ≤ p) (x y z : Value) : Below w.heap.size w (put3 W p x y z) := ((h.setCell hp _).setCell hp _).setCell hp _
theorem far_rb {w w' : World} {x g : Nat} {l : List UInt8} (h : Rb w (some ⟨x, 0, none⟩) l) (hg : w.grownBy w' (some g)) (hne : x ≠ g) : Rb w' (some ⟨x, 0, none⟩) l :=
  h.kept hg fun ad had => by injection had with had; subst had; exact hne
theorem far_rb3 {w : World} {x p : Nat} {l : List UInt8} (h : Rb w (some ⟨x, 0, none⟩) l) (hne : x ≠ p) (u v z : Value) : Rb (put3 w p u v z) (some ⟨x, 0, none⟩) l :=
  far_rb h ((gb_set (gb_set (gb_set (gb_refl w (some p)) 0 u) 1 v) 2 z)) hne
theorem Pl.drew {w : World} {x gs y gb p q cb : Nat} {s : ByteArray} {k : Nat} {e : Int} {W : World} (h : Pl w x gs y gb p q cb s k e W) : Pl w x gs y gb p q cb s k e W.drew :=
  ⟨h.a, h.b, h.y, h.x, h.m, h.n, h.B.drew, h.k, h.e⟩
theorem Pl.put {w W : World} {x gs y gb p q cb k : Nat} {s : ByteArray} {e : Int} {K : Nat} {E : Int} (ha : Sk Ts W gs (.string s) K E) (hb : Sk Tb W gb (.slice (some ⟨y, 0, none⟩) s.size cb) K E) (hy : Rb W (some ⟨y, 0, none⟩) s.data.toList) (hx : Rb W (some ⟨x, 0, none⟩) s.data.toList)
    (hm : Dk W p s k e) (hn : Dk W q s k e) (hB : Below w.heap.size w W) (hK : K ≤ s.size) (hE : 0 ≤ E ∧ E < 100) (ho : Or6 w x gs y gb p q) :
    Pl w x gs y gb p q cb s K E (put3 (put3 W p (.string s) (.int .i64 (K : Int)) (.int .i64 E)) q (.string s) (.int .i64 (K : Int)) (.int .i64 E)) := by
  unfold Or6 at ho
  have e1 : gs ≠ p ∧ gs ≠ q ∧ gb ≠ p ∧ gb ≠ q ∧ y ≠ p ∧ y ≠ q ∧ x ≠ p ∧ x ≠ q ∧ p ≠ q ∧ q ≠ p ∧ w.heap.size ≤ p ∧ w.heap.size ≤ q := by omega
  obtain ⟨n1, n2, n3, n4, n5, n6, n7, n8, n9, n10, n11, n12⟩ := e1
  exact ⟨(ha.far3 n1 _ _ _).far3 n2 _ _ _, (hb.far3 n3 _ _ _).far3 n4 _ _ _, far_rb3 (far_rb3 hy n5 _ _ _) n6 _ _ _, far_rb3 (far_rb3 hx n7 _ _ _) n8 _ _ _,
    Dk.far3 (put3_dk hm) n9 _ _ _, put3_dk (hn.far3 n10 _ _ _), below_put3 (below_put3 hB n11 _ _ _) n12 _ _ _, hK, hE⟩
theorem bytes_same (A B : Option Addr) (l : List UInt8) (c d : Nat) (w : World) (h : Rb w A l) (hA : A = none → c = 0) (k : Rb w B l) (hB : B = none → d = 0) :
    Calls Try.prog 13 #[.slice A l.length c, .slice B l.length d] w fun e w' => e = .returned (.bool true) ∧ w = w' := by
  have r1 := conv_bytes (P := Try.prog) (src := 25) (dst := 9) Try.underlying25 Try.underlying5 Try.underlying9 w A l c h hA
  have r2 := conv_bytes (P := Try.prog) (src := 25) (dst := 9) Try.underlying25 Try.underlying5 Try.underlying9 w B l d k hB
  clear h k
  go_enter Try.func13, Try.ntmps13
  go_wp2
  go_ret
  exact ⟨ret1_eq (bool_eq (by first | done | rfl | (rw [Bool.eq_iff_iff]; simp))), rfl⟩

set_option maxRecDepth 100000 in
set_option maxHeartbeats 6400000 in
theorem plays_walk (s : ByteArray) (A : Option Addr) (ac : List ActD) (c : Nat) (w : World) (h : Ra w A ac) (hm : ac.length ≤ maxLen) (hs : s.size ≤ maxLen) (hz : ∀ a ∈ ac, a.word.size ≤ maxLen ∧ a.list.length ≤ maxLen ∧ ∀ z ∈ a.list, z.size ≤ maxLen) :
    Calls Try.prog 3 #[.string s, .slice A ac.length c] w fun x w' => x = .returned (.bool true) ∧ Below w.heap.size w w' := by
  have HLO := fun W (hW : Below w.heap.size w W) => Lib.hid (long_any s A ac c W (h.below hW) hm hs hz)
  have HR := Lib.hid h
  cases hl : lg s ac
  · obtain ⟨hs3, hn6, hsmall⟩ := lg_no hl
    rw [hl] at HLO
    have HSM := Lib.hid hsmall
    obtain ⟨nn, hnn⟩ : ∃ nn, nn = ac.length := ⟨_, rfl⟩
    rw [← hnn] at hn6 HLO ⊢
    have HNN := Lib.hid hnn
    have hsl : s.data.toList.length = s.size := by simp
    have HSL := Lib.hid hsl
    have hs1 : s.size ≤ 1000 := by omega
    clear h hm hs hz hl hsmall hnn hsl
    go_enter Try.func3, Try.ntmps3
    go_wp2_with fail
    refine (salive w).mono ?_
    rintro x W1 ⟨rfl, hb⟩
    have B1 := Lib.hid hb
    clear hb
    go_wp2_with fail
    refine (HLO W1 B1.out).out.mono ?_
    rintro x W2 ⟨rfl, hb⟩
    have B2 := Lib.hid (B1.out.trans (hb.mono B1.out.size))
    clear hb B1 HLO
    obtain ⟨cx, W3, hstr, r1, r2, r3, r4, r5⟩ := of_string W2 s hs1
    have R1 := Lib.hid r1; have R4 := Lib.hid r4; have R5 := Lib.hid r5
    have B3 := Lib.hid (B2.out.trans (r4.mono B2.out.size))
    clear r1 r4 r5
    go_wp2_with fail
    clear hstr
    have HXW : RowKit.Hid (w.heap.size ≤ W2.heap.size) := B2.out.size
    have HX3 : RowKit.Hid (W2.heap.size < W3.heap.size) := by have := R5.out; show _ < _; omega
    clear R4 R5 B2
    generalize W2.heap.size = x0 at *
    refine (new_s s W3).mono ?_
    rintro x w4 ⟨rfl, rfl⟩
    have h4 : Sk Ts (W3.alloc (.cells #[.string s, .int .i64 0, .nilIface] Ts)) W3.heap.size (.string s) 0 0 := heap_alloc_new W3 _
    have hb4 := (Below.refl W3.heap.size W3).alloc (Nat.le_refl _) (.cells #[.string s, .int .i64 0, .nilIface] Ts)
    have r6 := R1.out.below hb4
    have hb5 := B3.out.trans (hb4.mono B3.out.size)
    have hzz : (W3.alloc (.cells #[.string s, .int .i64 0, .nilIface] Ts)).heap.size = W3.heap.size + 1 := by simp
    generalize World.alloc W3 _ = W4 at h4 r6 hb5 hzz ⊢
    have H4 := Lib.hid h4; have R6 := Lib.hid r6; have B4 := Lib.hid hb5
    have HG3 : RowKit.Hid (W3.heap.size < W4.heap.size) := by rw [hzz]; exact Nat.lt_succ_self _
    clear h4 hb4 r6 hb5 hzz R1
    have HGW : RowKit.Hid (w.heap.size ≤ W3.heap.size) := B3.out.size
    clear B3
    generalize W3.heap.size = gs at *
    go_wp2_with fail
    refine (new_by (some ⟨x0, 0, none⟩) s cx W4 R6.out (fun h => by cases h) hs1).mono ?_
    rintro x W5 ⟨gb, y, cb, rfl, hy1, hy2, hS5, hR5, hcb, hcb2, hb5⟩
    have H5 := Lib.hid (H4.out.below hb5 H4.out.lt); have R7 := Lib.hid (R6.out.below hb5); have B5 := Lib.hid (B4.out.trans (hb5.mono B4.out.size))
    have S5 := Lib.hid hS5; have Y5 := Lib.hid hR5
    have HY1 : RowKit.Hid (gs < y) := by have := HG3.out; show _ < _; omega
    have HY2 := Lib.hid hy2
    have HGB := Lib.hid hS5.lt
    clear hy1 hy2 hS5 hR5 hb5 H4 R6 B4 HG3
    go_upto_region 8 with fail
    have hp6 : Dk ((W5.alloc (.cells #[.string s, .int .i64 0, .int .i64 0] Td)).alloc (.cells #[.string s, .int .i64 0, .int .i64 0] Td)) W5.heap.size s 0 0 := (Below.heap_alloc _ _ _ (by simp)).trans (heap_alloc_new W5 _)
    have hq6 : Dk ((W5.alloc (.cells #[.string s, .int .i64 0, .int .i64 0] Td)).alloc (.cells #[.string s, .int .i64 0, .int .i64 0] Td)) (W5.heap.size + 1) s 0 0 := by
      have := heap_alloc_new (W5.alloc (.cells #[.string s, .int .i64 0, .int .i64 0] Td)) (.cells #[.string s, .int .i64 0, .int .i64 0] Td)
      rw [World.size_alloc] at this
      exact this
    have hb6 := below_two W5 (.cells #[.string s, .int .i64 0, .int .i64 0] Td) (.cells #[.string s, .int .i64 0, .int .i64 0] Td)
    generalize World.alloc (World.alloc W5 _) _ = W6 at hp6 hq6 hb6 ⊢
    have HO : RowKit.Hid (Or6 w x0 gs y gb W5.heap.size (W5.heap.size + 1)) := ⟨HXW.out, HX3.out, HY1.out, HY2.out, HGB.out, Nat.lt_succ_self _⟩
    have hpl : Pl w x0 gs y gb W5.heap.size (W5.heap.size + 1) cb s 0 0 W6 :=
      ⟨H5.out.below hb6 H5.out.lt, S5.out.below hb6 S5.out.lt, Y5.out.below hb6, R7.out.below hb6, hp6, hq6, B5.out.trans (hb6.mono B5.out.size), Nat.zero_le _, by decide, by decide⟩
    have PL := Lib.hid hpl
    have HY := HY2
    clear hp6 hq6 hb6 hpl HXW HX3 HY1 HY2 HGB HGW H5 R7 B5 S5 Y5
    obtain ⟨q, hq⟩ : ∃ q, q = W5.heap.size + 1 := ⟨_, rfl⟩
    rw [← hq] at HO PL ⊢
    clear hq
    generalize W5.heap.size = p at *
    have p0 := PL.out.m.c0; have p1 := PL.out.m.c1; have p2 := PL.out.m.c2
    go_wp2_with fail
    refine (same_s gs 0 0 0 0 (.string s) s W6 PL.out.a rfl (Nat.zero_le _) (Nat.zero_le _) hs1 (by decide) (by decide)).mono ?_
    rintro x W7 ⟨b, rfl, hbt, hbel⟩
    obtain rfl : b = true := hbt rfl rfl
    have PL7 := Lib.hid (PL.out.below hbel)
    clear hbt hbel PL p0 p1 p2
    go_wp2_with fail
    go_loopw [11, 12, 13, 14, 15, 37] (fun _ _ _ _ _ i wr => ∃ (j k : Nat) (e : Int), i = .int .i64 j ∧ j ≤ nn ∧ Hid (Pl w x0 gs y gb p q cb s k e wr)) (fun _ _ _ _ _ i _ => nn - (intOf i).toNat)
    case atStart => exact ⟨0, 0, 0, rfl, Nat.zero_le _, PL7⟩
    case round =>
      obtain ⟨j, k, e, rfl, hj, PL⟩ := hrel
      clear PL7
      by_cases hlt : j < nn
      · have hlt' : j < ac.length := by have := HNN.out; omega
        obtain ⟨b, off, a, hja, hA, hbl, hok, e0, e1, e2, e3, e4, e5⟩ := (HR.out.below PL.out.B).at_ hlt'
        have hsm := HSM.out a (List.mem_of_getElem? hja)
        have hLs : Away a.list a.L gs := (HR.out.1 a (List.mem_of_getElem? hja)).ls.away (by have := HO.out; unfold Or6 at this; omega)
        have hLb : Away a.list a.L gb := (HR.out.1 a (List.mem_of_getElem? hja)).ls.away (by have := HO.out; unfold Or6 at this; omega)
        have HLS := Lib.hid hLs; have HLB := Lib.hid hLb; have HSMA := Lib.hid hsm
        subst hA
        clear hja hlt' hbl hsm hLs hLb
        have hk4 : Ak (wr.alloc (.cells a.cells Ta)) wr.heap.size a := heap_alloc_new wr _
        have hb4 := (Below.refl wr.heap.size wr).alloc (Nat.le_refl _) (.cells a.cells Ta)
        have hpl4 := PL.out.below hb4
        have hok4 : a.Ok (wr.alloc (.cells a.cells Ta)) := hok.below hb4
        have hq4 : q < wr.heap.size := PL.out.n.lt
        go_upto_region 13 with fail
        generalize World.alloc wr _ = W8 at hk4 hpl4 hok4 ⊢
        clear hb4 PL
        generalize wr.heap.size = c4 at *
        have K8 := Lib.hid hk4; have P8 := Lib.hid hpl4; have OK8 := Lib.hid hok4; have HQC := Lib.hid hq4
        clear hk4 hpl4 hok4 hok e0 e1 e2 e3 e4 e5 hq4
        have hk := P8.out.k
        obtain ⟨he, he'⟩ := P8.out.e
        have hKs : acK s.data.toList a k e ≤ s.size := by rw [← HSL.out]; exact acK_le (by rw [HSL.out]; exact hk)
        obtain ⟨hE1, hE2⟩ := acE_lo (l := s.data.toList) (a := a) (k := k) he he'
        have hAS := act_sync_s gs k e s a W8 P8.out.a hk hs1 he he' OK8.out HLS.out HSMA.out
        have hAB := fun W h1 h2 h3 => act_sync_b gb k y cb e s a W h1 h2 hcb hcb2 HY.out hk hs1 he he' h3 HLB.out HSMA.out
        generalize acK s.data.toList a k e = K at *
        generalize acE s.data.toList a k e = E at *
        have HAS := Lib.hid hAS; have HAB := Lib.hid hAB
        clear hAS hAB
        have a0 := K8.out.cell 0; have a1 := K8.out.cell 1; have a2 := K8.out.cell 2; have a3 := K8.out.cell 3; have a4 := K8.out.cell 4; have a5 := K8.out.cell 5
        have p0 := P8.out.m.c0; have p1 := P8.out.m.c1; have p2 := P8.out.m.c2
        go_wp2_with fail
        clear a0 a1 a2 a3 a4 a5 p0 p1 p2
        refine HAS.out.mono ?_
        rintro x W9 ⟨rfl, hS9, hg9⟩
        have HN : RowKit.Hid (gb ≠ gs ∧ y ≠ gs ∧ x0 ≠ gs ∧ p ≠ gs ∧ q ≠ gs ∧ c4 ≠ gs ∧ gs ≠ gb ∧ y ≠ gb ∧ x0 ≠ gb ∧ p ≠ gb ∧ q ≠ gb ∧ c4 ≠ gb) := by
          have h1 := HO.out; have h2 := HQC.out
          unfold Or6 at h1
          exact ⟨by omega, by omega, by omega, by omega, by omega, by omega, by omega, by omega, by omega, by omega, by omega, by omega⟩
        obtain ⟨d1, d2, d3, d4, d5, d6, d7, d8, d9, d10, d11, d12⟩ := HN.out
        have hsgs : w.heap.size ≤ gs ∧ w.heap.size ≤ gb ∧ w.heap.size ≤ p ∧ w.heap.size ≤ q := by have h1 := HO.out; unfold Or6 at h1; omega
        have b9 := P8.out.b.kept hg9 (by intro e; injection e with e; exact d1 e)
        have y9 := far_rb P8.out.y hg9 d2
        have x9 := far_rb P8.out.x hg9 d3
        have m9 := P8.out.m.kept hg9 d4
        have n9 := P8.out.n.kept hg9 d5
        have k9 := K8.out.kept hg9 d6
        have o9 : a.Ok W9 := ⟨OK8.out.k, OK8.out.lo, OK8.out.hi, OK8.out.ls.kept hg9 HLS.out⟩
        have B9 := P8.out.B.trans (gb_bel hg9 hsgs.1 P8.out.B.size)
        have hn10 : Dk (W9.alloc (.cells #[.string s, .int .i64 (K : Int), .int .i64 E] Td)) W9.heap.size s K E := heap_alloc_new W9 _
        have hb10 := (Below.refl W9.heap.size W9).alloc (Nat.le_refl _) (.cells #[.string s, .int .i64 (K : Int), .int .i64 E] Td)
        have A10 := Lib.hid (hS9.below hb10 hS9.lt)
        have B10 := Lib.hid (b9.below hb10 b9.lt)
        have Y10 := Lib.hid (y9.below hb10)
        have X10 := Lib.hid (x9.below hb10)
        have M10 := Lib.hid (m9.below hb10 m9.lt)
        have N10 := Lib.hid (n9.below hb10 n9.lt)
        have K10 := Lib.hid (k9.below hb10 k9.lt)
        have O10 := Lib.hid (o9.below hb10)
        have Z10 := Lib.hid (B9.trans (hb10.mono B9.size))
        have T10 := Lib.hid hn10
        have HT1 : RowKit.Hid (q < W9.heap.size) := n9.lt
        clear hS9 hg9 b9 y9 x9 m9 n9 k9 o9 B9 hn10 hb10 P8 K8 OK8 HAS
        go_upto_region 14 with fail
        generalize World.alloc W9 _ = W10 at *
        generalize W9.heap.size = n1 at *
        have a0 := K10.out.cell 0; have a1 := K10.out.cell 1; have a2 := K10.out.cell 2; have a3 := K10.out.cell 3; have a4 := K10.out.cell 4; have a5 := K10.out.cell 5
        have p0 := N10.out.c0; have p1 := N10.out.c1; have p2 := N10.out.c2
        go_wp2_with fail
        clear a0 a1 a2 a3 a4 a5 p0 p1 p2
        refine (HAB.out W10 B10.out Y10.out O10.out).mono ?_
        rintro x W11 ⟨rfl, hS11, hg11⟩
        have hn1g : n1 ≠ gb := by have h1 := HO.out; unfold Or6 at h1; have := HT1.out; omega
        have a11 := A10.out.kept hg11 (by intro e; injection e with e; exact d7 e)
        have y11 := far_rb Y10.out hg11 d8
        have x11 := far_rb X10.out hg11 d9
        have m11 := M10.out.kept hg11 d10
        have n11 := N10.out.kept hg11 d11
        have t11 := T10.out.kept hg11 hn1g
        have B11 := Z10.out.trans (gb_bel hg11 hsgs.2.1 Z10.out.size)
        have hn12 : Dk (W11.alloc (.cells #[.string s, .int .i64 (K : Int), .int .i64 E] Td)) W11.heap.size s K E := heap_alloc_new W11 _
        have hb12 := (Below.refl W11.heap.size W11).alloc (Nat.le_refl _) (.cells #[.string s, .int .i64 (K : Int), .int .i64 E] Td)
        have A12 := Lib.hid (a11.below hb12 a11.lt)
        have B12 := Lib.hid (hS11.below hb12 hS11.lt)
        have Y12 := Lib.hid (y11.below hb12)
        have X12 := Lib.hid (x11.below hb12)
        have M12 := Lib.hid (m11.below hb12 m11.lt)
        have N12 := Lib.hid (n11.below hb12 n11.lt)
        have T12 := Lib.hid (t11.below hb12 t11.lt)
        have Z12 := Lib.hid (B11.trans (hb12.mono B11.size))
        have U12 := Lib.hid hn12
        have HT2 : RowKit.Hid (n1 < W11.heap.size) := t11.lt
        clear hS11 hg11 a11 y11 x11 m11 n11 t11 B11 hn12 hb12 A10 B10 Y10 X10 M10 N10 K10 O10 Z10 T10 HAB
        go_upto_region 15 with fail
        generalize World.alloc W11 _ = W12 at *
        generalize W11.heap.size = n2 at *
        have s0 := T12.out.c0; have s1 := T12.out.c1; have s2 := T12.out.c2
        have u0 := U12.out.c0; have u1 := U12.out.c1; have u2 := U12.out.c2
        have p0 := M12.out.c0; have p1 := M12.out.c1; have p2 := M12.out.c2
        have q0 := N12.out.c0; have q1 := N12.out.c1; have q2 := N12.out.c2
        have f0 := M12.out.free 0; have f1 := M12.out.free 1; have f2 := M12.out.free 2
        have g0 := N12.out.free 0; have g1 := N12.out.free 1; have g2 := N12.out.free 2
        have hpq : p ≠ q := by have h1 := HO.out; unfold Or6 at h1; omega
        have hqp : q ≠ p := Ne.symm hpq
        have hn1p : n1 ≠ p ∧ n1 ≠ q ∧ n2 ≠ p ∧ n2 ≠ q := by have h1 := HO.out; unfold Or6 at h1; have h2 := HT1.out; have h3 := HT2.out; omega
        obtain ⟨z1, z2, z3, z4⟩ := hn1p
        have hpl : Pl w x0 gs y gb p q cb s K E (((((((W12.setCell ⟨p, 0, none⟩ (.string s)).setCell ⟨p, 1, none⟩ (.int .i64 (K : Int))).setCell ⟨p, 2, none⟩ (.int .i64 E)).setCell ⟨q, 0, none⟩ (.string s)).setCell ⟨q, 1, none⟩ (.int .i64 (K : Int))).setCell ⟨q, 2, none⟩ (.int .i64 E)).drew) :=
          Pl.drew (Pl.put A12.out B12.out Y12.out X12.out M12.out N12.out Z12.out hKs ⟨hE1, hE2⟩ HO.out)
        have HPL := Lib.hid hpl
        clear hpl
        go_region
        generalize World.drew (World.setCell (World.setCell (World.setCell (World.setCell (World.setCell (World.setCell W12 _ _) _ _) _ _) _ _) _ _) _ _) = W13 at HPL ⊢
        clear s0 s1 s2 u0 u1 u2 p0 p1 p2 q0 q1 q2 f0 f1 f2 g0 g1 g2
        go_wp2
        go_roundw
        case rel => exact ⟨j + 1, K, E, by go_num, by omega, HPL⟩
        case measure => simp [intOf]; omega
      · obtain ⟨cz, W14, hstr, r1, r2, r3, r4, r5⟩ := of_string wr s hs1
        have hbs := bytes_same (some ⟨x0, 0, none⟩) (some ⟨wr.heap.size, 0, none⟩) s.data.toList cx cz W14 (PL.out.x.below r4) (fun h => by cases h) r1 (fun h => by cases h)
        rw [HSL.out] at hbs
        have HBS := Lib.hid hbs
        have R4 := Lib.hid (PL.out.B.trans (r4.mono PL.out.B.size))
        clear r1 r2 r3 r4 r5 hbs
        go_wp2_with (go_at_call 13; refine HBS.out.mono ?_; rintro x w' ⟨rfl, rfl⟩)
        go_ret
        exact ⟨rfl, R4.out⟩
  · rw [hl] at HLO
    clear h hl
    go_enter Try.func3, Try.ntmps3
    go_wp2_with fail
    refine (salive w).mono ?_
    rintro x W1 ⟨rfl, hb⟩
    have B1 := Lib.hid hb
    clear hb
    go_wp2_with fail
    refine (HLO W1 B1.out).out.mono ?_
    rintro x W2 ⟨rfl, hb⟩
    have B2 := Lib.hid (B1.out.trans (hb.mono B1.out.size))
    clear hb B1 HLO
    go_wp2
    go_ret
    exact ⟨rfl, B2.out⟩
end Go.Proofs.Ytelogbkhplegaaa
