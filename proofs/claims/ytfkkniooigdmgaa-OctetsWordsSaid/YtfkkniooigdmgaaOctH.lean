/- alive; the calls by cases; append of bytes; the walk of OctetsCuts. (Written by gen4.py.) -/
import Derived.Test.YtfkkniooigdmgaaOctG
namespace Go.Proofs.Ytfkkniooigdmgaa
open Go.RowKit Go.WideShapes Go.ChangeShapes
set_option linter.unusedVariables false

theorem wk_new {k : IntKind} {e : TypeId} (w : World) (zs : List Int) : Wk k e (w.alloc (.cells (cz k zs).toArray e)) w.heap.size zs := heap_alloc_new w _
theorem bk_wk {w : World} {g : Nat} {L : List UInt8} (h : Bk w g L) : Wk .u8 5 w g (nums L) := by
  unfold Wk
  have e : cz .u8 (nums L) = bc L := by unfold cz nums bc; rw [List.map_map]; rfl
  rw [e]; exact h
set_option maxHeartbeats 800000 in
theorem alive_any (w : World) : Calls Try.prog 6 #[] w fun e w' => e = .returned (.bool true) ∧ Below w.heap.size w w' := by
  have hb0 : Below w.heap.size w (w.alloc (.cells #[.int .u16 258] 28)) := (Below.refl _ w).alloc (Nat.le_refl _) _
  have hr : Rz .u16 (w.alloc (.cells #[.int .u16 258] 28)) (some ⟨w.heap.size, 0, none⟩) [258] := (wk_new (k := .u16) (e := 28) w [258]).reads (by decide)
  have hp := put16_any none (some ⟨w.heap.size, 0, none⟩) [] [258] 0 1 _ (Rb.nil none) (fun _ => rfl) hr (by decide) (by decide)
  rw [show ([] ++ wb 2 [258] : List UInt8) = [1, 2] by decide] at hp
  have HP := Lib.hid hp; have HB := Lib.hid hb0
  clear hp hr hb0
  go_enter Try.func6, Try.ntmps6
  go_wp2_with (first | (go_at_call 16; refine HP.out.mono ?_; rintro e w2 ⟨g, hg, rfl, hk, hb⟩; have c0 := hk.cell (i := 0) (by decide); have c1 := hk.cell (i := 1) (by decide); have HB2 := Lib.hid (HB.out.trans (hb.mono (by simp))); clear hk hb hg) | (go_at_call 21; refine (size64_any _).mono ?_; rintro e w' ⟨rfl, rfl⟩))
  go_ret
  exact ⟨rfl, HB2.out⟩

theorem cut_yes (A : Option Addr) (l : List UInt8) (c : Nat) (at_ many : Int) (w : World) (h : Rb w A l) (hA : A = none → c = 0) (hc : l.length ≤ c) (hl : l.length ≤ 1000000) (ha : fits at_) (hm : fits many) (hz : rm l.length at_ many 1 = 0) :
    Calls Try.prog 11 #[.slice A l.length c, .int .i64 at_, .int .i64 many] w fun e w' =>
      e = .returned (.tuple #[.slice (some ⟨w.heap.size, 0, none⟩) (pm l at_ many).length (pm l at_ many).length, .nilIface]) ∧ Bk w' w.heap.size (pm l at_ many) ∧ Below w.heap.size w w' := by
  refine (cut_any A l c at_ many w h hA hc hl ha hm).mono ?_
  rintro e w' (⟨h0, _⟩ | ⟨_, h1⟩)
  · exact absurd hz h0
  · exact h1
theorem cut_no (A : Option Addr) (l : List UInt8) (c : Nat) (at_ many : Int) (w : World) (h : Rb w A l) (hA : A = none → c = 0) (hc : l.length ≤ c) (hl : l.length ≤ 1000000) (ha : fits at_) (hm : fits many) (hz : rm l.length at_ many 1 ≠ 0) :
    Calls Try.prog 11 #[.slice A l.length c, .int .i64 at_, .int .i64 many] w fun e w' =>
      e = .returned (.tuple #[.slice none 0 0, ev (rm l.length at_ many 1)]) ∧ w = w' := by
  refine (cut_any A l c at_ many w h hA hc hl ha hm).mono ?_
  rintro e w' (⟨_, _, h1⟩ | ⟨h0, _⟩)
  · exact h1
  · exact absurd h0 hz
theorem set8_yes (A : Option Addr) (l : List UInt8) (c : Nat) (at_ : Int) (x : Nat) (w : World) (h : Rb w A l) (hA : A = none → c = 0) (hl : l.length ≤ 1000000) (ha : fits at_) (hx : x < 256) (hz : rm l.length at_ 1 1 = 0) :
    Calls Try.prog 25 #[.slice A l.length c, .int .i64 at_, .int .u8 (x : Int)] w fun e w' =>
      e = .returned (.tuple #[.slice (some ⟨w.heap.size, 0, none⟩) (splice l at_.toNat (be 1 x)).length (splice l at_.toNat (be 1 x)).length, .nilIface]) ∧ Bk w' w.heap.size (splice l at_.toNat (be 1 x)) ∧ Below w.heap.size w w' := by
  refine (set8_any A l c at_ x w h hA hl ha hx).mono ?_
  rintro e w' (⟨h0, _⟩ | ⟨_, h1⟩)
  · exact absurd hz h0
  · exact h1
theorem set8_no (A : Option Addr) (l : List UInt8) (c : Nat) (at_ : Int) (x : Nat) (w : World) (h : Rb w A l) (hA : A = none → c = 0) (hl : l.length ≤ 1000000) (ha : fits at_) (hx : x < 256) (hz : rm l.length at_ 1 1 ≠ 0) :
    Calls Try.prog 25 #[.slice A l.length c, .int .i64 at_, .int .u8 (x : Int)] w fun e w' =>
      e = .returned (.tuple #[.slice none 0 0, ev (rm l.length at_ 1 1)]) ∧ w = w' := by
  refine (set8_any A l c at_ x w h hA hl ha hx).mono ?_
  rintro e w' (⟨_, h1⟩ | ⟨h0, _⟩)
  · exact h1
  · exact absurd h0 hz
theorem list8_yes (A : Option Addr) (l : List UInt8) (c : Nat) (at_ many : Int) (w : World) (h : Rb w A l) (hA : A = none → c = 0) (hc : l.length ≤ c) (hl : l.length ≤ 1000000) (ha : fits at_) (hm : fits many) (hz : rm l.length at_ many 1 = 0) :
    Calls Try.prog 51 #[.slice A l.length c, .int .i64 at_, .int .i64 many] w fun e w' =>
      ∃ g, w.heap.size ≤ g ∧ e = .returned (.tuple #[.slice (some ⟨g, 0, none⟩) many.toNat many.toNat, .nilIface]) ∧ Wk .u8 5 w' g (wl (l.drop at_.toNat) 1 many.toNat) ∧ Below w.heap.size w w' := by
  refine (list8_any A l c at_ many w h hA hc hl ha hm).mono ?_
  rintro e w' (⟨h0, _⟩ | ⟨_, h1⟩)
  · exact absurd hz h0
  · exact h1
theorem list8_no (A : Option Addr) (l : List UInt8) (c : Nat) (at_ many : Int) (w : World) (h : Rb w A l) (hA : A = none → c = 0) (hc : l.length ≤ c) (hl : l.length ≤ 1000000) (ha : fits at_) (hm : fits many) (hz : rm l.length at_ many 1 ≠ 0) :
    Calls Try.prog 51 #[.slice A l.length c, .int .i64 at_, .int .i64 many] w fun e w' =>
      e = .returned (.tuple #[.slice none 0 0, ev (rm l.length at_ many 1)]) ∧ w = w' := by
  refine (list8_any A l c at_ many w h hA hc hl ha hm).mono ?_
  rintro e w' (⟨_, h1⟩ | ⟨h0, _⟩)
  · exact h1
  · exact absurd h0 hz
theorem set16_yes (A : Option Addr) (l : List UInt8) (c : Nat) (at_ : Int) (x : Nat) (w : World) (h : Rb w A l) (hA : A = none → c = 0) (hl : l.length ≤ 1000000) (ha : fits at_) (hx : x < 65536) (hz : rm l.length at_ 1 2 = 0) :
    Calls Try.prog 30 #[.slice A l.length c, .int .i64 at_, .int .u16 (x : Int)] w fun e w' =>
      e = .returned (.tuple #[.slice (some ⟨w.heap.size, 0, none⟩) (splice l at_.toNat (be 2 x)).length (splice l at_.toNat (be 2 x)).length, .nilIface]) ∧ Bk w' w.heap.size (splice l at_.toNat (be 2 x)) ∧ Below w.heap.size w w' := by
  refine (set16_any A l c at_ x w h hA hl ha hx).mono ?_
  rintro e w' (⟨h0, _⟩ | ⟨_, h1⟩)
  · exact absurd hz h0
  · exact h1
theorem set16_no (A : Option Addr) (l : List UInt8) (c : Nat) (at_ : Int) (x : Nat) (w : World) (h : Rb w A l) (hA : A = none → c = 0) (hl : l.length ≤ 1000000) (ha : fits at_) (hx : x < 65536) (hz : rm l.length at_ 1 2 ≠ 0) :
    Calls Try.prog 30 #[.slice A l.length c, .int .i64 at_, .int .u16 (x : Int)] w fun e w' =>
      e = .returned (.tuple #[.slice none 0 0, ev (rm l.length at_ 1 2)]) ∧ w = w' := by
  refine (set16_any A l c at_ x w h hA hl ha hx).mono ?_
  rintro e w' (⟨_, h1⟩ | ⟨h0, _⟩)
  · exact h1
  · exact absurd h0 hz
theorem list16_yes (A : Option Addr) (l : List UInt8) (c : Nat) (at_ many : Int) (w : World) (h : Rb w A l) (hA : A = none → c = 0) (hc : l.length ≤ c) (hl : l.length ≤ 1000000) (ha : fits at_) (hm : fits many) (hz : rm l.length at_ many 2 = 0) :
    Calls Try.prog 53 #[.slice A l.length c, .int .i64 at_, .int .i64 many] w fun e w' =>
      ∃ g, w.heap.size ≤ g ∧ e = .returned (.tuple #[.slice (some ⟨g, 0, none⟩) many.toNat many.toNat, .nilIface]) ∧ Wk .u16 28 w' g (wl (l.drop at_.toNat) 2 many.toNat) ∧ Below w.heap.size w w' := by
  refine (list16_any A l c at_ many w h hA hc hl ha hm).mono ?_
  rintro e w' (⟨h0, _⟩ | ⟨_, h1⟩)
  · exact absurd hz h0
  · exact h1
theorem list16_no (A : Option Addr) (l : List UInt8) (c : Nat) (at_ many : Int) (w : World) (h : Rb w A l) (hA : A = none → c = 0) (hc : l.length ≤ c) (hl : l.length ≤ 1000000) (ha : fits at_) (hm : fits many) (hz : rm l.length at_ many 2 ≠ 0) :
    Calls Try.prog 53 #[.slice A l.length c, .int .i64 at_, .int .i64 many] w fun e w' =>
      e = .returned (.tuple #[.slice none 0 0, ev (rm l.length at_ many 2)]) ∧ w = w' := by
  refine (list16_any A l c at_ many w h hA hc hl ha hm).mono ?_
  rintro e w' (⟨_, h1⟩ | ⟨h0, _⟩)
  · exact h1
  · exact absurd h0 hz
theorem set32_yes (A : Option Addr) (l : List UInt8) (c : Nat) (at_ : Int) (x : Nat) (w : World) (h : Rb w A l) (hA : A = none → c = 0) (hl : l.length ≤ 1000000) (ha : fits at_) (hx : x < 4294967296) (hz : rm l.length at_ 1 4 = 0) :
    Calls Try.prog 34 #[.slice A l.length c, .int .i64 at_, .int .u32 (x : Int)] w fun e w' =>
      e = .returned (.tuple #[.slice (some ⟨w.heap.size, 0, none⟩) (splice l at_.toNat (be 4 x)).length (splice l at_.toNat (be 4 x)).length, .nilIface]) ∧ Bk w' w.heap.size (splice l at_.toNat (be 4 x)) ∧ Below w.heap.size w w' := by
  refine (set32_any A l c at_ x w h hA hl ha hx).mono ?_
  rintro e w' (⟨h0, _⟩ | ⟨_, h1⟩)
  · exact absurd hz h0
  · exact h1
theorem set32_no (A : Option Addr) (l : List UInt8) (c : Nat) (at_ : Int) (x : Nat) (w : World) (h : Rb w A l) (hA : A = none → c = 0) (hl : l.length ≤ 1000000) (ha : fits at_) (hx : x < 4294967296) (hz : rm l.length at_ 1 4 ≠ 0) :
    Calls Try.prog 34 #[.slice A l.length c, .int .i64 at_, .int .u32 (x : Int)] w fun e w' =>
      e = .returned (.tuple #[.slice none 0 0, ev (rm l.length at_ 1 4)]) ∧ w = w' := by
  refine (set32_any A l c at_ x w h hA hl ha hx).mono ?_
  rintro e w' (⟨_, h1⟩ | ⟨h0, _⟩)
  · exact h1
  · exact absurd h0 hz
theorem list32_yes (A : Option Addr) (l : List UInt8) (c : Nat) (at_ many : Int) (w : World) (h : Rb w A l) (hA : A = none → c = 0) (hc : l.length ≤ c) (hl : l.length ≤ 1000000) (ha : fits at_) (hm : fits many) (hz : rm l.length at_ many 4 = 0) :
    Calls Try.prog 20 #[.slice A l.length c, .int .i64 at_, .int .i64 many] w fun e w' =>
      ∃ g, w.heap.size ≤ g ∧ e = .returned (.tuple #[.slice (some ⟨g, 0, none⟩) many.toNat many.toNat, .nilIface]) ∧ Wk .u32 30 w' g (wl (l.drop at_.toNat) 4 many.toNat) ∧ Below w.heap.size w w' := by
  refine (list32_any A l c at_ many w h hA hc hl ha hm).mono ?_
  rintro e w' (⟨h0, _⟩ | ⟨_, h1⟩)
  · exact absurd hz h0
  · exact h1
theorem list32_no (A : Option Addr) (l : List UInt8) (c : Nat) (at_ many : Int) (w : World) (h : Rb w A l) (hA : A = none → c = 0) (hc : l.length ≤ c) (hl : l.length ≤ 1000000) (ha : fits at_) (hm : fits many) (hz : rm l.length at_ many 4 ≠ 0) :
    Calls Try.prog 20 #[.slice A l.length c, .int .i64 at_, .int .i64 many] w fun e w' =>
      e = .returned (.tuple #[.slice none 0 0, ev (rm l.length at_ many 4)]) ∧ w = w' := by
  refine (list32_any A l c at_ many w h hA hc hl ha hm).mono ?_
  rintro e w' (⟨_, h1⟩ | ⟨h0, _⟩)
  · exact h1
  · exact absurd h0 hz
theorem set64_yes (A : Option Addr) (l : List UInt8) (c : Nat) (at_ : Int) (x : Nat) (w : World) (h : Rb w A l) (hA : A = none → c = 0) (hl : l.length ≤ 1000000) (ha : fits at_) (hx : x < 18446744073709551616) (hz : rm l.length at_ 1 8 = 0) :
    Calls Try.prog 36 #[.slice A l.length c, .int .i64 at_, .int .u64 (x : Int)] w fun e w' =>
      e = .returned (.tuple #[.slice (some ⟨w.heap.size, 0, none⟩) (splice l at_.toNat (be 8 x)).length (splice l at_.toNat (be 8 x)).length, .nilIface]) ∧ Bk w' w.heap.size (splice l at_.toNat (be 8 x)) ∧ Below w.heap.size w w' := by
  refine (set64_any A l c at_ x w h hA hl ha hx).mono ?_
  rintro e w' (⟨h0, _⟩ | ⟨_, h1⟩)
  · exact absurd hz h0
  · exact h1
theorem set64_no (A : Option Addr) (l : List UInt8) (c : Nat) (at_ : Int) (x : Nat) (w : World) (h : Rb w A l) (hA : A = none → c = 0) (hl : l.length ≤ 1000000) (ha : fits at_) (hx : x < 18446744073709551616) (hz : rm l.length at_ 1 8 ≠ 0) :
    Calls Try.prog 36 #[.slice A l.length c, .int .i64 at_, .int .u64 (x : Int)] w fun e w' =>
      e = .returned (.tuple #[.slice none 0 0, ev (rm l.length at_ 1 8)]) ∧ w = w' := by
  refine (set64_any A l c at_ x w h hA hl ha hx).mono ?_
  rintro e w' (⟨_, h1⟩ | ⟨h0, _⟩)
  · exact h1
  · exact absurd h0 hz
theorem list64_yes (A : Option Addr) (l : List UInt8) (c : Nat) (at_ many : Int) (w : World) (h : Rb w A l) (hA : A = none → c = 0) (hc : l.length ≤ c) (hl : l.length ≤ 1000000) (ha : fits at_) (hm : fits many) (hz : rm l.length at_ many 8 = 0) :
    Calls Try.prog 54 #[.slice A l.length c, .int .i64 at_, .int .i64 many] w fun e w' =>
      ∃ g, w.heap.size ≤ g ∧ e = .returned (.tuple #[.slice (some ⟨g, 0, none⟩) many.toNat many.toNat, .nilIface]) ∧ Wk .u64 24 w' g (wl (l.drop at_.toNat) 8 many.toNat) ∧ Below w.heap.size w w' := by
  refine (list64_any A l c at_ many w h hA hc hl ha hm).mono ?_
  rintro e w' (⟨h0, _⟩ | ⟨_, h1⟩)
  · exact absurd hz h0
  · exact h1
theorem list64_no (A : Option Addr) (l : List UInt8) (c : Nat) (at_ many : Int) (w : World) (h : Rb w A l) (hA : A = none → c = 0) (hc : l.length ≤ c) (hl : l.length ≤ 1000000) (ha : fits at_) (hm : fits many) (hz : rm l.length at_ many 8 ≠ 0) :
    Calls Try.prog 54 #[.slice A l.length c, .int .i64 at_, .int .i64 many] w fun e w' =>
      e = .returned (.tuple #[.slice none 0 0, ev (rm l.length at_ many 8)]) ∧ w = w' := by
  refine (list64_any A l c at_ many w h hA hc hl ha hm).mono ?_
  rintro e w' (⟨_, h1⟩ | ⟨h0, _⟩)
  · exact h1
  · exact absurd h0 hz
theorem nsame_any (A B : Option Addr) (l : List UInt8) (c d : Nat) (w : World) (h : Rb w A l) (hA : A = none → c = 0) (k : Rb w B l) (hB : B = none → d = 0) :
    Calls Try.prog 14 #[.slice A l.length c, .slice B l.length d] w fun e w' => e = .returned (.bool true) ∧ w = w' := by
  refine (nbytes_any A B l l c d w h hA k hB).mono ?_
  rintro e w' ⟨h1, h2⟩
  exact ⟨by rw [h1, decide_eq_true rfl], h2⟩

/-! ### append -/
theorem elb : El Try.prog 22 5 .u8 := el_mk Try.underlying22 info8 (by decide)
theorem own_nil (w : World) : Oz (w.alloc (.cells #[] 5)) w.heap.size 5 .u8 (.slice (some ⟨w.heap.size, 0, none⟩) 0 0) (nums []) :=
  ⟨rfl, .inr ⟨w.heap.size, 0, #[], rfl, Nat.le_refl _, heap_alloc_new w _, Nat.le_refl _, Nat.zero_le _, rfl, rfl⟩⟩
theorem nums_app (a b : List UInt8) : nums (a ++ b) = nums a ++ nums b := by simp [nums]
theorem nums_wf (l : List UInt8) : ∀ z ∈ nums l, (Lit.int .u8 z).wf = true := by
  intro z hz
  obtain ⟨b, _, rfl⟩ := List.mem_map.1 hz
  have := b.toNat_lt
  simp [Lit.wf, IntKind.min, IntKind.max, IntKind.signed, IntKind.bits]
  omega
theorem own_reads {w : World} {base : Nat} {v : Value} {l : List UInt8} (h : Oz w base 5 .u8 v (nums l)) : ∃ A c, v = .slice A l.length c ∧ Rb w A l ∧ (A = none → c = 0) ∧ l.length ≤ c := by
  obtain ⟨A, c, h1, h2, h3, h4, _⟩ := h.reads (nums_wf l)
  rw [nums_len] at h1 h4
  exact ⟨A, c, h1, h2, h3, h4⟩
/-- append of bytes to a row of the call's own, in a plain region. -/
theorem app_bytes {ops : Array Oper} {rest : List Oper} {o : Oper} {a : Act} {Q : Exit → Act → World → Prop} {w : World} (s x : Operand) (base : Nat) (v : Value) (m : List UInt8) (hown : Oz w base 5 .u8 v (nums m))
    (A : Option Addr) (l : List UInt8) (c : Nat) (hr : Rb w A l) (hA : A = none → c = 0) (hm : m.length ≤ 1000000000) (hl : l.length ≤ 1000000000) (hbase : base ≤ w.heap.size)
    (hgd : o.guard = none) (ho : o.op = .call { callee := .builtin .append, args := #[s, x], argTypes := #[22, 22] }) (hs : a.eval s = v) (hx : a.eval x = .slice A l.length c)
    (h : ∀ A' c' w', Oz w' base 5 .u8 (.slice A' (m ++ l).length c') (nums (m ++ l)) → Rb w' A' (m ++ l) → (A' = none → c' = 0) → (m ++ l).length ≤ c' → Below base w w' → wpList Try.prog ops Q rest (a.put o.dst (.slice A' (m ++ l).length c')) w') :
    wpList Try.prog ops Q (o :: rest) a w := by
  refine app_list hgd s x 22 5 .u8 elb ho base v (nums m) hs hown A (nums l) c (by rw [nums_len]; exact hx) hr hA (by rw [nums_len]; exact hm) (by rw [nums_len]; exact hl) hbase ?_
  intro v' w' h1 h2
  rw [← nums_app] at h1
  obtain ⟨A', c', rfl, h3, h4, h5⟩ := own_reads h1
  exact h A' c' w' h1 h3 h4 h5 h2

set_option maxHeartbeats 1600000 in
set_option maxRecDepth 100000 in
theorem cuts_walk (A : Option Addr) (l : List UInt8) (c : Nat) (at_ many : Int) (w : World) (h : Rb w A l) (hA : A = none → c = 0) (hc : l.length ≤ c) (ha : fits at_) (hm : fits many) :
    Calls Try.prog 4 #[.slice A l.length c, .int .i64 at_, .int .i64 many] w fun e w' => e = .returned (.bool true) ∧ Below w.heap.size w w' := by
  have HH := Lib.hid h; have HA := Lib.hid hA; have HC := Lib.hid hc; have HFA := Lib.hid ha; have HFM := Lib.hid hm
  clear h hA hc ha hm
  by_cases hl : 300 < l.length
  · clear HC
    go_enter Try.func4, Try.ntmps4
    go_wp2_with (go_at_call 6; refine (alive_any _).mono ?_; rintro e w1 ⟨rfl, hb1⟩; have HB1 := Lib.hid hb1; clear hb1)
    go_ret
    exact ⟨rfl, HB1.out⟩
  · have HN := Lib.hid (show l.length ≤ 300 by omega)
    obtain ⟨E, hE⟩ : ∃ E, E = rm l.length at_ many 1 := ⟨_, rfl⟩
    obtain ⟨p, hp⟩ : ∃ p, p = pm l at_ many := ⟨_, rfl⟩
    have hpart := fun w1 (hb : Below w.heap.size w w1) => rpart_any A l c at_ many w1 (HH.out.below hb) HA.out HC.out (by omega) HFA.out HFM.out
    rw [← hE, ← hp] at hpart
    have HP := Lib.hid hpart; clear hpart
    have HPL := Lib.hid (show p.length ≤ 1000000 by rw [hp]; unfold pm; split <;> simp; have := HN.out; omega)
    have HE := Lib.hid (show 0 ≤ E ∧ E < 100 by rw [hE]; exact rm_lo _ _ _ _)
    by_cases hz : E = 0
    · subst hz
      have hcut := fun A1 c1 w1 (R : Rb w1 A1 l) (hA : A1 = none → c1 = 0) (hc : l.length ≤ c1) => cut_yes A1 l c1 at_ many w1 R hA hc (by omega) HFA.out HFM.out hE.symm
      rw [← hp] at hcut
      have HCUT := Lib.hid hcut
      clear hcut hE hp
      go_enter Try.func4, Try.ntmps4
      go_wp2_with (first | (go_at_call 6; refine (alive_any _).mono ?_; rintro e w1 ⟨rfl, hb1⟩; have HB1 := Lib.hid hb1; clear hb1) | (refine app_bytes (.tmp 18) (.tmp 19) w1.heap.size _ [] (own_nil _) A l c (HH.out.below (HB1.out.alloc HB1.out.size _)) HA.out (by decide) (by have := HN.out; omega) (by simp) rfl rfl rfl rfl ?_; intro A1 c1 w2 hown R1' N1' L1' hb2; have R1 := Lib.hid R1'; have N1 := Lib.hid N1'; have L1 := Lib.hid L1'; have HB2 := Lib.hid (HB1.out.trans ((((Below.refl _ w1).alloc (Nat.le_refl _) _).trans hb2).mono HB1.out.size)); clear hown R1' N1' L1' hb2) | (go_at_call 11; refine (HCUT.out A1 c1 _ R1.out N1.out L1.out).mono ?_; rintro e w3 ⟨rfl, hk3, hb3⟩; have HK3 := Lib.hid hk3; have HB3 := Lib.hid hb3; have HB4 := Lib.hid (HB2.out.trans (hb3.mono HB2.out.size)); clear hk3 hb3) | (go_at_call 12; refine (HP.out _ HB4.out).mono ?_; rintro e w' ⟨⟨A2, c2, rfl, R2', N2', L2'⟩, rfl⟩; have R2 := Lib.hid R2'; have N2 := Lib.hid N2'; clear R2' N2' L2') | (go_at_call 13; refine (num_nil _).mono ?_; rintro e w' ⟨rfl, rfl⟩) | (go_at_call 14; refine (nsame_any _ A2 p _ c2 _ HK3.out.whole (fun h => by cases h) R2.out N2.out).mono ?_; rintro e w' ⟨rfl, rfl⟩))
      have HW := Lib.hid (bk_wk HK3.out)
      go_loopw [47] (fun i wr => ∃ (k : Nat) (zs : List Int), k ≤ p.length ∧ zs.length = p.length ∧ i = .int .i64 k ∧ Hid (Wk .u8 5 wr w2.heap.size zs) ∧ Hid (Below w2.heap.size w2 wr)) (fun i _ => p.length - (intOf i).toNat)
      case atStart => exact ⟨0, nums p, Nat.zero_le _, nums_len p, rfl, HW, HB3⟩
      case round =>
        obtain ⟨k, zs, hk, hzl, rfl, HZ, HBr⟩ := hrel
        have hpl := HPL.out
        by_cases hlt : k < p.length
        · have hc := HZ.out.cell (i := k) (by omega)
          have hf := HZ.out.free k
          have HS := Lib.hid (HZ.out.set k (bits .xor .u8 zs[k] 1))
          have HBs := Lib.hid (HBr.out.setCell (p := ⟨w2.heap.size, k, none⟩) (Nat.le_refl _) (.int .u8 (bits .xor .u8 zs[k] 1)))
          have HZS := Lib.hid (show (zs.set k (bits .xor .u8 zs[k] 1)).length = p.length by rw [List.length_set]; exact hzl)
          generalize zs.set k (bits .xor .u8 zs[k] 1) = zs' at *
          generalize zs[k] = z at *
          clear hzl
          go_wp2
          go_roundw
          case rel => exact ⟨k + 1, zs', by omega, HZS.out, by go_num, HS, HBs⟩
          case measure => simp [intOf]; omega
        · obtain rfl : k = p.length := by omega
          go_wp2_with (go_at_call 14; refine (nsame_any A1 A l c1 c wr (R1.out.below HBr.out) N1.out (HH.out.below (HB2.out.trans (HBr.out.mono HB2.out.size))) HA.out).mono ?_; rintro e w' ⟨rfl, rfl⟩)
          go_ret
          exact ⟨rfl, HB2.out.trans (HBr.out.mono HB2.out.size)⟩
    · have hpn : p = [] := by rw [hp]; exact pm_not (by rw [← hE]; exact hz)
      subst hpn
      have hcut := fun A1 c1 w1 (R : Rb w1 A1 l) (hA : A1 = none → c1 = 0) (hc : l.length ≤ c1) => cut_no A1 l c1 at_ many w1 R hA hc (by omega) HFA.out HFM.out (by rw [← hE]; exact hz)
      rw [← hE] at hcut
      have HCUT := Lib.hid hcut
      clear hcut hE hp
      go_enter Try.func4, Try.ntmps4
      go_wp2_with (first | (go_at_call 6; refine (alive_any _).mono ?_; rintro e w1 ⟨rfl, hb1⟩; have HB1 := Lib.hid hb1; clear hb1) | (refine app_bytes (.tmp 18) (.tmp 19) w1.heap.size _ [] (own_nil _) A l c (HH.out.below (HB1.out.alloc HB1.out.size _)) HA.out (by decide) (by have := HN.out; omega) (by simp) rfl rfl rfl rfl ?_; intro A1 c1 w2 hown R1' N1' L1' hb2; have R1 := Lib.hid R1'; have N1 := Lib.hid N1'; have L1 := Lib.hid L1'; have HB2 := Lib.hid (HB1.out.trans ((((Below.refl _ w1).alloc (Nat.le_refl _) _).trans hb2).mono HB1.out.size)); clear hown R1' N1' L1' hb2) | (go_at_call 11; refine (HCUT.out A1 c1 _ R1.out N1.out L1.out).mono ?_; rintro e w3 ⟨rfl, rfl⟩) | (go_at_call 12; refine (HP.out _ HB2.out).mono ?_; rintro e w' ⟨⟨A2, c2, rfl, R2', N2', L2'⟩, rfl⟩; have R2 := Lib.hid R2'; have N2 := Lib.hid N2'; clear R2' N2' L2') | (go_at_call 13; refine (num_any _ _ HE.out.1 HE.out.2).mono ?_; rintro e w' ⟨rfl, rfl⟩) | (go_at_call 14; refine (nsame_any none A2 [] 0 c2 _ (Rb.nil _) (fun _ => rfl) R2.out N2.out).mono ?_; rintro e w' ⟨rfl, rfl⟩))
      go_loopw [47] (fun i wr => i = .int .i64 0 ∧ Hid (w2 = wr)) (fun _ _ => 0)
      case atStart => exact ⟨rfl, Lib.hid rfl⟩
      case round =>
        obtain ⟨rfl, hw⟩ := hrel
        obtain rfl := hw.out
        go_wp2_with (go_at_call 14; refine (nsame_any A1 A l c1 c w2 R1.out N1.out (HH.out.below HB2.out) HA.out).mono ?_; rintro e w' ⟨rfl, rfl⟩)
        go_ret
        exact ⟨rfl, HB2.out⟩
end Go.Proofs.Ytfkkniooigdmgaa
