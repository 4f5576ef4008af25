/- Merged: RefA. -/
import Derived.Test.YtjbbnlcghnjlfaaDoorGGpsWeeks17
import Derived.Outline
import Derived.LoopTactic
import Derived.Laws.IdiomStrings
namespace Go.Proofs.YtjbbnlcghnjlfaaDoor
open Go.RowKit
set_option linter.unusedVariables false

/-! ### Raw -/
/-- A number's figures, none for 0. -/
def decs (n : Nat) : List UInt8 := if n = 0 then [] else Lib.decDigits n
theorem decs_step {n : Nat} (h : 0 < n) : decs n = decs (n / 10) ++ [UInt8.ofNat (48 + n % 10)] := by
  unfold decs
  rw [if_neg (by omega), Lib.decDigits]
  by_cases h10 : n < 10
  · rw [dif_pos h10, if_pos (by omega), Nat.mod_eq_of_lt h10]; rfl
  · rw [dif_neg h10, if_neg (by omega)]
theorem pad_decs {n m j : Nat} {l : List UInt8} (h : l = List.replicate j 48 ++ decs n) (hj : j = 0 ∨ l.length ≤ m ∨ l.length ≤ 1) (hm : m ≤ l.length) (h1 : 0 < l.length) :
    l = pad m (Lib.decDigits n) := by
  subst h
  unfold pad
  simp only [List.length_append, List.length_replicate] at *
  by_cases h0 : n = 0
  · subst h0
    simp only [decs, if_true, List.length_nil, Nat.add_zero, List.append_nil] at *
    rw [Lib.decDigits_one (by decide)]
    show _ = List.replicate (m - 1) 48 ++ [48]
    rw [← List.replicate_succ', show m - 1 + 1 = j by omega]
  · have e : decs n = Lib.decDigits n := by unfold decs; rw [if_neg h0]
    rw [e] at hj hm h1 ⊢
    have := dec_pos n
    congr 2
    omega

theorem one_figure (x : Nat) (w : World) :
    (convert 76 9 (.slice (some ⟨w.heap.size, 0, none⟩) 1 1)).run Tryd.prog (w.alloc (.cells #[.int .u8 (48 + (x : Int) % 10)] 5)) =
      .ok (.string ⟨[UInt8.ofNat (48 + x % 10)].toArray⟩) (w.alloc (.cells #[.int .u8 (48 + (x : Int) % 10)] 5)) := by
  refine run_convert_bytes_back _ _ _ 5 ⟨w.heap.size, 0, none⟩ 1 [UInt8.ofNat (48 + x % 10)] Tryd.underlying76 Tryd.underlying5 Tryd.underlying9 ?_
  intro j hj
  have : j = 0 := by simpa using hj
  subst this
  have e := (isd_ofNat (d := x % 10) (Nat.mod_lt _ (by decide))).2
  simp only [List.getElem_cons_zero, e]
  show (w.alloc _).cell? ⟨w.heap.size, 0, none⟩ = _
  rw [World.cell?_alloc_mark]
  simp
theorem decs_len {n : Nat} (h : n < 10 ^ 19) : (decs n).length ≤ 19 := by
  unfold decs; split
  · simp
  · exact dec_len (by decide) h
set_option maxRecDepth 100000 in
set_option maxHeartbeats 800000 in
theorem raw_any (n m : Nat) (w : World) (hn : n ≤ 9223372036854775807) (hm : m ≤ 100) :
    Calls Tryd.prog 26 #[.int .i64 n, .int .i64 m] w fun e w' => e = .returned (.string ⟨(pad m (Lib.decDigits n)).toArray⟩) ∧ Below w.heap.size w w' := by
  have HD := Lib.hid (decs_len (n := n) (by have h : 9223372036854775807 < 10 ^ 19 := by decide
                                            omega))
  go_enter Tryd.func26, Tryd.ntmps26
  go_wp2
  go_loopw [0, 5] (fun v t wr => ∃ (x : Nat) (l : List UInt8), RowKit.Hid (decs x ++ l = decs n) ∧ x ≤ 9223372036854775807 ∧ v = .int .i64 x ∧ t = .string ⟨l.toArray⟩ ∧ RowKit.Hid (Below w.heap.size w wr)) (fun v _ _ => (intOf v).toNat)
  case atStart => exact ⟨n, [], by show _ = _; simp, hn, rfl, rfl, Below.refl _ _⟩
  case round =>
    obtain ⟨x, l, HL, hx, rfl, rfl, HB⟩ := hrel
    have hl : l.length ≤ 19 := by have h1 := congrArg List.length HL.out; have h2 := HD.out; simp at h1; omega
    have hls : (⟨l.toArray⟩ : ByteArray).size ≤ 19 := by rw [Lib.size_mk]; exact hl
    by_cases h0 : 0 < x
    · have kc := fun w => one_figure x w
      have hst := decs_step h0
      have HST : RowKit.Hid (decs (x / 10) ++ ([UInt8.ofNat (48 + x % 10)] ++ l) = decs n) := by rw [← List.append_assoc, ← hst]; exact HL.out
      clear hst
      go_wp2
      go_roundw
      case rel => exact ⟨x / 10, [UInt8.ofNat (48 + x % 10)] ++ l, HST, by omega, by go_num, by rw [← bs_append]; simp, (HB.out.alloc HB.out.size _)⟩
      case measure => simp [intOf]; omega
    · have hx0 : x = 0 := by omega
      subst hx0
      have HL' : RowKit.Hid (l = List.replicate 0 48 ++ decs n) := by have h := HL.out; rw [show decs 0 = [] from rfl, List.nil_append] at h; rw [h]; exact rfl
      clear h0 HL
      go_wp2
      go_loop [5] (fun t => ∃ (j : Nat) (l : List UInt8), RowKit.Hid (l = List.replicate j 48 ++ decs n) ∧ t = .string ⟨l.toArray⟩ ∧ (j = 0 ∨ l.length ≤ m ∨ l.length ≤ 1) ∧ l.length ≤ 200) (fun t => 300 - Lib.strSize t)
      case atStart => exact ⟨0, l, HL', rfl, .inl rfl, by omega⟩
      case round =>
        obtain ⟨j, l, HL, rfl, hj, hl⟩ := hrel
        have hls : (⟨l.toArray⟩ : ByteArray).size ≤ 200 := by rw [Lib.size_mk]; exact hl
        have HJ := Lib.hid hj; clear hj
        have HN : RowKit.Hid (48 :: l = List.replicate (j + 1) 48 ++ decs n) := by rw [List.replicate_succ, HL.out]; exact rfl
        by_cases h1 : l.length < m
        · go_wp2
          go_round
          case rel => exact ⟨j + 1, 48 :: l, HN, rfl, by simp; omega, by simp; omega⟩
          case measure => rw [Lib.strSize_string, Lib.strSize_string, Lib.size_mk, Lib.size_mk]; simp; omega
        · by_cases h2 : l.length = 0
          · obtain rfl : l = [] := List.eq_nil_of_length_eq_zero h2
            clear h1 h2 hl hls
            have e : (⟨#[48]⟩ : ByteArray) ++ ⟨#[]⟩ = ⟨[48].toArray⟩ := bs_append [48] []
            have E := Lib.hid e; clear e
            go_wp2
            all_goals
              rw [E.out]
              exact ⟨⟨j + 1, [48], HN, rfl, .inr (.inr (by decide)), by decide⟩, by decide⟩
          · go_wp2
            go_ret
            exact ⟨ret1_eq (congrArg Value.string (by rw [pad_decs HL.out (by have := HJ.out; omega) (by omega) (by omega)])), HB.out⟩

/-! ### Put -/
/-- The figures of 2^63. -/
def lowest : List UInt8 := [57, 50, 50, 51, 51, 55, 50, 48, 51, 54, 56, 53, 52, 55, 55, 53, 56, 48, 56]
theorem lowest_len : lowest.length = 19 := rfl
set_option maxRecDepth 100000 in
set_option maxHeartbeats 800000 in
theorem rput_any (n width : Int) (w : World) (hn : fits n) (hw : fits width) :
    Calls Tryd.prog 25 #[.int .i64 n, .int .i64 width] w fun e w' =>
      e = .returned (.tuple #[.string ⟨(ptL n width).toArray⟩, .int .i64 (ptE width)]) ∧ Below w.heap.size w w' := by
  by_cases hr : width < 0 ∨ 20 < width
  · have e1 : ptL n width = [] := by unfold ptL; rw [if_pos hr]
    have e2 : ptE width = 1 := by unfold ptE; rw [if_pos hr]
    rw [e1, e2]; clear e1 e2
    have hr' : width < 0 ∨ (¬ width < 0 ∧ 20 < width) := by omega
    clear hr
    rcases hr' with h1 | ⟨h1, h2⟩
    all_goals
      go_enter Tryd.func25, Tryd.ntmps25
      go_wp2
      go_ret2
      exact ⟨rfl, Below.refl _ _⟩
  · have e2 : ptE width = 0 := by unfold ptE; rw [if_neg hr]
    rw [e2]; clear e2
    have h1 : 0 ≤ width := by omega
    have h2 : width ≤ 20 := by omega
    obtain ⟨W, rfl⟩ := Int.eq_ofNat_of_zero_le h1
    have e1 : ptL n W = if n < 0 then 45 :: pad W (Lib.decDigits n.natAbs) else pad W (Lib.decDigits n.natAbs) := by
      unfold ptL; rw [if_neg hr]; simp
    clear hr
    have HE := Lib.hid e1; clear e1
    by_cases hmin : n = -9223372036854775808
    · subst hmin
      rw [if_pos (by decide)] at HE
      have hd : Lib.decDigits (-9223372036854775808 : Int).natAbs = lowest := by decide +kernel
      rw [hd] at HE
      have e := HE.out
      generalize ptL (-9223372036854775808) W = R at *
      have H := Lib.hid e
      clear HE e hd
      go_enter Tryd.func25, Tryd.ntmps25
      go_wp2
      go_loop [6] (fun t => ∃ (j : Nat), j ≤ W - 19 ∧ t = .string ⟨(List.replicate j 48 ++ lowest).toArray⟩) (fun t => 300 - Lib.strSize t)
      case atStart => exact ⟨0, Nat.zero_le _, rfl⟩
      case round =>
        obtain ⟨j, hj, rfl⟩ := hrel
        obtain ⟨l, hl⟩ : ∃ l : List UInt8, l = List.replicate j 48 ++ lowest := ⟨_, rfl⟩
        have hlen : l.length = j + 19 := by rw [hl, List.length_append, lowest_len]; simp
        rw [← hl]
        have HL := Lib.hid hl; have HLEN := Lib.hid hlen
        have hls : (⟨l.toArray⟩ : ByteArray).size ≤ 200 := by rw [Lib.size_mk]; omega
        have hls : l.length ≤ 200 := by omega
        by_cases hlt : l.length < W
        · have HN : RowKit.Hid (48 :: l = List.replicate (j + 1) 48 ++ lowest) := by rw [List.replicate_succ, hl]; exact rfl
          have hj' : j + 1 ≤ W - 19 := by omega
          clear hl hlen hj
          go_wp2
          go_round
          case rel => exact ⟨j + 1, hj', by rw [← HN.out]; rfl⟩
          case measure => rw [Lib.strSize_string, Lib.strSize_string, Lib.size_mk, Lib.size_mk]; simp; omega
        · have HN : RowKit.Hid (R = 45 :: l) := by
            show R = 45 :: l
            rw [H.out]; unfold pad; rw [hl, lowest_len, show W - 19 = j by omega]
          clear hl hlen hj
          go_wp2
          go_ret2
          exact ⟨ret2_eq (congrArg Value.string (by rw [HN.out]; exact bs_append [45] l)) rfl, Below.refl _ _⟩
    · have hmin' : (n == -9223372036854775808) = false := by simpa using hmin
      have hfit : -9223372036854775807 ≤ n ∧ n ≤ 9223372036854775807 := by unfold fits at hn; omega
      obtain ⟨u, hu⟩ : ∃ u : Nat, u = n.natAbs := ⟨_, rfl⟩
      have hr := fun w => raw_any u W w (by omega) (by omega)
      rw [← hu] at HE
      have hlen : (pad W (Lib.decDigits u)).length ≤ 100 := by
        rw [pad_len]
        have := dec_len (k := 19) (u := u) (by decide) (by have h : 9223372036854775808 < 10 ^ 19 := by decide
                                                           omega)
        omega
      generalize pad W (Lib.decDigits u) = D at *
      have hls : (⟨D.toArray⟩ : ByteArray).size ≤ 100 := by rw [Lib.size_mk]; exact hlen
      have HR := Lib.hid hr
      clear hr hn hmin hw
      by_cases hneg : n < 0
      · have e : ptL n W = 45 :: D := by rw [HE.out, if_pos hneg]
        rw [e]
        obtain rfl : n = -(u : Int) := by omega
        clear HE e hu
        go_enter Tryd.func25, Tryd.ntmps25
        go_wp2_with (go_at_call 26; refine (HR.out _).mono ?_; rintro e w1 ⟨rfl, hb1⟩; have HB1 := Lib.hid hb1; clear hb1)
        go_ret2
        exact ⟨ret2_eq (congrArg Value.string (bs_append [45] D)) rfl, HB1.out⟩
      · have e : ptL n W = D := by rw [HE.out, if_neg hneg]
        rw [e]
        obtain rfl : n = (u : Int) := by omega
        clear HE e hu
        go_enter Tryd.func25, Tryd.ntmps25
        go_wp2_with (go_at_call 26; refine (HR.out _).mono ?_; rintro e w1 ⟨rfl, hb1⟩; have HB1 := Lib.hid hb1; clear hb1)
        go_ret2
        exact ⟨rfl, HB1.out⟩
end Go.Proofs.YtjbbnlcghnjlfaaDoor
