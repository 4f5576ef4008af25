/- Merged: RefA. -/
import Derived.Test.YtkhcneacjnpcnaaGreatDoorGPosixChecks8
import Derived.Outline
import Derived.LoopTactic
import Derived.Laws.IdiomStrings
namespace Go.Proofs.YtkhcneacjnpcnaaGreatDoor
open Go.RowKit
set_option linter.unusedVariables false

/-! ### Raw -/
/-- A number's figures, none for 0. -/
def decs (n : Nat) : List UInt8 := if n = 0 then [] else Lib.decDigits n
theorem decs_step {n : Nat} (h : 0 < n) : decs n = decs (n / 10) ++ [UInt8.ofNat (48 + n % 10)] := by
  unfold decs
  rw [if_neg (by omega), Lib.decDigits]
  by_cases h10 : n < 10
  · rw [dif_pos h10, if_pos (by omega), Nat.mod_eq_of_lt h10]; rfl
  · rw [dif_neg h10, if_neg (by omega)]
theorem pad_decs {n m j : Nat} {l : List UInt8} (h : l = List.replicate j 48 ++ decs n) (hj : j = 0 ∨ l.length ≤ m ∨ l.length ≤ 1) (hm : m ≤ l.length) (h1 : 0 < l.length) :
    l = pad m (Lib.decDigits n) := by
  subst h
  unfold pad
  simp only [List.length_append, List.length_replicate] at *
  by_cases h0 : n = 0
  · subst h0
    simp only [decs, if_true, List.length_nil, Nat.add_zero, List.append_nil] at *
    rw [Lib.decDigits_one (by decide)]
    show _ = List.replicate (m - 1) 48 ++ [48]
    rw [← List.replicate_succ', show m - 1 + 1 = j by omega]
  · have e : decs n = Lib.decDigits n := by unfold decs; rw [if_neg h0]
    rw [e] at hj hm h1 ⊢
    have := dec_pos n
    congr 2
    omega

theorem one_figure (x : Nat) (w : World) :
    (convert 78 9 (.slice (some ⟨w.heap.size, 0, none⟩) 1 1)).run Tryz.prog (w.alloc (.cells #[.int .u8 (48 + (x : Int) % 10)] 5)) =
      .ok (.string ⟨[UInt8.ofNat (48 + x % 10)].toArray⟩) (w.alloc (.cells #[.int .u8 (48 + (x : Int) % 10)] 5)) := by
  refine run_convert_bytes_back _ _ _ 5 ⟨w.heap.size, 0, none⟩ 1 [UInt8.ofNat (48 + x % 10)] Tryz.underlying78 Tryz.underlying5 Tryz.underlying9 ?_
  intro j hj
  have : j = 0 := by simpa using hj
  subst this
  have e := (isd_ofNat (d := x % 10) (Nat.mod_lt _ (by decide))).2
  simp only [List.getElem_cons_zero, e]
  show (w.alloc _).cell? ⟨w.heap.size, 0, none⟩ = _
  rw [World.cell?_alloc_mark]
  simp
theorem decs_len {n : Nat} (h : n < 10 ^ 19) : (decs n).length ≤ 19 := by
  unfold decs; split
  · simp
  · exact dec_len (by decide) h
set_option maxRecDepth 100000 in
set_option maxHeartbeats 800000 in
theorem raw_any (n m : Nat) (w : World) (hn : n ≤ 9223372036854775807) (hm : m ≤ 100) :
    Calls Tryz.prog 37 #[.int .i64 n, .int .i64 m] w fun e w' => e = .returned (.string ⟨(pad m (Lib.decDigits n)).toArray⟩) ∧ Below w.heap.size w w' := by
  have HD := Lib.hid (decs_len (n := n) (by have h : 9223372036854775807 < 10 ^ 19 := by decide
                                            omega))
  go_enter Tryz.func37, Tryz.ntmps37
  go_wp2
  go_loopw [0, 5] (fun v t wr => ∃ (x : Nat) (l : List UInt8), RowKit.Hid (decs x ++ l = decs n) ∧ x ≤ 9223372036854775807 ∧ v = .int .i64 x ∧ t = .string ⟨l.toArray⟩ ∧ RowKit.Hid (Below w.heap.size w wr)) (fun v _ _ => (intOf v).toNat)
  case atStart => exact ⟨n, [], by show _ = _; simp, hn, rfl, rfl, Below.refl _ _⟩
  case round =>
    obtain ⟨x, l, HL, hx, rfl, rfl, HB⟩ := hrel
    have hl : l.length ≤ 19 := by have h1 := congrArg List.length HL.out; have h2 := HD.out; simp at h1; omega
    have hls : (⟨l.toArray⟩ : ByteArray).size ≤ 19 := by rw [Lib.size_mk]; exact hl
    by_cases h0 : 0 < x
    · have kc := fun w => one_figure x w
      have hst := decs_step h0
      have HST : RowKit.Hid (decs (x / 10) ++ ([UInt8.ofNat (48 + x % 10)] ++ l) = decs n) := by rw [← List.append_assoc, ← hst]; exact HL.out
      clear hst
      go_wp2
      go_roundw
      case rel => exact ⟨x / 10, [UInt8.ofNat (48 + x % 10)] ++ l, HST, by omega, by go_num, by rw [← bs_append]; simp, (HB.out.alloc HB.out.size _)⟩
      case measure => simp [intOf]; omega
    · have hx0 : x = 0 := by omega
      subst hx0
      have HL' : RowKit.Hid (l = List.replicate 0 48 ++ decs n) := by have h := HL.out; rw [show decs 0 = [] from rfl, List.nil_append] at h; rw [h]; exact rfl
      clear h0 HL
      go_wp2
      go_loop [5] (fun t => ∃ (j : Nat) (l : List UInt8), RowKit.Hid (l = List.replicate j 48 ++ decs n) ∧ t = .string ⟨l.toArray⟩ ∧ (j = 0 ∨ l.length ≤ m ∨ l.length ≤ 1) ∧ l.length ≤ 200) (fun t => 300 - Lib.strSize t)
      case atStart => exact ⟨0, l, HL', rfl, .inl rfl, by omega⟩
      case round =>
        obtain ⟨j, l, HL, rfl, hj, hl⟩ := hrel
        have hls : (⟨l.toArray⟩ : ByteArray).size ≤ 200 := by rw [Lib.size_mk]; exact hl
        have HJ := Lib.hid hj; clear hj
        have HN : RowKit.Hid (48 :: l = List.replicate (j + 1) 48 ++ decs n) := by rw [List.replicate_succ, HL.out]; exact rfl
        by_cases h1 : l.length < m
        · go_wp2
          go_round
          case rel => exact ⟨j + 1, 48 :: l, HN, rfl, by simp; omega, by simp; omega⟩
          case measure => rw [Lib.strSize_string, Lib.strSize_string, Lib.size_mk, Lib.size_mk]; simp; omega
        · by_cases h2 : l.length = 0
          · obtain rfl : l = [] := List.eq_nil_of_length_eq_zero h2
            clear h1 h2 hl hls
            have e : (⟨#[48]⟩ : ByteArray) ++ ⟨#[]⟩ = ⟨[48].toArray⟩ := bs_append [48] []
            have E := Lib.hid e; clear e
            go_wp2
            all_goals
              rw [E.out]
              exact ⟨⟨j + 1, [48], HN, rfl, .inr (.inr (by decide)), by decide⟩, by decide⟩
          · go_wp2
            go_ret
            exact ⟨ret1_eq (congrArg Value.string (by rw [pad_decs HL.out (by have := HJ.out; omega) (by omega) (by omega)])), HB.out⟩

/-! ### Put -/
end Go.Proofs.YtkhcneacjnpcnaaGreatDoor
