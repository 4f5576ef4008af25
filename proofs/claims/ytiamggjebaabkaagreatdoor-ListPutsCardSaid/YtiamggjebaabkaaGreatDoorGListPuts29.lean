/- Merged: ShaB, LeapM. -/
import Derived.Test.YtiamggjebaabkaaGreatDoorGListPuts28
import Derived.Test.YtiamggjebaabkaaGreatDoorGListPuts13
import Derived.Test.YtiamggjebaabkaaGreatDoorGListPuts19
import Derived.Test.YtiamggjebaabkaaGreatDoorGListPuts1
namespace Go.Proofs.YtiamggjebaabkaaGreatDoor
open Go.RowKit Go.WideShapes Go.ChangeShapes
set_option linter.unusedVariables false

theorem one_part {w : World} {b : Nat} {A : Option Addr} {l : List UInt8} {c : Nat} (hb : w.cell? ⟨b, 0, none⟩ = some (.slice A l.length c)) (h : Rb w A l) (hA : A = none → c = 0) (hc : l.length ≤ c) : Ps (fun _ => False) w (some ⟨b, 0, none⟩) [(A, l, c)] := fun j A' l' c' hj => by
  cases j with
  | zero =>
    have hj : (A, l, c) = (A', l', c') := by simpa using hj
    injection hj with e1 e2
    injection e2 with e2 e3
    subst e1; subst e2; subst e3
    exact ⟨⟨b, 0, rfl, fun h => h, hb⟩, h, hA, hc, .inr fun _ _ h => h⟩
  | succ j => simp at hj
set_option maxRecDepth 100000 in
set_option maxHeartbeats 1000000 in
theorem ssum_any (A : Option Addr) (l : List UInt8) (c : Nat) (w : World) (hst : Start w) (h : Rb w A l) (hA : A = none → c = 0) (hc : l.length ≤ c) (hl : l.length ≤ 10000) :
    Calls Tryz.prog 42 #[.slice A l.length c] w fun e w' => e = .returned (.agg (bc (byt (dig l))).toArray) ∧ Below w.heap.size w w' := by
  have b1 : Below w.heap.size w (w.alloc (.cells #[.int .u8 0, .int .u8 0, .int .u8 0, .int .u8 0, .int .u8 0, .int .u8 0, .int .u8 0, .int .u8 0, .int .u8 0, .int .u8 0, .int .u8 0, .int .u8 0, .int .u8 0, .int .u8 0, .int .u8 0, .int .u8 0, .int .u8 0, .int .u8 0, .int .u8 0, .int .u8 0] 49)) := (Below.refl _ w).alloc (Nat.le_refl _) _
  have z1 : Bt 49 (w.alloc (.cells #[.int .u8 0, .int .u8 0, .int .u8 0, .int .u8 0, .int .u8 0, .int .u8 0, .int .u8 0, .int .u8 0, .int .u8 0, .int .u8 0, .int .u8 0, .int .u8 0, .int .u8 0, .int .u8 0, .int .u8 0, .int .u8 0, .int .u8 0, .int .u8 0, .int .u8 0, .int .u8 0] 49)) w.heap.size (List.replicate 20 0) := heap_alloc_new w _
  obtain ⟨W1, hW1⟩ : ∃ W1, W1 = w.alloc (.cells #[.int .u8 0, .int .u8 0, .int .u8 0, .int .u8 0, .int .u8 0, .int .u8 0, .int .u8 0, .int .u8 0, .int .u8 0, .int .u8 0, .int .u8 0, .int .u8 0, .int .u8 0, .int .u8 0, .int .u8 0, .int .u8 0, .int .u8 0, .int .u8 0, .int .u8 0, .int .u8 0] 49) := ⟨_, rfl⟩
  rw [← hW1] at b1 z1
  have b2 : Below W1.heap.size W1 (W1.alloc (.cells #[.slice A l.length c] 59)) := (Below.refl _ W1).alloc (Nat.le_refl _) _
  have hps := one_part (w := W1.alloc (.cells #[.slice A l.length c] 59)) (bk_cell (heap_alloc_new W1 _) 0) ((h.below b1).below b2) hA hc
  have hof := sof_any (some ⟨W1.heap.size, 0, none⟩) 1 [(A, l, c)] _ ((hst.below b1).below b2) hps (fun h => by cases h) (by simp) (by simp [cat]; exact hl)
  have hd : digP [(A, l, c)] = byt (dig l) := by unfold digP cat; simp
  rw [hd] at hof
  have HOF := Lib.hid hof
  have HB2 := Lib.hid (b1.trans (b2.mono b1.size)); have HZ2 := Lib.hid (z1.below b2 z1.lt)
  obtain ⟨V, hV⟩ : ∃ V, V = byt (dig l) := ⟨_, rfl⟩
  have HBL := Lib.hid (show V.length = 20 by rw [hV]; exact byt_len _)
  rw [← hV] at HOF ⊢
  have hsz : W1.heap.size = w.heap.size + 1 := by rw [hW1]; simp
  rw [hsz] at HOF
  clear hV hof hps b1 b2 z1 h hst hd hc hl hsz
  go_enter Tryz.func42, Tryz.ntmps42
  go_upto_region 1 with fail
  rw [← hW1]
  have hsz : W1.heap.size = w.heap.size + 1 := by rw [hW1]; simp
  clear hW1
  go_wp2_with fail
  refine HOF.out.mono ?_
  rintro e w3 ⟨rfl, hb⟩
  have HB3 := Lib.hid (HB2.out.trans (hb.mono HB2.out.size)); have HZ3 := Lib.hid (HZ2.out.below hb HZ2.out.lt)
  clear hb HOF hsz
  go_wp2_with (refine wpList_store_row rfl 49 (.tmp 2) (.tmp 5) rfl w.heap.size (bc V).toArray rfl rfl 49 (bc (List.replicate 20 0)).toArray HZ3.out (by rw [dsize, List.size_toArray, bc_len, HBL.out]) (by rw [List.size_toArray, List.size_toArray, bc_len, bc_len, HBL.out]; rfl) (bc_all _) ?_)
  refine bodyPost_ret (results_cell_row rfl _ _ w.heap.size 49 (bc V).toArray (0, 0) _ rfl (setRow_heap w3 w.heap.size _ _ _ _ HZ3.out) dund rfl (by rw [dsize, List.size_toArray, bc_len, HBL.out])) rfl ⟨rfl, ?_⟩
  exact below_setRow HB3.out (Nat.le_refl _) _

end Go.Proofs.YtiamggjebaabkaaGreatDoor

namespace Go.Proofs.YtiamggjebaabkaaGreatDoor
open Go.RowKit
set_option linter.unusedVariables false

/-- A row: a day, and the offset from it on. -/
structure Rw where
  d : Int
  o : Int
def rd (L : List Rw) (j : Nat) : Int := (L.getD j ⟨0, 0⟩).d
def ro (L : List Rw) (j : Nat) : Int := (L.getD j ⟨0, 0⟩).o
/-- All its numbers fit. -/
def Fw (L : List Rw) : Prop := ∀ j, fits (rd L j) ∧ fits (ro L j)
theorem Fw.d {L : List Rw} (h : Fw L) (j : Nat) : -9223372036854775808 ≤ rd L j ∧ rd L j ≤ 9223372036854775807 := (h j).1
theorem Fw.o {L : List Rw} (h : Fw L) (j : Nat) : -9223372036854775808 ≤ ro L j ∧ ro L j ≤ 9223372036854775807 := (h j).2
theorem rd_drop (L : List Rw) (k j : Nat) : rd (L.drop k) j = rd L (k + j) := by unfold rd; simp [List.getD]
theorem ro_drop (L : List Rw) (k j : Nat) : ro (L.drop k) j = ro L (k + j) := by unfold ro; simp [List.getD]
/-- Its cells, one behind the other. -/
def cw (L : List Rw) : List Value := L.flatMap fun r => [.int .i64 r.d, .int .i64 r.o]
theorem cw_len (L : List Rw) : (cw L).length = L.length * 2 := by
  induction L with
  | nil => rfl
  | cons a l ih => simp [cw, List.flatMap_cons] at ih ⊢; omega
theorem cw_append (a b : List Rw) : cw (a ++ b) = cw a ++ cw b := by simp [cw]
theorem cw_at (L : List Rw) : ∀ j, j < L.length → (cw L)[j * 2]? = some (.int .i64 (rd L j)) ∧ (cw L)[j * 2 + 1]? = some (.int .i64 (ro L j)) := by
  induction L with
  | nil => intro j h; simp at h
  | cons a l ih =>
    intro j h
    cases j with
    | zero => exact ⟨rfl, rfl⟩
    | succ k =>
      have := ih k (by simpa using h)
      have e1 : (k + 1) * 2 = k * 2 + 2 := by omega
      have e2 : cw (a :: l) = .int .i64 a.d :: .int .i64 a.o :: cw l := rfl
      rw [e1, e2]
      refine ⟨?_, ?_⟩
      · exact this.1
      · exact this.2
theorem cw_mem {L : List Rw} {u : Value} (h : u ∈ cw L) : ∃ z, u = .int .i64 z := by
  obtain ⟨r, -, hr⟩ := List.mem_flatMap.1 h
  simp at hr
  rcases hr with rfl | rfl <;> exact ⟨_, rfl⟩

open Classical in
/-- Is a day the first of its month? -/
noncomputable def d1 (n : Int) : Bool := decide (∃ y m, Dt n y m 1)
open Classical in
theorem d1_is {n y m d : Int} (h : Dt n y m d) : d1 n = decide (d = 1) := by
  unfold d1
  by_cases e : d = 1
  · subst e
    rw [decide_eq_true (p := (1 : Int) = 1) rfl, decide_eq_true ⟨y, m, h⟩]
  · rw [decide_eq_false (p := d = 1) e, decide_eq_false]
    rintro ⟨y', m', h'⟩
    exact e (h.one h').2.2
/-- A day of the years 1900 to 9999. -/
def dtd (n : Int) : Bool := decide (-25567 ≤ n) && decide (n ≤ 2932896)
theorem dtd_year {n y m d : Int} (h : Dt n y m d) : decide (1900 ≤ y) = dtd n := by
  obtain ⟨e1, e2, _, _⟩ := h.ends
  have hr := h.range
  have k : st 1900 = -25567 := by decide
  unfold dtd
  rw [decide_eq_true (p := n ≤ 2932896) hr.2, Bool.and_true]
  by_cases c : 1900 ≤ y
  · have := st_mono c
    rw [decide_eq_true c, decide_eq_true (by omega)]
  · have := st_mono (show y + 1 ≤ 1900 by omega)
    rw [decide_eq_false c, decide_eq_false (by omega)]
theorem dtd_no {n : Int} (h : n < -4371587 ∨ 2932896 < n) : dtd n = false := by
  unfold dtd
  rcases h with h | h
  · rw [decide_eq_false (by omega)]; rfl
  · rw [decide_eq_false (p := n ≤ 2932896) (by omega), Bool.and_false]
/-- What is wrong with a row's day, with a row, with a row behind another, with a time. -/
def w1 (L : List Rw) (j : Nat) : Bool := !dtd (rd L j)
noncomputable def w2 (L : List Rw) (j : Nat) : Bool := !d1 (rd L j) || (decide (ro L j < 0) || decide (1000 < ro L j))
def pr (a b x y : Int) : Bool := decide (x ≤ a) || (decide (y - b ≠ 1) && decide (y - b ≠ -1))
def w3 (L : List Rw) (j : Nat) : Bool := pr (rd L j) (ro L j) (rd L (j + 1)) (ro L (j + 1))
def wt (z : Int) : Bool := decide (z < 0) || decide (1099511627776 < z)
open Classical in
/-- A table's error, by its number. -/
noncomputable def lkE (L : List Rw) (u e : Int) : Int :=
  if L.length = 0 then 8 else if 256 < L.length then 3 else if ∃ j, j < L.length ∧ w1 L j = true then 13
  else if (∃ j, j < L.length ∧ w2 L j = true) then 1 else if wt u = true ∨ wt e = true then 1 else if ∃ j, j < L.length - 1 ∧ w3 L j = true then 6 else 0
/-- A valid table's rows. -/
structure Vr (L : List Rw) : Prop where
  pos : 0 < L.length
  few : L.length ≤ 256
  day : ∀ j, j < L.length → -25567 ≤ rd L j ∧ rd L j ≤ 2932896
  off : ∀ j, j < L.length → 0 ≤ ro L j ∧ ro L j ≤ 1000
  ord : ∀ j, j + 1 < L.length → rd L j < rd L (j + 1) ∧ (ro L (j + 1) - ro L j = 1 ∨ ro L (j + 1) - ro L j = -1)
theorem lkE_lo (L : List Rw) (u e : Int) : 0 ≤ lkE L u e ∧ lkE L u e < 100 := by
  unfold lkE
  repeat' split
  all_goals decide
theorem lkE_zero {L : List Rw} {u e : Int} (h : lkE L u e = 0) : Vr L ∧ (0 ≤ u ∧ u ≤ 1099511627776) ∧ 0 ≤ e ∧ e ≤ 1099511627776 := by
  unfold lkE at h
  split at h
  · cases h
  split at h
  · cases h
  split at h
  · cases h
  split at h
  · cases h
  split at h
  · cases h
  split at h
  · cases h
  rename_i h1 h2 h3 h4 h5 h6
  simp only [not_exists, not_and, Bool.not_eq_true] at h3 h4 h6
  refine ⟨⟨by omega, by omega, fun j hj => ?_, fun j hj => ?_, fun j hj => ?_⟩, ?_, ?_⟩
  · have := h3 j hj
    unfold w1 dtd at this
    simpa using this
  · have := h4 j hj
    unfold w2 at this
    simp at this
    omega
  · have := h6 j (by omega)
    unfold w3 pr at this
    simp at this
    omega
  · have : wt u = false := by
      cases hu : wt u with
      | false => rfl
      | true => exact absurd (Or.inl hu) h5
    unfold wt at this
    simp at this
    omega
  · have : wt e = false := by
      cases hu : wt e with
      | false => rfl
      | true => exact absurd (Or.inr hu) h5
    unfold wt at this
    simp at this
    omega
theorem Vr.mono {L : List Rw} (h : Vr L) {i j : Nat} (hij : i < j) (hj : j < L.length) : rd L i < rd L j := by
  induction j with
  | zero => omega
  | succ k ih =>
    have := (h.ord k hj).1
    by_cases e : i = k
    · subst e; exact this
    · exact Int.lt_trans (ih (by omega) (by omega)) this

/-- How many of the first k rows' days aren't behind day n. -/
def cn (L : List Rw) (n : Int) : Nat → Nat
  | 0 => 0
  | k + 1 => if rd L k ≤ n then k + 1 else cn L n k
/-- The index of the first row behind day n. -/
def af (L : List Rw) (n : Int) : Nat := cn L n L.length
theorem cn_le (L : List Rw) (n : Int) : ∀ k, cn L n k ≤ k
  | 0 => Nat.le_refl _
  | k + 1 => by
    have := cn_le L n k
    unfold cn; split <;> omega
theorem af_le (L : List Rw) (n : Int) : af L n ≤ L.length := cn_le _ _ _
theorem cn_hi (L : List Rw) (n : Int) : ∀ k i, cn L n k ≤ i → i < k → n < rd L i
  | 0, i, _, h => absurd h (Nat.not_lt_zero _)
  | k + 1, i, h, hi => by
    unfold cn at h
    split at h
    · omega
    · by_cases e : i = k
      · subst e; omega
      · exact cn_hi L n k i h (by omega)
theorem af_hi (L : List Rw) (n : Int) {i : Nat} (h : af L n ≤ i) (hi : i < L.length) : n < rd L i := cn_hi L n _ i h hi
theorem cn_at (L : List Rw) (n : Int) : ∀ k, 0 < cn L n k → rd L (cn L n k - 1) ≤ n
  | 0, h => absurd h (Nat.lt_irrefl _)
  | k + 1, h => by
    unfold cn at h ⊢
    split
    · simpa
    · rename_i e
      rw [if_neg e] at h
      exact cn_at L n k h
theorem Vr.af_lo {L : List Rw} (V : Vr L) (n : Int) {i : Nat} (h : i < af L n) : rd L i ≤ n := by
  have h1 : rd L (af L n - 1) ≤ n := cn_at L n _ (show 0 < cn L n L.length from Nat.lt_of_le_of_lt (Nat.zero_le _) h)
  have h2 := af_le L n
  by_cases e : i = af L n - 1
  · subst e; exact h1
  · have := V.mono (i := i) (j := af L n - 1) (by omega) (by omega)
    omega
theorem Vr.af_is {L : List Rw} (V : Vr L) (n : Int) (k : Nat) (h : k ≤ L.length) (h1 : ∀ i, i < k → rd L i ≤ n) (h2 : ∀ i, k ≤ i → i < L.length → n < rd L i) : af L n = k := by
  have a := af_le L n
  rcases Nat.lt_trichotomy (af L n) k with c | c | c
  · have := h1 _ c
    have := af_hi L n (i := af L n) (Nat.le_refl _) (by omega)
    omega
  · exact c
  · have := V.af_lo n c
    have := h2 k (Nat.le_refl _) (by omega)
    omega

/-- A day's offset, and whether there is one. -/
def ofN (L : List Rw) (n : Int) : Int := if af L n = 0 then 0 else ro L (af L n - 1)
def ofB (L : List Rw) (n : Int) : Bool := !decide (af L n = 0)
/-- The next day that is long or short: the row behind it; whether there is one, the day, its Leap. -/
def nx (L : List Rw) (n : Int) : Nat := if af L n = 0 then 1 else af L n
def nxB (L : List Rw) (n : Int) : Bool := decide (nx L n < L.length)
def nxD (L : List Rw) (n : Int) : Int := if nx L n < L.length then rd L (nx L n) - 1 else 0
def nxK (L : List Rw) (n : Int) : Int := if nx L n < L.length then ro L (nx L n) - ro L (nx L n - 1) else 0
/-- A day's Leap. -/
def lpN (L : List Rw) (n : Int) : Int := if nx L n < L.length ∧ rd L (nx L n) - 1 = n then ro L (nx L n) - ro L (nx L n - 1) else 0
theorem nx_pos (L : List Rw) (n : Int) : 0 < nx L n := by unfold nx; split <;> omega
theorem Vr.nxK_bd {L : List Rw} (V : Vr L) (n : Int) : nxK L n = 0 ∨ nxK L n = 1 ∨ nxK L n = -1 := by
  unfold nxK
  split
  · rename_i h
    have := (V.ord (nx L n - 1) (by have := nx_pos L n; omega)).2
    rw [show nx L n - 1 + 1 = nx L n by have := nx_pos L n; omega] at this
    omega
  · exact .inl rfl
theorem lpN_is (L : List Rw) (n : Int) : lpN L n = if nxB L n = false ∨ nxD L n ≠ n then 0 else nxK L n := by
  unfold lpN nxB nxD nxK
  by_cases h : nx L n < L.length
  · rw [decide_eq_true h, if_pos h, if_pos h]
    by_cases e : rd L (nx L n) - 1 = n
    · rw [if_pos ⟨h, e⟩, if_neg]; simp [e]
    · rw [if_neg (fun c => e c.2), if_pos]; simp [e]
  · rw [if_neg (fun c => h c.1), if_pos]; simp [h]
theorem Vr.lpN_bd {L : List Rw} (V : Vr L) (n : Int) : lpN L n = 0 ∨ lpN L n = 1 ∨ lpN L n = -1 := by
  rw [lpN_is]
  split
  · exact .inl rfl
  · exact V.nxK_bd n
theorem lpN_nil (n : Int) : lpN [] n = 0 := by unfold lpN; rw [if_neg]; simp
theorem nxK_nil (n : Int) : nxK [] n = 0 := rfl
/-- From the first row on a day's offset is the one ahead and that day's Leap. -/
theorem Vr.step {L : List Rw} (V : Vr L) (n : Int) (h : ofB L n = true) : ofB L (n + 1) = true ∧ ofN L (n + 1) - ofN L n = lpN L n := by
  have h0 : af L n ≠ 0 := by
    intro e
    unfold ofB at h
    rw [e] at h
    simp at h
  have ha := af_le L n
  by_cases c : af L n < L.length ∧ rd L (af L n) - 1 = n
  · have e : af L (n + 1) = af L n + 1 := V.af_is _ _ (by omega) (fun i hi => by
      by_cases e : i = af L n
      · subst e; omega
      · have := V.af_lo n (i := i) (by omega); omega) (fun i h1 h2 => by
      have := V.mono (i := af L n) (j := i) (by omega) h2
      omega)
    refine ⟨?_, ?_⟩
    · unfold ofB; rw [e]; simp
    · unfold ofN lpN nx
      rw [e, if_neg h0, if_neg (by omega), if_neg h0, if_pos c]
      simp
  · have e : af L (n + 1) = af L n := V.af_is _ _ ha (fun i hi => by have := V.af_lo n hi; omega) (fun i h1 h2 => by
      have h3 := af_hi L n h1 h2
      rcases Nat.lt_or_ge (af L n) i with g | g
      · have := V.mono g h2
        have := af_hi L n (Nat.le_refl _) (by omega : af L n < L.length)
        omega
      · obtain rfl : i = af L n := by omega
        by_cases q : rd L (af L n) - 1 = n
        · exact absurd ⟨h2, q⟩ c
        · omega)
    refine ⟨?_, ?_⟩
    · unfold ofB; rw [e]; simpa using h0
    · unfold ofN lpN nx
      rw [e, if_neg h0, if_neg h0, if_neg c]
      omega
theorem Vr.before {L : List Rw} (V : Vr L) (n : Int) (h : ofB L n = false) : ofN L n = 0 ∧ lpN L n = 0 := by
  have h0 : af L n = 0 := by unfold ofB at h; simpa using h
  refine ⟨?_, ?_⟩
  · unfold ofN; rw [if_pos h0]
  · unfold lpN
    rw [if_neg]
    rintro ⟨h1, h2⟩
    unfold nx at h1 h2
    rw [if_pos h0] at h1 h2
    have := V.mono (i := 0) (j := 1) (by omega) h1
    have := af_hi L n (i := 0) (by omega) (by omega)
    omega

end Go.Proofs.YtiamggjebaabkaaGreatDoor
