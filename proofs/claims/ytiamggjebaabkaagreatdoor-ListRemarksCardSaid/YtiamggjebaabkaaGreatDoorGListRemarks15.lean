/- Merged: ListU, ShaM, OctM. -/
import Derived.Test.YtiamggjebaabkaaGreatDoorGListRemarks12
import Derived.Test.YtiamggjebaabkaaGreatDoorGListRemarks14
import Derived.Test.YtiamggjebaabkaaGreatDoorGListRemarks1
import Derived.Laws.Entries
import Derived.Test.YtiamggjebaabkaaGreatDoorGListRemarks5
import Derived.Laws.CopyOwn
namespace Go.Proofs.YtiamggjebaabkaaGreatDoor
set_option linter.unusedVariables false

/-- Behind i words: where the program's reader stands, and the error. -/
def it11 (l : List UInt8) (k : Nat) : Nat → Nat × Int
  | 0 => (k, 0)
  | i + 1 => (swK l (gaK l (it11 l k i).1 (it11 l k i).2) (gaE l (it11 l k i).1 (it11 l k i).2), swE l (gaK l (it11 l k i).1 (it11 l k i).2) (gaE l (it11 l k i).1 (it11 l k i).2))
/-- Word i. -/
def dgW (l : List UInt8) (k i : Nat) : List UInt8 := swW l (gaK l (it11 l k i).1 (it11 l k i).2) (gaE l (it11 l k i).1 (it11 l k i).2)
def dgE (l : List UInt8) (k : Nat) : Int := enE l (ruK l (it11 l k 5).1 (it11 l k 5).2) (it11 l k 5).2
theorem sw_two (l : List UInt8) (k : Nat) : swK l k 2 = k ∧ swE l k 2 = 2 := by
  unfold swK swE
  rw [rs_two]
  exact ⟨rfl, rfl⟩
theorem hex_gp {b : UInt8} (h : hd b = true) : gp b = false := by
  have h2 : ∀ n : Nat, n < 256 → hd (UInt8.ofNat n) = true → gp (UInt8.ofNat n) = false := by decide +kernel
  have := h2 b.toNat b.toNat_lt
  rw [UInt8.ofNat_toNat] at this
  exact this h
theorem gp_hex {b : UInt8} (h : gp b = true) : hd b = false := by
  cases hh : hd b with
  | false => rfl
  | true => rw [hex_gp hh] at h; cases h
theorem hxB_is {w : List UInt8} : hxB w = true ↔ (∀ b ∈ w, hd b = true) ∧ 1 ≤ w.length ∧ w.length ≤ 8 := by
  unfold hxB hxA
  simp only [Bool.and_eq_true, decide_eq_true_eq, List.all_eq_true]
  exact Iff.rfl
/-- A gap and a word. -/
def Hw (r w r' : List UInt8) : Prop := ∃ g, r = g ++ (w ++ r') ∧ Gs g ∧ g ≠ [] ∧ hxB w = true ∧ ∀ b ∈ r'.head?, hd b = false
theorem en_hex {r : List UInt8} (h : En r) : ∀ b ∈ r.head?, hd b = false := by
  intro b hb
  rcases h with rfl | h
  · cases hb
  · cases r with
    | nil => cases hb
    | cons c r => injection hb with hb; subst hb; exact gp_hex h
theorem sw_yes {l : List UInt8} {k : Nat} {w r' : List UInt8} (h : Hw (l.drop k) w r') : swE l (gaK l k 0) (gaE l k 0) = 0 ∧ l.drop (swK l (gaK l k 0) (gaE l k 0)) = r' ∧ swW l (gaK l k 0) (gaE l k 0) = w := by
  obtain ⟨g, e, h1, h2, h3, h4⟩ := h
  obtain ⟨hh, hp, h8⟩ := hxB_is.1 h3
  have hw0 : w ≠ [] := fun c => by rw [c] at hp; exact absurd hp (by decide)
  obtain ⟨a1, a2, a3⟩ := ga_yes e h1 h2 (wd_head (fun b hb => hex_gp (hh b hb)) hw0)
  have ht : tw hd (l.drop (k + g.length)) = w.length := by rw [a3]; exact tw_app hh h4
  rw [a1, a2]
  unfold swE swK swW
  rw [rs_zero, ht]
  refine ⟨if_neg (by omega), ?_, by rw [a3]; simp⟩
  rw [← List.drop_drop, a3]; simp
theorem sw_cases (l : List UInt8) (k : Nat) : swE l (gaK l k 0) (gaE l k 0) = 2 ∨ ∃ w r', Hw (l.drop k) w r' := by
  rcases ga_part l k with ⟨a1, a2⟩ | ⟨g, m, e, g1, g2, g3, a1, a2, a3⟩
  · left; rw [a1, a2]; exact (sw_two l k).2
  · obtain ⟨w, r', e2, h1, h2, h3, h4, h5⟩ := tw_part hd m
    by_cases hb : w.length = 0 ∨ 8 < w.length
    · left
      rw [a1, a2]
      unfold swE
      rw [rs_zero, a3, h3, if_pos hb]; rfl
    · right
      exact ⟨w, r', g, by rw [e, e2], g1, g2, hxB_is.2 ⟨h1, by omega, by omega⟩, h2⟩
/-- Words, one behind the other, each behind a gap; gaps perhaps behind the last. -/
def Ch : List (List UInt8) → List UInt8 → Prop
  | [], r => Gs r
  | w :: ws, r => ∃ r', Hw r w r' ∧ Ch ws r'
theorem ch_en : ∀ {ws : List (List UInt8)} {r : List UInt8}, Ch ws r → En r
  | [], r, h => gs_en h
  | w :: ws, r, ⟨r', ⟨g, e, h1, h2, _⟩, _⟩ => by rw [e]; exact en_app h1 h2
theorem ch_doc : ∀ {ws : List (List UInt8)} {r : List UInt8}, Ch ws r → wdL r = ws ∧ ws.all hxB = true
  | [], r, h => ⟨wdL_gaps h, rfl⟩
  | w :: ws, r, ⟨r', ⟨g, e, h1, h2, h3, _⟩, hc⟩ => by
    obtain ⟨a, b⟩ := ch_doc hc
    obtain ⟨hh, hp, h8⟩ := hxB_is.1 h3
    have hw0 : w ≠ [] := fun c => by rw [c] at hp; exact absurd hp (by decide)
    refine ⟨?_, by rw [List.all_cons, h3, b]; rfl⟩
    rw [e, wdL_cons h1 (fun b hb => hex_gp (hh b hb)) hw0 (ch_en hc), a]
theorem ch_of : ∀ {ws : List (List UInt8)} {r : List UInt8}, wdL r = ws → ws.all hxB = true → (ws = [] ∨ gpL r = true) → Ch ws r
  | [], r, h, _, _ => wd_none h
  | w :: ws, r, h, ha, hg => by
    obtain ⟨g, r', e, h1, h2, h3, h4, h5⟩ := wd_more h
    rw [List.all_cons, Bool.and_eq_true] at ha
    have hg1 : gpL r = true := by
      rcases hg with hg | hg
      · cases hg
      · exact hg
    refine ⟨r', ⟨g, e, h1, ?_, ha.1, en_hex h4⟩, ch_of h5 ha.2 ?_⟩
    · rintro rfl
      rw [e, List.nil_append] at hg1
      cases w with
      | nil => exact h3 rfl
      | cons b w => have := h2 b (by simp); simp [gpL, this] at hg1
    · rcases h4 with rfl | h4
      · left; rw [← h5]; rfl
      · exact .inr h4
theorem it_yes {l : List UInt8} {k : Nat} : ∀ {ws : List (List UInt8)} {i : Nat}, (it11 l k i).2 = 0 → Ch ws (l.drop (it11 l k i).1) →
    (it11 l k (i + ws.length)).2 = 0 ∧ Gs (l.drop (it11 l k (i + ws.length)).1) ∧ ∀ j u, ws[j]? = some u → dgW l k (i + j) = u
  | [], i, h, hc => ⟨h, hc, fun j u hj => by simp at hj⟩
  | w :: ws, i, h, ⟨r', hw, hc⟩ => by
    obtain ⟨a, b, c⟩ := sw_yes hw
    have e1 : (it11 l k (i + 1)).2 = 0 := by rw [it11, h]; exact a
    have e2 : l.drop (it11 l k (i + 1)).1 = r' := by rw [it11, h]; exact b
    have e3 : dgW l k i = w := by unfold dgW; rw [h]; exact c
    obtain ⟨x, y, z⟩ := it_yes (ws := ws) (i := i + 1) e1 (by rw [e2]; exact hc)
    have en : i + (w :: ws).length = i + 1 + ws.length := by simp; omega
    rw [en]
    refine ⟨x, y, fun j u hj => ?_⟩
    cases j with
    | zero => simp at hj; rw [← hj]; exact e3
    | succ j =>
      have := z j u (by simpa using hj)
      rwa [show i + 1 + j = i + (j + 1) by omega] at this
theorem it_two {l : List UInt8} {k i : Nat} (h : (it11 l k i).2 = 2) : ∀ n, (it11 l k (i + n)).2 = 2
  | 0 => h
  | n + 1 => by
    have ih := it_two h n
    show (it11 l k (i + n + 1)).2 = 2
    rw [it11, ih]
    show swE l (gaK l (it11 l k (i + n)).1 2) (gaE l (it11 l k (i + n)).1 2) = 2
    rw [(ga_two l _).1, (ga_two l _).2]
    exact (sw_two l _).2
theorem it_cases {l : List UInt8} {k : Nat} : ∀ (n i : Nat), (it11 l k i).2 = 0 → (it11 l k (i + n)).2 = 2 ∨ ((it11 l k (i + n)).2 = 0 ∧ ∃ ws, ws.length = n ∧ (Gs (l.drop (it11 l k (i + n)).1) → Ch ws (l.drop (it11 l k i).1)))
  | 0, i, h => .inr ⟨h, [], rfl, fun g => g⟩
  | n + 1, i, h => by
    rcases sw_cases l (it11 l k i).1 with a | ⟨w, r', hw⟩
    · left
      have e1 : (it11 l k (i + 1)).2 = 2 := by rw [it11, h]; exact a
      have := it_two e1 n
      rwa [show i + 1 + n = i + (n + 1) by omega] at this
    · obtain ⟨a, b, c⟩ := sw_yes hw
      have e1 : (it11 l k (i + 1)).2 = 0 := by rw [it11, h]; exact a
      have e2 : l.drop (it11 l k (i + 1)).1 = r' := by rw [it11, h]; exact b
      have en : i + 1 + n = i + (n + 1) := by omega
      rcases it_cases n (i + 1) e1 with x | ⟨x, ws, y, z⟩
      · left; rw [← en]; exact x
      · right
        rw [← en]
        exact ⟨x, w :: ws, by simp [y], fun g => ⟨r', hw, by rw [← e2]; exact z g⟩⟩
/-- The program's reader of digests finds what the document's does. -/
theorem dg_is (l : List UInt8) (k : Nat) : (dgE l k = 0 ∧ gpL (l.drop k) = true ∧ (wdL (l.drop k)).length = 5 ∧ suE (wdL (l.drop k)) = 0 ∧ ∀ j, j < 5 → hxN (dgW l k j) = suN (wdL (l.drop k)) j) ∨
    (dgE l k = 2 ∧ (gpL (l.drop k) = false ∨ (wdL (l.drop k)).length ≠ 5 ∨ suE (wdL (l.drop k)) = 2)) := by
  have yes : ∀ ws : List (List UInt8), ws.length = 5 → Ch ws (l.drop k) → dgE l k = 0 ∧ gpL (l.drop k) = true ∧ (wdL (l.drop k)).length = 5 ∧ suE (wdL (l.drop k)) = 0 ∧ ∀ j, j < 5 → hxN (dgW l k j) = suN (wdL (l.drop k)) j := by
    intro ws h5 hc
    obtain ⟨a, b, c⟩ := it_yes (l := l) (k := k) (ws := ws) (i := 0) rfl hc
    rw [h5, Nat.zero_add] at a b
    obtain ⟨x, y⟩ := ch_doc hc
    refine ⟨?_, ?_, by rw [x]; exact h5, ?_, fun j hj => ?_⟩
    · unfold dgE
      rw [a, en_zero, if_pos (ru_gaps b)]
    · rcases ch_en hc with hn | hn
      · exfalso
        rw [hn] at x
        rw [← x] at h5
        exact absurd h5 (by decide)
      · exact hn
    · unfold suE; rw [x, if_pos y]
    · have hj5 : j < ws.length := by omega
      have := c j ws[j] (List.getElem?_eq_getElem hj5)
      rw [Nat.zero_add] at this
      unfold suN
      rw [x, this, List.getElem?_eq_getElem hj5]; rfl
  by_cases hd : gpL (l.drop k) = true ∧ (wdL (l.drop k)).length = 5 ∧ (wdL (l.drop k)).all hxB = true
  · exact .inl (yes _ hd.2.1 (ch_of rfl hd.2.2 (.inr hd.1)))
  · rcases it_cases (l := l) (k := k) 5 0 rfl with a | ⟨a, ws, h5, hc⟩
    · right
      rw [Nat.zero_add] at a
      refine ⟨by unfold dgE; rw [a]; exact en_two _ _, ?_⟩
      by_cases h1 : gpL (l.drop k) = true
      · by_cases h2 : (wdL (l.drop k)).length = 5
        · right; right
          unfold suE
          rw [if_neg (fun c => hd ⟨h1, h2, c⟩)]
        · exact .inr (.inl h2)
      · exact .inl (by simpa using h1)
    · rw [Nat.zero_add] at a hc
      by_cases hz : l.drop (ruK l (it11 l k 5).1 0) = []
      · exact .inl (yes ws h5 (hc (ru_end hz)))
      · right
        refine ⟨by unfold dgE; rw [a, en_zero, if_neg hz], ?_⟩
        by_cases h1 : gpL (l.drop k) = true
        · by_cases h2 : (wdL (l.drop k)).length = 5
          · right; right
            unfold suE
            rw [if_neg (fun c => hd ⟨h1, h2, c⟩)]
          · exact .inr (.inl h2)
        · exact .inl (by simpa using h1)

end Go.Proofs.YtiamggjebaabkaaGreatDoor

namespace Go.Proofs.YtiamggjebaabkaaGreatDoor
open Go.RowKit
set_option linter.unusedVariables false

/-- A word's value. -/
def u (x : BitVec 32) : Int := (x.toNat : Int)
theorem u_lo (x : BitVec 32) : 0 ≤ u x := by unfold u; omega
theorem u_hi (x : BitVec 32) : u x ≤ 4294967295 := by unfold u; have := x.isLt; omega
theorem wrap32 (n : Nat) : IntKind.u32.wrap (n : Int) = ((n % 4294967296 : Nat) : Int) := by
  simp [IntKind.wrap, IntKind.signed, IntKind.bits]
theorem of_u (x : BitVec 32) : BitVec.ofInt 32 (u x) = x := by
  unfold u; apply BitVec.eq_of_toNat_eq; simp
theorem u_and (x y : BitVec 32) : bits .and .u32 (u x) (u y) = u (x &&& y) := by
  unfold bits
  show IntKind.u32.wrap (((BitVec.ofInt 32 (u x) &&& BitVec.ofInt 32 (u y)).toNat : Nat) : Int) = _
  rw [of_u, of_u, wrap32, Nat.mod_eq_of_lt (x &&& y).isLt]; rfl
theorem u_or (x y : BitVec 32) : bits .or .u32 (u x) (u y) = u (x ||| y) := by
  unfold bits
  show IntKind.u32.wrap (((BitVec.ofInt 32 (u x) ||| BitVec.ofInt 32 (u y)).toNat : Nat) : Int) = _
  rw [of_u, of_u, wrap32, Nat.mod_eq_of_lt (x ||| y).isLt]; rfl
theorem u_xor (x y : BitVec 32) : bits .xor .u32 (u x) (u y) = u (x ^^^ y) := by
  unfold bits
  show IntKind.u32.wrap (((BitVec.ofInt 32 (u x) ^^^ BitVec.ofInt 32 (u y)).toNat : Nat) : Int) = _
  rw [of_u, of_u, wrap32, Nat.mod_eq_of_lt (x ^^^ y).isLt]; rfl
theorem u_not (x : BitVec 32) : bits .xor .u32 4294967295 (u x) = u (~~~x) := by
  have h : (4294967295 : Int) = u (BitVec.allOnes 32) := by decide
  rw [h, u_xor, BitVec.allOnes_xor]
theorem u_add (x y : BitVec 32) : IntKind.u32.wrap (u x + u y) = u (x + y) := by
  unfold u
  rw [show (x.toNat : Int) + (y.toNat : Int) = ((x.toNat + y.toNat : Nat) : Int) by omega, wrap32, BitVec.toNat_add]
theorem u_shl (x : BitVec 32) (k : Nat) : IntKind.u32.wrap (u x * 2 ^ k) = u (x <<< k) := by
  unfold u
  rw [show (x.toNat : Int) * 2 ^ k = ((x.toNat * 2 ^ k : Nat) : Int) by push_cast; rfl, wrap32, BitVec.toNat_shiftLeft, Nat.shiftLeft_eq]
theorem u_shr (x : BitVec 32) (k : Nat) : u x / 2 ^ k = u (x >>> k) := by
  unfold u
  rw [BitVec.toNat_ushiftRight, Nat.shiftRight_eq_div_pow, show (2 : Int) ^ k = ((2 ^ k : Nat) : Int) by push_cast; rfl]
  rfl

/-- A word turned left. -/
def rot (x : BitVec 32) (k : Nat) : BitVec 32 := x <<< k ||| x >>> (32 - k)
/-- The state. -/
structure St where
  a : BitVec 32
  b : BitVec 32
  c : BitVec 32
  d : BitVec 32
  e : BitVec 32
/-- A round's choice, its number, and the state behind it. -/
def ff (t : Nat) (b c d : BitVec 32) : BitVec 32 := if t ≤ 19 then (b &&& c) ||| (~~~b &&& d) else if t ≤ 39 then b ^^^ c ^^^ d else if t ≤ 59 then (b &&& c) ||| (b &&& d) ||| (c &&& d) else b ^^^ c ^^^ d
def kk (t : Nat) : BitVec 32 := if t ≤ 19 then 0x5a827999#32 else if t ≤ 39 then 0x6ed9eba1#32 else if t ≤ 59 then 0x8f1bbcdc#32 else 0xca62c1d6#32
def srd (t : Nat) (x : BitVec 32) (s : St) : St := ⟨rot s.a 5 + ff t s.b s.c s.d + s.e + kk t + x, s.a, rot s.b 30, s.c, s.d⟩

end Go.Proofs.YtiamggjebaabkaaGreatDoor

namespace Go.Proofs.YtiamggjebaabkaaGreatDoor
open Go.RowKit
set_option linter.unusedVariables false

/-- The k bytes of n, the highest first. -/
def be (k n : Nat) : List UInt8 := match k with
  | 0 => []
  | k + 1 => UInt8.ofNat (n / 256 ^ k % 256) :: be k n
theorem be_len (k n : Nat) : (be k n).length = k := by
  induction k with
  | zero => rfl
  | succ k ih => simp [be, ih]
/-- The number of bytes. -/
def ebv (l : List UInt8) : Nat := l.foldl (fun n b => n * 256 + b.toNat) 0
theorem ebv_snoc (l : List UInt8) (b : UInt8) : ebv (l ++ [b]) = ebv l * 256 + b.toNat := by simp [ebv]
theorem ebv_step {l : List UInt8} {i : Nat} (h : i < l.length) : ebv (l.take (i + 1)) = ebv (l.take i) * 256 + l[i].toNat := by
  rw [← ebv_snoc, List.take_succ_eq_append_getElem h]
theorem fold_cons (l : List UInt8) (x : Nat) : l.foldl (fun n b => n * 256 + b.toNat) x = x * 256 ^ l.length + ebv l := by
  induction l generalizing x with
  | nil => simp [ebv]
  | cons b l ih =>
    simp only [List.foldl_cons, List.length_cons, ebv, Nat.zero_mul, Nat.zero_add]
    rw [ih, ih b.toNat, Nat.pow_succ, Nat.add_mul, Nat.mul_assoc, Nat.mul_comm 256, Nat.add_assoc]
theorem ebv_cons (b : UInt8) (l : List UInt8) : ebv (b :: l) = b.toNat * 256 ^ l.length + ebv l := by
  show (b :: l).foldl _ 0 = _
  rw [List.foldl_cons, fold_cons]; simp
theorem ebv_lt (l : List UInt8) : ebv l < 256 ^ l.length := by
  induction l with
  | nil => simp [ebv]
  | cons b l ih =>
    rw [ebv_cons, List.length_cons, Nat.pow_succ]
    have hb := b.toNat_lt
    have : (b.toNat + 1) * 256 ^ l.length ≤ 256 * 256 ^ l.length := Nat.mul_le_mul_right _ (by omega)
    rw [Nat.add_mul] at this; omega
theorem ebv_be (k n : Nat) : ebv (be k n) = n % 256 ^ k := by
  induction k with
  | zero => simp [be, ebv, Nat.mod_one]
  | succ k ih =>
    rw [be, ebv_cons, ih, be_len]
    have h : (UInt8.ofNat (n / 256 ^ k % 256)).toNat = n / 256 ^ k % 256 := by simp
    rw [h, Nat.pow_succ, Nat.mod_mul, Nat.mul_comm, Nat.add_comm]
theorem ebv_be_fit {k n : Nat} (h : n < 256 ^ k) : ebv (be k n) = n := by rw [ebv_be, Nat.mod_eq_of_lt h]
theorem ebv_take_lt {l : List UInt8} {i k : Nat} (hi : i < k) (h : i ≤ l.length) : ebv (l.take i) * 256 + 255 < 256 ^ k := by
  have h1 := ebv_lt (l.take i)
  rw [List.length_take, Nat.min_eq_left h] at h1
  have h2 : 256 ^ (i + 1) ≤ 256 ^ k := Nat.pow_le_pow_right (by decide) (by omega)
  rw [Nat.pow_succ] at h2
  omega

/-- Bytes as cells. -/
def bc (l : List UInt8) : List Value := l.map fun b => Value.int .u8 (b.toNat : Int)
theorem bc_len (l : List UInt8) : (bc l).length = l.length := by simp [bc]
theorem bc_at {l : List UInt8} {j : Nat} (h : j < l.length) : (bc l)[j]? = some (.int .u8 (l[j].toNat : Int)) := by
  unfold bc; rw [List.getElem?_map, List.getElem?_eq_getElem h]; rfl
theorem bc_get {l : List UInt8} {j : Nat} {v : Value} (h : (bc l)[j]? = some v) : ∃ hj : j < l.length, v = .int .u8 (l[j].toNat : Int) := by
  have hj : j < l.length := by
    have := (List.getElem?_eq_some_iff.1 h).1
    rwa [bc_len] at this
  refine ⟨hj, ?_⟩
  rw [bc_at hj] at h
  exact (Option.some.inj h).symm
theorem bc_rep (n : Nat) : bc (List.replicate n 0) = List.replicate n (.int .u8 0) := by simp [bc]
theorem bc_one {l : List UInt8} : ∀ v ∈ bc l, v.oneCell' = true := by
  intro v hv
  obtain ⟨b, _, rfl⟩ := List.mem_map.1 hv
  rfl
theorem bc_splice (L : List UInt8) (off : Nat) (cs : List UInt8) : splice (bc L) off (bc cs) = bc (splice L off cs) := by
  simp [splice, bc, List.map_take, List.map_drop]

theorem splice_nil {α : Type} (L : List α) (off : Nat) : splice L off [] = L := by simp [splice]
theorem splice_cons {α : Type} {L : List α} {off : Nat} {cs : List α} (c : α) (h : off + 1 + cs.length ≤ L.length) : (splice L (off + 1) cs).set off c = splice L off (c :: cs) := by
  unfold splice
  rw [List.set_append_left _ _ (by rw [List.length_take]; omega), List.length_cons]
  have e1 : (L.take (off + 1)).set off c = L.take off ++ [c] := by
    rw [List.take_succ_eq_append_getElem (by omega), List.set_append_right _ _ (by rw [List.length_take]; omega), List.length_take, Nat.min_eq_left (by omega), Nat.sub_self]
    rfl
  rw [e1, show off + 1 + cs.length = off + (cs.length + 1) by omega]
  simp
theorem splice_len {α : Type} {L : List α} {off : Nat} {cs : List α} (h : off + cs.length ≤ L.length) : (splice L off cs).length = L.length := length_splice L off cs h
theorem splice_end {α : Type} {L M cs : List α} (h : M.length = cs.length) : splice (L ++ M) L.length cs = L ++ cs := by
  unfold splice; rw [List.drop_eq_nil_of_le (by simp; omega)]; simp
/-- Behind a part that is laid anew a further one. -/
theorem splice_two {α : Type} {L : List α} {off : Nat} {a b : List α} (h : off + a.length + b.length ≤ L.length) : splice (splice L off a) (off + a.length) b = splice L off (a ++ b) := by
  unfold splice
  have h1 : off ≤ L.length := by omega
  have e1 : (L.take off ++ (a ++ L.drop (off + a.length))).take (off + a.length) = L.take off ++ a := by
    rw [← List.append_assoc, List.take_append_of_le_length (by simp; omega)]
    exact List.take_of_length_le (by simp; omega)
  have e2 : (L.take off ++ (a ++ L.drop (off + a.length))).drop (off + a.length + b.length) = L.drop (off + (a ++ b).length) := by
    rw [← List.append_assoc, List.drop_append, List.drop_eq_nil_of_le (by simp; omega), List.nil_append, List.drop_drop]
    congr 1
    simp
    omega
  rw [e1, e2]; simp

/-- The block g holds just the bytes L. -/
def Bk (w : World) (g : Nat) (L : List UInt8) : Prop := w.heap[g]? = some (.cells (bc L).toArray 5 (0, 0))
theorem Bk.lt {w : World} {g : Nat} {L : List UInt8} (h : Bk w g L) : g < w.heap.size := (Array.getElem?_eq_some_iff.1 h).1
theorem Bk.cell {w : World} {g : Nat} {L : List UInt8} (h : Bk w g L) {i : Nat} (hi : i < L.length) : w.cell? ⟨g, i, none⟩ = some (.int .u8 (L[i].toNat : Int)) := by
  have e := bc_at hi
  unfold Bk at h
  simp [World.cell?, h]; simpa using e
theorem Bk.free {w : World} {g : Nat} {L : List UInt8} (h : Bk w g L) (i : Nat) : w.frozen? ⟨g, i, none⟩ = false := by
  unfold Bk at h; simp [World.frozen?, h]
theorem Bk.below {w w' : World} {g B : Nat} {L : List UInt8} (h : Bk w g L) (hb : Below B w w') (hB : g < B) : Bk w' g L := (hb.block g hB).trans h
theorem Bk.kept {w w' : World} {g : Nat} {L : List UInt8} {row : Option Nat} (h : Bk w g L) (hg : w.grownBy w' row) (hne : some g ≠ row) : Bk w' g L := (hg.block g h.lt hne).trans h
theorem Bk.alloc {w : World} {g : Nat} {L : List UInt8} (h : Bk w g L) (o : Obj) : Bk (w.alloc o) g L := h.kept (World.grownBy_alloc w o none) (by simp)
theorem Bk.set {w : World} {g : Nat} {L : List UInt8} (h : Bk w g L) (i : Nat) (b : UInt8) : Bk (w.setCell ⟨g, i, none⟩ (.int .u8 (b.toNat : Int))) g (L.set i b) := by
  unfold Bk at h ⊢
  have e : bc (L.set i b) = (bc L).set i (.int .u8 (b.toNat : Int)) := by simp [bc, List.map_set]
  rw [e]
  simp [World.setCell, Array.getElem?_modify, h]
/-- A part of the block reads as its bytes. -/
theorem Bk.reads {w : World} {g : Nat} {L : List UInt8} (h : Bk w g L) (off : Nat) {n : Nat} : Rb w (some ⟨g, off, none⟩) ((L.drop off).take n) := by
  refine ⟨fun z hz => ?_, .inr ⟨g, off, rfl, h.lt, fun j z hj => ?_⟩⟩
  · obtain ⟨b, _, rfl⟩ := List.mem_map.1 hz
    have := b.toNat_lt
    simp [Lit.wf, IntKind.min, IntKind.max, IntKind.signed, IntKind.bits]
    omega
  · unfold nums at hj
    rw [List.getElem?_map] at hj
    cases hq : ((L.drop off).take n)[j]? with
    | none => rw [hq] at hj; cases hj
    | some b =>
      rw [hq] at hj
      obtain ⟨h1, h2⟩ := List.getElem?_eq_some_iff.1 hq
      simp only [List.length_take, List.length_drop] at h1
      simp at h2
      have hc := h.cell (i := off + j) (by omega)
      rw [hc]
      simp at hj
      rw [← hj, h2]
theorem Bk.whole {w : World} {g : Nat} {L : List UInt8} (h : Bk w g L) : Rb w (some ⟨g, 0, none⟩) L := by
  have := h.reads 0 (n := L.length)
  simpa using this
end Go.Proofs.YtiamggjebaabkaaGreatDoor
