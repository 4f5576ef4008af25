/- What a row asks behind a call of which only 'Below' is known: memory that was there is as it was. -/
import Derived.Below
import Derived.ChangeSame
namespace Go.Proofs.YtkhcneacjnpcnaaDoor
open Go.RowKit Go.WideShapes Go.ChangeShapes
section
variable {H : Type} {enc : TypeId × Value → H} {P : Program}

/-- Places met before the call, told again behind it. -/
theorem told_again {W W' : World} {l la lv : List MemPlace} (e : l = la ++ lv) (h : Below W.heap.size W W') (hl : ∀ p ∈ l, p.block < W.heap.size)
    (hz : ∀ b o, MemPlace.cell b o ∈ l → W.frozen? ⟨b, o, none⟩ = false) : ∀ b o, MemPlace.cell b o ∈ ([] ++ la) ++ lv → W'.frozen? ⟨b, o, none⟩ = false := fun b o hp => by
  have hin : MemPlace.cell b o ∈ l := by rw [e]; simpa using hp
  rw [h.frozen (p := ⟨b, o, none⟩) (hl _ hin)]
  exact hz b o hin

theorem post_under {f : Func} {s : ChangeSpec} {x1 x2 x3 x4 : Bool} {W W' : World} {as : Array Value} {r : Value} {ds gs : List (DataW H)} {l la lv : List MemPlace}
    (hW : DataW.Whole enc P f.params.toList s.vars x1 W as.toList ds gs l)
    (hr : ∀ (b : Nat) (sp : Nat → Bool) (hd : Bool), DataW.TrodAll enc P W' b sp hd f.resultTypes.toList (r.resultList f.resultTypes.size) (s.fn H (ds ++ gs)).results [])
    (ha : ∀ sp : Nat → Bool, (∀ p ∈ l, sp p.block = true) → DataW.TrodAll enc P W' 0 sp true f.params.toList as.toList (s.fn H (ds ++ gs)).args la)
    (hv : ∀ sp : Nat → Bool, (∀ p ∈ l, sp p.block = true) → DataW.TrodVars enc P W' sp s.vars (s.fn H (ds ++ gs)).vars lv)
    (e : l = la ++ lv) (h : Below W.heap.size W W')
    (ok : ∀ (j : Nat) (t : TypeId) (q : Value), f.resultTypes[j]? = some t → (r.resultList f.resultTypes.size)[j]? = some q → Value.okWide P W' .any 0 t q) :
    s.post enc P f x1 x2 x3 x4 W as r W' := by
  have lt : ∀ p ∈ l, p.block < W.heap.size := fun p hp => hW.lt p hp
  have old : ∀ p ∈ l, (fun b => decide (b < W.heap.size)) p.block = true := fun p hp => by simpa using lt p hp
  have mid : ∀ p, p ∈ l → p ∈ la ∨ p ∈ lv := fun p hp => by rw [e, List.mem_append] at hp; exact hp
  refine ⟨ds, gs, l, [], la, lv, hW, hr _ _ _, ha _ old, hv _ old, World.keptBut_mono (fun p hp => ⟨hp, ?_⟩) (h.frame (· ∈ l)), fun _ => ?_⟩
  · exact Or.inr (mid p hp)
  · obtain ⟨_, _, _, _, _, hz, hn⟩ := hW
    refine ⟨ok, _, _, ([] ++ la) ++ lv, ⟨[] ++ la, lv, trodAll_append (ha _ (fun _ _ => rfl)) (hr _ _ _), hv _ (fun _ _ => rfl), rfl, told_again e h lt hz, fun hx => ?_⟩, fun p hp _ => ?_⟩
    · have k := hn hx
      rw [e] at k
      simpa using k
    · rw [e]
      simpa using hp
end
end Go.Proofs.YtkhcneacjnpcnaaDoor
