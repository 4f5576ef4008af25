/- ListParses returns true for every input, and each argument reads afterwards as it read before. No condition, but that the package variables that its row lists (math/bits.deBruijn32tab, math/bits.deBruijn64tab, internal/strconv.uint64pow10, unicode/utf8.acceptRanges, horologe/sha1.start, horologe/day.ends, strconv.ErrRange, strconv.ErrSyntax, horologe/mjd.epochs, unicode/utf8.first) start as the program text lays them (tied to a pruned copy of the project, which holds the packages that this seat loads; that nothing else writes them is the report of the translator). -/
import Derived.Test.YtdonicaiimeleaaGreatDoorRows
import Derived.Test.YtdonicaiimeleaaGreatDoorCards
import Derived.Test.YtdonicaiimeleaaGreatDoorTie
import Derived.Test.YtdonicaiimeleaaGreatDoorGListParses52
import Derived.Test.YtdonicaiimeleaaGreatDoorGListParses23
import Derived.LaidMore
import Derived.Lay
import Derived.SevenTiedAt
import Derived.Stop.Joined
import Derived.Stop.LaidErr
import Derived.WalkKit
import Derived.ProofKit
import Derived.OpenShut
namespace Go.Proofs.YtdonicaiimeleaaGreatDoor.listParses
open Go.ChangeShapes Go.WideShapes Go.ChangeAt Go.RowKit
set_option linter.unusedVariables false

theorem own : ownKnob Tryz.prog.godebug = none := by kernel_rfl
theorem laid : laidOutB Tryz.prog = true := by kernel_rfl
theorem start_is : (Rows.laid_horologe_sha1_start : DataW Unit) = Lib.tabData .u32 startL := by kernel_rfl
theorem epochs_is : (Rows.laid_horologe_mjd_epochs : DataW Unit) = pairData epsL := by kernel_rfl
theorem ends_is : (Rows.laid_horologe_day_ends : DataW Unit) = Lib.tabData .i64 endsL := by kernel_rfl
theorem pow10_is : (Rows.laid_internal_strconv_uint64pow10 : DataW Unit) = Lib.tabData .u64 Lib.pow10Tab := by kernel_rfl

set_option maxRecDepth 100000 in
theorem lifted (os : _root_.Go.Os) (started : os.Started) (H : Type) (enc : TypeId × Value → H) :
    ReturnsInHanded {} Tryz.checked os 3 .any (fun w args => (Rows.listParsesSpec.pre enc Tryz.prog Tryz.f3 Rows.listParsesRow.domain false w args ∧ laidMetH Tryz.prog Rows.listParsesRow.laid w) ∧ sizedMet enc Tryz.prog Tryz.f3 (OpenSpec.ofChange Rows.listParsesSpec) false w args) (Rows.listParsesSpec.post enc Tryz.prog Tryz.f3 false true false false) := by
  refine returnsInHanded_of_change_and (C := Tryz.checked) (X := fun w _ => laidMetH Tryz.prog Rows.listParsesRow.laid w) (fun _ _ _ hh h => h.of_heap hh) own started (by kernel_rfl) Tryz.func3
    (ChangeSpec.witness_shaped (enc := enc) (C := Tryz.checked) (os := os) (X := fun w _ => laidMetH Tryz.prog Rows.listParsesRow.laid w) false (World.laidAll Tryz.prog os Rows.listParsesRow.laid) #[.string ⟨#[]⟩] 8 (World.laidAll_os _ _ _)
      (World.shaped_of_ZipB (by kernel_rfl) (by kernel_rfl)) (by kernel_rfl) (by kernel_rfl) (by kernel_rfl)
      (by rw [MakeChecks.laidMetH_plain _ _ _ (by kernel_rfl)]; exact laidMet_laidAll _ (by kernel_rfl) (by kernel_rfl))) ?_
  intro W base args ds gs before hval0 hW _ _ hL _
  have hval : ∀ (j : Nat) t v, Tryz.f3.params[j]? = some t → args[j]? = some v → Value.okWide Tryz.prog W .any base t v := hval0
  have hW' := hW
  obtain ⟨p, q, hA0, hV, rfl, hfz, hnd⟩ := hW
  have hA : DataW.TrodAll enc Tryz.prog W 0 (fun _ => true) true Tryz.f3.params.toList args.toList ds p := hA0
  rw [Tryz.params3] at hA hval
  obtain ⟨v0, vs0, d0, ds0, p0, q0, hargs, rfl, rfl, h0, r0'⟩ := trodAll_cons hA
  obtain ⟨rfl, rfl, rfl⟩ := trodAll_nil r0'
  obtain rfl : args = #[v0] := by cases args; simp_all
  obtain ⟨rfl, rfl⟩ := trodVars_none hV
  obtain ⟨s0, rfl, rfl, rfl, z0⟩ := Go.ChangeMaps.open_string Tryz.underlying9 (hval 0 9 v0 rfl rfl) h0
  clear hA0 hval0
  have tab : Tab W := by
    have h := hL
    rw [MakeChecks.laidMetH_plain _ _ _ (by kernel_rfl)] at h
    exact Lib.tabIs_of_head gtab (by kernel_rfl) tabT tabE (by kernel_rfl) (by kernel_rfl) (by
      have h2 := laidMet.tail (laidMet.tail (h))
      unfold Rows.listParsesRow at h2
      rw [pow10_is] at h2
      exact h2)
  have ends : Ends W := by
    have h := hL
    rw [MakeChecks.laidMetH_plain _ _ _ (by kernel_rfl)] at h
    exact Lib.tabIs_of_head gends (by kernel_rfl) endsT endsE (by kernel_rfl) (by kernel_rfl) (by
      have h2 := laidMet.tail (laidMet.tail (laidMet.tail (laidMet.tail (laidMet.tail (h)))))
      unfold Rows.listParsesRow at h2
      rw [ends_is] at h2
      exact h2)
  have eps : Eps W := by
    have h := hL
    rw [MakeChecks.laidMetH_plain _ _ _ (by kernel_rfl)] at h
    exact eps_of_head (by
      have h2 := laidMet.tail (laidMet.tail (laidMet.tail (laidMet.tail (laidMet.tail (laidMet.tail (laidMet.tail (laidMet.tail (h))))))))
      unfold Rows.listParsesRow at h2
      rw [epochs_is] at h2
      exact h2)
  have start : Start W := by
    have h := hL
    rw [MakeChecks.laidMetH_plain _ _ _ (by kernel_rfl)] at h
    exact Lib.tabIs_of_head gstart (by kernel_rfl) startT startE (by kernel_rfl) (by kernel_rfl) (by
      have h2 := laidMet.tail (laidMet.tail (laidMet.tail (laidMet.tail (h))))
      unfold Rows.listParsesRow at h2
      rw [start_is] at h2
      exact h2)
  have ge : GE W := by
    have h := hL
    rw [MakeChecks.laidMetH_plain _ _ _ (by kernel_rfl)] at h
    exact ge_of (by
      have h2 := laidMet.tail (laidMet.tail (laidMet.tail (laidMet.tail (laidMet.tail (laidMet.tail (laidMet.tail (h)))))))
      unfold Rows.listParsesRow at h2
      exact h2) (by
      have h2 := laidMet.tail (laidMet.tail (laidMet.tail (laidMet.tail (laidMet.tail (laidMet.tail (h))))))
      unfold Rows.listParsesRow at h2
      exact h2)
  simp only [List.append_nil] at hW'
  have lt := hW'.lt
  have walk : Calls Tryz.prog 3 #[.string s0] W fun e w' => e = .returned (.bool true) ∧ Below W.heap.size W w' := by
    exact parses11_walk s0 W ⟨ends, tab, eps, start, ge⟩
  refine walk.mono fun e W' ⟨he, hg⟩ => ?_
  subst he
  exact ⟨_, rfl, post_under (lv := []) hW' (fun _ _ _ => (trodAll_cons_mk (shut_bool Tryz.underlying4 _) trodAll_mk0)) (fun sp hsp => (trodAll_cons_mk (Go.ChangeMaps.shut_string Tryz.underlying9 z0) trodAll_mk0)) (fun _ _ => rfl) (by simp)
    hg (ok_one (by kernel_rfl) rfl (okWide_bool_mk Tryz.underlying4 _))⟩

theorem over : Rows.listParsesRow.holds Tryz.pinned (OpenSpec.ofChange Rows.listParsesSpec) :=
  OpenClaim.holds_of_wide 3 Tryz.f3 rfl rfl rfl rfl rfl rfl rfl ⟨rfl, rfl, rfl, rfl, rfl⟩ rfl rfl rfl rfl rfl (by kernel_rfl) Tryz.func3 (by kernel_rfl)
    (of_decide_eq_true (by kernel_rfl)) (by unfold Func.isWrapper; first | (rw [if_pos (by decide +kernel)]; kernel_rfl) | (rw [if_neg (by decide +kernel)]; exact ⟨rfl, rfl⟩))
    (fun os started H enc _ => lifted os started H enc)

theorem proved : Rows.ListParsesCardSaid :=
  Claim7.holds_tied_plain_at .later [] [.data, .data, .data, .data, .data, .data, .sentinel, .sentinel, .data, .pinned] true (true, "1334b96004819cc641c9ce78494eed2517ac7590d6c4faff8830ebe10afdb7ca") true over (fun _ h => by cases h) (by kernel_rfl) (fun _ h => by cases h) listParses_row_tie rfl ⟨rfl, rfl⟩ (by kernel_rfl) rfl
    (fun f fn hf hfn => by
      obtain rfl : f = 3 := Option.some.inj ((show Tryz.prog.funcNamed "horologe/horologelaw11.ListParses" = some 3 by kernel_rfl).symm.trans hf) |>.symm
      obtain rfl : fn = Tryz.f3 := (Option.some.inj (Tryz.func3.symm.trans hfn)).symm
      exact ⟨by kernel_rfl, fun j t ht => by
        rw [Tryz.params3] at ht
        have hm : t ∈ [9] := by simpa using Array.mem_of_getElem? ht
        have hall : ([9].all fun u => !Tryz.prog.wantsStandIn u) = true := by kernel_rfl
        exact (show Tryz.prog.wantsStandIn t = false by simpa using List.all_eq_true.1 hall t hm)⟩)
    (by kernel_rfl)
#print axioms proved
end Go.Proofs.YtdonicaiimeleaaGreatDoor.listParses
