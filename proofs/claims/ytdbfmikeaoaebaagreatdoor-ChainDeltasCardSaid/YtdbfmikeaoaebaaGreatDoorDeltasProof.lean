/- The statement ChainDeltas, proved as its card: for every input the call returns true, and each argument reads as it did; the listed variables of the library stand as the program's text lays them (the card ties that). -/
import Derived.Test.YtdbfmikeaoaebaaGreatDoorDan
import Derived.Test.YtdbfmikeaoaebaaGreatDoorCards
import Derived.Test.YtdbfmikeaoaebaaGreatDoorTie
set_option linter.unusedSimpArgs false
set_option linter.unusedVariables false
set_option maxRecDepth 100000
set_option maxHeartbeats 4000000
namespace Go.Proofs.YtdbfmikeaoaebaaGreatDoor
open Go.ChangeShapes Go.WideShapes Go.ChangeAt Go.RowKit Go.Deep Go.Joins
set_option maxRecDepth 100000 in
theorem chainDeltas_lifted (os : Os) (started : os.Started) (H : Type) (enc : TypeId × Value → H) :
    ReturnsInHanded {} Tryz.checked os 7 .any (fun w args => (Rows.chainDeltasSpec.pre enc Tryz.prog Tryz.f7 [] false w args ∧ laidMetH Tryz.prog L4 w) ∧ sizedMet enc Tryz.prog Tryz.f7 (OpenSpec.ofChange Rows.chainDeltasSpec) false w args)
      (Rows.chainDeltasSpec.post enc Tryz.prog Tryz.f7 false true false false) := by
  refine returnsInHanded_of_change_and (C := Tryz.checked) (X := fun w _ => laidMetH Tryz.prog L4 w) (fun _ _ _ hh h => h.of_heap hh) own started (by kernel_rfl) Tryz.func7
    (ChangeSpec.witness_shaped (enc := enc) (C := Tryz.checked) (os := os) (X := fun w _ => laidMetH Tryz.prog L4 w) false (World.doorLaid Tryz.prog 400 os) #[.int .u8 0, .agg (u8s (zeros 32)).toArray, .slice none 0 0] 8 rfl (World.shaped_of_RefB (by kernel_rfl) (by kernel_rfl)) (by kernel_rfl) (by kernel_rfl) (by kernel_rfl) (Jbm os _)) ?_
  intro W base args ds gs before hval0 hW _ _ hL _
  have hval : ∀ (j : Nat) t v, Tryz.f7.params[j]? = some t → args[j]? = some v → Value.okWide Tryz.prog W .any base t v := hval0
  have hW' := hW
  obtain ⟨p, q, hA0, hV, rfl, hfz, hnd⟩ := hW
  have hA : DataW.TrodAll enc Tryz.prog W 0 (fun _ => true) true Tryz.f7.params.toList args.toList ds p := hA0
  rw [Tryz.params7] at hA hval
  have hB := hA
  have hlt : ∀ x ∈ p, x.block < W.heap.size := fun x hx => hW'.lt x (by simp [hx])
  obtain ⟨rfl, rfl⟩ := trodVars_none hV
  clear hA0 hval0
  simp only [List.append_nil] at hW'
  have shut : ∀ W', Below W.heap.size W W' → Rows.chainDeltasSpec.post enc Tryz.prog Tryz.f7 false true false false W args (.bool true) W' := fun W' hb => by
    have hargs := Z4 hb (yr (by decide)) hB hlt
    obtain ⟨v0, v1, v2, d0, d1, d2, p0, p1, p2, rfl, rfl, rfl, h0, h1, h2⟩ := trodAll_three hA
    exact ⟨_, _, _, [], _, [], hW', trodAll_mk1 (shut_bool Tryz.underlying4 true), by rw [Tryz.params7]; exact hargs, rfl, hb.frame _, fun h => by cases h⟩
  obtain ⟨v0, v1, v2, d0, d1, d2, p0, p1, p2, rfl, rfl, rfl, h0, h1, h2⟩ := trodAll_three hA
  obtain ⟨z, rfl, hz⟩ := Jhh (hval 0 5 v0 rfl rfl) h0
  obtain ⟨pg, rfl, hpl, hpb⟩ := Jf0 (hval 1 43 v1 rfl rfl) h1
  obtain ⟨l, hl, hlb, hbig⟩ := Jbu (hval 2 103 v2 rfl rfl) h2
  have walk := J6z z pg v2 l hz hpl hpb W hl hlb hbig (yq hL) fun w' h => J6v w' h
  refine walk.mono fun e W' ⟨he, hb⟩ => ?_
  subst he
  exact ⟨_, rfl, shut W' hb⟩
theorem chainDeltas_said : Rows.ChainDeltasSaid :=
  OpenClaim.holds_of_wide 7 Tryz.f7 rfl rfl rfl rfl rfl rfl rfl ⟨rfl, rfl, rfl, rfl, rfl⟩ rfl rfl rfl rfl rfl (by kernel_rfl) Tryz.func7 (by kernel_rfl)
    (of_decide_eq_true (by kernel_rfl)) (by unfold Func.isWrapper; rw [if_neg (of_decide_eq_false (by kernel_rfl))]; exact ⟨rfl, rfl⟩)
    (fun os started H enc _ => chainDeltas_lifted os started H enc)
theorem chainDeltas_card : Rows.ChainDeltasCardSaid :=
  Claim7.holds_tied_plain_at .later [] _ _ _ _ chainDeltas_said (fun _ h => by cases h) (by kernel_rfl) (fun _ h => by cases h) chainDeltas_row_tie rfl ⟨rfl, rfl⟩ (by kernel_rfl) rfl
    (fun f fn hf hfn => by
      obtain rfl : f = 7 := Option.some.inj ((show Tryz.prog.funcNamed "silt/siltlaw20.ChainDeltas" = some 7 by kernel_rfl).symm.trans hf) |>.symm
      obtain rfl : fn = Tryz.f7 := (Option.some.inj (Tryz.func7.symm.trans hfn)).symm
      exact ⟨by kernel_rfl, fun j t ht => by
        rw [Tryz.params7] at ht
        have hm : t ∈ [5, 43, 103] := by simpa using Array.mem_of_getElem? ht
        have hall : ([5, 43, 103].all fun u => !Tryz.prog.wantsStandIn u) = true := by kernel_rfl
        exact (show Tryz.prog.wantsStandIn t = false by simpa using List.all_eq_true.1 hall t hm)⟩)
    (by kernel_rfl)
end Go.Proofs.YtdbfmikeaoaebaaGreatDoor
