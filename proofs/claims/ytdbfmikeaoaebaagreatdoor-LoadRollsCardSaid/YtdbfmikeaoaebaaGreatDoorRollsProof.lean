/- The statement LoadRolls, proved as its card: for every input the call returns true, and each argument reads as it did; the listed variables of the library stand as the program's text lays them (the card ties that). -/
import Derived.Test.YtdbfmikeaoaebaaGreatDoorLao
import Derived.Test.YtdbfmikeaoaebaaGreatDoorLap
import Derived.Test.YtdbfmikeaoaebaaGreatDoorCards
import Derived.Test.YtdbfmikeaoaebaaGreatDoorTie
set_option linter.unusedSimpArgs false
set_option linter.unusedVariables false
set_option maxRecDepth 100000
set_option maxHeartbeats 4000000
namespace Go.Proofs.YtdbfmikeaoaebaaGreatDoor
open Go.ChangeShapes Go.WideShapes Go.ChangeAt Go.RowKit Go.Deep Go.Joins
theorem rolls_any (g : Pl.Gm) (sv : Value) (l : List (List (Int × Int))) (w : World) (hs : kH w sv l) (hv : Vars w) (hwk : ∀ w', Vars w' → Calls Tryz.prog 8 #[] w' fun e w2 => e = .returned (.bool true) ∧ Below w'.heap.size w' w2) : Calls Tryz.prog 5 #[g.v, sv] w (Zr w (.bool true)) := by
  by_cases hg : g.Ok
  case neg => exact jL g sv l w hs hv hwk (.inl hg)
  by_cases hl : l.length ≤ 20
  case neg => exact jL g sv l w hs hv hwk (.inr ⟨hg, .inl (by omega)⟩)
  by_cases hc : 1 ≤ g.cap
  · exact Jcv g sv l w hs hv hwk hg hl hc
  · exact jL g sv l w hs hv hwk (.inr ⟨hg, .inr ⟨hl, by omega⟩⟩)
set_option maxRecDepth 100000 in
theorem loadRolls_lifted (os : Os) (started : os.Started) (H : Type) (enc : TypeId × Value → H) :
    ReturnsInHanded {} Tryz.checked os 5 .any (fun w args => (Rows.loadRollsSpec.pre enc Tryz.prog Tryz.f5 [] false w args ∧ laidMetH Tryz.prog L4 w) ∧ sizedMet enc Tryz.prog Tryz.f5 (OpenSpec.ofChange Rows.loadRollsSpec) false w args)
      (Rows.loadRollsSpec.post enc Tryz.prog Tryz.f5 false true false false) := by
  refine returnsInHanded_of_change_and (C := Tryz.checked) (X := fun w _ => laidMetH Tryz.prog L4 w) (fun _ _ _ hh h => h.of_heap hh) own started (by kernel_rfl) Tryz.func5
    (ChangeSpec.witness_shaped (enc := enc) (C := Tryz.checked) (os := os) (X := fun w _ => laidMetH Tryz.prog L4 w) false (World.doorLaid Tryz.prog 400 os) #[.agg #[.int .i64 0, .int .i64 0, .int .i64 0, .int .i64 0], .slice none 0 0] 8 rfl (World.shaped_of_RefB (by kernel_rfl) (by kernel_rfl)) (by kernel_rfl) (by kernel_rfl) (by kernel_rfl) (Jcm os _)) ?_
  intro W base args ds gs before hval0 hW _ _ hL _
  have hval : ∀ (j : Nat) t v, Tryz.f5.params[j]? = some t → args[j]? = some v → Value.okWide Tryz.prog W .any base t v := hval0
  have hW' := hW
  obtain ⟨p, q, hA0, hV, rfl, hfz, hnd⟩ := hW
  have hA : DataW.TrodAll enc Tryz.prog W 0 (fun _ => true) true Tryz.f5.params.toList args.toList ds p := hA0
  rw [Tryz.params5] at hA hval
  have hB := hA
  have hlt : ∀ x ∈ p, x.block < W.heap.size := fun x hx => hW'.lt x (by simp [hx])
  obtain ⟨rfl, rfl⟩ := trodVars_none hV
  clear hA0 hval0
  simp only [List.append_nil] at hW'
  have shut : ∀ W', Below W.heap.size W W' → Rows.loadRollsSpec.post enc Tryz.prog Tryz.f5 false true false false W args (.bool true) W' := fun W' hb => by
    have hargs := Z5 hb (yR (by decide)) hB hlt
    obtain ⟨v0, v1, d0, d1, p0, p1, rfl, rfl, rfl, h0, h1⟩ := trodAll_two hA
    exact ⟨_, _, _, [], _, [], hW', trodAll_mk1 (shut_bool Tryz.underlying4 true), by rw [Tryz.params5]; exact hargs, rfl, hb.frame _, fun h => by cases h⟩
  obtain ⟨v0, v1, d0, d1, p0, p1, rfl, rfl, rfl, h0, h1⟩ := trodAll_two hA
  obtain ⟨g, rfl⟩ := Jg3 (hval 0 23 v0 rfl rfl) h0
  obtain ⟨l, hl⟩ := Jct (hval 1 65 v1 rfl rfl) h1
  have walk := rolls_any g v1 l W hl (yN hL) fun w' h => J7o w' h
  refine walk.mono fun e W' ⟨he, hb⟩ => ?_
  subst he
  exact ⟨_, rfl, shut W' hb⟩
theorem loadRolls_said : Rows.LoadRollsSaid :=
  OpenClaim.holds_of_wide 5 Tryz.f5 rfl rfl rfl rfl rfl rfl rfl ⟨rfl, rfl, rfl, rfl, rfl⟩ rfl rfl rfl rfl rfl (by kernel_rfl) Tryz.func5 (by kernel_rfl)
    (of_decide_eq_true (by kernel_rfl)) (by unfold Func.isWrapper; rw [if_neg (of_decide_eq_false (by kernel_rfl))]; exact ⟨rfl, rfl⟩)
    (fun os started H enc _ => loadRolls_lifted os started H enc)
theorem loadRolls_card : Rows.LoadRollsCardSaid :=
  Claim7.holds_tied_plain_at .later [] _ _ _ _ loadRolls_said (fun _ h => by cases h) (by kernel_rfl) (fun _ h => by cases h) loadRolls_row_tie rfl ⟨rfl, rfl⟩ (by kernel_rfl) rfl
    (fun f fn hf hfn => by
      obtain rfl : f = 5 := Option.some.inj ((show Tryz.prog.funcNamed "silt/siltlaw20.LoadRolls" = some 5 by kernel_rfl).symm.trans hf) |>.symm
      obtain rfl : fn = Tryz.f5 := (Option.some.inj (Tryz.func5.symm.trans hfn)).symm
      exact ⟨by kernel_rfl, fun j t ht => by
        rw [Tryz.params5] at ht
        have hm : t ∈ [23, 65] := by simpa using Array.mem_of_getElem? ht
        have hall : ([23, 65].all fun u => !Tryz.prog.wantsStandIn u) = true := by kernel_rfl
        exact (show Tryz.prog.wantsStandIn t = false by simpa using List.all_eq_true.1 hall t hm)⟩)
    (by kernel_rfl)
end Go.Proofs.YtdbfmikeaoaebaaGreatDoor
