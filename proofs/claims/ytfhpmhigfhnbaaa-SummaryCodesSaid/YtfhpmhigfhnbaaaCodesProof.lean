/- The statement SummaryCodes, proved: for every input the call returns true, and each argument reads as it did. -/
import Derived.Test.YtfhpmhigfhnbaaaFrame
import Derived.Test.YtfhpmhigfhnbaaaCodes
namespace Go.Proofs.Ytfhpmhigfhnbaaa
open Go.ChangeShapes Go.WideShapes Go.ChangeAt Go.RowKit Go.Deep Go.Joins

set_option maxRecDepth 100000 in
theorem summaryCodes_lifted (os : Os) (started : os.Started) (H : Type) (enc : TypeId × Value → H) :
    ReturnsInHanded {} Try.checked os 3 .any (Rows.summaryCodesSpec.pre6 enc Try.prog Try.f3 Rows.summaryCodesRow.domain false) (Rows.summaryCodesSpec.post enc Try.prog Try.f3 false true false false) := by
  refine returnsInHanded_of_change (C := Try.checked) own started (by kernel_rfl) Try.func3
    (ChangeSpec.witness6 (enc := enc) (C := Try.checked) false ⟨#[], #[.agg #[.int .u32 0, .bool false, .slice none 0 0], .agg (u8s (zeros 64)).toArray], []⟩ 8 (by kernel_rfl) (by kernel_rfl) (by kernel_rfl) (by kernel_rfl)) ?_
  intro W base args ds gs before hval0 hW _ _
  have hval : ∀ (j : Nat) t v, Try.f3.params[j]? = some t → args[j]? = some v → Value.okWide Try.prog W .any base t v := hval0
  have hW' := hW
  obtain ⟨p, q, hA0, hV, rfl, hfz, hnd⟩ := hW
  have hA : DataW.TrodAll enc Try.prog W 0 (fun _ => true) true Try.f3.params.toList args.toList ds p := hA0
  rw [Try.params3] at hA hval
  have hB := hA
  have hlt : ∀ x ∈ p, x.block < W.heap.size := fun x hx => hW'.lt x (by simp [hx])
  obtain ⟨rfl, rfl⟩ := trodVars_none hV
  clear hA0 hval0
  simp only [List.append_nil] at hW'
  have shut : ∀ W', Below W.heap.size W W' → Rows.summaryCodesSpec.post enc Try.prog Try.f3 false true false false W args (.bool true) W' := fun W' hb => by
    have hargs := below_trodAll hb (readable_of (by decide)) hB hlt
    obtain ⟨v0, v1, d0, d1, p0, p1, rfl, rfl, rfl, h0, h1⟩ := trodAll_two hA
    exact ⟨_, _, _, [], _, [], hW', trodAll_mk1 (shut_bool Try.underlying4 true), by rw [Try.params3]; exact hargs, rfl, hb.frame _, fun h => by cases h⟩
  obtain ⟨v0, v1, d0, d1, p0, p1, rfl, rfl, rfl, h0, h1⟩ := trodAll_two hA
  obtain ⟨s, sv, rfl, hs, hms⟩ := summary_of (hval 0 25 v0 rfl rfl) h0
  obtain ⟨x, rfl, hx⟩ := sector_of (hval 1 27 v1 rfl rfl) h1
  have walk := codes_any s sv x hs hx W hms
  refine walk.mono fun e W' ⟨he, hb⟩ => ?_
  subst he
  exact ⟨_, rfl, shut W' hb⟩

theorem summaryCodes_said : Rows.SummaryCodesSaid :=
  OpenClaim.holds_of_wide 3 Try.f3 rfl rfl rfl rfl rfl rfl rfl ⟨rfl, rfl, rfl, rfl, rfl⟩ rfl rfl rfl rfl rfl (by kernel_rfl) Try.func3 (by kernel_rfl)
    (of_decide_eq_true (by kernel_rfl)) (by unfold Func.isWrapper; rw [if_neg (of_decide_eq_false (by kernel_rfl))]; exact ⟨rfl, rfl⟩)
    (fun os started H enc _ => summaryCodes_lifted os started H enc)
end Go.Proofs.Ytfhpmhigfhnbaaa
