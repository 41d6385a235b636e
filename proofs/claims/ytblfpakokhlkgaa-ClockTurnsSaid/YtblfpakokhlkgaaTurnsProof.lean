/- The statement ClockTurns, proved: for every input the call returns true, and each argument reads as it did. No condition. -/
import Derived.Test.YtblfpakokhlkgaaFrame
import Derived.Test.YtblfpakokhlkgaaTurns
namespace Go.Proofs.Ytblfpakokhlkgaa
open Go.ChangeShapes Go.WideShapes Go.ChangeAt Go.RowKit Go.Deep Go.Joins

set_option maxRecDepth 100000 in
theorem clockTurns_lifted (os : Os) (started : os.Started) (H : Type) (enc : TypeId × Value → H) :
    ReturnsInHanded {} Try.checked os 6 .any (Rows.clockTurnsSpec.pre6 enc Try.prog Try.f6 Rows.clockTurnsRow.domain false) (Rows.clockTurnsSpec.post enc Try.prog Try.f6 false true false false) := by
  refine returnsInHanded_of_change (C := Try.checked) own started (by kernel_rfl) Try.func6
    (ChangeSpec.witness6 (enc := enc) (C := Try.checked) false ⟨#[], #[.int .u8 0, .slice none 0 0, .int .u8 0], []⟩ 8 (by kernel_rfl) (by kernel_rfl) (by kernel_rfl) (by kernel_rfl)) ?_
  intro W base args ds gs before hval0 hW _ _
  have hval : ∀ (j : Nat) t v, Try.f6.params[j]? = some t → args[j]? = some v → Value.okWide Try.prog W .any base t v := hval0
  have hW' := hW
  obtain ⟨p, q, hA0, hV, rfl, hfz, hnd⟩ := hW
  have hA : DataW.TrodAll enc Try.prog W 0 (fun _ => true) true Try.f6.params.toList args.toList ds p := hA0
  rw [Try.params6] at hA hval
  have hB := hA
  have hlt : ∀ x ∈ p, x.block < W.heap.size := fun x hx => hW'.lt x (by simp [hx])
  obtain ⟨rfl, rfl⟩ := trodVars_none hV
  clear hA0 hval0
  simp only [List.append_nil] at hW'
  have shut : ∀ W', Below W.heap.size W W' → Rows.clockTurnsSpec.post enc Try.prog Try.f6 false true false false W args (.bool true) W' := fun W' hb => by
    have hargs := below_trodAll hb (readable_of (by decide)) hB hlt
    obtain ⟨v0, v1, v2, d0, d1, d2, p0, p1, p2, rfl, rfl, rfl, h0, h1, h2⟩ := trodAll_three hA
    exact ⟨_, _, _, [], _, [], hW', trodAll_mk1 (shut_bool Try.underlying4 true), by rw [Try.params6]; exact hargs, rfl, hb.frame _, fun h => by cases h⟩
  obtain ⟨v0, v1, v2, d0, d1, d2, p0, p1, p2, rfl, rfl, rfl, h0, h1, h2⟩ := trodAll_three hA
  obtain ⟨n, rfl, hn⟩ := u8_arg (hval 0 5 v0 rfl rfl) h0
  obtain ⟨l, hl⟩ := bools_arg (hval 1 50 v1 rfl rfl) h1
  obtain ⟨t, rfl, ht⟩ := u8_arg (hval 2 5 v2 rfl rfl) h2
  have walk := turns_any W n hn l v1 hl t ht
  refine walk.mono fun e W' ⟨he, hb⟩ => ?_
  subst he
  exact ⟨_, rfl, shut W' hb⟩

theorem clockTurns_said : Rows.ClockTurnsSaid :=
  OpenClaim.holds_of_wide 6 Try.f6 rfl rfl rfl rfl rfl rfl rfl ⟨rfl, rfl, rfl, rfl, rfl⟩ rfl rfl rfl rfl rfl (by kernel_rfl) Try.func6 (by kernel_rfl)
    (of_decide_eq_true (by kernel_rfl)) (by unfold Func.isWrapper; rw [if_neg (of_decide_eq_false (by kernel_rfl))]; exact ⟨rfl, rfl⟩)
    (fun os started H enc _ => clockTurns_lifted os started H enc)
end Go.Proofs.Ytblfpakokhlkgaa
