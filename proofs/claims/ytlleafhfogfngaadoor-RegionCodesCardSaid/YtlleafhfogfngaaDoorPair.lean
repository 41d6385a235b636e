/- Two sectors built out of two. -/
import Derived.Test.YtlleafhfogfngaaDoorWakes
import Derived.Great.FillDense
namespace Go.Proofs.YtlleafhfogfngaaDoor
set_option linter.unusedSimpArgs false
set_option linter.unusedVariables false
open Go.RowKit

theorem built30_is (v0 v1 : Value) : Tryd.prog.built 30 [(0, v0), (1, v1)] = Instr.fill (fun i => some (i * 64, 64)) (u8s (zeros 128)).toArray [(0, v0), (1, v1)] := by kernel_rfl
theorem build_two {x y a b : List Int} (hx : x = a) (hy : y = b) (ha : a.length = 64) (hb : b.length = 64) (w : World) : (Instr.build 30 #[(0, .agg (u8s x).toArray), (1, .agg (u8s y).toArray)]).run Tryd.prog w = .ok (.agg (u8s (a ++ b)).toArray) w := by
  subst hx
  subst hy
  refine run_build w 30 _ _ ?_
  rw [show (#[(0, Value.agg (u8s x).toArray), (1, Value.agg (u8s y).toArray)] : Array (Nat × Value)).toList = [(0, .agg (u8s x).toArray), (1, .agg (u8s y).toArray)] from rfl, built30_is]
  obtain ⟨r, h1, h2, h3⟩ := Go.Great.fill_dense (s := 64) (by decide) [.agg (u8s x).toArray, .agg (u8s y).toArray] 0 (u8s (zeros 128)).toArray (by
    intro v hv
    simp only [List.mem_cons, List.not_mem_nil, or_false] at hv
    rcases hv with rfl | rfl
    · simp [Value.cells, ha]
    · simp [Value.cells, hb]) (by simp [zeros])
  refine Eq.trans h1 (congrArg some ?_)
  apply Array.ext_getElem?
  intro k
  rw [h3 k]
  by_cases hk : k < 128
  · rw [if_pos ⟨by omega, by simpa using hk⟩]
    by_cases h64 : k < 64
    · rw [show k / 64 - 0 = 0 by omega, show k % 64 = k by omega]
      simp [Value.cells, List.getElem?_append_left, ha, h64]
    · rw [show k / 64 - 0 = 1 by omega, show k % 64 = k - 64 by omega]
      simp [Value.cells, ha, List.getElem?_append_right, show 64 ≤ k by omega]
  · rw [if_neg (by simp; omega), Array.getElem?_eq_none (by simp [zeros]; omega), Array.getElem?_eq_none (by simp [ha, hb]; omega)]
theorem part_s0 (r : Rg) : (r.enc.drop 0).take 64 = r.s0 := by
  rw [List.drop_zero, Rg.enc, List.take_append_of_le_length (by rw [s0_length]; exact Nat.le_refl _), List.take_of_length_le (by rw [s0_length]; exact Nat.le_refl _)]
theorem part_s1 {r : Rg} (h : r.rs.length = 8) : (r.enc.drop 64).take 64 = r.s1 := by
  rw [Rg.enc, List.drop_append, List.drop_of_length_le (by rw [s0_length]; exact Nat.le_refl _), s0_length, List.nil_append, Nat.sub_self, List.drop_zero, List.take_of_length_le (by rw [s1_length h]; exact Nat.le_refl _)]
theorem enc_at0 {w : World} {g : Nat} {r : Rg} (h : Blk w g (u8s r.enc)) (hl : r.rs.length = 8) : At w g 0 (u8s r.s0).toArray := by
  have := h.part 0 64 (by rw [enc_length hl]; decide)
  rwa [part_s0] at this
theorem enc_at1 {w : World} {g : Nat} {r : Rg} (h : Blk w g (u8s r.enc)) (hl : r.rs.length = 8) : At w g 64 (u8s r.s1).toArray := by
  have := h.part 64 64 (by rw [enc_length hl]; decide)
  rwa [part_s1 hl] at this
theorem build_pair {a b y : List Int} (hy : a ++ b = y) (ha : a.length = 64) (hb : b.length = 64) (w : World) : (Instr.build 30 #[(0, .agg (u8s a).toArray), (1, .agg (u8s b).toArray)]).run Tryd.prog w = .ok (.agg (u8s y).toArray) w := hy ▸ build_two rfl rfl ha hb w
theorem s0_byte {r : Rg} (h : r.good = true) : ∀ y ∈ r.s0, Byte y := fun y hy => enc_byte h y (by simp [Rg.enc, hy])
theorem s1_byte {r : Rg} (h : r.good = true) : ∀ y ∈ r.s1, Byte y := fun y hy => enc_byte h y (by simp [Rg.enc, hy])
theorem torn_sc {r q : Rg} (hr : r.good = true) (hq : q.good = true) (hl : q.rs.length = 8) : Sc2 (r.s0 ++ q.s1) := ⟨by simp [s0_length, s1_length hl], fun y hy => by
  rcases List.mem_append.1 hy with h | h
  · exact s0_byte hr y h
  · exact s1_byte hq y h⟩
theorem round_sc {r : Rg} (hr : r.good = true) (hl : r.rs.length = 8) : Sc2 (r.s1 ++ r.s0) := ⟨by simp [s0_length, s1_length hl], fun y hy => by
  rcases List.mem_append.1 hy with h | h
  · exact s1_byte hr y h
  · exact s0_byte hr y h⟩
end Go.Proofs.YtlleafhfogfngaaDoor
