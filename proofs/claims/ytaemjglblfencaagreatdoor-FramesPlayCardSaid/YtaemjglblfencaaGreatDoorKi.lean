/- Steps of a walk one by one; slices of ints; a slice of ints of one's own, appended to and stored into. -/
import Derived.Test.YtaemjglblfencaaGreatDoorApp
import Derived.Lib.EndianBits
import Derived.OrdersHeld
import Derived.Deep.Upon
import Derived.Lib.AppendZeros
namespace Go.Proofs.YtaemjglblfencaaGreatDoor
namespace Kl
set_option linter.unusedSimpArgs false
set_option linter.unusedVariables false
open Go.RowKit

section
variable {P : Program}
end
def Small (n : Int) : Prop := -9223372036854775808 ≤ n ∧ n ≤ 9223372036854775807
theorem info3 : (Tryz.prog.info? 3).map (fun i => (i.zero, i.size, i.bytes)) = some (some (.int .i64 0), 1, 8) := by kernel_rfl
/-- A slice whose values are l. -/
def IntsAt (w : World) (sv : Value) (l : List Int) : Prop := ∃ a cap, sv = .slice a l.length cap ∧ ∀ i x, l[i]? = some x → ∃ b o, a = some ⟨b, o, none⟩ ∧ w.cell? ⟨b, o + i, none⟩ = some (.int .i64 x)
theorem IntsAt.len {w : World} {sv : Value} {l : List Int} (h : IntsAt w sv l) : Len sv l.length := let ⟨a, cap, h, _⟩ := h; ⟨a, cap, h⟩
theorem IntsAt.below {w w' : World} {sv : Value} {l : List Int} (h : IntsAt w sv l) (hb : Below w.heap.size w w') : IntsAt w' sv l := by
  obtain ⟨a, cap, e, hc⟩ := h
  refine ⟨a, cap, e, fun i x hx => ?_⟩
  obtain ⟨b, o, e2, hx2⟩ := hc i x hx
  exact ⟨b, o, e2, (hb.cell (block_lt_of_cell hx2)).trans hx2⟩
theorem IntsAt.nil (w : World) (cap : Nat) (a : Option Addr) : IntsAt w (.slice a 0 cap) [] := ⟨a, cap, rfl, fun i x h => by simp at h⟩
theorem IntsAt.has {w : World} {sv : Value} {l : List Int} (h : IntsAt w sv l) (hl : 0 < l.length) : ∃ b o cap, sv = .slice (some ⟨b, o, none⟩) l.length cap ∧ ∀ i x, l[i]? = some x → w.cell? ⟨b, o + i, none⟩ = some (.int .i64 x) := by
  obtain ⟨a, cap, e, hc⟩ := h
  obtain ⟨b, o, e2, _⟩ := hc 0 l[0] (by simp [hl])
  subst e2
  refine ⟨b, o, cap, e, fun i x hx => ?_⟩
  obtain ⟨b', o', e3, hx2⟩ := hc i x hx
  cases e3
  exact hx2

section
variable {P : Program}
end
theorem IntsAt.only {w w' : World} {sv : Value} {l : List Int} {t : Nat} (h : IntsAt w sv l) (ho : Only (fun k => k = t) w w') (ht : ∀ b o n c, sv = .slice (some ⟨b, o, none⟩) n c → b ≠ t) : IntsAt w' sv l := by
  obtain ⟨a, cap, e, hc⟩ := h
  refine ⟨a, cap, e, fun i x hx => ?_⟩
  obtain ⟨b, o, e2, hx2⟩ := hc i x hx
  refine ⟨b, o, e2, ?_⟩
  have hne : b ≠ t := ht b o _ _ (by rw [e, e2])
  have hb := ho.block b (block_lt_of_cell hx2) hne
  rw [← hx2]
  simp only [World.cell?, hb]
theorem IntsAt.lt {w : World} {sv : Value} {l : List Int} (h : IntsAt w sv l) (hl : 0 < l.length) {b o n c : Nat} (e : sv = .slice (some ⟨b, o, none⟩) n c) : b < w.heap.size := by
  obtain ⟨b', o', c', e', hc⟩ := h.has hl
  rw [e] at e'
  cases e'
  exact block_lt_of_cell (hc 0 l[0] (by simp [hl]))

/-- A slice of one's own: its row was made from B on. -/
def Own (w : World) (B : Nat) (sv : Value) (l : List Int) : Prop := w.ownsRow B 3 1 sv l.length (i64s l)
theorem Own.nil (w : World) (B : Nat) : Own w B (.slice none 0 0) [] := World.ownsRow_nil w B 3 1
theorem Own.ints {w : World} {B : Nat} {sv : Value} {l : List Int} (h : Own w B sv l) : IntsAt w sv l := by
  rcases h.2 with ⟨rfl, h0⟩ | ⟨g, cap, cur, rfl, hb, hg, hn, hm, hs, ht⟩
  · have : l = [] := List.eq_nil_of_length_eq_zero h0
    subst this
    exact IntsAt.nil _ _ _
  · refine ⟨_, cap, rfl, fun i x hx => ⟨g, 0, rfl, ?_⟩⟩
    rw [Nat.zero_add, World.ownsRow.cellAt h i (by have := (List.getElem?_eq_some_iff.1 hx).1; omega), List.getElem?_map, hx]
    rfl
theorem inf3 : ∃ i, Tryz.prog.info? 3 = some i ∧ i.zero = some (.int .i64 0) ∧ i.size = 1 ∧ i.bytes = 8 := by
  have := info3
  cases hq : Tryz.prog.info? 3 with
  | none => simp [hq] at this
  | some i => simp [hq] at this; exact ⟨i, rfl, this⟩
/-- Ints appended. -/
theorem app_own {w : World} {B : Nat} {sv tv : Value} {l m : List Int} (h : Own w B sv l) (hB : B ≤ w.heap.size) (k : IntsAt w tv m) (hlen : l.length + m.length ≤ 1000000) (ty : TypeId) :
    ∃ sv' w', (Builtin.append_ #[52, 52] ty #[sv, tv]).run Tryz.prog w = .ok sv' w' ∧ Own w' B sv' (l ++ m) ∧ w.grownBy w' sv.ownBlock := by
  obtain ⟨i, hi, hz, hs, hby⟩ := inf3
  cases m with
  | nil =>
    have hsl : ∃ a c, sv = .slice a l.length c ∧ l.length ≤ c := by
      rcases h.2 with ⟨e, h0⟩ | ⟨g, cap, cur, e, _, _, hn, _⟩
      · exact ⟨none, 0, by rw [e, h0], by omega⟩
      · exact ⟨_, cap, e, hn⟩
    obtain ⟨a, c, rfl, hle⟩ := hsl
    obtain ⟨ta, tc, rfl, _⟩ := k
    refine ⟨_, w, run_append_nothing w 52 52 ty 3 i Tryz.underlying52 hi a l.length c hle _ ⟨.inl ⟨3, Tryz.underlying52⟩, fun _ => by rfl, ?_, ?_, by simp, fun u hu => by cases hu⟩, by rw [List.append_nil]; exact h, ⟨rfl, rfl, rfl, Nat.le_refl _, fun _ _ _ => rfl⟩⟩
    · cases ta <;> simp [Builtin.firstCells, hs, loadCells, loadCellsFrom]
    · cases ta <;> simp [Builtin.firstCells, hs, loadCells, loadCellsFrom]
  | cons x m =>
    obtain ⟨b, o, c, rfl, hc⟩ := k.has (by simp)
    obtain ⟨v', w', hr, h2, h3, _⟩ := run_append_own (P := Tryz.prog) w B 52 ty 3 i (.int .i64 0) 1 8 Tryz.underlying52 hi hz hs hby rfl (by decide) sv l.length (i64s l) h ⟨b, o, none⟩ (x :: m).length c (i64s (x :: m)) (by simp) (fun j u hu => by
      rw [List.getElem?_map] at hu
      cases hz : (x :: m)[j]? with
      | none => simp [hz] at hu
      | some z =>
        simp [hz] at hu
        subst hu
        rw [show (⟨b, o, none⟩ : Addr).add j = ⟨b, o + j, none⟩ by unfold Addr.add; split <;> simp_all]
        exact hc j z hz) (fun u hu => by obtain ⟨z, _, rfl⟩ := List.mem_map.1 hu; rfl) (by simp only [maxLen]; omega) (by omega) hB
    refine ⟨v', w', hr, ?_, h3⟩
    unfold Own
    rw [List.length_append, show i64s (l ++ x :: m) = i64s l ++ i64s (x :: m) by simp]
    exact h2
section
variable {P : Program}
end
section
variable {ops : Array Oper} {rest : List Oper} {dst : Option Tmp} {x y : Operand} {t2 : TypeId} {pos : String} {after : Array Edge} {guard : Option (Nat × Bool)} {a : Act} {w : World} {Q : Exit → Act → World → Prop}
theorem app_L {B : Nat} {sv tv : Value} {l m : List Int} (h : Own w B sv l) (hB : B ≤ w.heap.size) (k : IntsAt w tv m) (hlen : l.length + m.length ≤ 1000000) (hx : a.eval x = sv) (hy : a.eval y = tv)
    (hw : Region.wanted ⟨dst, .call { callee := .builtin .append, args := #[x, y], argTypes := #[52, 52] }, t2, pos, after, guard⟩ (yielded ops a.tmps) = true)
    (hh : ∀ sv' w', Own w' B sv' (l ++ m) → Below B w w' → wpList Tryz.prog ops Q rest (a.put dst sv') w') : wpList Tryz.prog ops Q (⟨dst, .call { callee := .builtin .append, args := #[x, y], argTypes := #[52, 52] }, t2, pos, after, guard⟩ :: rest) a w := by
  obtain ⟨sv', w', hr, ho, hg⟩ := app_own h hB k hlen t2
  exact wpList_run sv' w' hw (exec_app a.eval _ x y 52 52 rfl sv tv sv' hx hy hr) (hh sv' w' ho (grown_below hg hB fun k hk => (h.lt k hk).1))
end
theorem app_W {B : Nat} {sv tv : Value} {l m : List Int} {o : Oper} {a : Act} {w : World} {K : Act → World → Prop} {Q : Exit → Act → World → Prop} (x y : Operand) (dst : Option Tmp) (hd : o.dst = dst) (ho : o.op = .call { callee := .builtin .append, args := #[x, y], argTypes := #[52, 52] })
    (h : Own w B sv l) (hB : B ≤ w.heap.size) (k : IntsAt w tv m) (hlen : l.length + m.length ≤ 1000000) (hx : a.eval x = sv) (hy : a.eval y = tv)
    (hh : ∀ sv' w', Own w' B sv' (l ++ m) → Below B w w' → K (a.put dst sv') w') : o.wp Tryz.prog a w K Q := by
  obtain ⟨sv', w', hr, hO, hg⟩ := app_own h hB k hlen o.type
  exact wp_runTo dst hd sv' w' (exec_app a.eval o x y 52 52 ho sv tv sv' hx hy hr) (hh sv' w' hO (grown_below hg hB fun k hk => (h.lt k hk).1))
theorem Own.lit (w : World) (B : Nat) (hB : B ≤ w.heap.size) (l : List Int) (hl : l.length ≤ 1000000) (cs : Array Value) (hc : cs = (i64s l).toArray) : Own (w.alloc (.cells cs 3)) B (.slice (some ⟨w.heap.size, 0, none⟩) l.length l.length) l := by
  subst hc
  exact ⟨by simp, .inr ⟨w.heap.size, l.length, _, rfl, hB, heap_alloc_new w _, Nat.le_refl _, by simp only [maxLen]; omega, by simp, List.take_of_length_le (by simp)⟩⟩
theorem Own.set {w : World} {B g n cap : Nat} {l : List Int} (h : Own w B (.slice (some ⟨g, 0, none⟩) n cap) l) (i : Nat) (v : Int) (hi : i < l.length) : Own (w.setCell ⟨g, i, none⟩ (.int .i64 v)) B (.slice (some ⟨g, 0, none⟩) n cap) (l.set i v) := by
  rcases h.2 with ⟨e, _⟩ | ⟨g', cap', cur, e, hb, hg, hn, hm, hs, ht⟩
  · cases e
  · cases e
    refine ⟨by simp, .inr ⟨g, cap, cur.setIfInBounds i (.int .i64 v), by rw [List.length_set], hb, ?_, by rw [List.length_set]; exact hn, hm, by simpa using hs, ?_⟩⟩
    · rw [heap_setCell_same w g i cur 3 (.int .i64 v) hg]
    · have e2 : (cur.setIfInBounds i (.int .i64 v)).toList = cur.toList.set i (.int .i64 v) := by simp
      rw [e2, List.length_set, List.take_set, ht]
      simp
end Kl
end Go.Proofs.YtaemjglblfencaaGreatDoor
