/- The reference's place, turned. -/
import Derived.Test.YtmlniannilnmhaaGreatDoorRh
namespace Go.Proofs.YtmlniannilnmhaaGreatDoor
set_option linter.unusedSimpArgs false
set_option linter.unusedVariables false
open Go.RowKit

theorem sec_list {s : Array Value} (h : De.Sec s) : ∃ l : List Int, s = (l.map (Value.int .u8)).toArray ∧ l.length = 64 := by
  obtain ⟨cs⟩ := s
  have hs := h.size
  have hb := h.byte
  simp only [List.size_toArray, List.mem_toArray] at hs hb
  have key : ∀ cs : List Value, (∀ v ∈ cs, ∃ m, v = .int .u8 m) → ∃ l : List Int, cs = l.map (Value.int .u8) := by
    intro cs
    induction cs with
    | nil => exact fun _ => ⟨[], rfl⟩
    | cons c cs ih =>
        intro hc
        obtain ⟨m, rfl⟩ := hc c (by simp)
        obtain ⟨l, rfl⟩ := ih fun v hv => hc v (List.mem_cons_of_mem _ hv)
        exact ⟨m :: l, rfl⟩
  obtain ⟨l, rfl⟩ := key cs hb
  exact ⟨l, rfl, by simpa using hs⟩
theorem eq72 {s : Array Value} (h : De.Sec s) (w : World) : Sem.run Tryz.prog (Op.equalIn 10000 72 (.agg s) (.agg s)) w = .ok true w := by
  obtain ⟨l, rfl, hl⟩ := sec_list h
  obtain ⟨i, hi, hs⟩ := size_of info5s
  have h := run_equalIn_ints (P := Tryz.prog) w 9998 72 5 64 .u8 .u8 i l l Tryz.underlying72 Tryz.underlying5 hi hs hl hl
  rw [decide_eq_true rfl] at h
  exact h
theorem has_nat {d : De.D} {k : Nat} (h : k < d.S.length) : d.has (k : Int) = true := by unfold De.D.has; simp [h]
theorem fair_bytes {L : List It} (h : fair L = true) : ∀ x ∈ L, x.blk.bytes.length ≤ 300 := fun x hx => by
  unfold fair at h
  rw [Bool.and_eq_true, List.all_eq_true] at h
  simpa using h.1 x hx
theorem jput_few (g : Pl.Gm) (a : Ja) (d : De.D) (L : List It) : (jput g a d L).pl.length ≤ L.length := by
  cases hl : laid g a L
  · rw [jput_no hl]
    exact Nat.zero_le _
  · cases hn : nextP g a (lay2 a.seq L).1.length with
    | none => rw [jput_full hl hn]; exact Nat.zero_le _
    | some a1 =>
      cases hw : (wrAll d (firstOf g a1) (lay2 a.seq L).1).2
      · rw [jput_fail hl hn hw]; exact Nat.zero_le _
      · rw [jput_ok hl hn hw]
        simp [lay2_at]
theorem app_WO {B g : Nat} {tv : Value} {m : List Int} {o : Oper} {a : Act} {w : World} {K : Act → World → Prop} {Q : Exit → Act → World → Prop} (x y : Operand) (dst : Option Tmp) (hd : o.dst = dst) (ho : o.op = .call { callee := .builtin .append, args := #[x, y], argTypes := #[25, 25] })
    (h : OwnN w B (.slice (some ⟨g, 0, none⟩) 0 0) []) (hB : B ≤ w.heap.size) (k : IntsAt w tv m) (hlen : m.length ≤ 1000000) (hx : a.eval x = .slice (some ⟨g, 0, none⟩) 0 0) (hy : a.eval y = tv)
    (hh : ∀ sv' w', OwnN w' B sv' m → Below B w w' → (∀ (z : Nat) (cs : Array Value), w.heap[z]? = some (.cells cs 47) → z ≠ g → w'.heap[z]? = w.heap[z]? ∧ ∀ b o n c, sv' = .slice (some ⟨b, o, none⟩) n c → b ≠ z) → K (a.put dst sv') w') : o.wp Tryz.prog a w K Q := by
  obtain ⟨sv', w', hr, hO, hg⟩ := app_ownN h hB k (by simp only [List.length_nil]; omega) o.type
  rw [List.nil_append] at hO
  refine wp_runTo dst hd sv' w' (exec_app a.eval o x y 25 25 ho _ tv sv' hx hy hr) (hh sv' w' hO (grown_below hg hB fun k hk => (h.lt k hk).1) fun z cs hz hne => ?_)
  have ho2 : Only (fun k => k = g) w w' := (Only.refl _ w).grown hg fun k hk => .inl (by cases hk; rfl)
  have hzl : z < w.heap.size := (Array.getElem?_eq_some_iff.1 hz).1
  have he : w'.heap[z]? = w.heap[z]? := ho2.block z hzl hne
  refine ⟨he, fun b o n c e => ?_⟩
  rintro rfl
  rcases hO.2 with ⟨e2, -⟩ | ⟨g', cap, cur, e2, -, hg', -⟩
  · rw [e] at e2
    cases e2
  · rw [e] at e2
    cases e2
    rw [he, hz] at hg'
    cases hg'
theorem rightB {W w w' : World} {jb b qb q : Nat} {F G G' : Nat → Prop} {d r r' : De.D} {g : Pl.Gm} {a c c' : Ja} {fv fr fr' : Value} (h : Duo W w jb b qb q F G d r g a c fv fr) (hr : Rn W w' qb q G' r' g c' fr') (ho : Only (fun k => G k ∨ k = qb) w w') (hn : ∀ k, G' k → G k ∨ w.heap.size ≤ k) (hs : ∀ b' o n c, fr' = .slice (some ⟨b', o, none⟩) n c → ¬ (F b' ∨ b' = jb)) : Duo W w' jb b qb q F G' d r' g a c' fv fr' :=
  have hjb := h.j.blk.lt
  have hFl := fun k hk => (h.j.dv.lt k hk).2
  ⟨h.j.turnS ho (fun k hk => hk.elim (fun hG => (h.r.rv.lt k hG).1) fun e => by rw [e]; exact h.r.lo) (fun k hF hk => h.dj k (.inl hF) hk) (h.j.blk.only ho fun hk => h.dj jb (.inr rfl) hk) (h.j.fr.onlyF ho fun b' o n c e hk => h.s1 b' o n c e hk)
    (fun b' o n c e => let ⟨h1, h2, h3, h4⟩ := h.j.sep b' o n c e; ⟨h1, h2, h3, Nat.lt_of_lt_of_le h4 ho.size⟩) h.j.good h.j.seq h.j.cp, hr, fun k hk hg => by
    rcases hg with hg | hg
    · rcases hn k hg with h1 | h1
      · exact h.dj k hk (.inl h1)
      · rcases hk with hk | hk
        · have := hFl k hk; omega
        · omega
    · exact h.dj k hk (.inr hg), fun b' o n c e hg => by
    rcases hg with hg | hg
    · rcases hn b' hg with h1 | h1
      · exact h.s1 b' o n c e (.inl h1)
      · have := (h.j.sep b' o n c e).2.2.2; omega
    · exact h.s1 b' o n c e (.inr hg), hs⟩

end Go.Proofs.YtmlniannilnmhaaGreatDoor
