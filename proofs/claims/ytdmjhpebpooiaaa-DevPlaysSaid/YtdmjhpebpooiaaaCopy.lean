/- append([]byte{}, keep...): a copy of the bytes, in memory of the call's own. -/
import Derived.Test.YtdmjhpebpooiaaaView
namespace Go.Proofs.Ytdmjhpebpooiaaa
open Go.RowKit
theorem run_append_none' {P : Program} (w : World) (base : Nat) (t ty e : TypeId) (i : TypeInfo) (size : Nat) (ht : P.underlying t = some (.slice e)) (hi : P.info? e = some i)
    (v : Value) (n : Nat) (xs : List Value) (c : Nat) (hown : w.ownsRow base e size v n xs) :
    (Builtin.append_ #[t, t] ty #[v, .slice none 0 c]).run P w = .ok v w := by
  rcases hown.2 with ⟨rfl, rfl⟩ | ⟨g, cap, cur, rfl, _, _, hnc, _⟩
  · simp [Builtin.append_, run_underlying ht, sizeOf, typeInfo, hi, Builtin.lenOf, Builtin.firstCells]
  · simp [Builtin.append_, run_underlying ht, sizeOf, typeInfo, hi, Builtin.lenOf, Builtin.firstCells, hnc, storeCells]

/-- What the copy is. -/
structure Copied (H : Nat) (w w' : World) (v' : Value) (l : List Int) : Prop where
  bytes : BytesAt w' v' l
  own : ∀ k, v'.ownBlock = some k → H ≤ k
  below : Below H w w'
theorem run_copy_bytes (w : World) (H ty : Nat) (hH : w.heap[H]? = some (.cells #[] 5 (0, 0))) (kv : Value) (l : List Int) (hk : BytesAt w kv l) (hl : l.length ≤ 300) :
    ∃ v' w', (Builtin.append_ #[32, 32] ty #[.slice (some ⟨H, 0, none⟩) 0 0, kv]).run Try.prog w = .ok v' w' ∧ Copied H w w' v' l := by
  have hlt : H < w.heap.size := (Array.getElem?_eq_some_iff.1 hH).1
  have hown : w.ownsRow H 5 1 (.slice (some ⟨H, 0, none⟩) 0 0) 0 [] := ⟨by simp, .inr ⟨H, 0, #[], rfl, Nat.le_refl _, hH, Nat.le_refl _, Nat.zero_le _, rfl, by simp⟩⟩
  obtain ⟨i, hi, hz, hs, hb⟩ := info_parts info5z
  obtain ⟨a, cap, rfl, hm, hn, hc⟩ := hk
  cases a with
  | none =>
    have hl0 : l.length = 0 := by
      rcases Nat.eq_zero_or_pos l.length with h | h
      · exact h
      · obtain ⟨b, o, e, _⟩ := hc 0 h
        cases e
    have hnil : l = [] := List.length_eq_zero_iff.1 hl0
    subst hnil
    refine ⟨_, w, run_append_none' w H 32 ty 5 i 1 Try.underlying32 hi _ 0 [] cap hown, ⟨_, 0, rfl, by simp, by simp, fun i hi => absurd hi (by simp)⟩, fun k hk => by
      have : H = k := Option.some.inj hk
      omega, Below.refl _ _⟩
  | some ad =>
    obtain ⟨v', w', hr, ho, hg, _, hbk⟩ := run_append_own_at (P := Try.prog) w H 32 ty 5 i _ 1 1 Try.underlying32 hi hz hs hb rfl (by decide) _ 0 [] hown ad l.length cap (l.map (Value.int .u8)) (by simp) (fun j u hu => by
      rw [List.getElem?_map] at hu
      obtain ⟨x, hx, rfl⟩ := Option.map_eq_some_iff.1 hu
      obtain ⟨hj, rfl⟩ := List.getElem?_eq_some_iff.1 hx
      obtain ⟨b, o, e, hcell⟩ := hc j hj
      cases e
      have hadd : (⟨b, o, none⟩ : Addr).add j = ⟨b, o + j, none⟩ := by unfold Addr.add; split <;> simp_all
      rw [hadd]
      exact hcell) (fun u hu => by obtain ⟨x, _, rfl⟩ := List.mem_map.1 hu; rfl) (by unfold maxLen; omega) (by omega) (Nat.le_of_lt hlt)
    refine ⟨v', w', hr, ?_, fun k hk => ?_, (Below.refl _ _).grown hg (Nat.le_of_lt hlt) fun k hk => by
      have : H = k := Option.some.inj hk
      omega⟩
    · rcases ho.2 with ⟨rfl, h0⟩ | ⟨g, cp, cur, rfl, _, hgg, _, _, hsz, htake⟩
      · have hnil : l = [] := List.length_eq_zero_iff.1 (by omega)
        subst hnil
        exact ⟨none, 0, rfl, by simp, by simp, fun i hi => absurd hi (by simp)⟩
      · refine ⟨some ⟨g, 0, none⟩, cp, by rw [Nat.zero_add], hm, hn, fun j hj => ⟨g, 0, rfl, ?_⟩⟩
        rw [Nat.zero_add, cell_of_row w' g j cur 5 (0, 0) hgg]
        have h1 : (cur.toList.take ((0 + l.length) * 1))[j]? = some (Value.int .u8 l[j]) := by rw [htake]; simp [hj]
        rw [List.getElem?_take] at h1
        rw [if_pos (by omega)] at h1
        simpa using h1
    · rcases hbk with h | h
      · rw [h] at hk
        have : H = k := Option.some.inj hk
        omega
      · rw [h] at hk
        have : w.heap.size = k := Option.some.inj hk
        omega
theorem wpList_copy_bytes {ops : Array Oper} {rest : List Oper} {o : Oper} {a : Act} {w : World} {Q : Exit → Act → World → Prop} (s x : Operand) (ho : o.op = .call { callee := .builtin .append, args := #[s, x], argTypes := #[32, 32] }) (hw : Region.wanted o (yielded ops a.tmps) = true)
    (H : Nat) (hs : a.eval s = .slice (some ⟨H, 0, none⟩) 0 0) (hH : w.heap[H]? = some (.cells #[] 5 (0, 0))) (kv : Value) (l : List Int) (hx : a.eval x = kv) (hk : BytesAt w kv l) (hl : l.length ≤ 300)
    (h : ∀ v' w', Copied H w w' v' l → wpList Try.prog ops Q rest (a.put o.dst v') w') : wpList Try.prog ops Q (o :: rest) a w := by
  obtain ⟨v', w', hr, hc⟩ := run_copy_bytes w H o.type hH kv l hk hl
  refine wpList_op hw fun K hK => ?_
  unfold Oper.wp execOp
  simp only [ho, resolve, invoke, builtin, Sem.run_bind, Sem.run_pure, Result.andThen_ok, List.map_toArray, List.map_cons, List.map_nil, hs, hx, hr]
  exact hK _ _ (h v' w' hc)
theorem isAppend {P : Program} {ops : Array Oper} {rest : List Oper} {dst : Option Tmp} {t2 : TypeId} {x y : Operand} {pos : String} {after : Array Edge} {guard : Option (Nat × Bool)} {a : Act} {w : World} {Q : Exit → Act → World → Prop}
    (h : wpList P ops Q (⟨dst, .call { callee := .builtin .append, args := #[x, y], argTypes := #[32, 32] }, t2, pos, after, guard⟩ :: rest) a w) : wpList P ops Q (⟨dst, .call { callee := .builtin .append, args := #[x, y], argTypes := #[32, 32] }, t2, pos, after, guard⟩ :: rest) a w := h
end Go.Proofs.Ytdmjhpebpooiaaa
