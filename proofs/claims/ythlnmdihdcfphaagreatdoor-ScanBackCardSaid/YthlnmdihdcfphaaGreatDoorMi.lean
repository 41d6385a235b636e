/- Groups in memory: a slice of them that one appends to. Package scan: Read. Package scan: Read, where no journal may be. -/
import Derived.Test.YthlnmdihdcfphaaGreatDoorSc
import Derived.Maps.AppendAt
namespace Go.Proofs.YthlnmdihdcfphaaGreatDoor
set_option linter.unusedSimpArgs false
set_option linter.unusedVariables false
open Go.RowKit

abbrev gcs (l : List (Value × Value)) : List Value := l.flatMap fun p => [p.1, p.2]
theorem gcs_at (l : List (Value × Value)) {i : Nat} {p : Value × Value} (h : l[i]? = some p) : (gcs l)[i * 2]? = some p.1 ∧ (gcs l)[i * 2 + 1]? = some p.2 := by
  induction l generalizing i with
  | nil => simp at h
  | cons q l ih =>
    cases i with
    | zero =>
      simp only [List.getElem?_cons_zero, Option.some.injEq] at h
      subst h
      exact ⟨rfl, rfl⟩
    | succ i =>
      simp only [List.getElem?_cons_succ] at h
      have := ih h
      have e1 : (i + 1) * 2 = i * 2 + 2 := by omega
      rw [e1]
      simp only [gcs, List.flatMap_cons] at this ⊢
      exact this
/-- A slice of groups that one appends to. -/
def OwnG (w : World) (B : Nat) (sv : Value) (l : List (Value × Value)) : Prop := w.ownsRow B 55 2 sv l.length (gcs l)
theorem OwnG.nil (w : World) (B : Nat) : OwnG w B (.slice none 0 0) [] := World.ownsRow_nil w B 55 2
theorem OwnG.lt {w : World} {B : Nat} {sv : Value} {l : List (Value × Value)} (h : OwnG w B sv l) : ∀ k, sv.ownBlock = some k → B ≤ k ∧ k < w.heap.size := World.ownsRow.lt h
theorem OwnG.below {w w' : World} {B : Nat} {sv : Value} {l : List (Value × Value)} (h : OwnG w B sv l) (hb : Below w.heap.size w w') : OwnG w' B sv l := by
  refine ⟨h.1, ?_⟩
  rcases h.2 with hn | ⟨g, cap, cur, e, hB, hg, r⟩
  · exact .inl hn
  · exact .inr ⟨g, cap, cur, e, hB, (hb.block g (Array.getElem?_eq_some_iff.1 hg).1).trans hg, r⟩
theorem OwnG.only {w w' : World} {B : Nat} {sv : Value} {l : List (Value × Value)} {F : Nat → Prop} (h : OwnG w B sv l) (ho : Only F w w') (hF : ∀ k, B ≤ k → k < w.heap.size → ¬ F k) : OwnG w' B sv l := by
  refine ⟨h.1, ?_⟩
  rcases h.2 with hn | ⟨g, cap, cur, e, hB, hg, r⟩
  · exact .inl hn
  · have hl := (Array.getElem?_eq_some_iff.1 hg).1
    exact .inr ⟨g, cap, cur, e, hB, (ho.block g hl (hF g hB hl)).trans hg, r⟩
theorem OwnG.len {w : World} {B : Nat} {sv : Value} {l : List (Value × Value)} (h : OwnG w B sv l) : ∃ a c, sv = .slice a l.length c ∧ l.length ≤ c := by
  rcases h.2 with ⟨e, h0⟩ | ⟨g, cap, cur, e, _, _, hn, _⟩
  · exact ⟨none, 0, by rw [e, h0], by omega⟩
  · exact ⟨_, cap, e, hn⟩
theorem OwnG.at {w : World} {B : Nat} {sv : Value} {l : List (Value × Value)} (h : OwnG w B sv l) {i : Nat} {p : Value × Value} (hi : l[i]? = some p) : ∃ g cap, sv = .slice (some ⟨g, 0, none⟩) l.length cap ∧ l.length ≤ cap ∧ w.cell? ⟨g, i * 2, none⟩ = some p.1 ∧ w.cell? ⟨g, i * 2 + 1, none⟩ = some p.2 := by
  have hil := (List.getElem?_eq_some_iff.1 hi).1
  rcases id h.2 with ⟨e, h0⟩ | ⟨g, cap, cur, rfl, hb, hg, hn, hm, hs, ht⟩
  · omega
  · obtain ⟨h1, h2⟩ := gcs_at l hi
    exact ⟨g, cap, rfl, hn, by rw [World.ownsRow.cellAt h (i * 2) (by omega), h1], by rw [World.ownsRow.cellAt h (i * 2 + 1) (by omega), h2]⟩
theorem info55b : (Tryz.prog.info? 55).map (fun i => (i.size, i.bytes)) = some (2, 48) := by kernel_rfl
theorem inf55 : ∃ i, Tryz.prog.info? 55 = some i ∧ i.zero = some (.agg #[.slice none 0 0, .slice none 0 0]) ∧ i.size = 2 ∧ i.bytes = 48 := by
  have h1 := info55b
  have h2 := zero55
  cases hq : Tryz.prog.info? 55 with
  | none => simp [hq] at h1
  | some i =>
    simp [hq] at h1 h2
    exact ⟨i, rfl, h2, h1⟩
theorem app_ownG {w : World} {B : Nat} {sv : Value} {l : List (Value × Value)} (h : OwnG w B sv l) (hB : B ≤ w.heap.size) (g0 : Nat) (p : Value × Value) (c0 : w.cell? ⟨g0, 0, none⟩ = some p.1) (c1 : w.cell? ⟨g0, 1, none⟩ = some p.2) (h1 : p.1.oneCell' = true ∧ p.2.oneCell' = true) (hlen : l.length + 1 ≤ 100000) (ty : TypeId) :
    ∃ sv' w', (Builtin.append_ #[50, 50] ty #[sv, .slice (some ⟨g0, 0, none⟩) 1 1]).run Tryz.prog w = .ok sv' w' ∧ OwnG w' B sv' (l ++ [p]) ∧ w.grownBy w' sv.ownBlock ∧ (sv'.ownBlock = sv.ownBlock ∨ sv'.ownBlock = some w.heap.size) := by
  obtain ⟨i, hi, hz, hs, hby⟩ := inf55
  obtain ⟨v', w', hr, h2, h3, _, h5⟩ := run_append_own_at (P := Tryz.prog) w B 50 ty 55 i (.agg #[.slice none 0 0, .slice none 0 0]) 2 48 Tryz.underlying50 hi hz hs hby rfl (by decide) sv l.length (gcs l) h ⟨g0, 0, none⟩ 1 1 [p.1, p.2] rfl (fun j u hu => by
    rw [show (⟨g0, 0, none⟩ : Addr).add j = ⟨g0, j, none⟩ by unfold Addr.add; split <;> simp_all]
    match j, hu with
    | 0, hu => simp at hu; subst hu; exact c0
    | 1, hu => simp at hu; subst hu; exact c1
    | j + 2, hu => simp at hu) (fun u hu => by
      simp only [List.mem_cons, List.not_mem_nil, or_false] at hu
      rcases hu with rfl | rfl
      · exact h1.1
      · exact h1.2) (by simp only [maxLen]; omega) (by omega) hB
  refine ⟨v', w', hr, ?_, h3, h5⟩
  unfold OwnG
  rw [List.length_append, show gcs (l ++ [p]) = gcs l ++ [p.1, p.2] by simp [gcs]]
  exact h2
theorem run_litG (w : World) (x y : Value) (hx : x.oneCell' = true) (hy : y.oneCell' = true) : (Instr.buildSlice 50 1 #[(0, Value.agg #[x, y])]).run Tryz.prog w = .ok (.slice (some ⟨w.heap.size, 0, none⟩) 1 1) (w.alloc (.cells #[x, y] 55)) := by
  obtain ⟨i, hi, hz, hs, -⟩ := inf55
  refine Go.run_buildSlice (P := Tryz.prog) w 50 55 1 _ #[x, y] i _ Tryz.underlying50 hi hz (by rw [hs]; omega) (by rw [hs]; omega) ?_
  rw [hs]
  have hv : ∀ v ∈ [Value.agg #[x, y]], v.cells.size = 2 := fun v hv => by
    obtain rfl := List.mem_singleton.1 hv
    rfl
  obtain ⟨r, hr, hrs, hk⟩ := Go.Great.fill_dense (s := 2) (by decide) [Value.agg #[x, y]] 0 ((Array.range (1 * 2)).map fun k => (Value.agg #[.slice none 0 0, .slice none 0 0]).cells[k % (Value.agg #[.slice none 0 0, .slice none 0 0]).cells.size]!) hv (by simp)
  have hcells : r = #[x, y] := by
    apply Array.ext_getElem?
    intro k
    rw [hk k]
    match k with
    | 0 => simp [Value.cells]
    | 1 => simp [Value.cells]
    | k + 2 => simp
  rw [hcells] at hr
  exact hr
/-- Blocks from B on, another one than r. -/
def Cl (B : Nat) (r : Option Nat) (v : Value) : Prop := ∀ b o n c, v = .slice (some ⟨b, o, none⟩) n c → B ≤ b ∧ some b ≠ r
theorem ItemsAt.keepF {F : Nat → Prop} {w w' : World} {sv : Value} {l : List (It × Value)} (h : ItemsAt w sv l) (ho : Only F w w') (hn : ∀ b o n c, sv = .slice (some ⟨b, o, none⟩) n c → b < w.heap.size → ¬ F b) (hx : ∀ x ∈ l, 0 < x.1.blk.bytes.length → ∀ b o n c, x.2 = .slice (some ⟨b, o, none⟩) n c → b < w.heap.size → ¬ F b) : ItemsAt w' sv l := by
  obtain ⟨a, cap, e, hcap, hc⟩ := h
  refine ⟨a, cap, e, hcap, fun i x hi => ?_⟩
  obtain ⟨h1, h2, g, o, h3, h4⟩ := hc i x hi
  refine ⟨h1, ?_, g, o, h3, fun j hj => ?_⟩
  · obtain ⟨a2, c2, e2, hc2⟩ := h2
    refine ⟨a2, c2, e2, fun k z hz => ?_⟩
    obtain ⟨b, o2, e3, hz2⟩ := hc2 k z hz
    refine ⟨b, o2, e3, ?_⟩
    have hl : 0 < x.1.blk.bytes.length := by have := (List.getElem?_eq_some_iff.1 hz).1; omega
    rw [← hz2]
    simp only [World.cell?, ho.block b (block_lt_of_cell hz2) (hx x (List.mem_of_getElem? hi) hl b o2 _ _ (by rw [e2, e3]) (block_lt_of_cell hz2))]
  · rw [← h4 j hj]
    simp only [World.cell?, ho.block g (block_lt_of_cell (h4 j hj)) (hn g o _ _ (by rw [e, h3]) (block_lt_of_cell (h4 j hj)))]
theorem ItemsAt.lt {w : World} {sv : Value} {l : List (It × Value)} (h : ItemsAt w sv l) (hl : 0 < l.length) {b o n c : Nat} (e : sv = .slice (some ⟨b, o, none⟩) n c) : b < w.heap.size := by
  obtain ⟨a, cap, e2, hcap, hc⟩ := h
  obtain ⟨h1, h2, g, o2, h3, h4⟩ := hc 0 _ (List.getElem?_eq_getElem hl)
  rw [h3, e] at e2
  cases e2
  exact h4.lt (by rw [It.arr_size h1]; decide)
/-- A group's data, apart from the row r. -/
def Apt (B : Nat) (r : Option Nat) (w : World) (p : Value × Value) (x : List It × List Int) : Prop := ∃ pl, ItemsAt w p.1 pl ∧ pl.map (·.1) = x.1 ∧ IntsAt w p.2 x.2 ∧ 0 < pl.length ∧ 0 < x.2.length ∧ Cl B r p.1 ∧ Cl B r p.2 ∧ ∀ y ∈ pl, 0 < y.1.blk.bytes.length → Cl B r y.2
theorem Apt.only {B : Nat} {r : Option Nat} {w w' : World} {p : Value × Value} {x : List It × List Int} {F : Nat → Prop} (h : Apt B r w p x) (ho : Only F w w') (hF : ∀ b, B ≤ b → b < w.heap.size → some b ≠ r → ¬ F b) : Apt B r w' p x := by
  obtain ⟨pl, h1, h2, h3, h4, h5, h6, h7, h8⟩ := h
  refine ⟨pl, h1.keepF ho (fun b o n c e hb => hF b (h6 b o n c e).1 hb (h6 b o n c e).2) (fun y hy hl b o n c e hb => hF b (h8 y hy hl b o n c e).1 hb (h8 y hy hl b o n c e).2), h2, ?_, h4, h5, h6, h7, h8⟩
  exact h3.onlyF ho fun b o n c e => hF b (h7 b o n c e).1 (h3.lt h5 e) (h7 b o n c e).2
theorem Apt.below {B : Nat} {r : Option Nat} {w w' : World} {p : Value × Value} {x : List It × List Int} (h : Apt B r w p x) (hb : Below w.heap.size w w') : Apt B r w' p x := h.only (Only.of_belowB hb) fun b _ hl _ => by omega
theorem Apt.grown {B : Nat} {r r' : Option Nat} {w w' : World} {p : Value × Value} {x : List It × List Int} (h : Apt B r w p x) (hg : w.grownBy w' r) (hr : r' = r ∨ r' = some w.heap.size) : Apt B r' w' p x := by
  have ho : Only (fun k => some k = r) w w' := (Only.refl _ w).grown hg fun k hk => .inl hk.symm
  obtain ⟨pl, h1, h2, h3, h4, h5, h6, h7, h8⟩ := h
  have key : ∀ b, b < w.heap.size → some b ≠ r → some b ≠ r' := fun b hb hne => by
    rcases hr with rfl | rfl
    · exact hne
    · intro e
      have := Option.some.inj e
      omega
  refine ⟨pl, h1.keepF ho (fun b o n c e _ => (h6 b o n c e).2) (fun y hy hl b o n c e _ => (h8 y hy hl b o n c e).2), h2, h3.onlyF ho (fun b o n c e => (h7 b o n c e).2), h4, h5, fun b o n c e => ⟨(h6 b o n c e).1, key b (h1.lt h4 e) (h6 b o n c e).2⟩, fun b o n c e => ⟨(h7 b o n c e).1, key b (h3.lt h5 e) (h7 b o n c e).2⟩, fun y hy hl b o n c e => ⟨(h8 y hy hl b o n c e).1, key b ((h1.bytes y hy).2.lt hl e) (h8 y hy hl b o n c e).2⟩⟩
/-- Groups that were read, in a slice of one's own. -/
structure Gs (B : Nat) (w : World) (sv : Value) (P : List (List It × List Int)) (l : List (Value × Value)) : Prop where
  own : OwnG w B sv l
  len : l.length = P.length
  dat : ∀ (i : Nat) (p : Value × Value) (x : List It × List Int), l[i]? = some p → P[i]? = some x → Apt B sv.ownBlock w p x
theorem Gs.nil (w : World) (B : Nat) : Gs B w (.slice none 0 0) [] [] := ⟨OwnG.nil w B, rfl, fun i p x h => by simp at h⟩
theorem Gs.below {B : Nat} {w w' : World} {sv : Value} {P : List (List It × List Int)} {l : List (Value × Value)} (h : Gs B w sv P l) (hb : Below w.heap.size w w') : Gs B w' sv P l := ⟨h.own.below hb, h.len, fun i p x h1 h2 => (h.dat i p x h1 h2).below hb⟩
theorem Gs.only {B : Nat} {w w' : World} {sv : Value} {P : List (List It × List Int)} {l : List (Value × Value)} {F : Nat → Prop} (h : Gs B w sv P l) (ho : Only F w w') (hF : ∀ b, B ≤ b → b < w.heap.size → ¬ F b) : Gs B w' sv P l := ⟨h.own.only ho hF, h.len, fun i p x h1 h2 => (h.dat i p x h1 h2).only ho fun b hb hl _ => hF b hb hl⟩
theorem app_WG {B : Nat} {sv : Value} {P : List (List It × List Int)} {l : List (Value × Value)} {o : Oper} {a : Act} {w : World} {K : Act → World → Prop} {Q : Exit → Act → World → Prop} (x y : Operand) (dst : Option Tmp) (hd : o.dst = dst) (ho : o.op = .call { callee := .builtin .append, args := #[x, y], argTypes := #[50, 50] })
    (h : Gs B w sv P l) (hB : B ≤ w.heap.size) (g0 : Nat) (p : Value × Value) (q : List It × List Int) (c0 : w.cell? ⟨g0, 0, none⟩ = some p.1) (c1 : w.cell? ⟨g0, 1, none⟩ = some p.2) (h1 : p.1.oneCell' = true ∧ p.2.oneCell' = true) (hlen : P.length + 1 ≤ 100000) (hap : Apt B sv.ownBlock w p q) (hx : a.eval x = sv) (hy : a.eval y = .slice (some ⟨g0, 0, none⟩) 1 1)
    (hh : ∀ sv' w', Gs B w' sv' (P ++ [q]) (l ++ [p]) → Below B w w' → w.grownBy w' sv.ownBlock → K (a.put dst sv') w') : o.wp Tryz.prog a w K Q := by
  obtain ⟨sv', w', hr, hO, hg, h5⟩ := app_ownG h.own hB g0 p c0 c1 h1 (by rw [h.len]; exact hlen) o.type
  refine wp_runTo dst hd sv' w' (exec_app a.eval o x y 50 50 ho sv _ sv' hx hy hr) (hh sv' w' ⟨hO, by rw [List.length_append, List.length_append, h.len]; rfl, fun i p' x' hp' hx' => ?_⟩ (grown_below hg hB fun k hk => (h.own.lt k hk).1) hg)
  by_cases hi : i < l.length
  · rw [List.getElem?_append_left hi] at hp'
    rw [List.getElem?_append_left (by rw [← h.len]; exact hi)] at hx'
    exact (h.dat i p' x' hp' hx').grown hg h5
  · have hil := (List.getElem?_eq_some_iff.1 hp').1
    rw [List.length_append] at hil
    simp only [List.length_cons, List.length_nil] at hil
    have e : i = l.length := by omega
    subst e
    rw [List.getElem?_append_right (Nat.le_refl _), Nat.sub_self] at hp'
    rw [h.len, List.getElem?_append_right (Nat.le_refl _), Nat.sub_self] at hx'
    simp at hp' hx'
    subst hp'
    subst hx'
    exact hap.grown hg h5
/-- Groups in memory. -/
def GsAt (w : World) (sv : Value) (P : List (List It × List Int)) : Prop := ∃ B l, Gs B w sv P l
theorem GsAt.below {w w' : World} {sv : Value} {P : List (List It × List Int)} (h : GsAt w sv P) (hb : Below w.heap.size w w') : GsAt w' sv P := let ⟨B, l, h⟩ := h; ⟨B, l, h.below hb⟩
theorem GsAt.form {w : World} {sv : Value} {P : List (List It × List Int)} (h : GsAt w sv P) : ∃ a c, sv = .slice a P.length c := by
  obtain ⟨B, l, h⟩ := h
  obtain ⟨a, c, e, -⟩ := h.own.len
  exact ⟨a, c, by rw [e, h.len]⟩
theorem GsAt.at {w : World} {sv : Value} {P : List (List It × List Int)} (h : GsAt w sv P) {i : Nat} {x : List It × List Int} (hi : P[i]? = some x) : ∃ g cap iv pv pl, sv = .slice (some ⟨g, 0, none⟩) P.length cap ∧ P.length ≤ cap ∧ w.cell? ⟨g, i * 2, none⟩ = some iv ∧ w.cell? ⟨g, i * 2 + 1, none⟩ = some pv ∧ ItemsAt w iv pl ∧ pl.map (·.1) = x.1 ∧ IntsAt w pv x.2 := by
  obtain ⟨B, l, h⟩ := h
  have hil := (List.getElem?_eq_some_iff.1 hi).1
  obtain ⟨p, hp⟩ : ∃ p, l[i]? = some p := ⟨_, List.getElem?_eq_getElem (by rw [h.len]; exact hil)⟩
  obtain ⟨g, cap, e, hc, c0, c1⟩ := h.own.at hp
  obtain ⟨pl, h1, h2, h3, -⟩ := h.dat i p x hp hi
  exact ⟨g, cap, p.1, p.2, pl, by rw [e, h.len], by rw [← h.len]; exact hc, c0, c1, h1, h2, h3⟩
/-- How much there may yet be read. -/
def mm (g : Pl.Gm) (b : Ja) : Nat := (g.l - b.off).toNat + b.free.length * g.l.toNat
theorem gAt_parts {X : List (List Int)} {g : Pl.Gm} {b : Ja} {l : List It} (h : gAt X g b = some l) : mayBe l = true ∧ (lay2 b.seq l).1.length ≤ (g.l - b.off).toNat := by
  obtain ⟨h1, h2, -⟩ := readP_some h
  have := h2.length_le
  rw [List.length_take] at this
  exact ⟨h1, by omega⟩
theorem nxt_nx {X : List (List Int)} {g : Pl.Gm} {b b1 : Ja} {l : List It} (hg : b.good g = true) (h : nxt X g b = some (l, b1)) : mayBe l = true ∧ Nx g b b1 (lay2 b.seq l).1.length ∧ Step1 b b1 := by
  obtain ⟨h1, h2, h3, h4, h5⟩ := Ja.good_parts hg
  unfold nxt at h
  cases e : gAt X g b with
  | some l' =>
    rw [e] at h
    simp only [Option.some.injEq, Prod.mk.injEq] at h
    obtain ⟨rfl, rfl⟩ := h
    obtain ⟨k1, k2⟩ := gAt_parts e
    exact ⟨k1, ⟨rfl, h2, ⟨h3, by omega⟩, h5, h1⟩, .inl rfl⟩
  | none =>
    rw [e] at h
    simp only at h
    cases hf : b.free with
    | nil =>
      rw [hf] at h
      cases h
    | cons f r =>
      rw [hf] at h
      simp only at h
      obtain ⟨l', e2, e3⟩ := Option.map_eq_some_iff.1 h
      simp only [Prod.mk.injEq] at e3
      obtain ⟨rfl, rfl⟩ := e3
      obtain ⟨k1, k2⟩ := gAt_parts e2
      obtain ⟨-, j2, j3, j4, j5⟩ := Ja.good_parts (good_free hg hf)
      simp only at j2 j3 j4 j5 k2
      exact ⟨k1, ⟨rfl, j2, ⟨Int.le_refl _, by show (0 : Int) + _ ≤ _; omega⟩, j5, h1⟩, .inr ⟨f, r, hf, rfl⟩⟩
theorem mm_next {g : Pl.Gm} {b b1 : Ja} {l : List It} (hg : b.good g = true) (hm : mayBe l = true) (hnx : Nx g b b1 (lay2 b.seq l).1.length) (hs : Step1 b b1) : mm g (aft b b1 l) < mm g b := by
  have hp := lay2_pos hm b.seq
  obtain ⟨h1, h2, h3, h4, h5⟩ := Ja.good_parts hg
  have hoff := hnx.off
  unfold mm aft
  rcases hs with rfl | ⟨f, r, hf, rfl⟩
  · simp only
    omega
  · rw [hf]
    simp only [List.length_cons] at hoff ⊢
    rw [Nat.add_mul]
    omega
theorem mm_few {g : Pl.Gm} {b : Ja} (hg : b.good g = true) : mm g b ≤ 1000 := by
  obtain ⟨h1, h2, h3, h4, h5⟩ := Ja.good_parts hg
  have hf := Ja.few hg
  have hl := h1.2.2.1.2
  unfold mm
  have : b.free.length * g.l.toNat ≤ 16 * g.l.toNat := Nat.mul_le_mul_right _ hf
  omega

theorem IntsAt.low {B : Nat} {w w' : World} {sv : Value} {l : List Int} (h : IntsAt w sv l) (hb : Below B w w') (hB : ∀ b o n c, sv = .slice (some ⟨b, o, none⟩) n c → b < B) : IntsAt w' sv l := h.onlyF (Only.of_belowB hb) fun b o n c e => by have := hB b o n c e; omega

end Go.Proofs.YthlnmdihdcfphaaGreatDoor
namespace Go.Proofs.YthlnmdihdcfphaaGreatDoor
set_option linter.unusedSimpArgs false
set_option linter.unusedVariables false
open Go.RowKit

section
variable {W w : World} {b : Nat} {F : Nat → Prop} {d : De.D} {g : Pl.Gm} {a : Ja} {fv : Value}
/-- What Read's loop has come to. -/
structure Lp (w wr : World) (gB tB vB : Nat) (g : Pl.Gm) (b1 : Ja) (fv sv : Value) (P : List (List It × List Int)) (l : List (Value × Value)) : Prop where
  gb : Blk wr gB [.int .i64 g.p, .int .i64 g.s, .int .i64 g.l, .int .i64 g.f]
  tb : Blk wr tB [.int .i64 0, .int .i64 0, .int .u32 0, .slice none 0 0]
  vb : Blk wr vB [.int .i64 b1.seg, .int .i64 b1.off, .int .u32 b1.seq, fv]
  gs : Gs (vB + 1) wr sv P l
  fr : IntsAt wr fv b1.free
  fb : ∀ b' o n c, fv = .slice (some ⟨b', o, none⟩) n c → b' < vB
  fg : ∀ b' o n c, fv = .slice (some ⟨b', o, none⟩) n c → b' ≠ tB
  cp : ∀ q n c, fv = .slice q n c → n ≤ c
  bel : Below w.heap.size w wr
  lt : w.heap.size ≤ gB ∧ gB < tB ∧ tB < vB ∧ vB < wr.heap.size
theorem Lp.below {w wr wx : World} {gB tB vB : Nat} {g : Pl.Gm} {b1 : Ja} {fv sv : Value} {P : List (List It × List Int)} {l : List (Value × Value)} (h : Lp w wr gB tB vB g b1 fv sv P l) (hb : Below wr.heap.size wr wx) : Lp w wx gB tB vB g b1 fv sv P l :=
  ⟨h.gb.below hb h.gb.lt, h.tb.below hb h.tb.lt, h.vb.below hb h.vb.lt, h.gs.below hb, h.fr.below hb, h.fb, h.fg, h.cp, stay h.bel hb, h.lt.1, h.lt.2.1, h.lt.2.2.1, Nat.lt_of_lt_of_le h.lt.2.2.2 hb.size⟩
set_option maxRecDepth 100000 in
set_option maxHeartbeats 4000000 in
theorem sread_yes {X : List (List Int)} (hdv : De.Dv W w b F d) (hX : Img d X) (hbig : X.length ≤ 1024) (hLn : d.L.length ≤ 1000000) (hfit : fits g a d.S.length = true) (hq : Seq32 a.seq) (hf : IntsAt w fv a.free) :
    Calls Tryz.prog 16 #[.pointer (some ⟨b, 0, none⟩), g.v, .agg #[.int .i64 a.seg, .int .i64 a.off, .int .u32 a.seq, fv]] w fun e w' => ∃ P b1 sv tv, Way X g a P b1 ∧ nxt X g b1 = none ∧ e = .returned (.tuple #[sv, .agg #[.int .i64 b1.seg, .int .i64 b1.off, .int .u32 b1.seq, tv], .int .i64 0]) ∧ GsAt w' sv P ∧ IntsAt w' tv b1.free ∧ Below w.heap.size w w' := by
  have hfit2 := hfit
  unfold fits at hfit2
  simp only [Bool.and_eq_true, decide_eq_true_eq] at hfit2
  obtain ⟨hg, ht⟩ := hfit2
  have hlen := hX.len
  have hfew := Ja.few hg
  have HNEW : Hid (∀ w', Below w.heap.size w w' → Calls Tryz.prog 11 #[.pointer (some ⟨b, 0, none⟩), g.v, .agg #[.int .i64 a.seg, .int .i64 a.off, .int .u32 a.seq, fv]] w' fun e w'' => ∃ jb tv, e = .returned (.tuple #[.pointer (some ⟨jb, 0, none⟩), .int .i64 0]) ∧ Jn W w'' jb b F d g a tv ∧ w'.heap.size ≤ jb ∧ Below w'.heap.size w' w'') := Lib.hid fun w' hb => new_yes b F d (by omega) g a fv (by omega) hfit hq w' (hf.below hb) (hdv.below hb)
  have HNX : Hid (∀ w' b1 fw, Below w.heap.size w w' → b1.good g = true → Seq32 b1.seq → IntsAt w' fw b1.free → (∀ q n c, fw = .slice q n c → n ≤ c) → (∀ b' o n c, fw = .slice (some ⟨b', o, none⟩) n c → b' < w'.heap.size) → Calls Tryz.prog 31 #[.pointer (some ⟨b, 0, none⟩), g.v, .agg #[.int .i64 b1.seg, .int .i64 b1.off, .int .u32 b1.seq, fw]] w' fun e w'' => NxOut w'.heap.size g b1 fw (nxt X g b1) e w'' ∧ Below w'.heap.size w' w'') := Lib.hid fun w' b1 fw hb hg hq hf hc hfb => next_any (hdv.below hb) hX hLn hbig hg hq (by omega) hf hc hfb
  have HGD := Lib.hid hg
  have HSQ := Lib.hid hq
  obtain ⟨fa, fc, hfv⟩ := hf.form
  obtain ⟨m, hm⟩ : ∃ m, a.free.length = m := ⟨_, rfl⟩
  rw [hm] at hfv
  subst hfv
  clear hdv hX hbig hLn hfit hq hf hg ht hlen hfew hm
  go_enter Tryz.func16, Tryz.ntmps16
  go_upto_region 0 with fail
  refine wp_region_lit ?_
  refine box_g (cs := #[.int .i64 g.p, .int .i64 g.s, .int .i64 g.l, .int .i64 g.f]) rfl rfl ?_
  intro w1 hG hb1 hl1
  try simp only [Act.put, List.setIfInBounds_toArray, List.set_cons_succ, List.set_cons_zero]
  refine box_g (cs := #[.int .i64 a.seg, .int .i64 a.off, .int .u32 a.seq, .slice fa m fc]) rfl rfl ?_
  intro w2 hA hb2 hl2
  try simp only [Act.put, List.setIfInBounds_toArray, List.set_cons_succ, List.set_cons_zero]
  refine takeL (.slice none 0 0) rfl (by go_simp) ?_
  try simp only [Act.put, List.setIfInBounds_toArray, List.set_cons_succ, List.set_cons_zero]
  refine alloc_g zero40 rfl ?_
  intro w3 hT hb3 hl3
  try simp only [Act.put, List.setIfInBounds_toArray, List.set_cons_succ, List.set_cons_zero]
  have HG3 := Lib.hid (hG.below (hb2.trans (hb3.mono hb2.size)) hG.lt)
  have HA3 := Lib.hid (hA.below hb3 hA.lt)
  have HT3 := Lib.hid hT
  have HB3 : Hid (Below w.heap.size w w3) := Lib.hid (hb1.trans ((hb2.trans (hb3.mono hb2.size)).mono hb1.size))
  have HL3 : Hid (w.heap.size < w1.heap.size ∧ w1.heap.size < w2.heap.size ∧ w2.heap.size < w3.heap.size) := Lib.hid ⟨hl1, hl2, hl3⟩
  clear hG hA hT hb1 hb2 hb3 hl1 hl2 hl3
  refine takeL (.int .i64 0) rfl (by go_simp) ?_
  try simp only [Act.put, List.setIfInBounds_toArray, List.set_cons_succ, List.set_cons_zero]
  refine wpList_nil ?_
  go_upto_region 1 with fail
  refine wp_region_lit ?_
  refine takeL (.pointer (some ⟨b, 0, none⟩)) rfl (by go_simp) ?_
  try simp only [Act.put, List.setIfInBounds_toArray, List.set_cons_succ, List.set_cons_zero]
  refine takeL (.agg #[.int .i64 g.p, .int .i64 g.s, .int .i64 g.l, .int .i64 g.f]) rfl (by have q := HG3.out; have q0 := q.cell (i := 0) rfl; have q1 := q.cell (i := 1) rfl; have q2 := q.cell (i := 2) rfl; have q3 := q.cell (i := 3) rfl; go_simp) ?_
  try simp only [Act.put, List.setIfInBounds_toArray, List.set_cons_succ, List.set_cons_zero]
  refine takeL (.agg #[.int .i64 a.seg, .int .i64 a.off, .int .u32 a.seq, .slice fa m fc]) rfl (by have q := HA3.out; have q0 := q.cell (i := 0) rfl; have q1 := q.cell (i := 1) rfl; have q2 := q.cell (i := 2) rfl; have q3 := q.cell (i := 3) rfl; go_simp) ?_
  try simp only [Act.put, List.setIfInBounds_toArray, List.set_cons_succ, List.set_cons_zero]
  refine wpList_op rfl fun K hK => ?_
  go_simp
  refine (HNEW.out w3 HB3.out).mono ?_
  rintro e w4 ⟨jb, jv, rfl, hj, hjb, hb⟩
  have HJ4 := Lib.hid hj
  have HG4 := Lib.hid (HG3.out.below hb HG3.out.lt)
  have HT4 := Lib.hid (HT3.out.below hb HT3.out.lt)
  have HB4 := Lib.hid (stay HB3.out hb)
  have HL4 : Hid (w3.heap.size ≤ w4.heap.size) := Lib.hid hb.size
  clear hj hjb hb HG3 HA3 HT3 HB3 HNEW
  refine hK _ _ ?_
  clear hK K
  try simp only [Act.put, List.setIfInBounds_toArray, List.set_cons_succ, List.set_cons_zero]
  refine takeL (.tuple #[.pointer (some ⟨jb, 0, none⟩), .int .i64 0]) rfl (by go_simp) ?_
  try simp only [Act.put, List.setIfInBounds_toArray, List.set_cons_succ, List.set_cons_zero]
  refine takeL (.pointer (some ⟨jb, 0, none⟩)) rfl (by go_simp) ?_
  try simp only [Act.put, List.setIfInBounds_toArray, List.set_cons_succ, List.set_cons_zero]
  refine takeL (.int .i64 0) rfl (by go_simp) ?_
  try simp only [Act.put, List.setIfInBounds_toArray, List.set_cons_succ, List.set_cons_zero]
  refine takeL (.pointer (some ⟨jb, 0, none⟩)) rfl (by go_simp) ?_
  try simp only [Act.put, List.setIfInBounds_toArray, List.set_cons_succ, List.set_cons_zero]
  refine takeL (.int .i64 0) rfl (by go_simp) ?_
  try simp only [Act.put, List.setIfInBounds_toArray, List.set_cons_succ, List.set_cons_zero]
  refine wpList_nil ?_
  go_upto_region 4 with fail
  refine wp_region_lit ?_
  refine takeL (.pointer (some ⟨jb, 0, none⟩)) rfl (by go_simp) ?_
  try simp only [Act.put, List.setIfInBounds_toArray, List.set_cons_succ, List.set_cons_zero]
  refine wpList_op rfl fun K hK => ?_
  go_simp
  refine (at_any HJ4.out).mono ?_
  rintro e w5 ⟨tv, rfl, ho, hb⟩
  obtain ⟨ta, tc, htv⟩ := ho.ints.form
  obtain ⟨n9, hn9⟩ : ∃ n, a.free.length = n := ⟨_, rfl⟩
  rw [hn9] at htv
  subst htv
  have HF5 := Lib.hid ho.ints
  have HFL : Hid (∀ b' o n c, Value.slice ta n9 tc = .slice (some ⟨b', o, none⟩) n c → w4.heap.size ≤ b' ∧ b' < w5.heap.size) := Lib.hid fun b' o n c e => ho.lt b' (by rw [e]; rfl)
  have HFC : Hid (∀ q n c, Value.slice ta n9 tc = .slice q n c → n ≤ c) := Lib.hid ho.cp
  have HG5 := Lib.hid (HG4.out.below hb HG4.out.lt)
  have HT5 := Lib.hid (HT4.out.below hb HT4.out.lt)
  have HB5 := Lib.hid (stay HB4.out hb)
  have HL5 : Hid (w4.heap.size ≤ w5.heap.size) := Lib.hid hb.size
  clear ho hb hn9 HG4 HT4 HB4 HJ4
  refine hK _ _ ?_
  clear hK K
  try simp only [Act.put, List.setIfInBounds_toArray, List.set_cons_succ, List.set_cons_zero]
  refine alloc_g zero40 rfl ?_
  intro w6 hV hb6 hl6
  try simp only [Act.put, List.setIfInBounds_toArray, List.set_cons_succ, List.set_cons_zero]
  refine store_all (cs := #[.int .i64 a.seg, .int .i64 a.off, .int .u32 a.seq, .slice ta n9 tc]) hV rfl info40 (at_one _ _ _ _ _ _) rfl rfl rfl ?_
  intro w7 hD hO hlD
  try simp only [Act.put, List.setIfInBounds_toArray, List.set_cons_succ, List.set_cons_zero]
  have hbb : Below w5.heap.size w5 w7 := hb6.trans (hO.below hb6.size fun k hk => Nat.le_of_eq hk.symm)
  have HLP : Hid (Lp w w7 w.heap.size w2.heap.size w5.heap.size g a (.slice ta n9 tc) (.slice none 0 0) [] []) := Lib.hid (by
    have h3 := HL3.out
    have h4 := HL4.out
    have h5 := HL5.out
    exact ⟨HG5.out.below hbb HG5.out.lt, HT5.out.below hbb HT5.out.lt, hD, Gs.nil _ _, HF5.out.below hbb, fun b' o n c e => (HFL.out b' o n c e).2, fun b' o n c e => by have := (HFL.out b' o n c e).1; omega, HFC.out, stay HB5.out hbb, Nat.le_refl _, by omega, by omega, by omega⟩)
  clear hV hb6 hl6 hD hO hlD hbb HF5 HFL HFC HG5 HT5 HB5 HL4 HL5 HL3
  obtain ⟨gB, hgB⟩ : ∃ k, w.heap.size = k := ⟨_, rfl⟩
  have HGB := Lib.hid hgB
  rw [hgB]
  have HLP2 : Hid (Lp w w7 gB w2.heap.size w5.heap.size g a (.slice ta n9 tc) (.slice none 0 0) [] []) := Lib.hid (by rw [← HGB.out]; exact HLP.out)
  clear HLP hgB
  generalize w2.heap.size = tB at *
  generalize w5.heap.size = vB at *
  refine wpList_nil ?_
  have HMF := Lib.hid (mm_few HGD.out)
  have HWY : Hid (Way X g a [] a) := Lib.hid .nil
  go_wp2_with fail
  go_loopg [12] (mm g a) (fun q s12 wr => ∃ P b1 fw sv l, s12 = sv ∧ Way X g a P b1 ∧ b1.good g = true ∧ Seq32 b1.seq ∧ mm g b1 ≤ q ∧ P.length + mm g b1 ≤ 1000 ∧ Lp w wr gB tB vB g b1 fw sv P l)
  case atStart => exact ⟨[], a, _, _, [], rfl, HWY.out, HGD.out, HSQ.out, Nat.le_refl _, by have := HMF.out; simpa using this, HLP2.out⟩
  case round =>
    obtain ⟨P, b1, fw, sv, l, rfl, hway, hg1, hq1, hmm, hpl, hlp⟩ := hrel
    have HW1 := Lib.hid hway
    have HG1 := Lib.hid hg1
    have HQ1 := Lib.hid hq1
    have HPL := Lib.hid hpl
    have HLP := Lib.hid hlp
    obtain ⟨qa, qc, hqv⟩ := hlp.fr.form
    obtain ⟨qn, hqn⟩ : ∃ n, b1.free.length = n := ⟨_, rfl⟩
    rw [hqn] at hqv
    subst hqv
    obtain ⟨sa, sc, hsv, -⟩ := hlp.gs.own.len
    rw [hlp.gs.len] at hsv
    obtain ⟨sn, hsn⟩ : ∃ n, P.length = n := ⟨_, rfl⟩
    rw [hsn] at hsv hpl
    subst hsv
    have HNC := Lib.hid (HNX.out wr b1 _ hlp.bel hg1 hq1 hlp.fr hlp.cp (fun b' o n c e => by have h1 := hlp.fb b' o n c e; have h2 := hlp.lt; omega))
    clear hway hg1 hq1 hlp hqn HLP2 HWY hsn
    go_upto_region 6 with fail
    refine wp_region_lit ?_
    refine takeL (.pointer (some ⟨b, 0, none⟩)) rfl (by go_simp) ?_
    try simp only [Act.put, List.setIfInBounds_toArray, List.set_cons_succ, List.set_cons_zero]
    refine takeL (.agg #[.int .i64 g.p, .int .i64 g.s, .int .i64 g.l, .int .i64 g.f]) rfl (by have q := HLP.out.gb; have q0 := q.cell (i := 0) rfl; have q1 := q.cell (i := 1) rfl; have q2 := q.cell (i := 2) rfl; have q3 := q.cell (i := 3) rfl; go_simp) ?_
    try simp only [Act.put, List.setIfInBounds_toArray, List.set_cons_succ, List.set_cons_zero]
    refine takeL (.agg #[.int .i64 b1.seg, .int .i64 b1.off, .int .u32 b1.seq, .slice qa qn qc]) rfl (by have q := HLP.out.vb; have q0 := q.cell (i := 0) rfl; have q1 := q.cell (i := 1) rfl; have q2 := q.cell (i := 2) rfl; have q3 := q.cell (i := 3) rfl; go_simp) ?_
    try simp only [Act.put, List.setIfInBounds_toArray, List.set_cons_succ, List.set_cons_zero]
    refine wpList_op rfl fun K hK => ?_
    go_simp
    refine (HNC.out).mono ?_
    rintro e w5 ⟨ho, hb⟩
    have HLP5 := Lib.hid (HLP.out.below hb)
    have HWR : Hid (vB < wr.heap.size ∧ wr.heap.size ≤ w5.heap.size) := Lib.hid ⟨HLP.out.lt.2.2.2, hb.size⟩
    have HRW : Hid (∀ k, Value.ownBlock (.slice sa sn sc) = some k → k < wr.heap.size) := Lib.hid fun k hk => (HLP.out.gs.own.lt k hk).2
    clear hb HLP HNC
    rcases ho with ⟨hr, v, rfl, hf⟩ | ⟨l2, b2, ia, n1, c1, aa, n2, c2, pl, fq, fn, fcc, hr, rfl, hpl2, hi, hp, hfr, hfn, hfo, hpb, hff⟩
    · have HR := Lib.hid hr
      obtain ⟨T, dd, t, ts, hv, hc⟩ := id hf
      subst hv
      have HFT := Lib.hid hf
      clear hf hr hc
      refine hK _ _ ?_
      clear hK K
      try simp only [Act.put, List.setIfInBounds_toArray, List.set_cons_succ, List.set_cons_zero]
      refine takeL (.tuple #[.agg #[.slice none 0 0, .slice none 0 0], .agg #[.int .i64 0, .int .i64 0, .int .u32 0, .slice none 0 0], .iface T dd]) rfl (by go_simp) ?_
      try simp only [Act.put, List.setIfInBounds_toArray, List.set_cons_succ, List.set_cons_zero]
      refine takeL (.agg #[.slice none 0 0, .slice none 0 0]) rfl (by go_simp) ?_
      try simp only [Act.put, List.setIfInBounds_toArray, List.set_cons_succ, List.set_cons_zero]
      refine takeL (.agg #[.int .i64 0, .int .i64 0, .int .u32 0, .slice none 0 0]) rfl (by go_simp) ?_
      try simp only [Act.put, List.setIfInBounds_toArray, List.set_cons_succ, List.set_cons_zero]
      refine takeL (.iface T dd) rfl (by go_simp) ?_
      try simp only [Act.put, List.setIfInBounds_toArray, List.set_cons_succ, List.set_cons_zero]
      refine alloc_g zero55 rfl ?_
      intro w6 hx hb6 hl6
      try simp only [Act.put, List.setIfInBounds_toArray, List.set_cons_succ, List.set_cons_zero]
      refine alloc_g zero40 rfl ?_
      intro w7 he hb7 hl7
      try simp only [Act.put, List.setIfInBounds_toArray, List.set_cons_succ, List.set_cons_zero]
      refine store_all (cs := #[.slice none 0 0, .slice none 0 0]) (hx.below hb7 hx.lt) rfl info55 (gr_one none none 0 0 0 0) rfl rfl rfl ?_
      intro w8 hD8 hO8 hlD8
      try simp only [Act.put, List.setIfInBounds_toArray, List.set_cons_succ, List.set_cons_zero]
      refine store_all (cs := #[.int .i64 0, .int .i64 0, .int .u32 0, .slice none 0 0]) (he.only hO8 (by omega)) rfl info40 (at_one _ _ _ _ _ _) rfl rfl rfl ?_
      intro w9 hD9 hO9 hlD9
      have hbb : Below w5.heap.size w5 w9 := ((hb6.trans (hb7.mono hb6.size)).trans (hO8.below (Nat.le_trans hb6.size hb7.size) fun k hk => Nat.le_of_eq hk.symm)).trans (hO9.below (Nat.le_trans (Nat.le_trans hb6.size hb7.size) hO8.size) fun k hk => by omega)
      have HLP9 := Lib.hid (HLP5.out.below hbb)
      have HF9 := Lib.hid (HFT.out.below hbb)
      clear hx hb6 hl6 he hb7 hl7 hD8 hO8 hlD8 hD9 hO9 hlD9 hbb HLP5 HFT
      try simp only [Act.put, List.setIfInBounds_toArray, List.set_cons_succ, List.set_cons_zero]
      refine takeL (.iface T dd) rfl (by go_simp) ?_
      try simp only [Act.put, List.setIfInBounds_toArray, List.set_cons_succ, List.set_cons_zero]
      refine wpList_nil ?_
      obtain ⟨T', d', t', ts', hv, hc⟩ := id HF9.out
      cases hv
      have HC := Lib.hid hc
      clear hc
      go_wp2_with fail
      refine (is_num 17 17 true rfl _ T dd _ HC.out).mono ?_
      rintro e w10 ⟨rfl, hb⟩
      have HLP10 := Lib.hid (HLP9.out.below hb)
      clear hb HLP9 HF9 HC
      go_upto_region 8 with fail
      refine startH (fun wq => Blk wq vB [.int .i64 b1.seg, .int .i64 b1.off, .int .u32 b1.seq, .slice qa qn qc]) (by kernel_rfl) ?_
      have HSd := Lib.hid HLP10.out.vb.drew
      have HLPd := Lib.hid (HLP10.out.below (Below.refl _ _).drew)
      generalize w10.drew = wS at *
      refine takeH 0 (some 39) (.slice sa sn sc) rfl rfl (by kernel_rfl) (by kernel_rfl) (by kernel_rfl) (fun _ _ _ h => h) rfl (fun wq hS => by go_simp) HSd.out ?_
      try simp only [Act.put, List.setIfInBounds_toArray, List.set_cons_succ, List.set_cons_zero]
      refine takeH 1 (some 40) (.agg #[.int .i64 b1.seg, .int .i64 b1.off, .int .u32 b1.seq, .slice qa qn qc]) rfl rfl (by kernel_rfl) (by kernel_rfl) (by kernel_rfl) (fun _ _ _ h => h) rfl (fun wq hS => by have q0 := hS.cell (i := 0) rfl; have q1 := hS.cell (i := 1) rfl; have q2 := hS.cell (i := 2) rfl; have q3 := hS.cell (i := 3) rfl; go_simp) HSd.out ?_
      try simp only [Act.put, List.setIfInBounds_toArray, List.set_cons_succ, List.set_cons_zero]
      refine takeH 2 (some 6) (.slice sa sn sc) rfl rfl (by kernel_rfl) (by kernel_rfl) (by kernel_rfl) (fun _ _ _ h => h) rfl (fun wq hS => by go_simp) HSd.out ?_
      try simp only [Act.put, List.setIfInBounds_toArray, List.set_cons_succ, List.set_cons_zero]
      refine oneH 3 (by kernel_rfl) rfl rfl fun K hK => ?_
      refine wp_store_all 40 _ _ rfl tB #[.int .i64 b1.seg, .int .i64 b1.off, .int .u32 b1.seq, .slice qa qn qc] rfl rfl _ HLPd.out.tb rfl info40 (at_one _ _ _ _ _ _) ?_
      intro u11 hD hO
      have HLT := Lib.hid HLPd.out.lt
      have HV11 := Lib.hid (HLPd.out.vb.only hO (by have := HLT.out; omega))
      have HT11 := Lib.hid hD
      have HG11 := Lib.hid (HLPd.out.gs.only hO fun k hk _ => by have := HLT.out; omega)
      have HI11 := Lib.hid (HLPd.out.fr.onlyF hO fun b' o n c e => HLPd.out.fg b' o n c e)
      have HB11 := Lib.hid (HLPd.out.bel.trans (hO.below HLPd.out.bel.size fun k hk => by have := HLT.out; omega))
      refine hK _ _ HV11.out ?_
      clear hK K hD hO
      try simp only [Act.put, List.setIfInBounds_toArray, List.set_cons_succ, List.set_cons_zero]
      refine takeH 4 (some 8) (.int .i64 0) rfl rfl (by kernel_rfl) (by kernel_rfl) (by kernel_rfl) (fun _ _ _ h => h) rfl (fun wq hS => by go_simp) HV11.out ?_
      try simp only [Act.put, List.setIfInBounds_toArray, List.set_cons_succ, List.set_cons_zero]
      refine wpAnyH_done (by kernel_rfl) ?_ _
      go_wp2_with fail
      refine bodyPost_ret (v := .tuple #[.slice sa sn sc, .agg #[.int .i64 b1.seg, .int .i64 b1.off, .int .u32 b1.seq, .slice qa qn qc], .int .i64 0]) (results_tct rfl _ _ tB #[.int .i64 b1.seg, .int .i64 b1.off, .int .u32 b1.seq, .slice qa qn qc] _ _ _ rfl rfl rfl Tryz.underlying40 rfl info40 (HT11.out.all rfl)) rfl ?_
      exact ⟨P, b1, HW1.out, HR.out, _, _, rfl, ⟨_, _, HG11.out⟩, HI11.out, HGB.out ▸ HB11.out⟩
    · have HR := Lib.hid hr
      obtain ⟨hmb, hnx, hs1⟩ := nxt_nx HG1.out hr
      have HI5 := Lib.hid hi
      have HP5 := Lib.hid hp
      have HF5 := Lib.hid hfr
      have HFN := Lib.hid hfn
      have HPL2 := Lib.hid hpl2
      have hl1 : 1 ≤ l2.length := (mayBe_iff.1 hmb).1
      have HAP : Hid (Apt (vB + 1) (Value.ownBlock (.slice sa sn sc)) w5 (.slice ia n1 c1, .slice aa n2 c2) (l2, pOf g b1 b2 l2)) := Lib.hid (by
        have h2 := HWR.out
        have key : ∀ b' : Nat, wr.heap.size ≤ b' → vB + 1 ≤ b' ∧ some b' ≠ Value.ownBlock (.slice sa sn sc) := fun b' hb' => ⟨by omega, fun e => by have := HRW.out b' e.symm; omega⟩
        refine ⟨pl, hi, hpl2, hp, ?_, ?_, fun b' o n c e => key b' (hff.1 b' o n c e), fun b' o n c e => key b' (hpb b' (by rw [show Value.slice aa n2 c2 = _ from e]; rfl)), fun y hy _ b' o n c e => key b' (hff.2 y hy b' o n c e)⟩
        · have := congrArg List.length hpl2
          rw [List.length_map] at this
          omega
        · unfold pOf
          show 0 < ((lay2 b1.seq l2).2.map _).length
          rw [List.length_map, lay2_at]
          omega)
      have HFB5 : Hid (∀ b' o n c, Value.slice fq fn fcc = .slice (some ⟨b', o, none⟩) n c → b' < vB ∧ b' ≠ tB) := Lib.hid fun b' o n c e => by
        injection e with e1 e2 e3
        obtain ⟨o2, n2', c2', h3⟩ := hfo b' o e1
        exact ⟨HLP5.out.fb b' o2 n2' c2' h3, HLP5.out.fg b' o2 n2' c2' h3⟩
      have HGA : Hid ((aft b1 b2 l2).good g = true ∧ mm g (aft b1 b2 l2) < mm g b1) := Lib.hid ⟨hnx.good _, mm_next HG1.out hmb hnx hs1⟩
      have HWA : Hid (Way X g a (P ++ [(l2, pOf g b1 b2 l2)]) (aft b1 b2 l2)) := Lib.hid (.snoc HW1.out hr)
      have HSA : Hid (Seq32 (aft b1 b2 l2).seq) := Lib.hid (seq_mod _)
      have HAE : Hid (aft b1 b2 l2 = ⟨b2.seg, b2.off + (lay2 b1.seq l2).1.length, (b1.seq + partsN l2) % M32, b2.free⟩) := Lib.hid rfl
      obtain ⟨k, hk⟩ : ∃ k, (lay2 b1.seq l2).1.length = k := ⟨_, rfl⟩
      rw [hk] at HAE ⊢
      obtain ⟨q, hq⟩ : ∃ q, partsN l2 = q := ⟨_, rfl⟩
      rw [hq] at HAE ⊢
      clear hr hi hp hfr hfn hpl2 hmb hnx hs1 hpb hff hfo hk hq hl1 HI5 HP5
      refine hK _ _ ?_
      clear hK K
      try simp only [Act.put, List.setIfInBounds_toArray, List.set_cons_succ, List.set_cons_zero]
      refine takeL (.tuple #[.agg #[.slice ia n1 c1, .slice aa n2 c2], .agg #[.int .i64 b2.seg, .int .i64 (b2.off + (k : Int)), .int .u32 ((b1.seq + q) % M32), .slice fq fn fcc], .nilIface]) rfl (by go_simp) ?_
      try simp only [Act.put, List.setIfInBounds_toArray, List.set_cons_succ, List.set_cons_zero]
      refine takeL (.agg #[.slice ia n1 c1, .slice aa n2 c2]) rfl (by go_simp) ?_
      try simp only [Act.put, List.setIfInBounds_toArray, List.set_cons_succ, List.set_cons_zero]
      refine takeL (.agg #[.int .i64 b2.seg, .int .i64 (b2.off + (k : Int)), .int .u32 ((b1.seq + q) % M32), .slice fq fn fcc]) rfl (by go_simp) ?_
      try simp only [Act.put, List.setIfInBounds_toArray, List.set_cons_succ, List.set_cons_zero]
      refine takeL (.nilIface) rfl (by go_simp) ?_
      try simp only [Act.put, List.setIfInBounds_toArray, List.set_cons_succ, List.set_cons_zero]
      refine alloc_g zero55 rfl ?_
      intro w6 hx hb6 hl6
      try simp only [Act.put, List.setIfInBounds_toArray, List.set_cons_succ, List.set_cons_zero]
      refine alloc_g zero40 rfl ?_
      intro w7 he hb7 hl7
      try simp only [Act.put, List.setIfInBounds_toArray, List.set_cons_succ, List.set_cons_zero]
      refine store_all (cs := #[.slice ia n1 c1, .slice aa n2 c2]) (hx.below hb7 hx.lt) rfl info55 (gr_one _ _ _ _ _ _) rfl rfl rfl ?_
      intro w8 hD8 hO8 hlD8
      try simp only [Act.put, List.setIfInBounds_toArray, List.set_cons_succ, List.set_cons_zero]
      refine store_all (cs := #[.int .i64 b2.seg, .int .i64 (b2.off + (k : Int)), .int .u32 ((b1.seq + q) % M32), .slice fq fn fcc]) (he.only hO8 (by omega)) rfl info40 (at_one _ _ _ _ _ _) rfl rfl rfl ?_
      intro w9 hD9 hO9 hlD9
      have hbb : Below w5.heap.size w5 w9 := ((hb6.trans (hb7.mono hb6.size)).trans (hO8.below (Nat.le_trans hb6.size hb7.size) fun k hk => Nat.le_of_eq hk.symm)).trans (hO9.below (Nat.le_trans (Nat.le_trans hb6.size hb7.size) hO8.size) fun k hk => by omega)
      have HLP9 := Lib.hid (HLP5.out.below hbb)
      have HAP9 := Lib.hid (HAP.out.below hbb)
      have HF9 := Lib.hid (HF5.out.below hbb)
      have HX9 := Lib.hid (hD8.only hO9 (by omega))
      have HE9 := Lib.hid hD9
      have HXE : Hid (wr.heap.size ≤ w5.heap.size ∧ w5.heap.size < w6.heap.size) := Lib.hid ⟨HWR.out.2, hl6⟩
      clear hx hb6 hl6 he hb7 hl7 hD8 hO8 hlD8 hD9 hO9 hlD9 hbb HLP5 HAP HF5
      generalize w5.heap.size = xB at *
      generalize w6.heap.size = eB at *
      try simp only [Act.put, List.setIfInBounds_toArray, List.set_cons_succ, List.set_cons_zero]
      refine takeL (.nilIface) rfl (by go_simp) ?_
      try simp only [Act.put, List.setIfInBounds_toArray, List.set_cons_succ, List.set_cons_zero]
      refine wpList_nil ?_
      go_wp2_with fail
      refine (is_nil 17 false rfl _).mono ?_
      rintro e w10 ⟨rfl, hb⟩
      have HLP10 := Lib.hid (HLP9.out.below hb)
      have HAP10 := Lib.hid (HAP9.out.below hb)
      have HF10 := Lib.hid (HF9.out.below hb)
      have HX10 := Lib.hid (HX9.out.below hb HX9.out.lt)
      have HE10 := Lib.hid (HE9.out.below hb HE9.out.lt)
      clear hb HLP9 HAP9 HF9 HX9 HE9
      go_upto_region 9 with fail
      refine startH (fun wq => Blk wq xB [.slice ia n1 c1, .slice aa n2 c2] ∧ Blk wq eB [.int .i64 b2.seg, .int .i64 (b2.off + (k : Int)), .int .u32 ((b1.seq + q) % M32), .slice fq fn fcc]) (by kernel_rfl) ?_
      have HSd : Hid (Blk w10.drew xB [.slice ia n1 c1, .slice aa n2 c2] ∧ Blk w10.drew eB [.int .i64 b2.seg, .int .i64 (b2.off + (k : Int)), .int .u32 ((b1.seq + q) % M32), .slice fq fn fcc]) := Lib.hid ⟨HX10.out.drew, HE10.out.drew⟩
      have HLPd := Lib.hid (HLP10.out.below (Below.refl _ _).drew)
      have HAPd := Lib.hid (HAP10.out.below (Below.refl _ _).drew)
      have HFd := Lib.hid (HF10.out.below (Below.refl _ _).drew)
      clear HLP10 HAP10 HF10 HX10 HE10
      generalize w10.drew = wS at *
      refine takeH 0 (some 41) (.slice sa sn sc) rfl rfl (by kernel_rfl) (by kernel_rfl) (by kernel_rfl) (fun _ _ _ h => h) rfl (fun wq hS => by go_simp) HSd.out ?_
      try simp only [Act.put, List.setIfInBounds_toArray, List.set_cons_succ, List.set_cons_zero]
      refine takeH 1 (some 42) (.agg #[.slice ia n1 c1, .slice aa n2 c2]) rfl rfl (by kernel_rfl) (by kernel_rfl) (by kernel_rfl) (fun _ _ _ h => h) rfl (fun wq hS => by have q0 := hS.1.cell (i := 0) rfl; have q1 := hS.1.cell (i := 1) rfl; go_simp) HSd.out ?_
      try simp only [Act.put, List.setIfInBounds_toArray, List.set_cons_succ, List.set_cons_zero]
      refine takeH 4 (some 45) (.agg #[.int .i64 b2.seg, .int .i64 (b2.off + (k : Int)), .int .u32 ((b1.seq + q) % M32), .slice fq fn fcc]) rfl rfl (by kernel_rfl) (by kernel_rfl) (by kernel_rfl) (fun _ _ _ h => h) rfl (fun wq hS => by have q0 := hS.2.cell (i := 0) rfl; have q1 := hS.2.cell (i := 1) rfl; have q2 := hS.2.cell (i := 2) rfl; have q3 := hS.2.cell (i := 3) rfl; go_simp) HSd.out ?_
      try simp only [Act.put, List.setIfInBounds_toArray, List.set_cons_succ, List.set_cons_zero]
      refine oneH 2 (by kernel_rfl) rfl rfl fun K hK => ?_
      refine wp_runTo (some 43) rfl (.slice (some ⟨wS.heap.size, 0, none⟩) 1 1) (wS.alloc (.cells #[.slice ia n1 c1, .slice aa n2 c2] 55)) (by exact exec_buildSlice _ _ _ _ 50 1 _ rfl #[(0, .agg #[.slice ia n1 c1, .slice aa n2 c2])] (by simp only [List.map_toArray, List.map_cons, List.map_nil]; rfl) _ (run_litG wS _ _ rfl rfl)) ?_
      have hb := alloc_bel wS (.cells #[.slice ia n1 c1, .slice aa n2 c2] 55)
      have hN := Blk.new wS #[.slice ia n1 c1, .slice aa n2 c2] 55
      have HSe : Hid (Blk (wS.alloc (.cells #[.slice ia n1 c1, .slice aa n2 c2] 55)) xB [.slice ia n1 c1, .slice aa n2 c2] ∧ Blk (wS.alloc (.cells #[.slice ia n1 c1, .slice aa n2 c2] 55)) eB [.int .i64 b2.seg, .int .i64 (b2.off + (k : Int)), .int .u32 ((b1.seq + q) % M32), .slice fq fn fcc]) := Lib.hid ⟨HSd.out.1.below hb HSd.out.1.lt, HSd.out.2.below hb HSd.out.2.lt⟩
      have HLPe := Lib.hid (HLPd.out.below hb)
      have HAPe := Lib.hid (HAPd.out.below hb)
      have HFe := Lib.hid (HFd.out.below hb)
      have HNe := Lib.hid hN
      refine hK _ _ HSe.out ?_
      clear hK K hb hN HLPd HAPd HFd HSd
      generalize wS.alloc (.cells #[.slice ia n1 c1, .slice aa n2 c2] 55) = wT at *
      generalize wS.heap.size = nB at *
      try simp only [Act.put, List.setIfInBounds_toArray, List.set_cons_succ, List.set_cons_zero]
      refine oneH 3 (by kernel_rfl) rfl rfl fun K hK => ?_
      refine app_WG _ _ (some 44) rfl rfl HLPe.out.gs (Nat.succ_le_of_lt HLPe.out.lt.2.2.2) nB (.slice ia n1 c1, .slice aa n2 c2) (l2, pOf g b1 b2 l2) (HNe.out.cell (i := 0) rfl) (HNe.out.cell (i := 1) rfl) ⟨rfl, rfl⟩ (by have := HPL.out; omega) HAPe.out rfl rfl ?_
      intro sv' w12 hgs hb hgr
      have HSg : Hid (Blk w12 xB [.slice ia n1 c1, .slice aa n2 c2] ∧ Blk w12 eB [.int .i64 b2.seg, .int .i64 (b2.off + (k : Int)), .int .u32 ((b1.seq + q) % M32), .slice fq fn fcc]) := Lib.hid (by
        have h2 := HXE.out
        exact ⟨HSe.out.1.grown hgr fun j hj => by have := HRW.out j hj; omega, HSe.out.2.grown hgr fun j hj => by have := HRW.out j hj; omega⟩)
      have HLT := Lib.hid HLPe.out.lt
      have HG12 := Lib.hid (HLPe.out.gb.below hb (by have := HLT.out; omega))
      have HT12 := Lib.hid (HLPe.out.tb.below hb (by have := HLT.out; omega))
      have HV12 := Lib.hid (HLPe.out.vb.below hb (by omega))
      have HF12 := Lib.hid (HFe.out.low hb fun b' o n c e => by have := HFB5.out b' o n c e; omega)
      have HB12 : Hid (Below w.heap.size w w12) := Lib.hid (HLPe.out.bel.trans (hb.mono (by have := HLT.out; omega)))
      have HSZ : Hid (wT.heap.size ≤ w12.heap.size) := Lib.hid hb.size
      have HGS := Lib.hid hgs
      obtain ⟨sa2, sc2, hsv2, -⟩ := hgs.own.len
      rw [hgs.len] at hsv2
      obtain ⟨sn2, hsn2⟩ : ∃ n, (P ++ [(l2, pOf g b1 b2 l2)]).length = n := ⟨_, rfl⟩
      rw [hsn2] at hsv2
      subst hsv2
      refine hK _ _ HSg.out ?_
      clear hK K hgs hb hgr hsn2 HLPe HAPe HFe HNe HSe
      try simp only [Act.put, List.setIfInBounds_toArray, List.set_cons_succ, List.set_cons_zero]
      refine takeH 5 (some 12) (.slice sa2 sn2 sc2) rfl rfl (by kernel_rfl) (by kernel_rfl) (by kernel_rfl) (fun _ _ _ h => h) rfl (fun wq hS => by go_simp) HSg.out ?_
      try simp only [Act.put, List.setIfInBounds_toArray, List.set_cons_succ, List.set_cons_zero]
      refine oneH 6 (by kernel_rfl) rfl rfl fun K hK => ?_
      refine wp_store_all 40 _ _ rfl vB #[.int .i64 b2.seg, .int .i64 (b2.off + (k : Int)), .int .u32 ((b1.seq + q) % M32), .slice fq fn fcc] rfl rfl _ HV12.out rfl info40 (at_one _ _ _ _ _ _) ?_
      intro w13 hD hO
      have HSh : Hid (Blk w13 xB [.slice ia n1 c1, .slice aa n2 c2] ∧ Blk w13 eB [.int .i64 b2.seg, .int .i64 (b2.off + (k : Int)), .int .u32 ((b1.seq + q) % M32), .slice fq fn fcc]) := Lib.hid (by
        have h2 := HXE.out
        have h3 := HWR.out
        exact ⟨HSg.out.1.only hO (by omega), HSg.out.2.only hO (by omega)⟩)
      have HLP13 : Hid (Lp w w13 gB tB vB g (aft b1 b2 l2) (.slice fq fn fcc) (.slice sa2 sn2 sc2) (P ++ [(l2, pOf g b1 b2 l2)]) (l ++ [(.slice ia n1 c1, .slice aa n2 c2)])) := Lib.hid (by
        rw [HAE.out]
        have h1 := HLT.out
        have h2 := HSZ.out
        exact ⟨HG12.out.only hO (by omega), HT12.out.only hO (by omega), hD, HGS.out.only hO (fun j hj _ => by omega), HF12.out.onlyF hO (fun b' o n c e => by have := HFB5.out b' o n c e; omega), fun b' o n c e => (HFB5.out b' o n c e).1, fun b' o n c e => (HFB5.out b' o n c e).2, fun q' n' c' e => by injection e with e1 e2 e3; have := HFN.out; omega, HB12.out.trans (hO.below HB12.out.size fun j hj => by omega), h1.1, h1.2.1, h1.2.2.1, by have := hO.size; omega⟩)
      refine hK _ _ HSh.out ?_
      clear hK K hD hO HG12 HT12 HV12 HF12 HB12 HSZ HGS HSg
      try simp only [Act.put, List.setIfInBounds_toArray, List.set_cons_succ, List.set_cons_zero]
      refine wpAnyH_done (by kernel_rfl) ?_ _
      go_wp2_with fail
      go_roundg (mm g (aft b1 b2 l2))
      case measure => have := HGA.out.2; omega
      case rel => exact ⟨_, _, _, _, _, rfl, HWA.out, HGA.out.1, HSA.out, Nat.le_refl _, by rw [List.length_append]; have h1 := HGA.out.2; have h2 := HPL.out; simp only [List.length_cons, List.length_nil]; omega, HLP13.out⟩
end

end Go.Proofs.YthlnmdihdcfphaaGreatDoor
namespace Go.Proofs.YthlnmdihdcfphaaGreatDoor
set_option linter.unusedSimpArgs false
set_option linter.unusedVariables false
open Go.RowKit


end Go.Proofs.YthlnmdihdcfphaaGreatDoor
