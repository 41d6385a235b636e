/- What the statements share: segments in a row, what stays while a journal goes on, slices that are put. -/
import Derived.Test.YthlnmdihdcfphaaGreatDoorSw
import Derived.Test.YthlnmdihdcfphaaGreatDoorMg
namespace Go.Proofs.YthlnmdihdcfphaaGreatDoor
set_option linter.unusedSimpArgs false
set_option linter.unusedVariables false
open Go.RowKit

/-- Segments in a row. -/
def frm (c : Int) (j : Nat) : List Int := (List.range j).map fun (i : Nat) => c + (i : Int)
theorem frm_next (c : Int) (j : Nat) : frm c (j + 1) = frm c j ++ [c + (j : Int)] := by simp [frm, List.range_succ]
theorem frm_len (c : Int) (j : Nat) : (frm c j).length = j := by simp [frm]
theorem frm_at {c : Int} {j i : Nat} (h : i < j) : (frm c j).getD i 0 = c + (i : Int) := by
  simp [frm, List.getD_eq_getElem?_getD, h]
theorem frm_good {g : Pl.Gm} (h : g.Ok) {seg o q c : Int} {j : Nat} (hs : 0 ≤ seg ∧ seg < g.s) (ho : 0 ≤ o ∧ o ≤ g.l) (hc : 0 ≤ c) (hcj : c + (j : Int) ≤ g.s) (hd : seg < c ∨ c + (j : Int) ≤ seg) : (⟨seg, o, q, frm c j⟩ : Ja).good g = true := by
  refine good_of h (by unfold isSeg; simp only [Bool.and_eq_true, decide_eq_true_eq]; exact hs) ho.1 ho.2 (freeOk_all fun i hi => ?_)
  simp only [frm_len] at hi
  unfold okAt isSeg
  rw [frm_at hi]
  simp only [Bool.and_eq_true, decide_eq_true_eq, Bool.not_eq_true', decide_eq_false_iff_not, Bool.or_eq_true]
  refine ⟨⟨⟨by omega, by omega⟩, by show ¬ c + (i : Int) = seg; omega⟩, ?_⟩
  by_cases h0 : i = 0
  · exact .inl h0
  · right
    rw [frm_at (by omega)]
    omega
theorem map_one {α β : Type} {f : α → β} (hf : ∀ a b, f a = f b → a = b) : ∀ (l m : List α), l.map f = m.map f → l = m
  | [], [], _ => rfl
  | [], _ :: _, h => by simp at h
  | _ :: _, [], h => by simp at h
  | a :: l, b :: m, h => by
    simp only [List.map_cons, List.cons.injEq] at h
    rw [hf a b h.1, map_one hf l m h.2]
theorem arr_inj {x y : List Int} (h : (u8s x).toArray = (u8s y).toArray) : x = y := by
  have h2 : u8s x = u8s y := by simpa using congrArg Array.toList h
  exact map_one (fun a b e => by injection e) _ _ h2
/-- The sectors are those of the device. -/
theorem Img.inj {d : De.D} {X Y : List (List Int)} (h : Img d X) (k : Img d Y) : X = Y := by
  have e : X.map (fun y => (u8s y).toArray) = Y.map fun y => (u8s y).toArray := h.v.symm.trans k.v
  exact map_one (fun a b e => arr_inj e) _ _ e
/-- A Put on a device that doesn't fail: it is put, or nothing turns. -/
theorem Sn.goes {d : De.D} {X : List (List Int)} {g : Pl.Gm} {a b : Ja} {P : List (List It × List Int)} {Q : List Int → Prop} (h : Sn d X g a P b Q) (hQ : ∀ y, Q y → NH b.seq y) (hF : d.F < 0) (L : List It) (w : ∀ x ∈ L, x.Wf) :
    ((jput g b d L).e = 0 ∧ (jput g b d L).d.F < 0 ∧ (jput g b d L).d.L = [] ∧ (jput g b d L).a.seq = (b.seq + partsN L) % M32 ∧ 1 ≤ partsN L ∧ partsN L ≤ 3 ∧ ∃ X', Sn (jput g b d L).d X' g a (P ++ [(L, (jput g b d L).pl)]) (jput g b d L).a Q) ∨
    (((jput g b d L).e = 1 ∨ (jput g b d L).e = 14) ∧ (jput g b d L).a = b ∧ (jput g b d L).d = d) := by
  rcases apart_put L h.good h.tot hF with ⟨h1, h2, h3, a1, h4, h5, h6, h7⟩ | ⟨h1, h2, h3, h4⟩
  · obtain ⟨X', k1, k2, k3, k4⟩ := h.put hQ L w h1
    exact .inl ⟨h1, h3, k2, k4, (parts_val h2).1, (parts_val h2).2, X', k1⟩
  · exact .inr ⟨h1, h3, h4⟩
/-- What stays while a journal goes on: some variables, some lists of numbers. -/
structure Kp (W w wr : World) (jb b : Nat) (F : Nat → Prop) (d : De.D) (g : Pl.Gm) (a : Ja) (fv : Value) (Bs : List (Nat × List Value)) (Is : List (Value × List Int)) : Prop where
  jn : Jn W wr jb b F d g a fv
  bl : ∀ x ∈ Bs, Blk wr x.1 x.2 ∧ Safe wr F jb x.1
  il : ∀ x ∈ Is, IntsAt wr x.1 x.2 ∧ ∀ b' o n c, x.1 = .slice (some ⟨b', o, none⟩) n c → Safe wr F jb b'
  bel : Below w.heap.size w wr
  hW : w.heap.size ≤ W.heap.size
section
variable {W w wr wx : World} {jb b : Nat} {F F' : Nat → Prop} {d d' : De.D} {g : Pl.Gm} {a a' : Ja} {fv fv' : Value} {Bs : List (Nat × List Value)} {Is : List (Value × List Int)}
theorem Kp.below (h : Kp W w wr jb b F d g a fv Bs Is) (hb : Below wr.heap.size wr wx) : Kp W w wx jb b F d g a fv Bs Is :=
  ⟨h.jn.below hb, fun x hx => ⟨(h.bl x hx).1.below hb (h.bl x hx).1.lt, (h.bl x hx).2.below hb⟩, fun x hx => ⟨(h.il x hx).1.below hb, fun b' o n c e => ((h.il x hx).2 b' o n c e).below hb⟩, stay h.bel hb, h.hW⟩
theorem Kp.put (h : Kp W w wr jb b F d g a fv Bs Is) (hj : Jn W wx jb b F' d' g a' fv') (ho : Only (fun k => F k ∨ k = jb) wr wx) (hn : ∀ k, F' k → F k ∨ wr.heap.size ≤ k) : Kp W w wx jb b F' d' g a' fv' Bs Is :=
  ⟨hj, fun x hx => ⟨(h.bl x hx).2.blk ho (h.bl x hx).1, (h.bl x hx).2.next ho hn⟩, fun x hx => ⟨(h.il x hx).1.onlyF ho fun b' o n c e hF => by
    have := (h.il x hx).2 b' o n c e
    exact hF.elim this.2.1 this.2.2, fun b' o n c e => ((h.il x hx).2 b' o n c e).next ho hn⟩, h.bel.trans (ho.below h.bel.size fun k hk => by
    rcases hk with hk | hk
    · exact Nat.le_trans h.hW (h.jn.dv.lt k hk).1
    · rw [hk]; exact Nat.le_trans h.hW h.jn.lo), h.hW⟩
theorem Kp.dev (h : Kp W w wr jb b F d g a fv Bs Is) (hj : Jn W wx jb b F' d' g a fv) (ho : Only F wr wx) (hn : ∀ k, F' k → F k ∨ wr.heap.size ≤ k) : Kp W w wx jb b F' d' g a fv Bs Is :=
  h.put hj (ho.more fun _ _ hk => .inl hk) hn
end
/-- A slice of slices that one appends to. -/
def OwnV (w : World) (B : Nat) (sv : Value) (l : List Value) : Prop := w.ownsRow B 44 1 sv l.length l
theorem OwnV.nil (w : World) (B : Nat) : OwnV w B (.slice none 0 0) [] := World.ownsRow_nil w B 44 1
theorem OwnV.lt {w : World} {B : Nat} {sv : Value} {l : List Value} (h : OwnV w B sv l) : ∀ k, sv.ownBlock = some k → B ≤ k ∧ k < w.heap.size := World.ownsRow.lt h
theorem OwnV.only {w w' : World} {B : Nat} {sv : Value} {l : List Value} {F : Nat → Prop} (h : OwnV w B sv l) (ho : Only F w w') (hF : ∀ k, sv.ownBlock = some k → ¬ F k) : OwnV w' B sv l := by
  refine ⟨h.1, ?_⟩
  rcases h.2 with hn | ⟨g, cap, cur, e, hB, hg, r⟩
  · exact .inl hn
  · have hl := (Array.getElem?_eq_some_iff.1 hg).1
    exact .inr ⟨g, cap, cur, e, hB, (ho.block g hl (hF g (by rw [e]; rfl))).trans hg, r⟩
theorem OwnV.below {w w' : World} {B : Nat} {sv : Value} {l : List Value} (h : OwnV w B sv l) (hb : Below w.heap.size w w') : OwnV w' B sv l := h.only (Only.of_belowB hb) fun k hk => by have := (h.lt k hk).2; omega
theorem OwnV.len {w : World} {B : Nat} {sv : Value} {l : List Value} (h : OwnV w B sv l) : ∃ a c, sv = .slice a l.length c ∧ l.length ≤ c := by
  rcases h.2 with ⟨e, h0⟩ | ⟨g, cap, cur, e, _, _, hn, _⟩
  · exact ⟨none, 0, by rw [e, h0], by omega⟩
  · exact ⟨_, cap, e, hn⟩
theorem OwnV.at {w : World} {B : Nat} {sv : Value} {l : List Value} (h : OwnV w B sv l) {i : Nat} {v : Value} (hi : l[i]? = some v) : ∃ g cap, sv = .slice (some ⟨g, 0, none⟩) l.length cap ∧ w.cell? ⟨g, i, none⟩ = some v := by
  have hil := (List.getElem?_eq_some_iff.1 hi).1
  rcases id h.2 with ⟨e, h0⟩ | ⟨g, cap, cur, rfl, hb, hg, hn, hm, hs, ht⟩
  · omega
  · exact ⟨g, cap, rfl, by rw [World.ownsRow.cellAt h i (by omega), hi]⟩
theorem zero44 : (Tryz.prog.info? 44).bind (·.zero) = some (.slice none 0 0) := by kernel_rfl
theorem info44b : (Tryz.prog.info? 44).map (fun i => (i.size, i.bytes)) = some (1, 24) := by kernel_rfl
theorem inf44 : ∃ i, Tryz.prog.info? 44 = some i ∧ i.zero = some (.slice none 0 0) ∧ i.size = 1 ∧ i.bytes = 24 := by
  have h1 := info44b
  have h2 := zero44
  cases hq : Tryz.prog.info? 44 with
  | none => simp [hq] at h1
  | some i =>
    simp [hq] at h1 h2
    exact ⟨i, rfl, h2, h1⟩
section
variable {ops : Array Oper} {rest : List Oper} {dst : Option Tmp} {x y : Operand} {t2 : TypeId} {pos : String} {after : Array Edge} {guard : Option (Nat × Bool)} {a : Act} {w : World} {Q : Exit → Act → World → Prop}
theorem app_LV {B : Nat} {sv v : Value} {l : List Value} (h : OwnV w B sv l) (hB : B ≤ w.heap.size) (g0 : Nat) (c0 : w.cell? ⟨g0, 0, none⟩ = some v) (h1 : v.oneCell' = true) (hlen : l.length + 1 ≤ 100000) (hx : a.eval x = sv) (hy : a.eval y = .slice (some ⟨g0, 0, none⟩) 1 1)
    (hw : Region.wanted ⟨dst, .call { callee := .builtin .append, args := #[x, y], argTypes := #[24, 24] }, t2, pos, after, guard⟩ (yielded ops a.tmps) = true)
    (hh : ∀ sv' w', OwnV w' B sv' (l ++ [v]) → w.grownBy w' sv.ownBlock → (sv'.ownBlock = sv.ownBlock ∨ sv'.ownBlock = some w.heap.size) → wpList Tryz.prog ops Q rest (a.put dst sv') w') : wpList Tryz.prog ops Q (⟨dst, .call { callee := .builtin .append, args := #[x, y], argTypes := #[24, 24] }, t2, pos, after, guard⟩ :: rest) a w := by
  obtain ⟨i, hi, hz, hs, hby⟩ := inf44
  obtain ⟨v', w', hr, h2, h3, _, h5⟩ := run_append_own_at (P := Tryz.prog) w B 24 t2 44 i (.slice none 0 0) 1 24 Tryz.underlying24 hi hz hs hby rfl (by decide) sv l.length l h ⟨g0, 0, none⟩ 1 1 [v] rfl (fun j u hu => by
    rw [show (⟨g0, 0, none⟩ : Addr).add j = ⟨g0, j, none⟩ by unfold Addr.add; split <;> simp_all]
    match j, hu with
    | 0, hu => simp at hu; subst hu; exact c0
    | j + 1, hu => simp at hu) (fun u hu => by obtain rfl := List.mem_singleton.1 hu; exact h1) (by simp only [maxLen]; omega) (by omega) hB
  refine wpList_run v' w' hw (exec_app a.eval _ x y 24 24 rfl sv _ v' hx hy hr) (hh v' w' ?_ h3 h5)
  unfold OwnV
  rw [List.length_append]
  exact h2
end
/-- One of the slices of items of an argument. -/
theorem GroupsAt.at {w : World} {sv : Value} {gs : List (Value × List (It × Value))} (h : GroupsAt w sv gs) {i : Nat} {x : Value × List (It × Value)} (hi : gs[i]? = some x) : ∃ b o cap, sv = .slice (some ⟨b, o, none⟩) gs.length cap ∧ w.cell? ⟨b, o + i, none⟩ = some x.1 ∧ ItemsAt w x.1 x.2 ∧ x.2.length ≤ 9223372036854775807 := by
  obtain ⟨a, cap, e, hc⟩ := h
  obtain ⟨b, o, ea, h1, h2, h3⟩ := hc i x hi
  exact ⟨b, o, cap, by rw [e, ea], h1, h2, h3⟩
theorem its_wf {w : World} {sv : Value} {l : List (It × Value)} (h : ItemsAt w sv l) : ∀ x ∈ l.map (·.1), x.Wf := fun x hx => by
  obtain ⟨y, hy, rfl⟩ := List.mem_map.1 hx
  exact (h.bytes y hy).1

end Go.Proofs.YthlnmdihdcfphaaGreatDoor
