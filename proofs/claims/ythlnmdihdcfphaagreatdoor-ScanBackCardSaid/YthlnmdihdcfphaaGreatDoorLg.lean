/- What ScanBack has besides: what any crash leaves. -/
import Derived.Test.YthlnmdihdcfphaaGreatDoorLe
namespace Go.Proofs.YthlnmdihdcfphaaGreatDoor
set_option linter.unusedSimpArgs false
set_option linter.unusedVariables false
open Go.RowKit

section
variable {w : World} {d : De.D} {g : Pl.Gm} {r a : Ja} {P : List (List It × List Int)} {lv v : Value} {N i : Nat}
/-- What any crash leaves to be read: what was put; and the last one, or not. -/
def Ends (w : World) (d : De.D) (g : Pl.Gm) (r : Ja) (P : List (List It × List Int)) (a : Ja) (lv : Value) : Prop :=
  ∀ keep : List Int, ∃ (X : List (List Int)) (PP : List (List It × List Int)) (c : Ja), Img (d.crash keep) X ∧ Way X g r PP c ∧ nxt X g c = none ∧ ((PP = P ∧ c = a) ∨ ∃ (l : List (It × Value)) (pl : List Int), ItemsAt w lv l ∧ PP = P ++ [(l.map (·.1), pl)])
/-- What stays through the rounds. -/
def Wb (w : World) (N i : Nat) (d : De.D) (g : Pl.Gm) (r : Ja) (P : List (List It × List Int)) (a : Ja) (lv : Value) : Prop :=
  (i < N → lv = .slice none 0 0 ∧ d.F < 0 ∧ d.L = [] ∧ ∃ X, Sn d X g r P a (· = zeros 64)) ∧ (i = N → Ends w d g r P a lv)
theorem zq {n : Int} (y : List Int) (hy : y = zeros 64) : NH n y := by rw [hy]; exact nh_zero n
theorem Sn.bk {X : List (List Int)} (h : Sn d X g r P a (· = zeros 64)) (hL : d.L = []) (w : World) (lv : Value) : Ends w d g r P a lv := fun keep =>
  ⟨X, P, a, crash_still h.img hL keep, (h.read zq).1, (h.read zq).2, .inl ⟨rfl, rfl⟩⟩
theorem Wb.new {X : List (List Int)} (h : Sn d X g r P a (· = zeros 64)) (hF : d.F < 0) (hL : d.L = []) (w : World) (N : Nat) : Wb w N 0 d g r P a (.slice none 0 0) :=
  ⟨fun _ => ⟨rfl, hF, hL, X, h⟩, fun _ => h.bk hL w _⟩
theorem jput_ends {L : List It} : (jput g a d L).e = 0 ∨ (jput g a d L).e = 12 ∨ (((jput g a d L).e = 1 ∨ (jput g a d L).e = 14) ∧ (jput g a d L).a = a ∧ (jput g a d L).d = d) := by
  unfold jput
  split
  · split
    · exact .inr (.inr ⟨.inr rfl, rfl, rfl⟩)
    · split
      · exact .inl rfl
      · exact .inr (.inl rfl)
  · exact .inr (.inr ⟨.inl rfl, rfl, rfl⟩)
theorem Wb.step (hw : Wb w N i d g r P a lv) (hi : i < N) (n : Int) (hn : i + 1 < N → n < 0) {l : List (It × Value)} (hl : ItemsAt w v l) (wf : ∀ x ∈ l.map (·.1), x.Wf) :
    ((jput g a { d with F := n } (l.map (·.1))).e = 0 ∧ Wb w N (i + 1) (jput g a { d with F := n } (l.map (·.1))).d g r (P ++ [(l.map (·.1), (jput g a { d with F := n } (l.map (·.1))).pl)]) (jput g a { d with F := n } (l.map (·.1))).a lv) ∨
    ((jput g a { d with F := n } (l.map (·.1))).e = 12 ∧ Wb w N (i + 1) (jput g a { d with F := n } (l.map (·.1))).d g r P (jput g a { d with F := n } (l.map (·.1))).a v) ∨
    (((jput g a { d with F := n } (l.map (·.1))).e = 1 ∨ (jput g a { d with F := n } (l.map (·.1))).e = 14) ∧ Wb w N (i + 1) (jput g a { d with F := n } (l.map (·.1))).d g r P (jput g a { d with F := n } (l.map (·.1))).a lv) := by
  obtain ⟨rfl, hF, hL, X, hs⟩ := hw.1 hi
  have hs2 : Sn { d with F := n } X g r P a (· = zeros 64) := ⟨hs.img.setF n, hs.rec_, hs.cl, hs.good, hs.seq, hs.tot⟩
  have hL2 : ({ d with F := n } : De.D).L = [] := hL
  rcases jput_ends (g := g) (a := a) (d := { d with F := n }) (L := l.map (·.1)) with he | he | ⟨he, ha, hd⟩
  · obtain ⟨X', k1, k2, -, -⟩ := hs2.put zq _ wf he
    refine .inl ⟨he, fun h => ⟨rfl, ?_, k2, X', k1⟩, fun _ => k1.bk k2 w _⟩
    rcases apart_put (l.map (·.1)) hs2.good hs2.tot (hn h) with ⟨-, -, h3, -⟩ | ⟨h1, -⟩
    · exact h3
    · rw [he] at h1
      rcases h1 with h1 | h1 <;> exact absurd h1 (by decide)
  · refine .inr (.inl ⟨he, fun h => ?_, fun _ keep => ?_⟩)
    · rcases apart_put (l.map (·.1)) hs2.good hs2.tot (hn h) with ⟨h1, -⟩ | ⟨h1, -⟩
      · rw [he] at h1
        exact absurd h1 (by decide)
      · rw [he] at h1
        rcases h1 with h1 | h1 <;> exact absurd h1 (by decide)
    · obtain ⟨X', i1, i2, i3⟩ := hs2.cut hL2 _ wf he keep
      rw [i2]
      rcases i3 with ⟨h1, h2⟩ | ⟨pl, c, h1, h2⟩
      · exact ⟨X', P, a, i1, h1, h2, .inl ⟨rfl, rfl⟩⟩
      · exact ⟨X', _, c, i1, h1, h2, .inr ⟨l, pl, hl, rfl⟩⟩
  · rw [ha, hd]
    exact .inr (.inr ⟨he, fun h => ⟨rfl, hn h, hL2, X, hs2⟩, fun _ => hs2.bk hL2 w _⟩)
/-- The list that is wanted: of what was put, or the last one. -/
theorem want_at {X : List (List Int)} {PP : List (List It × List Int)} {c : Ja} {vs : List Value} (hp : PL w P vs) (hc : (PP = P ∧ c = a) ∨ ∃ (l : List (It × Value)) (pl : List Int), ItemsAt w lv l ∧ PP = P ++ [(l.map (·.1), pl)]) {k : Nat} {x : List It × List Int} (hx : PP[k]? = some x) :
    (k < P.length → ∃ (v : Value) (l : List (It × Value)), vs[k]? = some v ∧ ItemsAt w v l ∧ l.map (·.1) = x.1) ∧ (¬ k < P.length → ∃ l : List (It × Value), ItemsAt w lv l ∧ l.map (·.1) = x.1) := by
  have hk := (List.getElem?_eq_some_iff.1 hx).1
  refine ⟨fun h => ?_, fun h => ?_⟩
  · have hx2 : P[k]? = some x := by
      rcases hc with ⟨rfl, -⟩ | ⟨l, pl, -, rfl⟩
      · exact hx
      · rwa [List.getElem?_append_left h] at hx
    obtain ⟨v, hv⟩ : ∃ v, vs[k]? = some v := ⟨_, List.getElem?_eq_getElem (by rw [hp.len]; exact h)⟩
    obtain ⟨l, h1, h2⟩ := hp.at_ k v x hv hx2
    exact ⟨v, l, hv, h1, h2⟩
  · rcases hc with ⟨rfl, -⟩ | ⟨l, pl, hl, rfl⟩
    · exact absurd hk h
    · rw [List.getElem?_append_right (by omega)] at hx
      rw [List.length_append, List.length_cons, List.length_nil] at hk
      obtain rfl : k = P.length := by omega
      rw [Nat.sub_self] at hx
      injection hx with hx
      subst hx
      exact ⟨l, hl, rfl⟩
theorem may_some {w : World} {sv : Value} {l : List (It × Value)} (h : ItemsAt w sv l) (hm : mayBe (l.map (·.1)) = true) : ∃ b o c, sv = .slice (some ⟨b, o, none⟩) l.length c ∧ 0 < l.length := by
  have h0 : 0 < l.length := by
    have := (mayBe_iff.1 hm).1
    rw [List.length_map] at this
    omega
  obtain ⟨a, cap, rfl, -, hc⟩ := h
  obtain ⟨x, hx⟩ : ∃ x, l[0]? = some x := ⟨_, List.getElem?_eq_getElem h0⟩
  obtain ⟨-, -, b, o, rfl, -⟩ := hc 0 x hx
  exact ⟨b, o, cap, rfl, h0⟩
end

end Go.Proofs.YthlnmdihdcfphaaGreatDoor
