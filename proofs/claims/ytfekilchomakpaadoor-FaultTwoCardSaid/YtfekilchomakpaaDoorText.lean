/- Package fault's Text over chains of faults: all texts, from the outermost, and the number. -/
import Derived.Test.YtfekilchomakpaaDoorDec
import Derived.WalkSmall
namespace Go.Proofs.YtfekilchomakpaaDoor
open Go.RowKit Go.Sort

def texts : List ByteArray → List UInt8
  | [] => []
  | t :: ts => t.data.toList ++ [58, 32] ++ texts ts
def textOf (n : Int) (ts : List ByteArray) : List UInt8 := texts ts ++ ([101, 114, 114, 111, 114, 32] ++ Lib.itoa n)

def HeadV (us : List ByteArray) (v p : Value) : Prop := (us = [] ∧ p = .pointer none) ∨ ∃ a : Addr, us ≠ [] ∧ p = .pointer (some a) ∧ v = .iface 43 p

/-- What the package's calls read of the program's own variables. -/
def Vars (w : World) : Prop := ErrVar w ∧ Lib.TabIs Tryd.prog w "internal/strconv.uint64pow10" .u64 Lib.pow10Tab ∧ 1 < w.heap.size
theorem Vars.below {w w' : World} {B : Nat} (hB : w.heap.size ≤ B) (hb : Below B w w') (h : Vars w) : Vars w' :=
  ⟨h.1.below hB hb, var?_below hb (g := 1) (by kernel_rfl) (Nat.lt_of_lt_of_le h.2.2 hB) h.2.1, Nat.lt_of_lt_of_le h.2.2 hb.size⟩

theorem next_v (n : Int) (us : List ByteArray) (v : Value) (w : World) (hg : ErrVar w) (hc : Chain w n us v) : Calls Tryd.prog 17 #[v] w fun e w' => ∃ p, e = .returned p ∧ HeadV us v p ∧ Below w.heap.size w w' := by
  cases us with
  | nil =>
    simp only [Chain] at hc
    subst hc
    refine (next_none n w hg).mono ?_
    rintro e w' ⟨rfl, hb⟩
    exact ⟨_, rfl, Or.inl ⟨rfl, rfl⟩, hb⟩
  | cons t us =>
    obtain ⟨a, u, rfl, -⟩ := hc
    refine (next_fault ⟨a, 0, none⟩ w hg).mono ?_
    rintro e w' ⟨rfl, hb⟩
    exact ⟨_, rfl, Or.inr ⟨_, by simp, rfl, rfl⟩, hb⟩

theorem builder_below {T e : TypeId} {B b : Nat} {bs : List Value} {w w' : World} (h : Lib.IsBuilder T e B b bs w) (hb : Below w.heap.size w w') : Lib.IsBuilder T e B b bs w' := by
  have key : ∀ p, Lib.BuilderAt T e B b p bs w → Lib.BuilderAt T e B b p bs w' := by
    intro p hp
    have hlt := hp.lt
    obtain ⟨hB, v, hk, hown, hne⟩ := hp
    refine ⟨hB, v, (hb.block b hlt).trans hk, hown.kept (row := none) ⟨hb.os, hb.tape, hb.output, hb.size, fun k hk _ => hb.block k hk⟩ ?_, hne⟩
    cases v.ownBlock with
    | none => exact Or.inl rfl
    | some _ => exact Or.inr (by simp)
  rcases h with h | h
  · exact Or.inl (key _ h)
  · exact Or.inr (key _ h)

theorem below_grow (w : World) (k : Nat) (os : Array Obj) : Below w.heap.size w (grow (w.drewN k) os) := by
  refine ⟨rfl, rfl, rfl, by simp [grow, World.drewN], fun i hi => ?_⟩
  simp only [grow]
  rw [Array.getElem?_append_left (by simpa [World.drewN] using hi)]
  rfl

theorem write_step (B b : Nat) (l : List UInt8) (s : ByteArray) (w : World) (h : Lib.IsBuilder 49 5 B b (Lib.byteCells l) w) (hlen : l.length + s.data.toList.length ≤ 140737488355328) (hBw : B ≤ w.heap.size) :
    Calls Tryd.prog 18 #[.pointer (some ⟨b, 0, none⟩), .string s] w fun e w' => e = .returned (.tuple #[.int .i64 s.size, .nilIface]) ∧ Lib.IsBuilder 49 5 B b (Lib.byteCells (l ++ s.data.toList)) w' ∧ Below B w w' := by
  refine (writeString_any B b (Lib.byteCells l) s w h (by rw [Lib.byteCells_length]; exact hlen) hBw).mono ?_
  rintro e w' ⟨rfl, h1, hb⟩
  refine ⟨rfl, Or.inr ?_, hb⟩
  rw [Lib.strCells_eq, ← Lib.byteCells_append] at h1
  exact h1

theorem text_nil (w : World) : Calls Tryd.prog 11 #[.nilIface] w fun e w' => e = .returned (.string ⟨#[]⟩) ∧ w = w' := by
  go_enter Tryd.func11, Tryd.ntmps11
  go_wp2
  go_ret
  exact ⟨rfl, rfl⟩

set_option maxRecDepth 100000 in
set_option maxHeartbeats 2000000 in
theorem text_any (n : Int) (hn0 : 0 ≤ n) (hn1 : n ≤ 9223372036854775807) (ts : List ByteArray) (T : TypeId) (d : Value) (w : World) (hlen : (textOf n ts).length ≤ 140737488355328) (hg : Vars w) (hc : Chain w n ts (.iface T d)) :
    Calls Tryd.prog 11 #[.iface T d] w fun e w' => e = .returned (.string ⟨(textOf n ts).toArray⟩) ∧ Below w.heap.size w w' := by
  have b1 : Below w.heap.size w (w.alloc (.cells #[.pointer none, .slice none 0 0] 49)) := (Below.refl _ _).alloc (Nat.le_refl _) _
  have HA := Lib.hid (next_v n ts (.iface T d) (w.alloc (.cells #[.pointer none, .slice none 0 0] 49)) (hg.1.below (Nat.le_refl _) b1) (hc.below (Nat.le_refl _) b1))
  have HG := Lib.hid hg
  have HC := Lib.hid hc
  have HI := Lib.hid (Lib.fresh_isBuilder 49 5 w)
  have HB1 := Lib.hid b1
  have HL := Lib.hid hlen
  have HN := Lib.hid (And.intro hn0 hn1)
  clear hg hc hlen b1 hn0 hn1
  go_enter Tryd.func11, Tryd.ntmps11
  go_wp2_with fail
  refine HA.out.mono ?_
  rintro e w1 ⟨p, rfl, hp, hb⟩
  have HP := Lib.hid hp
  have HI1 := Lib.hid (builder_below HI.out hb)
  have HB := Lib.hid (HB1.out.trans (hb.mono HB1.out.size))
  have HS : Hid (w.heap.size < w1.heap.size) := Lib.hid (Nat.lt_of_lt_of_le (by simp) hb.size)
  clear hp hb
  go_wp2_with fail
  go_loopg [4, 5] ts.length (fun g v q wr => ∃ (us : List ByteArray) (pre : List UInt8), us.length ≤ g ∧ pre ++ texts us = texts ts ∧ Chain w n us v ∧ HeadV us v q ∧ Lib.IsBuilder 49 5 w.heap.size w.heap.size (Lib.byteCells pre) wr ∧ Below w.heap.size w wr ∧ w.heap.size < wr.heap.size)
  case atStart => exact ⟨ts, [], Nat.le_refl _, rfl, HC.out, HP.out, HI1.out, HB.out, HS.out⟩
  case round =>
    obtain ⟨us, pre, hl, ht, hch, hh, hi, hb, hs⟩ := hrel
    have HT := Lib.hid ht
    have HI2 := Lib.hid hi
    have HB2 := Lib.hid hb
    have HS2 := Lib.hid hs
    have HCH := Lib.hid hch
    clear ht hi hb hs
    rcases hh with ⟨rfl, rfl⟩ | ⟨a, hne, rfl, rfl⟩
    · simp only [Chain] at hch
      subst hch
      have HF := Lib.hid (find_num n [] 26 (.int .i64 n) wr (HG.out.1.below (Nat.le_refl _) HB2.out) rfl)
      clear hl
      go_wp2_with fail
      refine HF.out.mono ?_
      rintro e w2 ⟨rfl, hb⟩
      have HW := Lib.hid (write_step w.heap.size w.heap.size pre ⟨#[101, 114, 114, 111, 114, 32]⟩ w2 (builder_below HI2.out hb) (by have h1 := HL.out; rw [textOf, ← HT.out] at h1; simp [texts] at h1; simp; omega) (Nat.le_trans (Nat.le_of_lt HS2.out) hb.size))
      have HBa := Lib.hid (HB2.out.trans (hb.mono HB2.out.size))
      have HSa : Hid (w.heap.size < w2.heap.size) := Lib.hid (Nat.lt_of_lt_of_le HS2.out hb.size)
      clear hb
      go_wp2_with fail
      refine HW.out.mono ?_
      rintro e w3 ⟨rfl, hi, hb⟩
      have HBb := Lib.hid (HBa.out.trans hb)
      have HSb : Hid (w.heap.size < w3.heap.size) := Lib.hid (Nat.lt_of_lt_of_le HSa.out hb.size)
      have HIb := Lib.hid hi
      have HO := Lib.hid (of_num n ts T d w3 (HG.out.1.below (Nat.le_refl _) HBb.out) (HC.out.below (Nat.le_refl _) HBb.out))
      clear hi hb
      go_wp2_with fail
      refine HO.out.mono ?_
      rintro e w4 ⟨rfl, hb⟩
      have HBc := Lib.hid (HBb.out.trans (hb.mono HBb.out.size))
      have HSc : Hid (w.heap.size < w4.heap.size) := Lib.hid (Nat.lt_of_lt_of_le HSb.out hb.size)
      have HIc := Lib.hid (builder_below HIb.out hb)
      have HIt := Lib.hid (Tryd.strconv_Itoa n (Int.le_trans (by decide) HN.out.1) HN.out.2 w4 (HG.out.below (Nat.le_refl _) HBc.out).2.1)
      clear hb
      go_wp2_with fail
      refine HIt.out.mono ?_
      rintro e w5 ⟨rfl, kk, os, rfl⟩
      have hg5 := below_grow w4 kk os
      have HBd := Lib.hid (HBc.out.trans (hg5.mono HBc.out.size))
      have HId := Lib.hid (builder_below HIc.out hg5)
      have HSd : Hid (w.heap.size < (grow (w4.drewN kk) os).heap.size) := Lib.hid (Nat.lt_of_lt_of_le HSc.out hg5.size)
      clear hg5
      generalize grow (w4.drewN kk) os = w5 at *
      have HW6 := Lib.hid (write_step w.heap.size w.heap.size _ ⟨(Lib.itoa n).toArray⟩ w5 HId.out (by have h1 := HL.out; rw [textOf, ← HT.out] at h1; simp [texts] at h1; simp; omega) (Nat.le_of_lt HSd.out))
      go_wp2_with fail
      refine HW6.out.mono ?_
      rintro e w6 ⟨rfl, hi, hb⟩
      have HS6 := Lib.hid (Tryd.Builder_String_any w.heap.size w.heap.size _ w6 hi (Nat.le_trans (Nat.le_of_lt HSd.out) hb.size))
      have HBe := Lib.hid (HBd.out.trans hb)
      clear hi hb
      go_wp2_with fail
      refine HS6.out.mono ?_
      rintro e w7 ⟨rfl, hb⟩
      go_wp2
      go_ret
      refine ⟨?_, HBe.out.trans hb⟩
      have : pre ++ [101, 114, 114, 111, 114, 32] ++ Lib.itoa n = textOf n ts := by rw [textOf, ← HT.out]; simp [texts]
      rw [← this]
      simp
    · cases us with
      | nil => exact absurd rfl hne
      | cons t us =>
        obtain ⟨b, u, he, k0, k1, k2, hcu⟩ := hch
        obtain rfl : a = ⟨b, 0, none⟩ := by simpa using he
        have HK0 := Lib.hid k0; have HK1 := Lib.hid k1; have HCU := Lib.hid hcu; have HL2 := Lib.hid hl
        have j0 : wr.cell? ⟨b, 0, none⟩ = some (.string t) := (HB2.out.cell (p := ⟨b, 0, none⟩) (lt_of_cell k0)).trans k0
        have HW := Lib.hid (write_step w.heap.size w.heap.size pre t wr HI2.out (by have h1 := HL.out; rw [textOf, ← HT.out] at h1; simp [texts] at h1; simp; omega) (Nat.le_of_lt HS2.out))
        clear k0 k1 k2 hcu hl hne he
        go_wp2_with fail
        refine HW.out.mono ?_
        rintro e w2 ⟨rfl, hi, hb⟩
        have HW2 := Lib.hid (write_step w.heap.size w.heap.size (pre ++ t.data.toList) ⟨#[58, 32]⟩ w2 hi (by have h1 := HL.out; rw [textOf, ← HT.out] at h1; simp [texts] at h1; simp; omega) (Nat.le_trans (Nat.le_of_lt HS2.out) hb.size))
        have HBa := Lib.hid hb
        clear hi hb j0
        go_wp2_with fail
        refine HW2.out.mono ?_
        rintro e w3 ⟨rfl, hi, hb⟩
        have hb3 : Below w.heap.size w w3 := HB2.out.trans (HBa.out.trans hb)
        have HN2 := Lib.hid (next_v n us u w3 (HG.out.1.below (Nat.le_refl _) hb3) (HCU.out.below (Nat.le_refl _) hb3))
        have j1 : w3.cell? ⟨b, 1, none⟩ = some u := (hb3.cell (p := ⟨b, 1, none⟩) (lt_of_cell HK1.out)).trans HK1.out
        have HI3 := Lib.hid hi
        have HB3 := Lib.hid hb3
        have HS3 : Hid (w.heap.size < w3.heap.size) := Lib.hid (Nat.lt_of_lt_of_le HS2.out (Nat.le_trans HBa.out.size hb.size))
        clear hi hb hb3
        go_wp2_with fail
        refine HN2.out.mono ?_
        rintro e w4 ⟨p, rfl, hp, hb⟩
        have HP2 := Lib.hid hp
        have HB4 := Lib.hid hb
        clear hp hb j1
        go_wp2_with fail
        go_roundg us.length
        case measure => have := HL2.out; simp at this; omega
        case rel => exact ⟨us, _, Nat.le_refl _, by rw [← HT.out]; simp [texts], HCU.out, HP2.out, builder_below HI3.out HB4.out, HB3.out.trans (HB4.out.mono HB3.out.size), Nat.lt_of_lt_of_le HS3.out HB4.out.size⟩
end Go.Proofs.YtfekilchomakpaaDoor
