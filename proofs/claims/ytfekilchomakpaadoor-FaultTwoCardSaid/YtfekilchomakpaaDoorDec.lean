/- The statement's own dec: the decimal digits of a number; and package fault's Text and Deep over chains of faults. -/
import Derived.Test.YtfekilchomakpaaDoorFind
import Derived.Test.YtfekilchomakpaaDoorStr
import Derived.Test.YtfekilchomakpaaDoorShelf
import Derived.Laws.BytesString
import Derived.Laws.BytesArg
import Derived.Laws.IdiomStrings
import Derived.Laws.Concat
import Derived.Lib.ItoaNum
namespace Go.Proofs.YtfekilchomakpaaDoor
open Go.RowKit
theorem digit (k : Nat) : UInt8.ofNat (48 + k % 10) = UInt8.ofNat (48 + k % 10) ∧ (48 + (k : Int) % 10) = ((UInt8.ofNat (48 + k % 10)).toNat : Int) := by
  refine ⟨rfl, ?_⟩
  have : (UInt8.ofNat (48 + k % 10)).toNat = 48 + k % 10 := by
    simp [UInt8.toNat_ofNat']
    omega
  rw [this]; simp
theorem dec_step (k : Nat) (t : List UInt8) (h : ¬ k < 10) : Lib.decDigits k ++ t = Lib.decDigits (k / 10) ++ (UInt8.ofNat (48 + k % 10) :: t) := by
  rw [Lib.decDigits, dif_neg h]; simp
theorem dec_last (k : Nat) (t : List UInt8) (h : k < 10) : Lib.decDigits k ++ t = UInt8.ofNat (48 + k % 10) :: t := by
  rw [Lib.decDigits, dif_pos h, Nat.mod_eq_of_lt h]; simp

set_option maxRecDepth 100000 in
set_option maxHeartbeats 1000000 in
theorem dec_any (u : Nat) (hu : u < 4294967296) (w : World) : Calls Tryd.prog 10 #[.int .i64 u] w fun e w' => e = .returned (.string ⟨(Lib.decDigits u).toArray⟩) ∧ Below w.heap.size w w' := by
  go_enter Tryd.func10, Tryd.ntmps10
  go_wp2_with fail
  go_loopg [3, 4] u (fun g n s wr => ∃ (k : Nat) (t : List UInt8), k ≤ g ∧ k < 4294967296 ∧ t.length + k ≤ u ∧ n = .int .i64 k ∧ s = .string ⟨t.toArray⟩ ∧ Lib.decDigits u = Lib.decDigits k ++ t ∧ Below w.heap.size w wr)
  case atStart => exact ⟨u, [], Nat.le_refl _, hu, by simp, rfl, rfl, by simp, Below.refl _ _⟩
  case round =>
    obtain ⟨k, t, hk, hk2, htl, rfl, rfl, hd, hb⟩ := hrel
    have HD := Lib.hid hd
    clear hd
    obtain ⟨c, hc, HC⟩ : ∃ c : UInt8, (48 + (k : Int) % 10) = (c.toNat : Int) ∧ Hid (c = UInt8.ofNat (48 + k % 10)) := ⟨_, (digit k).2, rfl⟩
    have hcv2 : ((convert 46 9 (.slice (some ⟨wr.heap.size, 0, none⟩) 1 1)).run Tryd.prog (wr.alloc (.cells #[.int .u8 (48 + (k : Int) % 10)] 5))) = .ok (.string ⟨#[c]⟩) (wr.alloc (.cells #[.int .u8 (48 + (k : Int) % 10)] 5)) := by
      refine run_convert_bytes_back (P := Tryd.prog) (wr.alloc (.cells #[.int .u8 (48 + (k : Int) % 10)] 5)) 46 9 5 ⟨wr.heap.size, 0, none⟩ 1 [c] Tryd.underlying46 Tryd.underlying5 Tryd.underlying9 ?_
      intro j hj
      obtain rfl : j = 0 := by simp at hj; omega
      simp [Addr.add, hc]
    have ht2 : t.length < 4294967296 := by omega
    have hcat : (⟨#[c]⟩ : ByteArray) ++ ⟨t.toArray⟩ = ⟨(c :: t).toArray⟩ := by apply ByteArray.ext; simp
    have hb2 := Lib.hid (hb.alloc (w := wr) (by have := hb.size; omega) (.cells #[.int .u8 (48 + (k : Int) % 10)] 5))
    have HK := Lib.hid hc
    clear hc hb
    go_wp2
    · have hz : ((k : Int) / 10 == 0) = true := by assumption
      have hk10 : k < 10 := by have := beq_iff_eq.1 hz; omega
      go_ret
      exact ⟨by rw [HD.out, dec_last k t hk10, HC.out]; rfl, hb2.out⟩
    · have hz : ((k : Int) / 10 == 0) = false := by assumption
      have hk10 : ¬ k < 10 := by have := beq_eq_false_iff_ne.1 hz; omega
      go_roundg (k / 10)
      case measure => omega
      case rel => exact ⟨k / 10, c :: t, Nat.le_refl _, by omega, by simp; omega, by go_num, rfl, by rw [HD.out, dec_step k t hk10, HC.out], hb2.out⟩

/-- The pointer to the outermost fault of a chain: nil, if there is none. -/
def Head (w : World) (n : Int) (us : List ByteArray) (p : Value) : Prop := (us = [] ∧ p = .pointer none) ∨ ∃ a : Addr, us ≠ [] ∧ p = .pointer (some a) ∧ Chain w n us (.iface 43 p)

theorem next_any (n : Int) (us : List ByteArray) (v : Value) (w : World) (hg : ErrVar w) (hc : Chain w n us v) : Calls Tryd.prog 17 #[v] w fun e w' => ∃ p, e = .returned p ∧ Head w' n us p ∧ Below w.heap.size w w' := by
  cases us with
  | nil =>
    simp only [Chain] at hc
    subst hc
    refine (next_none n w hg).mono ?_
    rintro e w' ⟨rfl, hb⟩
    exact ⟨_, rfl, Or.inl ⟨rfl, rfl⟩, hb⟩
  | cons t us =>
    have hc' := hc
    obtain ⟨a, u, rfl, -⟩ := hc
    refine (next_fault ⟨a, 0, none⟩ w hg).mono ?_
    rintro e w' ⟨rfl, hb⟩
    exact ⟨_, rfl, Or.inr ⟨_, by simp, rfl, hc'.below (Nat.le_refl _) hb⟩, hb⟩

set_option maxRecDepth 100000 in
set_option maxHeartbeats 1000000 in
theorem deep_any (n : Int) (ts : List ByteArray) (v : Value) (w : World) (hl : ts.length < 4294967296) (hg : ErrVar w) (hc : Chain w n ts v) :
    Calls Tryd.prog 12 #[v] w fun e w' => e = .returned (.int .i64 ((ts.length - 1 : Nat) : Int)) ∧ Below w.heap.size w w' := by
  have HA := Lib.hid (next_any n ts v w hg hc)
  have HG := Lib.hid hg
  clear hg hc
  go_enter Tryd.func12, Tryd.ntmps12
  go_wp2_with fail
  refine HA.out.mono ?_
  rintro e w1 ⟨p, rfl, hp, hb⟩
  have HP := Lib.hid hp
  have HB := Lib.hid hb
  clear hp hb
  go_wp2_with fail
  go_loopg [3, 4] ts.length (fun g c q wr => ∃ (us : List ByteArray) (k : Nat), us.length ≤ g ∧ k + (us.length - 1) = ts.length - 1 ∧ c = .int .i64 k ∧ Head wr n us q ∧ Below w.heap.size w wr)
  case atStart => exact ⟨ts, 0, Nat.le_refl _, by omega, rfl, HP.out, HB.out⟩
  case round =>
    obtain ⟨us, k, hl, hk, rfl, hh, hb⟩ := hrel
    have hk2 : k < 4294967296 := by omega
    have HK := Lib.hid hk
    have HB2 := Lib.hid hb
    clear hk hb
    rcases hh with ⟨rfl, rfl⟩ | ⟨a, hne, rfl, hch⟩
    · go_wp2
      go_ret
      exact ⟨by have := HK.out; simp at this; rw [← this]; rfl, HB2.out⟩
    · cases us with
      | nil => exact absurd rfl hne
      | cons t us =>
        obtain ⟨b, u, he, k0, k1, k2, hcu⟩ := hch
        obtain rfl : a = ⟨b, 0, none⟩ := by simpa using he
        have HN := Lib.hid (next_any n us u wr (HG.out.below (Nat.le_refl _) HB2.out) hcu)
        have HL := Lib.hid hl
        clear hcu hl hne he
        cases us with
        | nil =>
          simp at k2
          go_wp2_with fail
          refine HN.out.mono ?_
          rintro e w1 ⟨p, rfl, hp, hb⟩
          have HP := Lib.hid hp
          have HB := Lib.hid hb
          clear hp hb
          go_wp2_with fail
          go_roundg 0
          case measure => have := HL.out; simp at this; omega
          case rel => exact ⟨[], k, Nat.le_refl _, by have := HK.out; simp at this; simp; omega, rfl, HP.out, HB2.out.trans (HB.out.mono HB2.out.size)⟩
        | cons t2 us =>
          simp at k2
          go_wp2_with fail
          refine HN.out.mono ?_
          rintro e w1 ⟨p, rfl, hp, hb⟩
          have HP := Lib.hid hp
          have HB := Lib.hid hb
          clear hp hb
          go_wp2_with fail
          go_roundg (t2 :: us).length
          case measure => have := HL.out; simp at this; simp; omega
          case rel => exact ⟨t2 :: us, k + 1, Nat.le_refl _, by have := HK.out; simp at this; simp; omega, by go_num, HP.out, HB2.out.trans (HB.out.mono HB2.out.size)⟩
end Go.Proofs.YtfekilchomakpaaDoor
