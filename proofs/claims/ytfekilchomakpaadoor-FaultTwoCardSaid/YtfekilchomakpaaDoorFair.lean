/- The statement's own Fair: whether texts are not too many, nor too long. -/
import Derived.Test.YtfekilchomakpaaDoorProg
import Derived.WalkKit
import Derived.WalkSpells
import Derived.WalkLawsBesides
import Derived.Deep.LoopGhost
import Derived.Lib.Hide
namespace Go.Proofs.YtfekilchomakpaaDoor
open Go.RowKit
/-- A value that reads as a list of texts. -/
def StrsAt (w : World) (v : Value) (l : List ByteArray) : Prop :=
  ∃ (a : Option Addr) (cap : Nat), v = .slice a l.length cap ∧ l.length ≤ maxLen ∧ ∀ i (h : i < l.length), ∃ b o, a = some ⟨b, o, none⟩ ∧ w.cell? ⟨b, o + i, none⟩ = some (.string l[i])

def fairGo : Nat → List ByteArray → Bool
  | _, [] => true
  | n, s :: l => if 2000 < n + min s.size 2001 then false else fairGo (n + min s.size 2001) l
def fairB (l : List ByteArray) : Bool := fairGo 0 l && decide (l.length ≤ 50)

theorem fair_stop {m : Nat} {s : ByteArray} (r : List ByteArray) (h : 2000 < m + min s.size 2001) : fairGo m (s :: r) = false := by simp [fairGo, h]
theorem fair_more {m : Nat} {s : ByteArray} (r : List ByteArray) (h : ¬ 2000 < m + min s.size 2001) : fairGo m (s :: r) = fairGo (m + min s.size 2001) r := by simp only [fairGo, if_neg h]
theorem fairGo_le : ∀ (n : Nat) (l : List ByteArray), n ≤ 2000 → fairGo n l = true → n + (l.map (·.size)).sum ≤ 2000
  | n, [], h, _ => by simpa using h
  | n, s :: l, _, h => by
    simp only [fairGo] at h
    split at h
    · cases h
    · have h1 : s.size ≤ 2000 := by omega
      have h2 : min s.size 2001 = s.size := by omega
      have := fairGo_le (n + min s.size 2001) l (by omega) h
      simp at this ⊢
      omega
theorem fairB_le {l : List ByteArray} (h : fairB l = true) : (l.map (·.size)).sum ≤ 2000 ∧ l.length ≤ 50 := by
  simp only [fairB, Bool.and_eq_true, decide_eq_true_eq] at h
  exact ⟨by simpa using fairGo_le 0 l (by omega) h.1, h.2⟩

set_option maxRecDepth 100000 in
set_option maxHeartbeats 1000000 in
theorem fair_any (v : Value) (l : List ByteArray) (w : World) (hs : StrsAt w v l) (hm : ∀ s ∈ l, s.size ≤ maxLen) : Calls Tryd.prog 7 #[v] w fun e w' => e = .returned (.bool (fairB l)) ∧ w = w' := by
  obtain ⟨a, cap, rfl, hl, hc⟩ := hs
  unfold maxLen at hl hm
  have HC := Lib.hid hc
  have HM := Lib.hid hm
  clear hc hm
  go_enter Tryd.func7, Tryd.ntmps7
  go_wp2_with fail
  go_loopg [3, 4] l.length (fun g n i wr => ∃ (k m : Nat), l.length - k ≤ g ∧ k ≤ l.length ∧ m ≤ 2000 ∧ n = .int .i64 m ∧ i = .int .i64 k ∧ fairGo m (l.drop k) = fairGo 0 l ∧ w = wr)
  case atStart => exact ⟨0, 0, by omega, by omega, by omega, rfl, rfl, rfl, rfl⟩
  case round =>
    obtain ⟨k, m, hg, hk, hm2, rfl, rfl, hf, rfl⟩ := hrel
    have HF := Lib.hid hf
    clear hf
    by_cases hlt : k < l.length
    · obtain ⟨b, o, rfl, c0⟩ := HC.out k hlt
      have hsz : l[k].size ≤ 9223372036854775807 := HM.out _ (List.getElem_mem hlt)
      have HD : Hid (l.drop k = l[k] :: l.drop (k + 1)) := Lib.hid (List.drop_eq_getElem_cons hlt)
      generalize l[k] = s at *
      go_wp2
      · have hh : 2000 < m + min s.size 2001 := by omega
        go_ret
        exact ⟨by rw [fairB, ← HF.out, HD.out, fair_stop _ hh]; rfl, rfl⟩
      · have hh : 2000 < m + min s.size 2001 := by omega
        go_ret
        exact ⟨by rw [fairB, ← HF.out, HD.out, fair_stop _ hh]; rfl, rfl⟩
      · have hh : ¬ 2000 < m + s.size := by omega
        have hh2 : min s.size 2001 = s.size := by omega
        go_roundg (l.length - (k + 1))
        case measure => omega
        case rel => exact ⟨k + 1, m + s.size, Nat.le_refl _, by omega, by omega, by go_num, by go_num, by rw [← HF.out, HD.out, fair_more _ (by rw [hh2]; exact hh), hh2], rfl⟩
    · have hkl : k = l.length := by omega
      have HK := Lib.hid hkl
      clear hkl
      go_wp2
      go_ret
      refine ⟨?_, rfl⟩
      have h1 : fairGo 0 l = true := by rw [← HF.out, HK.out, List.drop_length]; rfl
      simp [fairB, h1]
      try omega
end Go.Proofs.YtfekilchomakpaaDoor
