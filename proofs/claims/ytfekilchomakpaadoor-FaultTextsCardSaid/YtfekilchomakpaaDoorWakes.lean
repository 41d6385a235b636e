/- The statement's own wakes: true, in whatever memory in which the package's variables stand as the program's text lays them. -/
import Derived.Test.YtfekilchomakpaaDoorText
namespace Go.Proofs.YtfekilchomakpaaDoor
open Go.RowKit Go.Sort

def sFull : ByteArray := ⟨#[102, 117, 108, 108]⟩
def sPut : ByteArray := ⟨#[112, 117, 116]⟩
theorem itoa14 : Lib.itoa 14 = [49, 52] := by simp [Lib.itoa, Lib.decDigits]
theorem text14 : (textOf 14 [sPut, sFull]).toArray = #[112, 117, 116, 58, 32, 102, 117, 108, 108, 58, 32, 101, 114, 114, 111, 114, 32, 49, 52] := by
  simp [textOf, texts, itoa14, sPut, sFull]
theorem len14 : (textOf 14 [sPut, sFull]).length ≤ 140737488355328 := by
  simp [textOf, texts, itoa14, sPut, sFull]

set_option maxRecDepth 100000 in
set_option maxHeartbeats 2000000 in
theorem wakes_any (w : World) (hg : Vars w) : Calls Tryd.prog 8 #[] w fun e w' => e = .returned (.bool true) ∧ Below w.heap.size w w' := by
  have HG := Lib.hid hg
  have HA := Lib.hid (new_some 14 sFull w (by decide))
  clear hg
  go_enter Tryd.func8, Tryd.ntmps8
  go_wp2_with fail
  refine HA.out.mono ?_
  rintro e w1 ⟨v1, rfl, hc, hb⟩
  have HB1 := Lib.hid hb
  have HW := Lib.hid (wrap_some v1 14 sFull [] sPut w1 hc)
  clear hc hb
  go_wp2_with fail
  refine HW.out.mono ?_
  rintro e w2 ⟨v2, rfl, hc, hb⟩
  have HB2 := Lib.hid (HB1.out.trans (hb.mono HB1.out.size))
  obtain ⟨T, d, rfl⟩ := hc.shape
  have HC := Lib.hid hc
  have HT := Lib.hid (text_any 14 (by decide) (by decide) [sPut, sFull] T d w2 len14 (HG.out.below (Nat.le_refl _) HB2.out) hc)
  rw [text14] at HT
  clear hc hb
  go_wp2_with fail
  refine HT.out.mono ?_
  rintro e w3 ⟨rfl, hb⟩
  have HB3 := Lib.hid (HB2.out.trans (hb.mono HB2.out.size))
  have HC3 := Lib.hid (HC.out.below (Nat.le_refl _) hb)
  have HO := Lib.hid (of_num 14 _ T d w3 (HG.out.1.below (Nat.le_refl _) HB3.out) HC3.out)
  clear hb
  go_wp2_with fail
  refine HO.out.mono ?_
  rintro e w4 ⟨rfl, hb⟩
  have HB4 := Lib.hid (HB3.out.trans (hb.mono HB3.out.size))
  have HC4 := Lib.hid (HC3.out.below (Nat.le_refl _) hb)
  have HI := Lib.hid (is_num 14 14 true (by decide) _ T d w4 HC4.out)
  clear hb
  go_wp2_with fail
  refine HI.out.mono ?_
  rintro e w5 ⟨rfl, hb⟩
  have HB5 := Lib.hid (HB4.out.trans (hb.mono HB4.out.size))
  have HC5 := Lib.hid (HC4.out.below (Nat.le_refl _) hb)
  have HJ := Lib.hid (is_num 14 11 false (by decide) _ T d w5 HC5.out)
  clear hb
  go_wp2_with fail
  refine HJ.out.mono ?_
  rintro e w6 ⟨rfl, hb⟩
  have HB6 := Lib.hid (HB5.out.trans (hb.mono HB5.out.size))
  have HC6 := Lib.hid (HC5.out.below (Nat.le_refl _) hb)
  have HD := Lib.hid (deep_any 14 _ _ w6 (by decide) (HG.out.1.below (Nat.le_refl _) HB6.out) HC6.out)
  clear hb
  go_wp2_with fail
  refine HD.out.mono ?_
  rintro e w7 ⟨rfl, hb⟩
  have HB7 := Lib.hid (HB6.out.trans (hb.mono HB6.out.size))
  have HN := Lib.hid (new_ok ⟨#[120]⟩ w7)
  clear hb
  go_wp2_with fail
  refine HN.out.mono ?_
  rintro e w8 ⟨rfl, rfl⟩
  have HZ := Lib.hid (of_nil w7)
  go_wp2_with fail
  refine HZ.out.mono ?_
  rintro e w8 ⟨rfl, rfl⟩
  go_wp2_with fail
  go_ret
  exact ⟨rfl, HB7.out⟩
end Go.Proofs.YtfekilchomakpaaDoor
