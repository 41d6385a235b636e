/- What the law FaultNone does: it returns true, and nothing that was there has turned. -/
import Derived.Test.YtfekilchomakpaaDoorWakes
import Derived.Test.YtfekilchomakpaaDoorFair
namespace Go.Proofs.YtfekilchomakpaaDoor
open Go.RowKit

set_option maxRecDepth 100000 in
set_option maxHeartbeats 2000000 in
theorem find_nil (w : World) :
    Calls Tryd.prog 25 #[.nilIface] w fun e w' => e = .returned (.tuple #[.pointer none, .bool false]) ∧ Below w.heap.size w w' := by
  have hmf : ∀ (fn : Fn) (first cap : Array Value) (w : World), (Instr.makeFunc fn first cap).run Tryd.prog w = .ok (.func fn first cap) w := fun _ _ _ _ => rfl
  obtain ⟨c0, c1, f0, f1⟩ := two_new w (.pointer none) (.bool false) 43 4
  have HW := Lib.hid (((Below.refl w.heap.size w).alloc (Nat.le_refl _) (.cells #[.pointer none] 43)).alloc (by simp) (.cells #[.bool false] 4))
  go_enter_defers Tryd.func25, Tryd.ntmps25
  go_wp2_with (go_at_call 28; go_must (refine (asNil _ _).mono ?_); rintro e w' ⟨rfl, rfl⟩)
  go_region
  all_goals go_wp2
  all_goals
    refine leaves_cons (f := 33) (args := #[.pointer (some ⟨w.heap.size, 0, none⟩), .pointer (some ⟨w.heap.size + 1, 0, none⟩)]) (by simp) (by simp [go_sem]) ?_
    refine (idle33 _ _ _).mono ?_
    rintro e u' w'' ⟨rfl, rfl, rfl⟩
    simp [Leaves, settle, results, Tryd.results25, go_sem]
    exact (((Below.refl w.heap.size w).alloc (Nat.le_refl _) _).alloc (by simp) _).drew

theorem deep_nil (w : World) : Calls Tryd.prog 12 #[.nilIface] w fun e w' => e = .returned (.int .i64 0) ∧ Below w.heap.size w w' := by
  go_enter Tryd.func12, Tryd.ntmps12
  go_wp2_with (first
    | (go_at_call 17; go_in)
    | (go_at_call 25; go_must (refine (find_nil _).mono ?_); rintro e w' ⟨rfl, hb⟩))
  refine wp_loop_rounds 1 ?_
  rw [rounds_succ]
  go_wp2
  go_ret
  exact ⟨rfl, hb⟩

set_option maxRecDepth 100000 in
set_option maxHeartbeats 4000000 in
theorem none_any (what : ByteArray) (hw : what.size ≤ maxLen) (v : Value) (l : List ByteArray) (w : World) (hg : Vars w) (hs : StrsAt w v l) (hm : ∀ s ∈ l, s.size ≤ maxLen) :
    Calls Tryd.prog 4 #[.string what, v] w fun e w' => e = .returned (.bool true) ∧ Below w.heap.size w w' := by
  unfold maxLen at hw
  have HFa := fair_any v l w hs hm
  have HW := Lib.hid (wakes_any w hg)
  have HG := Lib.hid hg
  obtain ⟨a, cap, rfl, hl, hc⟩ := hs
  have HC := Lib.hid hc
  have HM := Lib.hid hm
  clear hg hm hc
  unfold maxLen at hl
  cases hf : fairB l with
  | false =>
    rw [hf] at HFa
    have HF := Lib.hid HFa
    clear HFa hf
    go_enter Tryd.func4, Tryd.ntmps4
    go_wp2_with fail
    refine HF.out.mono ?_
    rintro e w' ⟨rfl, rfl⟩
    go_wp2_with fail
    refine HW.out.mono ?_
    rintro e w' ⟨rfl, hb⟩
    go_wp2
    go_ret
    exact ⟨rfl, hb⟩
  | true =>
    rw [hf] at HFa
    have HF := Lib.hid HFa
    clear HFa hf
    by_cases h5 : 500 < what.size
    · go_enter Tryd.func4, Tryd.ntmps4
      go_wp2_with fail
      refine HF.out.mono ?_
      rintro e w' ⟨rfl, rfl⟩
      go_wp2_with fail
      refine HW.out.mono ?_
      rintro e w' ⟨rfl, hb⟩
      go_wp2
      go_ret
      exact ⟨rfl, hb⟩
    · have HO := Lib.hid (new_ok what w)
      go_enter Tryd.func4, Tryd.ntmps4
      go_wp2_with fail
      refine HF.out.mono ?_
      rintro e w' ⟨rfl, rfl⟩
      go_wp2_with fail
      refine HO.out.mono ?_
      rintro e w' ⟨rfl, rfl⟩
      go_wp2_with fail
      go_loopg [5, 6] l.length (fun g x i wr => ∃ k : Nat, l.length - k ≤ g ∧ k ≤ l.length ∧ x = .nilIface ∧ i = .int .i64 k ∧ w = wr)
      case atStart => exact ⟨0, by omega, by omega, rfl, rfl, rfl⟩
      case round =>
        obtain ⟨k, hg, hk, rfl, rfl, rfl⟩ := hrel
        by_cases hlt : k < l.length
        · obtain ⟨b, o, rfl, c0⟩ := HC.out k hlt
          go_wp2_with (go_at_call 13; go_must (refine (wrap_nil _ _).mono ?_); rintro e w' ⟨rfl, rfl⟩)
          go_roundg (l.length - (k + 1))
          case measure => omega
          case rel => exact ⟨k + 1, Nat.le_refl _, by omega, rfl, by go_num, rfl⟩
        · have H1 := Lib.hid (is_nil 0 true (by decide) w)
          go_wp2_with (first
            | (go_at_call 11; go_must (refine (text_nil _).mono ?_); rintro e w' ⟨rfl, rfl⟩)
            | (go_at_call 14; go_must (refine (of_nil _).mono ?_); rintro e w' ⟨rfl, rfl⟩))
          refine H1.out.mono ?_
          rintro e w1 ⟨rfl, hb⟩
          have H2 := Lib.hid (is_nil 1 false (by decide) w1)
          have HB1 := Lib.hid hb
          clear hb
          go_wp2_with fail
          refine H2.out.mono ?_
          rintro e w2 ⟨rfl, hb⟩
          have HB2 := Lib.hid (HB1.out.trans (hb.mono HB1.out.size))
          have H3 := Lib.hid (deep_nil w2)
          clear hb
          go_wp2_with fail
          refine H3.out.mono ?_
          rintro e w3 ⟨rfl, hb⟩
          have HB3 := Lib.hid (HB2.out.trans (hb.mono HB2.out.size))
          have H4 := Lib.hid (wakes_any w3 (HG.out.below (Nat.le_refl _) HB3.out))
          clear hb
          go_wp2_with fail
          refine H4.out.mono ?_
          rintro e w4 ⟨rfl, hb⟩
          go_wp2
          go_ret
          exact ⟨rfl, HB3.out.trans (hb.mono HB3.out.size)⟩
end Go.Proofs.YtfekilchomakpaaDoor
