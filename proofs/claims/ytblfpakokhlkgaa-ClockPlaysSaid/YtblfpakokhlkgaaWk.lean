/- The laws first call. -/
import Derived.Test.YtblfpakokhlkgaaCd
import Derived.Deep.Cut
import Derived.Deep.CutRange
namespace Go.Proofs.Ytblfpakokhlkgaa
set_option linter.unusedSimpArgs false
set_option linter.unusedVariables false
open Go.RowKit

def wk0 : Ck := ⟨[noFm, noFm], 0⟩
def wk1 : Ck := ⟨[⟨7, true, 0⟩, noFm], 0⟩
def wk2 : Ck := ⟨[⟨7, true, 0⟩, ⟨8, true, 0⟩], 0⟩
def wk3 : Ck := ⟨[⟨7, true, 1⟩, ⟨8, true, 0⟩], 0⟩
def wk4 : Ck := ⟨[⟨7, true, 1⟩, ⟨8, false, 0⟩], 0⟩
def wk5 : Ck := ⟨[⟨7, true, 1⟩, ⟨8, false, 1⟩], 0⟩
def wk6 : Ck := ⟨[⟨7, true, 0⟩, ⟨8, false, 1⟩], 0⟩
def wk7 : Ck := ⟨[noFm, ⟨8, false, 1⟩], 0⟩
theorem wke1 : wk0.victim = (some 0, wk0) := by kernel_rfl
theorem wke2 : wk0.mayPut 0 7 = true := by kernel_rfl
theorem wke3 : wk0.put 0 7 = wk1 := by kernel_rfl
theorem wke4 : wk1.mayPut 1 8 = true := by kernel_rfl
theorem wke5 : wk1.put 1 8 = wk2 := by kernel_rfl
theorem wke6 : wk2.mayPut 0 8 = false := by kernel_rfl
theorem wke7 : wk2.put 0 8 = wk2 := by kernel_rfl
theorem wke8 : wk2.find 8 = some 1 := by kernel_rfl
theorem wke9 : wk2.keyed 0 = true := by kernel_rfl
theorem wke10 : wk2.pin 0 = wk3 := by kernel_rfl
theorem wke11 : wk3.victim = (some 1, wk4) := by kernel_rfl
theorem wke12 : wk4.keyed 1 = true := by kernel_rfl
theorem wke13 : wk4.pin 1 = wk5 := by kernel_rfl
theorem wke14 : wk5.victim = (none, wk5) := by kernel_rfl
theorem wke15 : keyR (wk5.get 0) = .tuple #[.int .i64 7, .bool true] := by kernel_rfl
theorem wke16 : wk5.pinned = 2 := by kernel_rfl
theorem wke17 : wk5.pins 0 = 1 := by kernel_rfl
theorem wke18 : wk5.pinnedAt 0 = true := by kernel_rfl
theorem wke19 : wk5.unpin 0 = wk6 := by kernel_rfl
theorem wke20 : wk6.pinnedAt 0 = false := by kernel_rfl
theorem wke21 : wk6.unpin 0 = wk6 := by kernel_rfl
theorem wke22 : wk6.may 1 = false := by kernel_rfl
theorem wke23 : wk6.drop 1 = wk6 := by kernel_rfl
theorem wke24 : wk6.may 0 = true := by kernel_rfl
theorem wke25 : wk6.drop 0 = wk7 := by kernel_rfl
theorem fm_ok2 {k : Int} {m : Bool} {p : Int} (h0 : 0 ≤ k) (h1 : k ≤ 9223372036854775807) (h2 : 0 ≤ p) (h3 : p ≤ 2) : Fm.Ok 2 ⟨k, m, p⟩ := ⟨fun h => by simp only at h; omega, h1, h2, h3⟩
theorem ck_ok2 {f g : Fm} (hf : f.Ok 2) (hg : g.Ok 2) (hne : 0 ≤ f.key → f.key ≠ g.key) : Ck.Ok 2 ⟨[f, g], 0⟩ := by
  refine ⟨by simp, by simp, by simp, fun i x e => ?_, fun i j x y e e2 h0 hxy => ?_⟩
  · match i, e with
    | 0, e => simp at e; subst e; exact hf
    | 1, e => simp at e; subst e; exact hg
    | i + 2, e => simp at e
  · match i, j, e, e2 with
    | 0, 0, _, _ => rfl
    | 1, 1, _, _ => rfl
    | 0, 1, e, e2 => simp at e e2; subst e; subst e2; exact absurd hxy (hne h0)
    | 1, 0, e, e2 => simp at e e2; subst e; subst e2; exact absurd hxy.symm (hne (by omega))
    | i + 2, _, e, _ => simp at e
    | _, j + 2, _, e2 => simp at e2
theorem wko0 : wk0.Ok 2 := ck_ok2 (noFm_ok 2) (noFm_ok 2) (by decide)
theorem wko1 : wk1.Ok 2 := ck_ok2 (fm_ok2 (by decide) (by decide) (by decide) (by decide)) (noFm_ok 2) (by decide)
theorem wko2 : wk2.Ok 2 := ck_ok2 (fm_ok2 (by decide) (by decide) (by decide) (by decide)) (fm_ok2 (by decide) (by decide) (by decide) (by decide)) (by decide)
theorem wko3 : wk3.Ok 2 := ck_ok2 (fm_ok2 (by decide) (by decide) (by decide) (by decide)) (fm_ok2 (by decide) (by decide) (by decide) (by decide)) (by decide)
theorem wko4 : wk4.Ok 2 := ck_ok2 (fm_ok2 (by decide) (by decide) (by decide) (by decide)) (fm_ok2 (by decide) (by decide) (by decide) (by decide)) (by decide)
theorem wko5 : wk5.Ok 2 := ck_ok2 (fm_ok2 (by decide) (by decide) (by decide) (by decide)) (fm_ok2 (by decide) (by decide) (by decide) (by decide)) (by decide)
theorem wko6 : wk6.Ok 2 := ck_ok2 (fm_ok2 (by decide) (by decide) (by decide) (by decide)) (fm_ok2 (by decide) (by decide) (by decide) (by decide)) (by decide)
theorem wko7 : wk7.Ok 2 := ck_ok2 (noFm_ok 2) (fm_ok2 (by decide) (by decide) (by decide) (by decide)) (by decide)
theorem wkc0 (w : World) (b r cap : Nat) (tl : List Value) (h : At encC w b r cap tl wk0) : Calls Try.prog 11 #[.pointer (some ⟨b, 0, none⟩)] w fun e w' => e = .returned (.tuple #[.int .i64 0, .bool true]) ∧ At encC w' b r cap tl wk0 ∧ Only (foot b r) w w' := by
  have := victim_any w b r cap tl wk0 h wko0 
  rw [wke1] at this
  exact this
theorem wkc1 (w : World) (b r cap : Nat) (tl : List Value) (h : At encC w b r cap tl wk0) : Calls Try.prog 13 #[.pointer (some ⟨b, 0, none⟩), .int .i64 0, .int .i64 7] w fun e w' => e = .returned (.bool true) ∧ At encC w' b r cap tl wk1 ∧ Only (foot b r) w w' := by
  have := put_any w b r cap tl wk0 h wko0 0 7
  rw [wke2, wke3] at this
  exact this
theorem wkc2 (w : World) (b r cap : Nat) (tl : List Value) (h : At encC w b r cap tl wk1) : Calls Try.prog 13 #[.pointer (some ⟨b, 0, none⟩), .int .i64 1, .int .i64 8] w fun e w' => e = .returned (.bool true) ∧ At encC w' b r cap tl wk2 ∧ Only (foot b r) w w' := by
  have := put_any w b r cap tl wk1 h wko1 1 8
  rw [wke4, wke5] at this
  exact this
theorem wkc3 (w : World) (b r cap : Nat) (tl : List Value) (h : At encC w b r cap tl wk2) : Calls Try.prog 13 #[.pointer (some ⟨b, 0, none⟩), .int .i64 0, .int .i64 8] w fun e w' => e = .returned (.bool false) ∧ At encC w' b r cap tl wk2 ∧ Only (foot b r) w w' := by
  have := put_any w b r cap tl wk2 h wko2 0 8
  rw [wke6, wke7] at this
  exact this
theorem wkc4 (w : World) (b r cap : Nat) (tl : List Value) (h : At encC w b r cap tl wk2) : Calls Try.prog 15 #[.pointer (some ⟨b, 0, none⟩), .int .i64 8] w fun e w' => e = .returned (.tuple #[.int .i64 1, .bool true]) ∧ Below w.heap.size w w' := by
  have := find_any w b r cap tl wk2 h wko2 8
  rw [wke8] at this
  exact this
theorem wkc5 (w : World) (b r cap : Nat) (tl : List Value) (h : At encC w b r cap tl wk2) : Calls Try.prog 19 #[.pointer (some ⟨b, 0, none⟩), .int .i64 0] w fun e w' => e = .returned (.bool true) ∧ At encC w' b r cap tl wk3 ∧ Only (foot b r) w w' := by
  have := pin_any w b r cap tl wk2 h wko2 (by decide) 0
  rw [wke9, wke10] at this
  exact this
theorem wkc6 (w : World) (b r cap : Nat) (tl : List Value) (h : At encC w b r cap tl wk3) : Calls Try.prog 11 #[.pointer (some ⟨b, 0, none⟩)] w fun e w' => e = .returned (.tuple #[.int .i64 1, .bool true]) ∧ At encC w' b r cap tl wk4 ∧ Only (foot b r) w w' := by
  have := victim_any w b r cap tl wk3 h wko3 
  rw [wke11] at this
  exact this
theorem wkc7 (w : World) (b r cap : Nat) (tl : List Value) (h : At encC w b r cap tl wk4) : Calls Try.prog 19 #[.pointer (some ⟨b, 0, none⟩), .int .i64 1] w fun e w' => e = .returned (.bool true) ∧ At encC w' b r cap tl wk5 ∧ Only (foot b r) w w' := by
  have := pin_any w b r cap tl wk4 h wko4 (by decide) 1
  rw [wke12, wke13] at this
  exact this
theorem wkc8 (w : World) (b r cap : Nat) (tl : List Value) (h : At encC w b r cap tl wk5) : Calls Try.prog 11 #[.pointer (some ⟨b, 0, none⟩)] w fun e w' => e = .returned (.tuple #[.int .i64 0, .bool false]) ∧ At encC w' b r cap tl wk5 ∧ Only (foot b r) w w' := by
  have := victim_any w b r cap tl wk5 h wko5 
  rw [wke14] at this
  exact this
theorem wkc9 (w : World) (b r cap : Nat) (tl : List Value) (h : At encC w b r cap tl wk5) : Calls Try.prog 27 #[.pointer (some ⟨b, 0, none⟩), .int .i64 0] w fun e w' => e = .returned (.tuple #[.int .i64 7, .bool true]) ∧ Below w.heap.size w w' := by
  have := key_any w b r cap tl wk5 h wko5 0
  rw [wke15] at this
  exact this
theorem wkc10 (w : World) (b r cap : Nat) (tl : List Value) (h : At encC w b r cap tl wk5) : Calls Try.prog 25 #[.pointer (some ⟨b, 0, none⟩)] w fun e w' => e = .returned (.int .i64 2) ∧ Below w.heap.size w w' := by
  have := pinned_any w b r cap tl wk5 h wko5 
  rw [wke16] at this
  exact this
theorem wkc11 (w : World) (b r cap : Nat) (tl : List Value) (h : At encC w b r cap tl wk5) : Calls Try.prog 29 #[.pointer (some ⟨b, 0, none⟩), .int .i64 0] w fun e w' => e = .returned (.int .i64 1) ∧ Below w.heap.size w w' := by
  have := pins_any w b r cap tl wk5 h wko5 0
  rw [wke17] at this
  exact this
theorem wkc12 (w : World) (b r cap : Nat) (tl : List Value) (h : At encC w b r cap tl wk5) : Calls Try.prog 21 #[.pointer (some ⟨b, 0, none⟩), .int .i64 0] w fun e w' => e = .returned (.bool true) ∧ At encC w' b r cap tl wk6 ∧ Only (foot b r) w w' := by
  have := unpin_any w b r cap tl wk5 h wko5 (by decide) 0
  rw [wke18, wke19] at this
  exact this
theorem wkc13 (w : World) (b r cap : Nat) (tl : List Value) (h : At encC w b r cap tl wk6) : Calls Try.prog 21 #[.pointer (some ⟨b, 0, none⟩), .int .i64 0] w fun e w' => e = .returned (.bool false) ∧ At encC w' b r cap tl wk6 ∧ Only (foot b r) w w' := by
  have := unpin_any w b r cap tl wk6 h wko6 (by decide) 0
  rw [wke20, wke21] at this
  exact this
theorem wkc14 (w : World) (b r cap : Nat) (tl : List Value) (h : At encC w b r cap tl wk6) : Calls Try.prog 23 #[.pointer (some ⟨b, 0, none⟩), .int .i64 1] w fun e w' => e = .returned (.bool false) ∧ At encC w' b r cap tl wk6 ∧ Only (foot b r) w w' := by
  have := drop_any w b r cap tl wk6 h wko6 1
  rw [wke22, wke23] at this
  exact this
theorem wkc15 (w : World) (b r cap : Nat) (tl : List Value) (h : At encC w b r cap tl wk6) : Calls Try.prog 23 #[.pointer (some ⟨b, 0, none⟩), .int .i64 0] w fun e w' => e = .returned (.bool true) ∧ At encC w' b r cap tl wk7 ∧ Only (foot b r) w w' := by
  have := drop_any w b r cap tl wk6 h wko6 0
  rw [wke24, wke25] at this
  exact this
theorem newCk2 : newCk 2 = wk0 := rfl
set_option maxHeartbeats 4000000 in
set_option maxRecDepth 100000 in
theorem wakes_any (w : World) : Calls Try.prog 8 #[] w fun e w' => e = .returned (.bool true) ∧ Below w.heap.size w w' := by
  have HN := Lib.hid (new_yes w 2 (by decide) (by decide))
  go_enter Try.func8, Try.ntmps8
  go_wp2_with fail
  refine HN.out.mono ?_
  rintro e w0 ⟨b, r, rfl, ha, hb, h1, h2⟩
  rw [newCk2] at ha
  have HB := Lib.hid hb
  have H1 := Lib.hid h1
  have H2 := Lib.hid h2
  have HO0 : Hid (Only (foot b r) w0 w0) := Lib.hid (Only.refl _ _)
  have HA0 := Lib.hid ha
  clear ha hb h1 h2 HN
  go_wp2_with fail
  refine (wkc0 _ _ _ _ _ HA0.out).mono ?_
  rintro e w1 ⟨rfl, ha, hon⟩
  have HA1 := Lib.hid ha
  have HO1 := Lib.hid (HO0.out.trans hon)
  clear ha hon HA0 HO0
  go_wp2_with fail
  refine (wkc1 _ _ _ _ _ HA1.out).mono ?_
  rintro e w2 ⟨rfl, ha, hon⟩
  have HA2 := Lib.hid ha
  have HO2 := Lib.hid (HO1.out.trans hon)
  clear ha hon HA1 HO1
  go_wp2_with fail
  refine (wkc2 _ _ _ _ _ HA2.out).mono ?_
  rintro e w3 ⟨rfl, ha, hon⟩
  have HA3 := Lib.hid ha
  have HO3 := Lib.hid (HO2.out.trans hon)
  clear ha hon HA2 HO2
  go_wp2_with fail
  refine (wkc3 _ _ _ _ _ HA3.out).mono ?_
  rintro e w4 ⟨rfl, ha, hon⟩
  have HA4 := Lib.hid ha
  have HO4 := Lib.hid (HO3.out.trans hon)
  clear ha hon HA3 HO3
  go_wp2_with fail
  refine (wkc4 _ _ _ _ _ HA4.out).mono ?_
  rintro e w5 ⟨rfl, hb⟩
  have HA5 := Lib.hid (HA4.out.below hb)
  have HO5 := Lib.hid (HO4.out.trans (.of_below hb))
  clear hb HA4 HO4
  go_wp2_with fail
  refine (wkc5 _ _ _ _ _ HA5.out).mono ?_
  rintro e w6 ⟨rfl, ha, hon⟩
  have HA6 := Lib.hid ha
  have HO6 := Lib.hid (HO5.out.trans hon)
  clear ha hon HA5 HO5
  go_wp2_with fail
  refine (wkc6 _ _ _ _ _ HA6.out).mono ?_
  rintro e w7 ⟨rfl, ha, hon⟩
  have HA7 := Lib.hid ha
  have HO7 := Lib.hid (HO6.out.trans hon)
  clear ha hon HA6 HO6
  go_wp2_with fail
  refine (wkc7 _ _ _ _ _ HA7.out).mono ?_
  rintro e w8 ⟨rfl, ha, hon⟩
  have HA8 := Lib.hid ha
  have HO8 := Lib.hid (HO7.out.trans hon)
  clear ha hon HA7 HO7
  go_wp2_with fail
  refine (wkc8 _ _ _ _ _ HA8.out).mono ?_
  rintro e w9 ⟨rfl, ha, hon⟩
  have HA9 := Lib.hid ha
  have HO9 := Lib.hid (HO8.out.trans hon)
  clear ha hon HA8 HO8
  go_wp2_with fail
  refine (wkc9 _ _ _ _ _ HA9.out).mono ?_
  rintro e w10 ⟨rfl, hb⟩
  have HA10 := Lib.hid (HA9.out.below hb)
  have HO10 := Lib.hid (HO9.out.trans (.of_below hb))
  clear hb HA9 HO9
  go_wp2_with fail
  refine (wkc10 _ _ _ _ _ HA10.out).mono ?_
  rintro e w11 ⟨rfl, hb⟩
  have HA11 := Lib.hid (HA10.out.below hb)
  have HO11 := Lib.hid (HO10.out.trans (.of_below hb))
  clear hb HA10 HO10
  go_wp2_with fail
  refine (wkc11 _ _ _ _ _ HA11.out).mono ?_
  rintro e w12 ⟨rfl, hb⟩
  have HA12 := Lib.hid (HA11.out.below hb)
  have HO12 := Lib.hid (HO11.out.trans (.of_below hb))
  clear hb HA11 HO11
  go_wp2_with fail
  refine (wkc12 _ _ _ _ _ HA12.out).mono ?_
  rintro e w13 ⟨rfl, ha, hon⟩
  have HA13 := Lib.hid ha
  have HO13 := Lib.hid (HO12.out.trans hon)
  clear ha hon HA12 HO12
  go_wp2_with fail
  refine (wkc13 _ _ _ _ _ HA13.out).mono ?_
  rintro e w14 ⟨rfl, ha, hon⟩
  have HA14 := Lib.hid ha
  have HO14 := Lib.hid (HO13.out.trans hon)
  clear ha hon HA13 HO13
  go_wp2_with fail
  refine (wkc14 _ _ _ _ _ HA14.out).mono ?_
  rintro e w15 ⟨rfl, ha, hon⟩
  have HA15 := Lib.hid ha
  have HO15 := Lib.hid (HO14.out.trans hon)
  clear ha hon HA14 HO14
  go_wp2_with fail
  refine (wkc15 _ _ _ _ _ HA15.out).mono ?_
  rintro e w16 ⟨rfl, ha, hon⟩
  have HA16 := Lib.hid ha
  have HO16 := Lib.hid (HO15.out.trans hon)
  clear ha hon HA15 HO15
  go_wp2_with fail
  go_ret
  exact ⟨rfl, HB.out.trans (HO16.out.below HB.out.size fun k hk => by rcases hk with rfl | rfl; exact H1.out; exact H2.out)⟩

end Go.Proofs.Ytblfpakokhlkgaa
