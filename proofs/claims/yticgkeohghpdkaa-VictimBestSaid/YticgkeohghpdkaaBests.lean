/- VictimBest's walk. -/
import Derived.Test.YticgkeohghpdkaaTwos
namespace Go.Proofs.Yticgkeohghpdkaa
set_option linter.unusedSimpArgs false
set_option linter.unusedVariables false
open Go.RowKit

/-- A watch, in a variable of one's own at b, and what is not to be chosen. -/
structure In (w : World) (b : Nat) (g : Wa) (lv av tv : Value) (l : List Int) : Prop where
  box : Blk w b [lv, av, .int .u32 g.now, .int .i64 g.size]
  watch : WatchAt w (.agg #[lv, av, .int .u32 g.now, .int .i64 g.size]) g lv av
  ints : IntsAt w tv l
theorem In.below {w w' : World} {b : Nat} {g : Wa} {lv av tv : Value} {l : List Int} (h : In w b g lv av tv l) (hb : Below w.heap.size w w') : In w' b g lv av tv l :=
  ⟨h.box.below hb h.box.lt, h.watch.below hb, h.ints.below hb⟩
theorem In.drew {w : World} {b : Nat} {g : Wa} {lv av tv : Value} {l : List Int} (h : In w b g lv av tv l) : In w.drew b g lv av tv l := h.below (Below.refl _ _).drew
theorem Blk.grown {w w' : World} {b : Nat} {l : List Value} {row : Option Nat} (h : Blk w b l) (hg : w.grownBy w' row) (hr : row ≠ some b) : Blk w' b l := h.of_block (hg.block b h.lt fun e => hr e.symm)
theorem ints_one {w : World} {q : Nat} {u : Int} (h : Blk w q [.int .i64 u]) : IntsAt w (.slice (some ⟨q, 0, none⟩) 1 1) [u] := ⟨_, 1, rfl, fun i x hx => ⟨q, 0, rfl, by
  rw [Nat.zero_add]
  exact h.cell (by
    match i, hx with
    | 0, hx => cases hx; rfl
    | i + 1, hx => simp at hx)⟩⟩
theorem app_WG {w : World} {B : Nat} {sv tv : Value} {l m : List Int} {o : Oper} {a : Act} {K : Act → World → Prop} {Q : Exit → Act → World → Prop} (x y : Operand) (dst : Option Tmp) (hd : o.dst = dst) (ho : o.op = .call { callee := .builtin .append, args := #[x, y], argTypes := #[22, 22] })
    (h : Own w B sv l) (hB : B ≤ w.heap.size) (k : IntsAt w tv m) (hlen : l.length + m.length ≤ 1000000) (hx : a.eval x = sv) (hy : a.eval y = tv)
    (hh : ∀ sv' w', Own w' B sv' (l ++ m) → Below B w w' → w.grownBy w' sv.ownBlock → K (a.put dst sv') w') : o.wp Try.prog a w K Q := by
  obtain ⟨sv', w', hr, hO, hg⟩ := app_own h hB k hlen o.type
  exact wp_runTo dst hd sv' w' (exec_app a.eval o x y 22 22 ho sv tv sv' hx hy hr) (hh sv' w' hO (grown_below hg hB fun k hk => (h.lt k hk).1) hg)
theorem lit0 (w : World) (B : Nat) (hB : B ≤ w.heap.size) : Own (w.alloc (.cells #[] 3)) B (.slice (some ⟨w.heap.size, 0, none⟩) 0 0) [] := Own.lit w B hB [] (by simp) _ rfl
set_option maxRecDepth 100000 in
theorem bests_long1 (g : Wa) (l : List Int) (h1 : 40 < g.live.length) (v lv av tv : Value) (w : World) (h : WatchAt w v g lv av) (k : IntsAt w tv l) : Calls Try.prog 4 #[v, tv] w fun e w' => e = .returned (.bool true) ∧ Below w.heap.size w w' := by
  have HK := Lib.hid wakes_any
  obtain ⟨rfl, ⟨la, lc, rfl, -⟩, ⟨aa, ac, rfl, -⟩⟩ := h
  obtain ⟨b, cap, rfl⟩ := k.form
  have d0 : decide (40 < (g.live.length : Int)) = true := decide_eq_true (by omega)
  clear k
  generalize g.live.length = n1 at *
  generalize g.age.length = n2 at *
  generalize l.length = n3 at *
  go_enter Try.func4, Try.ntmps4
  go_wp2_with fail
  refine (HK.out _).mono ?_
  rintro e w2 ⟨rfl, hb⟩
  have HB := Lib.hid (stay (alloc_below w _) hb)
  clear hb
  go_wp2_with fail
  go_ret
  exact ⟨rfl, HB.out⟩
set_option maxRecDepth 100000 in
theorem bests_long2 (g : Wa) (l : List Int) (h1 : g.live.length ≤ 40) (h2 : 40 < g.age.length) (v lv av tv : Value) (w : World) (h : WatchAt w v g lv av) (k : IntsAt w tv l) : Calls Try.prog 4 #[v, tv] w fun e w' => e = .returned (.bool true) ∧ Below w.heap.size w w' := by
  have HK := Lib.hid wakes_any
  obtain ⟨rfl, ⟨la, lc, rfl, -⟩, ⟨aa, ac, rfl, -⟩⟩ := h
  obtain ⟨b, cap, rfl⟩ := k.form
  have d0 : decide (40 < (g.live.length : Int)) = false := decide_eq_false (by omega)
  have d1 : decide (40 < (g.age.length : Int)) = true := decide_eq_true (by omega)
  clear k
  generalize g.live.length = n1 at *
  generalize g.age.length = n2 at *
  generalize l.length = n3 at *
  go_enter Try.func4, Try.ntmps4
  go_wp2_with fail
  refine (HK.out _).mono ?_
  rintro e w2 ⟨rfl, hb⟩
  have HB := Lib.hid (stay (alloc_below w _) hb)
  clear hb
  go_wp2_with fail
  go_ret
  exact ⟨rfl, HB.out⟩
set_option maxRecDepth 100000 in
theorem bests_long3 (g : Wa) (l : List Int) (h1 : g.live.length ≤ 40) (h2 : g.age.length ≤ 40) (h3 : 40 < l.length) (v lv av tv : Value) (w : World) (h : WatchAt w v g lv av) (k : IntsAt w tv l) : Calls Try.prog 4 #[v, tv] w fun e w' => e = .returned (.bool true) ∧ Below w.heap.size w w' := by
  have HK := Lib.hid wakes_any
  obtain ⟨rfl, ⟨la, lc, rfl, -⟩, ⟨aa, ac, rfl, -⟩⟩ := h
  obtain ⟨b, cap, rfl⟩ := k.form
  have d0 : decide (40 < (g.live.length : Int)) = false := decide_eq_false (by omega)
  have d1 : decide (40 < (g.age.length : Int)) = false := decide_eq_false (by omega)
  have d2 : decide (40 < (l.length : Int)) = true := decide_eq_true (by omega)
  clear k
  generalize g.live.length = n1 at *
  generalize g.age.length = n2 at *
  generalize l.length = n3 at *
  go_enter Try.func4, Try.ntmps4
  go_wp2_with fail
  refine (HK.out _).mono ?_
  rintro e w2 ⟨rfl, hb⟩
  have HB := Lib.hid (stay (alloc_below w _) hb)
  clear hb
  go_wp2_with fail
  go_ret
  exact ⟨rfl, HB.out⟩
set_option maxRecDepth 100000 in
set_option maxHeartbeats 4000000 in
theorem bests_short (g : Wa) (hw : g.Wf) (hll : g.live.length ≤ 40) (hla : g.age.length ≤ 40) (l : List Int) (hl : l.length ≤ 40) (v lv av tv : Value) (w : World) (h : WatchAt w v g lv av) (k : IntsAt w tv l) : Calls Try.prog 4 #[v, tv] w fun e w' => e = .returned (.bool true) ∧ Below w.heap.size w w' := by
  have HK := Lib.hid wakes_any
  have HBEST := Lib.hid fun m (hm : m.length ≤ 1000) v tv w' h k => best_any g hw (by omega) (by omega) m hm v lv av tv w' h k
  obtain ⟨n, hn⟩ : ∃ n, min g.live.length g.age.length = n := ⟨_, rfl⟩
  obtain ⟨W, hW⟩ : ∃ W, g.at = W := ⟨_, rfl⟩
  have HWf := Lib.hid fun s => hw.at s
  have HAB := Lib.hid fun x y t (ht : above x y = t) hx hy w' => by have := above_any x y hx hy w'; rw [ht] at this; exact this
  have HLI := Lib.hid fun s w' (h : IntsAt w' tv l) => listed_any l (by omega) s tv w' h
  obtain ⟨rfl, ⟨la, lc, rfl, hlc⟩, ⟨aa, ac, rfl, hac⟩⟩ := h
  have HWt := Lib.hid (WatchAt.mk (w := w) (g := g) rfl ⟨la, lc, rfl, hlc⟩ ⟨aa, ac, rfl, hac⟩)
  have HAT := Lib.hid fun s (hs : s < n) w' (h : In w' w.heap.size g (.slice la g.live.length lc) (.slice aa g.age.length ac) tv l) => at_any g s (by omega) (by omega) _ _ _ w' h.watch
  have HIT := Lib.hid k
  obtain ⟨b, cap', rfl⟩ := k.form
  rw [hn] at HBEST
  rw [hW] at HWf HBEST HAT
  obtain ⟨live, age, now, size⟩ := g
  simp only at *
  obtain ⟨p, hp⟩ : ∃ p, bestN W l n = p := ⟨_, rfl⟩
  obtain ⟨u, ok, mm⟩ := p
  have HIS := Lib.hid (best_is W l n)
  rw [hp] at HIS
  simp only at HIS
  have d0 : decide (40 < (live.length : Int)) = false := decide_eq_false (by omega)
  have d1 : decide (40 < (age.length : Int)) = false := decide_eq_false (by omega)
  have d2 : decide (40 < (l.length : Int)) = false := decide_eq_false (by omega)
  have HN := Lib.hid hn
  have hn40 : n ≤ 40 := by omega
  have HI0 : Hid (In (w.alloc (.cells #[.slice la live.length lc, .slice aa age.length ac, .int .u32 now, .int .i64 size] 29)) w.heap.size ⟨live, age, now, size⟩ (.slice la live.length lc) (.slice aa age.length ac) (.slice b l.length cap') l) := Lib.hid ⟨Blk.new w _ _, HWt.out.below (alloc_below _ _), HIT.out.below (alloc_below _ _)⟩
  have H1 := Lib.hid (HBEST.out l (by omega) _ _ _ HI0.out.watch HI0.out.ints)
  rw [hp] at H1
  simp only at H1
  clear hlc hac k hn hW hp hw HWt HIT
  go_enter Try.func4, Try.ntmps4
  go_wp2_with fail
  clear d0 d1 d2
  refine H1.out.mono ?_
  rintro e w1 ⟨rfl, hb⟩
  have HI1 := Lib.hid (HI0.out.below hb)
  have HB := Lib.hid (stay (alloc_below w _) hb)
  clear hb H1 HI0
  have c0 := HI1.out.box.cell (i := 0) rfl
  have c1 := HI1.out.box.cell (i := 1) rfl
  have c2 := HI1.out.box.cell (i := 2) rfl
  have c3 := HI1.out.box.cell (i := 3) rfl
  go_upto_region 4 with fail
  go_cut [7] from 34 to 40 (fun s7 wx => s7 = .int .i64 n ∧ w1 = wx)
  case first =>
    go_wp2_with fail
    all_goals go_meet
    all_goals exact ⟨congrArg (Value.int .i64) (by have := HN.out; omega), rfl⟩
  case rest =>
    obtain ⟨rfl, rfl⟩ := hcut
    clear c0 c1 c2 c3
    cases ok with
    | false =>
      obtain ⟨rfl, rfl⟩ := HIS.out.no rfl
      have HM := Lib.hid HIS.out.most
      go_wp2_with fail
      go_loopg [8] n (fun q i wr => ∃ k : Nat, n - k ≤ q ∧ k ≤ n ∧ i = .int .i64 k ∧ Below w1.heap.size w1 wr)
      case atStart => exact ⟨0, by omega, by omega, rfl, Below.refl _ _⟩
      case round =>
        obtain ⟨k, hq, hk, rfl, hb⟩ := hrel
        have HW := Lib.hid hb
        have HIr := Lib.hid (HI1.out.below hb)
        clear hb
        by_cases hlt : k < n
        · have hk1 : (k : Int) < (n : Int) := by omega
          obtain ⟨t, ht⟩ : ∃ t, decide ((k : Int) ∈ l) = t := ⟨_, rfl⟩
          have H3 := Lib.hid (HLI.out k wr HIr.out.ints)
          rw [ht] at H3
          have H4 := Lib.hid (HAT.out k hlt wr HIr.out)
          cases t with
          | true =>
            clear ht
            go_wp2_with fail
            refine H3.out.mono ?_
            rintro e w3 ⟨rfl, rfl⟩
            go_wp2_with fail
            go_roundg (n - (k + 1))
            case measure => omega
            case rel => exact ⟨k + 1, by omega, by omega, by go_num, HW.out⟩
          | false =>
            have H5 := Lib.hid (HAB.out (W k) oneWt false (by rw [above_one]; exact HM.out k hlt (of_decide_eq_false ht)) (HWf.out k) oneWt_wf)
            clear ht
            have c0 := HIr.out.box.cell (i := 0) rfl
            have c1 := HIr.out.box.cell (i := 1) rfl
            have c2 := HIr.out.box.cell (i := 2) rfl
            have c3 := HIr.out.box.cell (i := 3) rfl
            go_wp2_with fail
            refine H3.out.mono ?_
            rintro e w3 ⟨rfl, rfl⟩
            go_wp2_with fail
            refine H4.out.mono ?_
            rintro e w3 ⟨rfl, hb⟩
            have HW3 := Lib.hid (stay HW.out hb)
            clear hb c0 c1 c2 c3
            go_wp2_with fail
            refine (H5.out _).mono ?_
            rintro e w4 ⟨rfl, hb⟩
            have HW4 := Lib.hid (stay HW3.out hb)
            clear hb
            go_wp2_with fail
            go_roundg (n - (k + 1))
            case measure => omega
            case rel => exact ⟨k + 1, by omega, by omega, by go_num, HW4.out⟩
        · obtain rfl : k = n := by omega
          have hk1 : ¬ (k : Int) < (k : Int) := by omega
          go_wp2_with fail
          refine (HK.out _).mono ?_
          rintro e w3 ⟨rfl, hb⟩
          have HW3 := Lib.hid (stay HB.out (stay HW.out hb))
          clear hb
          go_wp2_with fail
          go_ret
          exact ⟨rfl, HW3.out⟩
    | true =>
      obtain ⟨hu, hul, rfl, hab⟩ := HIS.out.yes rfl
      have hu1 : (u : Int) < (n : Int) := by omega
      have hu2 : decide ((u : Int) < 0) = false := decide_eq_false (by omega)
      have hu3 : decide ((n : Int) ≤ (u : Int)) = false := decide_eq_false (by omega)
      have hu4 : decide (n ≤ u) = false := decide_eq_false (by omega)
      have HM := Lib.hid HIS.out.most
      have HF := Lib.hid (HIS.out.first rfl)
      have H3 := Lib.hid (HLI.out u w1 HI1.out.ints)
      rw [decide_eq_false hul] at H3
      have H4 := Lib.hid (HAT.out u hu w1 HI1.out)
      have H5 := Lib.hid (HAB.out (W u) oneWt true (by rw [above_one]; exact hab) (HWf.out u) oneWt_wf)
      have c0 := HI1.out.box.cell (i := 0) rfl
      have c1 := HI1.out.box.cell (i := 1) rfl
      have c2 := HI1.out.box.cell (i := 2) rfl
      have c3 := HI1.out.box.cell (i := 3) rfl
      have HUL := Lib.hid hul
      clear hul hab
      go_wp2_with fail
      refine H3.out.mono ?_
      rintro e w3 ⟨rfl, rfl⟩
      go_wp2_with fail
      refine H4.out.mono ?_
      rintro e w3 ⟨rfl, hb⟩
      have HB3 := Lib.hid (stay HB.out hb)
      have HI3 := Lib.hid (HI1.out.below hb)
      clear hb c0 c1 c2 c3
      go_wp2_with fail
      refine (H5.out _).mono ?_
      rintro e w4 ⟨rfl, hb⟩
      have HB4 := Lib.hid (stay HB3.out hb)
      have HI4 := Lib.hid (HI3.out.below hb)
      clear hb H3 H4 H5 HB HI1 HB3 HI3
      go_wp2_with fail
      go_loopg [9] n (fun q i wr => ∃ (k : Nat) (wy : World), wy = wr ∧ n - k ≤ q ∧ k ≤ n ∧ i = .int .i64 k ∧ Below w4.heap.size w4 wy)
      case atStart => exact ⟨0, _, rfl, by omega, by omega, rfl, Below.refl _ _⟩
      case round =>
        obtain ⟨k, wr, rfl, hq, hk, rfl, hb⟩ := hrel
        have HW := Lib.hid hb
        have HIn := Lib.hid (HI4.out.below hb)
        clear hb
        by_cases hlt : k < n
        · have hk1 : (k : Int) < (n : Int) := by omega
          obtain ⟨t, ht⟩ : ∃ t, decide ((k : Int) ∈ l) = t := ⟨_, rfl⟩
          have H3 := Lib.hid (HLI.out k wr HIn.out.ints)
          rw [ht] at H3
          cases t with
          | true =>
            clear ht
            go_wp2_with fail
            refine H3.out.mono ?_
            rintro e w5 ⟨rfl, rfl⟩
            go_wp2_with fail
            go_roundg (n - (k + 1))
            case measure => omega
            case rel => exact ⟨k + 1, _, rfl, by omega, by omega, by go_num, HW.out⟩
          | false =>
            have e1 := HM.out k hlt (of_decide_eq_false ht)
            have e2 := fun h => HF.out k h (of_decide_eq_false ht)
            clear ht
            by_cases hku : k = u
            · have d0 : ((k : Int) == (u : Int)) = true := by simp; omega
              have HKU := Lib.hid hku
              clear hku e1 e2
              go_wp2_with fail
              refine H3.out.mono ?_
              rintro e w5 ⟨rfl, rfl⟩
              go_wp2_with fail
              go_roundg (n - (k + 1))
              case measure => omega
              case rel => exact ⟨k + 1, _, rfl, by omega, by omega, by go_num, HW.out⟩
            · have d0 : ((k : Int) == (u : Int)) = false := by simp; omega
              by_cases hless : k < u
              · have e2 := e2 hless
                have hl1 : (k : Int) < (u : Int) := by omega
                go_upto_region 17 with fail
                go_wp2_with fail
                refine H3.out.mono ?_
                rintro e w5 ⟨rfl, rfl⟩
                go_upto_region 18 with fail
                refine startH (fun wq => Below wr.heap.size wr wq) (by kernel_rfl) ?_
                refine takeH 0 (some 97) (.agg #[.slice la live.length lc, .slice aa age.length ac, .int .u32 now, .int .i64 size]) rfl rfl (by kernel_rfl) (by kernel_rfl) (by kernel_rfl) (fun _ _ _ h => h) rfl (fun wq hS => by have kb := (HIn.out.below hS).box; have c0 := kb.cell (i := 0) rfl; have c1 := kb.cell (i := 1) rfl; have c2 := kb.cell (i := 2) rfl; have c3 := kb.cell (i := 3) rfl; go_simp) (Below.refl _ _).drew ?_
                try simp only [Act.put, List.setIfInBounds_toArray, List.set_cons_succ, List.set_cons_zero]
                refine takeH 1 (some 98) (.int .i64 k) rfl rfl (by kernel_rfl) (by kernel_rfl) (by kernel_rfl) (fun _ _ _ h => h) rfl (fun wq hS => by go_simp) (Below.refl _ _).drew ?_
                try simp only [Act.put, List.setIfInBounds_toArray, List.set_cons_succ, List.set_cons_zero]
                refine takeH 3 (some 100) (.agg #[.slice la live.length lc, .slice aa age.length ac, .int .u32 now, .int .i64 size]) rfl rfl (by kernel_rfl) (by kernel_rfl) (by kernel_rfl) (fun _ _ _ h => h) rfl (fun wq hS => by have kb := (HIn.out.below hS).box; have c0 := kb.cell (i := 0) rfl; have c1 := kb.cell (i := 1) rfl; have c2 := kb.cell (i := 2) rfl; have c3 := kb.cell (i := 3) rfl; go_simp) (Below.refl _ _).drew ?_
                try simp only [Act.put, List.setIfInBounds_toArray, List.set_cons_succ, List.set_cons_zero]
                refine takeH 4 (some 101) (.int .i64 u) rfl rfl (by kernel_rfl) (by kernel_rfl) (by kernel_rfl) (fun _ _ _ h => h) rfl (fun wq hS => by go_simp) (Below.refl _ _).drew ?_
                try simp only [Act.put, List.setIfInBounds_toArray, List.set_cons_succ, List.set_cons_zero]
                refine oneH 2 (by kernel_rfl) rfl rfl fun K hK => ?_
                go_simp
                refine (HAT.out k (by omega) _ HIn.out.drew).mono ?_
                rintro e va1 ⟨rfl, hb⟩
                have HSa1 := Lib.hid (stay (Below.refl wr.heap.size wr).drew hb)
                have HIa1 := Lib.hid ((HIn.out.drew).below hb)
                refine hK _ _ HSa1.out ?_
                clear hK hb K
                try simp only [Act.put, List.setIfInBounds_toArray, List.set_cons_succ, List.set_cons_zero]
                refine oneH 5 (by kernel_rfl) rfl rfl fun K hK => ?_
                go_simp
                refine (HAT.out u (by omega) _ HIa1.out).mono ?_
                rintro e va2 ⟨rfl, hb⟩
                have HSa2 := Lib.hid (stay HSa1.out hb)
                have HIa2 := Lib.hid ((HIa1.out).below hb)
                refine hK _ _ HSa2.out ?_
                clear hK hb K
                try simp only [Act.put, List.setIfInBounds_toArray, List.set_cons_succ, List.set_cons_zero]
                refine oneH 6 (by kernel_rfl) rfl rfl fun K hK => ?_
                go_simp
                refine (HAB.out (W k) (W u) false e1 (HWf.out k) (HWf.out u) _).mono ?_
                rintro e va3 ⟨rfl, hb⟩
                have HSa3 := Lib.hid (stay HSa2.out hb)
                have HIa3 := Lib.hid ((HIa2.out).below hb)
                refine hK _ _ HSa3.out ?_
                clear hK hb K
                try simp only [Act.put, List.setIfInBounds_toArray, List.set_cons_succ, List.set_cons_zero]
                refine takeH 7 (some 104) (.bool false) rfl rfl (by kernel_rfl) (by kernel_rfl) (by kernel_rfl) (fun _ _ _ h => h) rfl (fun wq hS => by go_simp) HSa3.out ?_
                try simp only [Act.put, List.setIfInBounds_toArray, List.set_cons_succ, List.set_cons_zero]
                refine takeH 8 (some 105) (.int .i64 k) rfl rfl (by kernel_rfl) (by kernel_rfl) (by kernel_rfl) (fun _ _ _ h => h) rfl (fun wq hS => by go_simp) HSa3.out ?_
                try simp only [Act.put, List.setIfInBounds_toArray, List.set_cons_succ, List.set_cons_zero]
                refine takeH 9 (some 106) (.int .i64 u) rfl rfl (by kernel_rfl) (by kernel_rfl) (by kernel_rfl) (fun _ _ _ h => h) rfl (fun wq hS => by go_simp) HSa3.out ?_
                try simp only [Act.put, List.setIfInBounds_toArray, List.set_cons_succ, List.set_cons_zero]
                refine takeH 10 (some 107) (.bool true) rfl rfl (by kernel_rfl) (by kernel_rfl) (by kernel_rfl) (fun _ _ _ h => h) rfl (fun wq hS => by go_simp) HSa3.out ?_
                try simp only [Act.put, List.setIfInBounds_toArray, List.set_cons_succ, List.set_cons_zero]
                refine takeH 11 (some 108) (.bool true) rfl rfl (by kernel_rfl) (by kernel_rfl) (by kernel_rfl) (fun _ _ _ h => h) rfl (fun wq hS => by go_simp) HSa3.out ?_
                try simp only [Act.put, List.setIfInBounds_toArray, List.set_cons_succ, List.set_cons_zero]
                refine takeH 12 (some 109) (.agg #[.slice la live.length lc, .slice aa age.length ac, .int .u32 now, .int .i64 size]) rfl rfl (by kernel_rfl) (by kernel_rfl) (by kernel_rfl) (fun _ _ _ h => h) rfl (fun wq hS => by have kb := (HIn.out.below hS).box; have c0 := kb.cell (i := 0) rfl; have c1 := kb.cell (i := 1) rfl; have c2 := kb.cell (i := 2) rfl; have c3 := kb.cell (i := 3) rfl; go_simp) HSa3.out ?_
                try simp only [Act.put, List.setIfInBounds_toArray, List.set_cons_succ, List.set_cons_zero]
                refine takeH 13 (some 110) (.int .i64 u) rfl rfl (by kernel_rfl) (by kernel_rfl) (by kernel_rfl) (fun _ _ _ h => h) rfl (fun wq hS => by go_simp) HSa3.out ?_
                try simp only [Act.put, List.setIfInBounds_toArray, List.set_cons_succ, List.set_cons_zero]
                refine takeH 15 (some 112) (.agg #[.slice la live.length lc, .slice aa age.length ac, .int .u32 now, .int .i64 size]) rfl rfl (by kernel_rfl) (by kernel_rfl) (by kernel_rfl) (fun _ _ _ h => h) rfl (fun wq hS => by have kb := (HIn.out.below hS).box; have c0 := kb.cell (i := 0) rfl; have c1 := kb.cell (i := 1) rfl; have c2 := kb.cell (i := 2) rfl; have c3 := kb.cell (i := 3) rfl; go_simp) HSa3.out ?_
                try simp only [Act.put, List.setIfInBounds_toArray, List.set_cons_succ, List.set_cons_zero]
                refine takeH 16 (some 113) (.int .i64 k) rfl rfl (by kernel_rfl) (by kernel_rfl) (by kernel_rfl) (fun _ _ _ h => h) rfl (fun wq hS => by go_simp) HSa3.out ?_
                try simp only [Act.put, List.setIfInBounds_toArray, List.set_cons_succ, List.set_cons_zero]
                refine oneH 14 (by kernel_rfl) rfl rfl fun K hK => ?_
                go_simp
                refine (HAT.out u (by omega) _ HIa3.out).mono ?_
                rintro e va4 ⟨rfl, hb⟩
                have HSa4 := Lib.hid (stay HSa3.out hb)
                have HIa4 := Lib.hid ((HIa3.out).below hb)
                refine hK _ _ HSa4.out ?_
                clear hK hb K
                try simp only [Act.put, List.setIfInBounds_toArray, List.set_cons_succ, List.set_cons_zero]
                refine oneH 17 (by kernel_rfl) rfl rfl fun K hK => ?_
                go_simp
                refine (HAT.out k (by omega) _ HIa4.out).mono ?_
                rintro e va5 ⟨rfl, hb⟩
                have HSa5 := Lib.hid (stay HSa4.out hb)
                have HIa5 := Lib.hid ((HIa4.out).below hb)
                refine hK _ _ HSa5.out ?_
                clear hK hb K
                try simp only [Act.put, List.setIfInBounds_toArray, List.set_cons_succ, List.set_cons_zero]
                refine oneH 18 (by kernel_rfl) rfl rfl fun K hK => ?_
                go_simp
                refine (HAB.out (W u) (W k) true e2 (HWf.out u) (HWf.out k) _).mono ?_
                rintro e va6 ⟨rfl, hb⟩
                have HSa6 := Lib.hid (stay HSa5.out hb)
                have HIa6 := Lib.hid ((HIa5.out).below hb)
                refine hK _ _ HSa6.out ?_
                clear hK hb K
                try simp only [Act.put, List.setIfInBounds_toArray, List.set_cons_succ, List.set_cons_zero]
                refine takeH 19 (some 116) (.bool false) rfl rfl (by kernel_rfl) (by kernel_rfl) (by kernel_rfl) (fun _ _ _ h => h) rfl (fun wq hS => by go_simp) HSa6.out ?_
                try simp only [Act.put, List.setIfInBounds_toArray, List.set_cons_succ, List.set_cons_zero]
                refine takeH 20 (some 117) (.bool false) rfl rfl (by kernel_rfl) (by kernel_rfl) (by kernel_rfl) (fun _ _ _ h => h) rfl (fun wq hS => by go_simp) HSa6.out ?_
                try simp only [Act.put, List.setIfInBounds_toArray, List.set_cons_succ, List.set_cons_zero]
                refine takeH 21 (some 118) (.bool false) rfl rfl (by kernel_rfl) (by kernel_rfl) (by kernel_rfl) (fun _ _ _ h => h) rfl (fun wq hS => by go_simp) HSa6.out ?_
                try simp only [Act.put, List.setIfInBounds_toArray, List.set_cons_succ, List.set_cons_zero]
                refine wpAnyH_done (by kernel_rfl) ?_ _
                have HWz := Lib.hid (stay HW.out HSa6.out)
                go_wp2_with fail
                go_roundg (n - (k + 1))
                case measure => omega
                case rel => exact ⟨k + 1, _, rfl, by omega, by omega, by go_num, HWz.out⟩
              · have hl1 : ¬ (k : Int) < (u : Int) := by omega
                clear e2
                go_upto_region 17 with fail
                go_wp2_with fail
                refine H3.out.mono ?_
                rintro e w5 ⟨rfl, rfl⟩
                go_upto_region 18 with fail
                refine startH (fun wq => Below wr.heap.size wr wq) (by kernel_rfl) ?_
                refine takeH 0 (some 97) (.agg #[.slice la live.length lc, .slice aa age.length ac, .int .u32 now, .int .i64 size]) rfl rfl (by kernel_rfl) (by kernel_rfl) (by kernel_rfl) (fun _ _ _ h => h) rfl (fun wq hS => by have kb := (HIn.out.below hS).box; have c0 := kb.cell (i := 0) rfl; have c1 := kb.cell (i := 1) rfl; have c2 := kb.cell (i := 2) rfl; have c3 := kb.cell (i := 3) rfl; go_simp) (Below.refl _ _).drew ?_
                try simp only [Act.put, List.setIfInBounds_toArray, List.set_cons_succ, List.set_cons_zero]
                refine takeH 1 (some 98) (.int .i64 k) rfl rfl (by kernel_rfl) (by kernel_rfl) (by kernel_rfl) (fun _ _ _ h => h) rfl (fun wq hS => by go_simp) (Below.refl _ _).drew ?_
                try simp only [Act.put, List.setIfInBounds_toArray, List.set_cons_succ, List.set_cons_zero]
                refine takeH 3 (some 100) (.agg #[.slice la live.length lc, .slice aa age.length ac, .int .u32 now, .int .i64 size]) rfl rfl (by kernel_rfl) (by kernel_rfl) (by kernel_rfl) (fun _ _ _ h => h) rfl (fun wq hS => by have kb := (HIn.out.below hS).box; have c0 := kb.cell (i := 0) rfl; have c1 := kb.cell (i := 1) rfl; have c2 := kb.cell (i := 2) rfl; have c3 := kb.cell (i := 3) rfl; go_simp) (Below.refl _ _).drew ?_
                try simp only [Act.put, List.setIfInBounds_toArray, List.set_cons_succ, List.set_cons_zero]
                refine takeH 4 (some 101) (.int .i64 u) rfl rfl (by kernel_rfl) (by kernel_rfl) (by kernel_rfl) (fun _ _ _ h => h) rfl (fun wq hS => by go_simp) (Below.refl _ _).drew ?_
                try simp only [Act.put, List.setIfInBounds_toArray, List.set_cons_succ, List.set_cons_zero]
                refine oneH 2 (by kernel_rfl) rfl rfl fun K hK => ?_
                go_simp
                refine (HAT.out k (by omega) _ HIn.out.drew).mono ?_
                rintro e va1 ⟨rfl, hb⟩
                have HSa1 := Lib.hid (stay (Below.refl wr.heap.size wr).drew hb)
                have HIa1 := Lib.hid ((HIn.out.drew).below hb)
                refine hK _ _ HSa1.out ?_
                clear hK hb K
                try simp only [Act.put, List.setIfInBounds_toArray, List.set_cons_succ, List.set_cons_zero]
                refine oneH 5 (by kernel_rfl) rfl rfl fun K hK => ?_
                go_simp
                refine (HAT.out u (by omega) _ HIa1.out).mono ?_
                rintro e va2 ⟨rfl, hb⟩
                have HSa2 := Lib.hid (stay HSa1.out hb)
                have HIa2 := Lib.hid ((HIa1.out).below hb)
                refine hK _ _ HSa2.out ?_
                clear hK hb K
                try simp only [Act.put, List.setIfInBounds_toArray, List.set_cons_succ, List.set_cons_zero]
                refine oneH 6 (by kernel_rfl) rfl rfl fun K hK => ?_
                go_simp
                refine (HAB.out (W k) (W u) false e1 (HWf.out k) (HWf.out u) _).mono ?_
                rintro e va3 ⟨rfl, hb⟩
                have HSa3 := Lib.hid (stay HSa2.out hb)
                have HIa3 := Lib.hid ((HIa2.out).below hb)
                refine hK _ _ HSa3.out ?_
                clear hK hb K
                try simp only [Act.put, List.setIfInBounds_toArray, List.set_cons_succ, List.set_cons_zero]
                refine takeH 7 (some 104) (.bool false) rfl rfl (by kernel_rfl) (by kernel_rfl) (by kernel_rfl) (fun _ _ _ h => h) rfl (fun wq hS => by go_simp) HSa3.out ?_
                try simp only [Act.put, List.setIfInBounds_toArray, List.set_cons_succ, List.set_cons_zero]
                refine takeH 8 (some 105) (.int .i64 k) rfl rfl (by kernel_rfl) (by kernel_rfl) (by kernel_rfl) (fun _ _ _ h => h) rfl (fun wq hS => by go_simp) HSa3.out ?_
                try simp only [Act.put, List.setIfInBounds_toArray, List.set_cons_succ, List.set_cons_zero]
                refine takeH 9 (some 106) (.int .i64 u) rfl rfl (by kernel_rfl) (by kernel_rfl) (by kernel_rfl) (fun _ _ _ h => h) rfl (fun wq hS => by go_simp) HSa3.out ?_
                try simp only [Act.put, List.setIfInBounds_toArray, List.set_cons_succ, List.set_cons_zero]
                refine takeH 10 (some 107) (.bool false) rfl rfl (by kernel_rfl) (by kernel_rfl) (by kernel_rfl) (fun _ _ _ h => h) rfl (fun wq hS => by go_simp) HSa3.out ?_
                try simp only [Act.put, List.setIfInBounds_toArray, List.set_cons_succ, List.set_cons_zero]
                refine takeH 11 (some 108) (.bool false) rfl rfl (by kernel_rfl) (by kernel_rfl) (by kernel_rfl) (fun _ _ _ h => h) rfl (fun wq hS => by go_simp) HSa3.out ?_
                try simp only [Act.put, List.setIfInBounds_toArray, List.set_cons_succ, List.set_cons_zero]
                refine passH 12 (some 109) rfl rfl (by kernel_rfl) (by kernel_rfl) (by kernel_rfl) (fun _ _ _ h => h) rfl HSa3.out ?_
                try simp only [Act.put, List.setIfInBounds_toArray, List.set_cons_succ, List.set_cons_zero]
                refine passH 13 (some 110) rfl rfl (by kernel_rfl) (by kernel_rfl) (by kernel_rfl) (fun _ _ _ h => h) rfl HSa3.out ?_
                try simp only [Act.put, List.setIfInBounds_toArray, List.set_cons_succ, List.set_cons_zero]
                refine passH 14 (some 111) rfl rfl (by kernel_rfl) (by kernel_rfl) (by kernel_rfl) (fun _ _ _ h => h) rfl HSa3.out ?_
                try simp only [Act.put, List.setIfInBounds_toArray, List.set_cons_succ, List.set_cons_zero]
                refine passH 15 (some 112) rfl rfl (by kernel_rfl) (by kernel_rfl) (by kernel_rfl) (fun _ _ _ h => h) rfl HSa3.out ?_
                try simp only [Act.put, List.setIfInBounds_toArray, List.set_cons_succ, List.set_cons_zero]
                refine passH 16 (some 113) rfl rfl (by kernel_rfl) (by kernel_rfl) (by kernel_rfl) (fun _ _ _ h => h) rfl HSa3.out ?_
                try simp only [Act.put, List.setIfInBounds_toArray, List.set_cons_succ, List.set_cons_zero]
                refine passH 17 (some 114) rfl rfl (by kernel_rfl) (by kernel_rfl) (by kernel_rfl) (fun _ _ _ h => h) rfl HSa3.out ?_
                try simp only [Act.put, List.setIfInBounds_toArray, List.set_cons_succ, List.set_cons_zero]
                refine passH 18 (some 115) rfl rfl (by kernel_rfl) (by kernel_rfl) (by kernel_rfl) (fun _ _ _ h => h) rfl HSa3.out ?_
                try simp only [Act.put, List.setIfInBounds_toArray, List.set_cons_succ, List.set_cons_zero]
                refine passH 19 (some 116) rfl rfl (by kernel_rfl) (by kernel_rfl) (by kernel_rfl) (fun _ _ _ h => h) rfl HSa3.out ?_
                try simp only [Act.put, List.setIfInBounds_toArray, List.set_cons_succ, List.set_cons_zero]
                refine takeH 20 (some 117) (.bool false) rfl rfl (by kernel_rfl) (by kernel_rfl) (by kernel_rfl) (fun _ _ _ h => h) rfl (fun wq hS => by go_simp) HSa3.out ?_
                try simp only [Act.put, List.setIfInBounds_toArray, List.set_cons_succ, List.set_cons_zero]
                refine takeH 21 (some 118) (.bool false) rfl rfl (by kernel_rfl) (by kernel_rfl) (by kernel_rfl) (fun _ _ _ h => h) rfl (fun wq hS => by go_simp) HSa3.out ?_
                try simp only [Act.put, List.setIfInBounds_toArray, List.set_cons_succ, List.set_cons_zero]
                refine wpAnyH_done (by kernel_rfl) ?_ _
                have HWz := Lib.hid (stay HW.out HSa3.out)
                go_wp2_with fail
                go_roundg (n - (k + 1))
                case measure => omega
                case rel => exact ⟨k + 1, _, rfl, by omega, by omega, by go_num, HWz.out⟩
        · have hkn : n = k := by omega
          subst hkn
          have hk1 : ¬ (n : Int) < (n : Int) := by omega
          obtain ⟨p2, hp2⟩ : ∃ p, bestN W (l ++ [(u : Int)]) n = p := ⟨_, rfl⟩
          obtain ⟨j, is, m2⟩ := p2
          have HIS2 := Lib.hid (best_is W (l ++ [(u : Int)]) n)
          rw [hp2] at HIS2
          simp only at HIS2
          have HB2 := Lib.hid fun tv' w' h k => HBEST.out (l ++ [(u : Int)]) (by rw [List.length_append]; simp; omega) (.agg #[.slice la live.length lc, .slice aa age.length ac, .int .u32 now, .int .i64 size]) tv' w' h k
          rw [hp2] at HB2
          simp only at HB2
          clear hp2 hq hk
          go_upto_region 20 with fail
          go_cut [10, 11] from 119 to 129 (fun s10 s11 wx => ∃ wy : World, wy = wx ∧ s10 = .int .i64 j ∧ s11 = .bool is ∧ Below wr.heap.size wr wy)
          case first =>
            refine startH (fun wq => Below wr.heap.size wr wq) (by kernel_rfl) ?_
            refine takeH 0 (some 120) (.agg #[.slice la live.length lc, .slice aa age.length ac, .int .u32 now, .int .i64 size]) rfl rfl (by kernel_rfl) (by kernel_rfl) (by kernel_rfl) (fun _ _ _ h => h) rfl (fun wq hS => by have kb := (HIn.out.below hS).box; have c0 := kb.cell (i := 0) rfl; have c1 := kb.cell (i := 1) rfl; have c2 := kb.cell (i := 2) rfl; have c3 := kb.cell (i := 3) rfl; go_simp) (Below.refl _ _).drew ?_
            try simp only [Act.put, List.setIfInBounds_toArray, List.set_cons_succ, List.set_cons_zero]
            refine takeH 2 (some 122) (.slice b l.length cap') rfl rfl (by kernel_rfl) (by kernel_rfl) (by kernel_rfl) (fun _ _ _ h => h) rfl (fun wq hS => by go_simp) (Below.refl _ _).drew ?_
            try simp only [Act.put, List.setIfInBounds_toArray, List.set_cons_succ, List.set_cons_zero]
            refine takeH 4 (some 124) (.int .i64 u) rfl rfl (by kernel_rfl) (by kernel_rfl) (by kernel_rfl) (fun _ _ _ h => h) rfl (fun wq hS => by go_simp) (Below.refl _ _).drew ?_
            try simp only [Act.put, List.setIfInBounds_toArray, List.set_cons_succ, List.set_cons_zero]
            refine twoH 1 5 (by kernel_rfl) rfl rfl rfl rfl (fun K hK => ?_) (fun K hK => ?_)
            · refine wp_runTo (some 121) rfl (.slice (some ⟨wr.heap.size, 0, none⟩) 0 0) ((wr.drew).alloc (.cells #[] 3)) (by go_simp) ?_
              have HS1 : Hid (Below wr.heap.size wr ((wr.drew).alloc (.cells #[] 3))) := Lib.hid ((Below.refl wr.heap.size wr).drew.alloc (by first | exact Nat.le_refl _ | exact (Below.refl wr.heap.size wr).drew.size | simp) _)
              have HO1 : Hid (Own ((wr.drew).alloc (.cells #[] 3)) wr.heap.size (.slice (some ⟨wr.heap.size, 0, none⟩) 0 0) []) := Lib.hid (by have h := lit0 (wr.drew) wr.heap.size (by first | exact Nat.le_refl _ | exact (Below.refl wr.heap.size wr).drew.size | simp); simpa using h)
              refine hK _ _ HS1.out ?_
              clear hK K
              try simp only [Act.put, List.setIfInBounds_toArray, List.set_cons_succ, List.set_cons_zero]
              refine twoH 3 5 (by kernel_rfl) rfl rfl rfl rfl (fun K hK => ?_) (fun K hK => ?_)
              · refine app_WG (.tmp 121) (.tmp 122) (some 123) rfl rfl HO1.out HS1.out.size ((HIn.out.below HS1.out).ints) (by simp only [List.length_nil]; omega) rfl rfl ?_
                intro s3 v3 ho hb hgr
                rw [List.nil_append] at ho
                have HS13 := Lib.hid (HS1.out.trans hb)
                have HO13 := Lib.hid ho
                refine hK _ _ HS13.out ?_
                clear hK K ho hb hgr
                try simp only [Act.put, List.setIfInBounds_toArray, List.set_cons_succ, List.set_cons_zero]
                refine oneH 5 (by kernel_rfl) rfl rfl fun K hK => ?_
                refine wp_runTo (some 125) rfl (.slice (some ⟨v3.heap.size, 0, none⟩) 1 1) ((v3).alloc (.cells #[.int .i64 u] 3)) (by go_simp) ?_
                have HS135 : Hid (Below wr.heap.size wr ((v3).alloc (.cells #[.int .i64 u] 3))) := Lib.hid (HS13.out.alloc (by first | exact Nat.le_refl _ | exact HS13.out.size | simp) _)
                have HL135 : Hid (Blk ((v3).alloc (.cells #[.int .i64 u] 3)) (v3.heap.size) [.int .i64 u]) := Lib.hid (Blk.newAt _ _ _ (by simp) rfl)
                have HO135 := Lib.hid (HO13.out.below (alloc_below _ (.cells #[.int .i64 u] 3)))
                refine hK _ _ HS135.out ?_
                clear hK K
                try simp only [Act.put, List.setIfInBounds_toArray, List.set_cons_succ, List.set_cons_zero]
                refine oneH 6 (by kernel_rfl) rfl rfl fun K hK => ?_
                refine app_W (.tmp 123) (.tmp 125) (some 126) rfl rfl HO135.out HS135.out.size (ints_one HL135.out) (by simp only [List.length_cons, List.length_nil]; omega) rfl rfl ?_
                intro s6 v6 ho hb
                have HSf := Lib.hid (HS135.out.trans hb)
                have HOf := Lib.hid ho.ints
                refine hK _ _ HSf.out ?_
                clear hK K hb ho
                try simp only [Act.put, List.setIfInBounds_toArray, List.set_cons_succ, List.set_cons_zero]
                refine oneH 7 (by kernel_rfl) rfl rfl fun K hK => ?_
                go_simp
                refine (HB2.out _ _ (HIn.out.below HSf.out).watch HOf.out).mono ?_
                rintro e v7 ⟨rfl, hb⟩
                have HSg := Lib.hid (stay HSf.out hb)
                refine hK _ _ HSg.out ?_
                clear hK K hb
                try simp only [Act.put, List.setIfInBounds_toArray, List.set_cons_succ, List.set_cons_zero]
                refine takeH 8 (some 119) (.tuple #[.int .i64 j, .bool is]) rfl rfl (by kernel_rfl) (by kernel_rfl) (by kernel_rfl) (fun _ _ _ h => h) rfl (fun wq hS => by go_simp) HSg.out ?_
                try simp only [Act.put, List.setIfInBounds_toArray, List.set_cons_succ, List.set_cons_zero]
                refine takeH 9 (some 128) (.int .i64 j) rfl rfl (by kernel_rfl) (by kernel_rfl) (by kernel_rfl) (fun _ _ _ h => h) rfl (fun wq hS => by go_simp) HSg.out ?_
                try simp only [Act.put, List.setIfInBounds_toArray, List.set_cons_succ, List.set_cons_zero]
                refine takeH 10 (some 129) (.bool is) rfl rfl (by kernel_rfl) (by kernel_rfl) (by kernel_rfl) (fun _ _ _ h => h) rfl (fun wq hS => by go_simp) HSg.out ?_
                try simp only [Act.put, List.setIfInBounds_toArray, List.set_cons_succ, List.set_cons_zero]
                refine takeH 11 (some 10) (.int .i64 j) rfl rfl (by kernel_rfl) (by kernel_rfl) (by kernel_rfl) (fun _ _ _ h => h) rfl (fun wq hS => by go_simp) HSg.out ?_
                try simp only [Act.put, List.setIfInBounds_toArray, List.set_cons_succ, List.set_cons_zero]
                refine takeH 12 (some 11) (.bool is) rfl rfl (by kernel_rfl) (by kernel_rfl) (by kernel_rfl) (fun _ _ _ h => h) rfl (fun wq hS => by go_simp) HSg.out ?_
                try simp only [Act.put, List.setIfInBounds_toArray, List.set_cons_succ, List.set_cons_zero]
                refine wpAnyH_done (by kernel_rfl) ?_ _
                go_wp2_with fail
                go_meet
                exact ⟨_, rfl, rfl, rfl, HSg.out⟩
              · refine wp_runTo (some 125) rfl (.slice (some ⟨wr.heap.size + 1, 0, none⟩) 1 1) (((wr.drew).alloc (.cells #[] 3)).alloc (.cells #[.int .i64 u] 3)) (by go_simp) ?_
                have HS15 : Hid (Below wr.heap.size wr (((wr.drew).alloc (.cells #[] 3)).alloc (.cells #[.int .i64 u] 3))) := Lib.hid (HS1.out.alloc (by first | exact Nat.le_refl _ | exact HS1.out.size | simp) _)
                have HL15 : Hid (Blk (((wr.drew).alloc (.cells #[] 3)).alloc (.cells #[.int .i64 u] 3)) (wr.heap.size + 1) [.int .i64 u]) := Lib.hid (Blk.newAt _ _ _ (by simp) rfl)
                have HO15 := Lib.hid (HO1.out.below (alloc_below _ (.cells #[.int .i64 u] 3)))
                refine hK _ _ HS15.out ?_
                clear hK K
                try simp only [Act.put, List.setIfInBounds_toArray, List.set_cons_succ, List.set_cons_zero]
                refine oneH 3 (by kernel_rfl) rfl rfl fun K hK => ?_
                refine app_WG (.tmp 121) (.tmp 122) (some 123) rfl rfl HO15.out HS15.out.size ((HIn.out.below HS15.out).ints) (by simp only [List.length_nil]; omega) rfl rfl ?_
                intro s3 v3 ho hb hgr
                rw [List.nil_append] at ho
                have HS153 := Lib.hid (HS15.out.trans hb)
                have HO153 := Lib.hid ho
                have HL153 := Lib.hid (HL15.out.grown hgr (by show some (wr.heap.size) ≠ some (wr.heap.size + 1); intro e; have := Option.some.inj e; omega))
                refine hK _ _ HS153.out ?_
                clear hK K ho hb hgr
                try simp only [Act.put, List.setIfInBounds_toArray, List.set_cons_succ, List.set_cons_zero]
                refine oneH 6 (by kernel_rfl) rfl rfl fun K hK => ?_
                refine app_W (.tmp 123) (.tmp 125) (some 126) rfl rfl HO153.out HS153.out.size (ints_one HL153.out) (by simp only [List.length_cons, List.length_nil]; omega) rfl rfl ?_
                intro s6 v6 ho hb
                have HSf := Lib.hid (HS153.out.trans hb)
                have HOf := Lib.hid ho.ints
                refine hK _ _ HSf.out ?_
                clear hK K hb ho
                try simp only [Act.put, List.setIfInBounds_toArray, List.set_cons_succ, List.set_cons_zero]
                refine oneH 7 (by kernel_rfl) rfl rfl fun K hK => ?_
                go_simp
                refine (HB2.out _ _ (HIn.out.below HSf.out).watch HOf.out).mono ?_
                rintro e v7 ⟨rfl, hb⟩
                have HSg := Lib.hid (stay HSf.out hb)
                refine hK _ _ HSg.out ?_
                clear hK K hb
                try simp only [Act.put, List.setIfInBounds_toArray, List.set_cons_succ, List.set_cons_zero]
                refine takeH 8 (some 119) (.tuple #[.int .i64 j, .bool is]) rfl rfl (by kernel_rfl) (by kernel_rfl) (by kernel_rfl) (fun _ _ _ h => h) rfl (fun wq hS => by go_simp) HSg.out ?_
                try simp only [Act.put, List.setIfInBounds_toArray, List.set_cons_succ, List.set_cons_zero]
                refine takeH 9 (some 128) (.int .i64 j) rfl rfl (by kernel_rfl) (by kernel_rfl) (by kernel_rfl) (fun _ _ _ h => h) rfl (fun wq hS => by go_simp) HSg.out ?_
                try simp only [Act.put, List.setIfInBounds_toArray, List.set_cons_succ, List.set_cons_zero]
                refine takeH 10 (some 129) (.bool is) rfl rfl (by kernel_rfl) (by kernel_rfl) (by kernel_rfl) (fun _ _ _ h => h) rfl (fun wq hS => by go_simp) HSg.out ?_
                try simp only [Act.put, List.setIfInBounds_toArray, List.set_cons_succ, List.set_cons_zero]
                refine takeH 11 (some 10) (.int .i64 j) rfl rfl (by kernel_rfl) (by kernel_rfl) (by kernel_rfl) (fun _ _ _ h => h) rfl (fun wq hS => by go_simp) HSg.out ?_
                try simp only [Act.put, List.setIfInBounds_toArray, List.set_cons_succ, List.set_cons_zero]
                refine takeH 12 (some 11) (.bool is) rfl rfl (by kernel_rfl) (by kernel_rfl) (by kernel_rfl) (fun _ _ _ h => h) rfl (fun wq hS => by go_simp) HSg.out ?_
                try simp only [Act.put, List.setIfInBounds_toArray, List.set_cons_succ, List.set_cons_zero]
                refine wpAnyH_done (by kernel_rfl) ?_ _
                go_wp2_with fail
                go_meet
                exact ⟨_, rfl, rfl, rfl, HSg.out⟩
            · refine wp_runTo (some 125) rfl (.slice (some ⟨wr.heap.size, 0, none⟩) 1 1) ((wr.drew).alloc (.cells #[.int .i64 u] 3)) (by go_simp) ?_
              have HS5 : Hid (Below wr.heap.size wr ((wr.drew).alloc (.cells #[.int .i64 u] 3))) := Lib.hid ((Below.refl wr.heap.size wr).drew.alloc (by first | exact Nat.le_refl _ | exact (Below.refl wr.heap.size wr).drew.size | simp) _)
              have HL5 : Hid (Blk ((wr.drew).alloc (.cells #[.int .i64 u] 3)) (wr.heap.size) [.int .i64 u]) := Lib.hid (Blk.newAt _ _ _ (by simp) rfl)
              refine hK _ _ HS5.out ?_
              clear hK K
              try simp only [Act.put, List.setIfInBounds_toArray, List.set_cons_succ, List.set_cons_zero]
              refine oneH 1 (by kernel_rfl) rfl rfl fun K hK => ?_
              refine wp_runTo (some 121) rfl (.slice (some ⟨wr.heap.size + 1, 0, none⟩) 0 0) (((wr.drew).alloc (.cells #[.int .i64 u] 3)).alloc (.cells #[] 3)) (by go_simp) ?_
              have HS51 : Hid (Below wr.heap.size wr (((wr.drew).alloc (.cells #[.int .i64 u] 3)).alloc (.cells #[] 3))) := Lib.hid (HS5.out.alloc (by first | exact Nat.le_refl _ | exact HS5.out.size | simp) _)
              have HO51 : Hid (Own (((wr.drew).alloc (.cells #[.int .i64 u] 3)).alloc (.cells #[] 3)) wr.heap.size (.slice (some ⟨wr.heap.size + 1, 0, none⟩) 0 0) []) := Lib.hid (by have h := lit0 ((wr.drew).alloc (.cells #[.int .i64 u] 3)) wr.heap.size (by first | exact Nat.le_refl _ | exact HS5.out.size | simp); simpa using h)
              have HL51 := Lib.hid (HL5.out.alloc (.cells #[] 3))
              refine hK _ _ HS51.out ?_
              clear hK K
              try simp only [Act.put, List.setIfInBounds_toArray, List.set_cons_succ, List.set_cons_zero]
              refine oneH 3 (by kernel_rfl) rfl rfl fun K hK => ?_
              refine app_WG (.tmp 121) (.tmp 122) (some 123) rfl rfl HO51.out HS51.out.size ((HIn.out.below HS51.out).ints) (by simp only [List.length_nil]; omega) rfl rfl ?_
              intro s3 v3 ho hb hgr
              rw [List.nil_append] at ho
              have HS513 := Lib.hid (HS51.out.trans hb)
              have HO513 := Lib.hid ho
              have HL513 := Lib.hid (HL51.out.grown hgr (by show some (wr.heap.size + 1) ≠ some (wr.heap.size); intro e; have := Option.some.inj e; omega))
              refine hK _ _ HS513.out ?_
              clear hK K ho hb hgr
              try simp only [Act.put, List.setIfInBounds_toArray, List.set_cons_succ, List.set_cons_zero]
              refine oneH 6 (by kernel_rfl) rfl rfl fun K hK => ?_
              refine app_W (.tmp 123) (.tmp 125) (some 126) rfl rfl HO513.out HS513.out.size (ints_one HL513.out) (by simp only [List.length_cons, List.length_nil]; omega) rfl rfl ?_
              intro s6 v6 ho hb
              have HSf := Lib.hid (HS513.out.trans hb)
              have HOf := Lib.hid ho.ints
              refine hK _ _ HSf.out ?_
              clear hK K hb ho
              try simp only [Act.put, List.setIfInBounds_toArray, List.set_cons_succ, List.set_cons_zero]
              refine oneH 7 (by kernel_rfl) rfl rfl fun K hK => ?_
              go_simp
              refine (HB2.out _ _ (HIn.out.below HSf.out).watch HOf.out).mono ?_
              rintro e v7 ⟨rfl, hb⟩
              have HSg := Lib.hid (stay HSf.out hb)
              refine hK _ _ HSg.out ?_
              clear hK K hb
              try simp only [Act.put, List.setIfInBounds_toArray, List.set_cons_succ, List.set_cons_zero]
              refine takeH 8 (some 119) (.tuple #[.int .i64 j, .bool is]) rfl rfl (by kernel_rfl) (by kernel_rfl) (by kernel_rfl) (fun _ _ _ h => h) rfl (fun wq hS => by go_simp) HSg.out ?_
              try simp only [Act.put, List.setIfInBounds_toArray, List.set_cons_succ, List.set_cons_zero]
              refine takeH 9 (some 128) (.int .i64 j) rfl rfl (by kernel_rfl) (by kernel_rfl) (by kernel_rfl) (fun _ _ _ h => h) rfl (fun wq hS => by go_simp) HSg.out ?_
              try simp only [Act.put, List.setIfInBounds_toArray, List.set_cons_succ, List.set_cons_zero]
              refine takeH 10 (some 129) (.bool is) rfl rfl (by kernel_rfl) (by kernel_rfl) (by kernel_rfl) (fun _ _ _ h => h) rfl (fun wq hS => by go_simp) HSg.out ?_
              try simp only [Act.put, List.setIfInBounds_toArray, List.set_cons_succ, List.set_cons_zero]
              refine takeH 11 (some 10) (.int .i64 j) rfl rfl (by kernel_rfl) (by kernel_rfl) (by kernel_rfl) (fun _ _ _ h => h) rfl (fun wq hS => by go_simp) HSg.out ?_
              try simp only [Act.put, List.setIfInBounds_toArray, List.set_cons_succ, List.set_cons_zero]
              refine takeH 12 (some 11) (.bool is) rfl rfl (by kernel_rfl) (by kernel_rfl) (by kernel_rfl) (fun _ _ _ h => h) rfl (fun wq hS => by go_simp) HSg.out ?_
              try simp only [Act.put, List.setIfInBounds_toArray, List.set_cons_succ, List.set_cons_zero]
              refine wpAnyH_done (by kernel_rfl) ?_ _
              go_wp2_with fail
              go_meet
              exact ⟨_, rfl, rfl, rfl, HSg.out⟩
          case rest =>
            obtain ⟨wy, rfl, rfl, rfl, hb⟩ := hcut
            have HWy := Lib.hid (stay (stay HB4.out HW.out) hb)
            have HIy := Lib.hid (HIn.out.below hb)
            clear hb
            cases is with
            | false =>
              go_upto_region 21 with fail
              refine startH (fun wq => Below wy.heap.size wy wq) (by kernel_rfl) ?_
              refine takeH 0 (some 130) (.bool false) rfl rfl (by kernel_rfl) (by kernel_rfl) (by kernel_rfl) (fun _ _ _ h => h) rfl (fun wq hS => by go_simp) (Below.refl _ _).drew ?_
              try simp only [Act.put, List.setIfInBounds_toArray, List.set_cons_succ, List.set_cons_zero]
              refine takeH 1 (some 131) (.bool true) rfl rfl (by kernel_rfl) (by kernel_rfl) (by kernel_rfl) (fun _ _ _ h => h) rfl (fun wq hS => by go_simp) (Below.refl _ _).drew ?_
              try simp only [Act.put, List.setIfInBounds_toArray, List.set_cons_succ, List.set_cons_zero]
              refine takeH 2 (some 132) (.bool true) rfl rfl (by kernel_rfl) (by kernel_rfl) (by kernel_rfl) (fun _ _ _ h => h) rfl (fun wq hS => by go_simp) (Below.refl _ _).drew ?_
              try simp only [Act.put, List.setIfInBounds_toArray, List.set_cons_succ, List.set_cons_zero]
              refine passH 3 (some 133) rfl rfl (by kernel_rfl) (by kernel_rfl) (by kernel_rfl) (fun _ _ _ h => h) rfl (Below.refl _ _).drew ?_
              try simp only [Act.put, List.setIfInBounds_toArray, List.set_cons_succ, List.set_cons_zero]
              refine passH 4 (some 134) rfl rfl (by kernel_rfl) (by kernel_rfl) (by kernel_rfl) (fun _ _ _ h => h) rfl (Below.refl _ _).drew ?_
              try simp only [Act.put, List.setIfInBounds_toArray, List.set_cons_succ, List.set_cons_zero]
              refine passH 5 (some 135) rfl rfl (by kernel_rfl) (by kernel_rfl) (by kernel_rfl) (fun _ _ _ h => h) rfl (Below.refl _ _).drew ?_
              try simp only [Act.put, List.setIfInBounds_toArray, List.set_cons_succ, List.set_cons_zero]
              refine passH 6 (some 136) rfl rfl (by kernel_rfl) (by kernel_rfl) (by kernel_rfl) (fun _ _ _ h => h) rfl (Below.refl _ _).drew ?_
              try simp only [Act.put, List.setIfInBounds_toArray, List.set_cons_succ, List.set_cons_zero]
              refine passH 7 (some 137) rfl rfl (by kernel_rfl) (by kernel_rfl) (by kernel_rfl) (fun _ _ _ h => h) rfl (Below.refl _ _).drew ?_
              try simp only [Act.put, List.setIfInBounds_toArray, List.set_cons_succ, List.set_cons_zero]
              refine passH 8 (some 138) rfl rfl (by kernel_rfl) (by kernel_rfl) (by kernel_rfl) (fun _ _ _ h => h) rfl (Below.refl _ _).drew ?_
              try simp only [Act.put, List.setIfInBounds_toArray, List.set_cons_succ, List.set_cons_zero]
              refine passH 9 (some 139) rfl rfl (by kernel_rfl) (by kernel_rfl) (by kernel_rfl) (fun _ _ _ h => h) rfl (Below.refl _ _).drew ?_
              try simp only [Act.put, List.setIfInBounds_toArray, List.set_cons_succ, List.set_cons_zero]
              refine passH 10 (some 140) rfl rfl (by kernel_rfl) (by kernel_rfl) (by kernel_rfl) (fun _ _ _ h => h) rfl (Below.refl _ _).drew ?_
              try simp only [Act.put, List.setIfInBounds_toArray, List.set_cons_succ, List.set_cons_zero]
              refine passH 11 (some 141) rfl rfl (by kernel_rfl) (by kernel_rfl) (by kernel_rfl) (fun _ _ _ h => h) rfl (Below.refl _ _).drew ?_
              try simp only [Act.put, List.setIfInBounds_toArray, List.set_cons_succ, List.set_cons_zero]
              refine passH 12 (some 142) rfl rfl (by kernel_rfl) (by kernel_rfl) (by kernel_rfl) (fun _ _ _ h => h) rfl (Below.refl _ _).drew ?_
              try simp only [Act.put, List.setIfInBounds_toArray, List.set_cons_succ, List.set_cons_zero]
              refine passH 13 (some 143) rfl rfl (by kernel_rfl) (by kernel_rfl) (by kernel_rfl) (fun _ _ _ h => h) rfl (Below.refl _ _).drew ?_
              try simp only [Act.put, List.setIfInBounds_toArray, List.set_cons_succ, List.set_cons_zero]
              refine passH 14 (some 144) rfl rfl (by kernel_rfl) (by kernel_rfl) (by kernel_rfl) (fun _ _ _ h => h) rfl (Below.refl _ _).drew ?_
              try simp only [Act.put, List.setIfInBounds_toArray, List.set_cons_succ, List.set_cons_zero]
              refine passH 15 (some 145) rfl rfl (by kernel_rfl) (by kernel_rfl) (by kernel_rfl) (fun _ _ _ h => h) rfl (Below.refl _ _).drew ?_
              try simp only [Act.put, List.setIfInBounds_toArray, List.set_cons_succ, List.set_cons_zero]
              refine passH 16 (some 146) rfl rfl (by kernel_rfl) (by kernel_rfl) (by kernel_rfl) (fun _ _ _ h => h) rfl (Below.refl _ _).drew ?_
              try simp only [Act.put, List.setIfInBounds_toArray, List.set_cons_succ, List.set_cons_zero]
              refine passH 17 (some 147) rfl rfl (by kernel_rfl) (by kernel_rfl) (by kernel_rfl) (fun _ _ _ h => h) rfl (Below.refl _ _).drew ?_
              try simp only [Act.put, List.setIfInBounds_toArray, List.set_cons_succ, List.set_cons_zero]
              refine passH 18 (some 148) rfl rfl (by kernel_rfl) (by kernel_rfl) (by kernel_rfl) (fun _ _ _ h => h) rfl (Below.refl _ _).drew ?_
              try simp only [Act.put, List.setIfInBounds_toArray, List.set_cons_succ, List.set_cons_zero]
              refine passH 19 (some 149) rfl rfl (by kernel_rfl) (by kernel_rfl) (by kernel_rfl) (fun _ _ _ h => h) rfl (Below.refl _ _).drew ?_
              try simp only [Act.put, List.setIfInBounds_toArray, List.set_cons_succ, List.set_cons_zero]
              refine passH 20 (some 150) rfl rfl (by kernel_rfl) (by kernel_rfl) (by kernel_rfl) (fun _ _ _ h => h) rfl (Below.refl _ _).drew ?_
              try simp only [Act.put, List.setIfInBounds_toArray, List.set_cons_succ, List.set_cons_zero]
              refine passH 21 (some 151) rfl rfl (by kernel_rfl) (by kernel_rfl) (by kernel_rfl) (fun _ _ _ h => h) rfl (Below.refl _ _).drew ?_
              try simp only [Act.put, List.setIfInBounds_toArray, List.set_cons_succ, List.set_cons_zero]
              refine passH 22 (some 152) rfl rfl (by kernel_rfl) (by kernel_rfl) (by kernel_rfl) (fun _ _ _ h => h) rfl (Below.refl _ _).drew ?_
              try simp only [Act.put, List.setIfInBounds_toArray, List.set_cons_succ, List.set_cons_zero]
              refine passH 23 (some 153) rfl rfl (by kernel_rfl) (by kernel_rfl) (by kernel_rfl) (fun _ _ _ h => h) rfl (Below.refl _ _).drew ?_
              try simp only [Act.put, List.setIfInBounds_toArray, List.set_cons_succ, List.set_cons_zero]
              refine passH 24 (some 154) rfl rfl (by kernel_rfl) (by kernel_rfl) (by kernel_rfl) (fun _ _ _ h => h) rfl (Below.refl _ _).drew ?_
              try simp only [Act.put, List.setIfInBounds_toArray, List.set_cons_succ, List.set_cons_zero]
              refine takeH 25 (some 155) (.bool true) rfl rfl (by kernel_rfl) (by kernel_rfl) (by kernel_rfl) (fun _ _ _ h => h) rfl (fun wq hS => by go_simp) (Below.refl _ _).drew ?_
              try simp only [Act.put, List.setIfInBounds_toArray, List.set_cons_succ, List.set_cons_zero]
              refine takeH 26 (some 156) (.bool true) rfl rfl (by kernel_rfl) (by kernel_rfl) (by kernel_rfl) (fun _ _ _ h => h) rfl (fun wq hS => by go_simp) (Below.refl _ _).drew ?_
              try simp only [Act.put, List.setIfInBounds_toArray, List.set_cons_succ, List.set_cons_zero]
              refine oneH 27 (by kernel_rfl) rfl rfl fun K hK => ?_
              go_simp
              refine (HK.out _).mono ?_
              rintro e vb1 ⟨rfl, hb⟩
              have HSb1 := Lib.hid (stay (Below.refl wy.heap.size wy).drew hb)
              have HIb1 := Lib.hid ((HIy.out.drew).below hb)
              refine hK _ _ HSb1.out ?_
              clear hK hb K
              try simp only [Act.put, List.setIfInBounds_toArray, List.set_cons_succ, List.set_cons_zero]
              refine takeH 28 (some 158) (.bool true) rfl rfl (by kernel_rfl) (by kernel_rfl) (by kernel_rfl) (fun _ _ _ h => h) rfl (fun wq hS => by go_simp) HSb1.out ?_
              try simp only [Act.put, List.setIfInBounds_toArray, List.set_cons_succ, List.set_cons_zero]
              refine takeH 29 (some 4) (.bool true) rfl rfl (by kernel_rfl) (by kernel_rfl) (by kernel_rfl) (fun _ _ _ h => h) rfl (fun wq hS => by go_simp) HSb1.out ?_
              try simp only [Act.put, List.setIfInBounds_toArray, List.set_cons_succ, List.set_cons_zero]
              refine wpAnyH_done (by kernel_rfl) ?_ _
              have HWz := Lib.hid (stay HWy.out HSb1.out)
              go_wp2_with fail
              go_ret
              exact ⟨rfl, HWz.out⟩
            | true =>
              obtain ⟨hju, hjn, e1⟩ := best_next HIS.out HIS2.out
              have hj0 : ((j : Int) != (u : Int)) = true := by simp; omega
              have hj1 : (j : Int) < (n : Int) := by omega
              go_upto_region 21 with fail
              refine startH (fun wq => Below wy.heap.size wy wq) (by kernel_rfl) ?_
              refine takeH 0 (some 130) (.bool true) rfl rfl (by kernel_rfl) (by kernel_rfl) (by kernel_rfl) (fun _ _ _ h => h) rfl (fun wq hS => by go_simp) (Below.refl _ _).drew ?_
              try simp only [Act.put, List.setIfInBounds_toArray, List.set_cons_succ, List.set_cons_zero]
              refine takeH 1 (some 131) (.bool false) rfl rfl (by kernel_rfl) (by kernel_rfl) (by kernel_rfl) (fun _ _ _ h => h) rfl (fun wq hS => by go_simp) (Below.refl _ _).drew ?_
              try simp only [Act.put, List.setIfInBounds_toArray, List.set_cons_succ, List.set_cons_zero]
              refine takeH 2 (some 132) (.bool false) rfl rfl (by kernel_rfl) (by kernel_rfl) (by kernel_rfl) (fun _ _ _ h => h) rfl (fun wq hS => by go_simp) (Below.refl _ _).drew ?_
              try simp only [Act.put, List.setIfInBounds_toArray, List.set_cons_succ, List.set_cons_zero]
              refine takeH 3 (some 133) (.int .i64 j) rfl rfl (by kernel_rfl) (by kernel_rfl) (by kernel_rfl) (fun _ _ _ h => h) rfl (fun wq hS => by go_simp) (Below.refl _ _).drew ?_
              try simp only [Act.put, List.setIfInBounds_toArray, List.set_cons_succ, List.set_cons_zero]
              refine takeH 4 (some 134) (.int .i64 u) rfl rfl (by kernel_rfl) (by kernel_rfl) (by kernel_rfl) (fun _ _ _ h => h) rfl (fun wq hS => by go_simp) (Below.refl _ _).drew ?_
              try simp only [Act.put, List.setIfInBounds_toArray, List.set_cons_succ, List.set_cons_zero]
              refine takeH 5 (some 135) (.bool true) rfl rfl (by kernel_rfl) (by kernel_rfl) (by kernel_rfl) (fun _ _ _ h => h) rfl (fun wq hS => by go_simp) (Below.refl _ _).drew ?_
              try simp only [Act.put, List.setIfInBounds_toArray, List.set_cons_succ, List.set_cons_zero]
              refine takeH 6 (some 136) (.bool true) rfl rfl (by kernel_rfl) (by kernel_rfl) (by kernel_rfl) (fun _ _ _ h => h) rfl (fun wq hS => by go_simp) (Below.refl _ _).drew ?_
              try simp only [Act.put, List.setIfInBounds_toArray, List.set_cons_succ, List.set_cons_zero]
              refine takeH 7 (some 137) (.int .i64 j) rfl rfl (by kernel_rfl) (by kernel_rfl) (by kernel_rfl) (fun _ _ _ h => h) rfl (fun wq hS => by go_simp) (Below.refl _ _).drew ?_
              try simp only [Act.put, List.setIfInBounds_toArray, List.set_cons_succ, List.set_cons_zero]
              refine takeH 8 (some 138) (.bool true) rfl rfl (by kernel_rfl) (by kernel_rfl) (by kernel_rfl) (fun _ _ _ h => h) rfl (fun wq hS => by go_simp) (Below.refl _ _).drew ?_
              try simp only [Act.put, List.setIfInBounds_toArray, List.set_cons_succ, List.set_cons_zero]
              refine takeH 9 (some 139) (.bool true) rfl rfl (by kernel_rfl) (by kernel_rfl) (by kernel_rfl) (fun _ _ _ h => h) rfl (fun wq hS => by go_simp) (Below.refl _ _).drew ?_
              try simp only [Act.put, List.setIfInBounds_toArray, List.set_cons_succ, List.set_cons_zero]
              refine takeH 10 (some 140) (.bool true) rfl rfl (by kernel_rfl) (by kernel_rfl) (by kernel_rfl) (fun _ _ _ h => h) rfl (fun wq hS => by go_simp) (Below.refl _ _).drew ?_
              try simp only [Act.put, List.setIfInBounds_toArray, List.set_cons_succ, List.set_cons_zero]
              refine takeH 11 (some 141) (.int .i64 j) rfl rfl (by kernel_rfl) (by kernel_rfl) (by kernel_rfl) (fun _ _ _ h => h) rfl (fun wq hS => by go_simp) (Below.refl _ _).drew ?_
              try simp only [Act.put, List.setIfInBounds_toArray, List.set_cons_succ, List.set_cons_zero]
              refine takeH 12 (some 142) (.int .i64 n) rfl rfl (by kernel_rfl) (by kernel_rfl) (by kernel_rfl) (fun _ _ _ h => h) rfl (fun wq hS => by go_simp) (Below.refl _ _).drew ?_
              try simp only [Act.put, List.setIfInBounds_toArray, List.set_cons_succ, List.set_cons_zero]
              refine takeH 13 (some 143) (.bool true) rfl rfl (by kernel_rfl) (by kernel_rfl) (by kernel_rfl) (fun _ _ _ h => h) rfl (fun wq hS => by go_simp) (Below.refl _ _).drew ?_
              try simp only [Act.put, List.setIfInBounds_toArray, List.set_cons_succ, List.set_cons_zero]
              refine takeH 14 (some 144) (.bool true) rfl rfl (by kernel_rfl) (by kernel_rfl) (by kernel_rfl) (fun _ _ _ h => h) rfl (fun wq hS => by go_simp) (Below.refl _ _).drew ?_
              try simp only [Act.put, List.setIfInBounds_toArray, List.set_cons_succ, List.set_cons_zero]
              refine takeH 15 (some 145) (.bool true) rfl rfl (by kernel_rfl) (by kernel_rfl) (by kernel_rfl) (fun _ _ _ h => h) rfl (fun wq hS => by go_simp) (Below.refl _ _).drew ?_
              try simp only [Act.put, List.setIfInBounds_toArray, List.set_cons_succ, List.set_cons_zero]
              refine takeH 16 (some 146) (.agg #[.slice la live.length lc, .slice aa age.length ac, .int .u32 now, .int .i64 size]) rfl rfl (by kernel_rfl) (by kernel_rfl) (by kernel_rfl) (fun _ _ _ h => h) rfl (fun wq hS => by have kb := (HIy.out.below hS).box; have c0 := kb.cell (i := 0) rfl; have c1 := kb.cell (i := 1) rfl; have c2 := kb.cell (i := 2) rfl; have c3 := kb.cell (i := 3) rfl; go_simp) (Below.refl _ _).drew ?_
              try simp only [Act.put, List.setIfInBounds_toArray, List.set_cons_succ, List.set_cons_zero]
              refine takeH 17 (some 147) (.int .i64 j) rfl rfl (by kernel_rfl) (by kernel_rfl) (by kernel_rfl) (fun _ _ _ h => h) rfl (fun wq hS => by go_simp) (Below.refl _ _).drew ?_
              try simp only [Act.put, List.setIfInBounds_toArray, List.set_cons_succ, List.set_cons_zero]
              refine takeH 19 (some 149) (.agg #[.slice la live.length lc, .slice aa age.length ac, .int .u32 now, .int .i64 size]) rfl rfl (by kernel_rfl) (by kernel_rfl) (by kernel_rfl) (fun _ _ _ h => h) rfl (fun wq hS => by have kb := (HIy.out.below hS).box; have c0 := kb.cell (i := 0) rfl; have c1 := kb.cell (i := 1) rfl; have c2 := kb.cell (i := 2) rfl; have c3 := kb.cell (i := 3) rfl; go_simp) (Below.refl _ _).drew ?_
              try simp only [Act.put, List.setIfInBounds_toArray, List.set_cons_succ, List.set_cons_zero]
              refine takeH 20 (some 150) (.int .i64 u) rfl rfl (by kernel_rfl) (by kernel_rfl) (by kernel_rfl) (fun _ _ _ h => h) rfl (fun wq hS => by go_simp) (Below.refl _ _).drew ?_
              try simp only [Act.put, List.setIfInBounds_toArray, List.set_cons_succ, List.set_cons_zero]
              refine oneH 18 (by kernel_rfl) rfl rfl fun K hK => ?_
              go_simp
              refine (HAT.out j (by omega) _ HIy.out.drew).mono ?_
              rintro e vb1 ⟨rfl, hb⟩
              have HSb1 := Lib.hid (stay (Below.refl wy.heap.size wy).drew hb)
              have HIb1 := Lib.hid ((HIy.out.drew).below hb)
              refine hK _ _ HSb1.out ?_
              clear hK hb K
              try simp only [Act.put, List.setIfInBounds_toArray, List.set_cons_succ, List.set_cons_zero]
              refine oneH 21 (by kernel_rfl) rfl rfl fun K hK => ?_
              go_simp
              refine (HAT.out u (by omega) _ HIb1.out).mono ?_
              rintro e vb2 ⟨rfl, hb⟩
              have HSb2 := Lib.hid (stay HSb1.out hb)
              have HIb2 := Lib.hid ((HIb1.out).below hb)
              refine hK _ _ HSb2.out ?_
              clear hK hb K
              try simp only [Act.put, List.setIfInBounds_toArray, List.set_cons_succ, List.set_cons_zero]
              refine oneH 22 (by kernel_rfl) rfl rfl fun K hK => ?_
              go_simp
              refine (HAB.out (W j) (W u) false e1 (HWf.out j) (HWf.out u) _).mono ?_
              rintro e vb3 ⟨rfl, hb⟩
              have HSb3 := Lib.hid (stay HSb2.out hb)
              have HIb3 := Lib.hid ((HIb2.out).below hb)
              refine hK _ _ HSb3.out ?_
              clear hK hb K
              try simp only [Act.put, List.setIfInBounds_toArray, List.set_cons_succ, List.set_cons_zero]
              refine takeH 23 (some 153) (.bool true) rfl rfl (by kernel_rfl) (by kernel_rfl) (by kernel_rfl) (fun _ _ _ h => h) rfl (fun wq hS => by go_simp) HSb3.out ?_
              try simp only [Act.put, List.setIfInBounds_toArray, List.set_cons_succ, List.set_cons_zero]
              refine takeH 24 (some 154) (.bool true) rfl rfl (by kernel_rfl) (by kernel_rfl) (by kernel_rfl) (fun _ _ _ h => h) rfl (fun wq hS => by go_simp) HSb3.out ?_
              try simp only [Act.put, List.setIfInBounds_toArray, List.set_cons_succ, List.set_cons_zero]
              refine takeH 25 (some 155) (.bool true) rfl rfl (by kernel_rfl) (by kernel_rfl) (by kernel_rfl) (fun _ _ _ h => h) rfl (fun wq hS => by go_simp) HSb3.out ?_
              try simp only [Act.put, List.setIfInBounds_toArray, List.set_cons_succ, List.set_cons_zero]
              refine takeH 26 (some 156) (.bool true) rfl rfl (by kernel_rfl) (by kernel_rfl) (by kernel_rfl) (fun _ _ _ h => h) rfl (fun wq hS => by go_simp) HSb3.out ?_
              try simp only [Act.put, List.setIfInBounds_toArray, List.set_cons_succ, List.set_cons_zero]
              refine oneH 27 (by kernel_rfl) rfl rfl fun K hK => ?_
              go_simp
              refine (HK.out _).mono ?_
              rintro e vb4 ⟨rfl, hb⟩
              have HSb4 := Lib.hid (stay HSb3.out hb)
              have HIb4 := Lib.hid ((HIb3.out).below hb)
              refine hK _ _ HSb4.out ?_
              clear hK hb K
              try simp only [Act.put, List.setIfInBounds_toArray, List.set_cons_succ, List.set_cons_zero]
              refine takeH 28 (some 158) (.bool true) rfl rfl (by kernel_rfl) (by kernel_rfl) (by kernel_rfl) (fun _ _ _ h => h) rfl (fun wq hS => by go_simp) HSb4.out ?_
              try simp only [Act.put, List.setIfInBounds_toArray, List.set_cons_succ, List.set_cons_zero]
              refine takeH 29 (some 4) (.bool true) rfl rfl (by kernel_rfl) (by kernel_rfl) (by kernel_rfl) (fun _ _ _ h => h) rfl (fun wq hS => by go_simp) HSb4.out ?_
              try simp only [Act.put, List.setIfInBounds_toArray, List.set_cons_succ, List.set_cons_zero]
              refine wpAnyH_done (by kernel_rfl) ?_ _
              have HWz := Lib.hid (stay HWy.out HSb4.out)
              go_wp2_with fail
              go_ret
              exact ⟨rfl, HWz.out⟩
theorem bests_any (g : Wa) (hw : g.Wf) (l : List Int) (v lv av tv : Value) (w : World) (h : WatchAt w v g lv av) (k : IntsAt w tv l) : Calls Try.prog 4 #[v, tv] w fun e w' => e = .returned (.bool true) ∧ Below w.heap.size w w' := by
  by_cases h1 : 40 < g.live.length
  · exact bests_long1 g l h1 v lv av tv w h k
  by_cases h2 : 40 < g.age.length
  · exact bests_long2 g l (by omega) h2 v lv av tv w h k
  by_cases h3 : 40 < l.length
  · exact bests_long3 g l (by omega) (by omega) h3 v lv av tv w h k
  exact bests_short g hw (by omega) (by omega) l (by omega) v lv av tv w h k
end Go.Proofs.Yticgkeohghpdkaa
