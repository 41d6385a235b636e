/- Devices as a statement holds them: made behind the call's beginning; what each call leaves; steps of a region that draws its order, taken where they yield. -/
import Derived.Test.YtdmjhpebpooiaaaSteps
import Derived.Test.YtdmjhpebpooiaaaNew
import Derived.OrdersHeld
import Derived.Deep.RegionHeld
namespace Go.Proofs.Ytdmjhpebpooiaaa
open Go.RowKit
theorem info5z : (Try.prog.info? 5).map (fun i => (i.zero, i.size, i.bytes)) = some (some (.int .u8 0), 1, 1) := by kernel_rfl
section
variable {P : Program}
theorem takeH {ops : Array Oper} {md : Region.Mode} {Q : Exit → Act → World → Prop} {S : World → Prop} (i : Nat) {oi : Oper} (dst : Option Tmp) (v : Value) {fuel : Nat} {listed : Array Bool} {a : Act} {w : World} (hi : ops[i]? = some oi) (hd : oi.dst = dst)
    (hs : Region.noSelect ops = true) (hf : Region.free md ops listed i = true) (hr : (Region.ready md ops listed).contains i = true)
    (hQ : ∀ c a w, Q (.panic c) (a.put dst v) w → Q (.panic c) a w) (hw : Region.wanted oi (yielded ops a.tmps) = true) (hy : ∀ w, S w → (execOp a.eval oi).run P w = .ok (.value v) w) (hS : S w)
    (h : wpAnyH P md ops Q S fuel (listed.setIfInBounds i true) (a.put dst v) w) : wpAnyH P md ops Q S (fuel + 1) listed a w := by
  subst hd
  exact wpAnyH_take hi hs hf hr hQ (.inl ⟨hw, hy⟩) hS h
theorem passH {ops : Array Oper} {md : Region.Mode} {Q : Exit → Act → World → Prop} {S : World → Prop} (i : Nat) {oi : Oper} (dst : Option Tmp) {fuel : Nat} {listed : Array Bool} {a : Act} {w : World} (hi : ops[i]? = some oi) (hd : oi.dst = dst)
    (hs : Region.noSelect ops = true) (hf : Region.free md ops listed i = true) (hr : (Region.ready md ops listed).contains i = true)
    (hQ : ∀ c a w, Q (.panic c) (a.put dst undef) w → Q (.panic c) a w) (hw : Region.wanted oi (yielded ops a.tmps) = false) (hS : S w)
    (h : wpAnyH P md ops Q S fuel (listed.setIfInBounds i true) (a.put dst undef) w) : wpAnyH P md ops Q S (fuel + 1) listed a w := by
  subst hd
  exact wpAnyH_take hi hs hf hr hQ (.inr ⟨hw, rfl⟩) hS h
theorem oneH {ops : Array Oper} {md : Region.Mode} {Q : Exit → Act → World → Prop} {S : World → Prop} {fuel : Nat} {listed : Array Bool} {a : Act} {w : World} (i : Nat) {o : Oper} (hr : Region.ready md ops listed = [i]) (hi : ops[i]? = some o)
    (hw : Region.wanted o (yielded ops a.tmps) = true)
    (h : ∀ K : Act → World → Prop, (∀ a w, S w → wpAnyH P md ops Q S fuel (listed.setIfInBounds i true) a w → K a w) → Oper.wp P o a w K Q) : wpAnyH P md ops Q S (fuel + 1) listed a w :=
  wpAnyH_all hr (by simp) fun j hj => by
    rw [List.mem_singleton.1 hj]
    exact wpOp_step hi fun K hK => by rw [if_pos hw]; exact h K fun a w hS hA => hK a w ⟨hS, hA⟩
theorem startH {ops : Array Oper} {Q : Exit → Act → World → Prop} (S : World → Prop) {id : Nat} {a : Act} {w : World} (hm : P.follows .mixedOrders = true)
    (h : wpAnyH P .any ops Q S ops.size (Array.replicate ops.size false) a w.drew) : (Code.region id ops true).wp P Q a w := wp_region_held (S := S) hm h
theorem isNew {ops : Array Oper} {rest : List Oper} {dst : Option Tmp} {t2 : TypeId} {x y : Operand} {pos : String} {after : Array Edge} {guard : Option (Nat × Bool)} {a : Act} {w : World} {t : TypeId} {z : Array Value} {Q : Exit → Act → World → Prop} (h : wpList P ops Q (⟨dst, .store 37 x y, t2, pos, after, guard⟩ :: rest) a (w.alloc (.cells z t))) : wpList P ops Q (⟨dst, .store 37 x y, t2, pos, after, guard⟩ :: rest) a (w.alloc (.cells z t)) := h
theorem isStore {ops : Array Oper} {rest : List Oper} {dst : Option Tmp} {t2 : TypeId} {x y : Operand} {pos : String} {after : Array Edge} {guard : Option (Nat × Bool)} {a : Act} {w : World} {Q : Exit → Act → World → Prop} (h : wpList P ops Q (⟨dst, .store 37 x y, t2, pos, after, guard⟩ :: rest) a w) : wpList P ops Q (⟨dst, .store 37 x y, t2, pos, after, guard⟩ :: rest) a w := h
theorem isLoad {ops : Array Oper} {rest : List Oper} {dst : Option Tmp} {t2 : TypeId} {x : Operand} {pos : String} {after : Array Edge} {guard : Option (Nat × Bool)} {a : Act} {w : World} {Q : Exit → Act → World → Prop} (h : wpList P ops Q (⟨dst, .load 37 x, t2, pos, after, guard⟩ :: rest) a w) : wpList P ops Q (⟨dst, .load 37 x, t2, pos, after, guard⟩ :: rest) a w := h
theorem isBuild {ops : Array Oper} {rest : List Oper} {dst : Option Tmp} {t2 : TypeId}  {pos : String} {after : Array Edge} {guard : Option (Nat × Bool)} {a : Act} {w : World} {Q : Exit → Act → World → Prop} (h : wpList P ops Q (⟨dst, .build 37 #[], t2, pos, after, guard⟩ :: rest) a w) : wpList P ops Q (⟨dst, .build 37 #[], t2, pos, after, guard⟩ :: rest) a w := h
theorem wpList_load_g {ops : Array Oper} {rest : List Oper} {o : Oper} {a : Act} {w : World} {Q : Exit → Act → World → Prop} (ty : TypeId) (x : Operand) (ho : o.op = .load ty x)
    (g off : Nat) (hx : a.eval x = .pointer (some ⟨g, off, none⟩)) (hw : Region.wanted o (yielded ops a.tmps) = true) (cs : Array Value) (d : TypeDesc)
    (hu : P.underlying ty = some d) (hd : (match d with | .struct _ | .array _ _ => true | _ => false) = true) (hi : (P.info? ty).map (·.size) = some cs.size)
    (hc : ∀ j (h : j < cs.size), w.cell? ⟨g, off + j, none⟩ = some cs[j])
    (h : wpList P ops Q rest (a.put o.dst (.agg cs)) w) : wpList P ops Q (o :: rest) a w := wpList_load_at hw ty x ho g off hx cs d hu hd hi hc h
theorem wpList_build_g {ops : Array Oper} {rest : List Oper} {o : Oper} {a : Act} {w : World} {Q : Exit → Act → World → Prop} (t : TypeId) (ho : o.op = .build t #[]) (hw : Region.wanted o (yielded ops a.tmps) = true) (v : Value)
    (hr : (Instr.build t #[]).run P w = .ok v w) (h : wpList P ops Q rest (a.put o.dst v) w) : wpList P ops Q (o :: rest) a w := wpList_run v w hw (exec_build w w a.eval o t #[] ho #[] (by simp) v hr) h
theorem wpList_store_new {ops : Array Oper} {rest : List Oper} {o : Oper} {a : Act} {w0 : World} {Q : Exit → Act → World → Prop} (ty : TypeId) (x y : Operand) (ho : o.op = .store ty x y) (hw : Region.wanted o (yielded ops a.tmps) = true)
    (t : TypeId) (z cs : Array Value) (hx : a.eval x = .pointer (some ⟨w0.heap.size, 0, none⟩)) (hy : a.eval y = .agg cs) (hi : (P.info? ty).map (·.size) = some cs.size) (hz : z.size = cs.size) (h1 : ∀ v ∈ cs, v.oneCell' = true)
    (h : ∀ wX, Blk wX w0.heap.size cs.toList → Below w0.heap.size w0 wX → wpList P ops Q rest (a.put o.dst undef) wX) : wpList P ops Q (o :: rest) a (w0.alloc (.cells z t)) := by
  refine wpList_store_at hw ty x y ho w0.heap.size 0 cs hx hy z.toList (Blk.newAt t _ _ rfl rfl) hi (by simp [hz]) h1 (h _ ?_ ?_)
  · rw [splice_all _ _ (by simpa using hz)]
    exact (Blk.newAt (w := w0) (cs := z) t _ _ rfl rfl).row cs
  · exact (((Only.refl (fun k => w0.heap.size ≤ k) w0).alloc _).setRow (.inl (Nat.le_refl _)) _).below (Nat.le_refl _) fun _ h => h
theorem wpList_store_loc {ops : Array Oper} {rest : List Oper} {o : Oper} {a : Act} {w0 : World} {Q : Exit → Act → World → Prop} (ty : TypeId) (x y : Operand) (ho : o.op = .store ty x y) (hw : Region.wanted o (yielded ops a.tmps) = true)
    (wb : Nat) (l : List Value) (cs : Array Value) (hx : a.eval x = .pointer (some ⟨wb, 0, none⟩)) (hy : a.eval y = .agg cs) (hb : Blk w0 wb l) (hi : (P.info? ty).map (·.size) = some cs.size) (hz : l.length = cs.size) (h1 : ∀ v ∈ cs, v.oneCell' = true)
    (h : ∀ wX, Blk wX wb cs.toList → Only (fun k => k = wb) w0 wX → wpList P ops Q rest (a.put o.dst undef) wX) : wpList P ops Q (o :: rest) a w0 := by
  refine wpList_store_at hw ty x y ho wb 0 cs hx hy l hb hi (by omega) h1 (h _ ?_ ?_)
  · rw [splice_all _ _ hz]
    exact hb.row cs
  · exact (Only.refl (fun k => k = wb) w0).setRow (.inl rfl) _
end
theorem eq37 (cs : Array Value) (h : Sec cs) (w : World) : (Op.equalIn 10000 37 (.agg cs) (.agg cs)).run Try.prog w = .ok true w := by
  obtain ⟨i, hi, _, hs, _⟩ := info_parts info5z
  exact run_equalIn_self w 9998 37 5 64 .u8 i cs Try.underlying37 Try.underlying5 hi hs h.size h.byte
theorem zeros_size (cs : Array Value) (h : Sec cs) : (fillA 0).size = cs.size := by rw [h.size]; rfl

/-- A device at block b, all of whose memory (F) was made behind W. -/
def Dv (W w : World) (b : Nat) (F : Nat → Prop) (d : D) : Prop := (∃ A, A.b = b ∧ A.foot = F ∧ DevAt w W.heap.size A d) ∧ Below W.heap.size W w
theorem Dv.lt {W w : World} {b : Nat} {F : Nat → Prop} {d : D} (h : Dv W w b F d) : ∀ k, F k → W.heap.size ≤ k ∧ k < w.heap.size := by
  obtain ⟨⟨A, _, rfl, h⟩, _⟩ := h
  exact h.foot_lt
/-- Another world in which nothing of the device's has turned. -/
theorem Dv.go {W w w' : World} {b : Nat} {F : Nat → Prop} {d : D} (h : Dv W w b F d) {S : Nat → Prop} (ho : Only S w w') (hS : ∀ k, S k → W.heap.size ≤ k) (hF : ∀ k, F k → ¬ S k) : Dv W w' b F d := by
  obtain ⟨⟨A, hb, rfl, hd⟩, hB⟩ := h
  exact ⟨⟨A, hb, rfl, hd.only ho hF⟩, hB.trans (ho.below hB.size hS)⟩
theorem Dv.below {W w w' : World} {b : Nat} {F : Nat → Prop} {d : D} (h : Dv W w b F d) (hb : Below w.heap.size w w') : Dv W w' b F d :=
  h.go (S := fun _ => False) (Only.of_below hb) (fun _ h => h.elim) (fun _ _ h => h)
theorem Dv.drew {W w : World} {b : Nat} {F : Nat → Prop} {d : D} (h : Dv W w b F d) : Dv W w.drew b F d := h.below (Below.refl _ _).drew

/-- What a call on the device leaves. -/
def After (W w : World) (b : Nat) (F : Nat → Prop) (r : Value) (d : D) (e : Ending) (w' : World) : Prop := ∃ F', e = .returned r ∧ Dv W w' b F' d ∧ Only F w w' ∧ ∀ k, F' k → F k ∨ w.heap.size ≤ k
theorem After.of_did {W w : World} {A : Addrs} {r : Value} {d : D} {e : Ending} {w' : World} (hB : Below W.heap.size W w) (hf : ∀ k, A.foot k → W.heap.size ≤ k) (h : Did w W.heap.size A r d e w') : After W w A.b A.foot r d e w' := by
  obtain ⟨lv, rfl, hd, ho, hl⟩ := h
  refine ⟨Addrs.foot { A with lv := lv }, rfl, ⟨⟨{ A with lv := lv }, rfl, rfl, hd⟩, hB.trans (ho.below hB.size hf)⟩, ho, ?_⟩
  rintro k (rfl | rfl | rfl | hk)
  · exact .inl (.inl rfl)
  · exact .inl (.inr (.inl rfl))
  · exact .inl (.inr (.inr (.inl rfl)))
  · rcases hl k hk with h | h
    · exact .inl (.inr (.inr (.inr h)))
    · exact .inr h

/-- A block of the statement's own. -/
theorem Blk.after {w w' : World} {F F' : Nat → Prop} {wb : Nat} {l : List Value} (h : Blk w wb l) (hF : ¬ F wb) (ho : Only F w w') (hn : ∀ k, F' k → F k ∨ w.heap.size ≤ k) : Blk w' wb l ∧ ¬ F' wb :=
  ⟨h.only ho hF, fun hk => by
    rcases hn _ hk with h1 | h1
    · exact hF h1
    · have := h.lt; omega⟩

theorem dv_new (W w : World) (hB : Below W.heap.size W w) (n : Nat) (hn : 1 ≤ n ∧ n ≤ 1024) : Calls Try.prog 12 #[.int .i64 n] w fun e w' => ∃ b F, e = .returned (.tuple #[.pointer (some ⟨b, 0, none⟩), .int .i64 0]) ∧ Dv W w' b F (newD n) ∧ Below w.heap.size w w' ∧ ∀ k, F k → w.heap.size ≤ k := by
  refine (new_any n hn w).mono ?_
  rintro e w' ⟨A, rfl, ⟨N, hd⟩, hb⟩
  refine ⟨A.b, A.foot, rfl, ⟨⟨A, rfl, rfl, N, { hd with own := ?_, b1 := Nat.le_trans hB.size hd.b1, b2 := Nat.le_trans hB.size hd.b2, b3 := Nat.le_trans hB.size hd.b3 }⟩, hB.trans (hb.mono hB.size)⟩, hb, fun k hk => (hd.foot_lt k hk).1⟩
  refine ⟨hd.own.1, ?_⟩
  rcases hd.own.2 with hn | ⟨g, cap, cur, e, hb', r⟩
  · exact .inl hn
  · exact .inr ⟨g, cap, cur, e, Nat.le_trans hB.size hb', r⟩
theorem dv_write {W w : World} {b : Nat} {F : Nat → Prop} {d : D} (h : Dv W w b F d) (hT : d.T ≤ 1000000) (hLn : d.L.length ≤ 1000000) (i : Int) (cs : Array Value) (hs : Sec cs) :
    Calls Try.prog 14 #[.pointer (some ⟨b, 0, none⟩), .int .i64 i, .agg cs] w (After W w b F (.int .i64 (d.writeE i)) (d.write i cs)) := by
  obtain ⟨⟨A, rfl, rfl, hd⟩, hB⟩ := h
  cases hh : d.has i
  · have e1 : d.writeE i = 1 := by unfold D.writeE; rw [hh]; rfl
    have e2 : d.write i cs = d := by unfold D.write; rw [hh]; rfl
    rw [e1, e2]
    refine (write_no w W.heap.size A d hd i hh cs).mono ?_
    rintro e w' ⟨rfl, hb⟩
    exact ⟨A.foot, rfl, ⟨⟨A, rfl, rfl, hd.only (S := fun _ => False) (Only.of_below hb) (fun _ _ h => h)⟩, hB.trans (hb.mono hB.size)⟩, Only.of_below hb, fun _ h => .inl h⟩
  · have e1 : d.writeE i = d.flushE := by unfold D.writeE D.flushE; rw [if_pos hh]
    rw [e1]
    exact (write_yes w W.heap.size A d hd hT hLn hB.size i hh cs hs).mono fun e w' h => h.elim fun lv h' => After.of_did hB (fun k hk => (hd.foot_lt k hk).1) ⟨lv, h'⟩
theorem dv_flush {W w : World} {b : Nat} {F : Nat → Prop} {d : D} (h : Dv W w b F d) (hT : d.T ≤ 1000000) (hLn : d.L.length ≤ 1000000) :
    Calls Try.prog 19 #[.pointer (some ⟨b, 0, none⟩)] w (After W w b F (.int .i64 d.flushE) d.flush) := by
  obtain ⟨⟨A, rfl, rfl, hd⟩, hB⟩ := h
  exact (flush_any w W.heap.size A d hd hT hLn).mono fun e w' h => After.of_did hB (fun k hk => (hd.foot_lt k hk).1) h
theorem dv_crash {W w : World} {b : Nat} {F : Nat → Prop} {d : D} (h : Dv W w b F d) (hLn : d.L.length ≤ 1000000) (kv : Value) (l : List Int) (hv : BytesAt w kv l) (hsep : ∀ k, kv.ownBlock = some k → ¬ F k) :
    Calls Try.prog 21 #[.pointer (some ⟨b, 0, none⟩), kv] w (After W w b F (.tuple #[]) (d.crash l)) := by
  obtain ⟨⟨A, rfl, rfl, hd⟩, hB⟩ := h
  exact (crash_any w W.heap.size A d hd hLn kv l hv hsep).mono fun e w' h => After.of_did hB (fun k hk => (hd.foot_lt k hk).1) h
theorem dv_fail {W w : World} {b : Nat} {F : Nat → Prop} {d : D} (h : Dv W w b F d) (n : Int) (hn : I64 n) :
    Calls Try.prog 23 #[.pointer (some ⟨b, 0, none⟩), .int .i64 n] w (After W w b F (.tuple #[]) { d with F := n }) := by
  obtain ⟨⟨A, rfl, rfl, hd⟩, hB⟩ := h
  exact (fail_any w W.heap.size A d hd n hn).mono fun e w' ⟨h1, h2, h3⟩ => by subst h1; exact After.of_did hB (fun k hk => (hd.foot_lt k hk).1) (Did.same h2 h3)
theorem dv_read {W w : World} {b : Nat} {F : Nat → Prop} {d : D} (h : Dv W w b F d) (hLn : d.L.length ≤ 1000000) (i : Int) :
    Calls Try.prog 17 #[.pointer (some ⟨b, 0, none⟩), .int .i64 i] w fun e w' => e = .returned (.tuple #[.agg (d.read i), .int .i64 (d.readE i)]) ∧ Below w.heap.size w w' := by
  obtain ⟨⟨A, rfl, rfl, hd⟩, hB⟩ := h
  exact read_any w W.heap.size A d hd hLn i
theorem dv_loose {W w : World} {b : Nat} {F : Nat → Prop} {d : D} (h : Dv W w b F d) : Calls Try.prog 24 #[.pointer (some ⟨b, 0, none⟩)] w fun e w' => e = .returned (.int .i64 d.L.length) ∧ w = w' := by
  obtain ⟨⟨A, rfl, rfl, hd⟩, _⟩ := h
  exact loose_any w _ A d hd
theorem dv_len {W w : World} {b : Nat} {F : Nat → Prop} {d : D} (h : Dv W w b F d) : Calls Try.prog 25 #[.pointer (some ⟨b, 0, none⟩)] w fun e w' => e = .returned (.int .i64 d.S.length) ∧ w = w' := by
  obtain ⟨⟨A, rfl, rfl, hd⟩, _⟩ := h
  exact len_any w _ A d hd
theorem dv_done {W w : World} {b : Nat} {F : Nat → Prop} {d : D} (h : Dv W w b F d) : Calls Try.prog 26 #[.pointer (some ⟨b, 0, none⟩)] w fun e w' => e = .returned (.int .i64 d.T) ∧ w = w' := by
  obtain ⟨⟨A, rfl, rfl, hd⟩, _⟩ := h
  exact done_any w _ A d hd
end Go.Proofs.Ytdmjhpebpooiaaa
