/- The library's strconv.Itoa laid at this program; errors as numbers. -/
import Derived.Shelf.LaysM
import Derived.Shelf.Strconv.Itoa3
import Derived.Test.YthlnmdihdcfphaaGreatDoorMe
import Derived.WalkSmall
namespace Go.Proofs
open Go.Shelf
def Tryz.laysM171_ren : Go.Shelf.Ren := ⟨fun | 171 => 62 | 243 => 79 | 246 => 93 | 283 => 102 | 284 => 103 | 285 => 104 | 286 => 105 | 129 => 114 | 317 => 113 | 318 => 115 | 319 => 116 | 320 => 117 | 337 => 121 | 338 => 122 | n => n, fun | 3 => 3 | 9 => 9 | 2 => 2 | 4 => 4 | 171 => 200 | 0 => 0 | 53 => 201 | 37 => 25 | 5 => 5 | 173 => 204 | 212 => 213 | 51 => 38 | 20 => 20 | 213 => 214 | 46 => 215 | 232 => 69 | 233 => 114 | n => n, fun | 17 => 1 | 18 => 2 | 19 => 3 | n => n⟩
theorem Tryz.laysM171 : Go.Proofs.LaysM.n171 Tryz.prog Tryz.laysM171_ren := {
  mixed := by kernel_rfl
  f129 := Tryz.func114.trans (congrArg some (by kernel_rfl))
  f171 := Tryz.func62.trans (congrArg some (by kernel_rfl))
  f243 := Tryz.func79.trans (congrArg some (by kernel_rfl))
  f246 := Tryz.func93.trans (congrArg some (by kernel_rfl))
  f283 := Tryz.func102.trans (congrArg some (by kernel_rfl))
  f284 := Tryz.func103.trans (congrArg some (by kernel_rfl))
  f285 := Tryz.func104.trans (congrArg some (by kernel_rfl))
  f286 := Tryz.func105.trans (congrArg some (by kernel_rfl))
  f317 := Tryz.func113.trans (congrArg some (by kernel_rfl))
  f318 := Tryz.func115.trans (congrArg some (by kernel_rfl))
  f319 := Tryz.func116.trans (congrArg some (by kernel_rfl))
  f320 := Tryz.func117.trans (congrArg some (by kernel_rfl))
  f337 := Tryz.func121.trans (congrArg some (by kernel_rfl))
  f338 := Tryz.func122.trans (congrArg some (by kernel_rfl))
  t0 := Tryz.underlying0
  a0 := Tryz.isAgg0
  z0 := Tryz.sizeOf0
  v0 := Tryz.zeroValue0
  t2 := Tryz.underlying2
  a2 := Tryz.isAgg2
  z2 := Tryz.sizeOf2
  v2 := Tryz.zeroValue2
  t3 := Tryz.underlying3
  a3 := Tryz.isAgg3
  z3 := Tryz.sizeOf3
  v3 := Tryz.zeroValue3
  t4 := Tryz.underlying4
  a4 := Tryz.isAgg4
  z4 := Tryz.sizeOf4
  v4 := Tryz.zeroValue4
  t5 := Tryz.underlying5
  a5 := Tryz.isAgg5
  z5 := Tryz.sizeOf5
  v5 := Tryz.zeroValue5
  t9 := Tryz.underlying9
  a9 := Tryz.isAgg9
  z9 := Tryz.sizeOf9
  v9 := Tryz.zeroValue9
  t20 := Tryz.underlying20
  a20 := Tryz.isAgg20
  z20 := Tryz.sizeOf20
  v20 := Tryz.zeroValue20
  t37 := Tryz.underlying25
  a37 := Tryz.isAgg25
  z37 := Tryz.sizeOf25
  v37 := Tryz.zeroValue25
  t46 := Tryz.underlying215
  a46 := Tryz.isAgg215
  z46 := Tryz.sizeOf215
  v46 := Tryz.zeroValue215
  t51 := Tryz.underlying38
  a51 := Tryz.isAgg38
  z51 := Tryz.sizeOf38
  v51 := Tryz.zeroValue38
  t53 := Tryz.underlying201
  a53 := Tryz.isAgg201
  z53 := Tryz.sizeOf201
  v53 := Tryz.zeroValue201
  t171 := Tryz.underlying200
  a171 := Tryz.isAgg200
  z171 := Tryz.sizeOf200
  v171 := Tryz.zeroValue200
  t173 := Tryz.underlying204
  a173 := Tryz.isAgg204
  z173 := Tryz.sizeOf204
  v173 := Tryz.zeroValue204
  t212 := Tryz.underlying213
  a212 := Tryz.isAgg213
  z212 := Tryz.sizeOf213
  v212 := Tryz.zeroValue213
  t213 := Tryz.underlying214
  a213 := Tryz.isAgg214
  z213 := Tryz.sizeOf214
  t232 := Tryz.underlying69
  a232 := Tryz.isAgg69
  z232 := Tryz.sizeOf69
  v232 := Tryz.zeroValue69
  t233 := Tryz.underlying114
  a233 := Tryz.isAgg114
  z233 := Tryz.sizeOf114
  v233 := Tryz.zeroValue114
  g17 := by kernel_rfl
  g18 := by kernel_rfl
  g19 := by kernel_rfl
  i0 := by kernel_rfl
  i2 := by kernel_rfl
  i3 := by kernel_rfl
  i4 := by kernel_rfl
  i5 := by kernel_rfl
  i9 := by kernel_rfl
  i20 := by kernel_rfl
  i37 := by kernel_rfl
  i46 := by kernel_rfl
  i51 := by kernel_rfl
  i53 := by kernel_rfl
  i171 := by kernel_rfl
  i173 := by kernel_rfl
  i212 := by kernel_rfl
  i232 := by kernel_rfl
  i233 := by kernel_rfl
  m17 := by kernel_rfl
  m18 := by kernel_rfl
  m19 := by kernel_rfl }
open Go.RowKit Go.Sort Go.Lib in
theorem Tryz.strconv_Itoa (n : Int) (h0 : -9223372036854775808 ≤ n) (h1 : n ≤ 9223372036854775807) (w : World) (htab : Lib.TabIs Tryz.prog w "internal/strconv.uint64pow10" .u64 Lib.pow10Tab) :
    Calls Tryz.prog 62 #[.int .i64 n] w fun e w' => e = .returned (.string ⟨(Lib.itoa n).toArray⟩) ∧ ∃ k os, w' = grow (w.drewN k) os := Any.strconv_Itoa Tryz.laysM171 n h0 h1 w htab
end Go.Proofs
namespace Go.Proofs.YthlnmdihdcfphaaGreatDoor
set_option linter.unusedSimpArgs false
set_option linter.unusedVariables false
open Go.RowKit Go.Sort Go.Shelf

theorem below_grow (w : World) (k : Nat) (os : Array Obj) : Below w.heap.size w (grow (w.drewN k) os) := by
  refine ⟨rfl, rfl, rfl, by simp [grow, World.drewN], fun i hi => ?_⟩
  simp only [grow]
  rw [Array.getElem?_append_left (by simpa [World.drewN] using hi)]
  rfl
/-- What the package's calls read of the library's variables. -/
def Vars (w : World) : Prop := ErrVar w ∧ Lib.TabIs Tryz.prog w "internal/strconv.uint64pow10" .u64 Lib.pow10Tab ∧ 1 < w.heap.size
theorem Vars.below {w w' : World} {B : Nat} (hB : w.heap.size ≤ B) (hb : Below B w w') (h : Vars w) : Vars w' :=
  ⟨h.1.below hB hb, var?_below hb (g := 1) (by kernel_rfl) (Nat.lt_of_lt_of_le h.2.2 hB) h.2.1, Nat.lt_of_lt_of_le h.2.2 hb.size⟩
theorem itoa_all : ((List.range 2000).all fun (n : Nat) => decide ((Lib.itoa (n : Int)).length ≤ 100)) = true := by kernel_rfl
theorem itoa_any (k : Nat) (hk : k < 2000) (w : World) (hv : Vars w) : Calls Tryz.prog 62 #[.int .i64 k] w fun e w' => ∃ s : ByteArray, e = .returned (.string s) ∧ s.size ≤ 100 ∧ Below w.heap.size w w' := by
  refine (Tryz.strconv_Itoa k (by omega) (by omega) w hv.2.1).mono ?_
  rintro e w' ⟨rfl, q, os, rfl⟩
  refine ⟨_, rfl, ?_, below_grow w q os⟩
  have := List.all_eq_true.1 itoa_all k (List.mem_range.2 hk)
  simpa [ByteArray.size] using of_decide_eq_true this
/-- An error that says a number. -/
def Fault (w : World) (n : Int) (v : Value) : Prop := ∃ T d t ts, v = .iface T d ∧ Chain w n (t :: ts) (.iface T d)
theorem Fault.below {w w' : World} {n : Int} {v : Value} (h : Fault w n v) (hb : Below w.heap.size w w') : Fault w' n v := by
  obtain ⟨T, d, t, ts, e, hc⟩ := h
  exact ⟨T, d, t, ts, e, hc.below (Nat.le_refl _) hb⟩
theorem Fault.shape {w : World} {n : Int} {v : Value} (h : Fault w n v) : ∃ T d, v = .iface T d := let ⟨T, d, _, _, e, _⟩ := h; ⟨T, d, e⟩
theorem new_fault (n : Int) (hn : (n == 0) = false) (s : ByteArray) (w : World) : Calls Tryz.prog 37 #[.int .i64 n, .string s] w fun e w' => ∃ v, e = .returned v ∧ Fault w' n v ∧ Below w.heap.size w w' :=
  (new_some n s w hn).mono fun e w' ⟨v, h1, h2, h3⟩ => by
    obtain ⟨T, d, rfl⟩ := h2.shape
    exact ⟨_, h1, ⟨T, d, _, _, rfl, h2⟩, h3⟩
theorem wrap_fault (n : Int) (v : Value) (s : ByteArray) (w : World) (h : Fault w n v) : Calls Tryz.prog 43 #[v, .string s] w fun e w' => ∃ u, e = .returned u ∧ Fault w' n u ∧ Below w.heap.size w w' := by
  obtain ⟨T, d, t, ts, rfl, hc⟩ := h
  exact (wrap_some (.iface T d) n t ts s w hc).mono fun e w' ⟨v, h1, h2, h3⟩ => by
    obtain ⟨T, d, rfl⟩ := h2.shape
    exact ⟨_, h1, ⟨T, d, _, _, rfl, h2⟩, h3⟩
theorem of_fault (n : Int) (v : Value) (w : World) (hg : Vars w) (h : Fault w n v) : Calls Tryz.prog 26 #[v] w fun e w' => e = .returned (.int .i64 n) ∧ Below w.heap.size w w' := by
  obtain ⟨T, d, t, ts, rfl, hc⟩ := h
  exact of_num n (t :: ts) T d w hg.1 hc

end Go.Proofs.YthlnmdihdcfphaaGreatDoor
