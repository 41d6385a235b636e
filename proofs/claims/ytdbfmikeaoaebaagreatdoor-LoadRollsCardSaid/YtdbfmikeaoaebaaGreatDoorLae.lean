/- Steps. -/
import Derived.Test.YtdbfmikeaoaebaaGreatDoorLad
import Derived.Laws.BytesArg
import Derived.Test.YtdbfmikeaoaebaaGreatDoorProg
import Derived.WalkKit
import Derived.WalkSpells
import Derived.LaidEql
import Derived.Stop.Asserts
import Derived.RowKitTokens
import Derived.Deep.LoopGhost
import Derived.Deep.DeepMust
import Derived.Deep.DeepFit
import Derived.Lib.Hide
import Derived.Defers
import Derived.Recover
import Derived.RegionTactic
import Derived.ChangeAlike
import Derived.Laws.EntriesVeiled
import Derived.Shelf.LaysM
import Derived.Shelf.Strconv.Itoa3
import Derived.WalkSmall
import Derived.Test.YtdbfmikeaoaebaaGreatDoorLab
import Derived.BigQuiet
import Derived.Deep.QuietTactic
import Derived.Test.YtdbfmikeaoaebaaGreatDoorLaa
import Derived.WalkLawsBesides
import Derived.Deep.AppendLies
import Derived.Laws.CopyRow
import Derived.Laws.Rows
import Derived.Laws.StructEq
set_option linter.unusedSimpArgs false
set_option linter.unusedVariables false
set_option maxRecDepth 100000
set_option maxHeartbeats 4000000
namespace Go.Proofs.YtdbfmikeaoaebaaGreatDoor
open Go.RowKit
theorem J5u(sv tv:Value)(l m:List (List Int))(hl:l.length≤100000)(hm:m.length≤100000)(w:World)(h:SecsAt w sv l)(k:SecsAt w tv m):Calls Tryz.prog 185 #[sv,tv] w (Zr w (.bool (decide (l=m)))):=by
 obtain⟨a,c,rfl,hc1,hc⟩:=h;obtain⟨b,d,rfl,hd1,hd⟩:=k
 by_cases hlm:l.length=m.length
 · have HC:=Zh hc;have HD:=Zh hd;obtain⟨n,hn⟩:∃n,m.length=n:=⟨_,rfl⟩
   rw [hlm,hn];rw [hn] at hlm hm;have HL:=Zh hlm;have HM:=Zh hn;clear hc hd hc1 hd1 hl hlm hn;go_enter Tryz.func185,Tryz.ntmps185
   go_wp2_with fail
   go_loopg [13] n (fun q i wr=>∃k:Nat,n-k≤q∧k≤n∧i=.int .i64 k∧l.take k=m.take k∧Below w.heap.size w wr)
   case atStart=>exact⟨0,by omega,by omega,rfl,rfl,Below.refl _ _⟩
   case round =>
    obtain⟨k,hq,hk,rfl,hsame,hb⟩:=hrel;have HS:=Zh hsame;have HB:=Zh hb;clear hsame hb
    by_cases hlt:k<n
    · obtain⟨y,hy⟩:∃y,l[k]? = some y:=⟨_,List.getElem?_eq_getElem (by have:=HL.out;omega)⟩
      obtain⟨z,hz⟩:∃z,m[k]? = some z:=⟨_,List.getElem?_eq_getElem (by have:=HM.out;omega)⟩
      obtain⟨y1,g,o,rfl,y2⟩:=HC.out k y hy;obtain⟨z1,g2,o2,rfl,z2⟩:=HD.out k z hz;have HY1:=Zh y1;have HZ1:=Zh z1;have HYA:=Zh (y2.below HB.out (y2.lt (by rw [y1.size];decide)));have HZA:=Zh (z2.below HB.out (z2.lt (by rw [z1.size];decide)));have HYL:=Zh (HYA.lt (by rw [y1.size];decide));have HZL:=Zh (HZA.lt (by rw [z1.size];decide));have HYK:=Zh hy;have HZK:=Zh hz;have HN:=Zh fun w=>Jga w y z y1.length z1.length;have gk:decide ((k:Int)<(n:Int))=true:=decide_eq_true (by omega);have hk0:(k:Int)<(n:Int):=by omega
      clear y1 y2 z1 z2 hy hz;go_upto_region 6 with fail;refine J9 (fun wq=>Below wr.heap.size wr wq) (by kernel_rfl) ?_;refine th 0 16 (.slice (some ⟨g,o,none⟩) n c) Zq.drew ?_;refine th 1 17 (.int .i64 k) Zq.drew ?_;refine th 2 18 (.pointer (some ⟨g,o+k*64,none⟩)) Zq.drew ?_;refine Jl 3 (some 19) (.agg ((u8s y).toArray)) rfl rfl (by kernel_rfl) (by kernel_rfl) (by kernel_rfl) (fun _ _ _ h=>h) rfl (fun wq hS=>exec_load_at wq _ _ 36 _ rfl (g) (o+k*64) rfl ((u8s y).toArray) _ Tryz.underlying36 rfl (by rw [HY1.size];exact info36) (HYA.below hS HYL.out)) Zq.drew ?_;refine nm ?_;refine th 4 20 (.slice (some ⟨g2,o2,none⟩) n d) Zq.drew ?_;refine th 5 21 (.int .i64 k) Zq.drew ?_;refine th 6 22 (.pointer (some ⟨g2,o2+k*64,none⟩)) Zq.drew ?_;refine Jl 7 (some 23) (.agg ((u8s z).toArray)) rfl rfl (by kernel_rfl) (by kernel_rfl) (by kernel_rfl) (fun _ _ _ h=>h) rfl (fun wq hS=>exec_load_at wq _ _ 36 _ rfl (g2) (o2+k*64) rfl ((u8s z).toArray) _ Tryz.underlying36 rfl (by rw [HZ1.size];exact info36) (HZA.below hS HZL.out)) Zq.drew ?_;refine nm ?_
      by_cases e:y=z
      · have gn:(!decide (y=z))=false:=by simp [e]
        rw [gn] at HN;have HEQ:=Zh e;clear gn e;refine th 8 24 (.bool false) Zq.drew ?_ (hy:=fun wq hS=>by have hq:=HN.out;go_simp);refine Zd ?_;have HST:Hid (l.take (k+1)=m.take (k+1)):=Zh (by rw [List.take_add_one,List.take_add_one,HS.out,HYK.out,HZK.out,HEQ.out]);have HB2:Hid (Below w.heap.size w wr.drew):=Zh HB.drew
        go_wp2_with fail
        go_roundg (n-(k+1))
        case measure=>omega
        case rel=>exact⟨k+1,by omega,by omega,by go_num,HST.out,by first|exact HB2.out|exact HB.drew⟩
      · have gn:(!decide (y=z))=true:=by simp [e]
        rw [gn] at HN;refine th 8 24 (.bool true) Zq.drew ?_ (hy:=fun wq hS=>by have hq:=HN.out;go_simp);refine Zd ?_;have HX:Hid (decide (l=m)=false):=Zh (decide_eq_false fun h=>by
         subst h
         have:=HYK.symm.trans HZK.out
         exact e (Option.some.inj this))
        have HB2:Hid (Below w.heap.size w wr.drew):=Zh HB.drew;clear gn e
        go_wp2_with fail
        go_ret;exact⟨Jb HX.symm,HB2.out⟩
    · obtain rfl:k=n:=by omega
      have HX:Hid (decide (l=m)=true):=Zh (decide_eq_true (by
       have:=HS.out
       rwa [List.take_of_length_le (by have:=HL.out;omega),List.take_of_length_le (by have:=HM.out;omega)] at this))
      have gk:decide ((k:Int)<(k:Int))=false:=decide_eq_false (by omega)
      go_wp2_with fail
      go_ret;exact⟨Jb HX.symm,HB.out⟩
 · have HX:Hid (decide (l=m)=false):=Zh (decide_eq_false fun h=>hlm (by rw [h]));rw [HX.out];have gn:((l.length:Int) != (m.length:Int))=true:=by simp;omega
   obtain⟨n1,h1⟩:∃n,l.length=n:=⟨_,rfl⟩
   obtain⟨n2,h2⟩:∃n,m.length=n:=⟨_,rfl⟩
   rw [h1,h2] at gn hlm;rw [h1,h2];clear hc hd hc1 hd1 hl hm h1 h2;go_enter Tryz.func185,Tryz.ntmps185
   go_wp2_with fail
   go_ret;exact⟨rfl,Below.refl _ _⟩
variable {f g k m n:Nat} {l:List Int} {sv v:Value} {w w2:World}
theorem Q1(A:List (It×Value))(x:It×Value)(C:List (It×Value)):Jg (A++x::C)=Jg A++(.int .i64 x.1.mark.1::.int .i64 x.1.mark.2::(x.1.blk.cells x.2++Jg C)):=by
 simp [Jg,It.cells]
theorem J9c{A C:List (It×Value)}{b:Bk}{m0 m:Mk}(hA:(Jg A).length=k*47):((Jg (A++(⟨m0,b⟩,v)::C)).set (k*47) (.int .i64 m.1)).set (k*47+1) (.int .i64 m.2)=Jg (A++(⟨m,b⟩,v)::C):=by
 rw [Q1,Q1,List.set_append_right _ _ (by omega),List.set_append_right _ _ (by omega),hA,Nat.sub_self,show k*47+1-k*47=1 by omega];rfl
theorem Jdc{A C:List (It×Value)}{b c:Bk}{m:Mk}(hA:(Jg A).length=k*47)(hb:b.Wf)(hc:c.Wf):(Jt (Jg (A++(⟨m,b⟩,v)::C)) (k*47+2) (c.arr sv)).toList=Jg (A++(⟨m,c⟩,sv)::C):=by
 have h1:=Bk.cells_length hb v;have h2:=Bk.arr_size hc sv;unfold Jt;rw [h2,Q1,Q1];simp only [List.toList_toArray] at *;rw [List.take_append,List.take_of_length_le (by omega),hA,show k*47+2-k*47=2 by omega,List.drop_append,List.drop_of_length_le (by omega),hA,show k*47+2+45-k*47=45+1+1 by omega];simp only [List.take_succ_cons,List.take_zero,List.nil_append,List.drop_succ_cons];rw [List.drop_append,List.drop_of_length_le (by omega),h1];simp [Bk.arr]
theorem jR{l:List (It×Value)}(h:∀x∈l,x.1.Wf)(hn:l.length=n):(Jg l).length=n*47:=by rw [Qv h,hn]
abbrev jt:It×Value:=(It.none,.slice none 0 0)
theorem J9d(n:Nat):(madeCells (It.none.arr (.slice none 0 0)) (n*47)).toList=Jg (List.replicate n jt):=by
 have hl:(Jg (List.replicate n jt)).length=n*47:=jR (fun x hx=>by rw [List.eq_of_mem_replicate hx];exact It.none_wf) (by simp);unfold madeCells;apply List.ext_getElem?;intro i
 by_cases h:i<n*47
 · have e:=Xh (l:=List.replicate n jt) (fun x hx=>by rw [List.eq_of_mem_replicate hx];exact It.none_wf) (i:=i/47) (j:=i%47) (Nat.mod_lt _ (by decide));rw [show i/47*47+i%47=i by omega,List.getElem?_replicate,if_pos (by omega)] at e;rw [e];have hz:(It.none.arr (.slice none 0 0)).size=47:=It.arr_size It.none_wf _;have hj:i%47<47:=Nat.mod_lt _ (by decide);simp only [Array.toList_map,List.getElem?_map,Array.toList_range,List.getElem?_range h,Option.map_some,Option.bind_some,hz];rw [getElem!_pos _ _ (by rw [hz];exact hj)];simp only [It.arr,List.getElem_toArray];rw [List.getElem?_eq_getElem]
 · rw [List.getElem?_eq_none (by simp;omega),List.getElem?_eq_none (by omega)]
theorem Jh5(n:Nat)(hn:n<1000)(w:World):(Instr.makeSlice 74 (.int .i64 n) (.int .i64 n)).run Tryz.prog w=.ok (.slice (some ⟨w.heap.size,0,none⟩) n n) (w.alloc (.cells (madeCells (It.none.arr (.slice none 0 0)) (n*47)) 84)):=by
 obtain⟨i,hi,hz,hs,hb⟩:=J8g;have hr:=run_makeSlice (P:=Tryz.prog) w 74 84 i (.agg (It.none.arr (.slice none 0 0))) Tryz.underlying74 hi hz .i64 .i64 n n (by omega) (Int.le_refl _) (by rw [hs];omega) (by rw [hb];omega) (by omega);simpa [hs,Value.cells] using hr
theorem q8{s:List Int}(h:JT s=true):Qm s=readOf s∧ZN s=Ky s∧Ym s=0:=by
 unfold Qm ZN Ym;rw [h];exact⟨rfl,rfl,rfl⟩
theorem J41{s:List Int}(h:JT s=false):Qm s=Bk.none∧ZN s=0∧Ym s=11:=by
 unfold Qm ZN Ym;rw [h];exact⟨rfl,rfl,rfl⟩
def J9e(r:Option (List It))(B:Nat)(e:Ending)(w':World):Prop:=(r=none∧e=.returned (.tuple #[.slice none 0 0,.bool false]))∨∃iv pl,r=some (pl.map (·.1))∧e=.returned (.tuple #[iv,.bool true])∧ItemsAt w' iv pl∧∀x∈pl,Fresh B x.2
structure Fill (w wr:World) (ms:List Mk) (S:List (List Int)) (n k:Nat) (lv:Value) (D:List (It×Value)) (R:List (List Int)):Prop where
 len:D.length=k
 its:JI ms S=(JI (ms.drop k) R).map (D.map (·.1)++·)
 secs:SecsAt w lv R
 row:Blk wr w.heap.size (Jg (D++List.replicate (n-k) jt))
 all:∀x∈D,x.1.Wf∧BytesAt wr x.2 x.1.blk.bytes∧Fresh (w.heap.size+1) x.2
 bel:Below w.heap.size w wr
theorem Fill.below{wr:World}{ms:List Mk}{S:List (List Int)}{lv:Value}{D:List (It×Value)}{R:List (List Int)}(h:Fill w wr ms S n k lv D R)(hb:Below wr.heap.size wr w2):Fill w w2 ms S n k lv D R :=
 ⟨h.len,h.its,h.secs,h.row.below hb h.row.lt,fun x hx=>⟨(h.all x hx).1,(h.all x hx).2.1.below hb,(h.all x hx).2.2⟩,Jk h.bel hb⟩
theorem kw{ms:List Mk}{m:Mk}(h:ms[k]? = some m):ms.drop k=m::ms.drop (k+1):=by
 obtain⟨hk,rfl⟩:=List.getElem?_eq_some_iff.1 h;exact List.drop_eq_getElem_cons hk
theorem Jh6{ms:List Mk}{m:Mk}{D:List It}{R:List (List Int)}(h:ms[k]? = some m)(hh:JE m.1=false):(JI (ms.drop k) R).map (D++·)=(JI (ms.drop (k+1)) R).map ((D++[⟨m,Bk.none⟩])++·):=by
 rw [kw h];simp only [JI,hh,Bool.false_eq_true,if_false,Option.map_map];congr 1;funext x;simp
theorem Jdd{ms:List Mk}{m:Mk}{D:List It}{y:List Int}{R:List (List Int)}(h:ms[k]? = some m)(hh:JE m.1=true)(hy:JT y=true):(JI (ms.drop k) (y::R)).map (D++·)=(JI (ms.drop (k+1)) R).map ((D++[⟨m,readOf y⟩])++·):=by
 rw [kw h];simp only [JI,hh,if_true,hy,Option.map_map];congr 1;funext x;simp
theorem Jde{ms:List Mk}{m:Mk}{D:List It}(h:ms[k]? = some m)(hh:JE m.1=true):(JI (ms.drop k) []).map (D++·)=none:=by
 rw [kw h];simp only [JI,hh,if_true,Option.map_none]
theorem Jdf{ms:List Mk}{m:Mk}{D:List It}{y:List Int}{R:List (List Int)}(h:ms[k]? = some m)(hh:JE m.1=true)(hy:JT y=false):(JI (ms.drop k) (y::R)).map (D++·)=none:=by
 rw [kw h];simp only [JI,hh,if_true,hy,Bool.false_eq_true,if_false,Option.map_none]
theorem J9f(i j:Nat)(u v:Value):Only (fun k=>k=g) w ((w.setCell ⟨g,i,none⟩ u).setCell ⟨g,j,none⟩ v):=((Only.refl (fun k=>k=g) w).setCell (p:=⟨g,i,none⟩) (.inl rfl) u).setCell (p:=⟨g,j,none⟩) (.inl rfl) v
theorem Fill.step{wr:World}{ms:List Mk}{S:List (List Int)}{lv lv2:Value}{D:List (It×Value)}{R R2:List (List Int)}(h:Fill w wr ms S n k lv D R){x:It}{bv:Value}(hi:JI ms S=(JI (ms.drop (k+1)) R2).map ((D.map (·.1)++[x])++·))(hs:SecsAt w lv2 R2)(hr:Blk w2 w.heap.size (Jg (D++(x,bv)::List.replicate (n-(k+1)) jt)))(hD:∀y∈D,BytesAt w2 y.2 y.1.blk.bytes)(hx:x.Wf∧BytesAt w2 bv x.blk.bytes∧Fresh (w.heap.size+1) bv)(hb:Below w.heap.size w w2):Fill w w2 ms S n (k+1) lv2 (D++[(x,bv)]) R2:=by
 refine⟨by rw [List.length_append,h.len];rfl,by rw [hi];simp,hs,by rw [List.append_assoc];exact hr,fun y hy=>?_,hb⟩;rcases List.mem_append.1 hy with hy|hy
 · exact⟨(h.all y hy).1,hD y hy,(h.all y hy).2.2⟩
 · obtain rfl:=List.mem_singleton.1 hy;exact hx
theorem Ze(h:BytesAt w sv l)(ho:Only (fun k=>k=g) w w2)(hf:Fresh (g+1) sv):BytesAt w2 sv l:=h.only ho fun b o n c e=>by have:=hf b o n c e;omega
theorem zp(ms:List Mk)(hms:∀m∈ms,Kf m=true)(n:Nat)(hn:ms.length=n)(hlen:n≤24)(S:List (List Int))(hS:S.length≤100000)(mv sv:Value)(w:World)(hm:MarksAt w mv ms)(hs:SecsAt w sv S):Calls Tryz.prog 189 #[mv,sv] w fun e w'=>J9e (JI ms S) w.heap.size e w'∧Below w.heap.size w w':=by
 obtain⟨a,cap,rfl,hc⟩:=hm;rw [hn];have HC:=Zh hc;have HMS:=Zh hms;have HN:=Zh hn;have HSL:=Zh hS;have HS:=Zh hs;have hmk:=Jh5 n (by omega) w;clear hc hms hn hs hS;go_enter Tryz.func189,Tryz.ntmps189;go_upto_region 1 with fail
 go_wp2_with fail
 have HT0:Hid (Fill w (w.alloc (.cells (madeCells (It.none.arr (.slice none 0 0)) (n*47)) 84)) ms S n 0 sv [] S):=Zh (by
  have hb:Below w.heap.size w (w.alloc (.cells (madeCells (It.none.arr (.slice none 0 0)) (n*47)) 84)):=Zq.alloc Zy _
  refine⟨rfl,?_,HS.out,?_,fun x hx=>(by cases hx),hb⟩
  · simp
  · have:=Blk.new w (madeCells (It.none.arr (.slice none 0 0)) (n*47)) 84
    rw [J9d] at this
    exact this)
 go_loopg [1,19] n (fun q u1 i wr=>∃(k:Nat) (lv:Value) (D:List (It×Value)) (R:List (List Int)),lv=u1∧n-k≤q∧k≤n∧i=.int .i64 k∧R.length≤100000∧Fill w wr ms S n k lv D R)
 case atStart=>exact⟨0,_,[],S,rfl,by omega,by omega,rfl,HSL.out,HT0.out⟩
 case round =>
  obtain⟨k,lv,D,R,rfl,hq,hk,rfl,hRl,hf⟩:=hrel;have HF:=Zh hf;have HRL:=Zh hRl;clear hf HT0 hmk hRl
  by_cases hlt:k<n
  · obtain⟨m,hx⟩:∃m,ms[k]? = some m:=⟨_,List.getElem?_eq_getElem (by have:=HN.out;omega)⟩
    obtain⟨g,o,rfl,c0',c1'⟩:=HC.out k m hx;have HMK:=Zh hx;have HOM:=Zh (HMS.out m (List.mem_of_getElem? hx));have HTE:=Zh fun w=>kT m HOM.out w;have c0:=(HF.bel.cell (block_lt_of_cell c0')).trans c0';have c1:=(HF.bel.cell (block_lt_of_cell c1')).trans c1';have gk:decide ((k:Int)<(n:Int))=true:=decide_eq_true (by omega);have hk0:(k:Int)<(n:Int):=by omega
    clear hx c0' c1';obtain⟨mk,mi⟩:=m;simp only at c0 c1;have hA:(Jg D).length=k*47:=jR (fun x hx=>(HF.all x hx).1) HF.len;have hrep:List.replicate (n-k) jt=jt::List.replicate (n-(k+1)) jt:=by rw [show n-k=n-(k+1)+1 by omega];rfl
    have HA:=Zh hA;have HB1:Hid (Below wr.heap.size wr (wr.alloc (.cells #[.int .i64 mk,.int .i64 mi] 79))):=Zh (Zq.alloc Zy _);have HF1:=Zh (HF.below HB1.out);have hr1:=HF1.row;rw [hrep] at hr1;have HR1:=Zh hr1;have p0:(wr.alloc (.cells #[.int .i64 mk,.int .i64 mi] 79)).cell? ⟨w.heap.size,k*47,none⟩=some (.int .i64 0):=hr1.cell (by rw [Q1,List.getElem?_append_right (by omega),hA,Nat.sub_self];rfl);have p1:(wr.alloc (.cells #[.int .i64 mk,.int .i64 mi] 79)).cell? ⟨w.heap.size,k*47+1,none⟩=some (.int .i64 0):=hr1.cell (by rw [Q1,List.getElem?_append_right (by omega),hA,show k*47+1-k*47=1 by omega];rfl);have f0:(wr.alloc (.cells #[.int .i64 mk,.int .i64 mi] 79)).frozen? ⟨w.heap.size,k*47,none⟩=false:=hr1.frozen _;have f1:(wr.alloc (.cells #[.int .i64 mk,.int .i64 mi] 79)).frozen? ⟨w.heap.size,k*47+1,none⟩=false:=hr1.frozen _;have HNE:Hid (wr.heap.size≠w.heap.size):=Zh (by have:=HF.row.lt;omega);have HV1:Hid (Blk (wr.alloc (.cells #[.int .i64 mk,.int .i64 mi] 79)) wr.heap.size [.int .i64 mk,.int .i64 mi]):=Zh (Blk.new wr #[.int .i64 mk,.int .i64 mi] 79);clear hA hrep hr1;go_upto_region 6 with fail;have HO2:=Zh (J9f (g:=w.heap.size) (w:=wr.alloc (.cells #[.int .i64 mk,.int .i64 mi] 79)) (k*47) (k*47+1) (.int .i64 mk) (.int .i64 mi));have HR2:Hid (Blk (((wr.alloc (.cells #[.int .i64 mk,.int .i64 mi] 79)).setCell ⟨w.heap.size,k*47,none⟩ (.int .i64 mk)).setCell ⟨w.heap.size,k*47+1,none⟩ (.int .i64 mi)) w.heap.size (Jg (D++(⟨(mk,mi),Bk.none⟩,.slice none 0 0)::List.replicate (n-(k+1)) jt))):=Zh (by
     have:=(HR1.set (k*47) (.int .i64 mk)).set (k*47+1) (.int .i64 mi)
     rwa [J9c (m:=(mk,mi)) HA.out] at this)
    have HV2:=Zh (HV1.only HO2.out HNE.out);have HB2:Hid (Below w.heap.size w (((wr.alloc (.cells #[.int .i64 mk,.int .i64 mi] 79)).setCell ⟨w.heap.size,k*47,none⟩ (.int .i64 mk)).setCell ⟨w.heap.size,k*47+1,none⟩ (.int .i64 mi))):=Zh (HF1.bel.trans (HO2.below HF1.bel.size fun k hk=>Nat.le_of_eq hk.symm));have HD2:Hid (∀y∈D,BytesAt (((wr.alloc (.cells #[.int .i64 mk,.int .i64 mi] 79)).setCell ⟨w.heap.size,k*47,none⟩ (.int .i64 mk)).setCell ⟨w.heap.size,k*47+1,none⟩ (.int .i64 mi)) y.2 y.1.blk.bytes):=Zh fun y hy=>Ze (HF1.all y hy).2.1 HO2.out (HF1.all y hy).2.2;clear p0 p1 f0 f1 HO2 HR1 HV1 HF1 HB1 c0 c1;generalize ((wr.alloc (.cells #[.int .i64 mk,.int .i64 mi] 79)).setCell ⟨w.heap.size,k*47,none⟩ (.int .i64 mk)).setCell ⟨w.heap.size,k*47+1,none⟩ (.int .i64 mi)=w2 at *;have c0:w2.cell? ⟨wr.heap.size,0,none⟩=some (.int .i64 mk):=HV2.cell rfl;have c1:w2.cell? ⟨wr.heap.size,1,none⟩=some (.int .i64 mi):=HV2.cell rfl
    go_wp2_with fail
    refine (HTE.out _).mono ?_;rintro e w3 ⟨rfl,hb⟩;have HR3:=Zh (HR2.below hb HR2.lt);have HB3:=Zh (Jk HB2.out hb);have HD3:=Zh fun y hy=>(HD2.out y hy).below hb;clear hb HR2 HV2 HB2 HD2 c0 c1;cases hh:JE mk
    · have HST:Hid (Fill w w3 ms S n (k+1) lv (D++[(⟨(mk,mi),Bk.none⟩,.slice none 0 0)]) R):=Zh (HF.step (by rw [HF.its];exact Jh6 HMK.out hh) HF.secs HR3.out HD3.out ⟨⟨by have:=KQ.1 HOM.out;simp only at this;constructor <;> simp only <;> omega,by have:=KQ.1 HOM.out;simp only at this;constructor <;> simp only <;> omega,none_wf⟩,BytesAt.nil _ _ _,Fresh.nil _⟩ HB3.out);clear hh
      go_wp2_with fail
      go_roundg (n-(k+1))
      case measure=>omega
      case rel=>exact⟨k+1,lv,_,R,rfl,by omega,by omega,by go_num,HRL.out,HST.out⟩
    · obtain⟨ra,rc,rfl,hrc,hrs⟩:=HF.secs;cases R with
      | nil =>
       have HX:Hid (JI ms S=none):=Zh (by rw [HF.its];exact Jde HMK.out hh);simp only [List.length_nil];clear hh
       go_wp2_with fail
       first|go_ret2|go_ret
       exact⟨.inl ⟨HX.out,rfl⟩,HB3.out⟩
      | cons y R =>
       obtain⟨y1,yg,yo,rfl,y2⟩:=hrs 0 y rfl;rw [Nat.zero_mul,Nat.add_zero] at y2;obtain⟨rn,hrn⟩:∃r,(y::R).length=r:=⟨_,rfl⟩
       have HRW:=Zh (show SecsAt w (.slice (some ⟨yg,yo,none⟩) rn rc) (y::R) from ⟨_,rc,by rw [hrn],hrc,hrs⟩);have hrn1:1≤rn:=by rw [←hrn];simp
       have HREST:=Zh (HRW.cut 1 rn hrn1 Zy R (by simp [←hrn]));rw [hrn];have HRN:=Zh hrn;have hrn0:(0:Int)<(rn:Int):=by omega
       have gz:((rn:Int) == 0)=false:=by rw [ZE];exact decide_eq_false (by omega)
       have HY:=Zh (y2.below HB3.out (y2.lt (by rw [y1.size];decide)));have HYS:=Zh y1.size;have HDE:=Zh fun w=>kX y y1 w;have HDW:=Zh (show (Qm y).Wf from by unfold Qm;split;exact readOf_wf y1;exact none_wf);have HRL1:Hid (R.length≤100000):=Zh (by have:=HRL.out;simp at this;omega);have HITS:=Zh HF.its;clear y1 y2 hrs hrc hrn HRL;go_upto_region 10 with fail;refine Zl ?_;refine tk (.slice (some ⟨yg,yo,none⟩) rn rc) ?_;refine tk (.pointer (some ⟨yg,yo,none⟩)) ?_ (hr:=by go_simp;intro h;omega);refine Qc (cs:=(u8s y).toArray) HY.out HYS.out rfl rfl ?_;refine nm ?_;refine J0 rfl fun K hK=>?_;go_simp;refine (HDE.out _).mono ?_;rintro e w4 ⟨bv,rfl,hby,hb,hfr⟩;have HR4:=Zh (HR3.below hb HR3.lt);have HB4:=Zh (Jk HB3.out hb);have HD4:=Zh fun y hy=>(HD3.out y hy).below hb;have HBY:=Zh hby;have HFR:Hid (Fresh (w.heap.size+1) bv):=Zh fun b o n c e=>by have:=hfr b o n c e;have:=HR3.lt;omega
       have HLB:=Zh hby.len;clear hby hb hfr HR3 HB3 HD3 HY HDE;refine hK _ _ (nm ?_);clear hK K;refine tk (.tuple #[.agg ((Qm y).arr bv),.int .u32 (ZN y),.int .i64 (Ym y)]) ?_;refine tk (.agg ((Qm y).arr bv)) ?_;refine tk (.int .u32 (ZN y)) ?_;refine tk (.int .i64 (Ym y)) ?_;refine J4 zero82b rfl ?_;intro w5 hA hb hl;refine nm ?_;refine J3 (cs:=(Qm y).arr bv) hA (by rw [Bk.arr_size HDW.out];exact Bk.cells_length none_wf KH) (info82s HDW.out _) (Bk.arr_one (Qp HLB.out)) rfl rfl rfl ?_;intro w6 hD hO hlD;refine nm ?_;have hbb:Below w4.heap.size w4 w6:=hb.trans (hO.below hb.size fun k hk=>Nat.le_of_eq hk.symm);have HR6:=Zh (HR4.below hbb HR4.lt);have HB6:=Zh (Jk HB4.out hbb);have HD6:=Zh fun y hy=>(HD4.out y hy).below hbb;have HBY6:=Zh (HBY.below hbb);have HV6:=Zh hD;have HNE6:Hid (w4.heap.size≠w.heap.size):=Zh (by have:=HR4.lt;omega);generalize w4.heap.size=t at *;clear hA hb hl hD hO hlD hbb HR4 HB4 HD4 HBY;refine tk (.int .u32 (ZN y)) ?_;refine tk (.int .i64 (Ym y)) ?_;refine Zn ?_;cases hy:JT y
       · have HX:Hid (JI ms S=none):=Zh (by rw [HITS.out];exact Jdf HMK.out hh hy);obtain⟨q1,q2,q3⟩:=J41 hy;rw [q3];clear hh hy q1 q2 q3
         go_wp2_with fail
         first|go_ret2|go_ret
         exact⟨.inl ⟨HX.out,rfl⟩,HB6.out⟩
       · obtain⟨q1,q2,q3⟩:=q8 hy;rw [q1] at HV6 HBY6 HDW;rw [q3,q1];have HITS2:Hid (JI ms S=(JI (ms.drop (k+1)) R).map ((D.map (·.1)++[⟨(mk,mi),readOf y⟩])++·)):=Zh (by rw [HITS.out];exact Jdd HMK.out hh hy);clear hh hy q1 q2 q3 HITS;have hCS:∀cs:List Value,True:=fun _=>trivial;go_upto_region 13 with fail;refine J9 (fun wq=>Only (fun k=>k=w.heap.size) w6 wq) (by kernel_rfl) ?_;refine th 0 49 (.slice (some ⟨w.heap.size,0,none⟩) n n) (Only.refl _ _).drew ?_;refine th 1 50 (.int .i64 k) (Only.refl _ _).drew ?_;refine Jl 2 (some 51) (.agg ((readOf y).arr bv)) rfl rfl (by kernel_rfl) (by kernel_rfl) (by kernel_rfl) (fun _ _ _ h=>h) rfl (fun wq hS=>exec_load_at wq _ _ 82 _ rfl (t) (0) rfl ((readOf y).arr bv) _ Tryz.underlying82 rfl (by rw [Bk.arr_size HDW.out];exact Kc) (Blk.all (HV6.only hS HNE6.out) rfl)) (Only.refl _ _).drew ?_;refine nm ?_;refine th 3 52 (.slice (some ⟨yg,yo,none⟩) rn rc) (Only.refl _ _).drew ?_;refine th 4 53 (.slice (K5 (some ⟨yg,yo,none⟩) 1 rc 64) (rn-1) (rc-1)) (Only.refl _ _).drew ?_ (hy:=fun wq hS=>by exact jQ wq _ _ _ _ rfl (some ⟨yg,yo,none⟩) rn rc 1 rfl rfl hrn1);refine th 5 54 (.pointer (some ⟨w.heap.size,k*47,none⟩)) (Only.refl _ _).drew ?_;refine th 6 55 (.pointer (some ⟨w.heap.size,k*47+2,none⟩)) (Only.refl _ _).drew ?_;refine Zo 7 fun K hK=>?_;have HFIT:Hid (k*47+2+((readOf y).arr bv).size≤(Jg (D++(⟨(mk,mi),Bk.none⟩,.slice none 0 0)::List.replicate (n-(k+1)) jt)).length):=Zh (by
          rw [Bk.arr_size HDW.out,Q1,List.length_append,HA.out]
          simp only [List.length_cons,List.length_append,Bk.cells_length none_wf]
          omega)
         refine Kp 82 _ _ rfl w.heap.size (k*47+2) ((readOf y).arr bv) rfl rfl _ HR6.drew (info82s HDW.out _) HFIT.out (Bk.arr_one (Qp HLB.out)) ?_;have HR7:=Zh (HR6.drew.row (Jt (Jg (D++(⟨(mk,mi),Bk.none⟩,.slice none 0 0)::List.replicate (n-(k+1)) jt)) (k*47+2) ((readOf y).arr bv)));rw [Jdc HA.out none_wf HDW.out] at HR7;have HO7:=Zh ((Only.refl (fun k=>k=w.heap.size) w6).drew.setRow (g:=w.heap.size) (.inl rfl) (Jt (Jg (D++(⟨(mk,mi),Bk.none⟩,.slice none 0 0)::List.replicate (n-(k+1)) jt)) (k*47+2) ((readOf y).arr bv)));generalize w6.drew.setRow w.heap.size (Jt (Jg (D++(⟨(mk,mi),Bk.none⟩,.slice none 0 0)::List.replicate (n-(k+1)) jt)) (k*47+2) ((readOf y).arr bv))=w7 at *;refine hK _ _ HO7.out ?_;clear hK K HFIT;refine nm ?_;refine th 8 1 (.slice (K5 (some ⟨yg,yo,none⟩) 1 rc 64) (rn-1) (rc-1)) HO7.out ?_;refine Zd ?_;have HB7:Hid (Below w.heap.size w w7):=Zh (HB6.trans (HO7.below HB6.size fun k hk=>Nat.le_of_eq hk.symm));have HST:Hid (Fill w w7 ms S n (k+1) (.slice (K5 (some ⟨yg,yo,none⟩) 1 rc 64) (rn-1) (rc-1)) (D++[(⟨(mk,mi),readOf y⟩,bv)]) R):=Zh (HF.step HITS2.out HREST.out HR7.out (fun y hy=>Ze (HD6.out y hy) HO7.out (HF.all y hy).2.2) ⟨⟨by have:=KQ.1 HOM.out;simp only at this;constructor <;> simp only <;> omega,by have:=KQ.1 HOM.out;simp only at this;constructor <;> simp only <;> omega,HDW.out⟩,Ze HBY6.out HO7.out HFR.out,HFR.out⟩ HB7.out)
         go_wp2_with fail
         go_roundg (n-(k+1))
         case measure=>omega
         case rel=>exact⟨k+1,_,_,R,rfl,by omega,by omega,by go_num,HRL1.out,HST.out⟩
  · obtain rfl:k=n:=by omega
    have HX:Hid (JI ms S=some (D.map (·.1))):=Zh (by
     rw [HF.its,List.drop_of_length_le (by have:=HN.out;omega)]
     simp [JI])
    have HIT:Hid (ItemsAt wr (.slice (some ⟨w.heap.size,0,none⟩) k k) D):=Zh (by
     have h:=HF.row
     rw [Nat.sub_self,List.replicate_zero,List.append_nil] at h
     exact ItemsAt.of_row h HF.len Zy fun x hx=>⟨(HF.all x hx).1,(HF.all x hx).2.1⟩)
    have gk:decide ((k:Int)<(k:Int))=false:=decide_eq_false (by omega)
    go_wp2_with fail
    first|go_ret2|go_ret
    exact⟨.inr ⟨_,D,HX.out,rfl,HIT.out,fun x hx b o n c e=>by have:=(HF.all x hx).2.2 b o n c e;omega⟩,HF.bel⟩
theorem J9g:(Tryz.prog.info? 300).bind (·.zero)=some (.agg #[.int .u32 0,.bool false,.slice none 0 0]):=by kernel_rfl
theorem J9h:(Tryz.prog.info? 300).map (·.size)=some 3:=by kernel_rfl
theorem Jdg{l:List Mk}(h:MarksAt w sv l)(n:Int)(b:Bool):∀v∈(#[.int .u32 n,.bool b,sv]:Array Value),v.oneCell'=true:=by
 obtain⟨a,cap,rfl,_⟩:=h;intro v hv;simp only [List.mem_toArray,List.mem_cons,List.not_mem_nil,or_false] at hv;rcases hv with rfl|rfl|rfl <;> rfl
theorem Jdh{L:List (List Int)}{t:Nat}{P:List It}(h:L.length≤t):gat L (f+1) P t=([],0):=by
 unfold gat;rw [List.getElem?_eq_none h]
theorem J9i{L:List (List Int)}{t:Nat}{P:List It}(h:64<P.length):gat L (f+1) P t=([],0):=by
 unfold gat;cases L[t]? with
 | none=>rfl
 | some y=>simp only;rw [if_neg (by omega)]
theorem J5v{L:List (List Int)}{t:Nat}{P:List It}{y:List Int}(hy:L[t]? = some y)(h:KN y=false):gat L (f+1) P t=([],0):=by
 unfold gat;rw [hy];simp [h]
theorem J9j{L:List (List Int)}{t:Nat}{P:List It}{y:List Int}(hy:L[t]? = some y)(hi:JI (J5 y).marks (L.drop (t+1))=none):gat L (f+1) P t=([],0):=by
 unfold gat;rw [hy];simp only [hi];split <;> rfl
theorem J9k{L:List (List Int)}{t:Nat}{P p:List It}{y:List Int}(hy:L[t]? = some y)(h:KN y=true)(hP:P.length≤64)(hi:JI (J5 y).marks (L.drop (t+1))=some p):gat L (f+1) P t=if (J5 y).more then gat L f (P++p) (t+(1+JC (J5 y).marks)) else (P++p,t+(1+JC (J5 y).marks)):=by
 conv=>lhs;unfold gat
 rw [hy];simp only [h,hP,and_self,if_true,hi]
theorem Zf{ms:List Mk}{S:List (List Int)}{p:List It}(h:JI ms S=some p):p.length=ms.length∧JC ms≤S.length:=by
 induction ms generalizing S p with
 | nil=>cases h;exact⟨rfl,by simp [JC]⟩
 | cons m r ih =>
  unfold JI at h;split at h
  · rename_i hh
    cases S with
    | nil=>cases h
    | cons y t =>
     simp only at h;split at h
     · obtain⟨q,hq,rfl⟩:=Option.map_eq_some_iff.1 h;obtain⟨h1,h2⟩:=ih hq;simp only [List.length_cons,JC,hh,if_true];omega
     · cases h
  · rename_i hh
    obtain⟨q,hq,rfl⟩:=Option.map_eq_some_iff.1 h;obtain⟨h1,h2⟩:=ih hq;simp only [List.length_cons,JC];rw [if_neg hh];omega
theorem zq{y:List Int}(h:KN y=true):Ju (J5 y).marks=true:=by
 unfold KN at h;rw [Bool.and_eq_true] at h;exact h.1
theorem ZS:(Tryz.prog.info? 314).bind (·.zero)=some (.agg #[.slice none 0 0,.slice none 0 0,.int .i64 0,.int .i64 0]):=by kernel_rfl
theorem Qj:(Tryz.prog.info? 314).map (·.size)=some 4:=by kernel_rfl
theorem xf:Tryz.prog.built 314 []=some #[.slice none 0 0,.slice none 0 0,.int .i64 0,.int .i64 0]:=by kernel_rfl
theorem J9l(a b:Option Addr)(k c n d:Nat)(x y:Int):Tryz.prog.built 314 [(0,.slice a k c),(1,.slice b n d),(2,.int .i64 x),(3,.int .i64 y)]=some #[.slice a k c,.slice b n d,.int .i64 x,.int .i64 y]:=by kernel_rfl
theorem Qx(a b:Option Addr)(k c n d:Nat)(x y:Int):∀v∈(#[.slice a k c,.slice b n d,.int .i64 x,.int .i64 y]:Array Value),v.oneCell'=true:=fun v hv=>by
 simp only [List.mem_toArray,List.mem_cons,List.not_mem_nil,or_false] at hv;rcases hv with rfl|rfl|rfl|rfl <;> rfl
theorem J1u{L:List (List Int)}:(Kv L).2≤L.length:=by
 have key:∀f P t,t≤L.length→(gat L f P t).2≤L.length:=by
  intro f
  induction f with
  | zero=>intro P t _;exact Nat.zero_le _
  | succ f ih =>
   intro P t ht;unfold gat;split
   · exact Nat.zero_le _
   · rename_i y hy
     have htl:=(Zg hy).1;split
     · rename_i hc
       cases e:JI (J5 y).marks (L.drop (t+1)) with
       | none=>exact Nat.zero_le _
       | some p =>
        have h2:=(Zf e).2;rw [List.length_drop] at h2;simp only;split
        · exact ih _ _ (by omega)
        · simp only;omega
     · exact Nat.zero_le _
 exact key _ _ _ (Nat.zero_le _)
theorem zr{L:List (List Int)}:(Kv L).1.length≤88:=by
 have key:∀f P t,(gat L f P t).1.length≤88:=by
  intro f
  induction f with
  | zero=>intro P t;exact Nat.zero_le _
  | succ f ih =>
   intro P t;unfold gat;split
   · exact Nat.zero_le _
   · rename_i y hy
     split
     · rename_i hc
       cases e:JI (J5 y).marks (L.drop (t+1)) with
       | none=>exact Nat.zero_le _
       | some p =>
        have h2:=(Zf e).1;have h3:=(QU (zq hc.2)).2;simp only;split
        · exact ih _ _
        · simp only [List.length_append];omega
     · exact Nat.zero_le _
 exact key _ _ _
theorem J42(a b:Option Addr)(k c n d:Nat)(x y:Int):NoIt [.slice a k c,.slice b n d,.int .i64 x,.int .i64 y]:=⟨by simp,fun z hz=>by simp at hz⟩
theorem y5(n:Int)(l:List It)(h:k≤m):(Js n l k).1 <+: (Js n l m).1:=by
 obtain⟨d,rfl⟩:=Nat.exists_eq_add_of_le h;clear h
 induction d with
 | zero=>exact List.prefix_refl _
 | succ d ih=>rw [←Nat.add_assoc,Q0];exact ih.trans (List.prefix_append _ _)
theorem J5w{l:List It}(h:JH l=true)(n:Int)(hn:Kh n):∃more,(Jd n l).1[0]? = some (JN n more (Qe l 0)):=by
 have hp:=(Qo h).1;obtain⟨r,hr⟩:=y5 n l hp;refine⟨decide (24*0+24<l.length),?_⟩;unfold Jd;rw [←hr,Q0];have:(n+((0:Nat):Int))%M32=n:=by
  have:=hn.1;have:=hn.2;simp only [M32] at *;omega
 rw [this];simp [Js,XJ]
theorem Jdi{l:List It}(w:∀x∈l,x.Wf)(n:Int):∀y∈(Jd n l).1,Sc y:=J99 w n _
end Go.Proofs.YtdbfmikeaoaebaaGreatDoor
namespace Go
section
variable {P:Program} (w:World)
theorem Yn(d:Nat){ti tn:TypeId}{ms:Array (String×TypeId)}{i:TypeInfo}{k:IntKind}(a b:Int)(hi:P.underlying ti=some (.interface ms))(hn:P.underlying tn=some (.int k))(hinfo:P.info? tn=some i)(hcomp:i.comparable=true) :
 (Op.equalIn (d+2) ti (.iface tn (.int k a)) (.iface tn (.int k b))).run P w=.ok (a == b) w:=by
 simp [Op.equalIn,run_underlying hi,run_underlying hn,typeInfo,hinfo,hcomp]
theorem ZT{ti tn:TypeId}{ms:Array (String×TypeId)}{i:TypeInfo}{k:IntKind}(a b:Int)(hi:P.underlying ti=some (.interface ms))(hn:P.underlying tn=some (.int k))(hinfo:P.info? tn=some i)(hcomp:i.comparable=true) :
 (binOp .eql ti (.iface tn (.int k a)) (.iface tn (.int k b))).run P w=.ok (.bool (a == b)) w:=by
 simp only [binOp];simp [Op.equal,Op.maxDepth,Yn w 9998 a b hi hn hinfo hcomp]
end
end Go
namespace Go.Proofs.YtdbfmikeaoaebaaGreatDoor
open Go.RowKit Go.Extern.Stop Go.Stop Go.Extern
variable {B:Nat} {v:Value} {w w':World}
def Chain(w:World)(n:Int):List ByteArray→Value→Prop
 | [],v=>v=.iface 28 (.int .i64 n)
 | t::ts,v=>∃a u,v=.iface 190 (.pointer (some ⟨a,0,none⟩))∧w.cell? ⟨a,0,none⟩=some (.string t)∧w.cell? ⟨a,1,none⟩=some u∧w.cell? ⟨a,2,none⟩=some (.bool (!ts.isEmpty))∧Chain w n ts u
theorem Kw{a:Addr}(h:w.cell? a=some v):a.block<w.heap.size:=by
 rcases Nat.lt_or_ge a.block w.heap.size with h'|h'
 · exact h'
 · simp [World.cell?,Array.getElem?_eq_none h'] at h
theorem Chain.below{n:Int}(hB:w.heap.size≤B)(hb:Below B w w'):∀{ts:List ByteArray} {v:Value},Chain w n ts v→Chain w' n ts v
 | [],_,h=>h
 | _::_,_,⟨a,u,h1,h2,h3,h4,h5⟩ =>
  ⟨a,u,h1,(hb.cell (p:=⟨a,0,none⟩) (Nat.lt_of_lt_of_le (Kw h2) hB)).trans h2,(hb.cell (p:=⟨a,1,none⟩) (Nat.lt_of_lt_of_le (Kw h3) hB)).trans h3,(hb.cell (p:=⟨a,2,none⟩) (Nat.lt_of_lt_of_le (Kw h4) hB)).trans h4,h5.below hB hb⟩
theorem Jh7(s:ByteArray)(w:World):Calls Tryz.prog 56 #[.int .i64 0,.string s] w fun e w'=>e=.returned .nilIface∧w=w':=by
 go_enter Tryz.func56,Tryz.ntmps56
 go_wp2
 go_ret;exact⟨rfl,rfl⟩
theorem Qf(n:Int)(s:ByteArray)(w:World)(hn:(n == 0)=false):Calls Tryz.prog 56 #[.int .i64 n,.string s] w fun e w'=>∃v,e=.returned v∧Chain w' n [s] v∧Below w.heap.size w w':=by
 go_enter Tryz.func56,Tryz.ntmps56
 go_wp2
 go_ret;exact⟨_,rfl,⟨_,_,rfl,by simp,by simp,by simp,rfl⟩,Zq.alloc Zy _⟩
theorem J9m(s:ByteArray)(w:World):Calls Tryz.prog 59 #[.nilIface,.string s] w fun e w'=>e=.returned .nilIface∧w=w':=by
 go_enter Tryz.func59,Tryz.ntmps59
 go_wp2
 go_ret;exact⟨rfl,rfl⟩
theorem XT(u:Value)(n:Int)(t:ByteArray)(ts:List ByteArray)(s:ByteArray)(w:World)(h:Chain w n (t::ts) u):Calls Tryz.prog 59 #[u,.string s] w fun e w'=>∃v,e=.returned v∧Chain w' n (s::t::ts) v∧Below w.heap.size w w':=by
 have HC:=Zh h;obtain⟨a,x,rfl,-⟩:=h;go_enter Tryz.func59,Tryz.ntmps59
 go_wp2
 go_ret;have hb:Below w.heap.size w (w.alloc (.cells #[.string s,.iface 190 (.pointer (some ⟨a,0,none⟩)),.bool true] 192)):=Zq.alloc Zy _;exact⟨_,rfl,⟨_,_,rfl,by simp,by simp,by simp,HC.below Zy hb⟩,hb⟩
theorem q9(a:Nat)(u:Value)(w:World)(h:w.cell? ⟨a,1,none⟩=some u):Calls Tryz.prog 214 #[.pointer (some ⟨a,0,none⟩)] w fun e w'=>e=.returned u∧w=w':=by
 go_enter Tryz.func214,Tryz.ntmps214
 go_wp2
 go_ret;exact⟨rfl,rfl⟩
theorem J5x(x:Addr)(w:World):(ReflectliteValue.unpack (.iface 201 (.pointer (some x)))).run Tryz.prog w=.ok (.agg #[.pointer (some ⟨4,201,none⟩),.pointer (some ⟨w.heap.size,0,none⟩),.int .u64 150]) (w.alloc (.cells #[.pointer (some x)] 201)):=by kernel_rfl
theorem J5y(n:Int)(w:World):(ReflectliteValue.unpack (.iface 28 (.int .i64 n))).run Tryz.prog w=.ok (.agg #[.pointer (some ⟨4,28,none⟩),.pointer (some ⟨w.heap.size,0,none⟩),.int .u64 130]) (w.alloc (.cells #[.int .i64 n] 28)):=by kernel_rfl
theorem Jh8(a:Addr)(w:World):(ReflectliteValue.methodAny (ReflectliteValue.valueError "reflectlite.Value.Type" 0) (fun t _ _ _=>ReflectliteType.toType t) #[.agg #[.pointer (some ⟨4,201,none⟩),.pointer (some a),.int .u64 150]]).run Tryz.prog w=.ok (.iface 282 (.agg #[.pointer (some ⟨4,201,none⟩)])) w:=by kernel_rfl
theorem J1v(h:Value)(w:World):(Go.method 461 282 (.agg #[h]) "Kind").run Tryz.prog w=.ok (206,h) w:=by kernel_rfl
theorem J1w(h:Value)(w:World):(Go.method 461 282 (.agg #[h]) "Elem").run Tryz.prog w=.ok (221,.agg #[h]) w:=by kernel_rfl
theorem ju(h:Value)(w:World):(Go.method 461 282 (.agg #[h]) "Implements").run Tryz.prog w=.ok (222,.agg #[h]) w:=by kernel_rfl
theorem Zi(h:Value)(w:World):(Go.method 461 282 (.agg #[h]) "AssignableTo").run Tryz.prog w=.ok (219,.agg #[h]) w:=by kernel_rfl
theorem Jh9(w:World):((ReflectliteType.abiMethod fun t=>(fun a:Nat=>Value.int IntKind.u8 (a:Int)) <$> Rtype.kind t) #[.pointer (some ⟨4,201,none⟩)]).run Tryz.prog w=.ok (.int .u8 22) w:=by kernel_rfl
theorem Jha(w:World):((ReflectliteType.abiMethod fun t=>(fun a:Nat=>Value.int IntKind.u8 (a:Int)) <$> Rtype.kind t) #[.pointer (some ⟨4,28,none⟩)]).run Tryz.prog w=.ok (.int .u8 2) w:=by kernel_rfl
theorem Jhb(w:World):(ReflectliteType.method ReflectliteType.elem #[.agg #[.pointer (some ⟨4,201,none⟩)]]).run Tryz.prog w=.ok (.iface 282 (.agg #[.pointer (some ⟨4,28,none⟩)])) w:=by kernel_rfl
theorem y6(w:World):(ReflectliteType.relation "Implements" ReflectliteType.implements_ #[.agg #[.pointer (some ⟨4,28,none⟩)],.iface 282 (.agg #[.pointer (some ⟨4,121,none⟩)])]).run Tryz.prog w=.ok (.bool true) w:=by kernel_rfl
theorem zt(v:Value)(w:World):(ReflectliteType.typeOf #[.iface 28 v]).run Tryz.prog w=.ok (.iface 282 (.agg #[.pointer (some ⟨4,28,none⟩)])) w:=by kernel_rfl
theorem kg(w:World):(ReflectliteType.relation "AssignableTo" ReflectliteType.assignableTo #[.agg #[.pointer (some ⟨4,28,none⟩)],.iface 282 (.agg #[.pointer (some ⟨4,28,none⟩)])]).run Tryz.prog w=.ok (.bool true) w:=by kernel_rfl
theorem J9n(v:Value)(w:World):(ReflectliteType.typeOf #[.iface 190 v]).run Tryz.prog w=.ok (.iface 282 (.agg #[.pointer (some ⟨4,190,none⟩)])) w:=by kernel_rfl
theorem ki(w:World):(ReflectliteType.relation "AssignableTo" ReflectliteType.assignableTo #[.agg #[.pointer (some ⟨4,190,none⟩)],.iface 282 (.agg #[.pointer (some ⟨4,28,none⟩)])]).run Tryz.prog w=.ok (.bool false) w:=by kernel_rfl
theorem rlm(z:Sem Value)(f:TypeId→Addr→Nat→Nat→Sem Value)(v:Value) :
 ReflectliteValue.method z f #[v]=(do match ←ReflectliteValue.parts v with|none=>z|some (t,a,fl)=>f t a fl (fl%32)):=rfl
theorem rls(v x:Value):ReflectliteValue.set #[v,x]=(do
 let (some (dst,a,fl),some (src,b,_)):=(←ReflectliteValue.parts v,←ReflectliteValue.parts x)
  | unsupported (.noEntry "extern/(internal/reflectlite.Value).Set.zeroValue")
 if fl/ReflectliteValue.flagAddr%2 == 0 then unsupported (.noEntry "extern/(internal/reflectlite.Value).Set.unaddressable")
 let val ←loadVar src b
 if ←Rtype.directlyAssignable dst src then storeVar dst a val
 else if ←Rtype.implements dst src then
  if (←Rtype.kind src) == 20 then
   match val with
   | .nilIface=>unsupported (.noEntry "extern/reflectlite: a nil value of one interface type handed on as a value of another")
   | _=>storeVar dst a val
  else storeVar dst a (.iface src val)
 else panicString ("reflectlite.Set: value of type "++(←Rtype.spelt src)++ " is not assignable to type "++(←Rtype.spelt dst))
 pure (.tuple #[])):=rfl
theorem J43(a:Addr)(w:World):(ReflectliteValue.parts (.agg #[.pointer (some ⟨4,201,none⟩),.pointer (some a),.int .u64 150])).run Tryz.prog w=.ok (some (201,a,150)) w:=by kernel_rfl
theorem Jdj(a:Addr)(w:World):(ReflectliteValue.parts (.agg #[.pointer (some ⟨4,28,none⟩),.pointer (some a),.int .u64 130])).run Tryz.prog w=.ok (some (28,a,130)) w:=by kernel_rfl
theorem Jdk(a p:Addr)(W:World)(ha:W.cell? a=some (.pointer (some p))) :
 (ReflectliteValue.method (ReflectliteValue.valueError "reflectlite.Value.IsNil" 0) ReflectliteValue.isNil #[.agg #[.pointer (some ⟨4,201,none⟩),.pointer (some a),.int .u64 150]]).run Tryz.prog W=.ok (.bool false) W:=by
 rw [rlm];simp only [Sem.run_bind,J43,Result.andThen];simp [ReflectliteValue.isNil,loadVar,isAgg,underlying,Tryz.underlying201,ha,Result.andThen]
theorem J9o(w:World):(Rtype.elem? 201).run Tryz.prog w=.ok (some 28) w:=by kernel_rfl
theorem Jjt(p:Addr)(w:World):(ReflectliteValue.mk 28 p ReflectliteValue.flagAddr).run Tryz.prog w=.ok (.agg #[.pointer (some ⟨4,28,none⟩),.pointer (some p),.int .u64 386]) w:=by kernel_rfl
theorem Jdl(a p:Addr)(W:World)(ha:W.cell? a=some (.pointer (some p))) :
 (ReflectliteValue.method (ReflectliteValue.valueError "reflectlite.Value.Elem" 0) ReflectliteValue.elem #[.agg #[.pointer (some ⟨4,201,none⟩),.pointer (some a),.int .u64 150]]).run Tryz.prog W=.ok (.agg #[.pointer (some ⟨4,28,none⟩),.pointer (some p),.int .u64 386]) W:=by
 rw [rlm];simp only [Sem.run_bind,J43,Result.andThen];simp [ReflectliteValue.elem,loadVar,isAgg,underlying,Tryz.underlying201,ha,Result.andThen,J9o,Jjt]
theorem J9p(a:Addr)(w:World):(ReflectliteValue.parts (.agg #[.pointer (some ⟨4,28,none⟩),.pointer (some a),.int .u64 386])).run Tryz.prog w=.ok (some (28,a,386)) w:=by kernel_rfl
theorem J9q(w:World):(Rtype.directlyAssignable 28 28).run Tryz.prog w=.ok true w:=by kernel_rfl
theorem Jj0(ta b:Addr)(n:Int)(old:Value)(W:World)(hb:W.cell? b=some (.int .i64 n))(ht:W.cell? ta=some old)(hf:W.frozen? ta=false) :
 (ReflectliteValue.set #[.agg #[.pointer (some ⟨4,28,none⟩),.pointer (some ta),.int .u64 386],.agg #[.pointer (some ⟨4,28,none⟩),.pointer (some b),.int .u64 130]]).run Tryz.prog W=.ok (.tuple #[]) (W.setCell ta (.int .i64 n)):=by
 rw [rls];simp only [Sem.run_bind,J9p,Jdj,Result.andThen];simp [ReflectliteValue.flagAddr,loadVar,isAgg,underlying,Tryz.underlying28,hb,Result.andThen,J9q,storeVar,Value.cells,storeCells,Addr.add];rw [run_store Tryz.prog W ta _ _ (by rfl)];simp [ht,hf]
theorem Jgc(args:Array Value)(w:World):(callFunc 119 args).run Tryz.prog w=((((fun args=>ReflectliteValue.unpack (args.getD 0 (.tuple #[]))):Array Value→Sem Value) args).run Tryz.prog w).andThen fun v w'=>.ok (.value v) w':=@run_callFunc_extern Tryz.prog 119 _ (fun args=>ReflectliteValue.unpack (args.getD 0 (.tuple #[]))) Tryz.func119 (by kernel_rfl) (by kernel_rfl) (by kernel_rfl) (by kernel_rfl) args w
theorem Jj1(args:Array Value)(w:World):(callFunc 120 args).run Tryz.prog w=((((ReflectliteValue.methodAny (ReflectliteValue.valueError "reflectlite.Value.Type" 0) (fun t _ _ _=>ReflectliteType.toType t)):Array Value→Sem Value) args).run Tryz.prog w).andThen fun v w'=>.ok (.value v) w':=@run_callFunc_extern Tryz.prog 120 _ (ReflectliteValue.methodAny (ReflectliteValue.valueError "reflectlite.Value.Type" 0) (fun t _ _ _=>ReflectliteType.toType t)) Tryz.func120 (by kernel_rfl) (by kernel_rfl) (by kernel_rfl) (by kernel_rfl) args w
theorem Jj2(args:Array Value)(w:World):(callFunc 121 args).run Tryz.prog w=((((ReflectliteValue.method (ReflectliteValue.valueError "reflectlite.Value.IsNil" 0) ReflectliteValue.isNil):Array Value→Sem Value) args).run Tryz.prog w).andThen fun v w'=>.ok (.value v) w':=@run_callFunc_extern Tryz.prog 121 _ (ReflectliteValue.method (ReflectliteValue.valueError "reflectlite.Value.IsNil" 0) ReflectliteValue.isNil) Tryz.func121 (by kernel_rfl) (by kernel_rfl) (by kernel_rfl) (by kernel_rfl) args w
theorem Jj3(args:Array Value)(w:World):(callFunc 206 args).run Tryz.prog w=((((ReflectliteType.abiMethod fun t=>do pure (.int .u8 (←Rtype.kind t))):Array Value→Sem Value) args).run Tryz.prog w).andThen fun v w'=>.ok (.value v) w':=@run_callFunc_extern Tryz.prog 206 _ (ReflectliteType.abiMethod fun t=>do pure (.int .u8 (←Rtype.kind t))) Tryz.func206 (by kernel_rfl) (by kernel_rfl) (by kernel_rfl) (by kernel_rfl) args w
theorem Jj4(args:Array Value)(w:World):(callFunc 221 args).run Tryz.prog w=((((ReflectliteType.method ReflectliteType.elem):Array Value→Sem Value) args).run Tryz.prog w).andThen fun v w'=>.ok (.value v) w':=@run_callFunc_extern Tryz.prog 221 _ (ReflectliteType.method ReflectliteType.elem) Tryz.func221 (by kernel_rfl) (by kernel_rfl) (by kernel_rfl) (by kernel_rfl) args w
theorem Jj5(args:Array Value)(w:World):(callFunc 222 args).run Tryz.prog w=((((ReflectliteType.relation "Implements" ReflectliteType.implements_):Array Value→Sem Value) args).run Tryz.prog w).andThen fun v w'=>.ok (.value v) w':=@run_callFunc_extern Tryz.prog 222 _ (ReflectliteType.relation "Implements" ReflectliteType.implements_) Tryz.func222 (by kernel_rfl) (by kernel_rfl) (by kernel_rfl) (by kernel_rfl) args w
theorem Jgd(args:Array Value)(w:World):(callFunc 142 args).run Tryz.prog w=(((ReflectliteType.typeOf:Array Value→Sem Value) args).run Tryz.prog w).andThen fun v w'=>.ok (.value v) w':=@run_callFunc_extern Tryz.prog 142 _ ReflectliteType.typeOf Tryz.func142 (by kernel_rfl) (by kernel_rfl) (by kernel_rfl) (by kernel_rfl) args w
theorem Jj6(args:Array Value)(w:World):(callFunc 219 args).run Tryz.prog w=((((ReflectliteType.relation "AssignableTo" ReflectliteType.assignableTo):Array Value→Sem Value) args).run Tryz.prog w).andThen fun v w'=>.ok (.value v) w':=@run_callFunc_extern Tryz.prog 219 _ (ReflectliteType.relation "AssignableTo" ReflectliteType.assignableTo) Tryz.func219 (by kernel_rfl) (by kernel_rfl) (by kernel_rfl) (by kernel_rfl) args w
theorem Jj7(args:Array Value)(w:World):(callFunc 154 args).run Tryz.prog w=((((ReflectliteValue.method (ReflectliteValue.valueError "reflectlite.Value.Elem" 0) ReflectliteValue.elem):Array Value→Sem Value) args).run Tryz.prog w).andThen fun v w'=>.ok (.value v) w':=@run_callFunc_extern Tryz.prog 154 _ (ReflectliteValue.method (ReflectliteValue.valueError "reflectlite.Value.Elem" 0) ReflectliteValue.elem) Tryz.func154 (by kernel_rfl) (by kernel_rfl) (by kernel_rfl) (by kernel_rfl) args w
theorem Jj8(args:Array Value)(w:World):(callFunc 155 args).run Tryz.prog w=(((ReflectliteValue.set:Array Value→Sem Value) args).run Tryz.prog w).andThen fun v w'=>.ok (.value v) w':=@run_callFunc_extern Tryz.prog 155 _ ReflectliteValue.set Tryz.func155 (by kernel_rfl) (by kernel_rfl) (by kernel_rfl) (by kernel_rfl) args w
variable {w w1:World}
theorem Jdm(v:Value)(xT:TypeId)(w:World):(Instr.typeAssert (.iface 190 v) xT 286 true).run Tryz.prog w=.ok (.tuple #[.nilIface,.bool false]) w:=run_typeAssert_lacksB Tryz.underlying286 (by kernel_rfl) (by kernel_rfl) v xT w
theorem J9r(v:Value)(xT:TypeId)(w:World):(Instr.typeAssert (.iface 190 v) xT 289 true).run Tryz.prog w=.ok (.tuple #[.iface 190 v,.bool true]) w:=run_typeAssert_hasB Tryz.underlying289 (by kernel_rfl) v xT w
theorem y7(a:Addr)(w:World):(Go.method 461 190 (.pointer (some a)) "Unwrap").run Tryz.prog w=.ok (214,.pointer (some a)) w:=by kernel_rfl
theorem Chain.shape{n:Int}:∀{ts:List ByteArray} {v:Value},Chain w n ts v→∃T d,v=.iface T d
 | [],_,h=>⟨_,_,h⟩
 | _::_,_,⟨_,_,h,_⟩=>⟨_,_,h⟩
theorem Below.setOld{t:Addr}(v:Value)(hb:Below w.heap.size w w1)(_ht:t.block<w.heap.size):Below w.heap.size (w.setCell t v) (w1.setCell t v) :=
 ⟨hb.os,hb.tape,hb.output,by simpa [World.setCell] using hb.size,fun k hk=>by
  simp only [World.setCell,Array.getElem?_modify]
  rw [hb.block k hk]⟩
theorem Jju(n:Int)(ts:List ByteArray)(v:Value)(va t:Addr)(old:Value)(w:World)(hc:Chain w n ts v)(hva:w.cell? va=some (.pointer (some t)))(ht0:w.cell? t=some old)(hf0:w.frozen? t=false) :
 Calls Tryz.prog 122 #[v,.iface 201 (.pointer (some t)),.agg #[.pointer (some ⟨4,201,none⟩),.pointer (some va),.int .u64 150],.iface 282 (.agg #[.pointer (some ⟨4,28,none⟩)])] w fun e w'=>e=.returned (.bool true)∧Below w.heap.size (w.setCell t (.int .i64 n)) w':=by
 have h31:=Jgd;have h78:=Jj6;have h40:=Jj7;have h35:=Jgc;have h41:=Jj8;have mA:=Zi;have mU:=y7;have nA:=Jdm;have nU:=J9r;have tO:=zt;have tP:=J9n;have aS:=kg;have aT:=ki;have vO:=J5y;have hvl:=Kw hva;have htl:=Kw ht0;have b0:Below w.heap.size w (w.alloc (.cells #[.pointer (some ⟨4,201,none⟩),.pointer (some va),.int .u64 150] 233)):=Zq.alloc Zy _;have HC:=Zh (hc.below Zy b0);have B0:=Zh b0;have HV:=Zh hva;have HT:=Zh ht0;have HF:=Zh hf0;have HB:(w.alloc (.cells #[.pointer (some ⟨4,201,none⟩),.pointer (some va),.int .u64 150] 233)).heap.size=w.heap.size+1:=by simp
 have HBH:=Zh HB;clear hc hva ht0 hf0 b0 HB;go_enter Tryz.func122,Tryz.ntmps122
 go_wp2_with fail
 go_loopg [0] ts.length (fun k x wr=>∃us:List ByteArray,us.length≤k∧Chain wr n us x∧Below (w.heap.size+1) (w.alloc (.cells #[.pointer (some ⟨4,201,none⟩),.pointer (some va),.int .u64 150] 233)) wr)
 case atStart=>exact⟨ts,Nat.le_refl _,HC.out,Below.refl _ _⟩
 case round =>
  obtain⟨us,hl,hcr,hbr⟩:=hrel;have hsz:w.heap.size<wr.heap.size:=by have:=hbr.size;have:=HBH.out;omega
  have c0:wr.cell? ⟨w.heap.size,0,none⟩=some (.pointer (some ⟨4,201,none⟩)):=(hbr.cell (p:=⟨w.heap.size,0,none⟩) (Nat.lt_succ_self _)).trans (by simp);have c1:wr.cell? ⟨w.heap.size,1,none⟩=some (.pointer (some va)):=(hbr.cell (p:=⟨w.heap.size,1,none⟩) (Nat.lt_succ_self _)).trans (by simp);have c2:wr.cell? ⟨w.heap.size,2,none⟩=some (.int .u64 150):=(hbr.cell (p:=⟨w.heap.size,2,none⟩) (Nat.lt_succ_self _)).trans (by simp);cases us with
  | nil =>
   simp only [Chain] at hcr;subst hcr;have hb2:Below w.heap.size w wr:=B0.trans (hbr.mono (Nat.le_succ _));have hva':wr.cell? va=some (.pointer (some t)):=(hb2.cell hvl).trans HV.out;have ht':wr.cell? t=some old:=(hb2.cell htl).trans HT.out;have hf':wr.frozen? t=false:=(hb2.frozen htl).trans HF.out;have el:=Jdl va t wr hva';have st:=Jj0 t ⟨wr.heap.size,0,none⟩ n old (wr.alloc (.cells #[.int .i64 n] 28)) (by rw [World.cell?_alloc_at _ _ _ _ rfl];rfl) (by rw [World.cell?_alloc_lt _ _ t (by omega)];exact ht') (by rw [World.frozen?_alloc_old _ _ t (by omega)];exact hf');have HE:Hid (Below w.heap.size (w.setCell t (.int .i64 n)) ((wr.alloc (.cells #[.int .i64 n] 28)).setCell t (.int .i64 n))):=Zh (Below.setOld _ (hb2.alloc (Nat.le_of_lt hsz) _) htl);clear hva' ht' hf' hb2 hbr
   go_wp2
   go_ret;exact⟨rfl,HE.out⟩
  | cons s us =>
   obtain⟨a,u,rfl,k0,k1,k2,hcu⟩:=hcr;obtain⟨T,d,rfl⟩:=hcu.shape;have HU:=Zh hcu;have HR:=Zh hbr;have HL:=Zh hl;clear hcu hbr hl
   go_wp2_with (go_at_call 214;go_must (refine (q9 a (.iface T d) _ k1).mono ?_);rintro e w' ⟨rfl,rfl⟩)
   go_roundg us.length
   case measure=>have:=HL.out;simp at this;omega
   case rel=>exact⟨us,Nat.le_refl _,HU.out,HR.out⟩
variable {B:Nat} {w w':World}
def ErrVar(w:World):Prop:=w.cell? ⟨0,0,none⟩=some (.iface 282 (.agg #[.pointer (some ⟨4,121,none⟩)]))
theorem ErrVar.below(hB:w.heap.size≤B)(hb:Below B w w')(h:ErrVar w):ErrVar w' :=
 (hb.cell (p:=⟨0,0,none⟩) (Nat.lt_of_lt_of_le (Kw (a:=⟨0,0,none⟩) h) hB)).trans h
theorem Jhc(n:Int)(ts:List ByteArray)(T:TypeId)(d:Value)(t:Addr)(old:Value)(w:World)(hg:ErrVar w)(hc:Chain w n ts (.iface T d))(ht0:w.cell? t=some old)(hf0:w.frozen? t=false) :
 Calls Tryz.prog 94 #[.iface T d,.iface 201 (.pointer (some t))] w fun e w'=>e=.returned (.bool true)∧Below w.heap.size (w.setCell t (.int .i64 n)) w':=by
 have h35:=Jgc;have h36:=Jj1;have h37:=Jj2;have h67:=Jj3;have h80:=Jj4;have h81:=Jj5;have mK:=J1v;have mE:=J1w;have mI:=ju;have vO:=J5x;have tO:=Jh8;have k1:=Jh9;have k2:=Jha;have eO:=Jhb;have iO:=y6;have htl:=Kw ht0;have b2:Below w.heap.size w ((w.alloc (.cells #[.pointer (some t)] 201)).alloc (.cells #[.pointer (some ⟨4,201,none⟩),.pointer (some ⟨w.heap.size,0,none⟩),.int .u64 150] 233)):=((Below.refl w.heap.size w).alloc Zy _).alloc (by simp) _;have HB:=Zh b2;have HG:=Zh (hg.below Zy b2);have nO:=Jdk ⟨w.heap.size,0,none⟩ t ((w.alloc (.cells #[.pointer (some t)] 201)).alloc (.cells #[.pointer (some ⟨4,201,none⟩),.pointer (some ⟨w.heap.size,0,none⟩),.int .u64 150] 233)) (by rw [World.cell?_alloc_lt _ _ ⟨w.heap.size,0,none⟩ (by simp)];simp);have HA:=Zh (Jju n ts (.iface T d) ⟨w.heap.size,0,none⟩ t old ((w.alloc (.cells #[.pointer (some t)] 201)).alloc (.cells #[.pointer (some ⟨4,201,none⟩),.pointer (some ⟨w.heap.size,0,none⟩),.int .u64 150] 233)) (hc.below Zy b2) (by rw [World.cell?_alloc_lt _ _ ⟨w.heap.size,0,none⟩ (by simp)];simp) ((b2.cell htl).trans ht0) ((b2.frozen htl).trans hf0));have hg2:(((w.alloc (.cells #[.pointer (some t)] 201)).alloc (.cells #[.pointer (some ⟨4,201,none⟩),.pointer (some ⟨w.heap.size,0,none⟩),.int .u64 150] 233))).cell? ⟨0,0,none⟩=some (.iface 282 (.agg #[.pointer (some ⟨4,121,none⟩)])):=HG.out;clear hc hg ht0 hf0 b2;go_enter Tryz.func94,Tryz.ntmps94
 go_wp2_with (go_at_call 122;go_must (refine HA.mono ?_);rintro e w1 ⟨rfl,hb⟩)
 go_ret;exact⟨rfl,(Below.setOld _ HB.out htl).trans (hb.mono (by simp [World.setCell];omega))⟩
theorem Jhd(a b:Value)(w:World) :
 CallsD Tryz.prog 93 #[a,b] .returning w fun e u' w'=>e=.returned (.tuple #[])∧u'=.returning∧w'=w:=by
 refine callsD_of_wpS Tryz.func93 rfl fun c₀ cs hu=>?_;apply wpS_seq;apply wpS_region;simp [wpOpsS,go_sem,recoverD,hu,Tryz.ntmps93,Exit.thenS];refine wpS_cond (t:=false) (by simp [Act.eval,Array.replicate]) ?_;simp only [Bool.false_eq_true,if_false];refine wpS_of_wp (wp_skip ?_);cases c₀
 simp_all [bodyPostS,results,Tryz.results93]
theorem ErrVar.lt(h:ErrVar w):0<w.heap.size:=Kw (a:=⟨0,0,none⟩) h
theorem J44(w:World)(a b:Value)(T U:TypeId) :
 ((w.alloc (.cells #[a] T)).alloc (.cells #[b] U)).cell? ⟨w.heap.size,0,none⟩=some a∧((w.alloc (.cells #[a] T)).alloc (.cells #[b] U)).cell? ⟨w.heap.size+1,0,none⟩=some b
 ∧ ((w.alloc (.cells #[a] T)).alloc (.cells #[b] U)).frozen? ⟨w.heap.size,0,none⟩=false∧((w.alloc (.cells #[a] T)).alloc (.cells #[b] U)).frozen? ⟨w.heap.size+1,0,none⟩=false:=by
 refine⟨by simp,?_,by simp,?_⟩
 · rw [World.cell?_alloc_at _ _ _ _ (by simp)];rfl
 · rw [World.frozen?_alloc_at _ _ _ _ (by simp)]
theorem Jdn(w:World)(a b v:Value)(T U:TypeId) :
 (((w.alloc (.cells #[a] T)).alloc (.cells #[b] U)).setCell ⟨w.heap.size,0,none⟩ v).cell? ⟨w.heap.size,0,none⟩=some v∧(((w.alloc (.cells #[a] T)).alloc (.cells #[b] U)).setCell ⟨w.heap.size,0,none⟩ v).cell? ⟨w.heap.size+1,0,none⟩=some b
 ∧ (((w.alloc (.cells #[a] T)).alloc (.cells #[b] U)).setCell ⟨w.heap.size,0,none⟩ v).frozen? ⟨w.heap.size,0,none⟩=false∧(((w.alloc (.cells #[a] T)).alloc (.cells #[b] U)).setCell ⟨w.heap.size,0,none⟩ v).frozen? ⟨w.heap.size+1,0,none⟩=false:=by
 obtain⟨h1,h2,h3,h4⟩:=J44 w a b T U;refine⟨World.cell?_setCell_same' _ _ _ (by rw [h1];rfl),?_,by rw [World.frozen?_setCell];exact h3,?_⟩
 · refine Eq.trans ?_ h2;exact World.cell?_of_block (Below.heap_setCell _ _ _ _ (by simp))
 · rw [World.frozen?_setCell];exact h4
theorem J9s(n:Int)(ts:List ByteArray)(T:TypeId)(d:Value)(w:World)(hg:ErrVar w)(hc:Chain w n ts (.iface T d)) :
 Calls Tryz.prog 61 #[.iface T d] w fun e w'=>e=.returned (.tuple #[.int .i64 n,.bool true])∧Below w.heap.size w w':=by
 have hmf:∀(fn:Fn) (first cap:Array Value) (w:World),(Instr.makeFunc fn first cap).run Tryz.prog w=.ok (.func fn first cap) w:=fun _ _ _ _=>rfl;have b2:Below w.heap.size w ((w.alloc (.cells #[.int .i64 0] 28)).alloc (.cells #[.bool false] 4)):=((Below.refl w.heap.size w).alloc Zy _).alloc (by simp) _;obtain⟨n0,n1,n2,n3⟩:=J44 w (.int .i64 0) (.bool false) 28 4;have HA:=Zh (Jhc n ts T d ⟨w.heap.size,0,none⟩ (.int .i64 0) ((w.alloc (.cells #[.int .i64 0] 28)).alloc (.cells #[.bool false] 4)) (hg.below Zy b2) (hc.below Zy b2) n0 n2);have HB:=Zh b2;obtain⟨s0,s1,s2,s3⟩:=Jdn w (.int .i64 0) (.bool false) (.int .i64 n) 28 4;have hsz:(((w.alloc (.cells #[.int .i64 0] 28)).alloc (.cells #[.bool false] 4))).heap.size=w.heap.size+1+1:=by simp
 have HS:=Zh (And.intro s0 (And.intro s1 (And.intro s2 (And.intro s3 hsz))));clear hg hc b2 n0 n1 n2 n3 s0 s1 s2 s3 hsz
 go_enter_defers Tryz.func61,Tryz.ntmps61
 go_wp2_with fail
 refine HA.mono ?_;rintro e w1 ⟨rfl,hb⟩;obtain⟨s0,s1,s2,s3,hsz⟩:=HS.out;have c0:w1.cell? ⟨w.heap.size,0,none⟩=some (.int .i64 n):=(hb.cell (p:=⟨w.heap.size,0,none⟩) (by rw [hsz];simp only;omega)).trans s0;have c1:w1.cell? ⟨w.heap.size+1,0,none⟩=some (.bool false):=(hb.cell (p:=⟨w.heap.size+1,0,none⟩) (by rw [hsz];simp only;omega)).trans s1;have f0:w1.frozen? ⟨w.heap.size,0,none⟩=false:=(hb.frozen (p:=⟨w.heap.size,0,none⟩) (by rw [hsz];simp only;omega)).trans s2;have f1:w1.frozen? ⟨w.heap.size+1,0,none⟩=false:=(hb.frozen (p:=⟨w.heap.size+1,0,none⟩) (by rw [hsz];simp only;omega)).trans s3;have HW:Hid (Below w.heap.size w w1):=Zh ((HB.setCell (p:=⟨w.heap.size,0,none⟩) Zy _).trans (hb.mono (by simp;omega)));clear hb s0 s1 s2 s3 hsz
 go_wp2
 go_region
 all_goals go_wp2
 all_goals
  refine leaves_cons (f:=93) (args:=#[.pointer (some ⟨w.heap.size,0,none⟩),.pointer (some ⟨w.heap.size+1,0,none⟩)]) (by simp) (by simp [go_sem]) ?_;refine (Jhd _ _ _).mono ?_;rintro e u' w'' ⟨rfl,rfl,rfl⟩;simp [Leaves,settle,results,Tryz.results61,go_sem,c0,c1];exact (((HW.setCell (p:=⟨w.heap.size+1,0,none⟩) (by simp) _).setCell (p:=⟨w.heap.size,0,none⟩) (by simp) _).setCell (p:=⟨w.heap.size+1,0,none⟩) (by simp) _).drew
theorem jw(w:World):Calls Tryz.prog 36 #[.nilIface] w fun e w'=>e=.returned (.int .i64 0)∧w=w':=by
 go_enter Tryz.func36,Tryz.ntmps36
 go_wp2
 go_ret;exact⟨rfl,rfl⟩
theorem J1x(n:Int)(ts:List ByteArray)(T:TypeId)(d:Value)(w:World)(hg:ErrVar w)(hc:Chain w n ts (.iface T d)) :
 Calls Tryz.prog 36 #[.iface T d] w (Zr w (.int .i64 n)):=by
 have HA:=Zh (J9s n ts T d w hg hc);clear hg hc;go_enter Tryz.func36,Tryz.ntmps36
 go_wp2_with (go_at_call 61;go_must (refine HA.mono ?_);rintro e w1 ⟨rfl,hb⟩)
 go_ret;exact⟨rfl,hb⟩
end Go.Proofs.YtdbfmikeaoaebaaGreatDoor
namespace Go.Proofs
open Go.Shelf
def Tryz.laysM171_ren:Go.Shelf.Ren:=⟨fun|171=>60|243=>92|246=>118|283=>150|284=>151|285=>152|286=>153|129=>170|317=>169|318=>171|319=>172|320=>173|337=>181|338=>182|n=>n,fun|3=>3|9=>9|2=>2|4=>4|171=>275|0=>0|53=>276|37=>80|5=>5|173=>279|212=>308|51=>53|20=>20|213=>309|46=>202|232=>42|233=>35|n=>n,fun|17=>1|18=>2|19=>3|n=>n⟩
theorem Tryz.laysM171:Go.Proofs.LaysM.n171 Tryz.prog Tryz.laysM171_ren:={
  mixed:=by kernel_rfl
  f129:=Tryz.func170.trans (congrArg some (by kernel_rfl))
  f171:=Tryz.func60.trans (congrArg some (by kernel_rfl))
  f243:=Tryz.func92.trans (congrArg some (by kernel_rfl))
  f246:=Tryz.func118.trans (congrArg some (by kernel_rfl))
  f283:=Tryz.func150.trans (congrArg some (by kernel_rfl))
  f284:=Tryz.func151.trans (congrArg some (by kernel_rfl))
  f285:=Tryz.func152.trans (congrArg some (by kernel_rfl))
  f286:=Tryz.func153.trans (congrArg some (by kernel_rfl))
  f317:=Tryz.func169.trans (congrArg some (by kernel_rfl))
  f318:=Tryz.func171.trans (congrArg some (by kernel_rfl))
  f319:=Tryz.func172.trans (congrArg some (by kernel_rfl))
  f320:=Tryz.func173.trans (congrArg some (by kernel_rfl))
  f337:=Tryz.func181.trans (congrArg some (by kernel_rfl))
  f338:=Tryz.func182.trans (congrArg some (by kernel_rfl))
  t0:=Tryz.underlying0
  a0:=Tryz.isAgg0
  z0:=Tryz.sizeOf0
  v0:=Tryz.zeroValue0
  t2:=Tryz.underlying2
  a2:=Tryz.isAgg2
  z2:=Tryz.sizeOf2
  v2:=Tryz.zeroValue2
  t3:=Tryz.underlying3
  a3:=Tryz.isAgg3
  z3:=Tryz.sizeOf3
  v3:=Tryz.zeroValue3
  t4:=Tryz.underlying4
  a4:=Tryz.isAgg4
  z4:=Tryz.sizeOf4
  v4:=Tryz.zeroValue4
  t5:=Tryz.underlying5
  a5:=Tryz.isAgg5
  z5:=Tryz.sizeOf5
  v5:=Tryz.zeroValue5
  t9:=Tryz.underlying9
  a9:=Tryz.isAgg9
  z9:=Tryz.sizeOf9
  v9:=Tryz.zeroValue9
  t20:=Tryz.underlying20
  a20:=Tryz.isAgg20
  z20:=Tryz.sizeOf20
  v20:=Tryz.zeroValue20
  t37:=Tryz.underlying80
  a37:=Tryz.isAgg80
  z37:=Tryz.sizeOf80
  v37:=Tryz.zeroValue80
  t46:=Tryz.underlying202
  a46:=Tryz.isAgg202
  z46:=Tryz.sizeOf202
  v46:=Tryz.zeroValue202
  t51:=Tryz.underlying53
  a51:=Tryz.isAgg53
  z51:=Tryz.sizeOf53
  v51:=Tryz.zeroValue53
  t53:=Tryz.underlying276
  a53:=Tryz.isAgg276
  z53:=Tryz.sizeOf276
  v53:=Tryz.zeroValue276
  t171:=Tryz.underlying275
  a171:=Tryz.isAgg275
  z171:=Tryz.sizeOf275
  v171:=Tryz.zeroValue275
  t173:=Tryz.underlying279
  a173:=Tryz.isAgg279
  z173:=Tryz.sizeOf279
  v173:=Tryz.zeroValue279
  t212:=Tryz.underlying308
  a212:=Tryz.isAgg308
  z212:=Tryz.sizeOf308
  v212:=Tryz.zeroValue308
  t213:=Tryz.underlying309
  a213:=Tryz.isAgg309
  z213:=Tryz.sizeOf309
  t232:=Tryz.underlying42
  a232:=Tryz.isAgg42
  z232:=Tryz.sizeOf42
  v232:=Tryz.zeroValue42
  t233:=Tryz.underlying35
  a233:=Tryz.isAgg35
  z233:=Tryz.sizeOf35
  v233:=Tryz.zeroValue35
  g17:=by kernel_rfl
  g18:=by kernel_rfl
  g19:=by kernel_rfl
  i0:=by kernel_rfl
  i2:=by kernel_rfl
  i3:=by kernel_rfl
  i4:=by kernel_rfl
  i5:=by kernel_rfl
  i9:=by kernel_rfl
  i20:=by kernel_rfl
  i37:=by kernel_rfl
  i46:=by kernel_rfl
  i51:=by kernel_rfl
  i53:=by kernel_rfl
  i171:=by kernel_rfl
  i173:=by kernel_rfl
  i212:=by kernel_rfl
  i232:=by kernel_rfl
  i233:=by kernel_rfl
  m17:=by kernel_rfl
  m18:=by kernel_rfl
  m19:=by kernel_rfl }
open Go.RowKit Go.Sort Go.Lib in
theorem Tryz.strconv_Itoa(n:Int)(h0:-9223372036854775808≤n)(h1:n≤9223372036854775807)(w:World)(htab:Lib.TabIs Tryz.prog w "internal/strconv.uint64pow10" .u64 Lib.pow10Tab) :
 Calls Tryz.prog 60 #[.int .i64 n] w fun e w'=>e=.returned (.string ⟨(Lib.itoa n).toArray⟩)∧∃k os,w'=grow (w.drewN k) os:=Any.strconv_Itoa Tryz.laysM171 n h0 h1 w htab
end Go.Proofs
namespace Go.Proofs.YtdbfmikeaoaebaaGreatDoor
open Go.RowKit Go.Sort Go.Shelf
variable {B:Nat} {v:Value} {w w':World}
theorem qd(w:World)(k:Nat)(os:Array Obj):Below w.heap.size w (grow (w.drewN k) os):=by
 refine⟨rfl,rfl,rfl,by simp [grow,World.drewN],fun i hi=>?_⟩;simp only [grow];rw [Array.getElem?_append_left (by simpa [World.drewN] using hi)];rfl
def Vars(w:World):Prop:=ErrVar w∧Lib.TabIs Tryz.prog w "internal/strconv.uint64pow10" .u64 Lib.pow10Tab∧1<w.heap.size
theorem Vars.below(hB:w.heap.size≤B)(hb:Below B w w')(h:Vars w):Vars w' :=
 ⟨h.1.below hB hb,var?_below hb (g:=1) (by kernel_rfl) (Nat.lt_of_lt_of_le h.2.2 hB) h.2.1,Nat.lt_of_lt_of_le h.2.2 hb.size⟩
theorem J9t:((List.range 2000).all fun (n:Nat)=>decide ((Lib.itoa (n:Int)).length≤100))=true:=by kernel_rfl
theorem itoa_any(k:Nat)(hk:k<2000)(w:World)(hv:Vars w):Calls Tryz.prog 60 #[.int .i64 k] w fun e w'=>∃s:ByteArray,e=.returned (.string s)∧s.size≤100∧Below w.heap.size w w':=by
 refine (Tryz.strconv_Itoa k (by omega) (by omega) w hv.2.1).mono ?_;rintro e w' ⟨rfl,q,os,rfl⟩;refine⟨_,rfl,?_,qd w q os⟩;have:=List.all_eq_true.1 J9t k (List.mem_range.2 hk);simpa [ByteArray.size] using of_decide_eq_true this
def Fault(w:World)(n:Int)(v:Value):Prop:=∃T d t ts,v=.iface T d∧Chain w n (t::ts) (.iface T d)
theorem Fault.below{n:Int}(h:Fault w n v)(hb:Below w.heap.size w w'):Fault w' n v:=by
 obtain⟨T,d,t,ts,e,hc⟩:=h;exact⟨T,d,t,ts,e,hc.below Zy hb⟩
theorem Fault.shape{n:Int}(h:Fault w n v):∃T d,v=.iface T d:=let ⟨T,d,_,_,e,_⟩:=h;⟨T,d,e⟩
theorem QM(n:Int)(hn:(n == 0)=false)(s:ByteArray)(w:World):Calls Tryz.prog 56 #[.int .i64 n,.string s] w fun e w'=>∃v,e=.returned v∧Fault w' n v∧Below w.heap.size w w' :=
 (Qf n s w hn).mono fun e w' ⟨v,h1,h2,h3⟩=>by
  obtain⟨T,d,rfl⟩:=h2.shape;exact⟨_,h1,⟨T,d,_,_,rfl,h2⟩,h3⟩
theorem Xj(n:Int)(v:Value)(s:ByteArray)(w:World)(h:Fault w n v):Calls Tryz.prog 59 #[v,.string s] w fun e w'=>∃u,e=.returned u∧Fault w' n u∧Below w.heap.size w w':=by
 obtain⟨T,d,t,ts,rfl,hc⟩:=h;exact (XT (.iface T d) n t ts s w hc).mono fun e w' ⟨v,h1,h2,h3⟩=>by
  obtain⟨T,d,rfl⟩:=h2.shape;exact⟨_,h1,⟨T,d,_,_,rfl,h2⟩,h3⟩
theorem J9u(n:Int)(v:Value)(w:World)(hg:Vars w)(h:Fault w n v):Calls Tryz.prog 36 #[v] w (Zr w (.int .i64 n)):=by
 obtain⟨T,d,t,ts,rfl,hc⟩:=h;exact J1x n (t::ts) T d w hg.1 hc
variable {P:Program} {i:Nat} {l:List Int}
theorem YP{a b:Bool}(h:a=b):Ending.returned (.bool a)=Ending.returned (.bool b):=congrArg (fun v=>Ending.returned (.bool v)) h
instance (g:Pl.Gm):Decidable g.Ok:=by unfold Pl.Gm.Ok;exact inferInstance
structure Ja where
 seg:Int
 off:Int
 seq:Int
 free:List Int
def Xk(g:Pl.Gm)(s:Int):Bool:=decide (0≤s)&&decide (s<g.s)
def okAt(g:Pl.Gm)(seg:Int)(l:List Int)(i:Nat):Bool:=Xk g (l.getD i 0)&&!decide (l.getD i 0=seg)&&(decide (i=0)||decide (l.getD (i-1) 0<l.getD i 0))
def KF(g:Pl.Gm)(seg:Int)(l:List Int):Bool:=(List.range l.length).all fun i=>okAt g seg l i
def Ja.good(g:Pl.Gm)(a:Ja):Bool:=decide g.Ok&&Xk g a.seg&&decide (0≤a.off)&&decide (a.off≤g.l)&&KF g a.seg a.free
theorem qe{g:Pl.Gm}{seg:Int}(h:∀i,i<l.length→okAt g seg l i=true):KF g seg l=true:=List.all_eq_true.2 fun i hi=>h i (List.mem_range.1 hi)
theorem jx{g:Pl.Gm}{seg:Int}(hi:i<l.length)(h:okAt g seg l i=false):KF g seg l=false:=by
 rw [←Bool.not_eq_true];intro hn;have:=List.all_eq_true.1 hn i (List.mem_range.2 hi);rw [h] at this;cases this
theorem QN{g:Pl.Gm}{seg:Int}(h:KF g seg l=true)(i:Nat)(hi:i<l.length):okAt g seg l i=true:=List.all_eq_true.1 h i (List.mem_range.2 hi)
theorem xg(g:Pl.Gm)(n:Int)(w:World):Calls Tryz.prog 107 #[g.v,.int .i64 n] w (Zr w (.bool (Xk g n))):=by
 obtain⟨p,s,l,f⟩:=g;have HB:=Zh fun (o:Obj)=>(Below.refl w.heap.size w).alloc Zy o;unfold Xk;simp only
 by_cases h0:0≤n
 · by_cases h1:n<s
   · rw [decide_eq_true h0,decide_eq_true h1];go_enter Tryz.func107,Tryz.ntmps107
     go_wp2_with fail
     go_ret;exact⟨rfl,HB.out _⟩
   · rw [decide_eq_true h0,decide_eq_false h1];go_enter Tryz.func107,Tryz.ntmps107
     go_wp2_with fail
     go_ret;exact⟨rfl,HB.out _⟩
 · rw [decide_eq_false h0];go_enter Tryz.func107,Tryz.ntmps107
   go_wp2_with fail
   go_ret;exact⟨rfl,HB.out _⟩
theorem zu(w:World)(d:Nat)(t e:TypeId)(a:Addr)(l c:Nat)(h:P.underlying t=some (.slice e)):(Op.equalIn (d+1) t (.slice (some a) l c) (.slice none 0 0)).run P w=.ok false w:=by
 simp [Op.equalIn,run_underlying h]
theorem y8(w:World)(d:Nat)(t e:TypeId)(l c:Nat)(h:P.underlying t=some (.slice e)):(Op.equalIn (d+1) t (.slice none l c) (.slice none 0 0)).run P w=.ok true w:=by
 simp [Op.equalIn,run_underlying h]
theorem J5z(w:World)(l c:Nat):(binOp .eql 41 (.slice none l c) (.slice none 0 0)).run Tryz.prog w=.ok (.bool true) w:=by
 have h:(Op.equal 41 (.slice none l c) (.slice none 0 0)).run Tryz.prog w=.ok true w:=y8 w 9999 41 3 l c Tryz.underlying41;simp [binOp,h]
theorem J9v(w:World)(a:Addr)(l c:Nat):(binOp .eql 41 (.slice (some a) l c) (.slice none 0 0)).run Tryz.prog w=.ok (.bool false) w:=by
 have h:(Op.equal 41 (.slice (some a) l c) (.slice none 0 0)).run Tryz.prog w=.ok false w:=zu w 9999 41 3 a l c Tryz.underlying41;simp [binOp,h]
theorem xh(l:List Int)(hn:l.length≤1000000)(sv:Value)(w:World)(h:IntsAt w sv l):Calls Tryz.prog 74 #[sv] w fun r w'=>∃tv,r=.returned tv∧OwnN w' w.heap.size tv l∧Below w.heap.size w w':=by
 obtain⟨a,c,rfl,hc⟩:=id h;cases a with
 | none =>
  have hl:l=[]:=by
   cases l with
   | nil=>rfl
   | cons x r=>obtain⟨b,o,hx,-⟩:=hc 0 x rfl;cases hx
  subst hl;have HO:=Zh (OwnN.nil w w.heap.size);have hq:=fun w=>J5z w 0 c;clear hc h;simp only [List.length_nil];go_enter Tryz.func74,Tryz.ntmps74
  go_wp2_with fail
  go_ret;exact⟨_,rfl,HO.out,Below.refl _ _⟩
 | some b =>
  obtain⟨n,hnn⟩:∃n,l.length=n:=⟨_,rfl⟩
  rw [hnn] at h hn ⊢;have HN:=Zh hnn;have HY:=Zh h;have hq:=fun w=>J9v w b n c;clear hc h hnn;go_enter Tryz.func74,Tryz.ntmps74;go_upto_region 3 with fail;refine Zl ?_;refine Jo (.slice (some ⟨w.heap.size,0,none⟩) 0 0) (w.alloc (.cells #[] 3)) rfl (by go_simp) ?_;refine nm ?_;have hb1:=(Below.refl w.heap.size w).alloc Zy (.cells #[] 3);have hO:=OwnN.lit w w.heap.size Zy [] (by simp) #[] rfl;refine tk (.slice (some b) n c) ?_;refine xU hO hb1.size (HY.below hb1) (by rw [HN.out];simp only [List.length_nil];omega) rfl rfl rfl ?_;intro tv w3 ho hg;refine nm ?_;rw [List.nil_append] at ho;have HO:=Zh ho;have HB:=Zh (hb1.trans (Kq hg hb1.size fun k hk=>(hO.lt k hk).1));obtain⟨ta,tc,htv⟩:=ho.ints.form;rw [HN.out] at htv;subst htv;clear hb1 hO ho hg;refine tk (.slice ta n tc) ?_;go_wp2_with fail
  go_ret;exact⟨_,rfl,HO.out,HB.out⟩
theorem qS(g:Pl.Gm)(a:Ja)(fv:Value)(n:Nat)(hn:a.free.length=n)(hbig:n≤9223372036854775807)(w:World)(h:IntsAt w fv a.free):Calls Tryz.prog 108 #[g.v,.agg #[.int .i64 a.seg,.int .i64 a.off,.int .u32 a.seq,fv]] w (Zr w (.bool (KF g a.seg a.free))):=by
 obtain⟨seg,off,seq,l⟩:=a;simp only at hn h ⊢;obtain⟨fa,fc,rfl,hc⟩:=id h;rw [hn] at h ⊢;have HC:=Zh hc;have HN:=Zh hn;have HIS:=Zh fun (x:Int) w=>xg g x w;obtain⟨p,s,sl,f⟩:=g;have HG1:Hid (∀wr,Below (w.heap.size+2) (((w.alloc (.cells #[.int .i64 p,.int .i64 s,.int .i64 sl,.int .i64 f] 23)).alloc (.cells #[.int .i64 seg,.int .i64 off,.int .u32 seq,.slice fa n fc] 58))) wr →
  Below w.heap.size w wr∧Blk wr w.heap.size [.int .i64 p,.int .i64 s,.int .i64 sl,.int .i64 f]∧Blk wr (w.heap.size+1) [.int .i64 seg,.int .i64 off,.int .u32 seq,.slice fa n fc]):=Zh (fun wr hb=>by
   have h1:=Blk.new w #[.int .i64 p,.int .i64 s,.int .i64 sl,.int .i64 f] 23
   have h2:=Blk.new (w.alloc (.cells #[.int .i64 p,.int .i64 s,.int .i64 sl,.int .i64 f] 23)) #[.int .i64 seg,.int .i64 off,.int .u32 seq,.slice fa n fc] 58
   have e:(w.alloc (.cells #[.int .i64 p,.int .i64 s,.int .i64 sl,.int .i64 f] 23)).heap.size=w.heap.size+1:=by simp
   rw [e] at h2
   refine⟨(((Below.refl w.heap.size w).alloc Zy _).alloc (by simp) _).trans (hb.mono (by omega)),(h1.alloc _).below hb (by omega),h2.below hb (by omega)⟩)
 have HS2:Hid (((w.alloc (.cells #[.int .i64 p,.int .i64 s,.int .i64 sl,.int .i64 f] 23)).alloc (.cells #[.int .i64 seg,.int .i64 off,.int .u32 seq,.slice fa n fc] 58)).heap.size=w.heap.size+2):=Zh (by simp);have hlen:(n:Int)≤9223372036854775807:=by omega
 clear hc h hn hbig;go_enter Tryz.func108,Tryz.ntmps108
 go_wp2_with fail
 generalize (w.alloc (.cells #[.int .i64 p,.int .i64 s,.int .i64 sl,.int .i64 f] 23)).alloc (.cells #[.int .i64 seg,.int .i64 off,.int .u32 seq,.slice fa n fc] 58)=w2 at *
 go_loopg [10] n (fun q i wr=>∃k:Nat,n-k≤q∧k≤n∧i=.int .i64 k∧(∀j,j<k→okAt ⟨p,s,sl,f⟩ seg l j=true)∧Below (w.heap.size+2) w2 wr)
 case atStart=>exact⟨0,by omega,by omega,rfl,fun j hj=>by omega,Below.refl _ _⟩
 case round =>
  obtain⟨k,hq,hk,rfl,hall,hb⟩:=hrel;have HAL:=Zh hall;have HB:=Zh hb;obtain⟨hB0,hg0,ha0⟩:=HG1.out wr hb;have HB0:=Zh hB0;clear hall hb hB0
  by_cases hkn:k<n
  · have gk:decide ((k:Int)<(n:Int))=true:=decide_eq_true (by omega);have hk0:(k:Int)<(n:Int):=by omega
    obtain⟨x,hx⟩:∃x,l[k]? = some x:=⟨_,List.getElem?_eq_getElem (by have:=HN.out;omega)⟩
    obtain⟨b,o,rfl,cx0⟩:=HC.out k x hx;have HX:=Zh hx;have cx:=(HB0.cell (block_lt_of_cell cx0)).trans cx0;have HXD:Hid (l.getD k 0=x):=Zh (by simp [hx]);have HLK:Hid (k<l.length):=Zh (by have:=HN.out;omega);have g0:=hg0.cell (i:=0) rfl;have g1:=hg0.cell (i:=1) rfl;have g2:=hg0.cell (i:=2) rfl;have g3:=hg0.cell (i:=3) rfl;have a0:=ha0.cell (i:=0) rfl;clear hx cx0
    go_wp2_with fail
    refine (HIS.out x _).mono ?_;rintro e w3 ⟨rfl,hb3⟩;have HB3:Hid (Below (w.heap.size+2) w2 w3):=Zh (HB.trans (hb3.mono (by have:=HB.size;have:=HS2.out;omega)));obtain⟨hB0',hg0',ha0'⟩:=HG1.out w3 HB3.out;have HB4:=Zh hB0';clear g0 g1 g2 g3 a0 cx hb3 hB0';have a0:=ha0'.cell (i:=0) rfl;have a3:=ha0'.cell (i:=3) rfl;cases hi:Xk ⟨p,s,sl,f⟩ x
    · have HNO:Hid (KF ⟨p,s,sl,f⟩ seg l=false):=Zh (jx HLK.out (by unfold okAt;rw [HXD.out,hi];rfl))
      go_wp2_with fail
      go_ret;exact⟨YP HNO.symm,HB4.out⟩
    by_cases hxs:x=seg
    · have HNO:Hid (KF ⟨p,s,sl,f⟩ seg l=false):=Zh (jx HLK.out (by unfold okAt;rw [HXD.out,decide_eq_true hxs];simp));have hxb:(x == seg)=true:=by simp [hxs]
      clear hxs
      go_wp2_with fail
      go_ret;exact⟨YP HNO.symm,HB4.out⟩
    have HXS:=Zh hxs;have hxb:(x == seg)=false:=by simp [hxs]
    clear hxs
    by_cases hk1:k=0
    · have HST:Hid (∀j,j<k+1→okAt ⟨p,s,sl,f⟩ seg l j=true):=Zh (fun j hj=>by
       by_cases h:j<k
       · exact HAL.out j h
       · obtain rfl:j=k:=by omega
         unfold okAt
         rw [HXD.out,hi,decide_eq_false HXS.out,decide_eq_true hk1]
         rfl)
      have gz:decide (0<(k:Int))=false:=decide_eq_false (by omega);have gz2:decide (0<k)=false:=decide_eq_false (by omega);have gz3:¬0<k:=by omega
      clear hk1 hi
      go_wp2_with fail
      go_roundg (n-(k+1))
      case measure=>omega
      case rel=>exact⟨k+1,by omega,by omega,by go_num,HST.out,HB3.out⟩
    · have gz:decide (0<(k:Int))=true:=decide_eq_true (by omega);have hk2:(0:Int)≤(k:Int)-1:=by omega
      have hk3:(k:Int)-1<(n:Int):=by omega
      obtain⟨y,hy⟩:∃y,l[k-1]? = some y:=⟨_,List.getElem?_eq_getElem (by have:=HN.out;omega)⟩
      obtain⟨b',o',hbo,cy0⟩:=HC.out (k-1) y hy;cases hbo;have cy:=(HB4.cell (block_lt_of_cell cy0)).trans cy0;have HYD:Hid (l.getD (k-1) 0=y):=Zh (by simp [hy]);obtain⟨m,hm⟩:∃m,k=m+1:=⟨k-1,by omega⟩
      subst hm;rw [show m+1-1=m from rfl] at cy HYD;clear hy cy0 hk2 hk3;have hk2:((m+1:Nat):Int)-1=(m:Int):=by omega
      have hm0:(m:Int)<(n:Int):=by omega
      have HK1:=Zh hk1;clear hk1
      by_cases hyx:y<x
      · have HST:Hid (∀j,j<m+1+1→okAt ⟨p,s,sl,f⟩ seg l j=true):=Zh (fun j hj=>by
         by_cases h:j<m+1
         · exact HAL.out j h
         · obtain rfl:j=m+1:=by omega
           unfold okAt
           rw [HXD.out,hi,decide_eq_false HXS.out,show m+1-1=m from rfl,HYD.out,decide_eq_true hyx]
           simp)
        have gy:decide (x≤y)=false:=decide_eq_false (by omega);clear hyx hi
        go_wp2_with fail
        go_roundg (n-(m+1+1))
        case measure=>omega
        case rel=>exact⟨m+1+1,by omega,by omega,by go_num,HST.out,HB3.out⟩
      · have HNO:Hid (KF ⟨p,s,sl,f⟩ seg l=false):=Zh (jx HLK.out (by unfold okAt;rw [HXD.out,show m+1-1=m from rfl,HYD.out,decide_eq_false hyx];simp));have gy:decide (x≤y)=true:=decide_eq_true (by omega);clear hyx hi
        go_wp2_with fail
        go_ret;exact⟨YP HNO.symm,HB4.out⟩
  · obtain rfl:k=n:=by omega
    have HYES:Hid (KF ⟨p,s,sl,f⟩ seg l=true):=Zh (qe fun i hi=>HAL.out i (by have:=HN.out;omega));have gk:decide ((k:Int)<(k:Int))=false:=decide_eq_false (by omega)
    go_wp2_with fail
    go_ret;exact⟨YP HYES.symm,HB0.out⟩
theorem Blk.rowOther{w:World}{b:Nat}{l:List Value}(h:Blk w b l){g:Nat}(hne:b≠g)(cs:Array Value):Blk (w.setRow g cs) b l :=
 h.of_block (setRow_other w g b cs hne)
theorem Only.of_below{S:Nat→Prop}{a b:World}(h:Below a.heap.size a b):Only S a b:=⟨h.os,h.tape,h.output,h.size,fun i hi _=>h.block i hi⟩
variable {S:Nat→Prop} {b i j k:Nat} {cs:Array Value} {w w':World}
namespace De
structure Sec (cs:Array Value):Prop where
 size:cs.size=64
 byte:∀v∈cs,∃m,v=.int .u8 m
theorem Sec.one(h:Sec cs):∀v∈cs,v.oneCell'=true:=fun v hv=>by obtain⟨m,rfl⟩:=h.byte v hv;rfl
def JM(v:Int):Array Value:=Array.replicate 64 (.int .u8 v)
theorem xi(v:Int):Sec (JM v):=⟨by simp [JM],fun x hx=>⟨v,by simp [JM] at hx;exact hx⟩⟩
def I64(n:Int):Prop:=-9223372036854775808≤n∧n≤9223372036854775807
structure D where
 S:List (Array Value)
 L:List (Nat×Array Value)
 F:Int
 T:Nat
def app(S:List (Array Value))(L:List (Nat×Array Value)):List (Array Value):=L.foldl (fun S p=>S.set p.1 p.2) S
@[simp] theorem qf(S:List (Array Value))(L:List (Nat×Array Value)):(app S L).length=S.length:=by
 unfold app
 induction L generalizing S with
 | nil=>rfl
 | cons p L ih=>simp [ih]
theorem ZU(S:List (Array Value))(L:List (Nat×Array Value))(p:Nat×Array Value):app S (L++[p])=(app S L).set p.1 p.2:=by simp [app]
theorem J9w(S:List (Array Value))(L:List (Nat×Array Value))(i:Nat)(h:∀p∈L,p.1≠i):(app S L)[i]? = S[i]? := by
 unfold app
 induction L generalizing S with
 | nil=>rfl
 | cons p L ih =>
  simp only [List.foldl_cons];rw [ih _ fun q hq=>h q (by simp [hq])];exact List.getElem?_set_ne (h p (by simp))
theorem y9{S:List (Array Value)}{L:List (Nat×Array Value)}(hS:∀s∈S,Sec s)(hL:∀p∈L,Sec p.2):∀s∈app S L,Sec s:=by
 unfold app
 induction L generalizing S with
 | nil=>exact hS
 | cons p L ih =>
  simp only [List.foldl_cons];refine ih (fun s hs=>?_) fun q hq=>hL q (by simp [hq]);rcases List.mem_or_eq_of_mem_set hs with h|rfl
  · exact hS s h
  · exact hL p (by simp)
def K4(L:List (Nat×Array Value))(kp:Nat→Bool):Nat→List (Nat×Array Value)
 | 0=>[]
 | k+1=>match L[k]? with
  | some p=>if kp k then K4 L kp k++[p] else K4 L kp k
  | none=>K4 L kp k
theorem qg{L:List (Nat×Array Value)}{kp:Nat→Bool}{p:Nat×Array Value}(h:L[k]? = some p)(hk:kp k=true):K4 L kp (k+1)=K4 L kp k++[p]:=by simp [K4,h,hk]
theorem J60{L:List (Nat×Array Value)}{kp:Nat→Bool}(hk:kp k=false):K4 L kp (k+1)=K4 L kp k:=by
 simp only [K4,hk];split <;> rfl
theorem qh(L:List (Nat×Array Value)):∀k,k≤L.length→K4 L (fun _=>true) k=L.take k
 | 0,_=>by simp [K4]
 | k+1,h=>by
  have hk:L[k]? = some L[k]:=List.getElem?_eq_getElem (by omega);rw [qg hk rfl,qh L k (by omega),List.take_succ_eq_append_getElem (by omega)]
theorem Xl{L:List (Nat×Array Value)}{kp:Nat→Bool}:∀{k:Nat} {p:Nat×Array Value},p∈K4 L kp k→p∈L
 | k+1,p,h=>by
  simp only [K4] at h;split at h
  · rename_i q hq
    split at h
    · simp only [List.mem_append,List.mem_singleton] at h;rcases h with h|rfl
      · exact Xl h
      · exact List.mem_of_getElem? hq
    · exact Xl h
  · exact Xl h
def D.has(d:D)(i:Int):Bool:=decide (0≤i)&&decide (i<d.S.length)
def D.nextF(d:D):Int:=if d.F<0 then d.F else d.F-1
def D.write(d:D)(i:Int)(s:Array Value):D:=if d.has i then (if d.F=0 then { d with F:=-1 } else { d with F:=d.nextF,T:=d.T+1,L:=d.L++[(i.toNat,s)] }) else d
def D.writeE(d:D)(i:Int):Int:=if d.has i then (if d.F=0 then 12 else 0) else 1
def D.flush(d:D):D:=if d.F=0 then { d with F:=-1 } else { d with F:=d.nextF,T:=d.T+1,S:=app d.S d.L,L:=[] }
def D.flushE(d:D):Int:=if d.F=0 then 12 else 0
def D.read(d:D)(i:Int):Array Value:=if d.has i then (app d.S d.L).getD i.toNat (JM 0) else JM 0
def D.readE(d:D)(i:Int):Int:=if d.has i then 0 else 1
def Ki(n:Nat):D:=⟨List.replicate n (JM 0),[],-1,0⟩
def flat(S:List (Array Value)):List Value:=S.flatMap (·.toList)
def Xm(L:List (Nat×Array Value)):List Value:=L.flatMap fun p=>.int .i64 p.1::p.2.toList
theorem flat_length{S:List (Array Value)}(h:∀s∈S,Sec s):(flat S).length=S.length*64:=by
 induction S with
 | nil=>rfl
 | cons s S ih =>
  have:=ih fun t ht=>h t (by simp [ht]);have h1:=(h s (by simp)).size;simp only [flat,List.flatMap_cons,List.length_append,List.length_cons] at this ⊢;simp only [Array.length_toList];omega
theorem Jdo{S:List (Array Value)}(h:∀s∈S,Sec s){s:Array Value}(hi:S[i]? = some s)(hj:j<64):(flat S)[i*64+j]? = s[j]? := by
 induction S generalizing i with
 | nil=>simp at hi
 | cons t S ih =>
  have h1:=(h t (by simp)).size;cases i with
  | zero =>
   simp only [List.getElem?_cons_zero,Option.some.injEq] at hi;subst hi;simp only [flat,List.flatMap_cons,Nat.zero_mul,Nat.zero_add];rw [List.getElem?_append_left (by simp;omega)];simp
  | succ i =>
   simp only [List.getElem?_cons_succ] at hi;have:=ih (fun t ht=>h t (by simp [ht])) hi;simp only [flat,List.flatMap_cons] at this ⊢;rw [List.getElem?_append_right (by simp;omega),←this];congr 1;simp;omega
theorem zv{S:List (Array Value)}(h:∀s∈S,Sec s)(hi:i<S.length){s:Array Value}(hs:Sec s):(Jt (flat S) (i*64) s).toList=flat (S.set i s):=by
 induction S generalizing i with
 | nil=>simp at hi
 | cons t S ih =>
  have h1:=(h t (by simp)).size;have h2:=hs.size;cases i with
  | zero =>
   simp only [Jt,flat,List.flatMap_cons,List.set_cons_zero,Nat.zero_mul,List.take_zero,List.nil_append,Nat.zero_add];rw [List.drop_append_of_le_length (by simp;omega),List.drop_of_length_le (by simp;omega)];simp
  | succ i =>
   have:=ih (fun t ht=>h t (by simp [ht])) (by simpa using hi);simp only [Jt,flat,List.flatMap_cons,List.set_cons_succ] at this ⊢;rw [←this];have e1:(t.toList++List.flatMap (fun x=>x.toList) S).take ((i+1)*64)=t.toList++(List.flatMap (fun x=>x.toList) S).take (i*64):=by
    rw [List.take_append];rw [List.take_of_length_le (by simp;omega)];congr 2;simp;omega
   have e2:(t.toList++List.flatMap (fun x=>x.toList) S).drop ((i+1)*64+s.size)=(List.flatMap (fun x=>x.toList) S).drop (i*64+s.size):=by
    rw [List.drop_append];rw [List.drop_of_length_le (by simp;omega)];simp only [List.nil_append];congr 1;simp;omega
   simp [e1,e2]
theorem zw{L:List (Nat×Array Value)}(h:∀p∈L,Sec p.2){p:Nat×Array Value}(hi:L[i]? = some p)(hj:j<65):(Xm L)[i*65+j]? = (Value.int .i64 p.1::p.2.toList)[j]? := by
 induction L generalizing i with
 | nil=>simp at hi
 | cons t S ih =>
  have h1:=(h t (by simp)).size;cases i with
  | zero =>
   simp only [List.getElem?_cons_zero,Option.some.injEq] at hi;subst hi;simp only [Xm,List.flatMap_cons,Nat.zero_mul,Nat.zero_add];rw [List.getElem?_append_left (by simp;omega)]
  | succ i =>
   simp only [List.getElem?_cons_succ] at hi;have:=ih (fun t ht=>h t (by simp [ht])) hi;simp only [Xm,List.flatMap_cons] at this ⊢;rw [List.getElem?_append_right (by simp;omega),←this];congr 1;simp;omega
theorem J1y(L:List (Nat×Array Value))(p:Nat×Array Value):Xm (L++[p])=Xm L++(.int .i64 p.1::p.2.toList):=by simp [Xm]
structure Addrs where
 b:Nat
 sb:Nat
 nb:Nat
 lv:Value
def Addrs.foot(A:Addrs)(k:Nat):Prop:=k=A.b∨k=A.sb∨k=A.nb∨A.lv.ownBlock=some k
def LastOk(L:List (Nat×Array Value))(N:List Nat):Prop :=
 ∀i n,N[i]? = some n→(n=0∧∀p∈L,p.1≠i)∨(0<n∧∃s,L[n-1]? = some (i,s)∧∀S:List (Array Value),i<S.length→(app S L)[i]? = some s)
structure DevIs (w:World) (base:Nat) (A:Addrs) (d:D) (N:List Nat):Prop where
 blk:Blk w A.b [.slice (some ⟨A.sb,0,none⟩) d.S.length d.S.length,A.lv,.slice (some ⟨A.nb,0,none⟩) d.S.length d.S.length,.int .i64 d.F,.int .i64 d.T]
 sec:Blk w A.sb (flat d.S)
 last:Blk w A.nb (N.map fun (n:Nat)=>Value.int .i64 (n:Int))
 own:w.ownsRow base 113 65 A.lv d.L.length (Xm d.L)
 hS:∀s∈d.S,Sec s
 hL:∀p∈d.L,Sec p.2∧p.1<d.S.length
 hN:N.length=d.S.length
 ok:LastOk d.L N
 n1:A.b≠A.sb
 n2:A.b≠A.nb
 n3:A.sb≠A.nb
 o1:A.lv.ownBlock≠some A.b
 o2:A.lv.ownBlock≠some A.sb
 o3:A.lv.ownBlock≠some A.nb
 b1:base≤A.b
 b2:base≤A.sb
 b3:base≤A.nb
 len:d.S.length≤1024
 f:I64 d.F
def DevAt(w:World)(base:Nat)(A:Addrs)(d:D):Prop:=∃N,DevIs w base A d N
theorem DevIs.lvShape{base:Nat}{A:Addrs}{d:D}{N:List Nat}(h:DevIs w base A d N):∃a cap,A.lv=.slice a d.L.length cap:=by
 rcases h.own.2 with ⟨e,e2⟩|⟨g,cap,cur,e,_⟩
 · exact⟨none,0,by rw [e,e2]⟩
 · exact⟨_,_,e⟩
theorem DevIs.c0{base:Nat}{A:Addrs}{d:D}{N:List Nat}(h:DevIs w base A d N):w.cell? ⟨A.b,0,none⟩=some (.slice (some ⟨A.sb,0,none⟩) d.S.length d.S.length):=h.blk.cell rfl
theorem DevIs.c1{base:Nat}{A:Addrs}{d:D}{N:List Nat}(h:DevIs w base A d N):w.cell? ⟨A.b,1,none⟩=some A.lv:=h.blk.cell rfl
theorem DevIs.c2{base:Nat}{A:Addrs}{d:D}{N:List Nat}(h:DevIs w base A d N):w.cell? ⟨A.b,2,none⟩=some (.slice (some ⟨A.nb,0,none⟩) d.S.length d.S.length):=h.blk.cell rfl
theorem DevIs.c3{base:Nat}{A:Addrs}{d:D}{N:List Nat}(h:DevIs w base A d N):w.cell? ⟨A.b,3,none⟩=some (.int .i64 d.F):=h.blk.cell rfl
theorem DevIs.c4{base:Nat}{A:Addrs}{d:D}{N:List Nat}(h:DevIs w base A d N):w.cell? ⟨A.b,4,none⟩=some (.int .i64 d.T):=h.blk.cell rfl
theorem DevIs.only{base:Nat}{A:Addrs}{d:D}{N:List Nat}(h:DevIs w base A d N)(ho:Only S w w')(hS:∀k,A.foot k→¬S k):DevIs w' base A d N :=
  { h with
    blk:=h.blk.only ho (hS _ (.inl rfl)),sec:=h.sec.only ho (hS _ (.inr (.inl rfl))),last:=h.last.only ho (hS _ (.inr (.inr (.inl rfl))))
    own:=by
      refine⟨h.own.1,?_⟩
      rcases h.own.2 with hn|⟨g,cap,cur,e,hb,hg,r⟩
      · exact .inl hn
      · exact .inr ⟨g,cap,cur,e,hb,(ho.block g (Array.getElem?_eq_some_iff.1 hg).1 (hS g (.inr (.inr (.inr (by rw [e];rfl)))))).trans hg,r⟩ }
theorem DevAt.only{base:Nat}{A:Addrs}{d:D}(h:DevAt w base A d)(ho:Only S w w')(hS:∀k,A.foot k→¬S k):DevAt w' base A d :=
 let ⟨N,h⟩:=h
 ⟨N,h.only ho hS⟩
theorem DevIs.foot_lt{base:Nat}{A:Addrs}{d:D}{N:List Nat}(h:DevIs w base A d N):∀k,A.foot k→base≤k∧k<w.heap.size:=by
 rintro k (rfl|rfl|rfl|hk)
 · exact⟨h.b1,h.blk.lt⟩
 · exact⟨h.b2,h.sec.lt⟩
 · exact⟨h.b3,h.last.lt⟩
 · exact h.own.lt k hk
theorem DevAt.foot_lt{base:Nat}{A:Addrs}{d:D}(h:DevAt w base A d):∀k,A.foot k→base≤k∧k<w.heap.size:=let ⟨_,h⟩:=h;h.foot_lt
theorem DevIs.setF{base:Nat}{A:Addrs}{d:D}{N:List Nat}(h:DevIs w base A d N){f:Int}(hf:I64 f):DevIs (w.setCell ⟨A.b,3,none⟩ (.int .i64 f)) base A { d with F:=f } N :=
  { h with
    blk:=h.blk.set 3 (.int .i64 f),sec:=h.sec.setOther h.n1.symm _,last:=h.last.setOther h.n2.symm _,f:=hf
    own:=by
      refine⟨h.own.1,?_⟩
      rcases h.own.2 with hn|⟨g,cap,cur,e,hb,hg,r⟩
      · exact .inl hn
      · have hne:g≠A.b:=fun hgb=>h.o1 (by rw [e,←hgb];rfl)
        exact .inr ⟨g,cap,cur,e,hb,(heap_setCell_other w ⟨A.b,3,none⟩ g _ hne).trans hg,r⟩ }
theorem DevIs.setT{base:Nat}{A:Addrs}{d:D}{N:List Nat}(h:DevIs w base A d N)(t:Nat):DevIs (w.setCell ⟨A.b,4,none⟩ (.int .i64 t)) base A { d with T:=t } N :=
  { h with
    blk:=h.blk.set 4 (.int .i64 t),sec:=h.sec.setOther h.n1.symm _,last:=h.last.setOther h.n2.symm _
    own:=by
      refine⟨h.own.1,?_⟩
      rcases h.own.2 with hn|⟨g,cap,cur,e,hb,hg,r⟩
      · exact .inl hn
      · have hne:g≠A.b:=fun hgb=>h.o1 (by rw [e,←hgb];rfl)
        exact .inr ⟨g,cap,cur,e,hb,(heap_setCell_other w ⟨A.b,4,none⟩ g _ hne).trans hg,r⟩ }
theorem has_any(w:World)(base:Nat)(A:Addrs)(d:D)(h:DevAt w base A d)(i:Int):Calls Tryz.prog 53 #[.pointer (some ⟨A.b,0,none⟩),.int .i64 i] w fun e w'=>e=.returned (.bool (d.has i))∧w=w':=by
 obtain⟨N,h⟩:=h;have c0:=h.c0;have hl:=h.len;unfold D.has;clear h;generalize d.S.length=n at *
 by_cases h0:0≤i
 · by_cases h1:i<n
   · rw [show (decide (0≤i)&&decide (i<n))=true by simp [h0,h1]];go_enter Tryz.func53,Tryz.ntmps53
     go_wp2
     go_ret;exact⟨rfl,rfl⟩
   · rw [show (decide (0≤i)&&decide (i<n))=false by simp [h1]];go_enter Tryz.func53,Tryz.ntmps53
     go_wp2
     go_ret;exact⟨rfl,rfl⟩
 · rw [show (decide (0≤i)&&decide (i<n))=false by simp [h0]];go_enter Tryz.func53,Tryz.ntmps53
   go_wp2
   go_ret;exact⟨rfl,rfl⟩
theorem zx(w:World)(base:Nat)(A:Addrs)(d:D)(h:DevAt w base A d)(hf:d.F<0):Calls Tryz.prog 54 #[.pointer (some ⟨A.b,0,none⟩)] w fun e w'=>e=.returned (.bool false)∧w=w':=by
 obtain⟨N,h⟩:=h;have c3:=h.c3;clear h;generalize d.F=f at *;go_enter Tryz.func54,Tryz.ntmps54
 go_wp2
 go_ret;exact⟨rfl,rfl⟩
theorem qi(w:World)(base:Nat)(A:Addrs)(d:D)(h:DevAt w base A d)(hf:0≤d.F):Calls Tryz.prog 54 #[.pointer (some ⟨A.b,0,none⟩)] w fun e w'=>e=.returned (.bool (decide (d.F=0)))∧DevAt w' base A { d with F:=d.F-1 }∧Only A.foot w w':=by
 obtain⟨N,h⟩:=h;have c3:=h.c3;have hz:=h.blk.frozen 3;have hd:DevAt (w.setCell ⟨A.b,3,none⟩ (.int .i64 (d.F-1))) base A { d with F:=d.F-1 }:=⟨N,h.setF ⟨by omega,by have:=h.f.2;omega⟩⟩
 have ho:Only A.foot w (w.setCell ⟨A.b,3,none⟩ (.int .i64 (d.F-1))):=(Only.refl _ _).setCell (.inl (.inl rfl)) _;have hf2:=h.f.2;have HD:=Zh hd;have HO:=Zh ho;clear hd ho h;generalize d.F=f at *
 by_cases h0:f=0
 · subst h0;rw [show decide ((0:Int)=0)=true from rfl];go_enter Tryz.func54,Tryz.ntmps54
   go_wp2
   go_ret;exact⟨rfl,HD.out,HO.out⟩
 · rw [show decide (f=0)=false by simp [h0]];have e1:(f-1 == -1)=false:=beq_eq_false_iff_ne.2 (by omega);go_enter Tryz.func54,Tryz.ntmps54
   go_wp2
   go_ret;exact⟨rfl,HD.out,HO.out⟩
def Did(w:World)(base:Nat)(A:Addrs)(r:Value)(d:D)(e:Ending)(w':World):Prop :=
 ∃lv,e=.returned r∧DevAt w' base { A with lv:=lv } d∧Only A.foot w w'∧∀k,lv.ownBlock=some k→A.lv.ownBlock=some k∨w.heap.size≤k
theorem Did.same{base:Nat}{A:Addrs}{r:Value}{d:D}(h:DevAt w' base A d)(ho:Only A.foot w w'):Did w base A r d (.returned r) w':=⟨A.lv,rfl,h,ho,fun _ h=>.inl h⟩
theorem zy(d:D)(h:¬d.F<0):d.nextF=d.F-1:=by unfold D.nextF;rw [if_neg h]
theorem xj(d:D)(h:d.F<0):d.nextF=d.F:=by unfold D.nextF;rw [if_pos h]
def D.askE(d:D):Int:=if d.F=0 then 12 else 0
def D.ask(d:D):D:=if d.F=0 then { d with F:=-1 } else { d with F:=d.nextF,T:=d.T+1 }
theorem zz(w:World)(base:Nat)(A:Addrs)(d:D)(h:DevAt w base A d)(i:Int):Calls Tryz.prog 32 #[.pointer (some ⟨A.b,0,none⟩),.int .i64 0,.int .i64 i] w fun e w'=>e=.returned (.int .i64 (d.readE i))∧w=w':=by
 have H:=Zh (has_any w base A d h i);clear h;unfold D.readE;cases hh:d.has i
 all_goals
  rw [hh] at H;clear hh;go_enter Tryz.func32,Tryz.ntmps32
  go_wp2_with fail
  refine H.mono ?_;rintro e w' ⟨rfl,rfl⟩
  go_wp2_with fail
  go_ret;exact⟨rfl,rfl⟩
theorem xk(w:World)(base:Nat)(A:Addrs)(d:D)(h:DevAt w base A d)(hT:d.T≤1000000)(i:Int):Calls Tryz.prog 32 #[.pointer (some ⟨A.b,0,none⟩),.int .i64 2,.int .i64 i] w fun e w'=>e=.returned (.int .i64 d.askE)∧DevAt w' base A d.ask∧Only A.foot w w':=by
 unfold D.askE D.ask
 by_cases hn:d.F<0
 · have H:=Zh (zx w base A d h hn);obtain⟨N,h⟩:=h;have c4:=h.c4;have hz:=h.blk.frozen 4;have HD:=Zh (show DevAt (w.setCell ⟨A.b,4,none⟩ (.int .i64 ((d.T+1:Nat):Int))) base A { d with T:=d.T+1 } from ⟨N,h.setT (d.T+1)⟩);have HO:=Zh (show Only A.foot w (w.setCell ⟨A.b,4,none⟩ (.int .i64 ((d.T+1:Nat):Int))) from (Only.refl _ _).setCell (.inl (.inl rfl)) _);rw [if_neg (by omega),if_neg (by omega),xj d hn];clear h hn;go_enter Tryz.func32,Tryz.ntmps32
   go_wp2_with fail
   refine H.mono ?_;rintro e w' ⟨rfl,rfl⟩
   go_wp2_with fail
   go_ret;exact⟨rfl,HD.out,HO.out⟩
 · have H:=Zh (qi w base A d h (by omega));rw [zy d hn]
   by_cases h0:d.F=0
   · rw [if_pos h0,if_pos h0];rw [h0] at H;rw [show decide ((0:Int)=0)=true from rfl] at H;clear h h0 hn;go_enter Tryz.func32,Tryz.ntmps32
     go_wp2_with fail
     refine H.mono ?_;rintro e w' ⟨rfl,hd,ho⟩;have HD:=Zh hd;have HO:=Zh ho;clear hd ho
     go_wp2_with fail
     go_ret;exact⟨rfl,HD.out,HO.out⟩
   · rw [if_neg h0,if_neg h0];rw [show decide (d.F=0)=false by simp [h0]] at H;clear h h0 hn;go_enter Tryz.func32,Tryz.ntmps32
     go_wp2_with fail
     refine H.mono ?_;rintro e w' ⟨rfl,hd,ho⟩;obtain⟨N,h⟩:=hd;have c4:=h.c4;have hz:=h.blk.frozen 4;simp only at c4;have HD:=Zh (show DevAt (w'.setCell ⟨A.b,4,none⟩ (.int .i64 ((d.T+1:Nat):Int))) base A { d with F:=d.F-1,T:=d.T+1 } from ⟨N,h.setT (d.T+1)⟩);have HO:=Zh (show Only A.foot w (w'.setCell ⟨A.b,4,none⟩ (.int .i64 ((d.T+1:Nat):Int))) from ho.setCell (.inl (.inl rfl)) _);clear h ho
     go_wp2_with fail
     go_ret;exact⟨rfl,HD.out,HO.out⟩
theorem J61(w:World)(base:Nat)(A:Addrs)(d:D)(h:DevAt w base A d)(hT:d.T≤1000000)(i:Int)(hi:d.has i=true):Calls Tryz.prog 32 #[.pointer (some ⟨A.b,0,none⟩),.int .i64 1,.int .i64 i] w fun e w'=>e=.returned (.int .i64 d.askE)∧DevAt w' base A d.ask∧Only A.foot w w':=by
 have HH:=Zh (has_any w base A d h i);rw [hi] at HH;clear hi;unfold D.askE D.ask
 by_cases hn:d.F<0
 · have H:=Zh (zx w base A d h hn);obtain⟨N,h⟩:=h;have c4:=h.c4;have hz:=h.blk.frozen 4;have HD:=Zh (show DevAt (w.setCell ⟨A.b,4,none⟩ (.int .i64 ((d.T+1:Nat):Int))) base A { d with T:=d.T+1 } from ⟨N,h.setT (d.T+1)⟩);have HO:=Zh (show Only A.foot w (w.setCell ⟨A.b,4,none⟩ (.int .i64 ((d.T+1:Nat):Int))) from (Only.refl _ _).setCell (.inl (.inl rfl)) _);rw [if_neg (by omega),if_neg (by omega),xj d hn];clear h hn;go_enter Tryz.func32,Tryz.ntmps32
   go_wp2_with fail
   refine HH.mono ?_;rintro e w' ⟨rfl,rfl⟩
   go_wp2_with fail
   refine H.mono ?_;rintro e w' ⟨rfl,rfl⟩
   go_wp2_with fail
   go_ret;exact⟨rfl,HD.out,HO.out⟩
 · have H:=Zh (qi w base A d h (by omega));rw [zy d hn]
   by_cases h0:d.F=0
   · rw [if_pos h0,if_pos h0];rw [h0] at H;rw [show decide ((0:Int)=0)=true from rfl] at H;clear h h0 hn;go_enter Tryz.func32,Tryz.ntmps32
     go_wp2_with fail
     refine HH.mono ?_;rintro e w' ⟨rfl,rfl⟩
     go_wp2_with fail
     refine H.mono ?_;rintro e w' ⟨rfl,hd,ho⟩;have HD:=Zh hd;have HO:=Zh ho;clear hd ho
     go_wp2_with fail
     go_ret;exact⟨rfl,HD.out,HO.out⟩
   · rw [if_neg h0,if_neg h0];rw [show decide (d.F=0)=false by simp [h0]] at H;clear h h0 hn;go_enter Tryz.func32,Tryz.ntmps32
     go_wp2_with fail
     refine HH.mono ?_;rintro e w' ⟨rfl,rfl⟩
     go_wp2_with fail
     refine H.mono ?_;rintro e w' ⟨rfl,hd,ho⟩;obtain⟨N,h⟩:=hd;have c4:=h.c4;have hz:=h.blk.frozen 4;simp only at c4;have HD:=Zh (show DevAt (w'.setCell ⟨A.b,4,none⟩ (.int .i64 ((d.T+1:Nat):Int))) base A { d with F:=d.F-1,T:=d.T+1 } from ⟨N,h.setT (d.T+1)⟩);have HO:=Zh (show Only A.foot w (w'.setCell ⟨A.b,4,none⟩ (.int .i64 ((d.T+1:Nat):Int))) from ho.setCell (.inl (.inl rfl)) _);clear h ho
     go_wp2_with fail
     go_ret;exact⟨rfl,HD.out,HO.out⟩
theorem zA(w:World)(base:Nat)(A:Addrs)(d:D)(h:DevAt w base A d)(i:Int)(hi:d.has i=false):Calls Tryz.prog 32 #[.pointer (some ⟨A.b,0,none⟩),.int .i64 1,.int .i64 i] w fun e w'=>e=.returned (.int .i64 1)∧w=w':=by
 have HH:=Zh (has_any w base A d h i);rw [hi] at HH;clear hi h;go_enter Tryz.func32,Tryz.ntmps32
 go_wp2_with fail
 refine HH.mono ?_;rintro e w' ⟨rfl,rfl⟩
 go_wp2_with fail
 go_ret;exact⟨rfl,rfl⟩
theorem Jdp(w:World)(base:Nat)(A:Addrs)(d:D)(h:DevAt w base A d):Calls Tryz.prog 33 #[.pointer (some ⟨A.b,0,none⟩)] w fun e w'=>e=.returned (.int .i64 d.S.length)∧w=w':=by
 obtain⟨N,h⟩:=h;have c0:=h.c0;clear h;go_enter Tryz.func33,Tryz.ntmps33
 go_wp2_with fail
 go_ret;exact⟨rfl,rfl⟩
theorem info36:(Tryz.prog.info? 36).map (·.size)=some 64:=by kernel_rfl
theorem J45:(Tryz.prog.info? 113).map (·.size)=some 65:=by kernel_rfl
theorem _root_.Go.Proofs.YtdbfmikeaoaebaaGreatDoor.Blk.cells{l:List Value}(h:Blk w b l)(cs:Array Value)(e:l=cs.toList):∀j (hj:j<cs.size),w.cell? ⟨b,0+j,none⟩=some cs[j]:=fun j hj=>by
 subst e;exact h.cell (by simp [hj])
end De
end Go.Proofs.YtdbfmikeaoaebaaGreatDoor
