/- Steps. -/
import Derived.Test.YtdbfmikeaoaebaaGreatDoorLac
import Derived.WalkKit
import Derived.WalkSpells
import Derived.WalkLawsBesides
import Derived.Deep.AppendLies
import Derived.Deep.LoopGhost
import Derived.Laws.CopyRow
import Derived.Laws.Rows
import Derived.Laws.StructEq
import Derived.Lib.Hide
import Derived.Deep.DeepFit
import Derived.Deep.DeepMust
import Derived.Lib.EndianBits
import Derived.OrdersHeld
import Derived.Deep.Cut
import Derived.Deep.CutRange
import Derived.Deep.Upon
import Derived.Lib.AppendZeros
import Derived.Maps.AppendAt
import Derived.Great.BuildSlice
import Derived.Great.FillDense
import Derived.BigQuiet
import Derived.Deep.QuietTactic
import Derived.RegionTactic
set_option linter.unusedSimpArgs false
set_option linter.unusedVariables false
set_option maxRecDepth 100000
set_option maxHeartbeats 4000000
namespace Go.Proofs.YtdbfmikeaoaebaaGreatDoor
open Go.RowKit
variable {P:Program} {W w w':World} {cap g i m n:Nat} {l:List Int} {p:Int} {sv:Value} {y:Operand}
def num:List Int→Int
 | []=>0
 | x::l=>x+256*num l
theorem J3y(v:Int)(h:0≤v∧v<4294967296):num (le 4 v)=v:=by
 simp only [le,num];omega
theorem X6(v:Int)(h:0≤v∧v<65536):num (le 2 v)=v:=by
 simp only [le,num];omega
theorem XS(l:List Int)(h:∀x∈l,Ks x):0≤num l∧num l<256 ^ l.length:=by
 induction l with
 | nil=>simp [num]
 | cons x l ih =>
  have hx:=h x (by simp);have:=ih fun y hy=>h y (by simp [hy]);simp only [num,List.length_cons,Int.pow_succ];unfold Ks at hx;omega
def JR(s:List Int):Int:=s.getD 0 0
def Ky(s:List Int):Int:=num ((s.drop 2).take 4)
def Zb(s:List Int)(i:Nat):Int:=num ((s.drop (6+2*i)).take 2)
def readOf(s:List Int):Bk :=
  { kind:=JR s,id:=s.getD 1 0
    page:=if JR s=1 then (s.drop 6).take 32 else zeros 32
    off:=if JR s=2 then s.getD 6 0 else 0
    bytes:=if JR s=2 then (s.drop 8).take (min 16 (s.getD 7 0).toNat)++zeros ((s.getD 7 0).toNat-16) else []
    prev:=if JR s=2 then num ((s.drop 24).take 2) else 0
    heads:=if JR s=3 then (List.range 8).map (Zb s) else zeros 8 }
def JT(s:List Int):Bool:=(readOf s).good&&decide ((readOf s).enc (Ky s)=s)
def Qm(s:List Int):Bk:=if JT s then readOf s else Bk.none
def ZN(s:List Int):Int:=if JT s then Ky s else 0
def Ym(s:List Int):Int:=if JT s then 0 else 11
theorem Jiy{b:Bk}(h:b.good=true)(k:b.kind=1):b.off=0∧b.bytes=[]∧b.prev=0∧b.heads=zeros 8:=by
 simp [Bk.good,k,Bk.plain] at h;exact⟨h.1.2.1.1,h.1.2.1.2,h.1.2.2,h.2⟩
theorem kV{b:Bk}(h:b.good=true)(w:b.Wf)(n:Int)(hn:0≤n∧n<4294967296):readOf (b.enc n)=b∧Ky (b.enc n)=n:=by
 obtain⟨hk,_⟩:=QF h;have hp:=w.page;have hh:=w.heads;have hs:Ky (b.enc n)=n:=by
  have e:=J3y n hn;unfold Bk.enc Ky;split
  · simpa [le] using e
  · split <;> simpa [le] using e
 refine⟨?_,hs⟩;obtain⟨kind,id,page,off,bytes,prev,heads⟩:=b;rcases hk with k|k|k
 · obtain⟨e1,e2,e3,e4⟩:=Jiy h k;simp only at k e1 e2 e3 e4 hp;subst k e1 e2 e3 e4;simp [readOf,Bk.enc,JR,le,hp]
 · obtain⟨⟨e1,e2⟩,_,ep,e3,e4⟩:=qZ h k;simp only at k e1 e2 e3 e4 ep;subst k e3 e4;have ep2:=X6 prev ep;simp only [le] at ep2;have e5:min 16 bytes.length=bytes.length:=by omega
   have e6:bytes.length-16=0:=by omega
   have e7:16-bytes.length=16-bytes.length:=rfl;have e8:bytes.drop 16=[]:=List.drop_of_length_le e2;have e9:(zeros (16-bytes.length)).drop (16-bytes.length)=[]:=List.drop_of_length_le (by simp [zeros]);simp [readOf,Bk.enc,JR,le,e5,e6,zeros,List.drop_append];simpa [e8] using ep2
 · obtain⟨e0,e1,e2,e3,e4⟩:=Jg5 h k;simp only at k e0 e1 e2 e3 e4 hh;subst k e1 e2 e3 e4;obtain⟨a,b,c,d,e,f,g,k,rfl⟩:=yS heads hh;simp only [List.mem_cons,List.not_mem_nil,or_false,forall_eq_or_imp,forall_eq] at e0;obtain⟨p0,p1,p2,p3,p4,p5,p6,p7⟩:=e0;have q0:=X6 a p0;have q1:=X6 b p1;have q2:=X6 c p2;have q3:=X6 d p3;have q4:=X6 e p4;have q5:=X6 f p5;have q6:=X6 g p6;have q7:=X6 k p7;simp only [le] at q0 q1 q2 q3 q4 q5 q6 q7;simp [readOf,Bk.enc,JR,le,Zb,List.range,List.range.loop,q0,q1,q2,q3,q4,q5,q6,q7]
theorem jN{b:Bk}(h:b.good=true)(w:b.Wf)(n:Int)(hn:0≤n∧n<4294967296):JT (b.enc n)=true:=by
 obtain⟨e1,e2⟩:=kV h w n hn;simp [JT,e1,e2,h]
theorem readOf_wf{s:List Int}(h:Sc s):(readOf s).Wf:=by
 obtain⟨hl,hb⟩:=h;have hd:∀i,Ks (s.getD i 0):=fun i=>by
  rw [List.getD_eq_getElem?_getD];cases e:s[i]? with
  | none=>exact⟨by decide,by decide⟩
  | some x=>exact hb x (List.mem_of_getElem? e)
 have small:∀{x},Ks x→Jh x:=fun h=>⟨by have:=h.1;omega,by have:=h.2;omega⟩
 have hz:∀m,∀x∈zeros m,Ks x:=fun m x hx=>by
  rw [List.eq_of_mem_replicate hx];exact⟨by decide,by decide⟩
 have hnum:∀i,Jh (num ((s.drop i).take 2)):=fun i=>by
  have hb':∀x∈(s.drop i).take 2,Ks x:=fun x hx=>hb x (List.mem_of_mem_drop (List.mem_of_mem_take hx));have h1:=XS _ hb';have h2:((s.drop i).take 2).length≤2:=by simp;omega
  generalize (s.drop i).take 2=l at *;have:(256:Int) ^ l.length≤65536:=by
   match l,h2 with
   | [],_=>decide
   | [_],_=>simp
   | [_,_],_=>simp
  exact⟨by omega,by omega⟩
 have h0:Jh (0:Int):=⟨by decide,by decide⟩
 refine⟨small (hd 0),small (hd 1),?_,?_,?_,?_,?_,?_,?_,?_⟩
 · simp only [readOf];split
   · exact small (hd 6)
   · exact h0
 · simp only [readOf];split
   · exact hnum 24
   · exact h0
 · simp only [readOf];split <;> simp [hl,zeros]
 · simp only [readOf];split
   · exact fun x hx=>hb x (List.mem_of_mem_drop (List.mem_of_mem_take hx))
   · exact hz 32
 · simp only [readOf];split
   · have:=(hd 7).2;have h1:=(hd 7).1;simp only [List.length_append,List.length_take,J1];omega
   · simp
 · simp only [readOf];split
   · intro x hx;rcases List.mem_append.1 hx with hx|hx
     · exact hb x (List.mem_of_mem_drop (List.mem_of_mem_take hx))
     · exact hz _ x hx
   · simp
 · simp only [readOf];split <;> simp [zeros]
 · simp only [readOf];split
   · intro x hx;obtain⟨i,_,rfl⟩:=List.mem_map.1 hx;exact hnum _
   · intro x hx;exact small (hz _ x hx)
theorem jO{s:List Int}(h:Sc s):0≤Ky s∧Ky s<4294967296:=by
 have hb':∀x∈(s.drop 2).take 4,Ks x:=fun x hx=>h.bytes x (List.mem_of_mem_drop (List.mem_of_mem_take hx));have h1:=XS _ hb';have h2:((s.drop 2).take 4).length=4:=by simp [h.length]
 rw [h2] at h1;exact h1
theorem ZO(x:Int)(h:0≤x∧x<4294967296):bits .or .u32 0 x=x:=by
 have:=bits_join_low .u32 32 (by decide) wraps_u32 0 0 x (by decide) (by decide) (by decide) h.1 (by omega) (by omega);omega
theorem get4_any(w:World)(g o cap:Nat)(l:List Int)(hl:l.length=4)(hb:∀x∈l,Ks x)(hc:∀i x,l[i]? = some x→w.cell? ⟨g,o+i,none⟩=some (.int .u8 x)) :
 Calls Tryz.prog 145 #[.slice (some ⟨g,o,none⟩) 4 cap] w fun e w'=>e=.returned (.int .u32 (num l))∧w=w':=by
 obtain⟨x0,x1,x2,x3,rfl⟩:∃x0 x1 x2 x3,l=[x0,x1,x2,x3]:=by
  match l,hl with
  | [x0,x1,x2,x3],_=>exact⟨x0,x1,x2,x3,rfl⟩
 have c0:=hc 0 x0 rfl;obtain⟨p0,q0⟩:=hb x0 (by simp);have c1:=hc 1 x1 rfl;obtain⟨p1,q1⟩:=hb x1 (by simp);have c2:=hc 2 x2 rfl;obtain⟨p2,q2⟩:=hb x2 (by simp);have c3:=hc 3 x3 rfl;obtain⟨p3,q3⟩:=hb x3 (by simp);simp only [Nat.add_zero] at c0;clear hc hb hl;go_enter Tryz.func145,Tryz.ntmps145
 go_wp2_with fail
 go_loopg [3,8] 4 (fun q r i wr=>∃k:Nat,4-k≤q∧k≤4∧i=.int .i64 k∧r=.int .u32 (num ([x0,x1,x2,x3].take k))∧w=wr)
 case atStart=>exact⟨0,by omega,by omega,rfl,rfl,rfl⟩
 case round =>
  obtain⟨k,hg,hk,rfl,rfl,rfl⟩:=hrel;rcases (show k=0∨k=1∨k=2∨k=3∨k=4 by omega) with rfl|rfl|rfl|rfl|rfl
  · simp only [List.take_succ_cons,List.take_zero,num]
    go_wp2_with fail
    go_roundg (4-1)
    case measure=>omega
    case rel =>
     refine⟨1,by omega,by omega,by go_num,?_,rfl⟩;simp only [List.take_succ_cons,List.take_zero,num];refine congrArg (Value.int .u32) ?_;rw [ZO x0 (by omega)];omega
  · simp only [List.take_succ_cons,List.take_zero,num]
    go_wp2_with fail
    go_roundg (4-2)
    case measure=>omega
    case rel =>
     refine⟨2,by omega,by omega,by go_num,?_,rfl⟩;simp only [List.take_succ_cons,List.take_zero,num];refine congrArg (Value.int .u32) ?_;rw [u32_or8 _ _ (by omega) (by omega) (by omega) (by omega) (by omega)];omega
  · simp only [List.take_succ_cons,List.take_zero,num]
    go_wp2_with fail
    go_roundg (4-3)
    case measure=>omega
    case rel =>
     refine⟨3,by omega,by omega,by go_num,?_,rfl⟩;simp only [List.take_succ_cons,List.take_zero,num];refine congrArg (Value.int .u32) ?_;rw [u32_or16 _ _ (by omega) (by omega) (by omega) (by omega) (by omega)];omega
  · simp only [List.take_succ_cons,List.take_zero,num]
    go_wp2_with fail
    go_roundg (4-4)
    case measure=>omega
    case rel =>
     refine⟨4,by omega,by omega,by go_num,?_,rfl⟩;simp only [List.take_succ_cons,List.take_zero,num];refine congrArg (Value.int .u32) ?_;rw [u32_or24 _ _ (by omega) (by omega) (by omega) (by omega) (by omega)];omega
  · simp only [List.take_succ_cons,List.take_zero,num]
    go_wp2_with fail
    go_ret;exact⟨rfl,rfl⟩
theorem get2_any(w:World)(g o cap:Nat)(l:List Int)(hl:l.length=2)(hb:∀x∈l,Ks x)(hc:∀i x,l[i]? = some x→w.cell? ⟨g,o+i,none⟩=some (.int .u8 x)) :
 Calls Tryz.prog 145 #[.slice (some ⟨g,o,none⟩) 2 cap] w fun e w'=>e=.returned (.int .u32 (num l))∧w=w':=by
 obtain⟨x0,x1,rfl⟩:∃x0 x1,l=[x0,x1]:=by
  match l,hl with
  | [x0,x1],_=>exact⟨x0,x1,rfl⟩
 have c0:=hc 0 x0 rfl;obtain⟨p0,q0⟩:=hb x0 (by simp);have c1:=hc 1 x1 rfl;obtain⟨p1,q1⟩:=hb x1 (by simp);simp only [Nat.add_zero] at c0;clear hc hb hl;go_enter Tryz.func145,Tryz.ntmps145
 go_wp2_with fail
 go_loopg [3,8] 2 (fun q r i wr=>∃k:Nat,2-k≤q∧k≤2∧i=.int .i64 k∧r=.int .u32 (num ([x0,x1].take k))∧w=wr)
 case atStart=>exact⟨0,by omega,by omega,rfl,rfl,rfl⟩
 case round =>
  obtain⟨k,hg,hk,rfl,rfl,rfl⟩:=hrel;rcases (show k=0∨k=1∨k=2 by omega) with rfl|rfl|rfl
  · simp only [List.take_succ_cons,List.take_zero,num]
    go_wp2_with fail
    go_roundg (2-1)
    case measure=>omega
    case rel =>
     refine⟨1,by omega,by omega,by go_num,?_,rfl⟩;simp only [List.take_succ_cons,List.take_zero,num];refine congrArg (Value.int .u32) ?_;rw [ZO x0 (by omega)];omega
  · simp only [List.take_succ_cons,List.take_zero,num]
    go_wp2_with fail
    go_roundg (2-2)
    case measure=>omega
    case rel =>
     refine⟨2,by omega,by omega,by go_num,?_,rfl⟩;simp only [List.take_succ_cons,List.take_zero,num];refine congrArg (Value.int .u32) ?_;rw [u32_or8 _ _ (by omega) (by omega) (by omega) (by omega) (by omega)];omega
  · simp only [List.take_succ_cons,List.take_zero,num]
    go_wp2_with fail
    go_ret;exact⟨rfl,rfl⟩
section
variable {P:Program}
theorem exec_load_at(w:World)(ev:Operand→Value)(o:Oper)(ty:TypeId)(x:Operand)(ho:o.op=.load ty x)(g off:Nat)(hx:ev x=.pointer (some ⟨g,off,none⟩))(cs:Array Value)(d:TypeDesc)(hu:P.underlying ty=some d)(hd:(match d with|.struct _|.array _ _=>true|_=>false)=true)(hi:(P.info? ty).map (·.size)=some cs.size)(hc:∀j (h:j<cs.size),w.cell? ⟨g,off+j,none⟩=some cs[j]):(execOp ev o).run P w=.ok (.value (.agg cs)) w:=by
 unfold execOp;simp only [ho,hx,Instr.loadAt,Instr.sureAddr,Sem.run_bind,Sem.run_pure,Result.andThen_ok,Kb w g off ty cs d hu hd hi hc]
end
theorem Jga(w:World)(l m:List Int)(hl:l.length=64)(hm:m.length=64):(binOp .neq 36 (.agg (u8s l).toArray) (.agg (u8s m).toArray)).run Tryz.prog w=.ok (.bool (!decide (l=m))) w:=by
 obtain⟨i,hi,hs⟩:=KV Xb;exact Y3 w 36 5 64 .u8 .u8 i l m Tryz.underlying36 Tryz.underlying5 hi hs hl hm
abbrev KH:Value:=.slice none 0 0
theorem zero82b:(Tryz.prog.info? 82).bind (·.zero)=some (.agg (Bk.none.arr KH)):=by kernel_rfl
theorem J8u(k i:Int):Tryz.prog.built 82 [(0,.int .i64 k),(1,.int .i64 i)]=some (Bk.arr ⟨k,i,zeros 32,0,[],0,zeros 8⟩ KH):=by kernel_rfl
theorem Yx(k i:Int)(w:World):(Instr.build 82 #[(0,.int .i64 k),(1,.int .i64 i)]).run Tryz.prog w=.ok (.agg (Bk.arr ⟨k,i,zeros 32,0,[],0,zeros 8⟩ KH)) w:=run_build w 82 _ _ (J8u k i)
theorem Kn{s:List Int}(h:Sc s)(hi:i<64):(u8s s)[i]? = some (.int .u8 (s.getD i 0)):=by
 rw [List.getElem?_map,List.getD_eq_getElem?_getD,List.getElem?_eq_getElem (by rw [h.length];exact hi)];rfl
theorem sc_byte{s:List Int}(h:Sc s)(i:Nat):0≤s.getD i 0∧s.getD i 0<256:=by
 rw [List.getD_eq_getElem?_getD];cases e:s[i]? with
 | none=>exact⟨by decide,by decide⟩
 | some x=>exact h.bytes x (List.mem_of_getElem? e)
theorem KK(b:Bk)(a:Option Addr)(n cap:Nat):∀v∈b.arr (.slice a n cap),v.oneCell'=true:=fun v hv=>by
 simp only [Bk.arr,Bk.cells,List.mem_toArray,List.mem_cons,List.mem_append,List.mem_map] at hv;rcases hv with rfl|rfl|⟨z,_,rfl⟩|rfl|rfl|rfl|⟨z,_,rfl⟩ <;> rfl
structure RT (W w:World) (g r t:Nat) (s:List Int) (b:Bk) (sv:Value):Prop where
 sec:Blk w g (u8s s)
 res:Blk w r (Bk.none.cells KH)
 blk:Blk w t (b.cells sv)
 bel:Below W.heap.size W w
 g0:W.heap.size≤g
 gr:g<r
 rt:r<t
theorem RT.below{r t:Nat}{s:List Int}{b:Bk}(h:RT W w g r t s b sv)(hb:Below w.heap.size w w'):RT W w' g r t s b sv :=
 ⟨h.sec.below hb h.sec.lt,h.res.below hb h.res.lt,h.blk.below hb h.blk.lt,h.bel.trans (hb.mono h.bel.size),h.g0,h.gr,h.rt⟩
theorem RT.drew{r t:Nat}{s:List Int}{b:Bk}(h:RT W w g r t s b sv):RT W w.drew g r t s b sv:=h.below Zq.drew
theorem RT.put{r t:Nat}{s:List Int}{b c:Bk}{cv:Value}(h:RT W w g r t s b sv)(hs:Blk w' t (c.cells cv))(ho:Only (fun k=>k=t) w w'):RT W w' g r t s c cv :=
 ⟨h.sec.only ho (by have:=h.gr;have:=h.rt;omega),h.res.only ho (by have:=h.rt;omega),hs,h.bel.trans (ho.below h.bel.size (fun k hk=>by have:=h.g0;have:=h.gr;have:=h.rt;omega)),h.g0,h.gr,h.rt⟩
theorem RT.set{r t:Nat}{s:List Int}{b c:Bk}{cv:Value}(h:RT W w g r t s b sv)(i:Nat)(x:Value)(e:(b.cells sv).set i x=c.cells cv):RT W (w.setCell ⟨t,i,none⟩ x) g r t s c cv :=
 h.put (by have:=h.blk.set i x;rwa [e] at this) ((Only.refl (fun k=>k=t) w).setCell (p:=⟨t,i,none⟩) (.inl rfl) _)
theorem RT.seg{r t:Nat}{s:List Int}{b:Bk}(h:RT W w g r t s b sv)(o n:Nat)(j:Nat)(v:Int)(hv:((s.drop o).take n)[j]? = some v):w.cell? ⟨g,o+j,none⟩=some (.int .u8 v):=h.sec.cell (by
 have hj:j<n:=by
  have:=(Zg hv).1
  simp at this
  omega
 rw [List.getElem?_take_of_lt hj,List.getElem?_drop] at hv
 rw [List.getElem?_map,hv]
 rfl)
theorem ze(b:Bk)(hp:b.page.length=32)(sv:Value)(x:Int):(b.cells sv).set 34 (.int .i64 x)=Bk.cells { b with off:=x } sv:=by
 unfold Bk.cells;simp only [List.set_cons_succ];rw [List.set_append_right _ _ (by simp [hp])];simp [hp]
theorem zf(b:Bk)(hp:b.page.length=32)(sv cv:Value)(l:List Int):(b.cells sv).set 35 cv=Bk.cells { b with bytes:=l } cv:=by
 unfold Bk.cells;simp only [List.set_cons_succ];rw [List.set_append_right _ _ (by simp [hp])];simp [hp]
theorem zg(b:Bk)(hp:b.page.length=32)(sv:Value)(x:Int):(b.cells sv).set 36 (.int .i64 x)=Bk.cells { b with prev:=x } sv:=by
 unfold Bk.cells;simp only [List.set_cons_succ];rw [List.set_append_right _ _ (by simp [hp])];simp [hp]
theorem J1i(b:Bk)(hp:b.page.length=32)(sv:Value)(k:Nat)(x:Int):(b.cells sv).set (37+k) (.int .i64 x)=Bk.cells { b with heads:=b.heads.set k x } sv:=by
 unfold Bk.cells;rw [show 37+k=(k+35)+1+1 by omega];simp only [List.set_cons_succ];rw [List.set_append_right _ _ (by simp [hp])];simp only [List.length_map,hp];rw [show k+35-32=k+1+1+1 by omega];simp only [List.set_cons_succ,List.map_set]
theorem J1j(b:Bk)(hp:b.page.length=32)(sv:Value)(l:List Int)(hl:l.length=32):lay (b.cells sv) 2 l=Bk.cells { b with page:=l } sv:=by
 unfold Bk.cells lay;simp [hl,hp]
theorem YO(b:Bk)(hp:b.page.length=32)(sv:Value)(k:Nat):(b.cells sv)[34+k]? = (.int .i64 b.off::sv::.int .i64 b.prev::Jq b.heads)[k]? := by
 unfold Bk.cells;rw [show 34+k=(32+k)+1+1 by omega];simp only [List.getElem?_cons_succ];rw [List.getElem?_append_right (by simp [hp])];simp only [List.length_map,hp];congr 1;omega
theorem J1k(n:Nat):(madeCells (#[.int .u8 0]:Array Value) n).toList=u8s (zeros n):=by
 unfold madeCells;apply List.ext_getElem?;intro i
 by_cases h:i<n <;> simp [zeros,h,Nat.mod_one]
section
variable {ops:Array Oper} {rest:List Oper} {dst:Option Tmp} {x:Operand} {t2:TypeId} {pos:String} {after:Array Edge} {guard:Option (Nat×Bool)} {a:Act} {w:World} {Q:Exit→Act→World→Prop}
theorem Jgy(hx:a.eval x=.int .i64 n)(hy:a.eval y=.int .i64 n)(hn:n<256)(hw:Region.wanted ⟨dst,.makeSlice 80 x y,t2,pos,after,guard⟩ (yielded ops a.tmps)=true)(h:∀wX,Blk wX w.heap.size (u8s (zeros n))→Below w.heap.size w wX→w.heap.size<wX.heap.size→wpList Tryz.prog ops Q rest (a.put dst (.slice (some ⟨w.heap.size,0,none⟩) n n)) wX):wpList Tryz.prog ops Q (⟨dst,.makeSlice 80 x y,t2,pos,after,guard⟩::rest) a w:=by
 obtain⟨i,hi,hz,hs,hb⟩:∃i,Tryz.prog.info? 5=some i∧i.zero=some (.int .u8 0)∧i.size=1∧i.bytes=1:=by
  have:=Jiw;cases hq:Tryz.prog.info? 5 with
  | none=>simp [hq] at this
  | some i=>simp [hq] at this;exact⟨i,rfl,this⟩
 have hr:=run_makeSlice (P:=Tryz.prog) w 80 5 i (.int .u8 0) Tryz.underlying80 hi hz .i64 .i64 n n (by omega) (Int.le_refl _) (by rw [hs];omega) (by rw [hb];omega) (by omega);refine Jo _ _ hw ?_ (h _ ?_ (Zq.alloc Zy (.cells (madeCells #[.int .u8 0] n) 5)) (by simp))
 · unfold execOp;simp only [hx,hy,Sem.run_bind,hr,Result.andThen_ok,Sem.run_pure,Int.toNat_natCast,hs,Nat.mul_one];rfl
 · have:=Blk.new w (madeCells #[.int .u8 0] n) 5
   rwa [J1k] at this
end
theorem BytesAt.of_blk(h:Blk w m (u8s l)):BytesAt w (.slice (some ⟨m,0,none⟩) l.length cap) l :=
 ⟨_,cap,rfl,fun i x hx=>⟨m,0,rfl,by rw [Nat.zero_add];exact h.cell (by rw [List.getElem?_map,hx];rfl)⟩⟩
theorem J8v(s:List Int)(hs:Sc s)(hk:JR s≠1∧JR s≠2∧JR s≠3)(w:World):Calls Tryz.prog 144 #[.agg (u8s s).toArray] w fun e w'=>∃sv,e=.returned (.agg ((readOf s).arr sv))∧BytesAt w' sv (readOf s).bytes∧Below w.heap.size w w'∧Fresh w.heap.size sv:=by
 have HS:=Zh hs;obtain⟨hi1,hi2⟩:=sc_byte hs 1;obtain⟨id,hid⟩:∃i,s.getD 1 0=i:=⟨_,rfl⟩
 rw [hid] at hi1 hi2;have HID:=Zh hid;obtain⟨hk1,hk2,hk3⟩:=hk;have hk0:=sc_byte hs 0;rw [show s.getD 0 0=JR s from rfl] at hk0;go_enter Tryz.func144,Tryz.ntmps144
 repeat (first|(with_reducible refine JO (id:=0) ?_)|go_values|go_skip|go_guarded|go_step|go_upon|go_back)
 refine Stop.mk (wp_region_lit ?_);refine JV rfl rfl ?_;intro wA hA hB hl;refine nm ?_;refine J4 zero82b rfl ?_;intro wB hR hB2 hl2;refine nm ?_;have hA2:=hA.below hB2 hl;have hBB:=hB.trans (hB2.mono hB.size);refine Zn ?_
 repeat (first|(with_reducible refine JO (id:=1) ?_)|go_values|go_skip|go_guarded|go_step|go_upon|go_back)
 refine Stop.mk (wp_region_lit ?_);have c0:wB.cell? ⟨w.heap.size,0,none⟩=some (.int .u8 (JR s)):=hA2.cell (Kn HS.out (by decide));have c1:wB.cell? ⟨w.heap.size,1,none⟩=some (.int .u8 id):=by rw [←HID.out];exact hA2.cell (Kn HS.out (by decide))
 refine tk (.pointer (some ⟨w.heap.size,0,none⟩)) ?_;refine tk (.int .u8 (JR s)) ?_;refine tk (.int .i64 (JR s)) ?_ (hr:=by go_simp;exact JQ hk0.1 (by omega));refine tk (.pointer (some ⟨w.heap.size,1,none⟩)) ?_;refine tk (.int .u8 (id)) ?_;refine tk (.int .i64 id) ?_ (hr:=by go_simp;exact JQ hi1 (by omega));refine tk (.agg (Bk.arr ⟨(JR s),id,zeros 32,0,[],0,zeros 8⟩ KH)) ?_ (hr:=(J8 _ _ _ _ 82 #[(0,.tmp 7),(1,.tmp 10)] rfl #[(0,.int .i64 (JR s)),(1,.int .i64 (id))] (by simp only [List.map_toArray,List.map_cons,List.map_nil];rfl) _ (Yx (JR s) (id) _)));refine J4 zero82b rfl ?_;intro wC hC hBC hlC;refine nm ?_;refine J3 hC (by rfl) (by exact Kc) (KK _ _ _ _) rfl rfl rfl ?_;intro wD hD hOD hlD;refine nm ?_;have hBD:=hBC.trans (hOD.below hBC.size (fun k hk=>Nat.le_of_eq hk.symm));have H1:Hid (RT w wD w.heap.size wA.heap.size wB.heap.size s ⟨(JR s),id,zeros 32,0,[],0,zeros 8⟩ KH):=Zh
  ⟨hA2.below hBD hA2.lt,hR.below hBD hR.lt,hD,hBB.trans (hBD.mono hBB.size),Nat.le_refl _,hl,hl2⟩
 clear c0 c1 hA hB hl hR hB2 hl2 hA2 hBB hC hBC hlC hD hOD hlD hBD;generalize hgg:w.heap.size=g at *;generalize wA.heap.size=r at *;generalize wB.heap.size=t at *;have HGG:=Zh hgg;clear hgg wA wB wC;have ck:wD.cell? ⟨t,0,none⟩=some (.int .i64 (JR s)):=H1.blk.cell rfl;refine Zn ?_
 repeat (first|(with_reducible refine JO (id:=16) ?_)|go_values|go_skip|go_guarded|go_step|go_upon|go_back)
 refine Stop.mk (wp_region_lit ?_);have HB:=Zh H1.blk;have HRW:=Zh (readOf_wf HS.out);rw [(show (⟨JR s,id,zeros 32,0,[],0,zeros 8⟩:Bk)=readOf s from by rw [←HID.out];unfold readOf;simp [hk1,hk2,hk3])] at HB;refine JJ (cs:=(readOf s).arr KH) (Blk.all HB.out rfl) ((readOf s).arr_size HRW.out _) rfl rfl ?_;refine nm ?_;refine J3 (cs:=(readOf s).arr KH) H1.res (by rw [(readOf s).arr_size HRW.out];rfl) (by rw [(readOf s).arr_size HRW.out];exact Kc) (KK _ _ _ _) rfl rfl rfl ?_;intro wZ hZ hOZ hlZ;refine nm ?_;have HF:=Zh (H1.bel.trans (hOZ.below H1.bel.size (fun k hk=>by have:=H1.g0;have:=H1.gr;omega)));go_wp2_with fail
 refine bodyPost_ret (v:=.agg ((readOf s).arr KH)) (Jp rfl _ _ r 0 _ _ rfl Tryz.underlying82 rfl (by rw [(readOf s).arr_size HRW.out];exact Kc) (Blk.all hZ rfl)) rfl ⟨_,rfl,?_,HF.out,Fresh.nil _⟩;rw [show (readOf s).bytes=[] from by unfold readOf;simp [hk2]];exact BytesAt.nil _ _ _
theorem J8w(s:List Int)(hs:Sc s)(hk:JR s=1)(w:World):Calls Tryz.prog 144 #[.agg (u8s s).toArray] w fun e w'=>∃sv,e=.returned (.agg ((readOf s).arr sv))∧BytesAt w' sv (readOf s).bytes∧Below w.heap.size w w'∧Fresh w.heap.size sv:=by
 have HS:=Zh hs;obtain⟨hi1,hi2⟩:=sc_byte hs 1;obtain⟨id,hid⟩:∃i,s.getD 1 0=i:=⟨_,rfl⟩
 rw [hid] at hi1 hi2;have HID:=Zh hid;have HK:=Zh hk;have hk0:=sc_byte hs 0;clear hk0;go_enter Tryz.func144,Tryz.ntmps144
 repeat (first|(with_reducible refine JO (id:=0) ?_)|go_values|go_skip|go_guarded|go_step|go_upon|go_back)
 refine Stop.mk (wp_region_lit ?_);refine JV rfl rfl ?_;intro wA hA hB hl;refine nm ?_;refine J4 zero82b rfl ?_;intro wB hR hB2 hl2;refine nm ?_;have hA2:=hA.below hB2 hl;have hBB:=hB.trans (hB2.mono hB.size);refine Zn ?_
 repeat (first|(with_reducible refine JO (id:=1) ?_)|go_values|go_skip|go_guarded|go_step|go_upon|go_back)
 refine Stop.mk (wp_region_lit ?_);have c0:wB.cell? ⟨w.heap.size,0,none⟩=some (.int .u8 (JR s)):=hA2.cell (Kn HS.out (by decide));rw [HK.out] at c0;have c1:wB.cell? ⟨w.heap.size,1,none⟩=some (.int .u8 id):=by rw [←HID.out];exact hA2.cell (Kn HS.out (by decide))
 refine tk (.pointer (some ⟨w.heap.size,0,none⟩)) ?_;refine tk (.int .u8 1) ?_;refine tk (.int .i64 1) ?_ (hr:=by go_simp;rfl);refine tk (.pointer (some ⟨w.heap.size,1,none⟩)) ?_;refine tk (.int .u8 (id)) ?_;refine tk (.int .i64 id) ?_ (hr:=by go_simp;exact JQ hi1 (by omega));refine tk (.agg (Bk.arr ⟨1,id,zeros 32,0,[],0,zeros 8⟩ KH)) ?_ (hr:=(J8 _ _ _ _ 82 #[(0,.tmp 7),(1,.tmp 10)] rfl #[(0,.int .i64 1),(1,.int .i64 (id))] (by simp only [List.map_toArray,List.map_cons,List.map_nil];rfl) _ (Yx 1 (id) _)));refine J4 zero82b rfl ?_;intro wC hC hBC hlC;refine nm ?_;refine J3 hC (by rfl) (by exact Kc) (KK _ _ _ _) rfl rfl rfl ?_;intro wD hD hOD hlD;refine nm ?_;have hBD:=hBC.trans (hOD.below hBC.size (fun k hk=>Nat.le_of_eq hk.symm));have H1:Hid (RT w wD w.heap.size wA.heap.size wB.heap.size s ⟨1,id,zeros 32,0,[],0,zeros 8⟩ KH):=Zh
  ⟨hA2.below hBD hA2.lt,hR.below hBD hR.lt,hD,hBB.trans (hBD.mono hBB.size),Nat.le_refl _,hl,hl2⟩
 clear c0 c1 hA hB hl hR hB2 hl2 hA2 hBB hC hBC hlC hD hOD hlD hBD;generalize hgg:w.heap.size=g at *;generalize wA.heap.size=r at *;generalize wB.heap.size=t at *;have HGG:=Zh hgg;clear hgg wA wB wC;have ck:wD.cell? ⟨t,0,none⟩=some (.int .i64 1):=H1.blk.cell rfl;go_wp2_with fail
 refine J9 (fun _=>True) (by kernel_rfl) ?_;refine Jl 0 (some 16) (.pointer (some ⟨t,2,none⟩)) rfl rfl (by kernel_rfl) (by kernel_rfl) (by kernel_rfl) (fun _ _ _ h=>h) rfl (fun w _=>by go_simp) trivial ?_;refine nm ?_;refine Jl 1 (some 17) (.slice (some ⟨t,2,none⟩) 32 32) rfl rfl (by kernel_rfl) (by kernel_rfl) (by kernel_rfl) (fun _ _ _ h=>h) rfl (fun w _=>by go_simp) trivial ?_;refine nm ?_;refine Jl 2 (some 18) (.slice (some ⟨g,6,none⟩) 58 58) rfl rfl (by kernel_rfl) (by kernel_rfl) (by kernel_rfl) (fun _ _ _ h=>h) rfl (fun w _=>by go_simp) trivial ?_;refine nm ?_;refine Zo 3 fun K hK=>?_;have hl32:((s.drop 6).take 32).length=32:=by simp [HS.length]
 refine ZF _ _ rfl Tryz.underlying80 Xb t 2 32 32 g 6 58 58 rfl rfl _ ((s.drop 6).take 32) H1.drew.blk (by rw [hl32];rfl) (fun j v hv=>H1.drew.seg 6 32 j v hv) (by rw [hl32];simp [Bk.cells,zeros]) (some 19) rfl fun wC hb ho=>?_;rw [J1j _ rfl _ _ hl32] at hb;have H2:=Zh (H1.drew.put hb ho);refine hK _ _ trivial ?_;clear hK K hb ho;refine nm ?_;refine Zd ?_
 repeat (first|(with_reducible refine JO (id:=16) ?_)|go_values|go_skip|go_guarded|go_step|go_upon|go_back)
 refine Stop.mk (wp_region_lit ?_);have HB:=Zh H2.blk;have HRW:=Zh (readOf_wf HS.out);rw [(show ({ (⟨1,id,zeros 32,0,[],0,zeros 8⟩:Bk) with page:=(s.drop 6).take 32 })=readOf s from by rw [←HID.out];unfold readOf;simp [HK.out])] at HB;refine JJ (cs:=(readOf s).arr KH) (Blk.all HB.out rfl) ((readOf s).arr_size HRW.out _) rfl rfl ?_;refine nm ?_;refine J3 (cs:=(readOf s).arr KH) H2.res (by rw [(readOf s).arr_size HRW.out];rfl) (by rw [(readOf s).arr_size HRW.out];exact Kc) (KK _ _ _ _) rfl rfl rfl ?_;intro wZ hZ hOZ hlZ;refine nm ?_;have HF:=Zh (H2.bel.trans (hOZ.below H2.bel.size (fun k hk=>by have:=H2.g0;have:=H2.gr;omega)));go_wp2_with fail
 refine bodyPost_ret (v:=.agg ((readOf s).arr KH)) (Jp rfl _ _ r 0 _ _ rfl Tryz.underlying82 rfl (by rw [(readOf s).arr_size HRW.out];exact Kc) (Blk.all hZ rfl)) rfl ⟨_,rfl,?_,HF.out,Fresh.nil _⟩;rw [show (readOf s).bytes=[] from by unfold readOf;simp [HK.out]];exact BytesAt.nil _ _ _
theorem RT.other{r t:Nat}{s:List Int}{b:Bk}(h:RT W w g r t s b sv)(ho:Only (fun k=>k=m) w w')(hm:t<m):RT W w' g r t s b sv :=
 ⟨h.sec.only ho (by have:=h.gr;have:=h.rt;omega),h.res.only ho (by have:=h.rt;omega),h.blk.only ho (by omega),h.bel.trans (ho.below h.bel.size (fun k hk=>by have:=h.g0;have:=h.gr;have:=h.rt;omega)),h.g0,h.gr,h.rt⟩
theorem RT.cell34{r t:Nat}{s:List Int}{b:Bk}(h:RT W w g r t s b sv)(hp:b.page.length=32):w.cell? ⟨t,34,none⟩=some (.int .i64 b.off):=h.blk.cell (YO b hp sv 0)
theorem RT.cell35{r t:Nat}{s:List Int}{b:Bk}(h:RT W w g r t s b sv)(hp:b.page.length=32):w.cell? ⟨t,35,none⟩=some sv:=h.blk.cell (YO b hp sv 1)
theorem RT.cell36{r t:Nat}{s:List Int}{b:Bk}(h:RT W w g r t s b sv)(hp:b.page.length=32):w.cell? ⟨t,36,none⟩=some (.int .i64 b.prev):=h.blk.cell (YO b hp sv 2)
theorem RT.cellH{r t:Nat}{s:List Int}{b:Bk}(h:RT W w g r t s b sv)(hp:b.page.length=32)(k:Nat):w.cell? ⟨t,37+k,none⟩=(Jq b.heads)[k]? := by
 obtain⟨ty,e⟩:=h.blk;rw [cell_of_row w t _ _ ty _ e,List.getElem?_toArray];have:=YO b hp sv (k+3)
 rwa [show 34+(k+3)=37+k by omega] at this
theorem kW{s:List Int}(h:Sc s)(o n:Nat):∀x∈(s.drop o).take n,Ks x:=fun x hx=>h.bytes x (List.mem_of_mem_drop (List.mem_of_mem_take hx))
def J3z(id:Int)(o:Int)(n:Nat)(s:List Int)(p:Int):Bk:=⟨2,id,zeros 32,o,(s.drop 8).take (min 16 n)++zeros (n-16),p,zeros 8⟩
theorem J8x{s:List Int}(hk:JR s=2){id o:Int}(h1:s.getD 1 0=id)(h6:s.getD 6 0=o)(h7:s.getD 7 0=(n:Int))(hp:num ((s.drop 24).take 2)=p):J3z id o n s p=readOf s:=by
 subst h1 h6 hp;have e:(s.getD 7 0).toNat=n:=by rw [h7];rfl
 unfold J3z readOf;rw [e];simp [hk]
theorem J8y(s:List Int)(hs:Sc s)(hk:JR s=2)(w:World):Calls Tryz.prog 144 #[.agg (u8s s).toArray] w fun e w'=>∃sv,e=.returned (.agg ((readOf s).arr sv))∧BytesAt w' sv (readOf s).bytes∧Below w.heap.size w w'∧Fresh w.heap.size sv:=by
 have HS:=Zh hs;obtain⟨hi1,hi2⟩:=sc_byte hs 1;obtain⟨id,hid⟩:∃i,s.getD 1 0=i:=⟨_,rfl⟩
 rw [hid] at hi1 hi2;have HID:=Zh hid;have HK:=Zh hk;have hk0:=sc_byte hs 0;clear hk0;go_enter Tryz.func144,Tryz.ntmps144
 repeat (first|(with_reducible refine JO (id:=0) ?_)|go_values|go_skip|go_guarded|go_step|go_upon|go_back)
 refine Stop.mk (wp_region_lit ?_);refine JV rfl rfl ?_;intro wA hA hB hl;refine nm ?_;refine J4 zero82b rfl ?_;intro wB hR hB2 hl2;refine nm ?_;have hA2:=hA.below hB2 hl;have hBB:=hB.trans (hB2.mono hB.size);refine Zn ?_
 repeat (first|(with_reducible refine JO (id:=1) ?_)|go_values|go_skip|go_guarded|go_step|go_upon|go_back)
 refine Stop.mk (wp_region_lit ?_);have c0:wB.cell? ⟨w.heap.size,0,none⟩=some (.int .u8 (JR s)):=hA2.cell (Kn HS.out (by decide));rw [HK.out] at c0;have c1:wB.cell? ⟨w.heap.size,1,none⟩=some (.int .u8 id):=by rw [←HID.out];exact hA2.cell (Kn HS.out (by decide))
 refine tk (.pointer (some ⟨w.heap.size,0,none⟩)) ?_;refine tk (.int .u8 2) ?_;refine tk (.int .i64 2) ?_ (hr:=by go_simp;rfl);refine tk (.pointer (some ⟨w.heap.size,1,none⟩)) ?_;refine tk (.int .u8 (id)) ?_;refine tk (.int .i64 id) ?_ (hr:=by go_simp;exact JQ hi1 (by omega));refine tk (.agg (Bk.arr ⟨2,id,zeros 32,0,[],0,zeros 8⟩ KH)) ?_ (hr:=(J8 _ _ _ _ 82 #[(0,.tmp 7),(1,.tmp 10)] rfl #[(0,.int .i64 2),(1,.int .i64 (id))] (by simp only [List.map_toArray,List.map_cons,List.map_nil];rfl) _ (Yx 2 (id) _)));refine J4 zero82b rfl ?_;intro wC hC hBC hlC;refine nm ?_;refine J3 hC (by rfl) (by exact Kc) (KK _ _ _ _) rfl rfl rfl ?_;intro wD hD hOD hlD;refine nm ?_;have hBD:=hBC.trans (hOD.below hBC.size (fun k hk=>Nat.le_of_eq hk.symm));have H1:Hid (RT w wD w.heap.size wA.heap.size wB.heap.size s ⟨2,id,zeros 32,0,[],0,zeros 8⟩ KH):=Zh
  ⟨hA2.below hBD hA2.lt,hR.below hBD hR.lt,hD,hBB.trans (hBD.mono hBB.size),Nat.le_refl _,hl,hl2⟩
 clear c0 c1 hA hB hl hR hB2 hl2 hA2 hBB hC hBC hlC hD hOD hlD hBD;generalize hgg:w.heap.size=g at *;generalize wA.heap.size=r at *;generalize wB.heap.size=t at *;have HGG:=Zh hgg;clear hgg wA wB wC;have ck:wD.cell? ⟨t,0,none⟩=some (.int .i64 2):=H1.blk.cell rfl;refine Zn ?_
 repeat (first|(with_reducible refine JO (id:=6) ?_)|go_values|go_skip|go_guarded|go_step|go_upon|go_back)
 refine Stop.mk (wp_region_lit ?_);obtain⟨ho1,ho2⟩:=sc_byte hs 6;obtain⟨hm1,hm2⟩:=sc_byte hs 7;obtain⟨o,ho⟩:∃i,s.getD 6 0=i:=⟨_,rfl⟩
 obtain⟨n,hn⟩:∃n:Nat,s.getD 7 0=(n:Int):=⟨(s.getD 7 0).toNat,by omega⟩
 rw [ho] at ho1 ho2;rw [hn] at hm2;have HO:=Zh ho;have HNN:=Zh hn;clear ho hn hm1;have hn256:n<256:=by omega
 have c6:wD.cell? ⟨g,6,none⟩=some (.int .u8 o):=by rw [←HO.out];exact H1.sec.cell (Kn HS.out (by decide))
 have c34:=H1.cell34 rfl;have hf:=H1.blk.frozen 34;refine tk (.pointer (some ⟨g,6,none⟩)) ?_;refine tk (.int .u8 o) ?_;refine tk (.int .i64 o) ?_ (hr:=by go_simp;exact JQ ho1 (by omega));refine tk (.pointer (some ⟨t,34,none⟩)) ?_;refine Xy (wD.setCell ⟨t,34,none⟩ (.int .i64 o)) rfl (by go_simp) ?_;refine nm ?_;have H2:=Zh (H1.set 34 (.int .i64 o) (ze _ rfl _ o));clear ck c6 c34 hf;generalize wD.setCell ⟨t,34,none⟩ (.int .i64 o)=wE at *;refine Zn ?_
 repeat (first|(with_reducible refine JO (id:=7) ?_)|go_values|go_skip|go_guarded|go_step|go_upon|go_back)
 refine Stop.mk (wp_region_lit ?_);have c7:wE.cell? ⟨g,7,none⟩=some (.int .u8 (n:Int)):=by rw [←HNN.out];exact H2.sec.cell (Kn HS.out (by decide))
 refine tk (.pointer (some ⟨g,7,none⟩)) ?_;refine tk (.int .u8 (n:Int)) ?_;refine tk (.int .i64 (n:Int)) ?_ (hr:=by go_simp;exact JQ (by omega) (by omega));refine Jgy (n:=n) rfl rfl hn256 rfl ?_;intro wF hM hBM hlM;refine nm ?_;have H3:=Zh (H2.below hBM);have hmt:t<wE.heap.size:=H2.blk.lt;generalize wE.heap.size=m at *;clear c7 hBM;have c35:=H3.cell35 rfl;have hf:=H3.blk.frozen 35;refine tk (.pointer (some ⟨t,35,none⟩)) ?_;refine Xy (wF.setCell ⟨t,35,none⟩ (.slice (some ⟨m,0,none⟩) n n)) rfl (by go_simp) ?_;refine nm ?_;have H4:=Zh (H3.set 35 (.slice (some ⟨m,0,none⟩) n n) (zf _ rfl _ _ ((s.drop 8).take (min 16 n)++zeros (n-16))));have HM4:=Zh (hM.setOther (a:=⟨t,35,none⟩) (by simp only;omega) (.slice (some ⟨m,0,none⟩) n n));clear c35 hf hM H3;generalize wF.setCell ⟨t,35,none⟩ (.slice (some ⟨m,0,none⟩) n n)=wG at *;go_wp2_with fail
 have c35:=H4.drew.cell35 rfl;refine J9 (fun wq=>wq.cell? ⟨t,35,none⟩=some (.slice (some ⟨m,0,none⟩) n n)) (by kernel_rfl) ?_;refine Jl 0 (some 31) (.pointer (some ⟨t,35,none⟩)) rfl rfl (by kernel_rfl) (by kernel_rfl) (by kernel_rfl) (fun _ _ _ h=>h) rfl (fun w _=>by go_simp) c35 ?_;refine nm ?_;refine Jl 1 (some 32) (.slice (some ⟨m,0,none⟩) n n) rfl rfl (by kernel_rfl) (by kernel_rfl) (by kernel_rfl) (fun _ _ _ h=>h) rfl (fun w hS=>by go_simp) c35 ?_;refine nm ?_;refine Jl 2 (some 33) (.slice (some ⟨g,8,none⟩) 16 56) rfl rfl (by kernel_rfl) (by kernel_rfl) (by kernel_rfl) (fun _ _ _ h=>h) rfl (fun w _=>by go_simp) c35 ?_;refine nm ?_;refine Zo 3 fun K hK=>?_;have hl16:((s.drop 8).take (min 16 n)).length=min 16 n:=by
  rw [List.length_take,List.length_drop,HS.length];omega
 refine ZF _ _ rfl Tryz.underlying80 Xb m 0 n n g 8 16 56 rfl rfl _ ((s.drop 8).take (min 16 n)) HM4.drew (by rw [hl16]) (fun j v hv=>H4.drew.seg 8 (min 16 n) j v hv) (by rw [hl16,List.length_map,J1];omega) (some 34) rfl fun wC hb ho=>?_;rw [Qt,J12,hl16,show n-min 16 n=n-16 by omega] at hb;have H5:=Zh (H4.drew.other ho hmt);have HM5:=Zh hb;refine hK _ _ (H5.cell35 rfl) ?_;clear hK K hb ho c35 H4 HM4 hl16;refine nm ?_;refine Zd ?_
 repeat (first|(with_reducible refine JO (id:=9) ?_)|go_values|go_skip|go_guarded|go_step|go_upon|go_back)
 refine Stop.mk (wp_region_lit ?_);refine tk (.slice (some ⟨g,24,none⟩) 2 40) ?_;refine J0 rfl fun K hK=>?_;go_simp;have hp2:=XS _ (kW HS.out 24 2);have hp3:((s.drop 24).take 2).length=2:=by simp [HS.length]
 rw [hp3] at hp2;refine (get2_any _ g 24 40 ((s.drop 24).take 2) hp3 (kW HS.out 24 2) (fun i x hx=>H5.seg 24 2 i x hx)).mono ?_;rintro e w6 ⟨rfl,rfl⟩;refine hK _ _ (nm ?_);clear hK K;obtain⟨hp4,hp5⟩:=hp2;generalize hpp:num ((s.drop 24).take 2)=p at *;have HPP:=Zh hpp;have hp6:p<65536:=hp5;clear hpp hp3 hp5;have c36:=H5.cell36 rfl;have hf:=H5.blk.frozen 36;refine tk (.int .i64 p) ?_ (hr:=by go_simp;exact JQ hp4 (by omega));refine tk (.pointer (some ⟨t,36,none⟩)) ?_;refine Xy (wC.setCell ⟨t,36,none⟩ (.int .i64 p)) rfl (by go_simp) ?_;refine nm ?_;have H6:Hid (RT w _ g r t s (J3z id o n s p) (.slice (some ⟨m,0,none⟩) n n)):=Zh (H5.set 36 (.int .i64 p) (zg _ rfl _ p));have HM6:=Zh (HM5.setOther (a:=⟨t,36,none⟩) (by simp only;omega) (.int .i64 p));clear c36 hf H5 HM5;generalize wC.setCell ⟨t,36,none⟩ (.int .i64 p)=wH at *;have hmlt:m<wH.heap.size:=HM6.lt;refine Zn ?_
 repeat (first|(with_reducible refine JO (id:=16) ?_)|go_values|go_skip|go_guarded|go_step|go_upon|go_back)
 refine Stop.mk (wp_region_lit ?_);have HB:=Zh H6.blk;have HRW:=Zh (readOf_wf HS.out);rw [(J8x HK.out HID.out HO.out HNN.out HPP.out)] at HB;refine JJ (cs:=(readOf s).arr (.slice (some ⟨m,0,none⟩) n n)) (Blk.all HB.out rfl) ((readOf s).arr_size HRW.out _) rfl rfl ?_;refine nm ?_;refine J3 (cs:=(readOf s).arr (.slice (some ⟨m,0,none⟩) n n)) H6.res (by rw [(readOf s).arr_size HRW.out];rfl) (by rw [(readOf s).arr_size HRW.out];exact Kc) (KK _ _ _ _) rfl rfl rfl ?_;intro wZ hZ hOZ hlZ;refine nm ?_;have HF:=Zh (H6.bel.trans (hOZ.below H6.bel.size (fun k hk=>by have:=H6.g0;have:=H6.gr;omega)));go_wp2_with fail
 refine bodyPost_ret (v:=.agg ((readOf s).arr (.slice (some ⟨m,0,none⟩) n n))) (Jp rfl _ _ r 0 _ _ rfl Tryz.underlying82 rfl (by rw [(readOf s).arr_size HRW.out];exact Kc) (Blk.all hZ rfl)) rfl ⟨_,rfl,?_,HF.out,fun b o k c h=>by cases h;have:=H6.g0;have:=H6.gr;have:=H6.rt;omega⟩;have hz:=HM6.only hOZ (by have:=H6.rt;omega);have hb:=BytesAt.of_blk (cap:=n) hz;have e:readOf s=J3z id o n s p:=(J8x HK.out HID.out HO.out HNN.out HPP.out).symm;rw [e];have el:((s.drop 8).take (min 16 n)++zeros (n-16)).length=n:=by
  simp [HS.length,zeros];omega
 rw [el] at hb;exact hb
theorem J8z(s:List Int)(hs:Sc s)(hk:JR s=3)(w:World):Calls Tryz.prog 144 #[.agg (u8s s).toArray] w fun e w'=>∃sv,e=.returned (.agg ((readOf s).arr sv))∧BytesAt w' sv (readOf s).bytes∧Below w.heap.size w w'∧Fresh w.heap.size sv:=by
 have HS:=Zh hs;obtain⟨hi1,hi2⟩:=sc_byte hs 1;obtain⟨id,hid⟩:∃i,s.getD 1 0=i:=⟨_,rfl⟩
 rw [hid] at hi1 hi2;have HID:=Zh hid;have HK:=Zh hk;have hk0:=sc_byte hs 0;clear hk0;go_enter Tryz.func144,Tryz.ntmps144
 repeat (first|(with_reducible refine JO (id:=0) ?_)|go_values|go_skip|go_guarded|go_step|go_upon|go_back)
 refine Stop.mk (wp_region_lit ?_);refine JV rfl rfl ?_;intro wA hA hB hl;refine nm ?_;refine J4 zero82b rfl ?_;intro wB hR hB2 hl2;refine nm ?_;have hA2:=hA.below hB2 hl;have hBB:=hB.trans (hB2.mono hB.size);refine Zn ?_
 repeat (first|(with_reducible refine JO (id:=1) ?_)|go_values|go_skip|go_guarded|go_step|go_upon|go_back)
 refine Stop.mk (wp_region_lit ?_);have c0:wB.cell? ⟨w.heap.size,0,none⟩=some (.int .u8 (JR s)):=hA2.cell (Kn HS.out (by decide));rw [HK.out] at c0;have c1:wB.cell? ⟨w.heap.size,1,none⟩=some (.int .u8 id):=by rw [←HID.out];exact hA2.cell (Kn HS.out (by decide))
 refine tk (.pointer (some ⟨w.heap.size,0,none⟩)) ?_;refine tk (.int .u8 3) ?_;refine tk (.int .i64 3) ?_ (hr:=by go_simp;rfl);refine tk (.pointer (some ⟨w.heap.size,1,none⟩)) ?_;refine tk (.int .u8 (id)) ?_;refine tk (.int .i64 id) ?_ (hr:=by go_simp;exact JQ hi1 (by omega));refine tk (.agg (Bk.arr ⟨3,id,zeros 32,0,[],0,zeros 8⟩ KH)) ?_ (hr:=(J8 _ _ _ _ 82 #[(0,.tmp 7),(1,.tmp 10)] rfl #[(0,.int .i64 3),(1,.int .i64 (id))] (by simp only [List.map_toArray,List.map_cons,List.map_nil];rfl) _ (Yx 3 (id) _)));refine J4 zero82b rfl ?_;intro wC hC hBC hlC;refine nm ?_;refine J3 hC (by rfl) (by exact Kc) (KK _ _ _ _) rfl rfl rfl ?_;intro wD hD hOD hlD;refine nm ?_;have hBD:=hBC.trans (hOD.below hBC.size (fun k hk=>Nat.le_of_eq hk.symm));have H1:Hid (RT w wD w.heap.size wA.heap.size wB.heap.size s ⟨3,id,zeros 32,0,[],0,zeros 8⟩ KH):=Zh
  ⟨hA2.below hBD hA2.lt,hR.below hBD hR.lt,hD,hBB.trans (hBD.mono hBB.size),Nat.le_refl _,hl,hl2⟩
 clear c0 c1 hA hB hl hR hB2 hl2 hA2 hBB hC hBC hlC hD hOD hlD hBD;generalize hgg:w.heap.size=g at *;generalize wA.heap.size=r at *;generalize wB.heap.size=t at *;have HGG:=Zh hgg;clear hgg wA wB wC;have ck:wD.cell? ⟨t,0,none⟩=some (.int .i64 3):=H1.blk.cell rfl;go_wp2_with fail
 go_loopg [41] 8 (fun q i wr=>∃k:Nat,8-k≤q∧k≤8∧i=.int .i64 k∧RT w wr g r t s ⟨3,id,zeros 32,0,[],0,(List.range k).map (Zb s)++zeros (8-k)⟩ KH)
 case atStart=>exact⟨0,by omega,by omega,rfl,H1.out⟩
 case round =>
  obtain⟨k,hg,hk,rfl,hrt⟩:=hrel;have HR:=Zh hrt;clear hrt H1
  by_cases hlt:k<8
  · have hcell:=HR.cellH rfl k;rw [show (Jq ((List.range k).map (Zb s)++zeros (8-k)))[k]? = some (.int .i64 0) from by
     rw [List.getElem?_map,List.getElem?_append_right (by simp),zeros,List.getElem?_replicate,if_pos (by rw [List.length_map,List.length_range];omega)]
     rfl] at hcell
    have hfro:=HR.blk.frozen (37+k);have hp2:=XS _ (kW HS.out (6+2*k) 2);have hp3:((s.drop (6+2*k)).take 2).length=2:=by
     rw [List.length_take,List.length_drop,HS.length];omega
    rw [hp3] at hp2;obtain⟨hp4,hp5⟩:=hp2;have HG2:=Zh (get2_any wr g (6+2*k) (64-(6+2*k)) ((s.drop (6+2*k)).take 2) hp3 (kW HS.out (6+2*k) 2) (fun i x hx=>HR.seg (6+2*k) 2 i x hx));generalize hpp:num ((s.drop (6+2*k)).take 2)=p at *;have HPP:=Zh hpp;have hp6:p<65536:=hp5;clear hpp hp3 hp5
    go_wp2_with fail
    refine (kJ wr g k hlt).mono ?_;rintro e w6 ⟨rfl,rfl⟩
    go_wp2_with fail
    refine HG2.mono ?_;rintro e w7 ⟨rfl,rfl⟩
    go_wp2_with fail
    go_roundg (8-(k+1))
    case measure=>omega
    case rel =>
     refine⟨k+1,by omega,by omega,by go_num,?_⟩;refine HR.set (37+k) (.int .i64 p) ?_;rw [J1i _ rfl];congr 1;simp only [Bk.mk.injEq,true_and];rw [List.set_append_right _ _ (by simp),List.range_succ,show 8-k=(8-(k+1))+1 by omega,show zeros ((8-(k+1))+1)=0::zeros (8-(k+1)) from rfl];simp [Zb,HPP.out]
  · have H9:Hid (RT w wr g r t s ⟨3,id,zeros 32,0,[],0,(List.range 8).map (Zb s)⟩ KH):=Zh (by
     obtain rfl:k=8:=by omega
     have:=HR.out
     simpa [zeros] using this)
    have hk8:k=8:=by omega
    clear HR;subst hk8
    repeat (first|(with_reducible refine JO (id:=16) ?_)|go_values|go_skip|go_guarded|go_step|go_upon|go_back)
    refine Stop.mk (wp_region_lit ?_);have HB:=Zh H9.blk;have HRW:=Zh (readOf_wf HS.out);rw [(show (⟨3,id,zeros 32,0,[],0,(List.range 8).map (Zb s)⟩:Bk)=readOf s from by rw [←HID.out];unfold readOf;simp [HK.out])] at HB;refine JJ (cs:=(readOf s).arr KH) (Blk.all HB.out rfl) ((readOf s).arr_size HRW.out _) rfl rfl ?_;refine nm ?_;refine J3 (cs:=(readOf s).arr KH) H9.res (by rw [(readOf s).arr_size HRW.out];rfl) (by rw [(readOf s).arr_size HRW.out];exact Kc) (KK _ _ _ _) rfl rfl rfl ?_;intro wZ hZ hOZ hlZ;refine nm ?_;have HF:=Zh (H9.bel.trans (hOZ.below H9.bel.size (fun k hk=>by have:=H9.g0;have:=H9.gr;omega)));go_wp2_with fail
    refine bodyPost_ret (v:=.agg ((readOf s).arr KH)) (Jp rfl _ _ r 0 _ _ rfl Tryz.underlying82 rfl (by rw [(readOf s).arr_size HRW.out];exact Kc) (Blk.all hZ rfl)) rfl ⟨_,rfl,?_,HF.out,Fresh.nil _⟩;rw [show (readOf s).bytes=[] from by unfold readOf;simp [HK.out]];exact BytesAt.nil _ _ _
theorem read_any(s:List Int)(hs:Sc s)(w:World):Calls Tryz.prog 144 #[.agg (u8s s).toArray] w fun e w'=>∃sv,e=.returned (.agg ((readOf s).arr sv))∧BytesAt w' sv (readOf s).bytes∧Below w.heap.size w w'∧Fresh w.heap.size sv:=by
 by_cases k1:JR s=1
 · exact J8w s hs k1 w
 · by_cases k2:JR s=2
   · exact J8y s hs k2 w
   · by_cases k3:JR s=3
     · exact J8z s hs k3 w
     · exact J8v s hs ⟨k1,k2,k3⟩ w
theorem Qw{fn:Func}{p q r:Tmp}{ty:TypeId}(h:fn.results=#[.cell p ty,.tmp q,.tmp r])(tmps:Array Value)(w:World)(g off:Nat)(cs:Array Value)(d:TypeDesc)(v u:Value)(hp:tmps.getD p undef=.pointer (some ⟨g,off,none⟩))(hv:tmps.getD q undef=v)(hv2:tmps.getD r undef=u)(hu:P.underlying ty=some d)(hd:(match d with|.struct _|.array _ _=>true|_=>false)=true)(hi:(P.info? ty).map (·.size)=some cs.size)(hc:∀j (h:j<cs.size),w.cell? ⟨g,off+j,none⟩=some cs[j]) :
 (results fn tmps).run P w=.ok (.tuple #[.agg cs,v,u]) w:=by
 have hp':tmps[p]?.getD undef=.pointer (some ⟨g,off,none⟩):=by simpa using hp
 have hv':tmps[q]?.getD undef=v:=by simpa using hv
 have hv2':tmps[r]?.getD undef=u:=by simpa using hv2
 simp [results,h,hp',hv',hv2',asAddr,Kb w g off ty cs d hu hd hi hc]
theorem J90:Tryz.prog.built 82 []=some (Bk.none.arr KH):=by kernel_rfl
theorem ku(w:World):(Instr.build 82 #[]).run Tryz.prog w=.ok (.agg (Bk.none.arr KH)) w:=run_build w 82 _ _ J90
theorem ZP(b:Bk)(h:BytesAt w sv l):∀v∈b.arr sv,v.oneCell'=true:=by
 obtain⟨a,cap,rfl,_⟩:=h;exact KK b a _ cap
theorem J1l{b:Bk}(h:b.Wf)(n:Int):(b.sec n).length=64:=by
 unfold Bk.sec;cases hg:b.good
 · simp [zeros]
 · simpa using enc_length hg h n
theorem kX(s:List Int)(hs:Sc s)(w:World):Calls Tryz.prog 116 #[.agg (u8s s).toArray] w fun e w'=>∃sv,e=.returned (.tuple #[.agg ((Qm s).arr sv),.int .u32 (ZN s),.int .i64 (Ym s)])∧BytesAt w' sv (Qm s).bytes∧Below w.heap.size w w'∧Fresh w.heap.size sv:=by
 have HS:=Zh hs;have HSL:Hid ((u8s s).toArray.size=64):=Zh (by rw [J2,hs.length]);have HRW:=Zh (readOf_wf hs);have HSR:=Zh (jO hs);have HRD:=Zh fun w=>read_any s hs w;have hsl4:((s.drop 2).take 4).length=4:=by rw [List.length_take,List.length_drop,hs.length];omega
 clear hs;go_enter Tryz.func116,Tryz.ntmps116
 repeat (first|(with_reducible refine JO (id:=0) ?_)|go_values|go_skip|go_guarded|go_step|go_upon|go_back)
 refine Stop.mk (wp_region_lit ?_);refine JV rfl rfl ?_;intro wA hA hB hl;refine nm ?_;refine J4 zero82b rfl ?_;intro wB hR hB2 hl2;refine nm ?_;have hA2:=hA.below hB2 hl;have hBB:=hB.trans (hB2.mono hB.size);refine tk (.int .u32 0) ?_;refine tk (.int .i64 0) ?_;have HA2:Hid (Blk wB w.heap.size (u8s s)∧Blk wB wA.heap.size (Bk.none.cells KH)∧Below w.heap.size w wB∧w.heap.size<wA.heap.size):=Zh ⟨hA2,hR,hBB,hl⟩;clear hA hB hl hR hB2 hl2 hA2 hBB;generalize hgg:w.heap.size=g at *;generalize wA.heap.size=r at *;have HGG:=Zh hgg;clear hgg wA;go_upto_region 1 with fail
 go_cut [5,6] from 9 to 13 (fun s5 s6 wx=>∃t sv,s5=.pointer (some ⟨t,0,none⟩)∧s6=.int .u32 (Ky s)∧RT w wx g r t s (readOf s) sv∧BytesAt wx sv (readOf s).bytes∧Fresh (r+1) sv)
 case first =>
  have hAt:∀wq,Below wB.heap.size wB wq→At wq g 0 (u8s s).toArray:=fun wq hq=>Blk.all (HA2.out.1.below hq HA2.out.1.lt) rfl;have HC4:=Zh fun (wq:World) (hq:Below wB.heap.size wB wq)=>get4_any wq g 2 62 ((s.drop 2).take 4) hsl4 (kW HS.out 2 4) (fun i x hx=>(HA2.out.1.below hq HA2.out.1.lt).cell (by
   have hj:i<4:=by
    have:=(Zg hx).1
    omega
   rw [List.getElem?_take_of_lt hj,List.getElem?_drop] at hx
   rw [List.getElem?_map,hx]
   rfl))
  refine J9 (fun wq=>Below wB.heap.size wB wq) (by kernel_rfl) ?_;have HSX:Hid (Below wB.heap.size wB wB.drew):=Zh Zq.drew;generalize wB.drew=wS at *;refine Jl 0 (some 9) (.agg (u8s s).toArray) rfl rfl (by kernel_rfl) (by kernel_rfl) (by kernel_rfl) (fun _ _ _ h=>h) rfl (fun w hS=>exec_load_at w _ _ 36 _ rfl g 0 rfl _ _ Tryz.underlying36 rfl (by rw [HSL.out];exact info36) (hAt w hS)) HSX.out ?_;refine nm ?_;refine Jl 2 (some 11) (.slice (some ⟨g,2,none⟩) 4 62) rfl rfl (by kernel_rfl) (by kernel_rfl) (by kernel_rfl) (fun _ _ _ h=>h) rfl (fun w hS=>by go_simp) HSX.out ?_;refine nm ?_;refine kO 1 4 (by kernel_rfl) rfl rfl rfl rfl (fun K hK=>?_) (fun K hK=>?_)
  · go_simp;refine (HRD.out _).mono ?_;rintro e w1 ⟨sv,rfl,hby,hb,hfr⟩;have HSY:=Zh (HSX.trans (hb.mono HSX.size));have HFR0:=Zh (show ∀b o n c,sv=.slice (some ⟨b,o,none⟩) n c→0<(readOf s).bytes.length→b<w1.heap.size from fun b o n c h hl=>hby.lt hl h);have HFRR:=Zh (show Fresh (r+1) sv from fun b o n c h=>by have:=hfr b o n c h;have:=HSX.size;have:=HA2.out.2.1.lt;omega);have HBY:=Zh hby;refine hK _ _ HSY.out ?_;clear hK K hb hby HSX hfr;have HSX:=HSY;clear HSY;refine nm ?_;refine kO 3 4 (by kernel_rfl) rfl rfl rfl rfl (fun K hK=>?_) (fun K hK=>?_)
    · go_simp;refine (HC4.out _ HSX.out).mono ?_;rintro e w2 ⟨rfl,rfl⟩;refine hK _ _ HSX.out (nm ?_);clear hK K;rw [show num ((s.drop 2).take 4)=Ky s from rfl];refine Zo 4 fun K hK=>?_;refine Jf (some 5) rfl _ _ (JB _ _ _ 82 rfl _ zero82b) ?_;have hT:=Blk.new w1 (Bk.none.arr KH) 82;have hBT:=(Below.refl w1.heap.size w1).alloc Zy (.cells (Bk.none.arr KH) 82);have HSY:=Zh (HSX.trans (hBT.mono HSX.size));have HT:=Zh hT;have HTB:=Zh HSX.size;have HBZ:=Zh (HBY.below hBT);clear HBY;have HBY:=HBZ;clear HBZ;refine hK _ _ HSY.out ?_;clear hK K hBT hT HSX;have HSX:=HSY;clear HSY;refine nm ?_;generalize w1.alloc (.cells (Bk.none.arr KH) 82)=wD at *;generalize w1.heap.size=t at *;refine Zo 5 fun K hK=>?_;refine Kp 82 _ _ rfl t 0 ((readOf s).arr sv) rfl rfl _ HT.out (by rw [(readOf s).arr_size HRW.out];exact Kc) (by rw [(readOf s).arr_size HRW.out];decide) (ZP _ HBY.out) ?_;rw [JW _ _ (by rw [(readOf s).arr_size HRW.out];rfl)];have hT2:=HT.row ((readOf s).arr sv);have hOT:=(Only.refl (fun k=>k=t) wD).setRow (g:=t) (.inl rfl) ((readOf s).arr sv);generalize wD.setRow t ((readOf s).arr sv)=wT at *;have hbf:=hOT.below HSX.size (fun k hk=>by have:=HTB.out;omega);have HSY:=Zh (HSX.trans hbf);have HBZ:Hid (BytesAt wT sv (readOf s).bytes):=Zh (by
       rcases Nat.eq_zero_or_pos (readOf s).bytes.length with h0|h0
       · obtain⟨a,cap,e,_⟩:=HBY.out
         exact⟨a,cap,e,fun i x hx=>by rw [List.eq_nil_of_length_eq_zero h0] at hx;simp at hx⟩
       · exact HBY.only hOT fun b o n c h=>by have:=HFR0.out b o n c h h0;omega)
      refine hK _ _ HSY.out (nm ?_);clear hK K;refine Jl 6 (some 6) (.int .u32 (Ky s)) rfl rfl (by kernel_rfl) (by kernel_rfl) (by kernel_rfl) (fun _ _ _ h=>h) rfl (fun w hS=>by go_simp) HSY.out ?_;refine nm ?_;refine Zd ?_
      go_wp2_with fail
      go_meet
      refine⟨t,sv,rfl,rfl,⟨HA2.out.1.below HSY.out HA2.out.1.lt,HA2.out.2.1.below HSY.out HA2.out.2.1.lt,hT2,by rw [HGG.out];exact HA2.out.2.2.1.trans (HSY.mono (by have:=HA2.out.2.2.1.size;have:=HGG.out;omega)),Nat.le_of_eq HGG.out,HA2.out.2.2.2,by have:=HTB.out;have:=HA2.out.2.1.lt;omega⟩,HBZ.out,HFRR.out⟩
    · refine Jf (some 5) rfl _ _ (JB _ _ _ 82 rfl _ zero82b) ?_;have hT:=Blk.new w1 (Bk.none.arr KH) 82;have hBT:=(Below.refl w1.heap.size w1).alloc Zy (.cells (Bk.none.arr KH) 82);have HSY:=Zh (HSX.trans (hBT.mono HSX.size));have HT:=Zh hT;have HTB:=Zh HSX.size;have HBZ:=Zh (HBY.below hBT);clear HBY;have HBY:=HBZ;clear HBZ;refine hK _ _ HSY.out ?_;clear hK K hBT hT HSX;have HSX:=HSY;clear HSY;refine nm ?_;generalize w1.alloc (.cells (Bk.none.arr KH) 82)=wD at *;generalize w1.heap.size=t at *;refine Zo 3 fun K hK=>?_;go_simp;refine (HC4.out _ HSX.out).mono ?_;rintro e w2 ⟨rfl,rfl⟩;refine hK _ _ HSX.out (nm ?_);clear hK K;rw [show num ((s.drop 2).take 4)=Ky s from rfl];refine Zo 5 fun K hK=>?_;refine Kp 82 _ _ rfl t 0 ((readOf s).arr sv) rfl rfl _ HT.out (by rw [(readOf s).arr_size HRW.out];exact Kc) (by rw [(readOf s).arr_size HRW.out];decide) (ZP _ HBY.out) ?_;rw [JW _ _ (by rw [(readOf s).arr_size HRW.out];rfl)];have hT2:=HT.row ((readOf s).arr sv);have hOT:=(Only.refl (fun k=>k=t) wD).setRow (g:=t) (.inl rfl) ((readOf s).arr sv);generalize wD.setRow t ((readOf s).arr sv)=wT at *;have hbf:=hOT.below HSX.size (fun k hk=>by have:=HTB.out;omega);have HSY:=Zh (HSX.trans hbf);have HBZ:Hid (BytesAt wT sv (readOf s).bytes):=Zh (by
       rcases Nat.eq_zero_or_pos (readOf s).bytes.length with h0|h0
       · obtain⟨a,cap,e,_⟩:=HBY.out
         exact⟨a,cap,e,fun i x hx=>by rw [List.eq_nil_of_length_eq_zero h0] at hx;simp at hx⟩
       · exact HBY.only hOT fun b o n c h=>by have:=HFR0.out b o n c h h0;omega)
      refine hK _ _ HSY.out (nm ?_);clear hK K;refine Jl 6 (some 6) (.int .u32 (Ky s)) rfl rfl (by kernel_rfl) (by kernel_rfl) (by kernel_rfl) (fun _ _ _ h=>h) rfl (fun w hS=>by go_simp) HSY.out ?_;refine nm ?_;refine Zd ?_
      go_wp2_with fail
      go_meet
      refine⟨t,sv,rfl,rfl,⟨HA2.out.1.below HSY.out HA2.out.1.lt,HA2.out.2.1.below HSY.out HA2.out.2.1.lt,hT2,by rw [HGG.out];exact HA2.out.2.2.1.trans (HSY.mono (by have:=HA2.out.2.2.1.size;have:=HGG.out;omega)),Nat.le_of_eq HGG.out,HA2.out.2.2.2,by have:=HTB.out;have:=HA2.out.2.1.lt;omega⟩,HBZ.out,HFRR.out⟩
  · refine Jf (some 5) rfl _ _ (JB _ _ _ 82 rfl _ zero82b) ?_;have hT:=Blk.new wS (Bk.none.arr KH) 82;have hBT:=(Below.refl wS.heap.size wS).alloc Zy (.cells (Bk.none.arr KH) 82);have HSY:=Zh (HSX.trans (hBT.mono HSX.size));have HT:=Zh hT;have HTB:=Zh HSX.size;refine hK _ _ HSY.out ?_;clear hK K hBT hT HSX;have HSX:=HSY;clear HSY;refine nm ?_;generalize wS.alloc (.cells (Bk.none.arr KH) 82)=wD at *;generalize wS.heap.size=t at *;refine Zo 1 fun K hK=>?_;go_simp;refine (HRD.out _).mono ?_;rintro e w1 ⟨sv,rfl,hby,hb,hfr⟩;have HSY:=Zh (HSX.trans (hb.mono HSX.size));have HFR:=Zh (show ∀b o n c,sv=.slice (some ⟨b,o,none⟩) n c→b≠t from fun b o n c h=>by have:=hfr b o n c h;have:=HT.lt;omega);have HT':=Zh (HT.below hb HT.lt);clear HT;have HT:=HT';clear HT';have HFRR:=Zh (show Fresh (r+1) sv from fun b o n c h=>by have:=hfr b o n c h;have:=HSX.size;have:=HA2.out.2.1.lt;omega);have HBY:=Zh hby;refine hK _ _ HSY.out ?_;clear hK K hb hby HSX hfr;have HSX:=HSY;clear HSY;refine nm ?_;refine Zo 3 fun K hK=>?_;go_simp;refine (HC4.out _ HSX.out).mono ?_;rintro e w2 ⟨rfl,rfl⟩;refine hK _ _ HSX.out (nm ?_);clear hK K;rw [show num ((s.drop 2).take 4)=Ky s from rfl];refine Zo 5 fun K hK=>?_;refine Kp 82 _ _ rfl t 0 ((readOf s).arr sv) rfl rfl _ HT.out (by rw [(readOf s).arr_size HRW.out];exact Kc) (by rw [(readOf s).arr_size HRW.out];decide) (ZP _ HBY.out) ?_;rw [JW _ _ (by rw [(readOf s).arr_size HRW.out];rfl)];have hT2:=HT.row ((readOf s).arr sv);have hOT:=(Only.refl (fun k=>k=t) w1).setRow (g:=t) (.inl rfl) ((readOf s).arr sv);generalize w1.setRow t ((readOf s).arr sv)=wT at *;have hbf:=hOT.below HSX.size (fun k hk=>by have:=HTB.out;omega);have HSY:=Zh (HSX.trans hbf);have HBZ:=Zh (HBY.only hOT HFR.out);refine hK _ _ HSY.out (nm ?_);clear hK K;refine Jl 6 (some 6) (.int .u32 (Ky s)) rfl rfl (by kernel_rfl) (by kernel_rfl) (by kernel_rfl) (fun _ _ _ h=>h) rfl (fun w hS=>by go_simp) HSY.out ?_;refine nm ?_;refine Zd ?_
    go_wp2_with fail
    go_meet
    refine⟨t,sv,rfl,rfl,⟨HA2.out.1.below HSY.out HA2.out.1.lt,HA2.out.2.1.below HSY.out HA2.out.2.1.lt,hT2,by rw [HGG.out];exact HA2.out.2.2.1.trans (HSY.mono (by have:=HA2.out.2.2.1.size;have:=HGG.out;omega)),Nat.le_of_eq HGG.out,HA2.out.2.2.2,by have:=HTB.out;have:=HA2.out.2.1.lt;omega⟩,HBZ.out,HFRR.out⟩
 case rest =>
  obtain⟨t,sv,rfl,rfl,H2,HBY,hfr⟩:=hcut;have HFR:=Zh hfr;clear hfr;have HB2:=Zh HBY;have H2:=Zh H2;clear HBY;have HEN:=Zh fun w h=>kN (readOf s) sv (Ky s) w h HRW.out HSR.out
  repeat (first|(with_reducible refine JO (id:=2) ?_)|go_values|go_skip|go_guarded|go_step|go_upon|go_back)
  refine Stop.mk (wp_region_lit ?_);refine JJ (cs:=(readOf s).arr sv) (Blk.all H2.blk rfl) ((readOf s).arr_size HRW.out _) rfl rfl ?_;refine nm ?_;refine tk (.int .u32 (Ky s)) ?_;refine J0 rfl fun K hK=>?_;go_simp;refine (HEN.out _ HB2.out).mono ?_;rintro e w3 ⟨rfl,hb⟩;have H3:=Zh (H2.below hb);have HB3:=Zh (HB2.below hb);refine hK _ _ ?_;clear hK K hb H2 HB2 HEN;refine nm ?_;refine tk (.tuple #[.agg (u8s ((readOf s).sec (Ky s))).toArray,.int .i64 (readOf s).err]) ?_;refine tk (.agg (u8s ((readOf s).sec (Ky s))).toArray) ?_;refine tk (.int .i64 (readOf s).err) ?_;have HSE:=Zh (J1l HRW.out (Ky s));refine J4 Kd rfl ?_;intro wC hC hBC hlC;refine nm ?_;refine J3 (cs:=(u8s ((readOf s).sec (Ky s))).toArray) hC (by rw [J2,HSE.out];simp [zeros]) (by rw [J2,HSE.out];exact info36) (Jj _) rfl rfl rfl ?_;intro wD hD hOD hlD;refine nm ?_;have hBD:=hBC.trans (hOD.below hBC.size (fun k hk=>Nat.le_of_eq hk.symm));have H4:=Zh (H3.below hBD);have HB4:=Zh (HB3.below hBD);have HD4:=Zh hD;clear hC hBC hlC hD hOD hlD hBD H3 HB3;generalize w3.heap.size=x at *;clear w3 wC;refine tk (.int .i64 (readOf s).err) ?_;refine Zn ?_
  repeat (first|(with_reducible refine JO (id:=3) ?_)|go_values|go_skip|go_guarded|go_step|go_upon|go_back)
  refine Stop.mk (wp_region_lit ?_);cases hg:(readOf s).good
  · have HSX:Hid ((readOf s).err=11):=Zh (by unfold Bk.err;rw [hg];rfl);rw [HSX.out];have hnb:JT s=false:=by unfold JT;rw [hg];rfl
    refine tk (.int .i64 11) ?_;refine tk (.bool true) ?_;refine tk (.bool true) ?_
    iterate 3 refine ps ?_
    refine tk (.bool true) ?_;refine Zn ?_
    repeat (first|(with_reducible refine JO (id:=4) ?_)|go_values|go_skip|go_guarded|go_step|go_upon|go_back)
    refine Stop.mk (wp_region_lit ?_);refine Ji (ku _) rfl ?_;refine nm ?_;refine J3 (cs:=Bk.none.arr KH) H4.res (by rfl) (by exact Kc) (KK _ _ _ _) rfl rfl rfl ?_;intro wZ hZ hOZ hlZ;refine nm ?_;refine tk (.int .u32 0) ?_;refine tk (.int .i64 11) ?_;have HF:=Zh (H4.bel.trans (hOZ.below H4.bel.size (fun k hk=>by have:=H4.g0;have:=H4.gr;omega)));go_wp2_with fail
    refine bodyPost_ret (v:=.tuple #[.agg (Bk.none.arr KH),.int .u32 0,.int .i64 11]) (Qw rfl _ _ r 0 _ _ _ _ rfl rfl rfl Tryz.underlying82 rfl (by exact Kc) (Blk.all hZ rfl)) rfl ⟨KH,by unfold Qm ZN Ym;rw [hnb];rfl,by unfold Qm;rw [hnb];exact BytesAt.nil _ _ _,HF.out,Fresh.nil _⟩
  · have HSX:Hid ((readOf s).err=0):=Zh (by unfold Bk.err;rw [hg];rfl);have HSS:Hid ((readOf s).sec (Ky s)=(readOf s).enc (Ky s)):=Zh (by unfold Bk.sec;rw [hg];rfl);have HNQ:=Zh fun w=>Jga w ((readOf s).sec (Ky s)) s HSE.out HS.length;rw [HSX.out];refine tk (.int .i64 0) ?_;refine tk (.bool false) ?_;refine tk (.bool false) ?_;refine Qc (cs:=(u8s ((readOf s).sec (Ky s))).toArray) (Blk.all HD4.out rfl) (by rw [J2,HSE.out]) rfl rfl ?_;refine nm ?_;refine Qc (cs:=(u8s s).toArray) (Blk.all H4.sec rfl) HSL.out rfl rfl ?_;refine nm ?_
    by_cases he:(readOf s).sec (Ky s)=s
    · have hnb:JT s=true:=by unfold JT;rw [hg,←HSS.out,he];simp
      simp only [he,decide_true] at HNQ;refine tk (.bool false) ?_ (hr:=by have hq:=HNQ.out;go_simp);refine tk (.bool false) ?_;refine Zn ?_
      repeat (first|(with_reducible refine JO (id:=5) ?_)|go_values|go_skip|go_guarded|go_step|go_upon|go_back)
      refine Stop.mk (wp_region_lit ?_);refine JJ (cs:=(readOf s).arr sv) (Blk.all H4.blk rfl) ((readOf s).arr_size HRW.out _) rfl rfl ?_;refine nm ?_;refine tk (.int .u32 (Ky s)) ?_;refine J3 (cs:=(readOf s).arr sv) H4.res (by rw [(readOf s).arr_size HRW.out];rfl) (by rw [(readOf s).arr_size HRW.out];exact Kc) (ZP _ HB4.out) rfl rfl rfl ?_;intro wZ hZ hOZ hlZ;refine nm ?_;refine tk (.int .u32 (Ky s)) ?_;refine tk (.int .i64 0) ?_;have HF:=Zh (H4.bel.trans (hOZ.below H4.bel.size (fun k hk=>by have:=H4.g0;have:=H4.gr;omega)));go_wp2_with fail
      refine bodyPost_ret (v:=.tuple #[.agg ((readOf s).arr sv),.int .u32 (Ky s),.int .i64 0]) (Qw rfl _ _ r 0 _ _ _ _ rfl rfl rfl Tryz.underlying82 rfl (by rw [(readOf s).arr_size HRW.out];exact Kc) (Blk.all hZ rfl)) rfl ⟨sv,by unfold Qm ZN Ym;rw [hnb];rfl,?_,HF.out,fun b o n c h=>by have:=HFR.out b o n c h;have:=H4.gr;have:=HGG.out;omega⟩;unfold Qm;rw [hnb];exact HB4.only hOZ fun b o n c h=>by have:=HFR.out b o n c h;omega
    · have hnb:JT s=false:=by unfold JT;rw [hg,←HSS.out];simpa using he
      simp only [he,decide_false] at HNQ;refine tk (.bool true) ?_ (hr:=by have hq:=HNQ.out;go_simp);refine tk (.bool true) ?_;refine Zn ?_
      repeat (first|(with_reducible refine JO (id:=4) ?_)|go_values|go_skip|go_guarded|go_step|go_upon|go_back)
      refine Stop.mk (wp_region_lit ?_);refine Ji (ku _) rfl ?_;refine nm ?_;refine J3 (cs:=Bk.none.arr KH) H4.res (by rfl) (by exact Kc) (KK _ _ _ _) rfl rfl rfl ?_;intro wZ hZ hOZ hlZ;refine nm ?_;refine tk (.int .u32 0) ?_;refine tk (.int .i64 11) ?_;have HF:=Zh (H4.bel.trans (hOZ.below H4.bel.size (fun k hk=>by have:=H4.g0;have:=H4.gr;omega)));go_wp2_with fail
      refine bodyPost_ret (v:=.tuple #[.agg (Bk.none.arr KH),.int .u32 0,.int .i64 11]) (Qw rfl _ _ r 0 _ _ _ _ rfl rfl rfl Tryz.underlying82 rfl (by exact Kc) (Blk.all hZ rfl)) rfl ⟨KH,by unfold Qm ZN Ym;rw [hnb];rfl,by unfold Qm;rw [hnb];exact BytesAt.nil _ _ _,HF.out,Fresh.nil _⟩
variable {cs:Array Value} {g i k n:Nat} {l:List Int} {sv:Value} {t:TypeId} {w:World} {y:Operand}
theorem zh{l:List Mk}{m:Mk}(h:l[k]? = some m):JC (l.take (k+1))=JC (l.take k)+if JE m.1 then 1 else 0:=by
 rw [List.take_add_one,h,Z0];simp [JC]
theorem J1m(l:List Int)(n k:Nat):(l++zeros n).getD k 0=l.getD k 0:=by
 simp only [List.getD_eq_getElem?_getD]
 by_cases h:k<l.length
 · rw [List.getElem?_append_left h]
 · rw [List.getElem?_append_right (by omega),List.getElem?_eq_none (l:=l) (by omega),zeros,List.getElem?_replicate];split <;> rfl
def J91(x:List Int):Int:=num ((x.drop 2).take 4)
def Kx(x:List Int)(n:Nat):List Mk:=(List.range n).map fun i=>(x.getD (7+2*i) 0,x.getD (8+2*i) 0)
theorem KM(x:List Int)(n:Nat):(Kx x n).length=n:=by simp [Kx]
theorem J1n(x:List Int)(h:i<n):(Kx x n)[i]? = some (x.getD (7+2*i) 0,x.getD (8+2*i) 0):=by simp [Kx,h]
theorem xZ(x:List Int)(n:Nat):Kx x (n+1)=Kx x n++[(x.getD (7+2*n) 0,x.getD (8+2*n) 0)]:=by simp [Kx,List.range_succ]
def J5(x:List Int):Sm:=⟨J91 x,decide (x.getD 1 0≠0),Kx x (min 24 (x.getD 6 0).toNat)⟩
def KN(x:List Int):Bool:=(J5 x).good&&decide ((J5 x).enc=x)
def jr(x:List Int):Sm:=if KN x then J5 x else Sm.none
def jP(x:List Int):Int:=if KN x then 0 else 11
theorem zi(s:Sm)(k:Nat):s.enc.getD (7+k) 0=(flat s.marks).getD k 0:=by
 have e:s.enc.getD (7+k) 0=(flat s.marks++zeros (57-2*s.marks.length)).getD k 0:=by
  simp only [List.getD_eq_getElem?_getD,Sm.enc];rw [List.getElem?_append_right (by rw [QJ];omega),QJ,show 7+k-7=k by omega]
 rw [e,J1m]
theorem J92(s:Sm)(i:Nat):s.enc.getD (7+2*i) 0=(s.marks.getD i (0,0)).1:=by
 rw [zi];simp only [List.getD_eq_getElem?_getD,kP];cases s.marks[i]? <;> rfl
theorem Jgz(s:Sm)(i:Nat):s.enc.getD (8+2*i) 0=(s.marks.getD i (0,0)).2:=by
 rw [show 8+2*i=7+(2*i+1) by omega,zi];simp only [List.getD_eq_getElem?_getD,kQ];cases s.marks[i]? <;> rfl
theorem Jiz(s:Sm):s.enc.getD 1 0=bit s.more:=rfl
theorem Jgb(s:Sm):s.enc.getD 6 0=s.marks.length:=rfl
theorem J93(s:Sm):(s.enc.drop 2).take 4=le 4 s.seq:=rfl
theorem J5n(s:Sm):Kx s.enc s.marks.length=s.marks:=by
 apply List.ext_getElem?;intro i
 by_cases h:i<s.marks.length
 · rw [J1n _ h,J92,Jgz,List.getD_eq_getElem?_getD,List.getElem?_eq_getElem h];rfl
 · rw [List.getElem?_eq_none (by rw [KM];omega),List.getElem?_eq_none (by omega)]
theorem xe{s:Sm}(h:s.good=true)(w:s.Wf):J5 s.enc=s:=by
 have hl:=QU h;obtain⟨seq,more,marks⟩:=s;unfold J5 J91;rw [J93,Jiz,Jgb,J3y _ w.seq];simp only [Int.toNat_natCast];have e:min 24 marks.length=marks.length:=Nat.min_eq_right hl.2;have e2:=J5n ⟨seq,more,marks⟩;simp only at e2 hl ⊢;rw [e,e2];cases more <;> rfl
theorem J5o{s:Sm}(h:s.good=true)(w:s.Wf):KN s.enc=true:=by
 simp [KN,xe h w,h]
theorem zj{x:List Int}(h:KN x=true)(hb:0≤x.getD 6 0):x.getD 6 0≤24:=by
 simp only [KN,Bool.and_eq_true,decide_eq_true_eq] at h;have e:=h.2;have e6:(J5 x).enc.getD 6 0=(J5 x).marks.length:=Jgb _;rw [e] at e6;simp only [J5,KM] at e6;omega
theorem Z3{x:List Int}(h:Sc x)(n:Nat):∀m∈Kx x n,Jh m.1∧Jh m.2:=fun m hm=>by
 obtain⟨i,_,rfl⟩:=List.mem_map.1 hm;have h1:=sc_byte h (7+2*i);have h2:=sc_byte h (8+2*i);exact⟨⟨by simp only;omega,by simp only;omega⟩,⟨by simp only;omega,by simp only;omega⟩⟩
theorem J1o{x:List Int}(h:Sc x):(J5 x).Wf:=⟨jO h,Z3 h _⟩
theorem J1p(sv:Value)(l:List Mk)(hl:l.length≤1000000)(w:World)(h:MarksAt w sv l):Calls Tryz.prog 190 #[sv] w (Zr w (.int .i64 (JC l))):=by
 obtain⟨a,cap,rfl,hc⟩:=id h;have HC:=Zh hc;clear h hc;go_enter Tryz.func190,Tryz.ntmps190
 go_wp2_with fail
 go_loopg [3,10] l.length (fun q n i wr=>∃k:Nat,l.length-k≤q∧k≤l.length∧i=.int .i64 k∧n=.int .i64 (JC (l.take k))∧Below w.heap.size w wr)
 case atStart=>exact⟨0,by omega,by omega,rfl,rfl,Below.refl _ _⟩
 case round =>
  obtain⟨k,hg,hk,rfl,rfl,hbel⟩:=hrel;have HB:=Zh hbel;clear hbel
  by_cases hlt:k<l.length
  · obtain⟨b,o,rfl,h1,h2⟩:=HC.out k l[k] (by simp [hlt]);have c1:=(HB.cell (block_lt_of_cell h1)).trans h1;have c2:=(HB.cell (block_lt_of_cell h2)).trans h2;have HBS:=Zh (zh (l:=l) (k:=k) (m:=l[k]) (by simp [hlt]));have hle:=QI (l.take k);have hle2:(l.take k).length≤k:=by simp;omega
    clear h1 h2;generalize l[k]=m at *;obtain⟨mk,mi⟩:=m;simp only at c1 c2;have hk0:(0:Int)≤(k:Int):=by omega
    have hk1:(k:Int)<(l.length:Int):=by omega
    have HK:=Zh fun w=>kR mk w
    go_wp2_with fail
    refine (HK.out _).mono ?_;rintro e w1 ⟨rfl,rfl⟩;cases hh:JE mk
    case false =>
     have HBQ:=HBS.out;simp only [hh,Bool.false_eq_true,if_false,Nat.add_zero] at HBQ;have HBQ:=Zh HBQ;clear HBS
     go_wp2_with fail
     go_roundg (l.length-(k+1))
     case measure=>omega
     case rel=>exact⟨k+1,by omega,by omega,by go_num,by rw [HBQ.out],HB.alloc HB.size _⟩
    case true =>
     have HBQ:=HBS.out;simp only [hh,if_true] at HBQ;have HBQ:=Zh HBQ;clear HBS
     go_wp2_with fail
     go_roundg (l.length-(k+1))
     case measure=>omega
     case rel=>exact⟨k+1,by omega,by omega,by go_num,by rw [HBQ.out];go_num,HB.alloc HB.size _⟩
  · have hkl:k=l.length:=by omega
    subst hkl;have HE:=Zh (show JC (l.take l.length)=JC l by rw [List.take_length]);clear hlt
    go_wp2_with fail
    go_ret;exact⟨by first|(rw [HE.out];done)|(rw [HE.out];rfl),HB.out⟩
theorem J94(n:Nat)(hn:n<256)(w:World):(Instr.makeSlice 297 (.int .u8 n) (.int .u8 n)).run Tryz.prog w=.ok (.slice (some ⟨w.heap.size,0,none⟩) n n) (w.alloc (.cells (madeCells #[.int .i64 0,.int .i64 0] (n*2)) 79)):=by
 obtain⟨i,hi,hz,hs,hb⟩:∃i,Tryz.prog.info? 79=some i∧i.zero=some (.agg #[.int .i64 0,.int .i64 0])∧i.size=2∧i.bytes=16:=by
  have:=J8e;cases hq:Tryz.prog.info? 79 with
  | none=>simp [hq] at this
  | some i=>simp [hq] at this;exact⟨i,rfl,this⟩
 have hr:=run_makeSlice (P:=Tryz.prog) w 297 79 i (.agg #[.int .i64 0,.int .i64 0]) Tryz.underlying297 hi hz .u8 .u8 n n (by omega) (Int.le_refl _) (by rw [hs];omega) (by rw [hb];omega) (by omega);simpa [hs,Value.cells] using hr
structure sRT (W w:World) (g r t m:Nat) (x:List Int) (q:Int) (b:Bool) (n:Nat) (l:List Int):Prop where
 sec:Blk w g (u8s x)
 res:Blk w r [.int .u32 0,.bool false,.slice none 0 0]
 var:Blk w t [.int .u32 q,.bool b,.slice (some ⟨m,0,none⟩) n n]
 row:Blk w m (Jq l)
 bel:Below W.heap.size W w
 g0:W.heap.size≤g
 gr:g<r
 rt:r<t
 rm:r<m
 tm:t≠m
section
variable {W w w':World} {g r t m:Nat} {x:List Int} {q:Int} {b:Bool} {n:Nat} {l:List Int}
theorem sRT.below(h:sRT W w g r t m x q b n l)(hb:Below w.heap.size w w'):sRT W w' g r t m x q b n l :=
 ⟨h.sec.below hb h.sec.lt,h.res.below hb h.res.lt,h.var.below hb h.var.lt,h.row.below hb h.row.lt,h.bel.trans (hb.mono h.bel.size),h.g0,h.gr,h.rt,h.rm,h.tm⟩
theorem sRT.drew(h:sRT W w g r t m x q b n l):sRT W w.drew g r t m x q b n l:=h.below Zq.drew
theorem sRT.setq(h:sRT W w g r t m x q b n l)(v p:Int)(e:v=p):sRT W (w.setCell ⟨t,0,none⟩ (.int .u32 v)) g r t m x p b n l:=by
 subst e;have ho:Only (fun k=>k=t) w (w.setCell ⟨t,0,none⟩ (.int .u32 v)):=(Only.refl (fun k=>k=t) w).setCell (p:=⟨t,0,none⟩) (.inl rfl) _;exact⟨h.sec.only ho (by have:=h.gr;have:=h.rt;omega),h.res.only ho (by have:=h.rt;omega),h.var.set 0 _,h.row.only ho (fun e=>h.tm e.symm),h.bel.trans (ho.below h.bel.size (fun k hk=>by have:=h.g0;have:=h.gr;have:=h.rt;omega)),h.g0,h.gr,h.rt,h.rm,h.tm⟩
theorem sRT.setm(h:sRT W w g r t m x q b n l)(i:Nat)(v:Int):sRT W (w.setCell ⟨m,i,none⟩ (.int .i64 v)) g r t m x q b n (l.set i v):=by
 have ho:Only (fun k=>k=m) w (w.setCell ⟨m,i,none⟩ (.int .i64 v)):=(Only.refl (fun k=>k=m) w).setCell (p:=⟨m,i,none⟩) (.inl rfl) _;refine⟨h.sec.only ho (by have:=h.gr;have:=h.rm;omega),h.res.only ho (by have:=h.rm;omega),h.var.only ho h.tm,?_,h.bel.trans (ho.below h.bel.size (fun k hk=>by have:=h.g0;have:=h.gr;have:=h.rm;omega)),h.g0,h.gr,h.rt,h.rm,h.tm⟩;have:=h.row.set i (.int .i64 v)
 rwa [←List.map_set] at this
end
theorem Qi:(Tryz.prog.info? 300).map (·.size)=some 3:=by kernel_rfl
theorem Xi(n:Int)(b:Bool)(a:Option Addr)(k cap:Nat):∀v∈(#[.int .u32 n,.bool b,.slice a k cap]:Array Value),v.oneCell'=true:=fun v hv=>by
 simp only [List.mem_toArray,List.mem_cons,List.not_mem_nil,or_false] at hv;rcases hv with rfl|rfl|rfl <;> rfl
section
variable {ops:Array Oper} {rest:List Oper} {dst:Option Tmp} {x y:Operand} {t2:TypeId} {pos:String} {after:Array Edge} {guard:Option (Nat×Bool)} {a:Act} {w:World} {Q:Exit→Act→World→Prop}
theorem y4{off:Nat}(hA:At w g off cs)(hs:cs.size=3)(hx:a.eval x=.pointer (some ⟨g,off,none⟩))(hw:Region.wanted ⟨dst,.load 300 x,t2,pos,after,guard⟩ (yielded ops a.tmps)=true)(h:wpList Tryz.prog ops Q rest (a.put dst (.agg cs)) w):wpList Tryz.prog ops Q (⟨dst,.load 300 x,t2,pos,after,guard⟩::rest) a w :=
 Jc hw 300 x rfl g off hx cs _ Tryz.underlying300 rfl (by rw [hs];exact Qi) hA h
end
theorem ZQ(w:World)(a b:Array Value)(s u:TypeId):Blk ((w.alloc (.cells a s)).alloc (.cells b u)).drew w.heap.size a.toList∧Blk ((w.alloc (.cells a s)).alloc (.cells b u)).drew (w.heap.size+1) b.toList∧Below w.heap.size w ((w.alloc (.cells a s)).alloc (.cells b u)).drew:=by
 refine⟨((Blk.new w a s).alloc _).drew,?_,((Zq.alloc Zy _).alloc (by simp) _).drew⟩;have:=Blk.new (w.alloc (.cells a s)) b u;simpa using this.drew
theorem J95(x:List Int)(h:Sc x):∃a0 a1 a2 a3,x.getD 2 0=a0∧x.getD 3 0=a1∧x.getD 4 0=a2∧x.getD 5 0=a3∧(x.drop 2).take 4=[a0,a1,a2,a3]:=by
 refine⟨_,_,_,_,rfl,rfl,rfl,rfl,?_⟩;have hl:=h.length;apply List.ext_getElem
 · simp [hl]
 · intro i h1 h2;have hi:i<4:=by simpa using h2
   rcases (show i=0∨i=1∨i=2∨i=3 by omega) with rfl|rfl|rfl|rfl <;> simp [hl]
theorem J96(x:List Int)(hk:k<n):((flat (Kx x k)++zeros ((n-k)*2)).set (k*2) (x.getD (7+2*k) 0)).set (k*2+1) (x.getD (8+2*k) 0)=flat (Kx x (k+1))++zeros ((n-(k+1))*2):=by
 have hz:zeros ((n-k)*2)=0::0::zeros ((n-(k+1))*2):=by
  rw [show (n-k)*2=(n-(k+1))*2+1+1 by omega];rfl
 have hf:(flat (Kx x k)).length=k*2:=by rw [Ka,KM];omega
 rw [hz,xZ,Yq,List.set_append_right _ _ (by omega),List.set_append_right _ _ (by omega),hf,Nat.sub_self,show k*2+1-k*2=1 by omega];simp [flat]
theorem J5p(x:List Int)(hx:Sc x)(h6:x.getD 6 0≤24)(w:World):Calls Tryz.prog 191 #[.agg (u8s x).toArray] w fun e w'=>∃sv,e=.returned (.agg #[.int .u32 (J5 x).seq,.bool (J5 x).more,sv])∧MarksAt w' sv (J5 x).marks∧Below w.heap.size w w'∧Fresh w.heap.size sv:=by
 have HX:=Zh hx;obtain⟨h60,_⟩:=sc_byte hx 6;obtain⟨n,hn⟩:∃n:Nat,x.getD 6 0=n:=⟨(x.getD 6 0).toNat,by omega⟩
 have HN:=Zh hn;have hn24:n≤24:=by omega
 have HMK:=Zh hn;have hmk:=J94 n (by omega);clear hx hn h6 h60;go_enter Tryz.func191,Tryz.ntmps191
 repeat (first|(with_reducible refine JO (id:=0) ?_)|go_values|go_skip|go_guarded|go_step|go_upon|go_back)
 refine Stop.mk (wp_region_lit ?_);refine JV rfl rfl ?_;intro wA hA hB hl1;refine nm ?_;refine J4 (cs:=#[.int .u32 0,.bool false,.slice none 0 0]) (by kernel_rfl) rfl ?_;intro wB hR hB2 hl2;refine nm ?_;have HA:=Zh (hA.below hB2 hl1);have HR:=Zh hR;have HB:=Zh (hB.trans (hB2.mono hB.size));have HLT:Hid (w.heap.size<wA.heap.size∧wA.heap.size<wB.heap.size):=Zh ⟨hl1,hl2⟩;clear hA hB hl1 hR hB2 hl2;generalize hgg:w.heap.size=g at *;generalize hrr:wA.heap.size=r at *;have HGG:=Zh hgg;clear hgg hrr wA;refine Zn ?_;have c1:wB.cell? ⟨g,1,none⟩=some (.int .u8 (x.getD 1 0)):=HA.cell (Kn HX.out (by decide));have c6:wB.cell? ⟨g,6,none⟩=some (.int .u8 (n:Int)):=by rw [←HN.out];exact HA.cell (Kn HX.out (by decide))
 obtain⟨y,hy⟩:∃y,x.getD 1 0=y:=⟨_,rfl⟩
 have HY:=Zh hy;rw [hy] at c1;clear hy;have HRT:=Zh (fun (t m:Nat) (b:Bool) (w':World) (hb:Below wB.heap.size wB w') (h1:Blk w' t [.int .u32 0,.bool b,.slice (some ⟨m,0,none⟩) n n]) (h2:Blk w' m (Jq (zeros (n*2)))) (ht:wB.heap.size≤t) (hm:wB.heap.size≤m) (hne:t≠m) =>
  show sRT w w' g r t m x 0 b n (zeros (n*2)) from ⟨HA.below hb HA.lt,HR.below hb HR.lt,h1,h2,by have:=HB.trans (hb.mono (by have:=HB.size;have:=HGG.out;omega));first|exact this|(rw [HGG.out];exact this),by have:=HGG.out;omega,HLT.out.1,by have:=HLT.out.2;omega,by have:=HLT.out.2;omega,hne⟩)
 go_upto_region 1 with fail
 go_cut [3] from 7 to 14 (fun s3 wx=>∃t m,s3=.pointer (some ⟨t,0,none⟩)∧sRT w wx g r t m x 0 (decide (y≠0)) n (zeros (n*2)))
 case first =>
  have c1o:∀o,(wB.alloc o).cell? ⟨g,1,none⟩=some (.int .u8 y):=fun o=>((Zq.alloc Zy o).cell (block_lt_of_cell c1)).trans c1;have c6o:∀o,(wB.alloc o).cell? ⟨g,6,none⟩=some (.int .u8 (n:Int)):=fun o=>((Zq.alloc Zy o).cell (block_lt_of_cell c6)).trans c6;have c1p:∀o o',((wB.alloc o).alloc o').cell? ⟨g,1,none⟩=some (.int .u8 y):=fun o o'=>((Zq.alloc Zy o').cell (block_lt_of_cell (c1o o))).trans (c1o o);have c6p:∀o o',((wB.alloc o).alloc o').cell? ⟨g,6,none⟩=some (.int .u8 (n:Int)):=fun o o'=>((Zq.alloc Zy o').cell (block_lt_of_cell (c6o o))).trans (c6o o)
  by_cases hy0:y=0
  · subst hy0
    go_region
    · go_wp2_with fail
      go_meet
      refine⟨wB.heap.size+1,wB.heap.size,rfl,?_⟩;obtain⟨q1,q2,q3⟩:=ZQ wB (madeCells #[.int .i64 0,.int .i64 0] (n*2)) #[.int .u32 0,.bool false,.slice (some ⟨wB.heap.size,0,none⟩) n n] 79 300;rw [Xc] at q1;exact HRT.out _ _ false _ q3 q2 q1 (by omega) (by omega) (by omega)
    · go_wp2_with fail
      go_meet
      refine⟨wB.heap.size,wB.heap.size+1,rfl,?_⟩;obtain⟨q1,q2,q3⟩:=ZQ wB #[.int .u32 0,.bool false,.slice (some ⟨wB.heap.size+1,0,none⟩) n n] (madeCells #[.int .i64 0,.int .i64 0] (n*2)) 300 79;rw [Xc] at q2;exact HRT.out _ _ false _ q3 q1 q2 (by omega) (by omega) (by omega)
  · go_region
    · go_wp2_with fail
      go_meet
      refine⟨wB.heap.size+1,wB.heap.size,rfl,?_⟩;obtain⟨q1,q2,q3⟩:=ZQ wB (madeCells #[.int .i64 0,.int .i64 0] (n*2)) #[.int .u32 0,.bool true,.slice (some ⟨wB.heap.size,0,none⟩) n n] 79 300;rw [Xc] at q1;rw [show decide (y≠0)=true from decide_eq_true hy0,show (y != 0)=true from by simp [hy0]];exact HRT.out _ _ true _ q3 q2 q1 (by omega) (by omega) (by omega)
    · go_wp2_with fail
      go_meet
      refine⟨wB.heap.size,wB.heap.size+1,rfl,?_⟩;obtain⟨q1,q2,q3⟩:=ZQ wB #[.int .u32 0,.bool true,.slice (some ⟨wB.heap.size+1,0,none⟩) n n] (madeCells #[.int .i64 0,.int .i64 0] (n*2)) 300 79;rw [Xc] at q2;rw [show decide (y≠0)=true from decide_eq_true hy0,show (y != 0)=true from by simp [hy0]];exact HRT.out _ _ true _ q3 q1 q2 (by omega) (by omega) (by omega)
 case rest =>
  obtain⟨t,m,rfl,hrt⟩:=hcut;have HRT:=Zh hrt;rw [show decide (y≠0)=(J5 x).more from by rw [←HY.out];rfl] at HRT;clear c1 c6 HY hmk hrt HA HR HB HLT;generalize hbb:(J5 x).more=b at *;obtain⟨a0,a1,a2,a3,e0,e1,e2,e3,hseq⟩:=J95 x HX.out;obtain⟨p0,q0⟩:=sc_byte HX.out 2;obtain⟨p1,q1⟩:=sc_byte HX.out 3;obtain⟨p2,q2⟩:=sc_byte HX.out 4;obtain⟨p3,q3⟩:=sc_byte HX.out 5;rw [e0] at p0 q0;rw [e1] at p1 q1;rw [e2] at p2 q2;rw [e3] at p3 q3;have HA0:=Zh e0;have HA1:=Zh e1;have HA2:=Zh e2;have HA3:=Zh e3;have HSQ:=Zh (show (J5 x).seq=num [a0,a1,a2,a3] from by rw [←hseq];rfl);have HBB:=Zh hbb;clear e0 e1 e2 e3 hseq hbb
  go_wp2_with fail
  go_loopg [14] 4 (fun q i wr=>∃k:Nat,4-k≤q∧k≤4∧i=.int .i64 k∧sRT w wr g r t m x (num ([a0,a1,a2,a3].take k)) b n (zeros (n*2)))
  case atStart=>exact⟨0,by omega,by omega,rfl,HRT.out⟩
  case round =>
   obtain⟨k,hgk,hk,rfl,hr⟩:=hrel;have HR:=Zh hr;clear hr HRT;rcases (show k=0∨k=1∨k=2∨k=3∨k=4 by omega) with rfl|rfl|rfl|rfl|rfl
   · have cg:wr.cell? ⟨g,2,none⟩=some (.int .u8 a0):=by rw [←HA0.out];exact HR.sec.cell (Kn HX.out (by decide))
     have ct:=HR.var.cell (i:=0) rfl;have ft:=HR.var.frozen 0;simp only [List.take_succ_cons,List.take_zero,num] at ct;go_upto_region 5 with fail
     go_region
     go_wp2_with fail
     go_roundg (4-1)
     case measure=>omega
     case rel =>
      refine⟨1,by omega,by omega,by go_num,?_⟩;refine sRT.drew ?_;refine HR.setq _ _ ?_;simp only [List.take_succ_cons,List.take_zero,num];rw [ZO _ (by omega)];omega
   · have cg:wr.cell? ⟨g,3,none⟩=some (.int .u8 a1):=by rw [←HA1.out];exact HR.sec.cell (Kn HX.out (by decide))
     have ct:=HR.var.cell (i:=0) rfl;have ft:=HR.var.frozen 0;simp only [List.take_succ_cons,List.take_zero,num] at ct;go_upto_region 5 with fail
     go_region
     go_wp2_with fail
     go_roundg (4-2)
     case measure=>omega
     case rel =>
      refine⟨2,by omega,by omega,by go_num,?_⟩;refine sRT.drew ?_;refine HR.setq _ _ ?_;simp only [List.take_succ_cons,List.take_zero,num];rw [u32_or8 _ _ (by omega) (by omega) (by omega) (by omega) (by omega)];omega
   · have cg:wr.cell? ⟨g,4,none⟩=some (.int .u8 a2):=by rw [←HA2.out];exact HR.sec.cell (Kn HX.out (by decide))
     have ct:=HR.var.cell (i:=0) rfl;have ft:=HR.var.frozen 0;simp only [List.take_succ_cons,List.take_zero,num] at ct;go_upto_region 5 with fail
     go_region
     go_wp2_with fail
     go_roundg (4-3)
     case measure=>omega
     case rel =>
      refine⟨3,by omega,by omega,by go_num,?_⟩;refine sRT.drew ?_;refine HR.setq _ _ ?_;simp only [List.take_succ_cons,List.take_zero,num];rw [u32_or16 _ _ (by omega) (by omega) (by omega) (by omega) (by omega)];omega
   · have cg:wr.cell? ⟨g,5,none⟩=some (.int .u8 a3):=by rw [←HA3.out];exact HR.sec.cell (Kn HX.out (by decide))
     have ct:=HR.var.cell (i:=0) rfl;have ft:=HR.var.frozen 0;simp only [List.take_succ_cons,List.take_zero,num] at ct;go_upto_region 5 with fail
     go_region
     go_wp2_with fail
     go_roundg (4-4)
     case measure=>omega
     case rel =>
      refine⟨4,by omega,by omega,by go_num,?_⟩;refine sRT.drew ?_;refine HR.setq _ _ ?_;simp only [List.take_succ_cons,List.take_zero,num];rw [u32_or24 _ _ (by omega) (by omega) (by omega) (by omega) (by omega)];omega
   · have ct:=HR.var.cell (i:=2) rfl;obtain⟨sq,hsq⟩:∃q,num ([a0,a1,a2,a3].take 4)=q:=⟨_,rfl⟩
     rw [hsq] at HR;have HQ:=Zh (show sq=(J5 x).seq from by rw [←hsq,HSQ.out];rfl);clear hsq HSQ HA0 HA1 HA2 HA3;have hn0:(n:Int)≤24:=by omega
     go_wp2_with fail
     go_loopg [33] n (fun q i wq=>∃k:Nat,n-k≤q∧k≤n∧i=.int .i64 k∧sRT w wq g r t m x sq b n (flat (Kx x k)++zeros ((n-k)*2)))
     case atStart=>exact⟨0,by omega,by omega,rfl,HR.out⟩
     case round =>
      obtain⟨k,hgk,hk,rfl,hr⟩:=hrel;clear HR ct;have HR:=Zh hr;clear hr
      by_cases hlt:k<n
      · have HST:=Zh (J96 x hlt);have HC1:=HR.sec.cell (i:=7+k*2) (Kn HX.out (by omega));have HC2:=HR.sec.cell (i:=7+k*2+1) (Kn HX.out (by omega));obtain⟨b1,b2⟩:=sc_byte HX.out (7+k*2);obtain⟨b3,b4⟩:=sc_byte HX.out (7+k*2+1);rw [show 7+2*k=7+k*2 by omega,show 8+2*k=7+k*2+1 by omega] at HST;generalize x.getD (7+k*2) 0=mk at *;generalize x.getD (7+k*2+1) 0=mi at *;have hlen:(flat (Kx x k)++zeros ((n-k)*2)).length=n*2:=by
         rw [List.length_append,Ka,KM,J1];omega
        have cm1:∃v,wr.cell? ⟨m,k*2,none⟩=some v:=⟨_,HR.row.cell (i:=k*2) (List.getElem?_eq_getElem (by rw [List.length_map,hlen];omega))⟩
        have cm2:∃v,wr.cell? ⟨m,k*2+1,none⟩=some v:=⟨_,HR.row.cell (i:=k*2+1) (List.getElem?_eq_getElem (by rw [List.length_map,hlen];omega))⟩
        obtain⟨v1,cm1⟩:=cm1;obtain⟨v2,cm2⟩:=cm2;have fm1:=HR.row.frozen (k*2);have fm2:=HR.row.frozen (k*2+1);have ct:=HR.var.cell (i:=2) rfl;clear hlen;have hk0:(0:Int)≤(k:Int):=by omega
        have hk1:(k:Int)<(n:Int):=by omega
        have hk2:(k:Int)<24:=by omega
        go_upto_region 11 with fail
        go_region
        go_wp2_with fail
        go_roundg (n-(k+1))
        case measure=>omega
        case rel =>
         refine⟨k+1,by omega,by omega,by go_num,?_⟩;have hs:=((HR.setm (k*2) mk).setm (k*2+1) mi).drew;rw [HST.out] at hs;exact hs
      · have hkl:k=n:=by omega
        subst hkl;have HR2:=HR.out;rw [show flat (Kx x k)++zeros ((k-k)*2)=flat (Kx x k) by rw [Nat.sub_self];exact List.append_nil _] at HR2;have HR2:=Zh HR2;clear hlt HR;go_upto_region 13 with fail;refine Zl ?_;refine y4 (cs:=#[.int .u32 sq,.bool b,.slice (some ⟨m,0,none⟩) k k]) (Blk.all HR2.var rfl) rfl rfl rfl ?_;refine nm ?_;refine J3 (cs:=#[.int .u32 sq,.bool b,.slice (some ⟨m,0,none⟩) k k]) HR2.res rfl Qi (Xi _ _ _ _ _) rfl rfl rfl ?_;intro wZ hZ hOZ hlZ;refine nm ?_;have HF:=Zh (HR2.bel.trans (hOZ.below HR2.bel.size (fun k hk=>by have:=HR2.g0;have:=HR2.gr;omega)));have HROW:=Zh (HR2.row.only hOZ (by have:=HR2.rm;omega));go_wp2_with fail
        refine bodyPost_ret (v:=.agg #[.int .u32 sq,.bool b,.slice (some ⟨m,0,none⟩) k k]) (Jp rfl _ _ r 0 _ _ rfl Tryz.underlying300 rfl Qi (hZ.all rfl)) rfl ⟨_,by rw [HQ.out,HBB.out],?_,by first|exact HF.out|(rw [HGG.out];exact HF.out),fun b o n c e=>by
         have h1:=HR2.rm
         have h2:=HR2.gr
         have h3:=HR2.g0
         have h4:=HGG.out
         injection e with e1 e2 e3
         injection e1 with e4
         injection e4 with e5 e6 e7
         omega⟩
        have hn:(J5 x).marks=Kx x k:=by
         simp only [J5,HN.out,Int.toNat_natCast];rw [Nat.min_eq_right hn24]
        rw [hn];exact MarksAt.of_row HROW.out (KM x k)
theorem J5q(q:Int)(b:Bool)(a:Option Addr)(n cap:Nat):J8f [.int .u32 q,.bool b,.slice a n cap]:=fun i n m h _=>by
 match i with
 | 0=>simp at h
 | 1=>simp at h
 | 2=>simp at h
 | i+3=>simp at h
theorem J97{l:List Mk}(h:MarksAt w sv l)(n:Int)(b:Bool):∀v∈(#[.int .u32 n,.bool b,sv]:Array Value),v.oneCell'=true:=by
 obtain⟨a,cap,rfl,_⟩:=h;exact Xi _ _ _ _ _
theorem Jh0:∃i,Tryz.prog.info? 5=some i∧i.size=1:=KV Xb
theorem Jd7:Tryz.prog.eqGuardType Tryz.prog.depth 36=false:=by kernel_rfl
theorem Jh1{m:List Int}(hl:l.length=64)(hm:m.length=64)(ev:Operand→Value)(o:Oper)(w:World){x:Operand}(ho:o.op=.binOp .neq 36 x y t)(hx:ev x=.agg (u8s l).toArray)(hy:ev y=.agg (u8s m).toArray):(execOp ev o).run Tryz.prog w=.ok (.value (.bool (!decide (l=m)))) w:=by
 obtain⟨i,hi,hs⟩:=Jh0;have:=Y3 (P:=Tryz.prog) w 36 5 64 .u8 .u8 i l m Tryz.underlying36 Tryz.underlying5 hi hs hl hm;unfold execOp;simp only [ho,hx,hy,Sem.run_bind,run_eqGuard_agg w .neq 36 x y _ _ Jd7,Result.andThen_ok,this,Sem.run_pure]
theorem J98:Tryz.prog.built 300 []=some #[.int .u32 0,.bool false,.slice none 0 0]:=by kernel_rfl
theorem kY(w:World):(Instr.build 300 #[]).run Tryz.prog w=.ok (.agg #[.int .u32 0,.bool false,.slice none 0 0]) w:=run_build w 300 _ _ J98
theorem J40:(Tryz.prog.info? 300).bind (·.zero)=some (.agg #[.int .u32 0,.bool false,.slice none 0 0]):=by kernel_rfl
theorem kv{x:List Int}(h:KN x=false):jr x=Sm.none∧jP x=11:=by unfold jr jP;rw [h];exact⟨rfl,rfl⟩
theorem ZR{x:List Int}(h:KN x=true):jr x=J5 x∧jP x=0:=by unfold jr jP;rw [h];exact⟨rfl,rfl⟩
theorem zk(x:List Int)(hx:Sc x)(w:World):Calls Tryz.prog 188 #[.agg (u8s x).toArray] w fun e w'=>∃sv,e=.returned (.tuple #[.agg #[.int .u32 (jr x).seq,.bool (jr x).more,sv],.int .i64 (jP x)])∧MarksAt w' sv (jr x).marks∧Below w.heap.size w w'∧Fresh w.heap.size sv:=by
 have HX:=Zh hx;have HXL:=Zh hx.length;obtain⟨h60,h61⟩:=sc_byte hx 6;obtain⟨n,hn⟩:∃n:Int,x.getD 6 0=n:=⟨_,rfl⟩
 rw [hn] at h60 h61;have HN:=Zh hn;clear hx hn;go_enter Tryz.func188,Tryz.ntmps188;go_upto_region 0 with fail;refine Zl ?_;refine JV rfl rfl ?_;intro wA hA hB hl1;refine nm ?_;refine J4 J40 rfl ?_;intro wB hR hB2 hl2;refine nm ?_;have HA:=Zh (hA.below hB2 hl1);have HR:=Zh hR;have HB:=Zh (hB.trans (hB2.mono hB.size));have HLT:Hid (w.heap.size<wA.heap.size):=Zh hl1;clear hA hB hl1 hR hB2 hl2;generalize hrr:wA.heap.size=r at *;clear hrr wA;refine tk (.int .i64 0) ?_;refine Zn ?_;have c6:wB.cell? ⟨w.heap.size,6,none⟩=some (.int .u8 n):=by rw [←HN.out];exact HA.cell (Kn HX.out (by decide))
 by_cases h24:24<n
 · have HNO:Hid (KN x=false):=Zh (by
    cases e:KN x with
    | false=>rfl
    | true =>
     have:=zj e (by rw [HN.out];exact h60)
     rw [HN.out] at this
     omega)
   go_upto_region 2 with fail;refine Zl ?_;refine Ji (kY _) rfl ?_;refine nm ?_;refine J3 (cs:=#[.int .u32 0,.bool false,.slice none 0 0]) HR.out rfl Qi (Xi _ _ _ _ _) rfl rfl rfl ?_;intro wZ hZ hOZ hlZ;refine nm ?_;have HF:=Zh (HB.trans (hOZ.below HB.size (fun k hk=>by have:=HLT.out;omega)));refine tk (.int .i64 11) ?_;go_wp2_with fail
   obtain⟨e1,e2⟩:=kv HNO.out;rw [e1,e2];refine bodyPost_ret (v:=.tuple #[.agg #[.int .u32 0,.bool false,.slice none 0 0],.int .i64 11]) (results_cell_tmp rfl _ _ r 0 _ _ _ rfl rfl Tryz.underlying300 rfl Qi (hZ.all rfl)) rfl ⟨_,rfl,MarksAt.nil _ _ _,HF.out,Fresh.nil _⟩
 · have HRD:=Zh fun w=>J5p x HX.out (by rw [HN.out];omega) w;have HWF:=Zh (J1o HX.out);have HIS:=Zh (show KN x=((J5 x).good&&decide ((J5 x).enc=x)) from rfl);have HML:Hid ((J5 x).marks.length≤1000000):=Zh (by
    have:(J5 x).marks.length=min 24 (x.getD 6 0).toNat:=KM _ _
    omega)
   go_upto_region 3 with fail;refine Zl ?_;refine Qc (cs:=(u8s x).toArray) (Blk.all HA.out rfl) (by rw [J2,HXL.out]) rfl rfl ?_;refine nm ?_;refine J0 rfl fun K hK=>?_;go_simp;refine (HRD.out _).mono ?_;rintro e w1 ⟨sv,rfl,hm,hb,hfr⟩;have HFSH:Hid (Fresh w.heap.size sv):=Zh fun b o n c e=>Nat.le_trans HB.size (hfr b o n c e);clear hfr;have HA1:=Zh (HA.below hb HA.lt);have HR1:=Zh (HR.below hb HR.lt);have HB1:=Zh (HB.trans (hb.mono HB.size));have HM1:=Zh hm;refine hK _ _ ?_;clear hK K hb hm HA HR HB HRD c6;refine nm ?_;refine J4 J40 rfl ?_;intro wC hC hBC hlC;refine nm ?_;refine J3 (cs:=#[.int .u32 (J5 x).seq,.bool (J5 x).more,sv]) hC rfl Qi (J97 HM1.out _ _) rfl rfl rfl ?_;intro wD hD hOD hlD;refine nm ?_;have hBD:=hBC.trans (hOD.below hBC.size (fun k hk=>Nat.le_of_eq hk.symm));have HA:=Zh (HA1.below hBD HA1.lt);have HR:=Zh (HR1.below hBD HR1.lt);have HB:=Zh (HB1.trans (hBD.mono HB1.size));have HM:=Zh (HM1.below hBD);have HT:=Zh hD;clear hC hBC hlC hD hOD hlD hBD HA1 HR1 HB1 HM1;generalize w1.heap.size=t at *;clear w1 wC;go_upto_region 4 with fail;refine Zl ?_;refine y4 (cs:=#[.int .u32 (J5 x).seq,.bool (J5 x).more,sv]) (Blk.all HT.out rfl) rfl rfl rfl ?_;refine nm ?_;refine J0 rfl fun K hK=>?_;go_simp;refine (Ys (J5 x) sv HML.out HWF.out _ HM.out).mono ?_;rintro e w2 ⟨rfl,hb⟩;have HA2:=Zh (HA.below hb HA.lt);have HR2:=Zh (HR.below hb HR.lt);have HT2:=Zh (HT.below hb HT.lt);have HB2:=Zh (HB.trans (hb.mono HB.size));have HM2:=Zh (HM.below hb);refine hK _ _ ?_;clear hK K hb HA HR HB HM HT;refine nm ?_;refine tk (.tuple #[.agg (u8s (J5 x).sec).toArray,.int .i64 (J5 x).err]) ?_;refine tk (.agg (u8s (J5 x).sec).toArray) ?_;refine tk (.int .i64 (J5 x).err) ?_;have HSE:=Zh (Yr (J5 x));refine J4 Kd rfl ?_;intro wC hC hBC hlC;refine nm ?_;refine J3 (cs:=(u8s (J5 x).sec).toArray) hC (by rw [J2,HSE.out];simp [zeros]) (by rw [J2,HSE.out];exact info36) (Jj _) rfl rfl rfl ?_;intro wD' hD hOD hlD;refine nm ?_;have hBD:=hBC.trans (hOD.below hBC.size (fun k hk=>Nat.le_of_eq hk.symm));have HA:=Zh (HA2.below hBD HA2.lt);have HR:=Zh (HR2.below hBD HR2.lt);have HT:=Zh (HT2.below hBD HT2.lt);have HB:=Zh (HB2.trans (hBD.mono HB2.size));have HM:=Zh (HM2.below hBD);have HY:=Zh hD;clear hC hBC hlC hD hOD hlD hBD HA2 HR2 HB2 HM2 HT2;generalize w2.heap.size=y at *;clear w2 wC wD;refine tk (.int .i64 (J5 x).err) ?_;refine Zn ?_;cases hg:(J5 x).good
   · have HNO:Hid (KN x=false):=Zh (by rw [HIS.out,hg];rfl);rw [show (J5 x).err=11 from by unfold Sm.err;rw [hg];rfl];clear hg HIS HWF;go_upto_region 6 with fail;refine Zl ?_;refine Ji (kY _) rfl ?_;refine nm ?_;refine J3 (cs:=#[.int .u32 0,.bool false,.slice none 0 0]) HR.out rfl Qi (Xi _ _ _ _ _) rfl rfl rfl ?_;intro wZ hZ hOZ hlZ;refine nm ?_;have HF:=Zh (HB.trans (hOZ.below HB.size (fun k hk=>by have:=HLT.out;omega)));refine tk (.int .i64 11) ?_;go_wp2_with fail
     obtain⟨e1,e2⟩:=kv HNO.out;rw [e1,e2];refine bodyPost_ret (v:=.tuple #[.agg #[.int .u32 0,.bool false,.slice none 0 0],.int .i64 11]) (results_cell_tmp rfl _ _ r 0 _ _ _ rfl rfl Tryz.underlying300 rfl Qi (hZ.all rfl)) rfl ⟨_,rfl,MarksAt.nil _ _ _,HF.out,Fresh.nil _⟩
   · rw [show (J5 x).err=0 from by unfold Sm.err;rw [hg];rfl];rw [show (J5 x).sec=(J5 x).enc from by unfold Sm.sec;rw [hg];rfl] at HY HSE;go_upto_region 5 with fail;refine Zl ?_;refine tk (.int .i64 0) ?_;refine tk (.bool false) ?_;refine tk (.bool false) ?_;refine Qc (cs:=(u8s (J5 x).enc).toArray) (Blk.all HY.out rfl) (by rw [J2,HSE.out]) rfl rfl ?_;refine nm ?_;refine Qc (cs:=(u8s x).toArray) (Blk.all HA.out rfl) (by rw [J2,HXL.out]) rfl rfl ?_;refine nm ?_;refine tk (.bool (!decide ((J5 x).enc=x))) ?_ (hr:=(Jh1 HSE.out HXL.out _ _ _ rfl rfl rfl))
     by_cases he:(J5 x).enc=x
     · have HYES:Hid (KN x=true):=Zh (by rw [HIS.out,hg,decide_eq_true he];rfl);rw [show (!decide ((J5 x).enc=x))=false from by rw [decide_eq_true he];rfl];clear hg HIS HWF he;refine tk (.bool false) ?_;go_upto_region 7 with fail;refine Zl ?_;refine y4 (cs:=#[.int .u32 (J5 x).seq,.bool (J5 x).more,sv]) (Blk.all HT.out rfl) rfl rfl rfl ?_;refine nm ?_;refine J3 (cs:=#[.int .u32 (J5 x).seq,.bool (J5 x).more,sv]) HR.out rfl Qi (J97 HM.out _ _) rfl rfl rfl ?_;intro wZ hZ hOZ hlZ;refine nm ?_;have HF:=Zh (HB.trans (hOZ.below HB.size (fun k hk=>by have:=HLT.out;omega)));have HMF:=Zh (HM.only hOZ HR.out (J5q _ _ _ _ _));refine tk (.int .i64 0) ?_;go_wp2_with fail
       obtain⟨e1,e2⟩:=ZR HYES.out;rw [e1,e2];refine bodyPost_ret (v:=.tuple #[.agg #[.int .u32 (J5 x).seq,.bool (J5 x).more,sv],.int .i64 0]) (results_cell_tmp rfl _ _ r 0 _ _ _ rfl rfl Tryz.underlying300 rfl Qi (hZ.all rfl)) rfl ⟨_,rfl,HMF.out,HF.out,HFSH.out⟩
     · have HNO:Hid (KN x=false):=Zh (by rw [HIS.out,hg,decide_eq_false he];rfl);rw [show (!decide ((J5 x).enc=x))=true from by rw [decide_eq_false he];rfl];clear hg HIS HWF he;refine tk (.bool true) ?_;go_upto_region 6 with fail;refine Zl ?_;refine Ji (kY _) rfl ?_;refine nm ?_;refine J3 (cs:=#[.int .u32 0,.bool false,.slice none 0 0]) HR.out rfl Qi (Xi _ _ _ _ _) rfl rfl rfl ?_;intro wZ hZ hOZ hlZ;refine nm ?_;have HF:=Zh (HB.trans (hOZ.below HB.size (fun k hk=>by have:=HLT.out;omega)));refine tk (.int .i64 11) ?_;go_wp2_with fail
       obtain⟨e1,e2⟩:=kv HNO.out;rw [e1,e2];refine bodyPost_ret (v:=.tuple #[.agg #[.int .u32 0,.bool false,.slice none 0 0],.int .i64 11]) (results_cell_tmp rfl _ _ r 0 _ _ _ rfl rfl Tryz.underlying300 rfl Qi (hZ.all rfl)) rfl ⟨_,rfl,MarksAt.nil _ _ _,HF.out,Fresh.nil _⟩
theorem Jd8(b:Bk):b.isZ=true↔b=Bk.none:=by
 obtain⟨k,i,p,o,y,v,h⟩:=b;simp [Bk.isZ,Bk.none,and_assoc]
theorem Jh2{x:It}(h:x.ok=true)(k:x.has=true):x.blk.kind=x.mark.1∧x.blk.id=x.mark.2∧x.blk.good=true:=by
 simp only [It.ok,It.fits,Bool.and_eq_true,k,if_true,decide_eq_true_eq] at h;exact⟨h.2.1.1,h.2.1.2,h.2.2⟩
theorem Jh3{x:It}(h:x.ok=true)(k:x.has=false):x.blk=Bk.none:=by
 simp only [It.ok,It.fits,Bool.and_eq_true,k,Bool.false_eq_true,if_false] at h;exact (Jd8 _).1 h.2
theorem kZ(n:Nat):n≤24*parts n:=by unfold parts;omega
theorem Qq(n:Int)(l:List It):(Jd n l).1.length=parts l.length+JC (marks l):=by
 rw [Jd,ZI,List.take_of_length_le (kZ _)]
theorem Jd9{p:List It}(w:∀x∈p,x.Wf)(n:Int)(m:Bool):∀y∈XJ n m p,Sc y:=by
 intro y hy;rcases List.mem_cons.1 hy with rfl|hy
 · exact J86 _
 · obtain⟨x,hx,rfl⟩:=List.mem_map.1 hy;exact xQ (w x ((List.mem_filter.1 hx).1)).b n
theorem QK{l:List It}{x:It}(h:x∈Qe l k):x∈l:=List.mem_of_mem_drop (List.mem_of_mem_take h)
theorem J99{l:List It}(w:∀x∈l,x.Wf)(n:Int)(k:Nat):∀y∈(Js n l k).1,Sc y:=by
 induction k with
 | zero=>intro y hy;cases hy
 | succ k ih =>
  intro y hy;rw [Q0] at hy;rcases List.mem_append.1 hy with hy|hy
  · exact ih y hy
  · exact Jd9 (fun x hx=>w x (QK hx)) _ _ y hy
def JI:List Mk→List (List Int)→Option (List It)
 | [],_=>some []
 | m::r,s=>if JE m.1 then (match s with
  | []=>none
  | y::t=>if JT y then (JI r t).map (⟨m,readOf y⟩::·) else none)
  else (JI r s).map (⟨m,Bk.none⟩::·)
def gat(L:List (List Int)):Nat→List It→Nat→List It×Nat
 | 0,_,_=>([],0)
 | f+1,its,t=>match L[t]? with
  | none=>([],0)
  | some y=>if its.length≤64∧KN y=true then (match JI (J5 y).marks (L.drop (t+1)) with
   | none=>([],0)
   | some p=>if (J5 y).more then gat L f (its++p) (t+(1+JC (J5 y).marks)) else (its++p,t+(1+JC (J5 y).marks)))
   else ([],0)
def Kv(L:List (List Int)):List It×Nat:=gat L (L.length+1) [] 0
def X0(n:Int)(L:List (List Int)):Option (List It):=if JH (Kv L).1&&decide ((Jd n (Kv L).1).1=L.take (Kv L).2) then some (Kv L).1 else none
theorem Zc{l:List It}(h:JH l=true)(hk:k<parts l.length):Ju (marks (Qe l k))=true:=by
 obtain⟨h1,h2,h3,-⟩:=JK.1 h;have hp:parts l.length=(l.length+23)/24:=rfl;unfold Ju;simp only [Bool.and_eq_true,decide_eq_true_eq,List.all_eq_true,List.length_map,List.length_take,List.length_drop];refine⟨⟨by omega,by omega⟩,fun m hm=>?_⟩;obtain⟨x,hx,rfl⟩:=List.mem_map.1 hm;exact J3t (h3 x (QK hx))
theorem zl{p:List It}(hg:Ju (marks p)=true)(w:∀x∈p,x.Wf){n:Int}(hn:Kh n)(m:Bool):KN (JN n m p)=true∧J5 (JN n m p)=⟨n,m,marks p⟩∧JN n m p=Sm.enc ⟨n,m,marks p⟩:=by
 have hs:Sm.good ⟨n,m,marks p⟩=true:=hg;have hw:Sm.Wf ⟨n,m,marks p⟩:=⟨hn,fun q hq=>by
  obtain⟨x,hx,rfl⟩:=List.mem_map.1 hq
  exact⟨(w x hx).k,(w x hx).i⟩⟩
 have e:JN n m p=Sm.enc ⟨n,m,marks p⟩:=by
  unfold JN Sm.sec;rw [if_pos hs]
 rw [e];exact⟨J5o hs hw,xe hs hw,rfl⟩
theorem Jda{x:It}(h:x.ok=true)(k:x.has=true)(w:x.Wf){n:Int}(hn:Kh n):JT (x.blk.sec n)=true∧readOf (x.blk.sec n)=x.blk∧Ky (x.blk.sec n)=n∧x.blk.sec n=x.blk.enc n:=by
 have hg:=(Jh2 h k).2.2;have e:x.blk.sec n=x.blk.enc n:=by
  unfold Bk.sec;rw [if_pos hg]
 rw [e];obtain⟨h1,h2⟩:=kV hg w.b n hn;exact⟨jN hg w.b n hn,h1,h2,rfl⟩
theorem J1q{p:List It}(h:∀x∈p,x.ok=true)(w:∀x∈p,x.Wf){n:Int}(hn:Kh n)(r:List (List Int)):JI (marks p) (Ku n p++r)=some p:=by
 induction p with
 | nil=>rfl
 | cons x q ih =>
  have ih:=ih (fun y hy=>h y (List.mem_cons_of_mem _ hy)) (fun y hy=>w y (List.mem_cons_of_mem _ hy));have hx:=h x (by simp);have hh:JE x.mark.1=x.has:=rfl;simp only [marks,List.map_cons,JI,hh] at ih ⊢;cases k:x.has
  · have e:=Jh3 hx k;have:Ku n (x::q)=Ku n q:=by simp [Ku,k]
    rw [this,ih];simp only [Bool.false_eq_true,if_false,Option.map_some];rw [←e]
  · obtain⟨b1,b2,-,-⟩:=Jda hx k (w x (by simp)) hn;have:Ku n (x::q)=x.blk.sec n::Ku n q:=by simp [Ku,k]
    rw [this,List.cons_append];simp only [if_true,b1,ih,Option.map_some,b2]
theorem zm{L:List (List Int)}{n:Int}(hn:Kh n){m:Bool}{p:List It}{t:Nat}{r:List (List Int)}(hL:L.drop t=XJ n m p++r)(hg:Ju (marks p)=true)(hp:∀x∈p,x.ok=true)(w:∀x∈p,x.Wf)(f:Nat)(its:List It)(hi:its.length≤64) :
 gat L (f+1) its t=if m then gat L f (its++p) (t+(1+JC (marks p))) else (its++p,t+(1+JC (marks p))):=by
 obtain⟨s1,s2,-⟩:=zl hg w hn m;have h0:L[t]? = some (JN n m p):=by
  have:=congrArg (fun z=>z[0]?) hL;simpa [XJ] using this
 have h1:L.drop (t+1)=Ku n p++r:=by
  have:=congrArg List.tail hL;simpa [XJ] using this
 simp only [gat,h0,s1,hi,and_self,if_true,s2,h1,J1q hp w hn r]
theorem Jdb{n:Int}{l:List It}(h:JH l=true)(w:∀x∈l,x.Wf){L:List (List Int)}(hL:(Jd n l).1 <+: L) :
 ∀j k f,k+j+1=parts l.length→j<f→gat L f (l.take (24*k)) (Js n l k).1.length=(l,(Jd n l).1.length):=by
 have hM:=JK.1 h;have hpre:∀k,k≤parts l.length→(Js n l k).1 <+: L:=fun k hk=>by
  refine List.IsPrefix.trans ?_ hL;unfold Jd;obtain⟨d,hd⟩:=Nat.exists_eq_add_of_le hk;rw [hd];clear hd hk
  induction d with
  | zero=>exact List.prefix_refl _
  | succ d ih=>rw [←Nat.add_assoc,Q0];exact ih.trans (List.prefix_append _ _)
 have hpt:∀k,k<parts l.length→∃r,L.drop (Js n l k).1.length=XJ ((n+k)%M32) (decide (24*k+24<l.length)) (Qe l k)++r:=fun k hk=>by
  obtain⟨r,hr⟩:=hpre (k+1) hk;rw [Q0,List.append_assoc] at hr;exact⟨r,by rw [←hr,List.drop_left]⟩
 have hpp:parts l.length=(l.length+23)/24:=rfl;have hlen:∀k,(Js n l (k+1)).1.length=(Js n l k).1.length+(1+JC (marks (Qe l k))):=fun k=>by
  rw [Q0,List.length_append,XK]
 intro j
 induction j with
 | zero =>
  intro k f hk hf;obtain⟨f,rfl⟩:∃g,f=g+1:=⟨f-1,by omega⟩
  obtain⟨r,hr⟩:=hpt k (by omega);have hm:decide (24*k+24<l.length)=false:=decide_eq_false (by omega);rw [zm (YN _) hr (Zc h (by omega)) (fun x hx=>hM.2.2.1 x (QK hx)) (fun x hx=>w x (QK hx)) f _ (by rw [List.length_take];omega),hm];simp only [Bool.false_eq_true,if_false];rw [←Xg,←hlen,List.take_of_length_le (by omega),Jd,←hk]
 | succ j ih =>
  intro k f hk hf;obtain⟨f,rfl⟩:∃g,f=g+1:=⟨f-1,by omega⟩
  obtain⟨r,hr⟩:=hpt k (by omega);have hm:decide (24*k+24<l.length)=true:=decide_eq_true (by omega);rw [zm (YN _) hr (Zc h (by omega)) (fun x hx=>hM.2.2.1 x (QK hx)) (fun x hx=>w x (QK hx)) f _ (by rw [List.length_take];omega),hm];simp only [if_true];rw [←Xg,←hlen];exact ih (k+1) f (by omega) (by omega)
theorem J1r{n:Int}{l:List It}(h:JH l=true)(w:∀x∈l,x.Wf){L:List (List Int)}(hL:(Jd n l).1 <+: L):Kv L=(l,(Jd n l).1.length):=by
 have hp:=(Qo h).1;have h1:=hL.length_le;have h2:=Qq n l;have:=Jdb h w hL (parts l.length-1) 0 (L.length+1) (by omega) (by omega);simpa [Js,Kv] using this
theorem zn{n:Int}{l:List It}(h:JH l=true)(w:∀x∈l,x.Wf){L:List (List Int)}(hL:(Jd n l).1 <+: L):X0 n L=some l:=by
 have hg:=J1r h w hL;unfold X0;rw [hg];simp only [h,Bool.true_and];rw [if_pos];exact decide_eq_true (List.prefix_iff_eq_take.1 hL)
theorem QL{n:Int}{l:List It}{L:List (List Int)}(h:X0 n L=some l):JH l=true∧(Jd n l).1 <+: L∧Kv L=(l,(Kv L).2):=by
 unfold X0 at h;split at h
 · rename_i hc
   cases h;simp only [Bool.and_eq_true,decide_eq_true_eq] at hc;refine⟨hc.1,?_,rfl⟩;rw [hc.2];exact List.take_prefix _ _
 · cases h
theorem J5r{ms:List Mk}(hm:∀m∈ms,Jh m.1∧Jh m.2){s:List (List Int)}(hs:∀y∈s,Sc y){l:List It}(h:JI ms s=some l):∀x∈l,x.Wf:=by
 induction ms generalizing s l with
 | nil=>cases h;intro x hx;cases hx
 | cons m r ih =>
  have hm1:=hm m (by simp);have hm2:=fun q hq=>hm q (List.mem_cons_of_mem _ hq);unfold JI at h;split at h
  · cases s with
    | nil=>cases h
    | cons y t =>
     simp only at h;split at h
     · obtain⟨q,hq,rfl⟩:=Option.map_eq_some_iff.1 h;intro x hx;rcases List.mem_cons.1 hx with rfl|hx
       · exact⟨hm1.1,hm1.2,readOf_wf (hs y (by simp))⟩
       · exact ih hm2 (fun z hz=>hs z (List.mem_cons_of_mem _ hz)) hq x hx
     · cases h
  · obtain⟨q,hq,rfl⟩:=Option.map_eq_some_iff.1 h;intro x hx;rcases List.mem_cons.1 hx with rfl|hx
    · exact⟨hm1.1,hm1.2,none_wf⟩
    · exact ih hm2 hs hq x hx
theorem Jh4{L:List (List Int)}(hL:∀y∈L,Sc y):∀f its t,(∀x∈its,It.Wf x)→∀x∈(gat L f its t).1,x.Wf:=by
 intro f
 induction f with
 | zero=>intro its t _ x hx;cases hx
 | succ f ih =>
  intro its t hi;unfold gat;split
  · intro x hx;cases hx
  · rename_i y hy
    split
    · rename_i hc
      cases e:JI (J5 y).marks (L.drop (t+1)) with
      | none=>intro x hx;cases hx
      | some p =>
       have hp:=J5r (Z3 (hL y (List.mem_of_getElem? hy)) _) (fun z hz=>hL z (List.mem_of_mem_drop hz)) e;have ha:∀x∈its++p,It.Wf x:=fun x hx=>(List.mem_append.1 hx).elim (hi x) (hp x);simp only;split
       · exact ih _ _ ha
       · exact ha
    · intro x hx;cases hx
theorem J9a{n:Int}{l:List It}{L:List (List Int)}(hL:∀y∈L,Sc y)(h:X0 n L=some l):∀x∈l,x.Wf:=by
 have:=Jh4 hL (L.length+1) [] 0 (fun x hx=>by cases hx);have e:=(QL h).2.2;unfold Kv at e;rw [e] at this;exact this
theorem J5s{n:Int}{l:List It}{L:List (List Int)}(hL:∀y∈L,Sc y):X0 n L=some l↔JH l=true∧(∀x∈l,x.Wf)∧(Jd n l).1 <+: L :=
 ⟨fun h=>⟨(QL h).1,J9a hL h,(QL h).2.1⟩,fun ⟨h1,h2,h3⟩=>zn h1 h2 h3⟩
theorem J5t:Tryz.prog.underlying 106=some (.slice (Tryz.prog.elem 106))∧Tryz.prog.elem 106=36:=⟨by kernel_rfl,by kernel_rfl⟩
theorem J9b(w:World):(Go.sizeOf 36).run Tryz.prog w=.ok 64 w:=by
 obtain⟨i,hi,hs⟩:=KV info36;simp [Go.sizeOf,typeInfo,hi,hs]
theorem J1s(w:World)(a:Option Addr)(n cap f:Nat)(h1:f≤n):(Instr.sliceAt 106 (.slice a n cap) (some (.int .i64 f)) none none).run Tryz.prog w=.ok (.slice (K5 a f cap 64) (n-f) (cap-f)) w:=by
 rw [run_sliceAt_slice w 106 _ _ _ _ J5t.1,run_slice_l w 106 a n cap J5t.1 .i64 f (by omega) (by omega),J5t.2,J9b];rfl
theorem J1t(w:World)(a:Option Addr)(n cap e:Nat)(h2:e≤cap):(Instr.sliceAt 106 (.slice a n cap) none (some (.int .i64 e)) none).run Tryz.prog w=.ok (.slice (K5 a 0 cap 64) e cap) w:=by
 rw [run_sliceAt_slice w 106 _ _ _ _ J5t.1,run_slice_h w 106 a n cap J5t.1 .i64 e (by omega) (by omega),J5t.2,J9b];rfl
theorem jQ(w:World)(ev:Operand→Value)(op:Oper)(x y:Operand)(ho:op.op=.slice 106 x (some y) none none)(a:Option Addr)(n cap f:Nat)(hx:ev x=.slice a n cap)(hy:ev y=.int .i64 f)(h1:f≤n):(execOp ev op).run Tryz.prog w=.ok (.value (.slice (K5 a f cap 64) (n-f) (cap-f))) w:=by
 unfold execOp;simp only [ho,hx,hy,Option.map_some,Option.map_none,Sem.run_bind,J1s w a n cap f h1,Result.andThen_ok,Sem.run_pure]
theorem zo(w:World)(ev:Operand→Value)(op:Oper)(x z:Operand)(ho:op.op=.slice 106 x none (some z) none)(a:Option Addr)(n cap e:Nat)(hx:ev x=.slice a n cap)(hz:ev z=.int .i64 e)(h2:e≤cap):(execOp ev op).run Tryz.prog w=.ok (.value (.slice (K5 a 0 cap 64) e cap)) w:=by
 unfold execOp;simp only [ho,hx,hz,Option.map_some,Option.map_none,Sem.run_bind,J1t w a n cap e h2,Result.andThen_ok,Sem.run_pure]
end Go.Proofs.YtdbfmikeaoaebaaGreatDoor
