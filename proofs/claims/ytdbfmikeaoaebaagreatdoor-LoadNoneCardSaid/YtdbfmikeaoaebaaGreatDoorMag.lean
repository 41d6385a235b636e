/- Steps. -/
import Derived.Test.YtdbfmikeaoaebaaGreatDoorMaf
import Derived.WalkKit
import Derived.WalkSpells
import Derived.WalkLawsBesides
import Derived.Deep.AppendLies
import Derived.Deep.LoopGhost
import Derived.Laws.CopyRow
import Derived.Laws.Rows
import Derived.Laws.StructEq
import Derived.Lib.Hide
import Derived.Deep.DeepFit
import Derived.Deep.DeepMust
import Derived.Lib.EndianBits
import Derived.OrdersHeld
import Derived.Deep.Cut
import Derived.Deep.CutRange
set_option linter.unusedSimpArgs false
set_option linter.unusedVariables false
set_option maxRecDepth 100000
set_option maxHeartbeats 4000000
namespace Go.Proofs.YtdbfmikeaoaebaaGreatDoor
open Go.RowKit
variable {P:Program} {W w w':World} {cap g i m n:Nat} {l:List Int} {p:Int} {sv:Value} {y:Operand}
def num:List Int→Int
 | []=>0
 | x::l=>x+256*num l
theorem J2d(v:Int)(h:0≤v∧v<4294967296):num (le 4 v)=v:=by
 simp only [le,num];omega
theorem QZ(v:Int)(h:0≤v∧v<65536):num (le 2 v)=v:=by
 simp only [le,num];omega
theorem XM(l:List Int)(h:∀x∈l,KO x):0≤num l∧num l<256 ^ l.length:=by
 induction l with
 | nil=>simp [num]
 | cons x l ih =>
  have hx:=h x (by simp);have:=ih fun y hy=>h y (by simp [hy]);simp only [num,List.length_cons,Int.pow_succ];unfold KO at hx;omega
def JO(s:List Int):Int:=s.getD 0 0
def Kq(s:List Int):Int:=num ((s.drop 2).take 4)
def Z3(s:List Int)(i:Nat):Int:=num ((s.drop (6+2*i)).take 2)
def readOf(s:List Int):Bk :=
  { kind:=JO s,id:=s.getD 1 0
    page:=if JO s=1 then (s.drop 6).take 32 else zeros 32
    off:=if JO s=2 then s.getD 6 0 else 0
    bytes:=if JO s=2 then (s.drop 8).take (min 16 (s.getD 7 0).toNat)++zeros ((s.getD 7 0).toNat-16) else []
    prev:=if JO s=2 then num ((s.drop 24).take 2) else 0
    heads:=if JO s=3 then (List.range 8).map (Z3 s) else zeros 8 }
def JP(s:List Int):Bool:=(readOf s).good&&decide ((readOf s).enc (Kq s)=s)
def Qc(s:List Int):Bk:=if JP s then readOf s else Bk.none
def Zu(s:List Int):Int:=if JP s then Kq s else 0
def Yc(s:List Int):Int:=if JP s then 0 else 11
theorem Jgh{b:Bk}(h:b.good=true)(k:b.kind=1):b.off=0∧b.bytes=[]∧b.prev=0∧b.heads=zeros 8:=by
 simp [Bk.good,k,Bk.plain] at h;exact⟨h.1.2.1.1,h.1.2.1.2,h.1.2.2,h.2⟩
theorem ki{b:Bk}(h:b.good=true)(w:b.Wf)(n:Int)(hn:0≤n∧n<4294967296):readOf (b.enc n)=b∧Kq (b.enc n)=n:=by
 obtain⟨hk,_⟩:=Qw h;have hp:=w.page;have hh:=w.heads;have hs:Kq (b.enc n)=n:=by
  have e:=J2d n hn;unfold Bk.enc Kq;split
  · simpa [le] using e
  · split <;> simpa [le] using e
 refine⟨?_,hs⟩;obtain⟨kind,id,page,off,bytes,prev,heads⟩:=b;rcases hk with k | k | k
 · obtain⟨e1,e2,e3,e4⟩:=Jgh h k;simp only at k e1 e2 e3 e4 hp;subst k e1 e2 e3 e4;simp [readOf,Bk.enc,JO,le,hp]
 · obtain⟨⟨e1,e2⟩,_,ep,e3,e4⟩:=qp h k;simp only at k e1 e2 e3 e4 ep;subst k e3 e4;have ep2:=QZ prev ep;simp only [le] at ep2;have e5:min 16 bytes.length=bytes.length:=by omega
   have e6:bytes.length-16=0:=by omega
   have e7:16-bytes.length=16-bytes.length:=rfl;have e8:bytes.drop 16=[]:=List.drop_of_length_le e2;have e9:(zeros (16-bytes.length)).drop (16-bytes.length)=[]:=List.drop_of_length_le (by simp [zeros]);simp [readOf,Bk.enc,JO,le,e5,e6,zeros,List.drop_append];simpa [e8] using ep2
 · obtain⟨e0,e1,e2,e3,e4⟩:=Jdw h k;simp only at k e0 e1 e2 e3 e4 hh;subst k e1 e2 e3 e4;obtain⟨a,b,c,d,e,f,g,k,rfl⟩:=y7 heads hh;simp only [List.mem_cons,List.not_mem_nil,or_false,forall_eq_or_imp,forall_eq] at e0;obtain⟨p0,p1,p2,p3,p4,p5,p6,p7⟩:=e0;have q0:=QZ a p0;have q1:=QZ b p1;have q2:=QZ c p2;have q3:=QZ d p3;have q4:=QZ e p4;have q5:=QZ f p5;have q6:=QZ g p6;have q7:=QZ k p7;simp only [le] at q0 q1 q2 q3 q4 q5 q6 q7;simp [readOf,Bk.enc,JO,le,Z3,List.range,List.range.loop,q0,q1,q2,q3,q4,q5,q6,q7]
theorem jg{b:Bk}(h:b.good=true)(w:b.Wf)(n:Int)(hn:0≤n∧n<4294967296):JP (b.enc n)=true:=by
 obtain⟨e1,e2⟩:=ki h w n hn;simp [JP,e1,e2,h]
theorem readOf_wf{s:List Int}(h:Sc s):(readOf s).Wf:=by
 obtain⟨hl,hb⟩:=h;have hd:∀i,KO (s.getD i 0):=fun i=>by
  rw [List.getD_eq_getElem?_getD];cases e:s[i]? with
  | none=>exact⟨by decide,by decide⟩
  | some x=>exact hb x (List.mem_of_getElem? e)
 have small:∀{x},KO x→Jo x:=fun h=>⟨by have:=h.1; omega,by have:=h.2; omega⟩
 have hz:∀m,∀x∈zeros m,KO x:=fun m x hx=>by
  rw [List.eq_of_mem_replicate hx];exact⟨by decide,by decide⟩
 have hnum:∀i,Jo (num ((s.drop i).take 2)):=fun i=>by
  have hb':∀x∈(s.drop i).take 2,KO x:=fun x hx=>hb x (List.mem_of_mem_drop (List.mem_of_mem_take hx));have h1:=XM _ hb';have h2:((s.drop i).take 2).length≤2:=by simp; omega
  generalize (s.drop i).take 2=l at *;have:(256:Int) ^ l.length≤65536:=by
   match l,h2 with
   | [],_=>decide
   | [_],_=>simp
   | [_,_],_=>simp
  exact⟨by omega,by omega⟩
 have h0:Jo (0:Int):=⟨by decide,by decide⟩
 refine⟨small (hd 0),small (hd 1),?_,?_,?_,?_,?_,?_,?_,?_⟩
 · simp only [readOf]; split
   · exact small (hd 6)
   · exact h0
 · simp only [readOf]; split
   · exact hnum 24
   · exact h0
 · simp only [readOf]; split <;> simp [hl,zeros]
 · simp only [readOf]; split
   · exact fun x hx=>hb x (List.mem_of_mem_drop (List.mem_of_mem_take hx))
   · exact hz 32
 · simp only [readOf]; split
   · have:=(hd 7).2;have h1:=(hd 7).1;simp only [List.length_append,List.length_take,J1];omega
   · simp
 · simp only [readOf]; split
   · intro x hx;rcases List.mem_append.1 hx with hx | hx
     · exact hb x (List.mem_of_mem_drop (List.mem_of_mem_take hx))
     · exact hz _ x hx
   · simp
 · simp only [readOf]; split <;> simp [zeros]
 · simp only [readOf]; split
   · intro x hx;obtain⟨i,_,rfl⟩:=List.mem_map.1 hx;exact hnum _
   · intro x hx;exact small (hz _ x hx)
theorem jh{s:List Int}(h:Sc s):0≤Kq s∧Kq s<4294967296:=by
 have hb':∀x∈(s.drop 2).take 4,KO x:=fun x hx=>h.bytes x (List.mem_of_mem_drop (List.mem_of_mem_take hx));have h1:=XM _ hb';have h2:((s.drop 2).take 4).length=4:=by simp [h.length]
 rw [h2] at h1;exact h1
theorem Zv(x:Int)(h:0≤x∧x<4294967296):bits .or .u32 0 x=x:=by
 have:=bits_join_low .u32 32 (by decide) wraps_u32 0 0 x (by decide) (by decide) (by decide) h.1 (by omega) (by omega);omega
theorem get4_any(w:World)(g o cap:Nat)(l:List Int)(hl:l.length=4)(hb:∀x∈l,KO x)(hc:∀i x,l[i]? = some x→w.cell? ⟨g,o+i,none⟩=some (.int .u8 x)) :
 Calls Tryz.prog 145 #[.slice (some ⟨g,o,none⟩) 4 cap] w fun e w'=>e=.returned (.int .u32 (num l))∧w=w':=by
 obtain⟨x0,x1,x2,x3,rfl⟩:∃x0 x1 x2 x3,l=[x0,x1,x2,x3]:=by
  match l,hl with
  | [x0,x1,x2,x3],_=>exact⟨x0,x1,x2,x3,rfl⟩
 have c0:=hc 0 x0 rfl;obtain⟨p0,q0⟩:=hb x0 (by simp);have c1:=hc 1 x1 rfl;obtain⟨p1,q1⟩:=hb x1 (by simp);have c2:=hc 2 x2 rfl;obtain⟨p2,q2⟩:=hb x2 (by simp);have c3:=hc 3 x3 rfl;obtain⟨p3,q3⟩:=hb x3 (by simp);simp only [Nat.add_zero] at c0;clear hc hb hl;go_enter Tryz.func145,Tryz.ntmps145
 go_wp2_with fail
 go_loopg [3,8] 4 (fun q r i wr=>∃k:Nat,4-k≤q∧k≤4∧i=.int .i64 k∧r=.int .u32 (num ([x0,x1,x2,x3].take k))∧w=wr)
 case atStart=>exact⟨0,by omega,by omega,rfl,rfl,rfl⟩
 case round =>
  obtain⟨k,hg,hk,rfl,rfl,rfl⟩:=hrel;rcases (show k=0∨k=1∨k=2∨k=3∨k=4 by omega) with rfl | rfl | rfl | rfl | rfl
  · simp only [List.take_succ_cons,List.take_zero,num]
    go_wp2_with fail
    go_roundg (4-1)
    case measure=>omega
    case rel =>
     refine⟨1,by omega,by omega,by go_num,?_,rfl⟩;simp only [List.take_succ_cons,List.take_zero,num];refine congrArg (Value.int .u32) ?_;rw [Zv x0 (by omega)];omega
  · simp only [List.take_succ_cons,List.take_zero,num]
    go_wp2_with fail
    go_roundg (4-2)
    case measure=>omega
    case rel =>
     refine⟨2,by omega,by omega,by go_num,?_,rfl⟩;simp only [List.take_succ_cons,List.take_zero,num];refine congrArg (Value.int .u32) ?_;rw [u32_or8 _ _ (by omega) (by omega) (by omega) (by omega) (by omega)];omega
  · simp only [List.take_succ_cons,List.take_zero,num]
    go_wp2_with fail
    go_roundg (4-3)
    case measure=>omega
    case rel =>
     refine⟨3,by omega,by omega,by go_num,?_,rfl⟩;simp only [List.take_succ_cons,List.take_zero,num];refine congrArg (Value.int .u32) ?_;rw [u32_or16 _ _ (by omega) (by omega) (by omega) (by omega) (by omega)];omega
  · simp only [List.take_succ_cons,List.take_zero,num]
    go_wp2_with fail
    go_roundg (4-4)
    case measure=>omega
    case rel =>
     refine⟨4,by omega,by omega,by go_num,?_,rfl⟩;simp only [List.take_succ_cons,List.take_zero,num];refine congrArg (Value.int .u32) ?_;rw [u32_or24 _ _ (by omega) (by omega) (by omega) (by omega) (by omega)];omega
  · simp only [List.take_succ_cons,List.take_zero,num]
    go_wp2_with fail
    go_ret;exact⟨rfl,rfl⟩
theorem get2_any(w:World)(g o cap:Nat)(l:List Int)(hl:l.length=2)(hb:∀x∈l,KO x)(hc:∀i x,l[i]? = some x→w.cell? ⟨g,o+i,none⟩=some (.int .u8 x)) :
 Calls Tryz.prog 145 #[.slice (some ⟨g,o,none⟩) 2 cap] w fun e w'=>e=.returned (.int .u32 (num l))∧w=w':=by
 obtain⟨x0,x1,rfl⟩:∃x0 x1,l=[x0,x1]:=by
  match l,hl with
  | [x0,x1],_=>exact⟨x0,x1,rfl⟩
 have c0:=hc 0 x0 rfl;obtain⟨p0,q0⟩:=hb x0 (by simp);have c1:=hc 1 x1 rfl;obtain⟨p1,q1⟩:=hb x1 (by simp);simp only [Nat.add_zero] at c0;clear hc hb hl;go_enter Tryz.func145,Tryz.ntmps145
 go_wp2_with fail
 go_loopg [3,8] 2 (fun q r i wr=>∃k:Nat,2-k≤q∧k≤2∧i=.int .i64 k∧r=.int .u32 (num ([x0,x1].take k))∧w=wr)
 case atStart=>exact⟨0,by omega,by omega,rfl,rfl,rfl⟩
 case round =>
  obtain⟨k,hg,hk,rfl,rfl,rfl⟩:=hrel;rcases (show k=0∨k=1∨k=2 by omega) with rfl | rfl | rfl
  · simp only [List.take_succ_cons,List.take_zero,num]
    go_wp2_with fail
    go_roundg (2-1)
    case measure=>omega
    case rel =>
     refine⟨1,by omega,by omega,by go_num,?_,rfl⟩;simp only [List.take_succ_cons,List.take_zero,num];refine congrArg (Value.int .u32) ?_;rw [Zv x0 (by omega)];omega
  · simp only [List.take_succ_cons,List.take_zero,num]
    go_wp2_with fail
    go_roundg (2-2)
    case measure=>omega
    case rel =>
     refine⟨2,by omega,by omega,by go_num,?_,rfl⟩;simp only [List.take_succ_cons,List.take_zero,num];refine congrArg (Value.int .u32) ?_;rw [u32_or8 _ _ (by omega) (by omega) (by omega) (by omega) (by omega)];omega
  · simp only [List.take_succ_cons,List.take_zero,num]
    go_wp2_with fail
    go_ret;exact⟨rfl,rfl⟩
section
variable {P:Program}
theorem exec_load_at(w:World)(ev:Operand→Value)(o:Oper)(ty:TypeId)(x:Operand)(ho:o.op=.load ty x)(g off:Nat)(hx:ev x=.pointer (some ⟨g,off,none⟩))(cs:Array Value)(d:TypeDesc)(hu:P.underlying ty=some d)(hd:(match d with | .struct _ | .array _ _=>true | _=>false)=true)(hi:(P.info? ty).map (·.size)=some cs.size)(hc:∀j (h:j<cs.size),w.cell? ⟨g,off+j,none⟩=some cs[j]):(execOp ev o).run P w=.ok (.value (.agg cs)) w:=by
 unfold execOp;simp only [ho,hx,Instr.loadAt,Instr.sureAddr,Sem.run_bind,Sem.run_pure,Result.andThen_ok,K8 w g off ty cs d hu hd hi hc]
end
theorem Je0(w:World)(l m:List Int)(hl:l.length=64)(hm:m.length=64):(binOp .neq 36 (.agg (u8s l).toArray) (.agg (u8s m).toArray)).run Tryz.prog w=.ok (.bool (!decide (l=m))) w:=by
 obtain⟨i,hi,hs⟩:=KQ X6;exact XT w 36 5 64 .u8 .u8 i l m Tryz.underlying36 Tryz.underlying5 hi hs hl hm
abbrev Ky:Value:=.slice none 0 0
theorem zero82b:(Tryz.prog.info? 82).bind (·.zero)=some (.agg (Bk.none.arr Ky)):=by kernel_rfl
theorem J70(k i:Int):Tryz.prog.built 82 [(0,.int .i64 k),(1,.int .i64 i)]=some (Bk.arr ⟨k,i,zeros 32,0,[],0,zeros 8⟩ Ky):=by kernel_rfl
theorem Yo(k i:Int)(w:World):(Instr.build 82 #[(0,.int .i64 k),(1,.int .i64 i)]).run Tryz.prog w=.ok (.agg (Bk.arr ⟨k,i,zeros 32,0,[],0,zeros 8⟩ Ky)) w:=run_build w 82 _ _ (J70 k i)
theorem Kf{s:List Int}(h:Sc s)(hi:i<64):(u8s s)[i]? = some (.int .u8 (s.getD i 0)):=by
 rw [List.getElem?_map,List.getD_eq_getElem?_getD,List.getElem?_eq_getElem (by rw [h.length]; exact hi)];rfl
theorem sc_byte{s:List Int}(h:Sc s)(i:Nat):0≤s.getD i 0∧s.getD i 0<256:=by
 rw [List.getD_eq_getElem?_getD];cases e:s[i]? with
 | none=>exact⟨by decide,by decide⟩
 | some x=>exact h.bytes x (List.mem_of_getElem? e)
theorem KD(b:Bk)(a:Option Addr)(n cap:Nat):∀v∈b.arr (.slice a n cap),v.oneCell'=true:=fun v hv=>by
 simp only [Bk.arr,Bk.cells,List.mem_toArray,List.mem_cons,List.mem_append,List.mem_map] at hv;rcases hv with rfl | rfl | ⟨z,_,rfl⟩ | rfl | rfl | rfl | ⟨z,_,rfl⟩ <;> rfl
structure RT (W w:World) (g r t:Nat) (s:List Int) (b:Bk) (sv:Value):Prop where
 sec:Blk w g (u8s s)
 res:Blk w r (Bk.none.cells Ky)
 blk:Blk w t (b.cells sv)
 bel:Below W.heap.size W w
 g0:W.heap.size≤g
 gr:g<r
 rt:r<t
theorem RT.below{r t:Nat}{s:List Int}{b:Bk}(h:RT W w g r t s b sv)(hb:Below w.heap.size w w'):RT W w' g r t s b sv :=
 ⟨h.sec.below hb h.sec.lt,h.res.below hb h.res.lt,h.blk.below hb h.blk.lt,h.bel.trans (hb.mono h.bel.size),h.g0,h.gr,h.rt⟩
theorem RT.drew{r t:Nat}{s:List Int}{b:Bk}(h:RT W w g r t s b sv):RT W w.drew g r t s b sv:=h.below (Below.refl _ _).drew
theorem RT.put{r t:Nat}{s:List Int}{b c:Bk}{cv:Value}(h:RT W w g r t s b sv)(hs:Blk w' t (c.cells cv))(ho:Only (fun k=>k=t) w w'):RT W w' g r t s c cv :=
 ⟨h.sec.only ho (by have:=h.gr; have:=h.rt; omega),h.res.only ho (by have:=h.rt; omega),hs,h.bel.trans (ho.below h.bel.size (fun k hk=>by have:=h.g0; have:=h.gr; have:=h.rt; omega)),h.g0,h.gr,h.rt⟩
theorem RT.set{r t:Nat}{s:List Int}{b c:Bk}{cv:Value}(h:RT W w g r t s b sv)(i:Nat)(x:Value)(e:(b.cells sv).set i x=c.cells cv):RT W (w.setCell ⟨t,i,none⟩ x) g r t s c cv :=
 h.put (by have:=h.blk.set i x; rwa [e] at this) ((Only.refl (fun k=>k=t) w).setCell (p:=⟨t,i,none⟩) (.inl rfl) _)
theorem RT.seg{r t:Nat}{s:List Int}{b:Bk}(h:RT W w g r t s b sv)(o n:Nat)(j:Nat)(v:Int)(hv:((s.drop o).take n)[j]? = some v):w.cell? ⟨g,o+j,none⟩=some (.int .u8 v):=h.sec.cell (by
 have hj:j<n:=by
  have:=(List.getElem?_eq_some_iff.1 hv).1
  simp at this
  omega
 rw [List.getElem?_take_of_lt hj,List.getElem?_drop] at hv
 rw [List.getElem?_map,hv]
 rfl)
theorem yk(b:Bk)(hp:b.page.length=32)(sv:Value)(x:Int):(b.cells sv).set 34 (.int .i64 x)=Bk.cells { b with off:=x } sv:=by
 unfold Bk.cells;simp only [List.set_cons_succ];rw [List.set_append_right _ _ (by simp [hp])];simp [hp]
theorem yl(b:Bk)(hp:b.page.length=32)(sv cv:Value)(l:List Int):(b.cells sv).set 35 cv=Bk.cells { b with bytes:=l } cv:=by
 unfold Bk.cells;simp only [List.set_cons_succ];rw [List.set_append_right _ _ (by simp [hp])];simp [hp]
theorem ym(b:Bk)(hp:b.page.length=32)(sv:Value)(x:Int):(b.cells sv).set 36 (.int .i64 x)=Bk.cells { b with prev:=x } sv:=by
 unfold Bk.cells;simp only [List.set_cons_succ];rw [List.set_append_right _ _ (by simp [hp])];simp [hp]
theorem J08(b:Bk)(hp:b.page.length=32)(sv:Value)(k:Nat)(x:Int):(b.cells sv).set (37+k) (.int .i64 x)=Bk.cells { b with heads:=b.heads.set k x } sv:=by
 unfold Bk.cells;rw [show 37+k=(k+35)+1+1 by omega];simp only [List.set_cons_succ];rw [List.set_append_right _ _ (by simp [hp])];simp only [List.length_map,hp];rw [show k+35-32=k+1+1+1 by omega];simp only [List.set_cons_succ,List.map_set]
theorem J09(b:Bk)(hp:b.page.length=32)(sv:Value)(l:List Int)(hl:l.length=32):lay (b.cells sv) 2 l=Bk.cells { b with page:=l } sv:=by
 unfold Bk.cells lay;simp [hl,hp]
theorem YH(b:Bk)(hp:b.page.length=32)(sv:Value)(k:Nat):(b.cells sv)[34+k]? = (.int .i64 b.off::sv::.int .i64 b.prev::Jq b.heads)[k]? := by
 unfold Bk.cells;rw [show 34+k=(32+k)+1+1 by omega];simp only [List.getElem?_cons_succ];rw [List.getElem?_append_right (by simp [hp])];simp only [List.length_map,hp];congr 1;omega
theorem J0a(n:Nat):(madeCells (#[.int .u8 0]:Array Value) n).toList=u8s (zeros n):=by
 unfold madeCells;apply List.ext_getElem?;intro i
 by_cases h:i<n <;> simp [zeros,h,Nat.mod_one]
section
variable {ops:Array Oper} {rest:List Oper} {dst:Option Tmp} {x:Operand} {t2:TypeId} {pos:String} {after:Array Edge} {guard:Option (Nat×Bool)} {a:Act} {w:World} {Q:Exit→Act→World→Prop}
theorem Jem(hx:a.eval x=.int .i64 n)(hy:a.eval y=.int .i64 n)(hn:n<256)(hw:Region.wanted ⟨dst,.makeSlice 80 x y,t2,pos,after,guard⟩ (yielded ops a.tmps)=true)(h:∀wX,Blk wX w.heap.size (u8s (zeros n))→Below w.heap.size w wX→w.heap.size<wX.heap.size→wpList Tryz.prog ops Q rest (a.put dst (.slice (some ⟨w.heap.size,0,none⟩) n n)) wX):wpList Tryz.prog ops Q (⟨dst,.makeSlice 80 x y,t2,pos,after,guard⟩::rest) a w:=by
 obtain⟨i,hi,hz,hs,hb⟩:∃i,Tryz.prog.info? 5=some i∧i.zero=some (.int .u8 0)∧i.size=1∧i.bytes=1:=by
  have:=Jge;cases hq:Tryz.prog.info? 5 with
  | none=>simp [hq] at this
  | some i=>simp [hq] at this; exact⟨i,rfl,this⟩
 have hr:=run_makeSlice (P:=Tryz.prog) w 80 5 i (.int .u8 0) Tryz.underlying80 hi hz .i64 .i64 n n (by omega) (Int.le_refl _) (by rw [hs]; omega) (by rw [hb]; omega) (by omega);refine Jp _ _ hw ?_ (h _ ?_ ((Below.refl _ _).alloc (Nat.le_refl _) (.cells (madeCells #[.int .u8 0] n) 5)) (by simp))
 · unfold execOp;simp only [hx,hy,Sem.run_bind,hr,Result.andThen_ok,Sem.run_pure,Int.toNat_natCast,hs,Nat.mul_one];rfl
 · have:=Blk.new w (madeCells #[.int .u8 0] n) 5
   rwa [J0a] at this
end
theorem BytesAt.of_blk(h:Blk w m (u8s l)):BytesAt w (.slice (some ⟨m,0,none⟩) l.length cap) l :=
 ⟨_,cap,rfl,fun i x hx=>⟨m,0,rfl,by rw [Nat.zero_add]; exact h.cell (by rw [List.getElem?_map,hx]; rfl)⟩⟩
theorem J71(s:List Int)(hs:Sc s)(hk:JO s≠1∧JO s≠2∧JO s≠3)(w:World):Calls Tryz.prog 144 #[.agg (u8s s).toArray] w fun e w'=>∃sv,e=.returned (.agg ((readOf s).arr sv))∧BytesAt w' sv (readOf s).bytes∧Below w.heap.size w w'∧Fresh w.heap.size sv:=by
 have HS:=Zh hs;obtain⟨hi1,hi2⟩:=sc_byte hs 1;obtain⟨id,hid⟩:∃i,s.getD 1 0=i:=⟨_,rfl⟩
 rw [hid] at hi1 hi2;have HID:=Zh hid;obtain⟨hk1,hk2,hk3⟩:=hk;have hk0:=sc_byte hs 0;rw [show s.getD 0 0=JO s from rfl] at hk0;go_enter Tryz.func144,Tryz.ntmps144
 repeat (first | (with_reducible refine JL (id:=0) ?_) | go_values | go_skip | go_guarded | go_step | go_upon | go_back)
 refine Stop.mk (wp_region_lit ?_);refine JT rfl rfl ?_;intro wA hA hB hl;refine nm ?_;refine J4 zero82b rfl ?_;intro wB hR hB2 hl2;refine nm ?_;have hA2:=hA.below hB2 hl;have hBB:=hB.trans (hB2.mono hB.size);refine Zn ?_
 repeat (first | (with_reducible refine JL (id:=1) ?_) | go_values | go_skip | go_guarded | go_step | go_upon | go_back)
 refine Stop.mk (wp_region_lit ?_);have c0:wB.cell? ⟨w.heap.size,0,none⟩=some (.int .u8 (JO s)):=hA2.cell (Kf HS.out (by decide));have c1:wB.cell? ⟨w.heap.size,1,none⟩=some (.int .u8 id):=by rw [←HID.out]; exact hA2.cell (Kf HS.out (by decide))
 refine tk (.pointer (some ⟨w.heap.size,0,none⟩)) ?_;refine tk (.int .u8 (JO s)) ?_;refine tk (.int .i64 (JO s)) ?_ (hr:=by go_simp; exact JR hk0.1 (by omega));refine tk (.pointer (some ⟨w.heap.size,1,none⟩)) ?_;refine tk (.int .u8 (id)) ?_;refine tk (.int .i64 id) ?_ (hr:=by go_simp; exact JR hi1 (by omega));refine tk (.agg (Bk.arr ⟨(JO s),id,zeros 32,0,[],0,zeros 8⟩ Ky)) ?_ (hr:=(Jc _ _ _ _ 82 #[(0,.tmp 7),(1,.tmp 10)] rfl #[(0,.int .i64 (JO s)),(1,.int .i64 (id))] (by simp only [List.map_toArray,List.map_cons,List.map_nil]; rfl) _ (Yo (JO s) (id) _)));refine J4 zero82b rfl ?_;intro wC hC hBC hlC;refine nm ?_;refine J3 hC (by rfl) (by exact K9) (KD _ _ _ _) rfl rfl rfl ?_;intro wD hD hOD hlD;refine nm ?_;have hBD:=hBC.trans (hOD.below hBC.size (fun k hk=>Nat.le_of_eq hk.symm));have H1:Hid (RT w wD w.heap.size wA.heap.size wB.heap.size s ⟨(JO s),id,zeros 32,0,[],0,zeros 8⟩ Ky):=Zh
  ⟨hA2.below hBD hA2.lt,hR.below hBD hR.lt,hD,hBB.trans (hBD.mono hBB.size),Nat.le_refl _,hl,hl2⟩
 clear c0 c1 hA hB hl hR hB2 hl2 hA2 hBB hC hBC hlC hD hOD hlD hBD;generalize hgg:w.heap.size=g at *;generalize wA.heap.size=r at *;generalize wB.heap.size=t at *;have HGG:=Zh hgg;clear hgg wA wB wC;have ck:wD.cell? ⟨t,0,none⟩=some (.int .i64 (JO s)):=H1.blk.cell rfl;refine Zn ?_
 repeat (first | (with_reducible refine JL (id:=16) ?_) | go_values | go_skip | go_guarded | go_step | go_upon | go_back)
 refine Stop.mk (wp_region_lit ?_);have HB:=Zh H1.blk;have HRW:=Zh (readOf_wf HS.out);rw [(show (⟨JO s,id,zeros 32,0,[],0,zeros 8⟩:Bk)=readOf s from by rw [←HID.out]; unfold readOf; simp [hk1,hk2,hk3])] at HB;refine JF (cs:=(readOf s).arr Ky) (Blk.all HB.out rfl) ((readOf s).arr_size HRW.out _) rfl rfl ?_;refine nm ?_;refine J3 (cs:=(readOf s).arr Ky) H1.res (by rw [(readOf s).arr_size HRW.out]; rfl) (by rw [(readOf s).arr_size HRW.out]; exact K9) (KD _ _ _ _) rfl rfl rfl ?_;intro wZ hZ hOZ hlZ;refine nm ?_;have HF:=Zh (H1.bel.trans (hOZ.below H1.bel.size (fun k hk=>by have:=H1.g0; have:=H1.gr; omega)));go_wp2_with fail
 refine bodyPost_ret (v:=.agg ((readOf s).arr Ky)) (Jr rfl _ _ r 0 _ _ rfl Tryz.underlying82 rfl (by rw [(readOf s).arr_size HRW.out]; exact K9) (Blk.all hZ rfl)) rfl ⟨_,rfl,?_,HF.out,Fresh.nil _⟩;rw [show (readOf s).bytes=[] from by unfold readOf; simp [hk2]];exact BytesAt.nil _ _ _
theorem J72(s:List Int)(hs:Sc s)(hk:JO s=1)(w:World):Calls Tryz.prog 144 #[.agg (u8s s).toArray] w fun e w'=>∃sv,e=.returned (.agg ((readOf s).arr sv))∧BytesAt w' sv (readOf s).bytes∧Below w.heap.size w w'∧Fresh w.heap.size sv:=by
 have HS:=Zh hs;obtain⟨hi1,hi2⟩:=sc_byte hs 1;obtain⟨id,hid⟩:∃i,s.getD 1 0=i:=⟨_,rfl⟩
 rw [hid] at hi1 hi2;have HID:=Zh hid;have HK:=Zh hk;have hk0:=sc_byte hs 0;clear hk0;go_enter Tryz.func144,Tryz.ntmps144
 repeat (first | (with_reducible refine JL (id:=0) ?_) | go_values | go_skip | go_guarded | go_step | go_upon | go_back)
 refine Stop.mk (wp_region_lit ?_);refine JT rfl rfl ?_;intro wA hA hB hl;refine nm ?_;refine J4 zero82b rfl ?_;intro wB hR hB2 hl2;refine nm ?_;have hA2:=hA.below hB2 hl;have hBB:=hB.trans (hB2.mono hB.size);refine Zn ?_
 repeat (first | (with_reducible refine JL (id:=1) ?_) | go_values | go_skip | go_guarded | go_step | go_upon | go_back)
 refine Stop.mk (wp_region_lit ?_);have c0:wB.cell? ⟨w.heap.size,0,none⟩=some (.int .u8 (JO s)):=hA2.cell (Kf HS.out (by decide));rw [HK.out] at c0;have c1:wB.cell? ⟨w.heap.size,1,none⟩=some (.int .u8 id):=by rw [←HID.out]; exact hA2.cell (Kf HS.out (by decide))
 refine tk (.pointer (some ⟨w.heap.size,0,none⟩)) ?_;refine tk (.int .u8 1) ?_;refine tk (.int .i64 1) ?_ (hr:=by go_simp; rfl);refine tk (.pointer (some ⟨w.heap.size,1,none⟩)) ?_;refine tk (.int .u8 (id)) ?_;refine tk (.int .i64 id) ?_ (hr:=by go_simp; exact JR hi1 (by omega));refine tk (.agg (Bk.arr ⟨1,id,zeros 32,0,[],0,zeros 8⟩ Ky)) ?_ (hr:=(Jc _ _ _ _ 82 #[(0,.tmp 7),(1,.tmp 10)] rfl #[(0,.int .i64 1),(1,.int .i64 (id))] (by simp only [List.map_toArray,List.map_cons,List.map_nil]; rfl) _ (Yo 1 (id) _)));refine J4 zero82b rfl ?_;intro wC hC hBC hlC;refine nm ?_;refine J3 hC (by rfl) (by exact K9) (KD _ _ _ _) rfl rfl rfl ?_;intro wD hD hOD hlD;refine nm ?_;have hBD:=hBC.trans (hOD.below hBC.size (fun k hk=>Nat.le_of_eq hk.symm));have H1:Hid (RT w wD w.heap.size wA.heap.size wB.heap.size s ⟨1,id,zeros 32,0,[],0,zeros 8⟩ Ky):=Zh
  ⟨hA2.below hBD hA2.lt,hR.below hBD hR.lt,hD,hBB.trans (hBD.mono hBB.size),Nat.le_refl _,hl,hl2⟩
 clear c0 c1 hA hB hl hR hB2 hl2 hA2 hBB hC hBC hlC hD hOD hlD hBD;generalize hgg:w.heap.size=g at *;generalize wA.heap.size=r at *;generalize wB.heap.size=t at *;have HGG:=Zh hgg;clear hgg wA wB wC;have ck:wD.cell? ⟨t,0,none⟩=some (.int .i64 1):=H1.blk.cell rfl;go_wp2_with fail
 refine J8 (fun _=>True) (by kernel_rfl) ?_;refine Jj 0 (some 16) (.pointer (some ⟨t,2,none⟩)) rfl rfl (by kernel_rfl) (by kernel_rfl) (by kernel_rfl) (fun _ _ _ h=>h) rfl (fun w _=>by go_simp) trivial ?_;refine nm ?_;refine Jj 1 (some 17) (.slice (some ⟨t,2,none⟩) 32 32) rfl rfl (by kernel_rfl) (by kernel_rfl) (by kernel_rfl) (fun _ _ _ h=>h) rfl (fun w _=>by go_simp) trivial ?_;refine nm ?_;refine Jj 2 (some 18) (.slice (some ⟨g,6,none⟩) 58 58) rfl rfl (by kernel_rfl) (by kernel_rfl) (by kernel_rfl) (fun _ _ _ h=>h) rfl (fun w _=>by go_simp) trivial ?_;refine nm ?_;refine Zo 3 fun K hK=>?_;have hl32:((s.drop 6).take 32).length=32:=by simp [HS.length]
 refine Zj _ _ rfl Tryz.underlying80 X6 t 2 32 32 g 6 58 58 rfl rfl _ ((s.drop 6).take 32) H1.drew.blk (by rw [hl32]; rfl) (fun j v hv=>H1.drew.seg 6 32 j v hv) (by rw [hl32]; simp [Bk.cells,zeros]) (some 19) rfl fun wC hb ho=>?_;rw [J09 _ rfl _ _ hl32] at hb;have H2:=Zh (H1.drew.put hb ho);refine hK _ _ trivial ?_;clear hK K hb ho;refine nm ?_;refine Zd ?_
 repeat (first | (with_reducible refine JL (id:=16) ?_) | go_values | go_skip | go_guarded | go_step | go_upon | go_back)
 refine Stop.mk (wp_region_lit ?_);have HB:=Zh H2.blk;have HRW:=Zh (readOf_wf HS.out);rw [(show ({ (⟨1,id,zeros 32,0,[],0,zeros 8⟩:Bk) with page:=(s.drop 6).take 32 })=readOf s from by rw [←HID.out]; unfold readOf; simp [HK.out])] at HB;refine JF (cs:=(readOf s).arr Ky) (Blk.all HB.out rfl) ((readOf s).arr_size HRW.out _) rfl rfl ?_;refine nm ?_;refine J3 (cs:=(readOf s).arr Ky) H2.res (by rw [(readOf s).arr_size HRW.out]; rfl) (by rw [(readOf s).arr_size HRW.out]; exact K9) (KD _ _ _ _) rfl rfl rfl ?_;intro wZ hZ hOZ hlZ;refine nm ?_;have HF:=Zh (H2.bel.trans (hOZ.below H2.bel.size (fun k hk=>by have:=H2.g0; have:=H2.gr; omega)));go_wp2_with fail
 refine bodyPost_ret (v:=.agg ((readOf s).arr Ky)) (Jr rfl _ _ r 0 _ _ rfl Tryz.underlying82 rfl (by rw [(readOf s).arr_size HRW.out]; exact K9) (Blk.all hZ rfl)) rfl ⟨_,rfl,?_,HF.out,Fresh.nil _⟩;rw [show (readOf s).bytes=[] from by unfold readOf; simp [HK.out]];exact BytesAt.nil _ _ _
theorem RT.other{r t:Nat}{s:List Int}{b:Bk}(h:RT W w g r t s b sv)(ho:Only (fun k=>k=m) w w')(hm:t<m):RT W w' g r t s b sv :=
 ⟨h.sec.only ho (by have:=h.gr; have:=h.rt; omega),h.res.only ho (by have:=h.rt; omega),h.blk.only ho (by omega),h.bel.trans (ho.below h.bel.size (fun k hk=>by have:=h.g0; have:=h.gr; have:=h.rt; omega)),h.g0,h.gr,h.rt⟩
theorem RT.cell34{r t:Nat}{s:List Int}{b:Bk}(h:RT W w g r t s b sv)(hp:b.page.length=32):w.cell? ⟨t,34,none⟩=some (.int .i64 b.off):=h.blk.cell (YH b hp sv 0)
theorem RT.cell35{r t:Nat}{s:List Int}{b:Bk}(h:RT W w g r t s b sv)(hp:b.page.length=32):w.cell? ⟨t,35,none⟩=some sv:=h.blk.cell (YH b hp sv 1)
theorem RT.cell36{r t:Nat}{s:List Int}{b:Bk}(h:RT W w g r t s b sv)(hp:b.page.length=32):w.cell? ⟨t,36,none⟩=some (.int .i64 b.prev):=h.blk.cell (YH b hp sv 2)
theorem RT.cellH{r t:Nat}{s:List Int}{b:Bk}(h:RT W w g r t s b sv)(hp:b.page.length=32)(k:Nat):w.cell? ⟨t,37+k,none⟩=(Jq b.heads)[k]? := by
 obtain⟨ty,e⟩:=h.blk;rw [cell_of_row w t _ _ ty _ e,List.getElem?_toArray];have:=YH b hp sv (k+3)
 rwa [show 34+(k+3)=37+k by omega] at this
theorem kj{s:List Int}(h:Sc s)(o n:Nat):∀x∈(s.drop o).take n,KO x:=fun x hx=>h.bytes x (List.mem_of_mem_drop (List.mem_of_mem_take hx))
def J2e(id:Int)(o:Int)(n:Nat)(s:List Int)(p:Int):Bk:=⟨2,id,zeros 32,o,(s.drop 8).take (min 16 n)++zeros (n-16),p,zeros 8⟩
theorem J73{s:List Int}(hk:JO s=2){id o:Int}(h1:s.getD 1 0=id)(h6:s.getD 6 0=o)(h7:s.getD 7 0=(n:Int))(hp:num ((s.drop 24).take 2)=p):J2e id o n s p=readOf s:=by
 subst h1 h6 hp;have e:(s.getD 7 0).toNat=n:=by rw [h7]; rfl
 unfold J2e readOf;rw [e];simp [hk]
theorem J74(s:List Int)(hs:Sc s)(hk:JO s=2)(w:World):Calls Tryz.prog 144 #[.agg (u8s s).toArray] w fun e w'=>∃sv,e=.returned (.agg ((readOf s).arr sv))∧BytesAt w' sv (readOf s).bytes∧Below w.heap.size w w'∧Fresh w.heap.size sv:=by
 have HS:=Zh hs;obtain⟨hi1,hi2⟩:=sc_byte hs 1;obtain⟨id,hid⟩:∃i,s.getD 1 0=i:=⟨_,rfl⟩
 rw [hid] at hi1 hi2;have HID:=Zh hid;have HK:=Zh hk;have hk0:=sc_byte hs 0;clear hk0;go_enter Tryz.func144,Tryz.ntmps144
 repeat (first | (with_reducible refine JL (id:=0) ?_) | go_values | go_skip | go_guarded | go_step | go_upon | go_back)
 refine Stop.mk (wp_region_lit ?_);refine JT rfl rfl ?_;intro wA hA hB hl;refine nm ?_;refine J4 zero82b rfl ?_;intro wB hR hB2 hl2;refine nm ?_;have hA2:=hA.below hB2 hl;have hBB:=hB.trans (hB2.mono hB.size);refine Zn ?_
 repeat (first | (with_reducible refine JL (id:=1) ?_) | go_values | go_skip | go_guarded | go_step | go_upon | go_back)
 refine Stop.mk (wp_region_lit ?_);have c0:wB.cell? ⟨w.heap.size,0,none⟩=some (.int .u8 (JO s)):=hA2.cell (Kf HS.out (by decide));rw [HK.out] at c0;have c1:wB.cell? ⟨w.heap.size,1,none⟩=some (.int .u8 id):=by rw [←HID.out]; exact hA2.cell (Kf HS.out (by decide))
 refine tk (.pointer (some ⟨w.heap.size,0,none⟩)) ?_;refine tk (.int .u8 2) ?_;refine tk (.int .i64 2) ?_ (hr:=by go_simp; rfl);refine tk (.pointer (some ⟨w.heap.size,1,none⟩)) ?_;refine tk (.int .u8 (id)) ?_;refine tk (.int .i64 id) ?_ (hr:=by go_simp; exact JR hi1 (by omega));refine tk (.agg (Bk.arr ⟨2,id,zeros 32,0,[],0,zeros 8⟩ Ky)) ?_ (hr:=(Jc _ _ _ _ 82 #[(0,.tmp 7),(1,.tmp 10)] rfl #[(0,.int .i64 2),(1,.int .i64 (id))] (by simp only [List.map_toArray,List.map_cons,List.map_nil]; rfl) _ (Yo 2 (id) _)));refine J4 zero82b rfl ?_;intro wC hC hBC hlC;refine nm ?_;refine J3 hC (by rfl) (by exact K9) (KD _ _ _ _) rfl rfl rfl ?_;intro wD hD hOD hlD;refine nm ?_;have hBD:=hBC.trans (hOD.below hBC.size (fun k hk=>Nat.le_of_eq hk.symm));have H1:Hid (RT w wD w.heap.size wA.heap.size wB.heap.size s ⟨2,id,zeros 32,0,[],0,zeros 8⟩ Ky):=Zh
  ⟨hA2.below hBD hA2.lt,hR.below hBD hR.lt,hD,hBB.trans (hBD.mono hBB.size),Nat.le_refl _,hl,hl2⟩
 clear c0 c1 hA hB hl hR hB2 hl2 hA2 hBB hC hBC hlC hD hOD hlD hBD;generalize hgg:w.heap.size=g at *;generalize wA.heap.size=r at *;generalize wB.heap.size=t at *;have HGG:=Zh hgg;clear hgg wA wB wC;have ck:wD.cell? ⟨t,0,none⟩=some (.int .i64 2):=H1.blk.cell rfl;refine Zn ?_
 repeat (first | (with_reducible refine JL (id:=6) ?_) | go_values | go_skip | go_guarded | go_step | go_upon | go_back)
 refine Stop.mk (wp_region_lit ?_);obtain⟨ho1,ho2⟩:=sc_byte hs 6;obtain⟨hm1,hm2⟩:=sc_byte hs 7;obtain⟨o,ho⟩:∃i,s.getD 6 0=i:=⟨_,rfl⟩
 obtain⟨n,hn⟩:∃n:Nat,s.getD 7 0=(n:Int):=⟨(s.getD 7 0).toNat,by omega⟩
 rw [ho] at ho1 ho2;rw [hn] at hm2;have HO:=Zh ho;have HNN:=Zh hn;clear ho hn hm1;have hn256:n<256:=by omega
 have c6:wD.cell? ⟨g,6,none⟩=some (.int .u8 o):=by rw [←HO.out]; exact H1.sec.cell (Kf HS.out (by decide))
 have c34:=H1.cell34 rfl;have hf:=H1.blk.frozen 34;refine tk (.pointer (some ⟨g,6,none⟩)) ?_;refine tk (.int .u8 o) ?_;refine tk (.int .i64 o) ?_ (hr:=by go_simp; exact JR ho1 (by omega));refine tk (.pointer (some ⟨t,34,none⟩)) ?_;refine Xr (wD.setCell ⟨t,34,none⟩ (.int .i64 o)) rfl (by go_simp) ?_;refine nm ?_;have H2:=Zh (H1.set 34 (.int .i64 o) (yk _ rfl _ o));clear ck c6 c34 hf;generalize wD.setCell ⟨t,34,none⟩ (.int .i64 o)=wE at *;refine Zn ?_
 repeat (first | (with_reducible refine JL (id:=7) ?_) | go_values | go_skip | go_guarded | go_step | go_upon | go_back)
 refine Stop.mk (wp_region_lit ?_);have c7:wE.cell? ⟨g,7,none⟩=some (.int .u8 (n:Int)):=by rw [←HNN.out]; exact H2.sec.cell (Kf HS.out (by decide))
 refine tk (.pointer (some ⟨g,7,none⟩)) ?_;refine tk (.int .u8 (n:Int)) ?_;refine tk (.int .i64 (n:Int)) ?_ (hr:=by go_simp; exact JR (by omega) (by omega));refine Jem (n:=n) rfl rfl hn256 rfl ?_;intro wF hM hBM hlM;refine nm ?_;have H3:=Zh (H2.below hBM);have hmt:t<wE.heap.size:=H2.blk.lt;generalize wE.heap.size=m at *;clear c7 hBM;have c35:=H3.cell35 rfl;have hf:=H3.blk.frozen 35;refine tk (.pointer (some ⟨t,35,none⟩)) ?_;refine Xr (wF.setCell ⟨t,35,none⟩ (.slice (some ⟨m,0,none⟩) n n)) rfl (by go_simp) ?_;refine nm ?_;have H4:=Zh (H3.set 35 (.slice (some ⟨m,0,none⟩) n n) (yl _ rfl _ _ ((s.drop 8).take (min 16 n)++zeros (n-16))));have HM4:=Zh (hM.setOther (a:=⟨t,35,none⟩) (by simp only; omega) (.slice (some ⟨m,0,none⟩) n n));clear c35 hf hM H3;generalize wF.setCell ⟨t,35,none⟩ (.slice (some ⟨m,0,none⟩) n n)=wG at *;go_wp2_with fail
 have c35:=H4.drew.cell35 rfl;refine J8 (fun wq=>wq.cell? ⟨t,35,none⟩=some (.slice (some ⟨m,0,none⟩) n n)) (by kernel_rfl) ?_;refine Jj 0 (some 31) (.pointer (some ⟨t,35,none⟩)) rfl rfl (by kernel_rfl) (by kernel_rfl) (by kernel_rfl) (fun _ _ _ h=>h) rfl (fun w _=>by go_simp) c35 ?_;refine nm ?_;refine Jj 1 (some 32) (.slice (some ⟨m,0,none⟩) n n) rfl rfl (by kernel_rfl) (by kernel_rfl) (by kernel_rfl) (fun _ _ _ h=>h) rfl (fun w hS=>by go_simp) c35 ?_;refine nm ?_;refine Jj 2 (some 33) (.slice (some ⟨g,8,none⟩) 16 56) rfl rfl (by kernel_rfl) (by kernel_rfl) (by kernel_rfl) (fun _ _ _ h=>h) rfl (fun w _=>by go_simp) c35 ?_;refine nm ?_;refine Zo 3 fun K hK=>?_;have hl16:((s.drop 8).take (min 16 n)).length=min 16 n:=by
  rw [List.length_take,List.length_drop,HS.length];omega
 refine Zj _ _ rfl Tryz.underlying80 X6 m 0 n n g 8 16 56 rfl rfl _ ((s.drop 8).take (min 16 n)) HM4.drew (by rw [hl16]) (fun j v hv=>H4.drew.seg 8 (min 16 n) j v hv) (by rw [hl16,List.length_map,J1]; omega) (some 34) rfl fun wC hb ho=>?_;rw [Qk,zS,hl16,show n-min 16 n=n-16 by omega] at hb;have H5:=Zh (H4.drew.other ho hmt);have HM5:=Zh hb;refine hK _ _ (H5.cell35 rfl) ?_;clear hK K hb ho c35 H4 HM4 hl16;refine nm ?_;refine Zd ?_
 repeat (first | (with_reducible refine JL (id:=9) ?_) | go_values | go_skip | go_guarded | go_step | go_upon | go_back)
 refine Stop.mk (wp_region_lit ?_);refine tk (.slice (some ⟨g,24,none⟩) 2 40) ?_;refine J0 rfl fun K hK=>?_;go_simp;have hp2:=XM _ (kj HS.out 24 2);have hp3:((s.drop 24).take 2).length=2:=by simp [HS.length]
 rw [hp3] at hp2;refine (get2_any _ g 24 40 ((s.drop 24).take 2) hp3 (kj HS.out 24 2) (fun i x hx=>H5.seg 24 2 i x hx)).mono ?_;rintro e w6 ⟨rfl,rfl⟩;refine hK _ _ (nm ?_);clear hK K;obtain⟨hp4,hp5⟩:=hp2;generalize hpp:num ((s.drop 24).take 2)=p at *;have HPP:=Zh hpp;have hp6:p<65536:=hp5;clear hpp hp3 hp5;have c36:=H5.cell36 rfl;have hf:=H5.blk.frozen 36;refine tk (.int .i64 p) ?_ (hr:=by go_simp; exact JR hp4 (by omega));refine tk (.pointer (some ⟨t,36,none⟩)) ?_;refine Xr (wC.setCell ⟨t,36,none⟩ (.int .i64 p)) rfl (by go_simp) ?_;refine nm ?_;have H6:Hid (RT w _ g r t s (J2e id o n s p) (.slice (some ⟨m,0,none⟩) n n)):=Zh (H5.set 36 (.int .i64 p) (ym _ rfl _ p));have HM6:=Zh (HM5.setOther (a:=⟨t,36,none⟩) (by simp only; omega) (.int .i64 p));clear c36 hf H5 HM5;generalize wC.setCell ⟨t,36,none⟩ (.int .i64 p)=wH at *;have hmlt:m<wH.heap.size:=HM6.lt;refine Zn ?_
 repeat (first | (with_reducible refine JL (id:=16) ?_) | go_values | go_skip | go_guarded | go_step | go_upon | go_back)
 refine Stop.mk (wp_region_lit ?_);have HB:=Zh H6.blk;have HRW:=Zh (readOf_wf HS.out);rw [(J73 HK.out HID.out HO.out HNN.out HPP.out)] at HB;refine JF (cs:=(readOf s).arr (.slice (some ⟨m,0,none⟩) n n)) (Blk.all HB.out rfl) ((readOf s).arr_size HRW.out _) rfl rfl ?_;refine nm ?_;refine J3 (cs:=(readOf s).arr (.slice (some ⟨m,0,none⟩) n n)) H6.res (by rw [(readOf s).arr_size HRW.out]; rfl) (by rw [(readOf s).arr_size HRW.out]; exact K9) (KD _ _ _ _) rfl rfl rfl ?_;intro wZ hZ hOZ hlZ;refine nm ?_;have HF:=Zh (H6.bel.trans (hOZ.below H6.bel.size (fun k hk=>by have:=H6.g0; have:=H6.gr; omega)));go_wp2_with fail
 refine bodyPost_ret (v:=.agg ((readOf s).arr (.slice (some ⟨m,0,none⟩) n n))) (Jr rfl _ _ r 0 _ _ rfl Tryz.underlying82 rfl (by rw [(readOf s).arr_size HRW.out]; exact K9) (Blk.all hZ rfl)) rfl ⟨_,rfl,?_,HF.out,fun b o k c h=>by cases h; have:=H6.g0; have:=H6.gr; have:=H6.rt; omega⟩;have hz:=HM6.only hOZ (by have:=H6.rt; omega);have hb:=BytesAt.of_blk (cap:=n) hz;have e:readOf s=J2e id o n s p:=(J73 HK.out HID.out HO.out HNN.out HPP.out).symm;rw [e];have el:((s.drop 8).take (min 16 n)++zeros (n-16)).length=n:=by
  simp [HS.length,zeros];omega
 rw [el] at hb;exact hb
theorem J75(s:List Int)(hs:Sc s)(hk:JO s=3)(w:World):Calls Tryz.prog 144 #[.agg (u8s s).toArray] w fun e w'=>∃sv,e=.returned (.agg ((readOf s).arr sv))∧BytesAt w' sv (readOf s).bytes∧Below w.heap.size w w'∧Fresh w.heap.size sv:=by
 have HS:=Zh hs;obtain⟨hi1,hi2⟩:=sc_byte hs 1;obtain⟨id,hid⟩:∃i,s.getD 1 0=i:=⟨_,rfl⟩
 rw [hid] at hi1 hi2;have HID:=Zh hid;have HK:=Zh hk;have hk0:=sc_byte hs 0;clear hk0;go_enter Tryz.func144,Tryz.ntmps144
 repeat (first | (with_reducible refine JL (id:=0) ?_) | go_values | go_skip | go_guarded | go_step | go_upon | go_back)
 refine Stop.mk (wp_region_lit ?_);refine JT rfl rfl ?_;intro wA hA hB hl;refine nm ?_;refine J4 zero82b rfl ?_;intro wB hR hB2 hl2;refine nm ?_;have hA2:=hA.below hB2 hl;have hBB:=hB.trans (hB2.mono hB.size);refine Zn ?_
 repeat (first | (with_reducible refine JL (id:=1) ?_) | go_values | go_skip | go_guarded | go_step | go_upon | go_back)
 refine Stop.mk (wp_region_lit ?_);have c0:wB.cell? ⟨w.heap.size,0,none⟩=some (.int .u8 (JO s)):=hA2.cell (Kf HS.out (by decide));rw [HK.out] at c0;have c1:wB.cell? ⟨w.heap.size,1,none⟩=some (.int .u8 id):=by rw [←HID.out]; exact hA2.cell (Kf HS.out (by decide))
 refine tk (.pointer (some ⟨w.heap.size,0,none⟩)) ?_;refine tk (.int .u8 3) ?_;refine tk (.int .i64 3) ?_ (hr:=by go_simp; rfl);refine tk (.pointer (some ⟨w.heap.size,1,none⟩)) ?_;refine tk (.int .u8 (id)) ?_;refine tk (.int .i64 id) ?_ (hr:=by go_simp; exact JR hi1 (by omega));refine tk (.agg (Bk.arr ⟨3,id,zeros 32,0,[],0,zeros 8⟩ Ky)) ?_ (hr:=(Jc _ _ _ _ 82 #[(0,.tmp 7),(1,.tmp 10)] rfl #[(0,.int .i64 3),(1,.int .i64 (id))] (by simp only [List.map_toArray,List.map_cons,List.map_nil]; rfl) _ (Yo 3 (id) _)));refine J4 zero82b rfl ?_;intro wC hC hBC hlC;refine nm ?_;refine J3 hC (by rfl) (by exact K9) (KD _ _ _ _) rfl rfl rfl ?_;intro wD hD hOD hlD;refine nm ?_;have hBD:=hBC.trans (hOD.below hBC.size (fun k hk=>Nat.le_of_eq hk.symm));have H1:Hid (RT w wD w.heap.size wA.heap.size wB.heap.size s ⟨3,id,zeros 32,0,[],0,zeros 8⟩ Ky):=Zh
  ⟨hA2.below hBD hA2.lt,hR.below hBD hR.lt,hD,hBB.trans (hBD.mono hBB.size),Nat.le_refl _,hl,hl2⟩
 clear c0 c1 hA hB hl hR hB2 hl2 hA2 hBB hC hBC hlC hD hOD hlD hBD;generalize hgg:w.heap.size=g at *;generalize wA.heap.size=r at *;generalize wB.heap.size=t at *;have HGG:=Zh hgg;clear hgg wA wB wC;have ck:wD.cell? ⟨t,0,none⟩=some (.int .i64 3):=H1.blk.cell rfl;go_wp2_with fail
 go_loopg [41] 8 (fun q i wr=>∃k:Nat,8-k≤q∧k≤8∧i=.int .i64 k∧RT w wr g r t s ⟨3,id,zeros 32,0,[],0,(List.range k).map (Z3 s)++zeros (8-k)⟩ Ky)
 case atStart=>exact⟨0,by omega,by omega,rfl,H1.out⟩
 case round =>
  obtain⟨k,hg,hk,rfl,hrt⟩:=hrel;have HR:=Zh hrt;clear hrt H1
  by_cases hlt:k<8
  · have hcell:=HR.cellH rfl k;rw [show (Jq ((List.range k).map (Z3 s)++zeros (8-k)))[k]? = some (.int .i64 0) from by
     rw [List.getElem?_map,List.getElem?_append_right (by simp),zeros,List.getElem?_replicate,if_pos (by rw [List.length_map,List.length_range]; omega)]
     rfl] at hcell
    have hfro:=HR.blk.frozen (37+k);have hp2:=XM _ (kj HS.out (6+2*k) 2);have hp3:((s.drop (6+2*k)).take 2).length=2:=by
     rw [List.length_take,List.length_drop,HS.length];omega
    rw [hp3] at hp2;obtain⟨hp4,hp5⟩:=hp2;have HG2:=Zh (get2_any wr g (6+2*k) (64-(6+2*k)) ((s.drop (6+2*k)).take 2) hp3 (kj HS.out (6+2*k) 2) (fun i x hx=>HR.seg (6+2*k) 2 i x hx));generalize hpp:num ((s.drop (6+2*k)).take 2)=p at *;have HPP:=Zh hpp;have hp6:p<65536:=hp5;clear hpp hp3 hp5
    go_wp2_with fail
    refine (jX wr g k hlt).mono ?_;rintro e w6 ⟨rfl,rfl⟩
    go_wp2_with fail
    refine HG2.mono ?_;rintro e w7 ⟨rfl,rfl⟩
    go_wp2_with fail
    go_roundg (8-(k+1))
    case measure=>omega
    case rel =>
     refine⟨k+1,by omega,by omega,by go_num,?_⟩;refine HR.set (37+k) (.int .i64 p) ?_;rw [J08 _ rfl];congr 1;simp only [Bk.mk.injEq,true_and];rw [List.set_append_right _ _ (by simp),List.range_succ,show 8-k=(8-(k+1))+1 by omega,show zeros ((8-(k+1))+1)=0::zeros (8-(k+1)) from rfl];simp [Z3,HPP.out]
  · have H9:Hid (RT w wr g r t s ⟨3,id,zeros 32,0,[],0,(List.range 8).map (Z3 s)⟩ Ky):=Zh (by
     obtain rfl:k=8:=by omega
     have:=HR.out
     simpa [zeros] using this)
    have hk8:k=8:=by omega
    clear HR;subst hk8
    repeat (first | (with_reducible refine JL (id:=16) ?_) | go_values | go_skip | go_guarded | go_step | go_upon | go_back)
    refine Stop.mk (wp_region_lit ?_);have HB:=Zh H9.blk;have HRW:=Zh (readOf_wf HS.out);rw [(show (⟨3,id,zeros 32,0,[],0,(List.range 8).map (Z3 s)⟩:Bk)=readOf s from by rw [←HID.out]; unfold readOf; simp [HK.out])] at HB;refine JF (cs:=(readOf s).arr Ky) (Blk.all HB.out rfl) ((readOf s).arr_size HRW.out _) rfl rfl ?_;refine nm ?_;refine J3 (cs:=(readOf s).arr Ky) H9.res (by rw [(readOf s).arr_size HRW.out]; rfl) (by rw [(readOf s).arr_size HRW.out]; exact K9) (KD _ _ _ _) rfl rfl rfl ?_;intro wZ hZ hOZ hlZ;refine nm ?_;have HF:=Zh (H9.bel.trans (hOZ.below H9.bel.size (fun k hk=>by have:=H9.g0; have:=H9.gr; omega)));go_wp2_with fail
    refine bodyPost_ret (v:=.agg ((readOf s).arr Ky)) (Jr rfl _ _ r 0 _ _ rfl Tryz.underlying82 rfl (by rw [(readOf s).arr_size HRW.out]; exact K9) (Blk.all hZ rfl)) rfl ⟨_,rfl,?_,HF.out,Fresh.nil _⟩;rw [show (readOf s).bytes=[] from by unfold readOf; simp [HK.out]];exact BytesAt.nil _ _ _
theorem read_any(s:List Int)(hs:Sc s)(w:World):Calls Tryz.prog 144 #[.agg (u8s s).toArray] w fun e w'=>∃sv,e=.returned (.agg ((readOf s).arr sv))∧BytesAt w' sv (readOf s).bytes∧Below w.heap.size w w'∧Fresh w.heap.size sv:=by
 by_cases k1:JO s=1
 · exact J72 s hs k1 w
 · by_cases k2:JO s=2
   · exact J74 s hs k2 w
   · by_cases k3:JO s=3
     · exact J75 s hs k3 w
     · exact J71 s hs ⟨k1,k2,k3⟩ w
theorem Qo{fn:Func}{p q r:Tmp}{ty:TypeId}(h:fn.results=#[.cell p ty,.tmp q,.tmp r])(tmps:Array Value)(w:World)(g off:Nat)(cs:Array Value)(d:TypeDesc)(v u:Value)(hp:tmps.getD p undef=.pointer (some ⟨g,off,none⟩))(hv:tmps.getD q undef=v)(hv2:tmps.getD r undef=u)(hu:P.underlying ty=some d)(hd:(match d with | .struct _ | .array _ _=>true | _=>false)=true)(hi:(P.info? ty).map (·.size)=some cs.size)(hc:∀j (h:j<cs.size),w.cell? ⟨g,off+j,none⟩=some cs[j]) :
 (results fn tmps).run P w=.ok (.tuple #[.agg cs,v,u]) w:=by
 have hp':tmps[p]?.getD undef=.pointer (some ⟨g,off,none⟩):=by simpa using hp
 have hv':tmps[q]?.getD undef=v:=by simpa using hv
 have hv2':tmps[r]?.getD undef=u:=by simpa using hv2
 simp [results,h,hp',hv',hv2',asAddr,K8 w g off ty cs d hu hd hi hc]
theorem J76:Tryz.prog.built 82 []=some (Bk.none.arr Ky):=by kernel_rfl
theorem jM(w:World):(Instr.build 82 #[]).run Tryz.prog w=.ok (.agg (Bk.none.arr Ky)) w:=run_build w 82 _ _ J76
theorem Zw(b:Bk)(h:BytesAt w sv l):∀v∈b.arr sv,v.oneCell'=true:=by
 obtain⟨a,cap,rfl,_⟩:=h;exact KD b a _ cap
theorem J0b{b:Bk}(h:b.Wf)(n:Int):(b.sec n).length=64:=by
 unfold Bk.sec;cases hg:b.good
 · simp [zeros]
 · simpa using enc_length hg h n
theorem kk(s:List Int)(hs:Sc s)(w:World):Calls Tryz.prog 116 #[.agg (u8s s).toArray] w fun e w'=>∃sv,e=.returned (.tuple #[.agg ((Qc s).arr sv),.int .u32 (Zu s),.int .i64 (Yc s)])∧BytesAt w' sv (Qc s).bytes∧Below w.heap.size w w'∧Fresh w.heap.size sv:=by
 have HS:=Zh hs;have HSL:Hid ((u8s s).toArray.size=64):=Zh (by rw [J2,hs.length]);have HRW:=Zh (readOf_wf hs);have HSR:=Zh (jh hs);have HRD:=Zh fun w=>read_any s hs w;have hsl4:((s.drop 2).take 4).length=4:=by rw [List.length_take,List.length_drop,hs.length]; omega
 clear hs;go_enter Tryz.func116,Tryz.ntmps116
 repeat (first | (with_reducible refine JL (id:=0) ?_) | go_values | go_skip | go_guarded | go_step | go_upon | go_back)
 refine Stop.mk (wp_region_lit ?_);refine JT rfl rfl ?_;intro wA hA hB hl;refine nm ?_;refine J4 zero82b rfl ?_;intro wB hR hB2 hl2;refine nm ?_;have hA2:=hA.below hB2 hl;have hBB:=hB.trans (hB2.mono hB.size);refine tk (.int .u32 0) ?_;refine tk (.int .i64 0) ?_;have HA2:Hid (Blk wB w.heap.size (u8s s)∧Blk wB wA.heap.size (Bk.none.cells Ky)∧Below w.heap.size w wB∧w.heap.size<wA.heap.size):=Zh ⟨hA2,hR,hBB,hl⟩;clear hA hB hl hR hB2 hl2 hA2 hBB;generalize hgg:w.heap.size=g at *;generalize wA.heap.size=r at *;have HGG:=Zh hgg;clear hgg wA;go_upto_region 1 with fail
 go_cut [5,6] from 9 to 13 (fun s5 s6 wx=>∃t sv,s5=.pointer (some ⟨t,0,none⟩)∧s6=.int .u32 (Kq s)∧RT w wx g r t s (readOf s) sv∧BytesAt wx sv (readOf s).bytes∧Fresh (r+1) sv)
 case first =>
  have hAt:∀wq,Below wB.heap.size wB wq→At wq g 0 (u8s s).toArray:=fun wq hq=>Blk.all (HA2.out.1.below hq HA2.out.1.lt) rfl;have HC4:=Zh fun (wq:World) (hq:Below wB.heap.size wB wq)=>get4_any wq g 2 62 ((s.drop 2).take 4) hsl4 (kj HS.out 2 4) (fun i x hx=>(HA2.out.1.below hq HA2.out.1.lt).cell (by
   have hj:i<4:=by
    have:=(List.getElem?_eq_some_iff.1 hx).1
    omega
   rw [List.getElem?_take_of_lt hj,List.getElem?_drop] at hx
   rw [List.getElem?_map,hx]
   rfl))
  refine J8 (fun wq=>Below wB.heap.size wB wq) (by kernel_rfl) ?_;have HSX:Hid (Below wB.heap.size wB wB.drew):=Zh (Below.refl _ _).drew;generalize wB.drew=wS at *;refine Jj 0 (some 9) (.agg (u8s s).toArray) rfl rfl (by kernel_rfl) (by kernel_rfl) (by kernel_rfl) (fun _ _ _ h=>h) rfl (fun w hS=>exec_load_at w _ _ 36 _ rfl g 0 rfl _ _ Tryz.underlying36 rfl (by rw [HSL.out]; exact info36) (hAt w hS)) HSX.out ?_;refine nm ?_;refine Jj 2 (some 11) (.slice (some ⟨g,2,none⟩) 4 62) rfl rfl (by kernel_rfl) (by kernel_rfl) (by kernel_rfl) (fun _ _ _ h=>h) rfl (fun w hS=>by go_simp) HSX.out ?_;refine nm ?_;refine q9 1 4 (by kernel_rfl) rfl rfl rfl rfl (fun K hK=>?_) (fun K hK=>?_)
  · go_simp;refine (HRD.out _).mono ?_;rintro e w1 ⟨sv,rfl,hby,hb,hfr⟩;have HSY:=Zh (HSX.trans (hb.mono HSX.size));have HFR0:=Zh (show ∀b o n c,sv=.slice (some ⟨b,o,none⟩) n c→0<(readOf s).bytes.length→b<w1.heap.size from fun b o n c h hl=>hby.lt hl h);have HFRR:=Zh (show Fresh (r+1) sv from fun b o n c h=>by have:=hfr b o n c h; have:=HSX.size; have:=HA2.out.2.1.lt; omega);have HBY:=Zh hby;refine hK _ _ HSY.out ?_;clear hK K hb hby HSX hfr;have HSX:=HSY;clear HSY;refine nm ?_;refine q9 3 4 (by kernel_rfl) rfl rfl rfl rfl (fun K hK=>?_) (fun K hK=>?_)
    · go_simp;refine (HC4.out _ HSX.out).mono ?_;rintro e w2 ⟨rfl,rfl⟩;refine hK _ _ HSX.out (nm ?_);clear hK K;rw [show num ((s.drop 2).take 4)=Kq s from rfl];refine Zo 4 fun K hK=>?_;refine Jg (some 5) rfl _ _ (JI _ _ _ 82 rfl _ zero82b) ?_;have hT:=Blk.new w1 (Bk.none.arr Ky) 82;have hBT:=(Below.refl w1.heap.size w1).alloc (Nat.le_refl _) (.cells (Bk.none.arr Ky) 82);have HSY:=Zh (HSX.trans (hBT.mono HSX.size));have HT:=Zh hT;have HTB:=Zh HSX.size;have HBZ:=Zh (HBY.below hBT);clear HBY;have HBY:=HBZ;clear HBZ;refine hK _ _ HSY.out ?_;clear hK K hBT hT HSX;have HSX:=HSY;clear HSY;refine nm ?_;generalize w1.alloc (.cells (Bk.none.arr Ky) 82)=wD at *;generalize w1.heap.size=t at *;refine Zo 5 fun K hK=>?_;refine Kh 82 _ _ rfl t 0 ((readOf s).arr sv) rfl rfl _ HT.out (by rw [(readOf s).arr_size HRW.out]; exact K9) (by rw [(readOf s).arr_size HRW.out]; decide) (Zw _ HBY.out) ?_;rw [JQ _ _ (by rw [(readOf s).arr_size HRW.out]; rfl)];have hT2:=HT.row ((readOf s).arr sv);have hOT:=(Only.refl (fun k=>k=t) wD).setRow (g:=t) (.inl rfl) ((readOf s).arr sv);generalize wD.setRow t ((readOf s).arr sv)=wT at *;have hbf:=hOT.below HSX.size (fun k hk=>by have:=HTB.out; omega);have HSY:=Zh (HSX.trans hbf);have HBZ:Hid (BytesAt wT sv (readOf s).bytes):=Zh (by
       rcases Nat.eq_zero_or_pos (readOf s).bytes.length with h0 | h0
       · obtain⟨a,cap,e,_⟩:=HBY.out
         exact⟨a,cap,e,fun i x hx=>by rw [List.eq_nil_of_length_eq_zero h0] at hx; simp at hx⟩
       · exact HBY.only hOT fun b o n c h=>by have:=HFR0.out b o n c h h0; omega)
      refine hK _ _ HSY.out (nm ?_);clear hK K;refine Jj 6 (some 6) (.int .u32 (Kq s)) rfl rfl (by kernel_rfl) (by kernel_rfl) (by kernel_rfl) (fun _ _ _ h=>h) rfl (fun w hS=>by go_simp) HSY.out ?_;refine nm ?_;refine Zd ?_
      go_wp2_with fail
      go_meet
      refine⟨t,sv,rfl,rfl,⟨HA2.out.1.below HSY.out HA2.out.1.lt,HA2.out.2.1.below HSY.out HA2.out.2.1.lt,hT2,by rw [HGG.out]; exact HA2.out.2.2.1.trans (HSY.mono (by have:=HA2.out.2.2.1.size; have:=HGG.out; omega)),Nat.le_of_eq HGG.out,HA2.out.2.2.2,by have:=HTB.out; have:=HA2.out.2.1.lt; omega⟩,HBZ.out,HFRR.out⟩
    · refine Jg (some 5) rfl _ _ (JI _ _ _ 82 rfl _ zero82b) ?_;have hT:=Blk.new w1 (Bk.none.arr Ky) 82;have hBT:=(Below.refl w1.heap.size w1).alloc (Nat.le_refl _) (.cells (Bk.none.arr Ky) 82);have HSY:=Zh (HSX.trans (hBT.mono HSX.size));have HT:=Zh hT;have HTB:=Zh HSX.size;have HBZ:=Zh (HBY.below hBT);clear HBY;have HBY:=HBZ;clear HBZ;refine hK _ _ HSY.out ?_;clear hK K hBT hT HSX;have HSX:=HSY;clear HSY;refine nm ?_;generalize w1.alloc (.cells (Bk.none.arr Ky) 82)=wD at *;generalize w1.heap.size=t at *;refine Zo 3 fun K hK=>?_;go_simp;refine (HC4.out _ HSX.out).mono ?_;rintro e w2 ⟨rfl,rfl⟩;refine hK _ _ HSX.out (nm ?_);clear hK K;rw [show num ((s.drop 2).take 4)=Kq s from rfl];refine Zo 5 fun K hK=>?_;refine Kh 82 _ _ rfl t 0 ((readOf s).arr sv) rfl rfl _ HT.out (by rw [(readOf s).arr_size HRW.out]; exact K9) (by rw [(readOf s).arr_size HRW.out]; decide) (Zw _ HBY.out) ?_;rw [JQ _ _ (by rw [(readOf s).arr_size HRW.out]; rfl)];have hT2:=HT.row ((readOf s).arr sv);have hOT:=(Only.refl (fun k=>k=t) wD).setRow (g:=t) (.inl rfl) ((readOf s).arr sv);generalize wD.setRow t ((readOf s).arr sv)=wT at *;have hbf:=hOT.below HSX.size (fun k hk=>by have:=HTB.out; omega);have HSY:=Zh (HSX.trans hbf);have HBZ:Hid (BytesAt wT sv (readOf s).bytes):=Zh (by
       rcases Nat.eq_zero_or_pos (readOf s).bytes.length with h0 | h0
       · obtain⟨a,cap,e,_⟩:=HBY.out
         exact⟨a,cap,e,fun i x hx=>by rw [List.eq_nil_of_length_eq_zero h0] at hx; simp at hx⟩
       · exact HBY.only hOT fun b o n c h=>by have:=HFR0.out b o n c h h0; omega)
      refine hK _ _ HSY.out (nm ?_);clear hK K;refine Jj 6 (some 6) (.int .u32 (Kq s)) rfl rfl (by kernel_rfl) (by kernel_rfl) (by kernel_rfl) (fun _ _ _ h=>h) rfl (fun w hS=>by go_simp) HSY.out ?_;refine nm ?_;refine Zd ?_
      go_wp2_with fail
      go_meet
      refine⟨t,sv,rfl,rfl,⟨HA2.out.1.below HSY.out HA2.out.1.lt,HA2.out.2.1.below HSY.out HA2.out.2.1.lt,hT2,by rw [HGG.out]; exact HA2.out.2.2.1.trans (HSY.mono (by have:=HA2.out.2.2.1.size; have:=HGG.out; omega)),Nat.le_of_eq HGG.out,HA2.out.2.2.2,by have:=HTB.out; have:=HA2.out.2.1.lt; omega⟩,HBZ.out,HFRR.out⟩
  · refine Jg (some 5) rfl _ _ (JI _ _ _ 82 rfl _ zero82b) ?_;have hT:=Blk.new wS (Bk.none.arr Ky) 82;have hBT:=(Below.refl wS.heap.size wS).alloc (Nat.le_refl _) (.cells (Bk.none.arr Ky) 82);have HSY:=Zh (HSX.trans (hBT.mono HSX.size));have HT:=Zh hT;have HTB:=Zh HSX.size;refine hK _ _ HSY.out ?_;clear hK K hBT hT HSX;have HSX:=HSY;clear HSY;refine nm ?_;generalize wS.alloc (.cells (Bk.none.arr Ky) 82)=wD at *;generalize wS.heap.size=t at *;refine Zo 1 fun K hK=>?_;go_simp;refine (HRD.out _).mono ?_;rintro e w1 ⟨sv,rfl,hby,hb,hfr⟩;have HSY:=Zh (HSX.trans (hb.mono HSX.size));have HFR:=Zh (show ∀b o n c,sv=.slice (some ⟨b,o,none⟩) n c→b≠t from fun b o n c h=>by have:=hfr b o n c h; have:=HT.lt; omega);have HT':=Zh (HT.below hb HT.lt);clear HT;have HT:=HT';clear HT';have HFRR:=Zh (show Fresh (r+1) sv from fun b o n c h=>by have:=hfr b o n c h; have:=HSX.size; have:=HA2.out.2.1.lt; omega);have HBY:=Zh hby;refine hK _ _ HSY.out ?_;clear hK K hb hby HSX hfr;have HSX:=HSY;clear HSY;refine nm ?_;refine Zo 3 fun K hK=>?_;go_simp;refine (HC4.out _ HSX.out).mono ?_;rintro e w2 ⟨rfl,rfl⟩;refine hK _ _ HSX.out (nm ?_);clear hK K;rw [show num ((s.drop 2).take 4)=Kq s from rfl];refine Zo 5 fun K hK=>?_;refine Kh 82 _ _ rfl t 0 ((readOf s).arr sv) rfl rfl _ HT.out (by rw [(readOf s).arr_size HRW.out]; exact K9) (by rw [(readOf s).arr_size HRW.out]; decide) (Zw _ HBY.out) ?_;rw [JQ _ _ (by rw [(readOf s).arr_size HRW.out]; rfl)];have hT2:=HT.row ((readOf s).arr sv);have hOT:=(Only.refl (fun k=>k=t) w1).setRow (g:=t) (.inl rfl) ((readOf s).arr sv);generalize w1.setRow t ((readOf s).arr sv)=wT at *;have hbf:=hOT.below HSX.size (fun k hk=>by have:=HTB.out; omega);have HSY:=Zh (HSX.trans hbf);have HBZ:=Zh (HBY.only hOT HFR.out);refine hK _ _ HSY.out (nm ?_);clear hK K;refine Jj 6 (some 6) (.int .u32 (Kq s)) rfl rfl (by kernel_rfl) (by kernel_rfl) (by kernel_rfl) (fun _ _ _ h=>h) rfl (fun w hS=>by go_simp) HSY.out ?_;refine nm ?_;refine Zd ?_
    go_wp2_with fail
    go_meet
    refine⟨t,sv,rfl,rfl,⟨HA2.out.1.below HSY.out HA2.out.1.lt,HA2.out.2.1.below HSY.out HA2.out.2.1.lt,hT2,by rw [HGG.out]; exact HA2.out.2.2.1.trans (HSY.mono (by have:=HA2.out.2.2.1.size; have:=HGG.out; omega)),Nat.le_of_eq HGG.out,HA2.out.2.2.2,by have:=HTB.out; have:=HA2.out.2.1.lt; omega⟩,HBZ.out,HFRR.out⟩
 case rest =>
  obtain⟨t,sv,rfl,rfl,H2,HBY,hfr⟩:=hcut;have HFR:=Zh hfr;clear hfr;have HB2:=Zh HBY;have H2:=Zh H2;clear HBY;have HEN:=Zh fun w h=>k9 (readOf s) sv (Kq s) w h HRW.out HSR.out
  repeat (first | (with_reducible refine JL (id:=2) ?_) | go_values | go_skip | go_guarded | go_step | go_upon | go_back)
  refine Stop.mk (wp_region_lit ?_);refine JF (cs:=(readOf s).arr sv) (Blk.all H2.blk rfl) ((readOf s).arr_size HRW.out _) rfl rfl ?_;refine nm ?_;refine tk (.int .u32 (Kq s)) ?_;refine J0 rfl fun K hK=>?_;go_simp;refine (HEN.out _ HB2.out).mono ?_;rintro e w3 ⟨rfl,hb⟩;have H3:=Zh (H2.below hb);have HB3:=Zh (HB2.below hb);refine hK _ _ ?_;clear hK K hb H2 HB2 HEN;refine nm ?_;refine tk (.tuple #[.agg (u8s ((readOf s).sec (Kq s))).toArray,.int .i64 (readOf s).err]) ?_;refine tk (.agg (u8s ((readOf s).sec (Kq s))).toArray) ?_;refine tk (.int .i64 (readOf s).err) ?_;have HSE:=Zh (J0b HRW.out (Kq s));refine J4 Ka rfl ?_;intro wC hC hBC hlC;refine nm ?_;refine J3 (cs:=(u8s ((readOf s).sec (Kq s))).toArray) hC (by rw [J2,HSE.out]; simp [zeros]) (by rw [J2,HSE.out]; exact info36) (Ji _) rfl rfl rfl ?_;intro wD hD hOD hlD;refine nm ?_;have hBD:=hBC.trans (hOD.below hBC.size (fun k hk=>Nat.le_of_eq hk.symm));have H4:=Zh (H3.below hBD);have HB4:=Zh (HB3.below hBD);have HD4:=Zh hD;clear hC hBC hlC hD hOD hlD hBD H3 HB3;generalize w3.heap.size=x at *;clear w3 wC;refine tk (.int .i64 (readOf s).err) ?_;refine Zn ?_
  repeat (first | (with_reducible refine JL (id:=3) ?_) | go_values | go_skip | go_guarded | go_step | go_upon | go_back)
  refine Stop.mk (wp_region_lit ?_);cases hg:(readOf s).good
  · have HSX:Hid ((readOf s).err=11):=Zh (by unfold Bk.err; rw [hg]; rfl);rw [HSX.out];have hnb:JP s=false:=by unfold JP; rw [hg]; rfl
    refine tk (.int .i64 11) ?_;refine tk (.bool true) ?_;refine tk (.bool true) ?_
    iterate 3 refine ps ?_
    refine tk (.bool true) ?_;refine Zn ?_
    repeat (first | (with_reducible refine JL (id:=4) ?_) | go_values | go_skip | go_guarded | go_step | go_upon | go_back)
    refine Stop.mk (wp_region_lit ?_);refine Je (jM _) rfl ?_;refine nm ?_;refine J3 (cs:=Bk.none.arr Ky) H4.res (by rfl) (by exact K9) (KD _ _ _ _) rfl rfl rfl ?_;intro wZ hZ hOZ hlZ;refine nm ?_;refine tk (.int .u32 0) ?_;refine tk (.int .i64 11) ?_;have HF:=Zh (H4.bel.trans (hOZ.below H4.bel.size (fun k hk=>by have:=H4.g0; have:=H4.gr; omega)));go_wp2_with fail
    refine bodyPost_ret (v:=.tuple #[.agg (Bk.none.arr Ky),.int .u32 0,.int .i64 11]) (Qo rfl _ _ r 0 _ _ _ _ rfl rfl rfl Tryz.underlying82 rfl (by exact K9) (Blk.all hZ rfl)) rfl ⟨Ky,by unfold Qc Zu Yc; rw [hnb]; rfl,by unfold Qc; rw [hnb]; exact BytesAt.nil _ _ _,HF.out,Fresh.nil _⟩
  · have HSX:Hid ((readOf s).err=0):=Zh (by unfold Bk.err; rw [hg]; rfl);have HSS:Hid ((readOf s).sec (Kq s)=(readOf s).enc (Kq s)):=Zh (by unfold Bk.sec; rw [hg]; rfl);have HNQ:=Zh fun w=>Je0 w ((readOf s).sec (Kq s)) s HSE.out HS.length;rw [HSX.out];refine tk (.int .i64 0) ?_;refine tk (.bool false) ?_;refine tk (.bool false) ?_;refine Q6 (cs:=(u8s ((readOf s).sec (Kq s))).toArray) (Blk.all HD4.out rfl) (by rw [J2,HSE.out]) rfl rfl ?_;refine nm ?_;refine Q6 (cs:=(u8s s).toArray) (Blk.all H4.sec rfl) HSL.out rfl rfl ?_;refine nm ?_
    by_cases he:(readOf s).sec (Kq s)=s
    · have hnb:JP s=true:=by unfold JP; rw [hg,←HSS.out,he]; simp
      simp only [he,decide_true] at HNQ;refine tk (.bool false) ?_ (hr:=by have hq:=HNQ.out; go_simp);refine tk (.bool false) ?_;refine Zn ?_
      repeat (first | (with_reducible refine JL (id:=5) ?_) | go_values | go_skip | go_guarded | go_step | go_upon | go_back)
      refine Stop.mk (wp_region_lit ?_);refine JF (cs:=(readOf s).arr sv) (Blk.all H4.blk rfl) ((readOf s).arr_size HRW.out _) rfl rfl ?_;refine nm ?_;refine tk (.int .u32 (Kq s)) ?_;refine J3 (cs:=(readOf s).arr sv) H4.res (by rw [(readOf s).arr_size HRW.out]; rfl) (by rw [(readOf s).arr_size HRW.out]; exact K9) (Zw _ HB4.out) rfl rfl rfl ?_;intro wZ hZ hOZ hlZ;refine nm ?_;refine tk (.int .u32 (Kq s)) ?_;refine tk (.int .i64 0) ?_;have HF:=Zh (H4.bel.trans (hOZ.below H4.bel.size (fun k hk=>by have:=H4.g0; have:=H4.gr; omega)));go_wp2_with fail
      refine bodyPost_ret (v:=.tuple #[.agg ((readOf s).arr sv),.int .u32 (Kq s),.int .i64 0]) (Qo rfl _ _ r 0 _ _ _ _ rfl rfl rfl Tryz.underlying82 rfl (by rw [(readOf s).arr_size HRW.out]; exact K9) (Blk.all hZ rfl)) rfl ⟨sv,by unfold Qc Zu Yc; rw [hnb]; rfl,?_,HF.out,fun b o n c h=>by have:=HFR.out b o n c h; have:=H4.gr; have:=HGG.out; omega⟩;unfold Qc;rw [hnb];exact HB4.only hOZ fun b o n c h=>by have:=HFR.out b o n c h; omega
    · have hnb:JP s=false:=by unfold JP; rw [hg,←HSS.out]; simpa using he
      simp only [he,decide_false] at HNQ;refine tk (.bool true) ?_ (hr:=by have hq:=HNQ.out; go_simp);refine tk (.bool true) ?_;refine Zn ?_
      repeat (first | (with_reducible refine JL (id:=4) ?_) | go_values | go_skip | go_guarded | go_step | go_upon | go_back)
      refine Stop.mk (wp_region_lit ?_);refine Je (jM _) rfl ?_;refine nm ?_;refine J3 (cs:=Bk.none.arr Ky) H4.res (by rfl) (by exact K9) (KD _ _ _ _) rfl rfl rfl ?_;intro wZ hZ hOZ hlZ;refine nm ?_;refine tk (.int .u32 0) ?_;refine tk (.int .i64 11) ?_;have HF:=Zh (H4.bel.trans (hOZ.below H4.bel.size (fun k hk=>by have:=H4.g0; have:=H4.gr; omega)));go_wp2_with fail
      refine bodyPost_ret (v:=.tuple #[.agg (Bk.none.arr Ky),.int .u32 0,.int .i64 11]) (Qo rfl _ _ r 0 _ _ _ _ rfl rfl rfl Tryz.underlying82 rfl (by exact K9) (Blk.all hZ rfl)) rfl ⟨Ky,by unfold Qc Zu Yc; rw [hnb]; rfl,by unfold Qc; rw [hnb]; exact BytesAt.nil _ _ _,HF.out,Fresh.nil _⟩
end Go.Proofs.YtdbfmikeaoaebaaGreatDoor
