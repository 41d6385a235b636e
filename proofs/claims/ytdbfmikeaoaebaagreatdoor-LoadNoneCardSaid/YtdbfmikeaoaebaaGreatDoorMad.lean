/- Steps. -/
import Derived.Test.YtdbfmikeaoaebaaGreatDoorMac
import Derived.Maps.AppendAt
import Derived.Great.BuildSlice
import Derived.Great.FillDense
set_option linter.unusedSimpArgs false
set_option linter.unusedVariables false
set_option maxRecDepth 100000
set_option maxHeartbeats 4000000
namespace Go.Proofs.YtdbfmikeaoaebaaGreatDoor
open Go.RowKit
variable {B b c cap g i j n:Nat} {cs:Array Value} {l:List Int} {sv tv:Value} {t:TypeId} {w w':World}
structure It where
 mark:Mk
 blk:Bk
structure It.Wf (x:It):Prop where
 k:Jo x.mark.1
 i:Jo x.mark.2
 b:x.blk.Wf
def It.has(x:It):Bool:=JA x.mark.1
def KC(m:Mk):Int:=if m.1=3 then 64+m.2 else m.2
def Bk.isZ(b:Bk):Bool:=decide (b.kind=0)&&decide (b.id=0)&&decide (b.page=zeros 32)&&decide (b.off=0)&&decide (b.bytes.length=0)&&decide (b.prev=0)&&decide (b.heads=zeros 8)
def It.fits(x:It):Bool:=if x.has then decide (x.blk.kind=x.mark.1)&&decide (x.blk.id=x.mark.2)&&x.blk.good else x.blk.isZ
def It.ok(x:It):Bool:=Kc x.mark&&x.fits
abbrev YU(l:List It):List Int:=l.map fun x=>KC x.mark
def JE(l:List It):Bool:=decide (1≤l.length)&&decide (l.length≤64)&&l.all It.ok&&decide (YU l).Nodup
theorem JN{l:List It}:JE l=true↔1≤l.length∧l.length≤64∧(∀x∈l,x.ok=true)∧(YU l).Nodup:=by
 simp [JE,and_assoc]
theorem J28{x:It}(h:x.ok=true):Kc x.mark=true:=by
 simp only [It.ok,Bool.and_eq_true] at h;exact h.1
theorem zV{m:Mk}(h:Kc m=true):0≤KC m∧KC m<72:=by
 have:=KH.1 h;unfold KC;split <;> omega
def parts(n:Nat):Nat:=(n+23)/24
abbrev marks(l:List It):List Mk:=l.map It.mark
def M32:Int:=4294967296
abbrev Q7(l:List It)(k:Nat):List It:=(l.drop (24*k)).take 24
def JJ(n:Int)(more:Bool)(p:List It):List Int:=Sm.sec ⟨n,more,marks p⟩
abbrev St:=List (List Int)×List Int
def KT(n:Int)(st:St)(x:It):St:=if x.has then (st.1++[x.blk.sec n],st.2++[(st.1.length:Int)]) else (st.1,st.2++[-1])
def X8(n:Int)(more:Bool)(p:List It)(st:St):St:=p.foldl (KT n) (st.1++[JJ n more p],st.2)
def Jt(n:Int)(l:List It):Nat→St
 | 0=>([],[])
 | k+1=>X8 ((n+k)%M32) (decide (24*k+24<l.length)) (Q7 l k) (Jt n l k)
def Jd(n:Int)(l:List It):St:=Jt n l (parts l.length)
def Kk(n:Int)(p:List It):List (List Int):=(p.filter It.has).map fun x=>x.blk.sec n
def XB(n:Int)(more:Bool)(p:List It):List (List Int):=JJ n more p::Kk n p
def XL:Nat→List It→List Int
 | _,[]=>[]
 | c,x::r=>if x.has then (c:Int)::XL (c+1) r else -1::XL c r
theorem X9(n:Int)(p:List It)(st:St):p.foldl (KT n) st=(st.1++Kk n p,st.2++XL st.1.length p):=by
 induction p generalizing st with
 | nil=>simp [Kk,XL]
 | cons x r ih =>
  rw [List.foldl_cons,ih];unfold KT;cases h:x.has
  · simp [Kk,h,XL]
  · simp [Kk,h,XL]
theorem KU(n:Int)(l:List It)(k:Nat):(Jt n l (k+1)).1=(Jt n l k).1++XB ((n+k)%M32) (decide (24*k+24<l.length)) (Q7 l k):=by
 rw [Jt,X8,X9];simp [XB]
theorem YV(n:Int)(p:List It):(Kk n p).length=Jy (marks p):=by
 induction p with
 | nil=>rfl
 | cons x r ih =>
  simp only [Kk,marks,List.map_cons,Jy,List.filter_cons] at ih ⊢;cases h:x.has
  · have:JA x.mark.1=false:=h;simp [this,ih]
  · have:JA x.mark.1=true:=h;simp [this,ih];omega
theorem XC(n:Int)(m:Bool)(p:List It):(XB n m p).length=1+Jy (marks p):=by
 simp only [XB,List.length_cons,YV];omega
theorem Yk(c:Nat)(p:List It):(XL c p).length=p.length:=by
 induction p generalizing c with
 | nil=>rfl
 | cons x r ih=>simp only [XL]; split <;> simp [ih]
theorem Xa(l:List It)(k:Nat):l.take (24*(k+1))=l.take (24*k)++Q7 l k:=by
 rw [Nat.mul_add,Nat.mul_one,List.take_add]
theorem Zp(n:Int)(l:List It)(k:Nat):(Jt n l k).1.length=k+Jy (marks (l.take (24*k))):=by
 induction k with
 | zero=>simp [Jt,Jy]
 | succ k ih =>
  rw [KU,List.length_append,ih,XC,Xa];simp only [marks,List.map_append,YT];omega
theorem ke(n:Int)(l:List It)(k:Nat):(Jt n l k).2.length=(l.take (24*k)).length:=by
 induction k with
 | zero=>simp [Jt]
 | succ k ih =>
  rw [Jt,X8,X9,List.length_append,Yk,ih,Xa,List.length_append]
theorem x8{b:Bk}(w:b.Wf)(n:Int):Sc (b.sec n):=by
 unfold Bk.sec;split
 · rename_i h
   exact Jee h w n
 · exact⟨J1 64,Kv 64⟩
def Kj(n:Int):Prop:=0≤n∧n<M32
theorem YG(n:Int):Kj (n%M32):=⟨Int.emod_nonneg _ (by decide),Int.emod_lt_of_pos _ (by decide)⟩
theorem Qf{l:List It}(h:JE l=true):1≤parts l.length∧parts l.length≤3:=by
 obtain⟨h1,h2,-⟩:=JN.1 h;unfold parts;omega
def It.cells(x:It)(sv:Value):List Value:=.int .i64 x.mark.1::.int .i64 x.mark.2::x.blk.cells sv
def It.arr(x:It)(sv:Value):Array Value:=(x.cells sv).toArray
theorem It.cells_length{x:It}(h:x.Wf)(sv:Value):(x.cells sv).length=47:=by simp [It.cells,Bk.cells_length h.b]
theorem It.arr_size{x:It}(h:x.Wf)(sv:Value):(x.arr sv).size=47:=by simpa [It.arr] using x.cells_length h sv
def It.none:It:=⟨(0,0),Bk.none⟩
theorem It.none_wf:It.none.Wf:=⟨Kb,Kb,Go.Proofs.YtdbfmikeaoaebaaGreatDoor.none_wf⟩
theorem Qg(h:Len sv n):sv.oneCell'=true:=by
 obtain⟨a,c,rfl⟩:=h;rfl
theorem Bk.arr_one{b:Bk}(h:sv.oneCell'=true):∀v∈b.arr sv,v.oneCell'=true:=fun v hv=>by
 simp only [Bk.arr,Bk.cells,List.mem_toArray,List.mem_cons,List.mem_append,List.mem_map] at hv;rcases hv with rfl | rfl | ⟨z,_,rfl⟩ | rfl | rfl | rfl | ⟨z,_,rfl⟩ <;> first | rfl | exact h
theorem It.arr_one{x:It}(h:sv.oneCell'=true):∀v∈x.arr sv,v.oneCell'=true:=fun v hv=>by
 simp only [It.arr,It.cells,List.mem_toArray,List.mem_cons] at hv;rcases hv with rfl | rfl | hv
 · rfl
 · rfl
 · exact Bk.arr_one (b:=x.blk) h v (by simpa [Bk.arr] using hv)
theorem At.below{off:Nat}(h:At w g off cs)(hb:Below B w w')(hg:g<B):At w' g off cs:=fun j hj=>(hb.cell (p:=⟨g,off+j,Option.none⟩) hg).trans (h j hj)
theorem At.lt{off:Nat}(h:At w g off cs)(hc:0<cs.size):g<w.heap.size:=by
 have:=h 0 hc;exact block_lt_of_cell this
structure ItAt (w:World) (g off:Nat) (x:It) (sv:Value):Prop where
 all:At w g off (x.arr sv)
 c0:w.cell? ⟨g,off,Option.none⟩=some (.int .i64 x.mark.1)
 c1:w.cell? ⟨g,off+1,Option.none⟩=some (.int .i64 x.mark.2)
 blk:At w g (off+2) (x.blk.arr sv)
theorem ItAt.of{off:Nat}{x:It}(h:At w g off (x.arr sv)):ItAt w g off x sv:=by
 refine⟨h,?_,?_,fun j hj=>?_⟩
 · have:=h 0 (by simp [It.arr,It.cells]);simpa [It.arr,It.cells] using this
 · have:=h 1 (by simp [It.arr,It.cells]);simpa [It.arr,It.cells] using this
 · have h2:j<(x.blk.cells sv).length:=by simpa [Bk.arr] using hj
   have:=h (j+2) (by simp [It.arr,It.cells]; omega);rw [show off+(j+2)=off+2+j by omega] at this;rw [this];simp [It.arr,It.cells,Bk.arr]
theorem ItAt.below{off:Nat}{x:It}(h:ItAt w g off x sv)(hb:Below B w w')(hg:g<B):ItAt w' g off x sv:=ItAt.of (h.all.below hb hg)
def ItemsAt(w:World)(sv:Value)(l:List (It×Value)):Prop:=∃a cap,sv=.slice a l.length cap∧l.length≤cap∧∀i x,l[i]? = some x→x.1.Wf∧BytesAt w x.2 x.1.blk.bytes∧∃g o,a=some ⟨g,o,Option.none⟩∧At w g (o+i*47) (x.1.arr x.2)
theorem ItemsAt.below{l:List (It×Value)}(h:ItemsAt w sv l)(hb:Below w.heap.size w w'):ItemsAt w' sv l:=by
 obtain⟨a,cap,e,hcap,hc⟩:=h;refine⟨a,cap,e,hcap,fun i x hx=>?_⟩;obtain⟨h1,h2,g,o,h3,h4⟩:=hc i x hx;exact⟨h1,h2.below hb,g,o,h3,h4.below hb (h4.lt (by rw [It.arr_size h1]; decide))⟩
theorem ItemsAt.nil(w:World)(a:Option Addr)(cap:Nat):ItemsAt w (.slice a 0 cap) []:=⟨a,cap,rfl,Nat.zero_le _,fun i x h=>by simp at h⟩
theorem ItemsAt.wf{l:List (It×Value)}(h:ItemsAt w sv l):∀b∈l.map (·.1),b.Wf:=fun b hb=>by
 obtain⟨a,cap,e,-,hc⟩:=h;obtain⟨x,hx,rfl⟩:=List.mem_map.1 hb;obtain⟨i,hi⟩:=List.getElem?_of_mem hx;exact (hc i x hi).1
theorem ItemsAt.bytes{l:List (It×Value)}(h:ItemsAt w sv l):∀x∈l,x.1.Wf∧BytesAt w x.2 x.1.blk.bytes:=fun x hx=>by
 obtain⟨a,cap,e,-,hc⟩:=h;obtain⟨i,hi⟩:=List.getElem?_of_mem hx;exact⟨(hc i x hi).1,(hc i x hi).2.1⟩
theorem ItemsAt.has{l:List (It×Value)}(h:ItemsAt w sv l)(hl:0<l.length):∃g o cap,sv=.slice (some ⟨g,o,Option.none⟩) l.length cap∧l.length≤cap∧g<w.heap.size∧∀i x,l[i]? = some x→x.1.Wf∧BytesAt w x.2 x.1.blk.bytes∧At w g (o+i*47) (x.1.arr x.2):=by
 obtain⟨a,cap,e,hcap,hc⟩:=h;obtain⟨h1,-,g,o,h3,h4⟩:=hc 0 l[0] (by simp [hl]);refine⟨g,o,cap,by rw [e,h3],hcap,h4.lt (by rw [It.arr_size h1]; decide),fun i x hx=>?_⟩;obtain⟨k1,k2,g',o',k3,k4⟩:=hc i x hx;rw [h3] at k3;cases k3;exact⟨k1,k2,k4⟩
def Jf(l:List (It×Value)):List Value:=l.flatMap fun x=>x.1.cells x.2
theorem Qn{l:List (It×Value)}(h:∀x∈l,x.1.Wf):(Jf l).length=l.length*47:=by
 induction l with
 | nil=>rfl
 | cons x r ih =>
  have h1:=ih fun y hy=>h y (List.mem_cons_of_mem _ hy);have h2:=x.1.cells_length (h x (by simp)) x.2;simp only [Jf,List.flatMap_cons,List.length_append,List.length_cons] at h1 h2 ⊢;omega
theorem Xb{l:List (It×Value)}(h:∀x∈l,x.1.Wf)(hj:j<47):(Jf l)[i*47+j]? = (l[i]?).bind fun x=>(x.1.cells x.2)[j]? := by
 induction l generalizing i with
 | nil=>simp [Jf]
 | cons x r ih =>
  have hl:=x.1.cells_length (h x (by simp)) x.2;have ih:=fun {i}=>ih (i:=i) fun y hy=>h y (List.mem_cons_of_mem _ hy);simp only [Jf,List.flatMap_cons] at ih ⊢;cases i with
  | zero =>
   rw [Nat.zero_mul,Nat.zero_add,List.getElem?_append_left (by omega)];rfl
  | succ i =>
   rw [List.getElem?_append_right (by omega),hl,show (i+1)*47+j-47=i*47+j by omega,ih];rfl
theorem yc{l:List (It×Value)}(h:∀x∈l,x.2.oneCell'=true):∀v∈Jf l,v.oneCell'=true:=fun v hv=>by
 obtain⟨x,hx,hv⟩:=List.mem_flatMap.1 hv;exact It.arr_one (h x hx) v (by simpa [It.arr] using hv)
def Off(g:Option Nat)(sv:Value)(l:List Int):Prop:=0<l.length→∀b o n c,sv=.slice (some ⟨b,o,Option.none⟩) n c→some b≠g
theorem Off.fresh{g:Option Nat}(h:Fresh B sv)(hg:∀k,g=some k→k<B):Off g sv l:=fun _ b o n c e hn=>by
 have h1:=h b o n c e;have h2:=hg b hn.symm;omega
theorem zW{row:Option Nat}(h:BytesAt w sv l)(k:Off row sv l)(hb:∀b,b<w.heap.size→some b≠row→w'.heap[b]? = w.heap[b]?):BytesAt w' sv l:=by
 obtain⟨a,cap,e,hc⟩:=h;refine⟨a,cap,e,fun i x hx=>?_⟩;obtain⟨b,o,e2,hx2⟩:=hc i x hx;have hne:some b≠row:=k (by have:=(List.getElem?_eq_some_iff.1 hx).1; omega) b o _ _ (by rw [e,e2]);refine⟨b,o,e2,?_⟩;rw [←hx2];simp only [World.cell?,hb b (block_lt_of_cell hx2) hne]
theorem Off.moved{row row':Option Nat}(h:BytesAt w sv l)(k:Off row sv l)(hr:row'=row∨row'=some w.heap.size):Off row' sv l:=fun hp b o n c e=>by
 rcases hr with rfl | rfl
 · exact k hp b o n c e
 · have:=h.lt hp e;intro h2;have:=Option.some.inj h2;omega
structure OwnI (w:World) (B:Nat) (sv:Value) (l:List (It×Value)):Prop where
 row:w.ownsRow B 84 47 sv l.length (Jf l)
 all:∀x∈l,x.1.Wf∧BytesAt w x.2 x.1.blk.bytes∧Off sv.ownBlock x.2 x.1.blk.bytes
theorem OwnI.nil(w:World)(B:Nat):OwnI w B (.slice Option.none 0 0) []:=⟨World.ownsRow_nil w B 84 47,fun x hx=>by cases hx⟩
theorem OwnI.items{l:List (It×Value)}(h:OwnI w B sv l):ItemsAt w sv l:=by
 have hr:=h.row;rcases hr.2 with ⟨rfl,h0⟩ | ⟨g,cap,cur,rfl,hb,hg,hn,hm,hs,ht⟩
 · have:l=[]:=List.eq_nil_of_length_eq_zero h0;subst this;exact ItemsAt.nil _ _ _
 · refine⟨_,cap,rfl,hn,fun i x hx=>?_⟩;obtain⟨h1,h2,-⟩:=h.all x (List.mem_of_getElem? hx);refine⟨h1,h2,g,0,rfl,fun j hj=>?_⟩;have hi:=(List.getElem?_eq_some_iff.1 hx).1;rw [It.arr_size h1] at hj;rw [Nat.zero_add,World.ownsRow.cellAt hr (i*47+j) (by omega),Xb (fun y hy=>(h.all y hy).1) hj,hx];show (x.1.cells x.2)[j]? = _;rw [List.getElem?_eq_getElem (by rw [It.cells_length h1]; exact hj)];rfl
theorem OwnI.lt{l:List (It×Value)}(h:OwnI w B sv l):∀k,sv.ownBlock=some k→B≤k∧k<w.heap.size:=World.ownsRow.lt h.row
theorem OwnI.len{l:List (It×Value)}(h:OwnI w B sv l):∃a c,sv=.slice a l.length c∧l.length≤c:=by
 rcases h.row.2 with ⟨e,h0⟩ | ⟨g,cap,cur,e,_,_,hn,_⟩
 · exact⟨Option.none,0,by rw [e,h0],by omega⟩
 · exact⟨_,cap,e,hn⟩
theorem OwnI.below{l:List (It×Value)}(h:OwnI w B sv l)(hb:Below w.heap.size w w'):OwnI w' B sv l:=by
 refine⟨⟨h.row.1,?_⟩,fun x hx=>?_⟩
 · rcases h.row.2 with hn | ⟨g,cap,cur,e,hB,hg,r⟩
   · exact .inl hn
   · exact .inr ⟨g,cap,cur,e,hB,(hb.block g (Array.getElem?_eq_some_iff.1 hg).1).trans hg,r⟩
 · obtain⟨h1,h2,h3⟩:=h.all x hx;exact⟨h1,h2.below hb,h3⟩
theorem Jav:(Tryz.prog.info? 84).map (fun i=>(i.size,i.bytes))=some (47,168):=by kernel_rfl
theorem Zq:(Tryz.prog.info? 84).bind (·.zero)=some (.agg (It.none.arr (.slice Option.none 0 0))):=by kernel_rfl
theorem zX:(Tryz.prog.info? 84).map (·.size)=some 47:=by kernel_rfl
theorem J6k:∃i,Tryz.prog.info? 84=some i∧i.zero=some (.agg (It.none.arr (.slice Option.none 0 0)))∧i.size=47∧i.bytes=168:=by
 have h1:=Jav;have h2:=Zq;cases hq:Tryz.prog.info? 84 with
 | none=>simp [hq] at h1
 | some i=>simp [hq] at h1 h2; exact⟨i,rfl,h2,h1⟩
theorem J6l{o:Nat}{m:List (It×Value)}(hw:∀x∈m,x.1.Wf)(hc:∀i x,m[i]? = some x→At w b (o+i*47) (x.1.arr x.2))(j:Nat)(u:Value)(hu:(Jf m)[j]? = some u):w.cell? ((⟨b,o,Option.none⟩:Addr).add j)=some u:=by
 rw [show (⟨b,o,Option.none⟩:Addr).add j=⟨b,o+j,Option.none⟩ by unfold Addr.add; split <;> simp_all];have e:j=j/47*47+j%47:=by omega
 have hj:j%47<47:=Nat.mod_lt _ (by decide);rw [e,Xb hw hj] at hu;obtain⟨x,hx,hu⟩:=Option.bind_eq_some_iff.1 hu;have h1:=hc _ x hx (j%47) (by rw [It.arr_size (hw x (List.mem_of_getElem? hx))]; exact hj);rw [show o+j/47*47+j%47=o+j by omega] at h1;rw [h1,←hu];rw [List.getElem?_eq_getElem (by rw [It.cells_length (hw x (List.mem_of_getElem? hx))]; exact hj)];rfl
theorem J6m{l m:List (It×Value)}(h:OwnI w B sv l)(hB:B≤w.heap.size)(k:ItemsAt w tv m)(hk:∀x∈m,Off sv.ownBlock x.2 x.1.blk.bytes)(hlen:l.length+m.length≤1000)(ty:TypeId) :
 ∃sv' w',(Builtin.append_ #[74,74] ty #[sv,tv]).run Tryz.prog w=.ok sv' w'∧OwnI w' B sv' (l++m)∧w.grownBy w' sv.ownBlock∧(sv'.ownBlock=sv.ownBlock∨sv'.ownBlock=some w.heap.size):=by
 obtain⟨i,hi,hz,hs,hby⟩:=J6k;cases m with
 | nil =>
  obtain⟨a,c,rfl,hle⟩:=h.len;obtain⟨ta,tc,rfl,_⟩:=k;refine⟨_,w,run_append_nothing w 74 74 ty 84 i Tryz.underlying74 hi a l.length c hle _ ⟨.inl ⟨84,Tryz.underlying74⟩,fun _=>by rfl,?_,?_,by simp,fun u hu=>by cases hu⟩,by rw [List.append_nil]; exact h,⟨rfl,rfl,rfl,Nat.le_refl _,fun _ _ _=>rfl⟩,.inl rfl⟩
  · cases ta <;> simp [Builtin.firstCells,hs,loadCells,loadCellsFrom]
  · cases ta <;> simp [Builtin.firstCells,hs,loadCells,loadCellsFrom]
 | cons x m =>
  obtain⟨b,o,c,rfl,hcap,hbl,hc⟩:=k.has (by simp);have hw:∀y∈x::m,y.1.Wf:=fun y hy=>by
   obtain⟨j,hj⟩:=List.getElem?_of_mem hy;exact (hc j y hj).1
  have hby2:∀y∈x::m,BytesAt w y.2 y.1.blk.bytes:=fun y hy=>by
   obtain⟨j,hj⟩:=List.getElem?_of_mem hy;exact (hc j y hj).2.1
  obtain⟨v',w',hr,h2,h3,_,h5⟩:=run_append_own_at (P:=Tryz.prog) w B 74 ty 84 i (.agg (It.none.arr (.slice Option.none 0 0))) 47 168 Tryz.underlying74 hi hz hs hby (It.arr_size It.none_wf _) (by decide) sv l.length (Jf l) h.row ⟨b,o,Option.none⟩ (x::m).length c (Jf (x::m)) (Qn hw) (J6l hw fun j y hj=>(hc j y hj).2.2) (yc fun y hy=>Qg (hby2 y hy).len) (by simp only [maxLen]; omega) (by omega) hB;have hkept:∀y:It×Value,BytesAt w y.2 y.1.blk.bytes→Off sv.ownBlock y.2 y.1.blk.bytes→BytesAt w' y.2 y.1.blk.bytes∧Off v'.ownBlock y.2 y.1.blk.bytes:=fun y hy hap =>
   ⟨zW hy hap h3.block,hap.moved hy h5⟩
  refine⟨v',w',hr,⟨?_,fun y hy=>?_⟩,h3,h5⟩
  · rw [List.length_append,show Jf (l++x::m)=Jf l++Jf (x::m) from List.flatMap_append];exact h2
  · rcases List.mem_append.1 hy with hy | hy
    · obtain⟨q1,q2,q3⟩:=h.all y hy;obtain⟨q4,q5⟩:=hkept y q2 q3;exact⟨q1,q4,q5⟩
    · obtain⟨q4,q5⟩:=hkept y (hby2 y hy) (hk y hy);exact⟨hw y hy,q4,q5⟩
theorem J6n(w:World)(l:List (It×Value))(hw:∀x∈l,x.1.Wf)(hpos:0<l.length)(hl:l.length≤1000):(Instr.buildSlice 74 l.length ((l.map fun x=>Value.agg (x.1.arr x.2)).zipIdx.map fun x=>(x.2,x.1)).toArray).run Tryz.prog w=.ok (.slice (some ⟨w.heap.size,0,Option.none⟩) l.length l.length) (w.alloc (.cells (Jf l).toArray 84)):=by
 obtain⟨i,hi,hz,hs,-⟩:=J6k;have hv:∀v∈l.map (fun x=>Value.agg (x.1.arr x.2)),v.cells.size=47:=fun v hv=>by
  obtain⟨x,hx,rfl⟩:=List.mem_map.1 hv;exact It.arr_size (hw x hx) _
 obtain⟨r,hr,hrs,hk⟩:=Go.Great.fill_dense (s:=47) (by decide) (l.map fun x=>Value.agg (x.1.arr x.2)) 0 ((Array.range (l.length*47)).map fun k=>(Value.agg (It.none.arr (.slice Option.none 0 0))).cells[k%(Value.agg (It.none.arr (.slice Option.none 0 0))).cells.size]!) hv (by simp);have hcells:r=(Jf l).toArray:=by
  apply Array.ext_getElem?;intro k;rw [hk k];simp only [List.length_map,Nat.zero_add,Nat.zero_mul,Nat.zero_le,true_and,Nat.sub_zero,List.getElem?_toArray]
  by_cases h:k<l.length*47
  · rw [if_pos h];have e:=Xb hw (i:=k/47) (j:=k%47) (Nat.mod_lt _ (by decide));rw [show k/47*47+k%47=k by omega] at e;rw [e,List.getElem?_map];cases l[k/47]? with
    | none=>rfl
    | some x=>simp [It.arr,Value.cells]
  · rw [if_neg h,List.getElem?_eq_none (by rw [Qn hw]; omega)];simp;omega
 rw [←hcells];refine Go.run_buildSlice (P:=Tryz.prog) w 74 84 l.length _ r i _ Tryz.underlying74 hi hz (by rw [hs]; omega) (by rw [hs]; omega) ?_;rw [hs];simpa using hr
theorem OwnI.lit{l:List (It×Value)}(hw:∀x∈l,x.1.Wf)(hb:∀x∈l,BytesAt w x.2 x.1.blk.bytes)(hl:l.length≤1000):OwnI (w.alloc (.cells (Jf l).toArray 84)) w.heap.size (.slice (some ⟨w.heap.size,0,Option.none⟩) l.length l.length) l:=by
 have hlen:=Qn hw;have hbl:Below w.heap.size w (w.alloc (.cells (Jf l).toArray 84)):=(Below.refl _ _).alloc (Nat.le_refl _) _;refine⟨⟨hlen,.inr ⟨w.heap.size,l.length,_,rfl,Nat.le_refl _,heap_alloc_new w _,Nat.le_refl _,by simp only [maxLen]; omega,by simpa using hlen,List.take_of_length_le (by simp; omega)⟩⟩,fun x hx=>⟨hw x hx,(hb x hx).below hbl,fun hpos b o n c e=>?_⟩⟩;have:=(hb x hx).lt hpos e;intro h2;have:=Option.some.inj h2;simp only at this;omega
section
variable {ops:Array Oper} {rest:List Oper} {dst:Option Tmp} {x y:Operand} {t2:TypeId} {pos:String} {after:Array Edge} {guard:Option (Nat×Bool)} {a:Act} {w:World} {Q:Exit→Act→World→Prop}
theorem kf{off:Nat}(hA:At w g off cs)(hs:cs.size=47)(hx:a.eval x=.pointer (some ⟨g,off,Option.none⟩))(hw:Region.wanted ⟨dst,.load 84 x,t2,pos,after,guard⟩ (yielded ops a.tmps)=true)(h:wpList Tryz.prog ops Q rest (a.put dst (.agg cs)) w):wpList Tryz.prog ops Q (⟨dst,.load 84 x,t2,pos,after,guard⟩::rest) a w :=
 Jb hw 84 x rfl g off hx cs _ Tryz.underlying84 rfl (by rw [hs]; exact zX) hA h
theorem Jeh{l m:List (It×Value)}(h:OwnI w B sv l)(hB:B≤w.heap.size)(k:ItemsAt w tv m)(hk:∀x∈m,Off sv.ownBlock x.2 x.1.blk.bytes)(hlen:l.length+m.length≤1000)(hx:a.eval x=sv)(hy:a.eval y=tv)(hw:Region.wanted ⟨dst,.call { callee:=.builtin .append,args:=#[x,y],argTypes:=#[74,74] },t2,pos,after,guard⟩ (yielded ops a.tmps)=true)(hh:∀sv' w',OwnI w' B sv' (l++m)→w.grownBy w' sv.ownBlock→(sv'.ownBlock=sv.ownBlock∨sv'.ownBlock=some w.heap.size)→wpList Tryz.prog ops Q rest (a.put dst sv') w'):wpList Tryz.prog ops Q (⟨dst,.call { callee:=.builtin .append,args:=#[x,y],argTypes:=#[74,74] },t2,pos,after,guard⟩::rest) a w:=by
 obtain⟨sv',w',hr,ho,hg,h5⟩:=J6m h hB k hk hlen t2;exact Jp sv' w' hw (Ql a.eval _ x y 74 74 rfl sv tv sv' hx hy hr) (hh sv' w' ho hg h5)
end
theorem Zs{x:It}(h:x.Wf)(sv:Value):(Tryz.prog.info? 84).map (·.size)=some (x.arr sv).size:=by rw [x.arr_size h]; exact zX
theorem info82s{b:Bk}(h:b.Wf)(sv:Value):(Tryz.prog.info? 82).map (·.size)=some (b.arr sv).size:=by rw [b.arr_size h]; exact K9
theorem x9{b c:It}(h:b.Wf)(k:c.Wf)(sv cv:Value):(b.cells sv).length=(c.arr cv).size:=by rw [b.cells_length h,c.arr_size k]
theorem info3z:(Tryz.prog.info? 3).map (fun i=>(i.zero,i.size,i.bytes))=some (some (.int .i64 0),1,8):=by kernel_rfl
def IntsAt(w:World)(sv:Value)(l:List Int):Prop:=∃a cap,sv=.slice a l.length cap∧∀i x,l[i]? = some x→∃b o,a=some ⟨b,o,none⟩∧w.cell? ⟨b,o+i,none⟩=some (.int .i64 x)
theorem IntsAt.len(h:IntsAt w sv l):Len sv l.length:=let ⟨a,cap,h,_⟩:=h; ⟨a,cap,h⟩
theorem IntsAt.below(h:IntsAt w sv l)(hb:Below w.heap.size w w'):IntsAt w' sv l:=by
 obtain⟨a,cap,e,hc⟩:=h;refine⟨a,cap,e,fun i x hx=>?_⟩;obtain⟨b,o,e2,hx2⟩:=hc i x hx;exact⟨b,o,e2,(hb.cell (block_lt_of_cell hx2)).trans hx2⟩
theorem IntsAt.nil(w:World)(cap:Nat)(a:Option Addr):IntsAt w (.slice a 0 cap) []:=⟨a,cap,rfl,fun i x h=>by simp at h⟩
theorem IntsAt.has(h:IntsAt w sv l)(hl:0<l.length):∃b o cap,sv=.slice (some ⟨b,o,none⟩) l.length cap∧∀i x,l[i]? = some x→w.cell? ⟨b,o+i,none⟩=some (.int .i64 x):=by
 obtain⟨a,cap,e,hc⟩:=h;obtain⟨b,o,e2,_⟩:=hc 0 l[0] (by simp [hl]);subst e2;refine⟨b,o,cap,e,fun i x hx=>?_⟩;obtain⟨b',o',e3,hx2⟩:=hc i x hx;cases e3;exact hx2
theorem IntsAt.only{t:Nat}(h:IntsAt w sv l)(ho:Only (fun k=>k=t) w w')(ht:∀b o n c,sv=.slice (some ⟨b,o,none⟩) n c→b≠t):IntsAt w' sv l:=by
 obtain⟨a,cap,e,hc⟩:=h;refine⟨a,cap,e,fun i x hx=>?_⟩;obtain⟨b,o,e2,hx2⟩:=hc i x hx;refine⟨b,o,e2,?_⟩;have hne:b≠t:=ht b o _ _ (by rw [e,e2]);have hb:=ho.block b (block_lt_of_cell hx2) hne;rw [←hx2];simp only [World.cell?,hb]
theorem IntsAt.lt(h:IntsAt w sv l)(hl:0<l.length){o:Nat}(e:sv=.slice (some ⟨b,o,none⟩) n c):b<w.heap.size:=by
 obtain⟨b',o',c',e',hc⟩:=h.has hl;rw [e] at e';cases e';exact block_lt_of_cell (hc 0 l[0] (by simp [hl]))
def OwnN(w:World)(B:Nat)(sv:Value)(l:List Int):Prop:=w.ownsRow B 3 1 sv l.length (Jq l)
theorem OwnN.nil(w:World)(B:Nat):OwnN w B (.slice none 0 0) []:=World.ownsRow_nil w B 3 1
theorem OwnN.ints(h:OwnN w B sv l):IntsAt w sv l:=by
 rcases h.2 with ⟨rfl,h0⟩ | ⟨g,cap,cur,rfl,hb,hg,hn,hm,hs,ht⟩
 · have:l=[]:=List.eq_nil_of_length_eq_zero h0;subst this;exact IntsAt.nil _ _ _
 · refine⟨_,cap,rfl,fun i x hx=>⟨g,0,rfl,?_⟩⟩;rw [Nat.zero_add,World.ownsRow.cellAt h i (by have:=(List.getElem?_eq_some_iff.1 hx).1; omega),List.getElem?_map,hx];rfl
theorem OwnN.lt(h:OwnN w B sv l):∀k,sv.ownBlock=some k→B≤k∧k<w.heap.size:=World.ownsRow.lt h
theorem OwnN.below(h:OwnN w B sv l)(hb:Below w.heap.size w w'):OwnN w' B sv l:=by
 refine⟨h.1,?_⟩;rcases h.2 with hn | ⟨g,cap,cur,e,hB,hg,r⟩
 · exact .inl hn
 · exact .inr ⟨g,cap,cur,e,hB,(hb.block g (Array.getElem?_eq_some_iff.1 hg).1).trans hg,r⟩
theorem OwnN.mono{C:Nat}(h:OwnN w B sv l)(hc:C≤B):OwnN w C sv l:=World.ownsRow.mono h hc
theorem J3j:∃i,Tryz.prog.info? 3=some i∧i.zero=some (.int .i64 0)∧i.size=1∧i.bytes=8:=by
 have:=info3z;cases hq:Tryz.prog.info? 3 with
 | none=>simp [hq] at this
 | some i=>simp [hq] at this; exact⟨i,rfl,this⟩
theorem J6o{m:List Int}(h:OwnN w B sv l)(hB:B≤w.heap.size)(k:IntsAt w tv m)(hlen:l.length+m.length≤1000000)(ty:TypeId) :
 ∃sv' w',(Builtin.append_ #[41,41] ty #[sv,tv]).run Tryz.prog w=.ok sv' w'∧OwnN w' B sv' (l++m)∧w.grownBy w' sv.ownBlock:=by
 obtain⟨i,hi,hz,hs,hby⟩:=J3j;cases m with
 | nil =>
  have hsl:∃a c,sv=.slice a l.length c∧l.length≤c:=by
   rcases h.2 with ⟨e,h0⟩ | ⟨g,cap,cur,e,_,_,hn,_⟩
   · exact⟨none,0,by rw [e,h0],by omega⟩
   · exact⟨_,cap,e,hn⟩
  obtain⟨a,c,rfl,hle⟩:=hsl;obtain⟨ta,tc,rfl,_⟩:=k;refine⟨_,w,run_append_nothing w 41 41 ty 3 i Tryz.underlying41 hi a l.length c hle _ ⟨.inl ⟨3,Tryz.underlying41⟩,fun _=>by rfl,?_,?_,by simp,fun u hu=>by cases hu⟩,by rw [List.append_nil]; exact h,⟨rfl,rfl,rfl,Nat.le_refl _,fun _ _ _=>rfl⟩⟩
  · cases ta <;> simp [Builtin.firstCells,hs,loadCells,loadCellsFrom]
  · cases ta <;> simp [Builtin.firstCells,hs,loadCells,loadCellsFrom]
 | cons x m =>
  obtain⟨b,o,c,rfl,hc⟩:=k.has (by simp);obtain⟨v',w',hr,h2,h3,_⟩:=run_append_own (P:=Tryz.prog) w B 41 ty 3 i (.int .i64 0) 1 8 Tryz.underlying41 hi hz hs hby rfl (by decide) sv l.length (Jq l) h ⟨b,o,none⟩ (x::m).length c (Jq (x::m)) (by simp) (fun j u hu=>by
   rw [List.getElem?_map] at hu
   cases hz:(x::m)[j]? with
   | none=>simp [hz] at hu
   | some z =>
    simp [hz] at hu
    subst hu
    rw [show (⟨b,o,none⟩:Addr).add j=⟨b,o+j,none⟩ by unfold Addr.add; split <;> simp_all]
    exact hc j z hz) (fun u hu=>by obtain⟨z,_,rfl⟩:=List.mem_map.1 hu; rfl) (by simp only [maxLen]; omega) (by omega) hB
  refine⟨v',w',hr,?_,h3⟩;unfold OwnN;rw [List.length_append,show Jq (l++x::m)=Jq l++Jq (x::m) by simp];exact h2
theorem OwnN.lit(w:World)(B:Nat)(hB:B≤w.heap.size)(l:List Int)(hl:l.length≤1000000)(cs:Array Value)(hc:cs=(Jq l).toArray):OwnN (w.alloc (.cells cs 3)) B (.slice (some ⟨w.heap.size,0,none⟩) l.length l.length) l:=by
 subst hc;exact⟨by simp,.inr ⟨w.heap.size,l.length,_,rfl,hB,heap_alloc_new w _,Nat.le_refl _,by simp only [maxLen]; omega,by simp,List.take_of_length_le (by simp)⟩⟩
theorem OwnN.set(h:OwnN w B (.slice (some ⟨g,0,none⟩) n cap) l)(i:Nat)(v:Int)(hi:i<l.length):OwnN (w.setCell ⟨g,i,none⟩ (.int .i64 v)) B (.slice (some ⟨g,0,none⟩) n cap) (l.set i v):=by
 rcases h.2 with ⟨e,_⟩ | ⟨g',cap',cur,e,hb,hg,hn,hm,hs,ht⟩
 · cases e
 · cases e;refine⟨by simp,.inr ⟨g,cap,cur.setIfInBounds i (.int .i64 v),by rw [List.length_set],hb,?_,by rw [List.length_set]; exact hn,hm,by simpa using hs,?_⟩⟩
   · rw [heap_setCell_same w g i cur 3 (.int .i64 v) hg]
   · have e2:(cur.setIfInBounds i (.int .i64 v)).toList=cur.toList.set i (.int .i64 v):=by simp
     rw [e2,List.length_set,List.take_set,ht];simp
def SecsAt(w:World)(sv:Value)(l:List (List Int)):Prop:=∃a cap,sv=.slice a l.length cap∧l.length≤cap∧∀i y,l[i]? = some y→Sc y∧∃g o,a=some ⟨g,o,none⟩∧At w g (o+i*64) (u8s y).toArray
theorem Sc.size{y:List Int}(h:Sc y):(u8s y).toArray.size=64:=by rw [J2,h.length]
theorem SecsAt.below{l:List (List Int)}(h:SecsAt w sv l)(hb:Below w.heap.size w w'):SecsAt w' sv l:=by
 obtain⟨a,cap,e,hcap,hc⟩:=h;refine⟨a,cap,e,hcap,fun i x hx=>?_⟩;obtain⟨h1,g,o,h3,h4⟩:=hc i x hx;exact⟨h1,g,o,h3,h4.below hb (h4.lt (by rw [h1.size]; decide))⟩
theorem SecsAt.nil(w:World)(a:Option Addr)(cap:Nat):SecsAt w (.slice a 0 cap) []:=⟨a,cap,rfl,Nat.zero_le _,fun i x h=>by simp at h⟩
theorem SecsAt.sc{l:List (List Int)}(h:SecsAt w sv l):∀y∈l,Sc y:=fun y hy=>by
 obtain⟨a,cap,e,-,hc⟩:=h;obtain⟨i,hi⟩:=List.getElem?_of_mem hy;exact (hc i y hi).1
theorem SecsAt.has{l:List (List Int)}(h:SecsAt w sv l)(hl:0<l.length):∃g o cap,sv=.slice (some ⟨g,o,none⟩) l.length cap∧l.length≤cap∧g<w.heap.size∧∀i y,l[i]? = some y→Sc y∧At w g (o+i*64) (u8s y).toArray:=by
 obtain⟨a,cap,e,hcap,hc⟩:=h;obtain⟨h1,g,o,h3,h4⟩:=hc 0 l[0] (by simp [hl]);refine⟨g,o,cap,by rw [e,h3],hcap,h4.lt (by rw [h1.size]; decide),fun i x hx=>?_⟩;obtain⟨k1,g',o',k3,k4⟩:=hc i x hx;rw [h3] at k3;cases k3;exact⟨k1,k4⟩
def JG(l:List (List Int)):List Value:=l.flatMap u8s
theorem QT{l:List (List Int)}(h:∀y∈l,Sc y):(JG l).length=l.length*64:=by
 induction l with
 | nil=>rfl
 | cons x r ih =>
  have h1:=ih fun y hy=>h y (List.mem_cons_of_mem _ hy);have h2:=(h x (by simp)).length;simp only [JG,List.flatMap_cons,List.length_append,List.length_cons,List.length_map] at h1 h2 ⊢;omega
theorem Yl{l:List (List Int)}(h:∀y∈l,Sc y)(hj:j<64):(JG l)[i*64+j]? = (l[i]?).bind fun y=>(u8s y)[j]? := by
 induction l generalizing i with
 | nil=>simp [JG]
 | cons x r ih =>
  have hl:(u8s x).length=64:=by rw [List.length_map,(h x (by simp)).length]
  have ih:=fun {i}=>ih (i:=i) fun y hy=>h y (List.mem_cons_of_mem _ hy);simp only [JG,List.flatMap_cons] at ih ⊢;cases i with
  | zero =>
   rw [Nat.zero_mul,Nat.zero_add,List.getElem?_append_left (by omega)];rfl
  | succ i =>
   rw [List.getElem?_append_right (by omega),hl,show (i+1)*64+j-64=i*64+j by omega,ih];rfl
theorem xa(l:List (List Int)):∀v∈JG l,v.oneCell'=true:=fun v hv=>by
 obtain⟨x,hx,hv⟩:=List.mem_flatMap.1 hv;obtain⟨z,_,rfl⟩:=List.mem_map.1 hv;rfl
structure OwnS (w:World) (B:Nat) (sv:Value) (l:List (List Int)):Prop where
 row:w.ownsRow B 36 64 sv l.length (JG l)
 all:∀y∈l,Sc y
theorem OwnS.nil(w:World)(B:Nat):OwnS w B (.slice none 0 0) []:=⟨World.ownsRow_nil w B 36 64,fun x hx=>by cases hx⟩
theorem OwnS.secs{l:List (List Int)}(h:OwnS w B sv l):SecsAt w sv l:=by
 have hr:=h.row;rcases hr.2 with ⟨rfl,h0⟩ | ⟨g,cap,cur,rfl,hb,hg,hn,hm,hs,ht⟩
 · have:l=[]:=List.eq_nil_of_length_eq_zero h0;subst this;exact SecsAt.nil _ _ _
 · refine⟨_,cap,rfl,hn,fun i x hx=>?_⟩;have h1:=h.all x (List.mem_of_getElem? hx);refine⟨h1,g,0,rfl,fun j hj=>?_⟩;have hi:=(List.getElem?_eq_some_iff.1 hx).1;rw [h1.size] at hj;rw [Nat.zero_add,World.ownsRow.cellAt hr (i*64+j) (by omega),Yl h.all hj,hx];show (u8s x)[j]? = _;rw [List.getElem?_eq_getElem (by rw [List.length_map,h1.length]; exact hj)];rfl
theorem OwnS.lt{l:List (List Int)}(h:OwnS w B sv l):∀k,sv.ownBlock=some k→B≤k∧k<w.heap.size:=World.ownsRow.lt h.row
theorem OwnS.len{l:List (List Int)}(h:OwnS w B sv l):∃a c,sv=.slice a l.length c∧l.length≤c:=by
 rcases h.row.2 with ⟨e,h0⟩ | ⟨g,cap,cur,e,_,_,hn,_⟩
 · exact⟨none,0,by rw [e,h0],by omega⟩
 · exact⟨_,cap,e,hn⟩
theorem OwnS.below{l:List (List Int)}(h:OwnS w B sv l)(hb:Below w.heap.size w w'):OwnS w' B sv l:=by
 refine⟨⟨h.row.1,?_⟩,h.all⟩;rcases h.row.2 with hn | ⟨g,cap,cur,e,hB,hg,r⟩
 · exact .inl hn
 · exact .inr ⟨g,cap,cur,e,hB,(hb.block g (Array.getElem?_eq_some_iff.1 hg).1).trans hg,r⟩
def J29(w:World)(t:TypeId)(row:Option Nat):Prop:=∀k,row=some k→∃cur fz,w.heap[k]? = some (Obj.cells cur t fz)
theorem QY{e:TypeId}{s:Nat}{xs:List Value}(h:w.ownsRow B e s sv n xs):J29 w e sv.ownBlock:=fun k hk=>by
 rcases h.2 with ⟨rfl,_⟩ | ⟨g,cap,cur,rfl,_,hg,_⟩
 · cases hk
 · cases hk;exact⟨cur,_,hg⟩
theorem Zt{e:TypeId}{s:Nat}{xs:List Value}{row:Option Nat}(h:w.ownsRow B e s sv n xs)(hg:w.grownBy w' row)(ht:J29 w t row)(hne:t≠e):w'.ownsRow B e s sv n xs:=by
 refine⟨h.1,?_⟩;rcases h.2 with hn | ⟨g,cap,cur,e1,hB,hgg,r⟩
 · exact .inl hn
 · refine .inr ⟨g,cap,cur,e1,hB,(hg.block g (Array.getElem?_eq_some_iff.1 hgg).1 fun hk=>?_).trans hgg,r⟩;obtain⟨cur2,fz2,h2⟩:=ht g hk.symm;rw [hgg] at h2;cases h2;exact hne rfl
theorem OwnS.keep{l:List (List Int)}{row:Option Nat}(h:OwnS w B sv l)(hg:w.grownBy w' row)(ht:J29 w t row)(hne:t≠36):OwnS w' B sv l:=⟨Zt h.row hg ht hne,h.all⟩
theorem OwnN.keep{row:Option Nat}(h:OwnN w B sv l)(hg:w.grownBy w' row)(ht:J29 w t row)(hne:t≠3):OwnN w' B sv l:=Zt h hg ht hne
theorem Jaw:(Tryz.prog.info? 36).map (fun i=>(i.size,i.bytes))=some (64,64):=by kernel_rfl
theorem Jax:(Tryz.prog.info? 36).bind (·.zero)=some (.agg (u8s (zeros 64)).toArray):=by kernel_rfl
theorem Jdy:∃i,Tryz.prog.info? 36=some i∧i.zero=some (.agg (u8s (zeros 64)).toArray)∧i.size=64∧i.bytes=64:=by
 have h1:=Jaw;have h2:=Jax;cases hq:Tryz.prog.info? 36 with
 | none=>simp [hq] at h1
 | some i=>simp [hq] at h1 h2; exact⟨i,rfl,by simpa using h2,h1⟩
theorem J3k{o:Nat}{m:List (List Int)}(hw:∀y∈m,Sc y)(hc:∀i y,m[i]? = some y→At w b (o+i*64) (u8s y).toArray)(j:Nat)(u:Value)(hu:(JG m)[j]? = some u):w.cell? ((⟨b,o,none⟩:Addr).add j)=some u:=by
 rw [show (⟨b,o,none⟩:Addr).add j=⟨b,o+j,none⟩ by unfold Addr.add; split <;> simp_all];have e:j=j/64*64+j%64:=by omega
 have hj:j%64<64:=Nat.mod_lt _ (by decide);rw [e,Yl hw hj] at hu;obtain⟨x,hx,hu⟩:=Option.bind_eq_some_iff.1 hu;have h1:=hc _ x hx (j%64) (by rw [(hw x (List.mem_of_getElem? hx)).size]; exact hj);rw [show o+j/64*64+j%64=o+j by omega] at h1;rw [h1,←hu];rw [List.getElem?_eq_getElem (by rw [List.length_map,(hw x (List.mem_of_getElem? hx)).length]; exact hj)];rfl
theorem zeros_sc:Sc (zeros 64):=⟨J1 64,Kv 64⟩
theorem J6p{l m:List (List Int)}(h:OwnS w B sv l)(hB:B≤w.heap.size)(k:SecsAt w tv m)(hlen:l.length+m.length≤100000)(ty:TypeId) :
 ∃sv' w',(Builtin.append_ #[106,106] ty #[sv,tv]).run Tryz.prog w=.ok sv' w'∧OwnS w' B sv' (l++m)∧w.grownBy w' sv.ownBlock:=by
 obtain⟨i,hi,hz,hs,hby⟩:=Jdy;cases m with
 | nil =>
  obtain⟨a,c,rfl,hle⟩:=h.len;obtain⟨ta,tc,rfl,_⟩:=k;refine⟨_,w,run_append_nothing w 106 106 ty 36 i Tryz.underlying106 hi a l.length c hle _ ⟨.inl ⟨36,Tryz.underlying106⟩,fun _=>by rfl,?_,?_,by simp,fun u hu=>by cases hu⟩,by rw [List.append_nil]; exact h,⟨rfl,rfl,rfl,Nat.le_refl _,fun _ _ _=>rfl⟩⟩
  · cases ta <;> simp [Builtin.firstCells,hs,loadCells,loadCellsFrom]
  · cases ta <;> simp [Builtin.firstCells,hs,loadCells,loadCellsFrom]
 | cons x m =>
  obtain⟨b,o,c,rfl,hcap,hbl,hc⟩:=k.has (by simp);have hw:∀y∈x::m,Sc y:=k.sc;obtain⟨v',w',hr,h2,h3,_⟩:=run_append_own (P:=Tryz.prog) w B 106 ty 36 i (.agg (u8s (zeros 64)).toArray) 64 64 Tryz.underlying106 hi hz hs hby (zeros_sc.size) (by decide) sv l.length (JG l) h.row ⟨b,o,none⟩ (x::m).length c (JG (x::m)) (QT hw) (J3k hw fun j y hj=>(hc j y hj).2) (xa _) (by simp only [maxLen]; omega) (by omega) hB;refine⟨v',w',hr,⟨?_,fun y hy=>?_⟩,h3⟩
  · rw [List.length_append,show JG (l++x::m)=JG l++JG (x::m) from List.flatMap_append];exact h2
  · rcases List.mem_append.1 hy with hy | hy
    · exact h.all y hy
    · exact hw y hy
theorem J6q(w:World)(y:List Int)(hy:Sc y):(Instr.buildSlice 106 1 #[(0,Value.agg (u8s y).toArray)]).run Tryz.prog w=.ok (.slice (some ⟨w.heap.size,0,none⟩) 1 1) (w.alloc (.cells (JG [y]).toArray 36)):=by
 obtain⟨i,hi,hz,hs,-⟩:=Jdy;have hv:∀v∈[Value.agg (u8s y).toArray],v.cells.size=64:=fun v hv=>by
  obtain rfl:=List.mem_singleton.1 hv;exact hy.size
 obtain⟨r,hr,hrs,hk⟩:=Go.Great.fill_dense (s:=64) (by decide) [Value.agg (u8s y).toArray] 0 ((Array.range (1*64)).map fun k=>(Value.agg (u8s (zeros 64)).toArray).cells[k%(Value.agg (u8s (zeros 64)).toArray).cells.size]!) hv (by simp);have hcells:r=(JG [y]).toArray:=by
  apply Array.ext_getElem?;intro k;rw [hk k];simp only [List.length_cons,List.length_nil,Nat.zero_add,Nat.zero_mul,Nat.zero_le,true_and,Nat.sub_zero,List.getElem?_toArray,Nat.one_mul]
  by_cases h:k<64
  · rw [if_pos h];have e0:k/64=0:=by omega
    have e1:k%64=k:=by omega
    simp only [e0,e1,List.getElem?_cons_zero,Option.bind_some];simp [JG,Value.cells]
  · rw [if_neg h,List.getElem?_eq_none (by rw [QT (fun z hz=>by obtain rfl:=List.mem_singleton.1 hz; exact hy)]; simp; omega)];simp;omega
 rw [←hcells];refine Go.run_buildSlice (P:=Tryz.prog) w 106 36 1 _ r i _ Tryz.underlying106 hi hz (by rw [hs]; omega) (by rw [hs]; omega) ?_;rw [hs];simpa using hr
theorem J3l{y:List Int}(hy:Sc y):SecsAt (w.alloc (.cells (JG [y]).toArray 36)) (.slice (some ⟨w.heap.size,0,none⟩) 1 1) [y]:=by
 refine⟨_,1,rfl,Nat.le_refl _,fun i x hx=>?_⟩;cases i with
 | succ i=>simp at hx
 | zero =>
  simp only [List.getElem?_cons_zero,Option.some.injEq] at hx;subst hx;refine⟨hy,w.heap.size,0,rfl,fun j hj=>?_⟩;have hb:=Blk.new w (JG [y]).toArray 36;have e:(JG [y]).toArray.toList=u8s y:=by simp [JG]
  rw [e] at hb;rw [Nat.zero_mul,Nat.add_zero,Nat.zero_add];exact hb.cell (by simp only [List.size_toArray] at hj; simp [hj])
section
variable {ops:Array Oper} {rest:List Oper} {dst:Option Tmp} {x y:Operand} {t2:TypeId} {pos:String} {after:Array Edge} {guard:Option (Nat×Bool)} {a:Act} {w:World} {Q:Exit→Act→World→Prop}
theorem J6r{l m:List (List Int)}(h:OwnS w B sv l)(hB:B≤w.heap.size)(k:SecsAt w tv m)(hlen:l.length+m.length≤100000)(hx:a.eval x=sv)(hy:a.eval y=tv)(hw:Region.wanted ⟨dst,.call { callee:=.builtin .append,args:=#[x,y],argTypes:=#[106,106] },t2,pos,after,guard⟩ (yielded ops a.tmps)=true)(hh:∀sv' w',OwnS w' B sv' (l++m)→w.grownBy w' sv.ownBlock→wpList Tryz.prog ops Q rest (a.put dst sv') w'):wpList Tryz.prog ops Q (⟨dst,.call { callee:=.builtin .append,args:=#[x,y],argTypes:=#[106,106] },t2,pos,after,guard⟩::rest) a w:=by
 obtain⟨sv',w',hr,ho,hg⟩:=J6p h hB k hlen t2;exact Jp sv' w' hw (Ql a.eval _ x y 106 106 rfl sv tv sv' hx hy hr) (hh sv' w' ho hg)
theorem xc{m:List Int}(h:OwnN w B sv l)(hB:B≤w.heap.size)(k:IntsAt w tv m)(hlen:l.length+m.length≤1000000)(hx:a.eval x=sv)(hy:a.eval y=tv)(hw:Region.wanted ⟨dst,.call { callee:=.builtin .append,args:=#[x,y],argTypes:=#[41,41] },t2,pos,after,guard⟩ (yielded ops a.tmps)=true)(hh:∀sv' w',OwnN w' B sv' (l++m)→w.grownBy w' sv.ownBlock→wpList Tryz.prog ops Q rest (a.put dst sv') w'):wpList Tryz.prog ops Q (⟨dst,.call { callee:=.builtin .append,args:=#[x,y],argTypes:=#[41,41] },t2,pos,after,guard⟩::rest) a w:=by
 obtain⟨sv',w',hr,ho,hg⟩:=J6o h hB k hlen t2;exact Jp sv' w' hw (Ql a.eval _ x y 41 41 rfl sv tv sv' hx hy hr) (hh sv' w' ho hg)
theorem J6s{s:List Int}(hs:Sc s)(hx:a.eval x=.agg (u8s s).toArray)(hw:Region.wanted ⟨dst,.buildSlice 106 1 #[(0,x)],t2,pos,after,guard⟩ (yielded ops a.tmps)=true)(hh:∀w',SecsAt w' (.slice (some ⟨w.heap.size,0,none⟩) 1 1) [s]→Below w.heap.size w w'→wpList Tryz.prog ops Q rest (a.put dst (.slice (some ⟨w.heap.size,0,none⟩) 1 1)) w'):wpList Tryz.prog ops Q (⟨dst,.buildSlice 106 1 #[(0,x)],t2,pos,after,guard⟩::rest) a w :=
 Jp _ _ hw (JZ _ _ a.eval _ 106 1 _ rfl #[(0,.agg (u8s s).toArray)] (by simp [hx]) _ (J6q w s hs)) (hh _ (J3l hs) ((Below.refl _ _).alloc (Nat.le_refl _) _))
end
theorem IntsAt.form(h:IntsAt w sv l):∃a cap,sv=.slice a l.length cap:=let ⟨a,cap,h,_⟩:=h; ⟨a,cap,h⟩
end Go.Proofs.YtdbfmikeaoaebaaGreatDoor
