/- Steps. -/
import Derived.Test.YtdbfmikeaoaebaaGreatDoorLae
import Derived.RegionTactic
import Derived.BigRegion
import Derived.Laws.OwnMore
import Derived.StillTailTactics
import Derived.Deep.QuietTactic
import Derived.BigQuiet
import Derived.OrdersHeld
import Derived.Deep.RegionHeld
import Derived.Test.YtdbfmikeaoaebaaGreatDoorLac
set_option linter.unusedSimpArgs false
set_option linter.unusedVariables false
set_option maxRecDepth 100000
set_option maxHeartbeats 4000000
namespace Go.Proofs.YtdbfmikeaoaebaaGreatDoor
open Go.RowKit
variable {F S:Nat→Prop} {P:Program} {Q:Exit→Act→World→Prop} {W w w' w1 w2:World} {a:Act} {b cap fuel g i k n:Nat} {listed:Array Bool} {md:Region.Mode} {o:Oper} {ops:Array Oper} {rest:List Oper} {t:TypeId} {v:Value}
namespace De
theorem Jdq:(Tryz.prog.info? 36).map (fun i=>(i.zero,i.size,i.bytes))=some (some (.agg (JM 0)),64,64):=by kernel_rfl
theorem info3z:(Tryz.prog.info? 3).map (fun i=>(i.zero,i.size,i.bytes))=some (some (.int .i64 0),1,8):=by kernel_rfl
theorem xn(n:Nat):(madeCells (JM 0) (n*64)).toList=flat (List.replicate n (JM 0)):=by
 have e:flat (List.replicate n (JM 0))=List.replicate (n*64) (Value.int .u8 0):=by
  induction n with
  | zero=>rfl
  | succ n ih =>
   simp only [flat,List.replicate_succ,List.flatMap_cons] at ih ⊢;rw [ih];simp only [JM,Array.toList_replicate,List.replicate_append_replicate];congr 1;omega
 rw [e];apply List.ext_getElem?;intro j
 by_cases hj:j<n*64
 · have h2:j%64<64:=Nat.mod_lt _ (by decide);rw [List.getElem?_replicate,if_pos hj];have h3:(Array.replicate 64 (Value.int .u8 0))[j%64]! = .int .u8 0:=by rw [getElem!_pos _ _ (by simpa using h2)];simp
   simp [madeCells,hj,JM,h3]
 · simp [madeCells,hj]
theorem J9x(n:Nat)(hn:n≤1024)(w:World):(Instr.makeSlice 106 (.int .i64 (n:Int)) (.int .i64 (n:Int))).run Tryz.prog w=.ok (.slice (some ⟨w.heap.size,0,none⟩) n n) (w.alloc (.cells (madeCells (JM 0) (n*64)) 36)):=by
 obtain⟨i,hi,hz,hs,hb⟩:=info_parts Jdq;have:=run_makeSlice (P:=Tryz.prog) w 106 36 i _ Tryz.underlying106 hi hz .i64 .i64 n n (by omega) (Int.le_refl _) (by rw [hs];simp;omega) (by rw [hb];omega) (by omega);rw [hs] at this;simpa [Value.cells] using this
theorem J1z(n:Nat)(hn:n≤1024)(w:World):(Instr.makeSlice 41 (.int .i64 (n:Int)) (.int .i64 (n:Int))).run Tryz.prog w=.ok (.slice (some ⟨w.heap.size,0,none⟩) n n) (w.alloc (.cells (madeCells #[.int .i64 0] n) 3)):=by
 obtain⟨i,hi,hz,hs,hb⟩:=info_parts info3z;have:=run_makeSlice (P:=Tryz.prog) w 41 3 i _ Tryz.underlying41 hi hz .i64 .i64 n n (by omega) (Int.le_refl _) (by rw [hs];simp;omega) (by rw [hb];omega) (by omega);rw [hs] at this;simpa [Value.cells] using this
theorem Jdr(w:World)(n:Nat)(hn:n≤1024)(b sb nb base:Nat)(h1:b≠sb)(h2:b≠nb)(h3:sb≠nb)(g1:base≤b)(g2:base≤sb)(g3:base≤nb)(hb:Blk w b [.slice (some ⟨sb,0,none⟩) n n,.slice none 0 0,.slice (some ⟨nb,0,none⟩) n n,.int .i64 (-1),.int .i64 0])(hs:Blk w sb (madeCells (JM 0) (n*64)).toList)(hl:Blk w nb (madeCells #[.int .i64 0] n).toList):DevAt w base ⟨b,sb,nb,.slice none 0 0⟩ (Ki n):=by
  refine⟨List.replicate n 0,?_⟩
  exact { blk:=by simpa [Ki] using hb,sec:=by rw [xn] at hs;exact hs,last:=by rw [toList_madeCells_one] at hl;simpa using hl
          own:=World.ownsRow_nil _ _ _ _,hS:=fun s hs=>by simp [Ki] at hs;rw [hs.2];exact xi 0,hL:=by simp [Ki],hN:=by simp [Ki]
          ok:=fun i m hm=>by
            have:=List.mem_of_getElem? hm
            obtain⟨_,rfl⟩:=List.mem_replicate.1 this
            exact .inl ⟨rfl,by simp [Ki]⟩
          n1:=h1,n2:=h2,n3:=h3,o1:=by simp [Value.ownBlock],o2:=by simp [Value.ownBlock],o3:=by simp [Value.ownBlock],b1:=g1,b2:=g2,b3:=g3,len:=by simpa [Ki] using hn,f:=by simp [Ki,I64] }
def Jjv(w:World)(n:Nat)(e:Ending)(w':World):Prop:=∃A,e=.returned (.tuple #[.pointer (some ⟨A.b,0,none⟩),.int .i64 0])∧DevAt w' w.heap.size A (Ki n)∧Below w.heap.size w w'
theorem Jds(n:Nat)(hn:1≤n∧n≤1024)(w:World):Calls Tryz.prog 9 #[.int .i64 n] w (Jjv w n):=by
 obtain⟨hn1,hn2⟩:=hn;have h1:(1:Int)≤(n:Int):=by omega
 have h2:(n:Int)≤1024:=by omega
 have m1:=J9x n hn2;have m2:=J1z n hn2;have HF:=Zh (Jdr (n:=n) (hn:=hn2));generalize madeCells (JM 0) (n*64)=z48 at *;generalize madeCells #[.int .i64 0] n=z62 at *;go_enter Tryz.func9,Tryz.ntmps9
 go_wp2_with fail
 go_region
 all_goals
  go_wp2_with fail
  go_ret2
  first
   | exact⟨⟨w.heap.size+1+1,w.heap.size,w.heap.size+1,.slice none 0 0⟩,rfl,HF.out _ _ _ _ _ (by omega) (by omega) (by omega) (by omega) (by omega) (by omega) (Blk.newAt _ _ _ (by simp) rfl) (((Blk.newAt _ _ _ rfl rfl).alloc _).alloc _) ((Blk.newAt _ _ _ (by simp) rfl).alloc _),(((Zq.alloc Zy _).alloc (by simp) _).alloc (by simp;omega) _).drew⟩
   | exact⟨⟨w.heap.size+1+1,w.heap.size+1,w.heap.size,.slice none 0 0⟩,rfl,HF.out _ _ _ _ _ (by omega) (by omega) (by omega) (by omega) (by omega) (by omega) (Blk.newAt _ _ _ (by simp) rfl) ((Blk.newAt _ _ _ (by simp) rfl).alloc _) (((Blk.newAt _ _ _ rfl rfl).alloc _).alloc _),(((Zq.alloc Zy _).alloc (by simp) _).alloc (by simp;omega) _).drew⟩
section
variable {P:Program}
theorem zB{Q:Act→Prop}(v:Value)(hw:Region.wanted o (yielded ops a.tmps)=true)(hr:(execOp a.eval o).run P w=.ok (.value v) w)(h:wpStill P ops w Q rest (a.put o.dst v)):wpStill P ops w Q (o::rest) a :=
 wpStill_step fun K hK=>by
  rw [if_pos hw];unfold Oper.still;rw [hr,Oper.stillUpon_value];exact hK _ h
theorem exec_load_at(w:World)(ev:Operand→Value)(o:Oper)(ty:TypeId)(x:Operand)(ho:o.op=.load ty x)(g off:Nat)(hx:ev x=.pointer (some ⟨g,off,none⟩))(cs:Array Value)(d:TypeDesc)(hu:P.underlying ty=some d)(hd:(match d with|.struct _|.array _ _=>true|_=>false)=true)(hi:(P.info? ty).map (·.size)=some cs.size)(hc:∀j (h:j<cs.size),w.cell? ⟨g,off+j,none⟩=some cs[j]):(execOp ev o).run P w=.ok (.value (.agg cs)) w:=by
 unfold execOp;simp only [ho,hx,Instr.loadAt,Instr.sureAddr,Sem.run_bind,Sem.run_pure,Result.andThen_ok,Kb w g off ty cs d hu hd hi hc]
theorem Zj(w:World)(ev:Operand→Value)(o:Oper)(ty:TypeId)(x:Operand)(ho:o.op=.load ty x)(a:Addr)(hx:ev x=.pointer (some a))(v:Value)(d:TypeDesc)(hu:P.underlying ty=some d)(hd:(match d with|.struct _|.array _ _=>true|_=>false)=false)(hc:w.cell? a=some v):(execOp ev o).run P w=.ok (.value v) w:=by
 have hagg:(isAgg ty).run P w=.ok false w:=by
  unfold isAgg;rw [Sem.run_bind,run_underlying hu w];cases d <;> simp_all
 unfold execOp;simp [ho,hx,Instr.loadAt,Instr.sureAddr,loadVar,Sem.run_bind,hagg,hc]
theorem Y7(hi:ops[i]? = some o)(hw:Region.wanted o (yielded ops a.tmps)=true)(dst:Option Tmp)(hd:o.dst=dst)(v:Value)(w':World)(hr:(execOp a.eval o).run P w=.ok (.value v) w')(h:wpAny P md ops Q fuel (listed.setIfInBounds i true) (a.put dst v) w'):wpOp P ops Q i (wpAny P md ops Q fuel (listed.setIfInBounds i true)) a w :=
 wpOp_step hi fun K hK=>by
  rw [if_pos hw];unfold Oper.wp;rw [hr];subst hd;exact hK _ _ h
theorem XU(i:Nat){oi:Oper}(dst:Option Tmp)(v:Value)(hi:ops[i]? = some oi)(hd:oi.dst=dst)(hs:Region.noSelect ops=true)(hf:Region.free md ops listed i=true)(hr:(Region.ready md ops listed).contains i=true)(hQ:∀c a w,Q (.panic c) (a.put dst v) w→Q (.panic c) a w)(hw:Region.wanted oi (yielded ops a.tmps)=true)(hy:∀w,(execOp a.eval oi).run P w=.ok (.value v) w)(h:wpAny P md ops Q fuel (listed.setIfInBounds i true) (a.put dst v) w):wpAny P md ops Q (fuel+1) listed a w:=by
 subst hd;exact wpAny_take hi hs hf hr hQ (.inl ⟨hw,hy⟩) h
theorem X7(i:Nat)(hr:Region.ready md ops listed=[i])(h:wpOp P ops Q i (wpAny P md ops Q fuel (listed.setIfInBounds i true)) a w):wpAny P md ops Q (fuel+1) listed a w :=
 wpAny_all hr (by simp) fun j hj=>by rw [List.mem_singleton.1 hj];exact h
theorem J46(i k:Nat)(hr:Region.ready md ops listed=[i,k])(h:wpOp P ops Q i (wpAny P md ops Q fuel (listed.setIfInBounds i true)) a w)(h2:wpOp P ops Q k (wpAny P md ops Q fuel (listed.setIfInBounds k true)) a w):wpAny P md ops Q (fuel+1) listed a w :=
 wpAny_all hr (by simp) fun j hj=>by
  rcases List.mem_cons.1 hj with rfl|hj
  · exact h
  · rw [List.mem_singleton.1 hj];exact h2
theorem Yy(off:Nat):∀(vs:List Value) (k:Nat) (cells:Array Value),off+k+vs.length≤cells.size →
 ((vs.zipIdx k).foldl (fun cs p=>cs.setIfInBounds (off+p.2) p.1) cells).toList=cells.toList.take (off+k)++vs++cells.toList.drop (off+k+vs.length)
 | [],k,cells,_=>by simp
 | v::vs,k,cells,h=>by
  have hl:off+k+(vs.length+1)≤cells.size:=by simpa using h
  rw [List.zipIdx_cons,List.foldl_cons,Yy off vs (k+1) _ (by simp;omega)];have e:=list_seg_step cells.toList (off+k) v vs (by simpa using hl);simpa [Array.toList_setIfInBounds,Nat.add_assoc] using e
theorem J20(cells vs:Array Value)(h:vs.size=cells.size):(vs.zipIdx.foldl (fun cs p=>cs.setIfInBounds (0+p.2) p.1) cells)=vs:=by
 have:=Yy 0 vs.toList 0 cells (by simp;omega);apply Array.ext';rw [←Array.foldl_toList,Array.toList_zipIdx,this];simp [h]
theorem ya{parts:List (Nat×Value)}{fs:Array Field}{z:Value}{places:List (Nat×Nat)}(hu:P.underlying t=some (.struct fs))(hz:(P.info? t).bind (·.zero)=some z)(hp:fs.toList.mapM (fun f=>(P.info? f.type).map fun i=>(f.offset,i.size))=some places):P.built t parts=Instr.fill (places.toArray[·]?) z.cells parts:=by
 unfold Program.built;cases hq:P.info? t with
 | none=>simp [hq] at hz
 | some it =>
  have:it.zero=some z:=by simpa [hq] using hz
  simp [hu,this,hp]
theorem J62(i:Int)(cs zs:Array Value)(n:Nat)(h:cs.size=n)(hz:zs.size=1+n):Instr.fill ([(0,1),(1,n)].toArray[·]?) zs [(0,.int .i64 i),(1,.agg cs)]=some (#[.int .i64 i]++cs):=by
 subst h;have h1:=Yy 1 cs.toList 0 (zs.setIfInBounds 0 (.int .i64 i)) (by simp;omega);have h2:(cs.zipIdx.foldl (fun cs p=>cs.setIfInBounds (1+p.2) p.1) (zs.setIfInBounds 0 (.int .i64 i)))=#[.int .i64 i]++cs:=by
  apply Array.ext';rw [←Array.foldl_toList,Array.toList_zipIdx,h1];obtain⟨l⟩:=zs;cases l with
  | nil=>simp at hz;omega
  | cons z l =>
   simp at hz;simp;omega
 have hne:zs.size≠0:=by omega
 simp only [Array.size_zipIdx] at h2;simp [Instr.fill,Value.cells];exact⟨fun h=>hne (by simp [h]),by omega,h2⟩
theorem Xn(w:World)(t e:TypeId)(i:TypeInfo)(z:Value)(cs:Array Value)(ht:P.underlying t=some (.slice e))(hi:P.info? e=some i)(hz:i.zero=some z)(hs:i.size=cs.size)(hpos:0<cs.size)(hle:cs.size≤2 ^ 24) :
 (Instr.buildSlice t 1 #[(0,.agg cs)]).run P w=.ok (.slice (some ⟨w.heap.size,0,none⟩) 1 1) (w.alloc (.cells cs e)):=by
 have h2:=J20 ((Array.range cs.size).map (z.cells[·%z.cells.size]!)) cs (by simp);have n1:¬(2 ^ 24<cs.size):=by omega
 have n2:¬(cs.size=0):=by omega
 simp [Instr.buildSlice,run_underlying ht,sizeOf,typeInfo,hi,hs,n1,n2,zeroValue,hz,Instr.fill,Value.cells,newRow];congr 2;simp only [Array.size_zipIdx,Nat.zero_add] at h2;exact h2
end
theorem zC:(Tryz.prog.info? 113).bind (·.zero)=some (.agg (#[.int .i64 0]++JM 0)):=by kernel_rfl
theorem J9y:(Tryz.prog.underlying 113).map (fun|.struct fs=>fs.toList.mapM (fun f=>(Tryz.prog.info? f.type).map fun i=>(f.offset,i.size))|_=>none)=some (some [(0,1),(1,64)]):=by kernel_rfl
theorem J9z(i:Int)(cs:Array Value)(h:cs.size=64):Tryz.prog.built 113 [(0,.int .i64 i),(1,.agg cs)]=some (#[.int .i64 i]++cs):=by
 have hp:=J9y;rw [Tryz.underlying113] at hp;rw [ya Tryz.underlying113 zC (Option.some.inj hp)];exact J62 i cs _ 64 h (by simp [Value.cells,JM])
theorem zD(w:World)(i:Int)(cs:Array Value)(h:cs.size=64):(Instr.build 113 #[(0,.int .i64 i),(1,.agg cs)]).run Tryz.prog w=.ok (.agg (#[.int .i64 i]++cs)) w:=run_build w 113 _ _ (J9z i cs h)
theorem zE:(Tryz.prog.info? 113).map (fun i=>(i.zero,i.size,i.bytes))=some (some (.agg (#[.int .i64 0]++JM 0)),65,72):=by kernel_rfl
theorem J21(w:World)(cs:Array Value)(h:cs.size=65):(Instr.buildSlice 107 1 #[(0,.agg cs)]).run Tryz.prog w=.ok (.slice (some ⟨w.heap.size,0,none⟩) 1 1) (w.alloc (.cells cs 113)):=by
 obtain⟨i,hi,hz,hs,_⟩:=info_parts zE;exact Xn w 107 113 i _ cs Tryz.underlying107 hi hz (by omega) (by omega) (by rw [h];decide)
theorem LastOk.write{L:List (Nat×Array Value)}{N:List Nat}(h:LastOk L N)(k:Nat)(s:Array Value):LastOk (L++[(k,s)]) (N.set k (L.length+1)):=by
 intro i n hn
 by_cases hik:k=i
 · subst hik;have:n=L.length+1:=by
    rw [List.getElem?_set_self'] at hn;cases hN:N[k]? with
    | none=>simp [hN] at hn
    | some x=>simp [hN] at hn;exact hn.symm
   subst this;refine .inr ⟨by omega,s,by simp,fun S hS=>?_⟩;rw [ZU];simp [hS]
 · rw [List.getElem?_set_ne hik] at hn;rcases h i n hn with ⟨h0,hp⟩|⟨h0,t,ht,hS⟩
   · refine .inl ⟨h0,fun p hp'=>?_⟩;simp only [List.mem_append,List.mem_singleton] at hp';rcases hp' with hp'|rfl
     · exact hp p hp'
     · exact hik
   · refine .inr ⟨h0,t,?_,fun S hSi=>?_⟩
     · rw [List.getElem?_append_left (Zg ht).1];exact ht
     · rw [ZU];simp only;rw [List.getElem?_set_ne hik];exact hS S hSi
theorem DevIs.wrote{base:Nat}{A:Addrs}{d:D}{N:List Nat}(h:DevIs w1 base A d N)(hk:k<d.S.length){s:Array Value}(hs:Sec s){o:Obj}(hown:w2.ownsRow base 113 65 (.slice (some ⟨g,0,none⟩) (d.L.length+1) cap) (d.L.length+1) (Xm d.L++(Value.int .i64 (k:Int)::s.toList)))(hgrow:(w1.drew.alloc o).grownBy w2 A.lv.ownBlock)(hat:A.lv.ownBlock=some g∨w1.heap.size≤g)(w3:World)(hw3:w3=w2.setCell ⟨A.b,1,none⟩ (.slice (some ⟨g,0,none⟩) (d.L.length+1) cap))(wd:World)(hd:wd.heap=w3.heap∧wd.os=w3.os∧wd.tape=w3.tape∧wd.output=w3.output)(m:Nat)(hm:m=d.L.length+1) :
    DevIs (wd.setCell ⟨A.nb,k,none⟩ (.int .i64 (m:Int))) base { A with lv:=.slice (some ⟨g,0,none⟩) (d.L.length+1) cap } { d with L:=d.L++[(k,s)] } (N.set k (d.L.length+1)) ∧
    Only A.foot w1 (wd.setCell ⟨A.nb,k,none⟩ (.int .i64 (m:Int))):=by
  subst hm
  have hf:=h.foot_lt
  have hb:=(hf A.b (.inl rfl)).2
  have hsb:=(hf A.sb (.inr (.inl rfl))).2
  have hnb:=(hf A.nb (.inr (.inr (.inl rfl)))).2
  have hg1:g≠A.b:=fun e=>by
    rcases hat with h1|h1
    · exact h.o1 (by rw [h1,e])
    · omega
  have hg2:g≠A.sb:=fun e=>by
    rcases hat with h1|h1
    · exact h.o2 (by rw [h1,e])
    · omega
  have hg3:g≠A.nb:=fun e=>by
    rcases hat with h1|h1
    · exact h.o3 (by rw [h1,e])
    · omega
  have ho:Only A.foot w1 w2:=((Only.refl A.foot w1).drew.alloc o).grown hgrow fun k hk=>.inl (.inr (.inr (.inr hk)))
  have blk2:∀{b:Nat} {l:List Value},Blk w1 b l→A.lv.ownBlock≠some b→Blk w2 b l:=fun {b l} hb hne =>
    (hb.drew.alloc o).of_block (hgrow.block b (by have:=hb.lt;simp;omega) fun e=>hne e.symm)
  have b0:=blk2 h.blk h.o1
  have b1:=blk2 h.sec h.o2
  have b2:=blk2 h.last h.o3
  have o2:Only A.foot w1 w3:=by rw [hw3];exact ho.setCell (.inl (.inl rfl)) _
  have c0:=b0.set 1 (.slice (some ⟨g,0,none⟩) (d.L.length+1) cap)
  rw [←hw3] at c0
  have c1:Blk w3 A.sb (flat d.S):=by rw [hw3];exact b1.setOther h.n1.symm _
  have c2:Blk w3 A.nb (N.map fun (n:Nat)=>Value.int .i64 (n:Int)):=by rw [hw3];exact b2.setOther h.n2.symm _
  have own3:w3.ownsRow base 113 65 (.slice (some ⟨g,0,none⟩) (d.L.length+1) cap) (d.L.length+1) (Xm d.L++(Value.int .i64 (k:Int)::s.toList)):=by
    refine⟨hown.1,?_⟩
    rcases hown.2 with ⟨e,_⟩|⟨g',cap',cur,e,hb',hg',r⟩
    · cases e
    · obtain⟨rfl,rfl⟩:g'=g∧cap'=cap:=by simp at e;exact⟨e.1.symm,e.2.symm⟩
      refine .inr ⟨g',cap',cur,e,hb',?_,r⟩
      rw [hw3,heap_setCell_other _ _ _ _ hg1]
      exact hg'
  obtain⟨hd1,hd2,hd3,hd4⟩:=hd
  have toD:∀{b:Nat} {l:List Value},Blk w3 b l→Blk wd b l:=fun hb=>hb.of_block (by rw [hd1])
  have oD:Only A.foot w1 wd:=⟨hd2.trans o2.os,hd3.trans o2.tape,hd4.trans o2.output,by rw [hd1];exact o2.size,fun k hk hs=>by rw [hd1];exact o2.block k hk hs⟩
  refine⟨?_,oD.setCell (.inl (.inr (.inr (.inl rfl)))) _⟩
  exact {
    blk:=(toD c0).setOther h.n2 _
    sec:=(toD c1).setOther h.n3 _
    last:=by
      have:=(toD c2).set k (.int .i64 ((d.L.length+1:Nat):Int))
      rwa [←List.map_set] at this
    own:=by
      have e:Xm (d.L++[(k,s)])=Xm d.L++(Value.int .i64 (k:Int)::s.toList):=by rw [J1y]
      simp only [List.length_append,List.length_singleton]
      rw [e]
      refine⟨own3.1,?_⟩
      rcases own3.2 with ⟨e,_⟩|⟨g',cap',cur,e,hb',hg',r⟩
      · cases e
      · obtain⟨rfl,rfl⟩:g'=g∧cap'=cap:=by simp at e;exact⟨e.1.symm,e.2.symm⟩
        refine .inr ⟨g',cap',cur,e,hb',?_,r⟩
        rw [heap_setCell_other _ _ _ _ hg3,hd1]
        exact hg'
    hS:=h.hS
    hL:=fun p hp=>by
      simp only [List.mem_append,List.mem_singleton] at hp
      rcases hp with hp|rfl
      · exact h.hL p hp
      · exact⟨hs,hk⟩
    hN:=by simpa using h.hN
    ok:=h.ok.write k s
    n1:=h.n1,n2:=h.n2,n3:=h.n3
    o1:=fun e=>hg1 (Option.some.inj e)
    o2:=fun e=>hg2 (Option.some.inj e)
    o3:=fun e=>hg3 (Option.some.inj e)
    b1:=h.b1,b2:=h.b2,b3:=h.b3,len:=h.len,f:=h.f }
theorem J63{d:D}{i:Int}(hi:d.has i=true):∃k:Nat,i=k∧k<d.S.length:=by
 unfold D.has at hi;simp only [Bool.and_eq_true,decide_eq_true_eq] at hi;exact⟨i.toNat,by omega,by omega⟩
theorem Ja0(w:World)(base:Nat)(A:Addrs)(d:D)(h:DevAt w base A d)(i:Int)(hi:d.has i=false)(cs:Array Value) :
 Calls Tryz.prog 11 #[.pointer (some ⟨A.b,0,none⟩),.int .i64 i,.agg cs] w (Zr w (.int .i64 1)):=by
 have H:=Zh (zA (w.alloc (.cells cs 36)) base A d (h.only (S:=fun _=>False) ((Only.refl _ _).alloc _) (fun _ _ h=>h)) i hi);clear h hi;go_enter Tryz.func11,Tryz.ntmps11
 go_wp2_with fail
 refine H.mono ?_;rintro e w' ⟨rfl,rfl⟩
 go_wp2_with fail
 go_ret;exact⟨rfl,Zq.alloc Zy _⟩
theorem write_yes(w:World)(base:Nat)(A:Addrs)(d:D)(h:DevAt w base A d)(hT:d.T≤1000000)(hLn:d.L.length≤1000000)(hbase:base≤w.heap.size)(i:Int)(hi:d.has i=true)(cs:Array Value)(hs:Sec cs) :
 Calls Tryz.prog 11 #[.pointer (some ⟨A.b,0,none⟩),.int .i64 i,.agg cs] w (Did w base A (.int .i64 d.flushE) (d.write i cs)):=by
 have hf:=h.foot_lt;have H:=Zh (J61 (w.alloc (.cells cs 36)) base A d (h.only (S:=fun _=>False) ((Only.refl _ _).alloc _) (fun _ _ h=>h)) hT i hi);have hbox:=Blk.new w cs 36;obtain⟨k,rfl,hk⟩:=J63 hi;have HW:d.write k cs=if d.F=0 then { d with F:=-1 } else { d with F:=d.nextF,T:=d.T+1,L:=d.L++[(k,cs)] }:=by unfold D.write;rw [if_pos hi,Int.toNat_natCast]
 rw [HW];clear HW hi h;unfold D.flushE;unfold D.ask D.askE at H
 by_cases h0:d.F=0
 · rw [if_pos h0,if_pos h0];rw [if_pos h0,if_pos h0] at H;clear hbox h0;go_enter Tryz.func11,Tryz.ntmps11
   go_wp2_with fail
   refine H.mono ?_;rintro e w' ⟨rfl,hd,ho⟩;have HD:=Zh hd;have HO:=Zh ho;clear hd ho
   go_wp2_with fail
   go_ret;exact Did.same HD.out (((Only.refl A.foot w).alloc _).trans HO.out)
 · rw [if_neg h0,if_neg h0];rw [if_neg h0,if_neg h0] at H;clear h0;have HF:=Zh hf;have HX:=Zh hbox;have HS:=Zh hs;clear hf hbox hs;go_enter Tryz.func11,Tryz.ntmps11
   go_wp2_with fail
   refine H.mono ?_;rintro e w1 ⟨rfl,hd,ho⟩;obtain⟨N,hd⟩:=hd;have hx1:Blk w1 w.heap.size cs.toList:=HX.only ho fun hh=>by have:=(HF.out _ hh).2;omega
   have HX1:=Zh hx1;have HO:=Zh ho;have HD:=Zh hd;have c1:=hd.c1;clear hx1 ho hd
   go_wp2_with fail
   refine wp_region_any (by kernel_rfl) ?_;change wpAny _ _ _ _ _ _ _ w1.drew;refine XU 0 (some 14) (.pointer (some ⟨A.b,0,none⟩)) rfl rfl (by kernel_rfl) (by kernel_rfl) (by kernel_rfl) (fun _ _ _ h=>h) rfl (fun w=>by go_simp) ?_;simp only [Act.put,List.setIfInBounds_toArray,List.set_cons_succ,List.set_cons_zero];refine XU 1 (some 15) (.pointer (some ⟨A.b,0,none⟩)) rfl rfl (by kernel_rfl) (by kernel_rfl) (by kernel_rfl) (fun _ _ _ h=>h) rfl (fun w=>by go_simp) ?_;simp only [Act.put,List.setIfInBounds_toArray,List.set_cons_succ,List.set_cons_zero];refine XU 2 (some 16) (.pointer (some ⟨A.b,0,none⟩)) rfl rfl (by kernel_rfl) (by kernel_rfl) (by kernel_rfl) (fun _ _ _ h=>h) rfl (fun w=>by go_simp) ?_;simp only [Act.put,List.setIfInBounds_toArray,List.set_cons_succ,List.set_cons_zero];refine XU 3 (some 17) (.pointer (some ⟨A.b,1,none⟩)) rfl rfl (by kernel_rfl) (by kernel_rfl) (by kernel_rfl) (fun _ _ _ h=>h) rfl (fun w=>by go_simp) ?_;simp only [Act.put,List.setIfInBounds_toArray,List.set_cons_succ,List.set_cons_zero];refine XU 5 (some 19) (.int .i64 (k:Int)) rfl rfl (by kernel_rfl) (by kernel_rfl) (by kernel_rfl) (fun _ _ _ h=>h) rfl (fun w=>by go_simp) ?_;simp only [Act.put,List.setIfInBounds_toArray,List.set_cons_succ,List.set_cons_zero];have hz65:(#[Value.int .i64 (k:Int)]++cs).size=65:=by have:=HS.size;simp;omega
   have hw1:w.heap.size≤w1.heap.size:=by have:=HO.size;simp at this;omega
   have HZ:=Zh hz65;obtain⟨i69,hi,hz0,hz1,hz2⟩:=info_parts zE;have HI:=Zh hi;have HI0:=Zh hz0;have HI1:=Zh hz1;have HI2:=Zh hz2;clear hz65 hi hz0 hz1 hz2;have c1':(w1.drew.alloc (.cells (#[.int .i64 (k:Int)]++cs) 113)).cell? ⟨A.b,1,none⟩=some A.lv:=(HD.blk.drew.alloc _).cell rfl;refine J46 4 6 (by kernel_rfl) (Y7 rfl rfl (some 18) rfl A.lv w1.drew (Zj _ _ _ 107 _ rfl ⟨A.b,1,none⟩ rfl A.lv _ Tryz.underlying107 rfl c1) ?_) (Y7 rfl rfl (some 20) rfl (.agg cs) w1.drew (exec_load_at _ _ _ 36 _ rfl w.heap.size 0 rfl cs _ Tryz.underlying36 rfl (by rw [HS.size];exact info36) (HX1.drew.cells cs rfl)) ?_)
   all_goals simp only [Act.put,List.setIfInBounds_toArray,List.set_cons_succ,List.set_cons_zero]
   case' refine_1 =>
    refine X7 6 (by kernel_rfl) (Y7 rfl rfl (some 20) rfl (.agg cs) w1.drew (exec_load_at _ _ _ 36 _ rfl w.heap.size 0 rfl cs _ Tryz.underlying36 rfl (by rw [HS.size];exact info36) (HX1.drew.cells cs rfl)) ?_);simp only [Act.put,List.setIfInBounds_toArray,List.set_cons_succ,List.set_cons_zero];refine X7 7 (by kernel_rfl) (Y7 rfl rfl (some 21) rfl (.agg (#[.int .i64 (k:Int)]++cs)) w1.drew (J8 _ _ _ _ 113 _ rfl #[(0,.int .i64 (k:Int)),(1,.agg cs)] (by simp [Act.eval]) _ (zD _ k cs HS.size)) ?_);simp only [Act.put,List.setIfInBounds_toArray,List.set_cons_succ,List.set_cons_zero];refine X7 8 (by kernel_rfl) (Y7 rfl rfl (some 22) rfl _ _ (JS _ _ _ _ 107 1 _ rfl #[(0,.agg (#[.int .i64 (k:Int)]++cs))] (by simp [Act.eval]) _ (J21 _ _ HZ.out)) ?_);simp only [Act.put,List.setIfInBounds_toArray,List.set_cons_succ,List.set_cons_zero]
   case' refine_2 =>
    refine XU 7 (some 21) (.agg (#[.int .i64 (k:Int)]++cs)) rfl rfl (by kernel_rfl) (by kernel_rfl) (by kernel_rfl) (fun _ _ _ h=>h) rfl (fun w=>(J8 _ _ _ _ 113 _ rfl #[(0,.int .i64 (k:Int)),(1,.agg cs)] (by simp [Act.eval]) _ (zD _ k cs HS.size))) ?_;simp only [Act.put,List.setIfInBounds_toArray,List.set_cons_succ,List.set_cons_zero];refine J46 4 8 (by kernel_rfl) (Y7 rfl rfl (some 18) rfl A.lv w1.drew (Zj _ _ _ 107 _ rfl ⟨A.b,1,none⟩ rfl A.lv _ Tryz.underlying107 rfl c1) ?_) (Y7 rfl rfl (some 22) rfl _ _ (JS _ _ _ _ 107 1 _ rfl #[(0,.agg (#[.int .i64 (k:Int)]++cs))] (by simp [Act.eval]) _ (J21 _ _ HZ.out)) ?_)
    all_goals simp only [Act.put,List.setIfInBounds_toArray,List.set_cons_succ,List.set_cons_zero]
    case' refine_1 =>
     refine X7 8 (by kernel_rfl) (Y7 rfl rfl (some 22) rfl _ _ (JS _ _ _ _ 107 1 _ rfl #[(0,.agg (#[.int .i64 (k:Int)]++cs))] (by simp [Act.eval]) _ (J21 _ _ HZ.out)) ?_);simp only [Act.put,List.setIfInBounds_toArray,List.set_cons_succ,List.set_cons_zero]
    case' refine_2 =>
     refine X7 4 (by kernel_rfl) (Y7 rfl rfl (some 18) rfl A.lv _ (Zj _ _ _ 107 _ rfl ⟨A.b,1,none⟩ rfl A.lv _ Tryz.underlying107 rfl c1') ?_);simp only [Act.put,List.setIfInBounds_toArray,List.set_cons_succ,List.set_cons_zero]
   all_goals
    change wpAny _ _ _ _ _ _ _ (w1.drew.alloc (.cells (#[.int .i64 (k:Int)]++cs) 113));refine X7 9 (by kernel_rfl) (wpOp_step rfl fun K hK=>step_append_lies _ rfl _ _ 107 rfl base 113 i69 _ 65 72 Tryz.underlying107 HI.out HI0.out HI1.out HI2.out (by simp [Value.cells,JM]) (by decide) A.lv d.L.length (Xm d.L) rfl (HD.own.drew.alloc _) ⟨w1.heap.size,0,none⟩ 1 1 (Value.int .i64 (k:Int)::cs.toList) rfl (by simp;exact HS.size) ?_ ?_ (by decide) (by unfold maxLen;omega) (by omega) (by simp;omega) _ rfl ?_)
    · intro j u hu;have hb:Blk (w1.drew.alloc (Obj.cells (#[Value.int .i64 (k:Int)]++cs) 113)) w1.heap.size (Value.int .i64 (k:Int)::cs.toList):=Blk.newAt 113 _ _ rfl (by simp);have hadd:(⟨w1.heap.size,0,none⟩:Addr).add j=⟨w1.heap.size,j,none⟩:=by unfold Addr.add;split <;> simp_all
      rw [hadd];exact hb.cell hu
    · intro u hu;rcases List.mem_cons.1 hu with rfl|hu
      · rfl
      · exact HS.one u (by simpa using hu)
    · intro g cap w2 hown hgrow hat hlt;refine hK _ _ ?_;clear hK K;change wpAny _ _ _ _ _ _ (Act.put _ (some 23) _) _;simp only [Act.put,List.setIfInBounds_toArray,List.set_cons_succ,List.set_cons_zero];have HOwn:=Zh hown;have HGrow:=Zh hgrow;have HAt:=Zh (show A.lv.ownBlock=some g∨w1.heap.size≤g by
       rcases hat with h|h
       · exact .inl h
       · right;rw [h];simp)
      have hb0:=(HD.blk.drew.alloc (Obj.cells (#[Value.int .i64 (k:Int)]++cs) 113)).of_block (hgrow.block A.b (by have:=HD.blk.lt;simp;omega) fun e=>HD.o1 e.symm);have hb2:=(HD.last.drew.alloc (Obj.cells (#[Value.int .i64 (k:Int)]++cs) 113)).of_block (hgrow.block A.nb (by have:=HD.last.lt;simp;omega) fun e=>HD.o3 e.symm);have hc1:w2.cell? ⟨A.b,1,none⟩=some A.lv:=hb0.cell rfl;have hf1:=hb0.frozen 1;have HB0:=Zh hb0;have HB2:=Zh hb2;clear hown hgrow hat hb0 hb2 c1 c1';refine X7 10 (by kernel_rfl) (wpOp_step rfl fun K hK=>?_);go_simp;refine hK _ _ ?_;clear hK K;refine X7 11 (by kernel_rfl) (wpOp_step rfl fun K hK=>?_);go_simp;refine hK _ _ ?_;clear hK K;refine X7 12 (by kernel_rfl) (wpOp_step rfl fun K hK=>?_);go_simp;refine hK _ _ ?_;clear hK K;refine wpAny_done (by kernel_rfl) ?_ _
      go_wp2_with fail
      obtain⟨w3,hw3⟩:∃w3,w3=w2.setCell ⟨A.b,1,none⟩ (.slice (some ⟨g,0,none⟩) (d.L.length+1) cap):=⟨_,rfl⟩
      rw [←hw3];have hb0:=HB0.set 1 (.slice (some ⟨g,0,none⟩) (d.L.length+1) cap);rw [←hw3] at hb0;have hb2:Blk w3 A.nb (N.map fun (n:Nat)=>Value.int .i64 (n:Int)):=by rw [hw3];exact HB2.setOther HD.n2.symm _
      have c1:w3.cell? ⟨A.b,1,none⟩=some (.slice (some ⟨g,0,none⟩) (d.L.length+1) cap):=hb0.cell rfl;have c2:w3.cell? ⟨A.b,2,none⟩=some (.slice (some ⟨A.nb,0,none⟩) d.S.length d.S.length):=hb0.cell rfl;obtain⟨m,hm⟩:∃m,N[k]? = some m:=⟨_,List.getElem?_eq_getElem (by have:=HD.hN;simp only at this;omega)⟩
      have c3:w3.cell? ⟨A.nb,k,none⟩=some (.int .i64 (m:Int)):=hb2.cell (by rw [List.getElem?_map,hm];rfl);have f3:=hb2.frozen k;have HW3:=Zh hw3;have hk0:(0:Int)≤(k:Int):=by omega
      have hk1:(k:Int)<(d.S.length:Int):=by omega
      clear hw3 hb0 hb2 hm
      go_region
      have HFin:=HD.wrote (k:=k) hk HS.out HOwn.out HGrow.out HAt.out w3 HW3.out w3.drew ⟨rfl,rfl,rfl,rfl⟩ (d.L.length+1) rfl;have HFin2:=Zh HFin;clear HFin
      go_wp2_with fail
      go_ret;have hO1:Only A.foot w w1:=((Only.refl A.foot w).alloc _).trans HO.out;refine⟨.slice (some ⟨g,0,none⟩) (d.L.length+1) cap,rfl,⟨_,HFin2.out.1⟩,hO1.trans HFin2.out.2,fun k hk=>?_⟩;rcases HAt.out with h|h
      · exact .inl (by rw [h];exact hk)
      · right;have:g=k:=Option.some.inj hk;omega
theorem results_cell_tmp{fn:Func}{p q:Tmp}{ty:TypeId}(h:fn.results=#[.cell p ty,.tmp q])(tmps:Array Value)(w:World)(g off:Nat)(cs:Array Value)(d:TypeDesc)(v:Value)(hp:tmps.getD p undef=.pointer (some ⟨g,off,none⟩))(hv:tmps.getD q undef=v)(hu:P.underlying ty=some d)(hd:(match d with|.struct _|.array _ _=>true|_=>false)=true)(hi:(P.info? ty).map (·.size)=some cs.size)(hc:∀j (h:j<cs.size),w.cell? ⟨g,off+j,none⟩=some cs[j]) :
 (results fn tmps).run P w=.ok (.tuple #[.agg cs,v]) w:=by
 have hp':tmps[p]?.getD undef=.pointer (some ⟨g,off,none⟩):=by simpa using hp
 have hv':tmps[q]?.getD undef=v:=by simpa using hv
 simp [results,h,hp',hv',asAddr,Kb w g off ty cs d hu hd hi hc]
theorem built36:Tryz.prog.built 36 []=some (JM 0):=by kernel_rfl
theorem build36(w:World):(Instr.build 36 #[]).run Tryz.prog w=.ok (.agg (JM 0)) w:=run_build w 36 _ _ built36
def Qy:List Value:=List.replicate 64 (.int .u8 0)
theorem Jdt(w:World)(base:Nat)(A:Addrs)(d:D)(h:DevAt w base A d)(i:Int)(hi:d.has i=false) :
 Calls Tryz.prog 34 #[.pointer (some ⟨A.b,0,none⟩),.int .i64 i] w (Zr w (.tuple #[.agg (JM 0),.int .i64 1])):=by
 have HA:=Zh h;clear h;go_enter Tryz.func34,Tryz.ntmps34
 go_wp2_with fail
 have hb:=Blk.newAt (w:=w) (cs:=(JM 0)) 36 _ Qy rfl rfl;obtain⟨wA,hw⟩:∃wA,wA=w.alloc (.cells (JM 0) 36):=⟨_,rfl⟩
 change Calls _ _ _ (w.alloc (.cells (JM 0) 36)) _;rw [←hw] at hb ⊢;have H:=Zh (zz wA base A d (by rw [hw];exact HA.only (S:=fun _=>False) ((Only.refl _ _).alloc _) (fun _ _ h=>h)) i);have HBel:=Zh (show Below w.heap.size w wA by rw [hw];exact Zq.alloc Zy _);unfold D.readE at H;rw [hi] at H;rw [if_neg (by simp)] at H;have HB:=Zh hb;clear hb hw hi;refine H.mono ?_;rintro e w' ⟨rfl,rfl⟩
 go_wp2_with (first|(refine Jo _ _ rfl (J8 _ _ _ _ 36 _ rfl #[] (by simp) _ (build36 _)) ?_)|(refine KC rfl 36 _ _ rfl w.heap.size 0 (JM 0) rfl rfl _ HB.out info36 (by simp [JM,Qy]) (xi 0).one ?_))
 have HZ:=HB.row (Jt Qy 0 (JM 0));rw [JW _ _ (by simp [JM,Qy])] at HZ;refine bodyPost_ret (v:=.tuple #[.agg (JM 0),.int .i64 1]) (results_cell_tmp rfl _ _ w.heap.size 0 (JM 0) _ _ rfl rfl Tryz.underlying36 rfl info36 ?_) rfl ⟨rfl,?_⟩
 · rw [JW _ _ (by simp [JM,Qy])];exact HZ.cells _ rfl
 · exact ((Only.of_below (S:=fun k=>w.heap.size≤k) HBel.out).setRow (.inl Zy) _).below Zy (fun _ h=>h)
theorem zF{d:D}{s:Array Value}(hk:k<d.S.length)(h:(app d.S d.L)[k]? = some s):d.read (k:Int)=s∧d.readE (k:Int)=0:=by
 have hh:d.has (k:Int)=true:=by unfold D.has;simp [hk]
 unfold D.read D.readE;rw [if_pos hh,if_pos hh,Int.toNat_natCast,List.getD_eq_getElem?_getD,h];exact⟨rfl,rfl⟩
theorem Ja1(w:World)(base:Nat)(A:Addrs)(d:D)(h:DevAt w base A d)(hLn:d.L.length≤1000000)(k:Nat)(hk:k<d.S.length) :
 Calls Tryz.prog 34 #[.pointer (some ⟨A.b,0,none⟩),.int .i64 k] w (Zr w (.tuple #[.agg (d.read k),.int .i64 0])):=by
 have HA:=Zh h;obtain⟨N,hd⟩:=h;have HD:=Zh hd;have hlen:=hd.len;obtain⟨m,hm⟩:∃m,N[k]? = some m:=⟨_,List.getElem?_eq_getElem (by have:=hd.hN;omega)⟩
 have hok:=hd.ok k m hm;have HM:=Zh hm;clear hd hm;have hk0:(0:Int)≤(k:Int):=by omega
 have hk1:(k:Int)<(d.S.length:Int):=by omega
 obtain⟨s,hs,hcase⟩:∃s,(app d.S d.L)[k]? = some s∧((m=0∧d.S[k]? = some s)∨(∃j,m=j+1∧d.L[j]? = some (k,s))):=by
  rcases hok with ⟨h0,hp⟩|⟨h0,s,hs,hS⟩
  · exact⟨d.S[k],by rw [J9w _ _ _ hp];simp,.inl ⟨h0,by simp⟩⟩
  · exact⟨s,hS d.S hk,.inr ⟨m-1,by omega,hs⟩⟩
 have hsec:Sec s:=y9 HD.hS (fun p hp=>(HD.hL p hp).1) s (List.mem_of_getElem? hs);obtain⟨e1,e2⟩:=zF hk hs;rw [e1];have E2:=Zh e2;have HS:=Zh hsec;clear hok e1 e2 hs hsec;go_enter Tryz.func34,Tryz.ntmps34
 go_wp2_with fail
 have hb:=Blk.newAt (w:=w) (cs:=(JM 0)) 36 _ Qy rfl rfl;obtain⟨wA,hw⟩:∃wA,wA=w.alloc (.cells (JM 0) 36):=⟨_,rfl⟩
 change Calls _ _ _ (w.alloc (.cells (JM 0) 36)) _;rw [←hw] at hb ⊢;have HOn:=Zh (show Only (fun _=>False) w wA by rw [hw];exact (Only.refl _ _).alloc _);have hd2:=HD.only HOn.out (fun _ _ h=>h);have H:=Zh (zz wA base A d ⟨N,hd2⟩ k);rw [E2.out] at H;have HBel:=Zh (show Below w.heap.size w wA by rw [hw];exact Zq.alloc Zy _);have HB:=Zh hb;have c0:=hd2.c0;have c1:=hd2.c1;have c2:=hd2.c2;have c3:wA.cell? ⟨A.nb,k,none⟩=some (.int .i64 (m:Int)):=hd2.last.cell (by rw [List.getElem?_map,HM.out];rfl);have HD2:=Zh hd2;clear hb hw hd2;have HZ:=HB.row (Jt Qy 0 s);rw [JW _ _ (by rw [HS.size];rfl)] at HZ;have HZ2:=Zh HZ;clear HZ;have HFin:=Zh (((Only.of_below (S:=fun k=>w.heap.size≤k) HBel.out).setRow (g:=w.heap.size) (.inl Zy) (Jt Qy 0 s)).below (B:=w.heap.size) Zy (fun _ h=>h));rw [JW _ _ (by rw [HS.size];rfl)] at HFin;rcases hcase with ⟨rfl,hSk⟩|⟨j,rfl,hLj⟩
 · have hload:∀j (hj:j<s.size),wA.cell? ⟨A.sb,k*64+j,none⟩=some s[j]:=fun j hj=>by
    have:=Jdo HD.hS hSk (j:=j) (by have:=HS.size;omega);exact HD2.sec.cell (by rw [this];simp [hj])
   have HL:=Zh hload;clear hSk hload c1;refine H.mono ?_;rintro e w' ⟨rfl,rfl⟩
   go_wp2_with (first|(refine Jc rfl 36 _ rfl A.sb (k*64) rfl s _ Tryz.underlying36 rfl (by rw [HS.size];exact info36) HL.out ?_)|(refine KC rfl 36 _ _ rfl w.heap.size 0 s rfl rfl _ HB.out (by rw [HS.size];exact info36) (by simp [Qy];exact Nat.le_of_eq HS.size) HS.one ?_))
   rw [JW _ _ (by rw [HS.size];rfl)];exact bodyPost_ret (v:=.tuple #[.agg s,.int .i64 0]) (results_cell_tmp rfl _ _ w.heap.size 0 s _ _ rfl rfl Tryz.underlying36 rfl (by rw [HS.size];exact info36) (HZ2.cells _ rfl)) rfl ⟨rfl,HFin.out⟩
 · have hg:∃g cap,A.lv=.slice (some ⟨g,0,none⟩) d.L.length cap:=by
    obtain⟨g,cap,e,_⟩:=HD.own.form (by have:=(Zg hLj).1;omega);exact⟨g,cap,e⟩
   obtain⟨g,cap,hg⟩:=hg;have hjl:j<d.L.length:=(Zg hLj).1;have hload:∀x (hx:x<s.size),wA.cell? ⟨g,j*65+1+x,none⟩=some s[x]:=fun x hx=>by
    have hown:=HD2.own;rw [hg] at hown;have h65:1+x<65:=by have:=HS.size;omega
    rw [hown.cellAt (j*65+1+x) (by omega)];have:=zw (fun p hp=>(HD.hL p hp).1) hLj (j:=1+x) h65;rw [Nat.add_assoc,this,Nat.add_comm 1 x];simp [hx]
   have HL:=Zh hload;rw [hg] at c1;have hj0:(0:Int)≤(j:Int):=by omega
   have hj1:(j:Int)<(d.L.length:Int):=by omega
   have e1:((j+1:Nat):Int)-1=(j:Int):=by omega
   have hj2:(0:Int)<((j+1:Nat):Int):=by omega
   clear hLj hload hg;refine H.mono ?_;rintro e w' ⟨rfl,rfl⟩
   go_wp2_with (first|(refine Jc rfl 36 _ rfl g (j*65+1) rfl s _ Tryz.underlying36 rfl (by rw [HS.size];exact info36) HL.out ?_)|(refine KC rfl 36 _ _ rfl w.heap.size 0 s rfl rfl _ HB.out (by rw [HS.size];exact info36) (by simp [Qy];exact Nat.le_of_eq HS.size) HS.one ?_))
   rw [JW _ _ (by rw [HS.size];rfl)];exact bodyPost_ret (v:=.tuple #[.agg s,.int .i64 0]) (results_cell_tmp rfl _ _ w.heap.size 0 s _ _ rfl rfl Tryz.underlying36 rfl (by rw [HS.size];exact info36) (HZ2.cells _ rfl)) rfl ⟨rfl,HFin.out⟩
theorem read_any(w:World)(base:Nat)(A:Addrs)(d:D)(h:DevAt w base A d)(hLn:d.L.length≤1000000)(i:Int) :
 Calls Tryz.prog 34 #[.pointer (some ⟨A.b,0,none⟩),.int .i64 i] w (Zr w (.tuple #[.agg (d.read i),.int .i64 (d.readE i)])):=by
 cases hh:d.has i
 · have:=Jdt w base A d h i hh;have e1:d.read i=JM 0:=by unfold D.read;rw [hh];rfl
   have e2:d.readE i=1:=by unfold D.readE;rw [hh];rfl
   rw [e1,e2];exact this
 · have e2:d.readE i=0:=by unfold D.readE;rw [hh];rfl
   rw [e2];obtain⟨k,rfl,hk⟩:∃k:Nat,i=k∧k<d.S.length:=by
    unfold D.has at hh;simp only [Bool.and_eq_true,decide_eq_true_eq] at hh;exact⟨i.toNat,by omega,by omega⟩
   exact Ja1 w base A d h hLn k hk
structure Mid (w wr:World) (base:Nat) (A:Addrs) (d:D) (kp:Nat→Bool) (k:Nat) (N:List Nat):Prop where
 blk:Blk wr A.b [.slice (some ⟨A.sb,0,none⟩) d.S.length d.S.length,A.lv,.slice (some ⟨A.nb,0,none⟩) d.S.length d.S.length,.int .i64 d.F,.int .i64 d.T]
 sec:Blk wr A.sb (flat (app d.S (K4 d.L kp k)))
 last:Blk wr A.nb (N.map fun (n:Nat)=>Value.int .i64 (n:Int))
 own:wr.ownsRow base 113 65 A.lv d.L.length (Xm d.L)
 hN:N.length=d.S.length
 ok:∀i n,N[i]? = some n→n=0∨∃p∈d.L.drop k,p.1=i
 only:Only A.foot w wr
theorem LastOk.mid{L:List (Nat×Array Value)}{N:List Nat}(h:LastOk L N):∀i n,N[i]? = some n→n=0∨∃p∈L.drop 0,p.1=i:=fun i n hn=>by
 rcases h i n hn with ⟨h0,_⟩|⟨_,s,hs,_⟩
 · exact .inl h0
 · exact .inr ⟨_,by simpa using List.mem_of_getElem? hs,rfl⟩
theorem Mid.start{base:Nat}{A:Addrs}{d:D}{N:List Nat}(h:DevIs w base A d N)(kp:Nat→Bool):Mid w w base A d kp 0 N :=
 ⟨h.blk,h.sec,h.last,h.own,h.hN,h.ok.mid,Only.refl _ _⟩
theorem Zk{base:Nat}{xs:List Value}(h:w.ownsRow base 113 65 v n xs)(hb:∀k,v.ownBlock=some k→w'.heap[k]? = w.heap[k]?):w'.ownsRow base 113 65 v n xs:=by
 refine⟨h.1,?_⟩;rcases h.2 with hn|⟨g,cap,cur,e,hb',hg,r⟩
 · exact .inl hn
 · exact .inr ⟨g,cap,cur,e,hb',(hb g (by rw [e];rfl)).trans hg,r⟩
theorem Mid.go{wr:World}{base:Nat}{A:Addrs}{d:D}{kp:Nat→Bool}{N:List Nat}(h:Mid w wr base A d kp k N)(hf:∀k,A.foot k→k<wr.heap.size)(ho:Only (fun _=>False) wr w2):Mid w w2 base A d kp k N :=
 have hb:∀k,A.foot k→w2.heap[k]? = wr.heap[k]? := fun k hk=>ho.block k (hf k hk) (fun h=>h)
 ⟨h.blk.of_block (hb _ (.inl rfl)),h.sec.of_block (hb _ (.inr (.inl rfl))),h.last.of_block (hb _ (.inr (.inr (.inl rfl)))),Zk h.own (fun k hk=>hb k (.inr (.inr (.inr hk)))),h.hN,h.ok,h.only.trans (ho.more fun _ _ h=>h.elim)⟩
theorem J64{L:List (Nat×Array Value)}{s:Array Value}(hk:L[k]? = some (i,s)){N:List Nat}(h:∀j n,N[j]? = some n→n=0∨∃p∈L.drop k,p.1=j):∀j n,(N.set i 0)[j]? = some n→n=0∨∃p∈L.drop (k+1),p.1=j:=fun j n hn=>by
 by_cases hij:i=j
 · subst hij;left;rw [List.getElem?_set_self'] at hn;cases hN:N[i]? with
   | none=>simp [hN] at hn
   | some x=>simp [hN] at hn;exact hn.symm
 · rw [List.getElem?_set_ne hij] at hn;rcases h j n hn with h0|⟨p,hp,hpj⟩
   · exact .inl h0
   · obtain⟨hlt,e⟩:=List.getElem?_eq_some_iff.1 hk;rw [List.drop_eq_getElem_cons hlt,e] at hp;rcases List.mem_cons.1 hp with rfl|hp
     · exact absurd hpj hij
     · exact .inr ⟨p,hp,hpj⟩
theorem Mid.step{wr:World}{base:Nat}{A:Addrs}{d:D}{kp:Nat→Bool}{N N':List Nat}(hd:DevIs w base A d N')(h:Mid w wr base A d kp k N){s:Array Value}(hk:d.L[k]? = some (i,s)){w3:World}(ho:Only A.foot w w3)(hblk:Blk w3 A.b [.slice (some ⟨A.sb,0,none⟩) d.S.length d.S.length,A.lv,.slice (some ⟨A.nb,0,none⟩) d.S.length d.S.length,.int .i64 d.F,.int .i64 d.T])(hsec:Blk w3 A.sb (flat (app d.S (K4 d.L kp (k+1)))))(hlast:Blk w3 A.nb (N.map fun (n:Nat)=>Value.int .i64 (n:Int)))(hown:w3.ownsRow base 113 65 A.lv d.L.length (Xm d.L)):Mid w (w3.setCell ⟨A.nb,i,none⟩ (.int .i64 0)) base A d kp (k+1) (N.set i 0) where
 blk:=hblk.setOther hd.n2 _
 sec:=hsec.setOther hd.n3 _
 last:=by
  have:=hlast.set i (.int .i64 0);rw [show (Value.int .i64 0)=(fun (n:Nat)=>Value.int .i64 (n:Int)) 0 from rfl,←List.map_set] at this;exact this
 own:=Zk hown fun k hk=>heap_setCell_other w3 _ _ _ fun e=>hd.o3 (by rw [hk,e])
 hN:=by simpa using h.hN
 ok:=J64 hk h.ok
 only:=ho.setCell (.inl (.inr (.inr (.inl rfl)))) _
theorem Mid.stop{wr:World}{base:Nat}{A:Addrs}{d:D}{kp:Nat→Bool}{N N':List Nat}(hd:DevIs w base A d N')(h:Mid w wr base A d kp d.L.length N) :
    DevAt (wr.setCell ⟨A.b,1,none⟩ (.slice none 0 0)) base { A with lv:=.slice none 0 0 } { d with S:=app d.S (K4 d.L kp d.L.length),L:=[] }∧Only A.foot w (wr.setCell ⟨A.b,1,none⟩ (.slice none 0 0)):=by
  refine⟨⟨N,?_⟩,h.only.setCell (.inl (.inl rfl)) _⟩
  have hsec:∀s∈app d.S (K4 d.L kp d.L.length),Sec s:=y9 hd.hS fun p hp=>(hd.hL p (Xl hp)).1
  exact {
    blk:=by have:=h.blk.set 1 (.slice none 0 0);simpa using this
    sec:=h.sec.setOther hd.n1.symm _
    last:=h.last.setOther hd.n2.symm _
    own:=World.ownsRow_nil _ _ _ _
    hS:=hsec
    hL:=by simp
    hN:=by simpa using h.hN
    ok:=fun i n hn=>by
      rcases h.ok i n hn with h0|⟨p,hp,_⟩
      · exact .inl ⟨h0,by simp⟩
      · simp at hp
    n1:=hd.n1,n2:=hd.n2,n3:=hd.n3,o1:=by simp [Value.ownBlock],o2:=by simp [Value.ownBlock],o3:=by simp [Value.ownBlock]
    b1:=hd.b1,b2:=hd.b2,b3:=hd.b3,len:=by simpa using hd.len,f:=hd.f }
theorem Mid.drew{wr:World}{base:Nat}{A:Addrs}{d:D}{kp:Nat→Bool}{N:List Nat}(h:Mid w wr base A d kp k N):Mid w wr.drew base A d kp k N:=⟨h.blk,h.sec,h.last,h.own,h.hN,h.ok,h.only.drew⟩
def J47:List Value:=.int .i64 0::Qy
theorem J22(w:World)(base:Nat)(A:Addrs)(d:D)(h:DevAt w base A d)(hLn:d.L.length≤1000000)(f:Nat)(cap:Array Value)(kp:Nat→Bool)(hcf:∀(args:Array Value) (w:World),(callFunc f args).run Tryz.prog w=.ok (.enter f args) w)(hcall:∀(k:Nat) (w':World),k<d.L.length→Only A.foot w w'→Calls Tryz.prog f (#[.int .i64 (k:Int)]++cap) w' fun e w''=>e=.returned (.bool (kp k))∧w'=w'') :
 Calls Tryz.prog 71 #[.pointer (some ⟨A.b,0,none⟩),.func (.func f) #[] cap] w fun e w'=>e=.returned (.tuple #[])∧DevAt w' base { A with lv:=.slice none 0 0 } { d with S:=app d.S (K4 d.L kp d.L.length),L:=[] }∧Only A.foot w w':=by
 obtain⟨N,hd⟩:=h;have c1:=hd.c1;obtain⟨a,cp,e⟩:=hd.lvShape;rw [e] at c1;have HD:=Zh hd;have HE:=Zh e;have HC:=Zh hcall;clear hd e hcall;go_enter Tryz.func71,Tryz.ntmps71
 go_wp2_with fail
 go_loopg [11] d.L.length (fun g i wr=>∃(k:Nat) (M:List Nat),d.L.length-k≤g∧k≤d.L.length∧i=.int .i64 k∧Mid w wr base A d kp k M)
 case atStart=>exact⟨0,N,by omega,by omega,rfl,Mid.start HD.out kp⟩
 case round =>
  obtain⟨k,M,hg,hk,rfl,hmid⟩:=hrel
  by_cases hlt:k<d.L.length
  · obtain⟨gg,hgg⟩:∃g,a=some ⟨g,0,none⟩:=by
     obtain⟨g,c,e2,_⟩:=HD.own.form (by omega);have:=HE.symm.trans e2;simp at this;exact⟨g,this.1⟩
    subst hgg;obtain⟨p,hp⟩:∃p,d.L[k]? = some p:=⟨_,List.getElem?_eq_getElem hlt⟩
    obtain⟨i,s⟩:=p;have hpm:=HD.hL _ (List.mem_of_getElem? hp);have HS:=Zh (show Sec s from hpm.1);have hi:i<d.S.length:=hpm.2;have hload:∀x (hx:x<(#[Value.int .i64 (i:Int)]++s).size),wr.cell? ⟨gg,k*65+x,none⟩=some (#[Value.int .i64 (i:Int)]++s)[x]:=fun x hx=>by
     have hown:=hmid.own;rw [HE.out] at hown;have h65:x<65:=by have:=HS.size;simp at hx;omega
     rw [hown.cellAt (k*65+x) (by omega),zw (fun p hp=>(HD.hL p hp).1) hp h65];have:(Value.int .i64 (i:Int)::s.toList)[x]? = (#[Value.int .i64 (i:Int)]++s)[x]? := by
      obtain⟨l⟩:=s;simp
     rw [this];exact Array.getElem?_eq_getElem hx
    have HL:=Zh hload;have HZ:=Zh (show (#[Value.int .i64 (i:Int)]++s).size=65 by have:=HS.size;simp;omega);have HP:=Zh hp;have HMid:=Zh hmid;have hk0:(0:Int)≤(k:Int):=by omega
    have hk1:(k:Int)<(d.L.length:Int):=by omega
    have hone:∀v∈(#[Value.int .i64 (i:Int)]++s),v.oneCell'=true:=fun v hv=>by
     rcases Array.mem_append.1 hv with hv|hv
     · simp at hv;rw [hv];rfl
     · exact HS.one v hv
    have HOne:=Zh hone;clear hpm hload hp hmid hone;have HF:=Zh fun k hk=>Nat.lt_of_lt_of_le (HD.foot_lt k hk).2 HMid.only.size
    go_wp2_with (first|(refine Jc rfl 113 _ rfl gg (k*65) rfl (#[.int .i64 (i:Int)]++s) _ Tryz.underlying113 rfl (by rw [HZ.out];exact J45) HL.out ?_)|(refine Jo _ _ rfl (JB _ _ _ 113 rfl _ zC) ?_)|(refine KC rfl 113 _ _ rfl wr.heap.size 0 (#[.int .i64 (i:Int)]++s) rfl rfl J47 (Blk.newAt _ _ _ rfl rfl) (by rw [HZ.out];exact J45) (by rw [HZ.out];decide) HOne.out ?_))
    rw [JW _ _ (by rw [HZ.out];rfl)];have hx:Blk ((wr.alloc (.cells (#[.int .i64 0]++JM 0) 113)).setRow wr.heap.size (#[.int .i64 (i:Int)]++s)) wr.heap.size (Value.int .i64 (i:Int)::s.toList):=by
     have:=(Blk.newAt (w:=wr) (cs:=#[.int .i64 0]++JM 0) 113 wr.heap.size J47 rfl rfl).row (#[.int .i64 (i:Int)]++s);simpa using this
    have ho2:Only (fun _=>False) wr ((wr.alloc (.cells (#[.int .i64 0]++JM 0) 113)).setRow wr.heap.size (#[.int .i64 (i:Int)]++s)):=((Only.refl _ _).alloc _).setRow (.inr Zy) _;generalize (wr.alloc (.cells (#[.int .i64 0]++JM 0) 113)).setRow wr.heap.size (#[.int .i64 (i:Int)]++s)=w2 at *;have hmid2:=HMid.go HF.out ho2;have HCall:=Zh (HC.out k w2 hlt hmid2.only);have hne:wr.heap.size≠A.b∧wr.heap.size≠A.sb∧wr.heap.size≠A.nb∧A.lv.ownBlock≠some wr.heap.size:=by
     have h1:=HF.out A.b (.inl rfl);have h2:=HF.out A.sb (.inr (.inl rfl));have h3:=HF.out A.nb (.inr (.inr (.inl rfl)));exact⟨by omega,by omega,by omega,fun e=>by have:=HF.out _ (.inr (.inr (.inr e)));omega⟩
    have HNe:=Zh hne;have HX:=Zh hx;have HMid2:=Zh hmid2;clear hx ho2 hmid2 hne;have hi0:(0:Int)≤(i:Int):=by omega
    have hi1:(i:Int)<(d.S.length:Int):=by omega
    obtain⟨m,hm⟩:∃m,M[i]? = some m:=⟨_,List.getElem?_eq_getElem (by have:=HMid2.hN;omega)⟩
    have c0:w2.cell? ⟨A.b,0,none⟩=some (.slice (some ⟨A.sb,0,none⟩) d.S.length d.S.length):=HMid2.blk.cell rfl;have c2:w2.cell? ⟨A.b,2,none⟩=some (.slice (some ⟨A.nb,0,none⟩) d.S.length d.S.length):=HMid2.blk.cell rfl;have c3:w2.cell? ⟨A.nb,i,none⟩=some (.int .i64 (m:Int)):=HMid2.last.cell (by rw [List.getElem?_map,hm];rfl);have f3:=HMid2.last.frozen i;have c4:w2.cell? ⟨wr.heap.size,0,none⟩=some (.int .i64 (i:Int)):=HX.cell rfl;have HMm:=Zh hm;clear hm c1;cases hkp:kp k
    · rw [hkp] at HCall;have hfin:=Mid.step HD.out HMid2.out HP.out HMid2.only HMid2.blk (by rw [J60 hkp];exact HMid2.sec) HMid2.last HMid2.own;have HFin:=Zh hfin.drew;clear hkp hfin c0
      go_wp2_with fail
      refine HCall.mono ?_;rintro e w3 ⟨rfl,rfl⟩
      go_wp2_with fail
      go_region
      go_wp2_with fail
      go_roundg (d.L.length-(k+1))
      case measure=>omega
      case rel=>exact⟨k+1,_,by omega,by omega,by go_num,HFin.out⟩
    · rw [hkp] at HCall;have HK:=Zh hkp;clear hkp c2 c3 f3
      go_wp2_with fail
      refine HCall.mono ?_;rintro e w3 ⟨rfl,rfl⟩
      go_wp2_with fail
      refine wp_region_still_tail 9 (by kernel_rfl) (by kernel_rfl) ?_;simp only [List.take_succ_cons,List.take_zero,List.drop_succ_cons,List.drop_zero];change wpStill _ _ w2.drew (fun a'=>wpList _ _ _ _ a' w2.drew) _ _
      still_step
      still_step
      still_step
      still_step
      still_step
      still_step
      still_step
      have hc1:∀j (hj:j<s.size),w2.drew.cell? ⟨wr.heap.size,1+j,none⟩=some s[j]:=fun j hj=>HX.drew.cell (by rw [Nat.add_comm];simp [hj]);refine zB (.agg s) rfl (exec_load_at _ _ _ 36 _ rfl wr.heap.size 1 rfl s _ Tryz.underlying36 rfl (by rw [HS.size];exact info36) hc1) ?_;clear hc1
      still_step
      refine wpStill_nil ?_;have hS0:∀t∈app d.S (K4 d.L kp k),Sec t:=y9 HD.hS fun p hp=>(HD.hL p (Xl hp)).1;have hsp:=zv hS0 (i:=i) (by rw [qf];exact hi) HS.out;have e2:(app d.S (K4 d.L kp k)).set i s=app d.S (K4 d.L kp (k+1)):=by rw [qg HP.out HK.out,ZU]
      rw [e2] at hsp;refine KC rfl 36 _ _ rfl A.sb (i*64) s rfl rfl _ HMid2.sec.drew (by rw [HS.size];exact info36) (by rw [flat_length hS0,HS.size,qf];omega) HS.one ?_;have hsec:=HMid2.sec.drew.row (Jt (flat (app d.S (K4 d.L kp k))) (i*64) s);rw [hsp] at hsec;have hO:Only A.foot w2 (w2.drew.setRow A.sb (Jt (flat (app d.S (K4 d.L kp k))) (i*64) s)):=(Only.refl _ _).drew.setRow (.inl (.inr (.inl rfl))) _;have hblk:=HMid2.blk.drew.rowOther HD.n1 (Jt (flat (app d.S (K4 d.L kp k))) (i*64) s);have hlast:=HMid2.last.drew.rowOther HD.n3.symm (Jt (flat (app d.S (K4 d.L kp k))) (i*64) s);have hx2:=HX.drew.rowOther HNe.out.2.1 (Jt (flat (app d.S (K4 d.L kp k))) (i*64) s);have hown:(w2.drew.setRow A.sb (Jt (flat (app d.S (K4 d.L kp k))) (i*64) s)).ownsRow base 113 65 A.lv d.L.length (Xm d.L):=Zk HMid2.own fun k hk=>setRow_other _ _ _ _ fun e=>HD.o2 (by rw [hk,e]);generalize w2.drew.setRow A.sb (Jt (flat (app d.S (K4 d.L kp k))) (i*64) s)=w3 at *;have c2:w3.cell? ⟨A.b,2,none⟩=some (.slice (some ⟨A.nb,0,none⟩) d.S.length d.S.length):=hblk.cell rfl;have c3:w3.cell? ⟨A.nb,i,none⟩=some (.int .i64 (m:Int)):=hlast.cell (by rw [List.getElem?_map,HMm.out];rfl);have f3:=hlast.frozen i;have c4:w3.cell? ⟨wr.heap.size,0,none⟩=some (.int .i64 (i:Int)):=hx2.cell rfl;have hfin:=Mid.step HD.out HMid2.out HP.out (HMid2.only.trans hO) hblk hsec hlast hown;have HFin:=Zh hfin.drew;clear hfin hblk hsec hlast hown hO hx2 hsp hS0 e2 c0
      go_wp2_with fail
      go_region
      all_goals
       go_wp2_with fail
       go_roundg (d.L.length-(k+1))
       case measure=>omega
       case rel=>exact⟨k+1,_,by omega,by omega,by go_num,HFin.out⟩
  · have hkl:k=d.L.length:=by omega
    subst hkl;have c1:wr.cell? ⟨A.b,1,none⟩=some A.lv:=hmid.blk.cell rfl;have f1:=hmid.blk.frozen 1;have HFin:=Zh (Mid.stop HD.out hmid);clear hmid hlt
    go_wp2_with fail
    go_end0
    exact⟨rfl,HFin.out⟩
theorem Jdu(args:Array Value)(w:World):(callFunc 72 args).run Tryz.prog w=.ok (.enter 72 args) w:=by go_simp
theorem Jdv(k:Int)(w:World):Calls Tryz.prog 72 #[.int .i64 k] w fun e w'=>e=.returned (.bool true)∧w=w':=by
 go_enter Tryz.func72,Tryz.ntmps72
 go_wp2_with fail
 go_ret;exact⟨rfl,rfl⟩
theorem Ja2(w:World)(base:Nat)(A:Addrs)(d:D)(h:DevAt w base A d)(hT:d.T≤1000000)(h0:d.F=0) :
 Calls Tryz.prog 45 #[.pointer (some ⟨A.b,0,none⟩)] w (Did w base A (.int .i64 12) { d with F:=-1 }):=by
 have H:=Zh (xk w base A d h hT 0);unfold D.ask D.askE at H;rw [if_pos h0,if_pos h0] at H;clear h h0;go_enter Tryz.func45,Tryz.ntmps45
 go_wp2_with fail
 refine H.mono ?_;rintro e w' ⟨rfl,hd,ho⟩;have HD:=Zh hd;have HO:=Zh ho;clear hd ho
 go_wp2_with fail
 go_ret;exact Did.same HD.out HO.out
theorem J65(w:World)(base:Nat)(A:Addrs)(d:D)(h:DevAt w base A d)(hT:d.T≤1000000)(hLn:d.L.length≤1000000)(h0:d.F≠0) :
 Calls Tryz.prog 45 #[.pointer (some ⟨A.b,0,none⟩)] w (Did w base A (.int .i64 0) { d with F:=d.nextF,T:=d.T+1,S:=app d.S d.L,L:=[] }):=by
 have H:=Zh (xk w base A d h hT 0);unfold D.ask D.askE at H;rw [if_neg h0,if_neg h0] at H;clear h h0;go_enter Tryz.func45,Tryz.ntmps45
 go_wp2_with fail
 refine H.mono ?_;rintro e w' ⟨rfl,hd,ho⟩;have HO:=Zh ho;have HS:=Zh (J22 w' base A _ hd hLn 72 #[] (fun _=>true) Jdu (fun k w2 _ _=>Jdv k w2));simp only [qh _ _ Zy,List.take_length] at HS;clear hd ho
 go_wp2_with fail
 refine HS.mono ?_;rintro e w2 ⟨rfl,hd,ho⟩;have HD:=Zh hd;have HO2:=Zh ho;clear hd ho
 go_wp2_with fail
 go_ret;exact⟨.slice none 0 0,rfl,HD.out,HO.trans HO2.out,by simp [Value.ownBlock]⟩
theorem J66(w:World)(base:Nat)(A:Addrs)(d:D)(h:DevAt w base A d)(hT:d.T≤1000000)(hLn:d.L.length≤1000000) :
 Calls Tryz.prog 45 #[.pointer (some ⟨A.b,0,none⟩)] w (Did w base A (.int .i64 d.flushE) d.flush):=by
 unfold D.flushE D.flush
 by_cases h0:d.F=0
 · rw [if_pos h0,if_pos h0];exact Ja2 w base A d h hT h0
 · rw [if_neg h0,if_neg h0];exact J65 w base A d h hT hLn h0
def Dv(W w:World)(b:Nat)(F:Nat→Prop)(d:D):Prop:=(∃A,A.b=b∧A.foot=F∧DevAt w W.heap.size A d)∧Below W.heap.size W w
theorem Dv.lt{d:D}(h:Dv W w b F d):∀k,F k→W.heap.size≤k∧k<w.heap.size:=by
 obtain⟨⟨A,_,rfl,h⟩,_⟩:=h;exact h.foot_lt
theorem Dv.go{d:D}(h:Dv W w b F d)(ho:Only S w w')(hS:∀k,S k→W.heap.size≤k)(hF:∀k,F k→¬S k):Dv W w' b F d:=by
 obtain⟨⟨A,hb,rfl,hd⟩,hB⟩:=h;exact⟨⟨A,hb,rfl,hd.only ho hF⟩,hB.trans (ho.below hB.size hS)⟩
theorem Dv.below{d:D}(h:Dv W w b F d)(hb:Below w.heap.size w w'):Dv W w' b F d :=
 h.go (S:=fun _=>False) (Only.of_below hb) (fun _ h=>h.elim) (fun _ _ h=>h)
theorem Dv.drew{d:D}(h:Dv W w b F d):Dv W w.drew b F d:=h.below Zq.drew
def After(W w:World)(b:Nat)(F:Nat→Prop)(r:Value)(d:D)(e:Ending)(w':World):Prop:=∃F',e=.returned r∧Dv W w' b F' d∧Only F w w'∧∀k,F' k→F k∨w.heap.size≤k
theorem After.of_did{A:Addrs}{r:Value}{d:D}{e:Ending}(hB:Below W.heap.size W w)(hf:∀k,A.foot k→W.heap.size≤k)(h:Did w W.heap.size A r d e w'):After W w A.b A.foot r d e w':=by
 obtain⟨lv,rfl,hd,ho,hl⟩:=h;refine⟨Addrs.foot { A with lv:=lv },rfl,⟨⟨{ A with lv:=lv },rfl,rfl,hd⟩,hB.trans (ho.below hB.size hf)⟩,ho,?_⟩;rintro k (rfl|rfl|rfl|hk)
 · exact .inl (.inl rfl)
 · exact .inl (.inr (.inl rfl))
 · exact .inl (.inr (.inr (.inl rfl)))
 · rcases hl k hk with h|h
   · exact .inl (.inr (.inr (.inr h)))
   · exact .inr h
theorem Ja3(W w:World)(hB:Below W.heap.size W w)(n:Nat)(hn:1≤n∧n≤1024):Calls Tryz.prog 9 #[.int .i64 n] w fun e w'=>∃b F,e=.returned (.tuple #[.pointer (some ⟨b,0,none⟩),.int .i64 0])∧Dv W w' b F (Ki n)∧Below w.heap.size w w'∧∀k,F k→w.heap.size≤k:=by
 refine (Jds n hn w).mono ?_;rintro e w' ⟨A,rfl,⟨N,hd⟩,hb⟩;refine⟨A.b,A.foot,rfl,⟨⟨A,rfl,rfl,N,{ hd with own:=?_,b1:=Nat.le_trans hB.size hd.b1,b2:=Nat.le_trans hB.size hd.b2,b3:=Nat.le_trans hB.size hd.b3 }⟩,hB.trans (hb.mono hB.size)⟩,hb,fun k hk=>(hd.foot_lt k hk).1⟩;refine⟨hd.own.1,?_⟩;rcases hd.own.2 with hn|⟨g,cap,cur,e,hb',r⟩
 · exact .inl hn
 · exact .inr ⟨g,cap,cur,e,Nat.le_trans hB.size hb',r⟩
theorem Xo{d:D}(h:Dv W w b F d)(hT:d.T≤1000000)(hLn:d.L.length≤1000000)(i:Int)(cs:Array Value)(hs:Sec cs) :
 Calls Tryz.prog 11 #[.pointer (some ⟨b,0,none⟩),.int .i64 i,.agg cs] w (After W w b F (.int .i64 (d.writeE i)) (d.write i cs)):=by
 obtain⟨⟨A,rfl,rfl,hd⟩,hB⟩:=h;cases hh:d.has i
 · have e1:d.writeE i=1:=by unfold D.writeE;rw [hh];rfl
   have e2:d.write i cs=d:=by unfold D.write;rw [hh];rfl
   rw [e1,e2];refine (Ja0 w W.heap.size A d hd i hh cs).mono ?_;rintro e w' ⟨rfl,hb⟩;exact⟨A.foot,rfl,⟨⟨A,rfl,rfl,hd.only (S:=fun _=>False) (Only.of_below hb) (fun _ _ h=>h)⟩,hB.trans (hb.mono hB.size)⟩,Only.of_below hb,fun _ h=>.inl h⟩
 · have e1:d.writeE i=d.flushE:=by unfold D.writeE D.flushE;rw [if_pos hh]
   rw [e1];exact (write_yes w W.heap.size A d hd hT hLn hB.size i hh cs hs).mono fun e w' h=>h.elim fun lv h'=>After.of_did hB (fun k hk=>(hd.foot_lt k hk).1) ⟨lv,h'⟩
theorem qj{d:D}(h:Dv W w b F d)(hT:d.T≤1000000)(hLn:d.L.length≤1000000) :
 Calls Tryz.prog 45 #[.pointer (some ⟨b,0,none⟩)] w (After W w b F (.int .i64 d.flushE) d.flush):=by
 obtain⟨⟨A,rfl,rfl,hd⟩,hB⟩:=h;exact (J66 w W.heap.size A d hd hT hLn).mono fun e w' h=>After.of_did hB (fun k hk=>(hd.foot_lt k hk).1) h
theorem kx{d:D}(h:Dv W w b F d)(hLn:d.L.length≤1000000)(i:Int) :
 Calls Tryz.prog 34 #[.pointer (some ⟨b,0,none⟩),.int .i64 i] w (Zr w (.tuple #[.agg (d.read i),.int .i64 (d.readE i)])):=by
 obtain⟨⟨A,rfl,rfl,hd⟩,hB⟩:=h;exact read_any w W.heap.size A d hd hLn i
theorem jy{d:D}(h:Dv W w b F d):Calls Tryz.prog 33 #[.pointer (some ⟨b,0,none⟩)] w fun e w'=>e=.returned (.int .i64 d.S.length)∧w=w':=by
 obtain⟨⟨A,rfl,rfl,hd⟩,_⟩:=h;exact Jdp w _ A d hd
theorem Dv.go1{d:D}(h:Dv W w b F d){wb:Nat}(ho:Only (fun k=>k=wb) w w')(hge:W.heap.size≤wb)(hF:¬F wb):Dv W w' b F d :=
 h.go ho (fun k e=>by rw [e];exact hge) (fun k hf e=>hF (by rw [←e];exact hf))
end De
variable {B b:Nat} {F:Nat→Prop} {W w w':World} {fv sv:Value} {l:List Int}
theorem ky(w:World)(x y:Array Value)(s t:TypeId)(wr:World)(hb:Below (w.heap.size+2) ((w.alloc (.cells x s)).alloc (.cells y t)) wr):Below w.heap.size w wr∧Blk wr w.heap.size x.toList∧Blk wr (w.heap.size+1) y.toList:=by
 have h1:=Blk.new w x s;have h2:=Blk.new (w.alloc (.cells x s)) y t;have e:(w.alloc (.cells x s)).heap.size=w.heap.size+1:=by simp
 rw [e] at h2;exact⟨(((Below.refl w.heap.size w).alloc Zy _).alloc (by simp) _).trans (hb.mono (by omega)),(h1.alloc _).below hb (by omega),h2.below hb (by omega)⟩
theorem J67(g:Pl.Gm)(w:World):Calls Tryz.prog 55 #[g.v] w (Zr w (.bool (decide g.Ok))):=by
 by_cases h:g.Ok
 · rw [decide_eq_true h];exact Pl.JX g h w
 · rw [decide_eq_false h];exact Pl.ZG g h w
theorem JG:(Tryz.prog.info? 58).map (·.size)=some 4:=by kernel_rfl
theorem Kg(x y z:Int)(a:Option Addr)(n c:Nat):∀v∈(#[.int .i64 x,.int .i64 y,.int .u32 z,.slice a n c]:Array Value),v.oneCell'=true:=fun v hv=>by
 simp only [List.mem_toArray,List.mem_cons,List.not_mem_nil,or_false] at hv;rcases hv with rfl|rfl|rfl|rfl <;> rfl
theorem ZV(w:World)(x y:Array Value)(s t:TypeId):((w.alloc (.cells x s)).alloc (.cells y t)).heap.size=w.heap.size+2:=by simp
theorem J68(g:Pl.Gm)(a:Ja)(fv:Value)(n:Nat)(hn:a.free.length=n)(hbig:n≤9223372036854775807)(w:World)(h:IntsAt w fv a.free):Calls Tryz.prog 73 #[g.v,.agg #[.int .i64 a.seg,.int .i64 a.off,.int .u32 a.seq,fv]] w (Zr w (.bool (a.good g))):=by
 obtain⟨fa,fc,hfv⟩:=h.form;rw [hn] at hfv;subst hfv;have HMF:=Zh fun w h=>qS g a (.slice fa n fc) n hn hbig w h;have HFR:=Zh h;have HIS:=Zh fun (x:Int) w=>xg g x w;have HPG:=Zh fun w=>J67 g w;have HG:Hid (a.good g=(decide g.Ok&&Xk g a.seg&&decide (0≤a.off)&&decide (a.off≤g.l)&&KF g a.seg a.free)):=Zh rfl;obtain⟨seg,off,seq,l⟩:=a;obtain⟨go,hgo⟩:∃v,decide g.Ok=v:=⟨_,rfl⟩
 rw [hgo] at HPG HG;clear hgo;obtain⟨p,s,sl,f⟩:=g;simp only at HMF HFR HG ⊢;have HG1:=Zh fun wr hb=>ky w #[.int .i64 p,.int .i64 s,.int .i64 sl,.int .i64 f] #[.int .i64 seg,.int .i64 off,.int .u32 seq,.slice fa n fc] 23 58 wr hb;have HS2:=Zh (ZV w #[.int .i64 p,.int .i64 s,.int .i64 sl,.int .i64 f] #[.int .i64 seg,.int .i64 off,.int .u32 seq,.slice fa n fc] 23 58);clear hn hbig h;go_enter Tryz.func73,Tryz.ntmps73
 go_wp2_with fail
 refine (HPG.out _).mono ?_;generalize (w.alloc (.cells #[.int .i64 p,.int .i64 s,.int .i64 sl,.int .i64 f] 23)).alloc (.cells #[.int .i64 seg,.int .i64 off,.int .u32 seq,.slice fa n fc] 58)=w2 at *;rintro e w3 ⟨rfl,hb⟩;have HB3:Hid (Below (w.heap.size+2) w2 w3):=Zh (hb.mono (by rw [HS2.out];exact Nat.le_refl _));clear hb HPG;obtain⟨hB,hg0,ha0⟩:=HG1.out w3 HB3.out;have HB:=Zh hB;cases go
 · have HX:Hid (Ja.good ⟨p,s,sl,f⟩ ⟨seg,off,seq,l⟩=false):=Zh (by rw [HG.out];rfl);clear hB hg0 ha0
   go_wp2_with fail
   go_ret;exact⟨Jb HX.symm,HB.out⟩
 simp only [Bool.true_and] at HG;have g0:=hg0.cell (i:=0) rfl;have g1:=hg0.cell (i:=1) rfl;have g2:=hg0.cell (i:=2) rfl;have g3:=hg0.cell (i:=3) rfl;have a0:=ha0.cell (i:=0) rfl;clear hB hg0 ha0
 go_wp2_with fail
 refine (HIS.out seg _).mono ?_;rintro e w4 ⟨rfl,hb⟩;have HB4:Hid (Below (w.heap.size+2) w2 w4):=Zh (HB3.trans (hb.mono (by have:=HB3.size;have:=HS2.out;omega)));clear hb HB3 HB HIS g0 g1 g2 g3 a0;obtain⟨hB,hg0,ha0⟩:=HG1.out w4 HB4.out;have HB:=Zh hB;cases hs:Xk ⟨p,s,sl,f⟩ seg
 · have HX:Hid (Ja.good ⟨p,s,sl,f⟩ ⟨seg,off,seq,l⟩=false):=Zh (by rw [HG.out,hs];rfl);clear hB hg0 ha0 hs
   go_wp2_with fail
   go_ret;exact⟨Jb HX.symm,HB.out⟩
 rw [hs] at HG;simp only [Bool.true_and] at HG;have g0:=hg0.cell (i:=0) rfl;have g1:=hg0.cell (i:=1) rfl;have g2:=hg0.cell (i:=2) rfl;have g3:=hg0.cell (i:=3) rfl;have a0:=ha0.cell (i:=0) rfl;have a1:=ha0.cell (i:=1) rfl;have a2:=ha0.cell (i:=2) rfl;have a3:=ha0.cell (i:=3) rfl;clear hB hg0 ha0 hs
 by_cases h0:0≤off
 · by_cases h1:off≤sl
   · have HX:Hid (Ja.good ⟨p,s,sl,f⟩ ⟨seg,off,seq,l⟩=KF ⟨p,s,sl,f⟩ seg l):=Zh (by rw [HG.out,decide_eq_true h0,decide_eq_true h1];rfl)
     go_wp2_with fail
     refine (HMF.out _ (HFR.below HB.out)).mono ?_;rintro e w5 ⟨rfl,hb⟩;have HB5:=Zh (Jk HB.out hb);clear hb;rw [←HX.out]
     go_wp2_with fail
     go_ret;exact⟨rfl,HB5.out⟩
   · have HX:Hid (Ja.good ⟨p,s,sl,f⟩ ⟨seg,off,seq,l⟩=false):=Zh (by rw [HG.out,decide_eq_false h1];simp)
     go_wp2_with fail
     go_ret;exact⟨Jb HX.symm,HB.out⟩
 · have HX:Hid (Ja.good ⟨p,s,sl,f⟩ ⟨seg,off,seq,l⟩=false):=Zh (by rw [HG.out,decide_eq_false h0];simp)
   go_wp2_with fail
   go_ret;exact⟨Jb HX.symm,HB.out⟩
theorem qk(a:Ja)(fv:Value)(hn:a.free.length≤1000000)(w:World)(h:IntsAt w fv a.free):Calls Tryz.prog 47 #[.agg #[.int .i64 a.seg,.int .i64 a.off,.int .u32 a.seq,fv]] w fun e w'=>∃tv,e=.returned (.agg #[.int .i64 a.seg,.int .i64 a.off,.int .u32 a.seq,tv])∧OwnN w' w.heap.size tv a.free∧Below w.heap.size w w':=by
 obtain⟨fa,fc,hfv⟩:=h.form;obtain⟨n,hnn⟩:∃n,a.free.length=n:=⟨_,rfl⟩
 rw [hnn] at hfv;subst hfv;have HCL:=Zh fun w h=>xh a.free hn (.slice fa n fc) w h;have HFR:=Zh h;have HN:=Zh hnn;obtain⟨seg,off,seq,l⟩:=a;simp only at HCL HFR HN hnn ⊢;have HG1:=Zh fun wr hb=>ky w #[.int .i64 seg,.int .i64 off,.int .u32 seq,.slice fa n fc] #[.int .i64 0,.int .i64 0,.int .u32 0,.slice none 0 0] 58 58 wr hb;have HS2:=Zh (ZV w #[.int .i64 seg,.int .i64 off,.int .u32 seq,.slice fa n fc] #[.int .i64 0,.int .i64 0,.int .u32 0,.slice none 0 0] 58 58);have HB2:Hid (Below w.heap.size w ((w.alloc (.cells #[.int .i64 seg,.int .i64 off,.int .u32 seq,.slice fa n fc] 58)).alloc (.cells #[.int .i64 0,.int .i64 0,.int .u32 0,.slice none 0 0] 58))):=Zh (((Below.refl w.heap.size w).alloc Zy _).alloc (by simp) _);clear hn hnn h;go_enter Tryz.func47,Tryz.ntmps47
 go_wp2_with fail
 refine (HCL.out _ (HFR.below HB2.out)).mono ?_;generalize (w.alloc (.cells #[.int .i64 seg,.int .i64 off,.int .u32 seq,.slice fa n fc] 58)).alloc (.cells #[.int .i64 0,.int .i64 0,.int .u32 0,.slice none 0 0] 58)=w2 at *;rintro e w3 ⟨tv,rfl,ho,hb⟩;have HO:=Zh ho;obtain⟨hB,hg0,ha0⟩:=HG1.out w3 (hb.mono (by rw [HS2.out];exact Nat.le_refl _));have HB:=Zh hB;have HV:=Zh hg0;have HR:=Zh ha0;obtain⟨ta,tc,htv⟩:=ho.ints.form;rw [HN.out] at htv;subst htv;clear ho hb hB hg0 ha0 HCL HG1;have c3:=HV.cell (i:=3) rfl;have f3:=HV.frozen 3;have HV3:Hid (Blk (w3.setCell ⟨w.heap.size,3,none⟩ (.slice ta n tc)) w.heap.size [.int .i64 seg,.int .i64 off,.int .u32 seq,.slice ta n tc]):=Zh (HV.set 3 (.slice ta n tc));have HR3:=Zh (HR.setOther (a:=⟨w.heap.size,3,none⟩) (by simp) (.slice ta n tc));have HO3:Hid (OwnN (w3.setCell ⟨w.heap.size,3,none⟩ (.slice ta n tc)) (w.heap.size+2) (.slice ta n tc) l):=Zh (ownsRow_setCell_below (by rw [HS2.out] at HO;exact HO.out) (by simp) (.slice ta n tc));have HB3:=Zh (J3x (i:=3) (v:=.slice ta n tc) HB.out (Nat.le_refl w.heap.size) Zy);go_upto_region 2 with fail;generalize w3.setCell ⟨w.heap.size,3,none⟩ (.slice ta n tc)=w4 at *;clear c3 f3;refine Zl ?_;refine tk (.agg #[.int .i64 seg,.int .i64 off,.int .u32 seq,.slice ta n tc]) ?_ (hr:=by have c0:=HV3.cell (i:=0) rfl;have c1:=HV3.cell (i:=1) rfl;have c2:=HV3.cell (i:=2) rfl;have c3:=HV3.cell (i:=3) rfl;go_simp);refine J3 (cs:=#[.int .i64 seg,.int .i64 off,.int .u32 seq,.slice ta n tc]) HR3.out rfl JG (Kg _ _ _ _ _ _) rfl rfl rfl ?_;intro w5 hD hO hlD;refine nm ?_;have HO5:=Zh (OwnN.onlyN HO3.out hO (by omega));have HB5:=Zh (HB3.trans (hO.below HB3.size fun k hk=>by omega));have HD:=Zh hD;clear hD hO hlD;go_wp2_with fail
 refine bodyPost_ret (v:=.agg #[.int .i64 seg,.int .i64 off,.int .u32 seq,.slice ta n tc]) (Jp rfl _ _ (w.heap.size+1) 0 _ _ rfl Tryz.underlying58 rfl JG (HD.all rfl)) rfl ⟨_,rfl,HO5.mono (by omega),HB5.out⟩
theorem OwnN.cp(h:OwnN w B sv l):∀q n c,sv=.slice q n c→n≤c:=fun q n c e=>by
 rcases h.2 with ⟨e2,h0⟩|⟨g,cap,cur,e2,_,_,hn,_⟩
 · rw [e] at e2;cases e2;omega
 · rw [e] at e2;cases e2;exact hn
structure Jn (W w:World) (jb b:Nat) (F:Nat→Prop) (d:De.D) (g:Pl.Gm) (a:Ja) (fv:Value):Prop where
 dv:De.Dv W w b F d
 blk:Blk w jb [.pointer (some ⟨b,0,none⟩),.int .i64 g.p,.int .i64 g.s,.int .i64 g.l,.int .i64 g.f,.int .i64 a.seg,.int .i64 a.off,.int .u32 a.seq,fv]
 fr:IntsAt w fv a.free
 lo:W.heap.size≤jb
 nF:¬F jb
 sep:∀b' o n c,fv=.slice (some ⟨b',o,none⟩) n c→W.heap.size≤b'∧b'≠jb∧¬F b'∧b'<w.heap.size
 good:a.good g=true
 seq:Kh a.seq
 total:4+g.s*g.l≤(d.S.length:Int)
 cp:∀q n c,fv=.slice q n c→n≤c
theorem Jn.below{jb:Nat}{d:De.D}{g:Pl.Gm}{a:Ja}(h:Jn W w jb b F d g a fv)(hb:Below w.heap.size w w'):Jn W w' jb b F d g a fv :=
 ⟨h.dv.below hb,h.blk.below hb h.blk.lt,h.fr.below hb,h.lo,h.nF,fun b' o n c e=>let ⟨h1,h2,h3,h4⟩:=h.sep b' o n c e;⟨h1,h2,h3,Nat.lt_of_lt_of_le h4 hb.size⟩,h.good,h.seq,h.total,h.cp⟩
theorem Jn.dev{jb:Nat}{F':Nat→Prop}{d d':De.D}{g:Pl.Gm}{a:Ja}(h:Jn W w jb b F d g a fv)(hd:De.Dv W w' b F' d')(ho:Only F w w')(hn:∀k,F' k→F k∨w.heap.size≤k)(hl:d'.S.length=d.S.length):Jn W w' jb b F' d' g a fv:=by
 refine⟨hd,h.blk.only ho h.nF,?_,h.lo,fun hF=>?_,fun b' o n c e=>?_,h.good,h.seq,by rw [hl];exact h.total,h.cp⟩
 · obtain⟨fa,fc,e,hc⟩:=h.fr;refine⟨fa,fc,e,fun i x hx=>?_⟩;obtain⟨b',o',e2,hx2⟩:=hc i x hx;refine⟨b',o',e2,?_⟩;rw [←hx2];simp only [World.cell?,ho.block b' (block_lt_of_cell hx2) (h.sep b' o' _ _ (by rw [e,e2])).2.2.1]
 · rcases hn jb hF with h1|h1
   · exact h.nF h1
   · have:=h.blk.lt;omega
 · obtain⟨h1,h2,h3,h4⟩:=h.sep b' o n c e;refine⟨h1,h2,fun hF=>?_,Nat.lt_of_lt_of_le h4 ho.size⟩;rcases hn b' hF with h5|h5
   · exact h3 h5
   · omega
theorem Ja.good_parts{g:Pl.Gm}{a:Ja}(h:a.good g=true):g.Ok∧(0≤a.seg∧a.seg<g.s)∧0≤a.off∧a.off≤g.l∧KF g a.seg a.free=true:=by
 unfold Ja.good Xk at h;simp only [Bool.and_eq_true,decide_eq_true_eq] at h;exact⟨h.1.1.1.1,h.1.1.1.2,h.1.1.2,h.1.2,h.2⟩
theorem zG{g:Pl.Gm}{seg:Int}(h:KF g seg l=true):∀i,i<l.length→(i:Int)≤l.getD i 0:=by
 intro i
 induction i with
 | zero =>
  intro hi;have:=QN h 0 hi;unfold okAt Xk at this;simp only [Bool.and_eq_true,decide_eq_true_eq] at this;exact this.1.1.1
 | succ i ih =>
  intro hi;have h1:=ih (by omega);have:=QN h (i+1) hi;unfold okAt at this;simp only [Bool.and_eq_true,Bool.or_eq_true,decide_eq_true_eq] at this;have h2:=this.2;rw [show i+1-1=i from rfl] at h2;rcases h2 with h2|h2
  · omega
  · omega
theorem Ja.few{g:Pl.Gm}{a:Ja}(h:a.good g=true):a.free.length≤16:=by
 obtain⟨hg,-,-,-,hf⟩:=Ja.good_parts h
 by_cases h0:a.free.length=0
 · omega
 have h1:=zG hf (a.free.length-1) (by omega);have h2:=QN hf (a.free.length-1) (by omega);unfold okAt Xk at h2;simp only [Bool.and_eq_true,decide_eq_true_eq] at h2;have h3:=h2.1.1.2;have:=hg.2.1.2;omega
theorem J23(g:Pl.Gm)(h:g.Ok)(w:World):Calls Tryz.prog 57 #[g.v] w (Zr w (.int .i64 (4+g.s*g.l))):=Pl.QH g h w
theorem Jjw{a:Bool}(h:false=!a):a=true:=by
 cases a
 · cases h
 · rfl
theorem Jjx{a:Bool}(h:true=!a):a=false:=by
 cases a
 · rfl
 · cases h
def fits(g:Pl.Gm)(a:Ja)(m:Nat):Bool:=a.good g&&decide (4+g.s*g.l≤(m:Int))
theorem problem_any(dq:Option Addr)(m:Nat)(hm:m≤1000000)(g:Pl.Gm)(a:Ja)(fv:Value)(hbig:a.free.length≤9223372036854775807)(w:World)(h:IntsAt w fv a.free)(HL:∀w',Below w.heap.size w w'→Calls Tryz.prog 33 #[.pointer dq] w' fun e w''=>e=.returned (.int .i64 m)∧w'=w'') :
 Calls Tryz.prog 46 #[.pointer dq,g.v,.agg #[.int .i64 a.seg,.int .i64 a.off,.int .u32 a.seq,fv]] w fun e w'=>∃v,e=.returned v∧Below w.heap.size w w'∧((fits g a m=true∧v=.nilIface)∨(fits g a m=false∧Fault w' 1 v)):=by
 obtain⟨fa,fc,hfv⟩:=h.form;obtain⟨n,hnn⟩:∃n,a.free.length=n:=⟨_,rfl⟩
 rw [hnn] at hfv hbig;subst hfv;have HGD:=Zh fun w h=>J68 g a (.slice fa n fc) n hnn hbig w h;have HFR:=Zh h;have HTT:=Zh fun (hg:g.Ok) w=>J23 g hg w;have HLE:=Zh HL;have HNF:=Zh fun s w=>QM 1 rfl s w;have HGP:=Zh (fun (h:a.good g=true)=>Ja.good_parts h);have HFT:Hid (fits g a m=(a.good g&&decide (4+g.s*g.l≤(m:Int)))):=Zh rfl;have HAR:Hid (a.good g=true→0≤g.s*g.l∧g.s*g.l≤512):=Zh fun h=>(Ja.good_parts h).1.area;obtain⟨ft,hft⟩:∃v,fits g a m=v:=⟨_,rfl⟩
 rw [hft] at HFT ⊢;obtain⟨gd,hgd⟩:∃v,a.good g=v:=⟨_,rfl⟩
 rw [hgd] at HGD HGP HFT HAR;obtain⟨ar,har⟩:∃v,g.s*g.l=v:=⟨_,rfl⟩
 rw [har] at HTT HFT HAR;obtain⟨seg,off,seq,l⟩:=a;obtain⟨p,s,sl,f⟩:=g;simp only at HGD HFR HGP HTT ⊢;have HG1:=Zh fun wr hb=>ky w #[.int .i64 p,.int .i64 s,.int .i64 sl,.int .i64 f] #[.int .i64 seg,.int .i64 off,.int .u32 seq,.slice fa n fc] 23 58 wr hb;have HS2:=Zh (ZV w #[.int .i64 p,.int .i64 s,.int .i64 sl,.int .i64 f] #[.int .i64 seg,.int .i64 off,.int .u32 seq,.slice fa n fc] 23 58);have HB2:Hid (Below w.heap.size w ((w.alloc (.cells #[.int .i64 p,.int .i64 s,.int .i64 sl,.int .i64 f] 23)).alloc (.cells #[.int .i64 seg,.int .i64 off,.int .u32 seq,.slice fa n fc] 58))):=Zh (((Below.refl w.heap.size w).alloc Zy _).alloc (by simp) _);clear hnn h hft hgd har HL hbig;go_enter Tryz.func46,Tryz.ntmps46
 go_wp2_with fail
 refine (HGD.out _ (HFR.below HB2.out)).mono ?_;generalize (w.alloc (.cells #[.int .i64 p,.int .i64 s,.int .i64 sl,.int .i64 f] 23)).alloc (.cells #[.int .i64 seg,.int .i64 off,.int .u32 seq,.slice fa n fc] 58)=w2 at *;rintro e w3 ⟨rfl,hb⟩;have HB3:Hid (Below (w.heap.size+2) w2 w3):=Zh (hb.mono (by rw [HS2.out];exact Nat.le_refl _));obtain⟨hB,hg0,ha0⟩:=HG1.out w3 HB3.out;have HB:=Zh hB;have HV:=Zh hg0;clear hb hB hg0 ha0 HG1 HB2 HS2 HB3 HGD;cases gd
 · have HF:Hid (ft=false):=Zh (by rw [HFT.out];rfl)
   go_wp2_with fail
   refine (HNF.out _ _).mono ?_;rintro e w4 ⟨v,rfl,hf,hb⟩;have HF4:=Zh hf;have HB4:=Zh (Jk HB.out hb);obtain⟨T,dd,hv⟩:=hf.shape;subst hv;clear hf hb
   go_wp2_with fail
   go_ret;exact⟨_,rfl,HB4.out,.inr ⟨HF.out,HF4.out⟩⟩
 obtain⟨ar0,ar1⟩:=HAR.out rfl;have hok:=(HGP.out rfl).1;have HOK:=Zh hok;clear hok;go_upto_region 3 with fail;obtain⟨nf,hnf⟩:∃v,(!ft)=v:=⟨_,rfl⟩
 have HNT:Hid (nf=!ft):=Zh hnf.symm;clear hnf
 go_cut [13] from 14 to 18 (fun s13 wx=>s13=.bool nf∧Below w.heap.size w wx)
 case first =>
  refine J9 (fun wq=>Below w3.heap.size w3 wq) (by kernel_rfl) ?_;have HSd:Hid (Below w3.heap.size w3 w3.drew):=Zh Zq.drew;refine th 0 14 (.pointer dq) HSd.out ?_;refine th 2 16 (.agg #[.int .i64 p,.int .i64 s,.int .i64 sl,.int .i64 f]) HSd.out ?_ (hy:=fun wq hS=>by have q:=HV.below hS HV.lt;have q0:=q.cell (i:=0) rfl;have q1:=q.cell (i:=1) rfl;have q2:=q.cell (i:=2) rfl;have q3:=q.cell (i:=3) rfl;go_simp);refine Zo 1 fun K hK=>?_;go_simp;refine (HLE.out _ (Jk HB.out HSd.out)).mono ?_;rintro e w4 ⟨rfl,rfl⟩;refine hK _ _ HSd.out (nm ?_);clear hK K;refine Zo 3 fun K hK=>?_;go_simp;refine (HTT.out HOK.out _).mono ?_;rintro e w4 ⟨rfl,hb⟩;have HS4:=Zh (Jk HSd.out hb);refine hK _ _ HS4.out ?_;clear hK K hb;refine nm ?_;refine th 4 18 (.bool (decide ((m:Int)<4+ar))) HS4.out ?_;refine th 5 13 (.bool (decide ((m:Int)<4+ar))) HS4.out ?_;refine Zd ?_
  go_wp2_with fail
  go_meet
  exact⟨by rw [HNT.out,HFT.out];congr 1;rw [Bool.true_and,←decide_not];congr 1;apply propext;omega,Jk HB.out HS4.out⟩
 case rest =>
  obtain⟨rfl,hb⟩:=hcut;have HB4:=Zh hb;clear hb;cases nf
  · have HF:Hid (ft=true):=Zh (Jjw HNT.out)
    go_wp2_with fail
    go_ret;exact⟨_,rfl,HB4.out,.inl ⟨HF.out,rfl⟩⟩
  · have HF:Hid (ft=false):=Zh (Jjx HNT.out)
    go_wp2_with fail
    refine (HNF.out _ _).mono ?_;rintro e w5 ⟨v,rfl,hf,hb⟩;have HF5:=Zh hf;have HB5:=Zh (Jk HB4.out hb);obtain⟨T,dd,hv⟩:=hf.shape;subst hv;clear hf hb
    go_wp2_with fail
    go_ret;exact⟨_,rfl,HB5.out,.inr ⟨HF.out,HF5.out⟩⟩
theorem Ja4(b:Option Addr)(p s l f x y z:Int)(a:Option Addr)(n c:Nat):Tryz.prog.built 145 [(0,.pointer b),(1,.agg #[.int .i64 p,.int .i64 s,.int .i64 l,.int .i64 f]),(2,.agg #[.int .i64 x,.int .i64 y,.int .u32 z,.slice a n c])]=some #[.pointer b,.int .i64 p,.int .i64 s,.int .i64 l,.int .i64 f,.int .i64 x,.int .i64 y,.int .u32 z,.slice a n c]:=by kernel_rfl
variable {W:World}
def Jdw(B:Nat)(v:Value):Prop:=∀k,v.ownBlock=some k→B≤k
theorem zH(b:Nat)(F:Nat→Prop)(d:De.D)(hm:d.S.length≤1000000)(g:Pl.Gm)(a:Ja)(fv:Value)(hbig:a.free.length≤9223372036854775807)(hf:fits g a d.S.length=true)(hq:Kh a.seq)(w:World)(h:IntsAt w fv a.free)(hdv:De.Dv W w b F d) :
 Calls Tryz.prog 20 #[.pointer (some ⟨b,0,none⟩),g.v,.agg #[.int .i64 a.seg,.int .i64 a.off,.int .u32 a.seq,fv]] w fun e w'=>∃jb tv,e=.returned (.tuple #[.pointer (some ⟨jb,0,none⟩),.int .i64 0])∧(Jn W w' jb b F d g a tv∧Jdw w.heap.size tv)∧w.heap.size≤jb∧Below w.heap.size w w':=by
 obtain⟨fa,fc,hfv⟩:=h.form;obtain⟨n,hnn⟩:∃n,a.free.length=n:=⟨_,rfl⟩
 rw [hnn] at hfv;subst hfv;have hgood:a.good g=true∧4+g.s*g.l≤(d.S.length:Int):=by
  unfold fits at hf;simp only [Bool.and_eq_true,decide_eq_true_eq] at hf;exact hf
 have HGO:=Zh hgood;have hfew:=Ja.few hgood.1;have HPR:=Zh fun w h hL=>problem_any (some ⟨b,0,none⟩) d.S.length hm g a (.slice fa n fc) hbig w h hL;have HCO:=Zh fun w h=>qk a (.slice fa n fc) (by omega) w h;have HFR:=Zh h;have HDV:=Zh hdv;have HFS:=Zh hf;have HQ:=Zh hq;have HN:=Zh hnn;have HBT:=Zh (fun (x y z:Int) (q:Option Addr) k c=>Ja4 (some ⟨b,0,none⟩) g.p g.s g.l g.f x y z q k c);have HJ:Hid (∀(jb:Nat) (tv:Value) (w':World),Blk w' jb [.pointer (some ⟨b,0,none⟩),.int .i64 g.p,.int .i64 g.s,.int .i64 g.l,.int .i64 g.f,.int .i64 a.seg,.int .i64 a.off,.int .u32 a.seq,tv]→w.heap.size≤jb→OwnN w' w.heap.size tv a.free→tv.ownBlock≠some jb→Below w.heap.size w w'→(Jn W w' jb b F d g a tv∧Jdw w.heap.size tv)):=Zh (fun jb tv w' h1 h2 h3 h4 h5 =>
  ⟨⟨HDV.below h5,h1,h3.ints,Nat.le_trans HDV.out.2.size h2,fun hF=>by have:=(HDV.lt jb hF).2;omega,fun b' o n c e=>by
   have h6:=h3.lt b' (by rw [e];rfl)
   have h7:=HDV.out.2.size
   refine⟨by omega,fun e2=>h4 (by rw [e,←e2];rfl),fun hF=>by have:=(HDV.lt b' hF).2;omega,h6.2⟩,HGO.out.1,HQ.out,HGO.out.2,h3.cp⟩,fun k hk=>(h3.lt k hk).1⟩)
 obtain⟨seg,off,seq,l⟩:=a;obtain⟨p,s,sl,f⟩:=g;simp only at HPR HFR HFS HCO HBT HJ HN ⊢;have HG1:=Zh fun wr hb=>ky w #[.int .i64 p,.int .i64 s,.int .i64 sl,.int .i64 f] #[.int .i64 seg,.int .i64 off,.int .u32 seq,.slice fa n fc] 23 58 wr hb;have HS2:=Zh (ZV w #[.int .i64 p,.int .i64 s,.int .i64 sl,.int .i64 f] #[.int .i64 seg,.int .i64 off,.int .u32 seq,.slice fa n fc] 23 58);have HB2:Hid (Below w.heap.size w ((w.alloc (.cells #[.int .i64 p,.int .i64 s,.int .i64 sl,.int .i64 f] 23)).alloc (.cells #[.int .i64 seg,.int .i64 off,.int .u32 seq,.slice fa n fc] 58))):=Zh (((Below.refl w.heap.size w).alloc Zy _).alloc (by simp) _);clear hnn h hdv hf hbig hq hgood hfew;go_enter Tryz.func20,Tryz.ntmps20
 go_wp2_with fail
 refine (HPR.out _ (HFR.below HB2.out) (fun w' hb=>De.jy (HDV.below (Jk HB2.out hb)))).mono ?_;generalize (w.alloc (.cells #[.int .i64 p,.int .i64 s,.int .i64 sl,.int .i64 f] 23)).alloc (.cells #[.int .i64 seg,.int .i64 off,.int .u32 seq,.slice fa n fc] 58)=w2 at *;rintro e w3 ⟨v,rfl,hb,hor⟩;have HB3:=Zh (Jk HB2.out hb);rcases hor with ⟨-,rfl⟩|⟨h1,-⟩
 rotate_left
 · rw [HFS.out] at h1;cases h1
 obtain⟨hB,hg0,ha0⟩:=HG1.out w3 (hb.mono (by rw [HS2.out];exact Nat.le_refl _));have HVG:=Zh hg0;have HVA:=Zh ha0;clear hb hB hg0 ha0 HPR HG1;go_upto_region 4 with fail
 go_cut [6,7] from 17 to 22 (fun s6 s7 wx=>∃jb tv,s6=.pointer (some ⟨jb,0,none⟩)∧s7=.int .i64 0∧(Jn W wx jb b F d ⟨p,s,sl,f⟩ ⟨seg,off,seq,l⟩ tv∧Jdw w.heap.size tv)∧w.heap.size≤jb∧Below w.heap.size w wx)
 case first =>
  refine J9 (fun wq=>Below w3.heap.size w3 wq) (by kernel_rfl) ?_;have HSd:Hid (Below w3.heap.size w3 w3.drew):=Zh Zq.drew;refine th 0 17 (.pointer (some ⟨b,0,none⟩)) HSd.out ?_;refine th 1 18 (.agg #[.int .i64 p,.int .i64 s,.int .i64 sl,.int .i64 f]) HSd.out ?_ (hy:=fun wq hS=>by have q:=HVG.below hS HVG.lt;have q0:=q.cell (i:=0) rfl;have q1:=q.cell (i:=1) rfl;have q2:=q.cell (i:=2) rfl;have q3:=q.cell (i:=3) rfl;go_simp);refine th 2 19 (.agg #[.int .i64 seg,.int .i64 off,.int .u32 seq,.slice fa n fc]) HSd.out ?_ (hy:=fun wq hS=>by have q:=HVA.below hS HVA.lt;have q0:=q.cell (i:=0) rfl;have q1:=q.cell (i:=1) rfl;have q2:=q.cell (i:=2) rfl;have q3:=q.cell (i:=3) rfl;go_simp);refine Zo 3 fun K hK=>?_;go_simp;refine (HCO.out _ (HFR.below (Jk HB3.out HSd.out))).mono ?_;rintro e w4 ⟨tv,rfl,ho,hb⟩;have HO:=Zh ho;have HS4:=Zh (Jk HSd.out hb);obtain⟨ta,tc,htv⟩:=ho.ints.form;rw [HN.out] at htv;subst htv;have HSZ:Hid (w.heap.size≤w3.drew.heap.size):=Zh (Jk HB3.out HSd.out).size;refine hK _ _ HS4.out ?_;clear hK K hb ho;refine nm ?_;refine th 4 21 (.agg #[.pointer (some ⟨b,0,none⟩),.int .i64 p,.int .i64 s,.int .i64 sl,.int .i64 f,.int .i64 seg,.int .i64 off,.int .u32 seq,.slice ta n tc]) HS4.out ?_ (hy:=fun wq hS=>by exact J8 _ _ _ _ 145 _ rfl #[(0,.pointer (some ⟨b,0,none⟩)),(1,.agg #[.int .i64 p,.int .i64 s,.int .i64 sl,.int .i64 f]),(2,.agg #[.int .i64 seg,.int .i64 off,.int .u32 seq,.slice ta n tc])] (by simp only [List.map_toArray,List.map_cons,List.map_nil];rfl) _ (run_build _ 145 _ _ (HBT.out _ _ _ _ _ _)));refine Zo 5 fun K hK=>?_;refine Jf (some 22) rfl (.pointer (some ⟨w4.heap.size,0,none⟩)) (w4.alloc (.cells #[.pointer (some ⟨b,0,none⟩),.int .i64 p,.int .i64 s,.int .i64 sl,.int .i64 f,.int .i64 seg,.int .i64 off,.int .u32 seq,.slice ta n tc] 145)) (by go_simp) ?_;have hbl:Below w4.heap.size w4 (w4.alloc (.cells #[.pointer (some ⟨b,0,none⟩),.int .i64 p,.int .i64 s,.int .i64 sl,.int .i64 f,.int .i64 seg,.int .i64 off,.int .u32 seq,.slice ta n tc] 145)):=Zq.alloc Zy _;have HS5:=Zh (Jk HS4.out hbl);have HBL:=Zh hbl;have HNB:=Zh (Blk.new w4 #[.pointer (some ⟨b,0,none⟩),.int .i64 p,.int .i64 s,.int .i64 sl,.int .i64 f,.int .i64 seg,.int .i64 off,.int .u32 seq,.slice ta n tc] 145);refine hK _ _ HS5.out ?_;clear hK K hbl;refine nm ?_;refine th 6 6 (.pointer (some ⟨w4.heap.size,0,none⟩)) HS5.out ?_;refine th 7 7 (.int .i64 0) HS5.out ?_;refine Zd ?_
  go_wp2_with fail
  go_meet
  have hle:w.heap.size≤w4.heap.size:=(Jk HB3.out HS4.out).size;exact⟨_,_,rfl,rfl,HJ.out _ _ _ HNB.out hle ((HO.below HBL.out).mono HSZ.out) (fun e=>by have:=(HO.lt _ e).2;omega) (Jk HB3.out HS5.out),hle,Jk HB3.out HS5.out⟩
 case rest =>
  obtain⟨jb,tv,rfl,rfl,hj,hle,hb⟩:=hcut;have HJ5:=Zh hj;have HB5:=Zh hb;have HLE:=Zh hle;clear hj hb hle
  go_wp2_with fail
  first|go_ret2|go_ret
  exact⟨jb,tv,rfl,HJ5.out,HLE.out,HB5.out⟩
theorem J48(b:Nat)(F:Nat→Prop)(d:De.D)(hm:d.S.length≤1000000)(g:Pl.Gm)(a:Ja)(fv:Value)(hbig:a.free.length≤9223372036854775807)(hf:fits g a d.S.length=true)(hq:Kh a.seq)(w:World)(h:IntsAt w fv a.free)(hdv:De.Dv W w b F d) :
 Calls Tryz.prog 20 #[.pointer (some ⟨b,0,none⟩),g.v,.agg #[.int .i64 a.seg,.int .i64 a.off,.int .u32 a.seq,fv]] w fun e w'=>∃jb tv,e=.returned (.tuple #[.pointer (some ⟨jb,0,none⟩),.int .i64 0])∧Jn W w' jb b F d g a tv∧w.heap.size≤jb∧Below w.heap.size w w':=(zH b F d hm g a fv hbig hf hq w h hdv).mono fun e w' ⟨jb,tv,h1,h2,h3⟩=>⟨jb,tv,h1,h2.1,h3⟩
theorem Q2:(Tryz.prog.info? 58).bind (·.zero)=some (.agg #[.int .i64 0,.int .i64 0,.int .u32 0,.slice none 0 0]):=by kernel_rfl
theorem zI:Tryz.prog.built 58 []=some #[.int .i64 0,.int .i64 0,.int .u32 0,.slice none 0 0]:=by kernel_rfl
section
variable {W w:World} {jb b:Nat} {F:Nat→Prop} {d:De.D} {g:Pl.Gm} {a:Ja} {fv:Value}
theorem Jn.cells(h:Jn W w jb b F d g a fv):w.cell? ⟨jb,0,none⟩=some (.pointer (some ⟨b,0,none⟩))∧w.cell? ⟨jb,1,none⟩=some (.int .i64 g.p)∧w.cell? ⟨jb,2,none⟩=some (.int .i64 g.s)∧w.cell? ⟨jb,3,none⟩=some (.int .i64 g.l)∧w.cell? ⟨jb,4,none⟩=some (.int .i64 g.f)∧w.cell? ⟨jb,5,none⟩=some (.int .i64 a.seg)∧w.cell? ⟨jb,6,none⟩=some (.int .i64 a.off)∧w.cell? ⟨jb,7,none⟩=some (.int .u32 a.seq)∧w.cell? ⟨jb,8,none⟩=some fv :=
 ⟨h.blk.cell rfl,h.blk.cell rfl,h.blk.cell rfl,h.blk.cell rfl,h.blk.cell rfl,h.blk.cell rfl,h.blk.cell rfl,h.blk.cell rfl,h.blk.cell rfl⟩
theorem Jn.form(h:Jn W w jb b F d g a fv):∃fa fc,fv=.slice fa a.free.length fc:=h.fr.form
theorem Ja5(h:Jn W w jb b F d g a fv):Calls Tryz.prog 27 #[.pointer (some ⟨jb,0,none⟩)] w fun e w'=>∃tv,e=.returned (.agg #[.int .i64 a.seg,.int .i64 a.off,.int .u32 a.seq,tv])∧OwnN w' w.heap.size tv a.free∧Below w.heap.size w w':=by
 have hfew:=Ja.few h.good;obtain⟨fa,fc,hfv⟩:=h.form;obtain⟨n,hnn⟩:∃n,a.free.length=n:=⟨_,rfl⟩
 rw [hnn] at hfv;subst hfv;have HCO:=Zh fun w h=>qk a (.slice fa n fc) (by omega) w h;have HJ:=Zh h;have HN:=Zh hnn;clear hfew hnn h;go_enter Tryz.func27,Tryz.ntmps27;go_upto_region 0 with fail;refine Zl ?_;refine J4 Q2 rfl ?_;intro w0 hR hb hl;refine nm ?_;have HR:=Zh hR;have HB:=Zh hb;have HJ0:=Zh (HJ.below hb);clear hR hb hl;go_upto_region 3 with fail;refine Zl ?_;refine tk (.pointer (some ⟨jb,0,none⟩)) ?_;refine tk (.pointer (some ⟨jb,0,none⟩)) ?_;refine tk (.pointer (some ⟨jb,5,none⟩)) ?_;refine tk (.agg #[.int .i64 a.seg,.int .i64 a.off,.int .u32 a.seq,.slice fa n fc]) ?_ (hr:=by obtain⟨c0,c1,c2,c3,c4,c5,c6,c7,c8⟩:=HJ0.cells;go_simp);refine J0 rfl fun K hK=>?_;go_simp;refine (HCO.out _ HJ0.fr).mono ?_;rintro e w1 ⟨tv,rfl,ho,hb⟩;have HO:=Zh ho;have HB1:=Zh (Jk HB.out hb);have HR1:=Zh (HR.below hb HR.lt);have HLT:Hid (w.heap.size<w0.heap.size):=Zh HR.lt;obtain⟨ta,tc,htv⟩:=ho.ints.form;rw [HN.out] at htv;subst htv;clear ho hb HB HR HJ0;refine hK _ _ (nm ?_);clear hK K;refine J3 (cs:=#[.int .i64 a.seg,.int .i64 a.off,.int .u32 a.seq,.slice ta n tc]) HR1.out rfl JG (Kg _ _ _ _ _ _) rfl rfl rfl ?_;intro w2 hD hO hlD;refine nm ?_;have HB2:=Zh (HB1.trans (hO.below HB1.size fun k hk=>Nat.le_of_eq hk.symm));have HD:=Zh hD;have HO2:=Zh (OwnN.onlyN HO.out hO HLT.out);clear hD hO hlD;go_wp2_with fail
 refine bodyPost_ret (v:=.agg #[.int .i64 a.seg,.int .i64 a.off,.int .u32 a.seq,.slice ta n tc]) (Jp rfl _ _ w.heap.size 0 _ _ rfl Tryz.underlying58 rfl JG (HD.all rfl)) rfl ⟨_,rfl,HO2.mono (Nat.le_of_lt HLT.out),HB2.out⟩
end
end Go.Proofs.YtdbfmikeaoaebaaGreatDoor
