/- Steps. -/
import Derived.Test.YtdbfmikeaoaebaaGreatDoorMar
import Derived.Lib.ItoaLen
import Derived.Great.BuildSlice
import Derived.Great.FillDense
import Derived.Maps.AppendAt
set_option linter.unusedSimpArgs false
set_option linter.unusedVariables false
set_option maxRecDepth 100000
set_option maxHeartbeats 4000000
namespace Go.Proofs.YtdbfmikeaoaebaaGreatDoor
open Go.RowKit Rn
variable {A:Nat→Prop} {B N c g j:Nat} {E:World→Prop} {K:Act→World→Prop} {L M:List Value} {Q:Exit→Act→World→Prop} {T t:TypeId} {V:List (Nat×List Value)} {W w w':World} {a:Act} {l:List Int} {o:Oper} {sv v:Value} {y:Operand}
structure Ob (t:TypeId) (L:List Value):Prop where
 sz:(Tryz.prog.info? t).map (·.size)=some L.length
 ag:(∃f,Tryz.prog.underlying t=some (.struct f))∨∃n e,Tryz.prog.underlying t=some (.array n e)
 one:∀v∈L,v.oneCell'=true
 ns:∀v∈L,∀t,v≠.string t
theorem Ob.len(h:Ob t L)(k:Ob t M):M.length=L.length:=Option.some.inj (k.sz.symm.trans h.sz)
theorem J9v{A:Type}{p L q:List A}{v:A}(h:L[j]? = some v):(p++(L++q))[p.length+j]? = some v:=by
 have hj:=(List.getElem?_eq_some_iff.1 h).1;rw [List.getElem?_append_right (Nat.le_add_right _ _),Nat.add_sub_cancel_left,List.getElem?_append_left hj,h]
section
variable {N:Nat} {A:Nat→Prop} {E:World→Prop} {V:List (Nat×List Value)} {ops:Array Oper} {rest:List Oper} {dst:Option Tmp} {x y:Operand} {t:TypeId} {t2:TypeId} {pos:String} {after:Array Edge} {guard:Option (Nat×Bool)} {a:Act} {w:World} {Q:Exit→Act→World→Prop}
theorem ldO(o:Ob t L)(h:Rn.St N A E V w)(i:Nat){G:Prop}(k:G)(hv:V[i]? = some (g,L):=by rfl)(hx:a.eval x=.pointer (some ⟨g,0,none⟩):=by rfl)(hw:Region.wanted ⟨dst,.load t x,t2,pos,after,guard⟩ (yielded ops a.tmps)=true:=by rfl)(m:G→wpList Tryz.prog ops Q rest (a.put dst (.agg L.toArray)) w:=by intro h; (try simp only [Act.put,List.setIfInBounds_toArray,List.set_cons_succ,List.set_cons_zero]); exact h):wpList Tryz.prog ops Q (⟨dst,.load t x,t2,pos,after,guard⟩::rest) a w:=by
 rcases o.ag with ⟨f,hu⟩ | ⟨n,e,hu⟩
 · exact Jb hw t x rfl g 0 hx L.toArray _ hu rfl (by rw [List.size_toArray]; exact o.sz) (Blk.all (h.blk i g _ hv) rfl) (m k)
 · exact Jb hw t x rfl g 0 hx L.toArray _ hu rfl (by rw [List.size_toArray]; exact o.sz) (Blk.all (h.blk i g _ hv) rfl) (m k)
theorem ldP{p q:List Value}(o:Ob t L)(h:Rn.St N A E V w)(i:Nat)(hm:M=p++(L++q)){G:Prop}(k:G)(hc:p.length=c:=by rfl)(hv:V[i]? = some (g,M):=by rfl)(hx:a.eval x=.pointer (some ⟨g,c,none⟩):=by rfl)(hw:Region.wanted ⟨dst,.load t x,t2,pos,after,guard⟩ (yielded ops a.tmps)=true:=by rfl)(m:G→wpList Tryz.prog ops Q rest (a.put dst (.agg L.toArray)) w:=by intro h; (try simp only [Act.put,List.setIfInBounds_toArray,List.set_cons_succ,List.set_cons_zero]); exact h):wpList Tryz.prog ops Q (⟨dst,.load t x,t2,pos,after,guard⟩::rest) a w:=by
 have hA:∀j (hj:j<L.toArray.size),w.cell? ⟨g,c+j,none⟩=some L.toArray[j]:=fun j hj=>by
  subst hm hc;exact (h.blk i g _ hv).cell (J9v (by rw [List.getElem?_eq_getElem (by simpa using hj)]; simp))
 rcases o.ag with ⟨f,hu⟩ | ⟨n,e,hu⟩
 · exact Jb hw t x rfl g c hx L.toArray _ hu rfl (by rw [List.size_toArray]; exact o.sz) hA (m k)
 · exact Jb hw t x rfl g c hx L.toArray _ hu rfl (by rw [List.size_toArray]; exact o.sz) hA (m k)
theorem stO(o:Ob t L)(hl:M.length=L.length)(h:Rn.St N A E V w)(i:Nat){G:World→Prop}(k:∀w',Rn.St N A E (V.set i (g,L)) w'→G w')(hv:V[i]? = some (g,M):=by rfl)(hx:a.eval x=.pointer (some ⟨g,0,none⟩):=by rfl)(hy:a.eval y=.agg L.toArray:=by rfl)(hw:Region.wanted ⟨dst,.store t x y,t2,pos,after,guard⟩ (yielded ops a.tmps)=true:=by rfl)(m:∀w',G w'→wpList Tryz.prog ops Q rest (a.put dst undef) w':=by intro w' h; (try simp only [Act.put,List.setIfInBounds_toArray,List.set_cons_succ,List.set_cons_zero]); exact h):wpList Tryz.prog ops Q (⟨dst,.store t x y,t2,pos,after,guard⟩::rest) a w :=
 Rn.sw (cs:=L.toArray) h i (by simpa using hl) (by rw [List.size_toArray]; exact o.sz) (by simpa using o.one) k hv hx hy hw (hns:=o.ns) (m:=m)
theorem stP{M' p L' q:List Value}(o:Ob t L')(hl:L.length=L'.length)(hq:∀v∈M',∀t,v≠.string t)(h:Rn.St N A E V w)(i:Nat)(hm:M=p++(L++q))(hm':M'=p++(L'++q)){G:World→Prop}(k:∀w',Rn.St N A E (V.set i (g,M')) w'→G w')(hc:p.length=c:=by rfl)(hv:V[i]? = some (g,M):=by rfl)(hx:a.eval x=.pointer (some ⟨g,c,none⟩):=by rfl)(hy:a.eval y=.agg L'.toArray:=by rfl)(hw:Region.wanted ⟨dst,.store t x y,t2,pos,after,guard⟩ (yielded ops a.tmps)=true:=by rfl)(m:∀w',G w'→wpList Tryz.prog ops Q rest (a.put dst undef) w':=by intro w' h; (try simp only [Act.put,List.setIfInBounds_toArray,List.set_cons_succ,List.set_cons_zero]); exact h):wpList Tryz.prog ops Q (⟨dst,.store t x y,t2,pos,after,guard⟩::rest) a w:=by
 subst hm hm' hc;refine Zg (cs:=L'.toArray) (h.blk i g _ hv) (by rw [List.size_toArray]; exact o.sz) (by simp; omega) (by simpa using o.one) hx hy hw fun wX hD hO _=>m _ (k _ (h.put i hv hq ?_ hO));have e:(Js (p++(L++q)) p.length L'.toArray).toList=p++(L'++q):=by
  simp [Js,←hl]
 rw [e] at hD;exact hD
theorem sc{old:Value}(h:Rn.St N A E V w)(i c':Nat)(hs:∀t,v≠.string t){G:World→Prop}(k:∀w',Rn.St N A E (V.set i (g,M.set c' v)) w'→G w')(hc:c=c':=by rfl)(hv:V[i]? = some (g,M):=by rfl)(hl:M[c']? = some old:=by rfl)(hx:a.eval x=.pointer (some ⟨g,c,none⟩):=by rfl)(hw:Region.wanted ⟨dst,.store t x y,t2,pos,after,guard⟩ (yielded ops a.tmps)=true:=by rfl)(r:w.cell? ⟨g,c,none⟩=some old→w.frozen? ⟨g,c,none⟩=false→(execOp a.eval ⟨dst,.store t x y,t2,pos,after,guard⟩).run Tryz.prog w=.ok .skip (w.setCell ⟨g,c,none⟩ v):=by intro hq hf; go_simp)(m:∀w',G w'→wpList Tryz.prog ops Q rest (a.put dst undef) w':=by intro w' h; (try simp only [Act.put,List.setIfInBounds_toArray,List.set_cons_succ,List.set_cons_zero]); exact h):wpList Tryz.prog ops Q (⟨dst,.store t x y,t2,pos,after,guard⟩::rest) a w:=by
 subst hc;have hb:=h.blk i g _ hv;refine Xr _ hw (r (hb.cell hl) (hb.frozen c)) (m _ (k _ (h.put i hv (fun u hu=>?_) (hb.set c v) ((Only.refl (fun k=>k=g) w).setCell (p:=⟨g,c,none⟩) (.inl rfl) v))));rcases List.mem_or_eq_of_mem_set hu with hu | rfl
 · exact h.ns i g M hv u hu
 · exact hs
end
theorem stH{x:Operand}(ob:Ob t L)(hl:M.length=L.length)(hg:Blk w g M)(h:∀wX,Blk wX g L→Only (fun k=>k=g) w wX→K (a.put o.dst undef) wX)(ho:o.op=.store t x y:=by rfl)(hx:a.eval x=.pointer (some ⟨g,0,none⟩):=by rfl)(hy:a.eval y=.agg L.toArray:=by rfl):o.wp Tryz.prog a w K Q :=
 Jw t x y ho g L.toArray hx hy M hg (by simpa using hl) (by rw [List.size_toArray]; exact ob.sz) (by simpa using ob.one) h
theorem XI{fn:Func}{p q:Tmp}{R:Ending→World→Prop}(o:Ob t L)(h:Rn.St N A E V w)(i:Nat)(hv:V[i]? = some (g,L))(hR:R (.returned (.tuple #[.agg L.toArray,v])) w)(hf:fn.results=#[.cell p t,.tmp q]:=by rfl)(hp:a.tmps.getD p undef=.pointer (some ⟨g,0,none⟩):=by rfl)(hq:a.tmps.getD q undef=v:=by rfl)(hd:a.defers=[]:=by rfl):bodyPost Tryz.prog fn R .ret a w:=by
 rcases o.ag with ⟨f,hu⟩ | ⟨n,e,hu⟩
 · exact bodyPost_ret (v:=.tuple #[.agg L.toArray,v]) (results_cell_tmp hf _ _ g 0 _ _ _ hp hq hu rfl (by rw [List.size_toArray]; exact o.sz) (Blk.all (h.blk i g _ hv) rfl)) hd hR
 · exact bodyPost_ret (v:=.tuple #[.agg L.toArray,v]) (results_cell_tmp hf _ _ g 0 _ _ _ hp hq hu rfl (by rw [List.size_toArray]; exact o.sz) (Blk.all (h.blk i g _ hv) rfl)) hd hR
theorem St.own{x:Nat}(h:Blk W x L)(hns:∀v∈L,∀t,v≠.string t):Rn.St 0 (fun k=>k<W.heap.size∧k≠x) (Only (fun k=>k=x) W) [(x,L)] W:=by
 have at0:∀(i g:Nat) (M:List Value),[(x,L)][i]? = some (g,M)→i=0∧g=x∧M=L:=fun i g M e=>by
  cases i with
  | zero=>cases e; exact⟨rfl,rfl,rfl⟩
  | succ i=>simp at e
 refine⟨Nat.zero_le _,fun i g M e=>?_,fun i g M e=>Nat.zero_le _,fun i j g M M' e f=>?_,Only.refl _ _,⟨fun u u' _ he hb=>he.trans (Only.of_below hb),fun g _ ha v v' hv hs ho=>?_,fun u hu k hk=>Nat.lt_of_lt_of_le hk.1 hu.size⟩,fun i g M e=>?_,fun i g M e=>?_⟩
 · obtain⟨-,rfl,rfl⟩:=at0 i g M e;exact h
 · rw [(at0 i g M e).1,(at0 j g M' f).1]
 · by_cases hg:g=x
   · subst hg;exact hv.trans ho
   · exact hv.into ho (by omega)
 · obtain⟨-,rfl,-⟩:=at0 i g M e;exact fun hk=>hk.2 rfl
 · obtain⟨-,-,rfl⟩:=at0 i g M e;exact hns
theorem St.via(h:Rn.St N A E V w)(i:Nat)(hi:V[i]? = some (g,L))(hns:∀v∈M,∀t,v≠.string t)(hD:Blk w' g M)(hO:Only (fun k=>k=g) w w'):Rn.St N A E (V.set i (g,M)) w':=h.put i hi hns hD hO
theorem Stays.ints:Stays N (fun k=>l≠[]∧sv.ownBlock=some k) fun u=>IntsAt u sv l :=
 ⟨fun u u' hn he hb=>he.below hb,fun g hg ha v v' hv hs ho=>by
  obtain⟨a,cap,e,hc⟩:=hv
  refine⟨a,cap,e,fun i x hx=>?_⟩
  obtain⟨b,o,ha',hc'⟩:=hc i x hx
  refine⟨b,o,ha',ho.cell (fun hbg=>ha ⟨fun h0=>by rw [h0] at hx; simp at hx,?_⟩) hc'⟩
  have hbg:b=g:=hbg
  rw [e,ha',hbg]
  rfl,fun u hu k ⟨h0,hk⟩=>by
  obtain⟨a,cap,e,hc⟩:=hu
  cases l with
  | nil=>exact absurd rfl h0
  | cons x r =>
   obtain⟨b,o,ha',hc'⟩:=hc 0 x rfl
   rw [e,ha'] at hk
   cases hk
   exact block_lt_of_cell hc'⟩
theorem kS(l:List Int):∀v∈u8s l,v.oneCell'=true:=by simpa using Ji l
theorem Q5(h:l.length=32):Ob 43 (u8s l):=⟨by rw [List.length_map,h]; kernel_rfl,.inr ⟨_,_,Tryz.underlying43⟩,kS l,u8s_noStr l⟩
theorem kT(h:l.length=64):Ob 36 (u8s l):=⟨by rw [List.length_map,h]; kernel_rfl,.inr ⟨_,_,Tryz.underlying36⟩,kS l,u8s_noStr l⟩
def IsSl(v:Value):Prop:=∃a n c,v=.slice a n c
theorem IsSl.one(h:IsSl v):v.oneCell'=true:=by obtain⟨a,n,c,rfl⟩:=h; rfl
theorem IsSl.ns(h:IsSl v):∀t,v≠.string t:=by obtain⟨a,n,c,rfl⟩:=h; exact fun t e=>by cases e
theorem OwnN.sl(h:OwnN w B sv l):IsSl sv:=by obtain⟨a,c,e,-⟩:=h.ints; exact⟨_,_,_,e⟩
theorem IntsAt.sl(h:IntsAt w sv l):IsSl sv:=by obtain⟨a,c,e,-⟩:=h; exact⟨_,_,_,e⟩
theorem Jl:IsSl (.slice none 0 0):=⟨_,_,_,rfl⟩
def chC(sv:Value)(l:List Int):List Value:=sv::u8s l
theorem K6(h:IsSl sv)(hl:l.length=32):Ob 45 (chC sv l):=⟨by rw [chC,List.length_cons,List.length_map,hl]; kernel_rfl,.inl ⟨_,Tryz.underlying45⟩,fun v hv=>by
 rcases List.mem_cons.1 hv with rfl | hv
 · exact h.one
 · exact kS l v hv,fun v hv=>by
 rcases List.mem_cons.1 hv with rfl | hv
 · exact h.ns
 · exact u8s_noStr l v hv⟩
theorem kU(sv:Value)(l:List Int):chC sv l=[sv]++(u8s l++[]):=by simp [chC]
def chZ:List Value:=chC (.slice none 0 0) (zeros 32)
theorem chz_ob:Ob 45 chZ:=K6 Jl rfl
theorem Kx:(Tryz.prog.info? 45).bind (·.zero)=some (.agg chZ.toArray):=by kernel_rfl
theorem X3(w:World):(Instr.build 45 #[]).run Tryz.prog w=.ok (.agg chZ.toArray) w:=run_build (P:=Tryz.prog) w 45 _ _ (by kernel_rfl)
theorem Jm{b:Bk}(h:b.Wf)(hs:IsSl sv):Ob 82 (b.cells sv):=⟨by rw [Bk.cells_length h]; kernel_rfl,.inl ⟨_,Tryz.underlying82⟩,by simpa [Bk.arr] using Bk.arr_one hs.one,fun v hv t e=>by
 subst e
 simp only [Bk.cells,List.mem_cons,List.mem_append,List.mem_map] at hv
 rcases hv with h | h | ⟨z,_,h⟩ | h | h | h | ⟨z,_,h⟩ <;> first | exact hs.ns t h.symm | cases h⟩
theorem Jh(g:Pl.Gm):Ob 23 [.int .i64 g.p,.int .i64 g.s,.int .i64 g.l,.int .i64 g.f]:=⟨by kernel_rfl,.inl ⟨_,Tryz.underlying23⟩,fun v hv=>by simp at hv; rcases hv with rfl | rfl | rfl | rfl <;> rfl,fun v hv t e=>by subst e; simp at hv⟩
theorem Kn(o:Ob t L){u:World}(h:Blk u g L)(ev:Operand→Value)(op:Oper)(x:Operand)(ho:op.op=.load t x)(hx:ev x=.pointer (some ⟨g,0,none⟩)):(execOp ev op).run Tryz.prog u=.ok (.value (.agg L.toArray)) u:=by
 rcases o.ag with ⟨f,hu⟩ | ⟨n,e,hu⟩
 · exact exec_load_at u ev op t x ho g 0 hx L.toArray _ hu rfl (by rw [List.size_toArray]; exact o.sz) (Blk.all h rfl)
 · exact exec_load_at u ev op t x ho g 0 hx L.toArray _ hu rfl (by rw [List.size_toArray]; exact o.sz) (Blk.all h rfl)
theorem new_err(n:Int)(hn:(n == 0)=false)(s:ByteArray)(w:World):Calls Tryz.prog 56 #[.int .i64 n,.string s] w fun e w'=>∃T d t ts,e=.returned (.iface T d)∧Chain w' n (t::ts) (.iface T d)∧Below w.heap.size w w' :=
 (QC n hn s w).mono fun e w' ⟨v,h1,⟨T,d,t,ts,h2,h3⟩,h4⟩=>⟨T,d,t,ts,by rw [h1,h2],h3,h4⟩
theorem wrap_err{n:Int}{d:Value}{t:ByteArray}{ts:List ByteArray}(s:ByteArray)(w:World)(h:Chain w n (t::ts) (.iface T d)):Calls Tryz.prog 59 #[.iface T d,.string s] w fun e w'=>∃T d t ts,e=.returned (.iface T d)∧Chain w' n (t::ts) (.iface T d)∧Below w.heap.size w w' :=
 (Xd n (.iface T d) s w ⟨T,d,t,ts,rfl,h⟩).mono fun e w' ⟨v,h1,⟨T,d,t,ts,h2,h3⟩,h4⟩=>⟨T,d,t,ts,by rw [h1,h2],h3,h4⟩
def jd(n:Int)(L:List Value)(e:Ending)(w':World):Prop:=∃T d t ts,e=.returned (.tuple #[.agg L.toArray,.iface T d])∧Chain w' n (t::ts) (.iface T d)
theorem Bytes.sl(h:BytesAt w sv l):IsSl sv:=by obtain⟨a,c,e,-⟩:=h; exact⟨_,_,_,e⟩
theorem Y7{y:List Int}(h:Sc y):(Qc y).Wf:=by
 unfold Qc;split
 · exact readOf_wf h
 · exact none_wf
theorem Fresh.up(h:Fresh B sv)(hn:N≤B):Fresh N sv:=fun b o n c e=>Nat.le_trans hn (h b o n c e)
theorem Q0(n:Int)(h0:-9223372036854775808≤n)(h1:n≤9223372036854775807)(w:World)(hv:Vars w):Calls Tryz.prog 60 #[.int .i64 n] w fun e w'=>∃s:ByteArray,e=.returned (.string s)∧s.size≤100∧Below w.heap.size w w':=by
 refine (Tryz.strconv_Itoa n h0 h1 w hv.2.1).mono ?_;rintro e w' ⟨rfl,q,os,rfl⟩;refine⟨_,rfl,?_,kq w q os⟩;have:=Lib.itoa_length_le n (by omega) (by omega);simp only [ByteArray.size,List.size_toArray];omega
open Go.RowKit Rn
variable {F:Nat→Prop} {W0:World} {X:List (List Int)} {b:Nat} {p:Int} {sv:Value}
def Jh1(B:Nat)(q:Option Bk)(e:Ending)(w':World):Prop:=match q with
 | some b=>∃sv,e=.returned (.tuple #[.agg (b.cells sv).toArray,.nilIface])∧b.Wf∧BytesAt w' sv b.bytes∧Fresh B sv
 | none=>jd 13 (Bk.none.cells (.slice none 0 0)) e w'
theorem J9w{g:Pl.Gm}(h:¬((4≤p∧p≤4+g.s*g.l-1)∧JP (X.getD p.toNat [])=true)):bAt X g p=none:=if_neg h
theorem Jdb{g:Pl.Gm}(h:(4≤p∧p≤4+g.s*g.l-1)∧JP (X.getD p.toNat [])=true):bAt X g p=some (Qc (X.getD p.toNat [])):=if_pos h
theorem zu{g:Pl.Gm}(hg:g.Ok)(p:Int)(hp0:-9223372036854775808≤p)(hp1:p≤9223372036854775807)(w:World)(hv:Vars w){d:De.D}(h:De.Dv W0 w b F d)(hLn:d.L.length≤1000000)(hX:Img d X)(ht:4+g.s*g.l≤(X.length:Int)):Calls Tryz.prog 89 #[.pointer (some ⟨b,0,none⟩),g.v,.int .i64 p] w fun e w'=>Jh1 w.heap.size (bAt X g p) e w'∧Below w.heap.size w w':=by
 have H:=Rn.St.start (Stays.below w) (Below.refl _ _);have HV:=Zh hv;have HD:=Zh h;have HLN:=Zh hLn;have HGO:=Zh hg;have HP0:=Zh hp0;have HP1:=Zh hp1;have HBK:Hid (4≤p∧p≤4+g.s*g.l-1→∃y,X.getD p.toNat []=y∧d.read p=(u8s y).toArray∧Sc y):=Zh fun hp=>by
  have hl:p.toNat<X.length:=by omega
  have:=(hX.read (i:=p.toNat) (y:=X[p.toNat]) (List.getElem?_eq_getElem hl)).1;rw [Int.toNat_of_nonneg (by omega)] at this;exact⟨_,by rw [List.getD_eq_getElem?_getD,List.getElem?_eq_getElem hl]; rfl,this,hX.sc _ (List.getElem_mem hl)⟩
 clear hg h hLn hX ht hv hp0 hp1;go_enter Tryz.func89,Tryz.ntmps89;go_upto_region 0 with fail;refine Zl ?_;refine bx H ?_ (hns:=(Jh g).ns);clear H;intro g1 w1 H;refine al Fo.zero82b H ?_ (hns:=(Jm none_wf Jl).ns);clear H;intro g2 w2 H;refine tk (Value.nilIface) ?_;refine Zn ?_
 by_cases hp:4≤p∧p≤4+g.s*g.l-1
 · obtain⟨y,hy,hr,hs⟩:=HBK.out hp;have HP:=Zh hp;have HR:=Zh hr;have HSC:=Zh hs;have HY:=Zh hy;clear hp hy hr hs HBK;go_upto_region 1 with fail;refine Zl ?_;refine ldO (Jh g) H 0 ?_;refine tk (.int .i64 p) ?_;refine cl (Rn.of_in g HGO.out p HP.out _) H ?_;clear H;intro w3 H;refine tk (.tuple #[.int .i64 ((p-4)/g.l),.int .i64 ((p-4)%g.l),.bool true]) ?_;refine tk (.int .i64 ((p-4)/g.l)) ?_;refine tk (.int .i64 ((p-4)%g.l)) ?_;refine tk (.bool true) ?_;refine tk (.int .i64 ((p-4)/g.l)) ?_;refine tk (.int .i64 ((p-4)%g.l)) ?_;refine tk (.bool true) ?_;go_upto_region 2 with fail;refine Zl ?_;refine tk (.bool true) ?_;refine tk (.bool false) ?_;go_upto_region 4 with fail;refine Zl ?_;refine tk (.pointer (some ⟨b,0,none⟩)) ?_;refine tk (.int .i64 p) ?_;refine cl (by have:=De.jP (HD.below H.ex) HLN.out p; rw [HR.out] at this; exact this) H ?_;clear H;intro w4 H;refine tk (.tuple #[.agg (u8s y).toArray,.int .i64 (d.readE p)]) ?_;refine tk (.agg (u8s y).toArray) ?_;refine tk (.int .i64 (d.readE p)) ?_;refine al Ka H ?_ (hns:=(kT (J1 64)).ns);clear H;intro g5 w5 H;refine stO (kT HSC.length) (Ob.len (kT HSC.length) (kT (J1 64))) H 2 ?_;clear H;intro w5 H;refine tk (.int .i64 (d.readE p)) ?_;go_upto_region 5 with fail;refine Zl ?_;refine ldO (kT HSC.length) H 2 ?_;refine J0 rfl fun K hK=>?_;go_simp;refine (kk y HSC.out _).mono ?_;rintro e w6 ⟨sv,rfl,hy,hb,hf⟩;have HFR:=Zh (Fresh.up hf H.sz);have HSO:=Zh (Bytes.sl hy);replace H:=H.slice hb hy hf;clear hy hb hf;refine hK _ _ (nm ?_);clear hK K;refine tk (.tuple #[.agg ((Qc y).arr sv),.int .u32 (Zu y),.int .i64 (Yc y)]) ?_;refine tk (.agg ((Qc y).arr sv)) ?_;refine tk (.int .u32 (Zu y)) ?_;refine tk (.int .i64 (Yc y)) ?_;refine al Fo.zero82b H ?_ (hns:=(Jm none_wf Jl).ns);clear H;intro g7 w7 H;refine stO (Jm (Y7 HSC.out) HSO.out) (Ob.len (Jm (Y7 HSC.out) HSO.out) (Jm none_wf Jl)) H 3 ?_;clear H;intro w7 H;refine tk (.int .u32 (Zu y)) ?_;refine tk (.int .i64 (Yc y)) ?_;refine Zn ?_;cases hb:JP y
   · have HE:Hid (Yc y=11):=Zh (J2g hb).2.2;have HB:=Zh hb;clear hb;go_upto_region 6 with fail;refine Zl ?_;refine tk (.int .i64 (Yc y)) ?_;refine tk (.bool true) ?_ (hr:=by go_simp; simp [HE.out]);go_upto_region 7 with fail;refine Zl ?_;refine Je (jM _) rfl ?_;refine nm ?_;refine tk (.int .i64 p) ?_;refine J0 rfl fun K hK=>?_;go_simp;refine (Q0 p HP0.out HP1.out _ (HV.below (Nat.le_refl _) H.ex.1)).mono ?_;rintro e w8 ⟨sI,rfl,hsI,hb⟩;replace H:=H.call hb;clear hb;refine hK _ _ (nm ?_);clear hK K;refine tk (.string (⟨#[110,111,32,98,108,111,99,107,58,32,115,101,99,116,111,114,32]⟩++sI)) ?_ (hr:=by go_simp; omega);refine J0 rfl fun K hK=>?_;go_simp;refine (new_err 13 rfl _ _).mono ?_;rintro e w9 ⟨T9,d9,t9,s9,rfl,hc,hb⟩;replace H:=(H.call hb).chain hc;clear hc hb;refine hK _ _ (nm ?_);clear hK K;refine stO (Jm none_wf Jl) (Ob.len (Jm none_wf Jl) (Jm none_wf Jl)) H 1 ?_;clear H;intro w9 H;refine tk (.iface T9 d9) ?_;go_wp2_with fail
     refine XI (Jm none_wf Jl) H 1 rfl ⟨?_,H.ex.1.1⟩;rw [J9w (fun h=>by rw [HY.out,HB.out] at h; exact absurd h.2 (by decide))];exact⟨_,_,_,_,rfl,H.ex.2⟩
   · have HE:Hid (Yc y=0):=Zh (kn hb).2.2;have HB:=Zh hb;clear hb;go_upto_region 6 with fail;refine Zl ?_;refine tk (.int .i64 (Yc y)) ?_;refine tk (.bool false) ?_ (hr:=by go_simp; simp [HE.out]);go_upto_region 8 with fail;refine Zl ?_;refine ldO (Jm (Y7 HSC.out) HSO.out) H 3 ?_;refine stO (Jm (Y7 HSC.out) HSO.out) (Ob.len (Jm (Y7 HSC.out) HSO.out) (Jm none_wf Jl)) H 1 ?_;clear H;intro w7 H;refine tk (Value.nilIface) ?_;go_wp2_with fail
     refine XI (Jm (Y7 HSC.out) HSO.out) H 1 rfl ⟨?_,H.ex.1⟩;rw [Jdb ⟨HP.out,by rw [HY.out]; exact HB.out⟩,HY.out];exact⟨sv,rfl,Y7 HSC.out,H.ex.2,HFR.out⟩
 · have HP:=Zh hp;clear hp HBK;go_upto_region 1 with fail;refine Zl ?_;refine ldO (Jh g) H 0 ?_;refine tk (.int .i64 p) ?_;refine cl (Rn.of_out g HGO.out p HP.out _) H ?_;clear H;intro w3 H;refine tk (.tuple #[.int .i64 0,.int .i64 0,.bool false]) ?_;refine tk (.int .i64 0) ?_;refine tk (.int .i64 0) ?_;refine tk (.bool false) ?_;refine tk (.int .i64 0) ?_;refine tk (.int .i64 0) ?_;refine tk (.bool false) ?_;go_upto_region 2 with fail;refine Zl ?_;refine tk (.bool false) ?_;refine tk (.bool true) ?_;go_upto_region 3 with fail;refine Zl ?_;refine Je (jM _) rfl ?_;refine nm ?_;refine tk (.int .i64 p) ?_;refine J0 rfl fun K hK=>?_;go_simp;refine (Q0 p HP0.out HP1.out _ (HV.below (Nat.le_refl _) H.ex)).mono ?_;rintro e w4 ⟨sI,rfl,hsI,hb⟩;replace H:=H.call hb;clear hb;refine hK _ _ (nm ?_);clear hK K;refine tk (.string (⟨#[105,110,32,110,111,32,115,101,103,109,101,110,116,58,32,115,101,99,116,111,114,32]⟩++sI)) ?_ (hr:=by go_simp; omega);refine J0 rfl fun K hK=>?_;go_simp;refine (new_err 13 rfl _ _).mono ?_;rintro e w5 ⟨T5,d5,t5,s5,rfl,hc,hb⟩;replace H:=(H.call hb).chain hc;clear hc hb;refine hK _ _ (nm ?_);clear hK K;refine stO (Jm none_wf Jl) (Ob.len (Jm none_wf Jl) (Jm none_wf Jl)) H 1 ?_;clear H;intro w5 H;refine tk (.iface T5 d5) ?_;go_wp2_with fail
   refine XI (Jm none_wf Jl) H 1 rfl ⟨?_,H.ex.1⟩;rw [J9w (fun h=>by exact HP.out h.1)];exact⟨_,_,_,_,rfl,H.ex.2⟩
theorem Q1{b:Bk}(hb:b.Wf)(hs:IsSl sv)(w:World):Calls Tryz.prog 90 #[.agg (b.cells sv).toArray] w (Zr w (.int .i64 (QW b))):=by
 have H:=Rn.St.start (Stays.below w) (Below.refl _ _);have HW:=Zh hb;have HSO:=Zh hs;have H36:Hid ((b.cells sv)[36]? = some (.int .i64 b.prev)):=Zh (Bk.at36 hb sv);clear hb hs;go_enter Tryz.func90,Tryz.ntmps90;go_upto_region 0 with fail;refine Zl ?_;refine bx H ?_ (hns:=(Jm HW.out HSO.out).ns);clear H;intro g1 w1 H;refine tk (.int .i64 0) ?_;refine Zn ?_
 by_cases hk:b.kind=1
 · have HK:=Zh hk;clear hk;go_upto_region 1 with fail;refine Zl ?_;refine tk (.pointer (some ⟨g1,0,none⟩)) ?_;refine lc H 0 (0) ?_;refine tk (.bool true) ?_ (hr:=by go_simp; simp [HK.out]);go_upto_region 2 with fail;refine Zl ?_;refine tk (.int .i64 1) ?_;go_wp2_with fail
   go_ret;exact⟨by unfold QW; rw [if_pos HK.out]; rfl,H.ex⟩
 · have HK:=Zh hk;clear hk;go_upto_region 1 with fail;refine Zl ?_;refine tk (.pointer (some ⟨g1,0,none⟩)) ?_;refine lc H 0 (0) ?_;refine tk (.bool false) ?_ (hr:=by go_simp; simp [HK.out]);go_upto_region 3 with fail;refine Zl ?_;refine tk (.pointer (some ⟨g1,36,none⟩)) ?_;refine lc H 0 (36) ?_ (hl:=H36.out);refine tk (.int .i64 b.prev) ?_;go_wp2_with fail
   go_ret;exact⟨by unfold QW; rw [if_neg HK.out]; rfl,H.ex⟩
open Go.RowKit Rn
variable {B c g i j:Nat} {l:List Int} {sv tv:Value} {w w':World}
theorem zv(h:Below w.heap.size w w'):w.grownBy w' none:=⟨h.os,h.tape,h.output,h.size,fun k hk _=>h.block k hk⟩
theorem Y8(h:Only (fun k=>k=g) w w'):w.grownBy w' (some g):=⟨h.os,h.tape,h.output,h.size,fun k hk hne=>h.block k hk fun e=>hne (by rw [e])⟩
def Apr(row:Option Nat)(sv:Value):Prop:=∀k,sv.ownBlock=some k→row≠some k
theorem Apr.none(sv:Value):Apr Option.none sv:=fun k _ e=>by cases e
theorem OwnN.grow{row:Option Nat}(h:OwnN w B sv l)(hg:w.grownBy w' row)(hn:Apr row sv):OwnN w' B sv l:=by
 refine⟨h.1,?_⟩;rcases h.2 with hz | ⟨g,cap,cur,e,hB,hgg,r⟩
 · exact .inl hz
 · exact .inr ⟨g,cap,cur,e,hB,(hg.block g (Array.getElem?_eq_some_iff.1 hgg).1 fun e2=>hn g (by rw [e]; rfl) e2.symm).trans hgg,r⟩
theorem BytesAt.grow{row:Option Nat}(h:BytesAt w sv l)(hg:w.grownBy w' row)(hn:l≠[]→Apr row sv):BytesAt w' sv l:=by
 obtain⟨a,cap,e,hc⟩:=h;refine⟨a,cap,e,fun i x hx=>?_⟩;obtain⟨b,o,ha',hx2⟩:=hc i x hx;refine⟨b,o,ha',?_⟩;rw [←hx2];refine World.cell?_of_block (hg.block b (block_lt_of_cell hx2) fun e2=>hn (fun h0=>by rw [h0] at hx; simp at hx) b (by rw [e,ha']; rfl) e2.symm)
theorem J33{m:List Int}(h:OwnN w B sv l)(hB:B≤w.heap.size)(k:IntsAt w tv m)(hlen:l.length+m.length≤1000000)(ty:TypeId) :
 ∃sv' w',(Builtin.append_ #[41,41] ty #[sv,tv]).run Tryz.prog w=.ok sv' w'∧OwnN w' B sv' (l++m)∧w.grownBy w' sv.ownBlock∧(sv'.ownBlock=sv.ownBlock∨sv'.ownBlock=some w.heap.size):=by
 obtain⟨i,hi,hz,hs,hby⟩:=J3j;cases m with
 | nil =>
  have hsl:∃a c,sv=.slice a l.length c∧l.length≤c:=by
   rcases h.2 with ⟨e,h0⟩ | ⟨g,cap,cur,e,_,_,hn,_⟩
   · exact⟨none,0,by rw [e,h0],by omega⟩
   · exact⟨_,cap,e,hn⟩
  obtain⟨a,c,rfl,hle⟩:=hsl;obtain⟨ta,tc,rfl,_⟩:=k;refine⟨_,w,run_append_nothing w 41 41 ty 3 i Tryz.underlying41 hi a l.length c hle _ ⟨.inl ⟨3,Tryz.underlying41⟩,fun _=>by rfl,?_,?_,by simp,fun u hu=>by cases hu⟩,by rw [List.append_nil]; exact h,⟨rfl,rfl,rfl,Nat.le_refl _,fun _ _ _=>rfl⟩,.inl rfl⟩
  · cases ta <;> simp [Builtin.firstCells,hs,loadCells,loadCellsFrom]
  · cases ta <;> simp [Builtin.firstCells,hs,loadCells,loadCellsFrom]
 | cons x m =>
  obtain⟨b,o,c,rfl,hc⟩:=k.has (by simp);obtain⟨v',w',hr,h2,h3,_,h5⟩:=run_append_own_at (P:=Tryz.prog) (w:=w) B 41 ty 3 i (.int .i64 0) 1 8 Tryz.underlying41 hi hz hs hby rfl (by decide) sv l.length (Jq l) h ⟨b,o,none⟩ (x::m).length c (Jq (x::m)) (by simp) (fun j u hu=>by
   rw [List.getElem?_map] at hu
   cases hz:(x::m)[j]? with
   | none=>simp [hz] at hu
   | some z =>
    simp [hz] at hu
    subst hu
    rw [show (⟨b,o,none⟩:Addr).add j=⟨b,o+j,none⟩ by unfold Addr.add; split <;> simp_all]
    exact hc j z hz) (fun u hu=>by obtain⟨z,_,rfl⟩:=List.mem_map.1 hu; rfl) (by simp only [maxLen]; omega) (by omega) hB
  refine⟨v',w',hr,?_,h3,h5⟩;unfold OwnN;rw [List.length_append,show Jq (l++x::m)=Jq l++Jq (x::m) by simp];exact h2
theorem zw{l:List (Bk×Value)}(h:∀x∈l,x.1.Wf)(hj:j<45):(Fo.QP l)[i*45+j]? = (l[i]?).bind fun x=>(x.1.cells x.2)[j]? := by
 induction l generalizing i with
 | nil=>simp [Fo.QP]
 | cons x r ih =>
  have hl:=x.1.cells_length (h x (by simp)) x.2;have ih:=fun {i}=>ih (i:=i) fun y hy=>h y (List.mem_cons_of_mem _ hy);simp only [Fo.QP,List.flatMap_cons] at ih ⊢;cases i with
  | zero =>
   rw [Nat.zero_mul,Nat.zero_add,List.getElem?_append_left (by omega)];rfl
  | succ i =>
   rw [List.getElem?_append_right (by omega),hl,show (i+1)*45+j-45=i*45+j by omega,ih];rfl
theorem info82a:(Tryz.prog.info? 82).map (fun i=>(i.size,i.bytes))=some (45,152):=by kernel_rfl
theorem inf82:∃i,Tryz.prog.info? 82=some i∧i.zero=some (.agg (Bk.none.arr (.slice none 0 0)))∧i.size=45∧i.bytes=152:=by
 have h1:=info82a;have h2:=Fo.zero82b;cases hq:Tryz.prog.info? 82 with
 | none=>simp [hq] at h1
 | some i=>simp [hq] at h1 h2; exact⟨i,rfl,h2,h1⟩
theorem J9x(w:World)(b:Bk)(bv:Value)(hb:b.Wf):(Instr.buildSlice 95 1 #[(0,.agg (b.cells bv).toArray)]).run Tryz.prog w=.ok (.slice (some ⟨w.heap.size,0,none⟩) 1 1) (w.alloc (.cells (b.cells bv).toArray 82)):=by
 obtain⟨i,hi,hz,hs,-⟩:=inf82;have hl:(b.cells bv).toArray.size=45:=by rw [List.size_toArray]; exact b.cells_length hb bv
 exact De.Xg w 95 82 i _ _ Tryz.underlying95 hi hz (by omega) (by omega) (by omega)
theorem J9y(w:World)(v:Int):(Instr.buildSlice 41 1 #[(0,.int .i64 v)]).run Tryz.prog w=.ok (.slice (some ⟨w.heap.size,0,none⟩) 1 1) (w.alloc (.cells #[.int .i64 v] 3)):=by
 obtain⟨i,hi,hz,hs,-⟩:=J3j;refine Go.run_buildSlice (P:=Tryz.prog) w 41 3 1 _ #[.int .i64 v] i _ Tryz.underlying41 hi hz (by rw [hs]; omega) (by rw [hs]; omega) ?_;rw [hs]
 first | kernel_rfl | simp [Instr.fill,Value.cells]
structure BkR (w:World) (B:Nat) (sv:Value) (l:List (Bk×Value)):Prop where
 row:w.ownsRow B 82 45 sv l.length (Fo.QP l)
 all:∀x∈l,x.1.Wf∧IsSl x.2∧BytesAt w x.2 x.1.bytes∧(x.1.bytes≠[]→Apr sv.ownBlock x.2)
theorem BkR.nil(w:World)(B:Nat):BkR w B (.slice none 0 0) []:=⟨World.ownsRow_nil w B 82 45,fun x hx=>by cases hx⟩
theorem BkR.lt{l:List (Bk×Value)}(h:BkR w B sv l):∀k,sv.ownBlock=some k→B≤k∧k<w.heap.size:=World.ownsRow.lt h.row
theorem BkR.grow{l:List (Bk×Value)}{row:Option Nat}(h:BkR w B sv l)(hg:w.grownBy w' row)(hn:Apr row sv)(hx:∀x∈l,x.1.bytes≠[]→Apr row x.2):BkR w' B sv l:=by
 refine⟨⟨h.row.1,?_⟩,fun x hm=>?_⟩
 · rcases h.row.2 with hz | ⟨g,cap,cur,e,hB,hgg,r⟩
   · exact .inl hz
   · exact .inr ⟨g,cap,cur,e,hB,(hg.block g (Array.getElem?_eq_some_iff.1 hgg).1 fun e2=>hn g (by rw [e]; rfl) e2.symm).trans hgg,r⟩
 · obtain⟨h1,h2,h3,h4⟩:=h.all x hm;exact⟨h1,h2,BytesAt.grow h3 hg (hx x hm),h4⟩
theorem BkR.blks{l:List (Bk×Value)}(h:BkR w B sv l):Fo.BlksAt w sv l:=by
 have hr:=h.row;rcases hr.2 with ⟨rfl,h0⟩ | ⟨g,cap,cur,rfl,hb,hg,hn,hm,hs,ht⟩
 · have:l=[]:=List.eq_nil_of_length_eq_zero h0;subst this;exact Fo.BlksAt.nil _ _ _
 · refine⟨_,cap,rfl,fun i x hx=>?_⟩;obtain⟨h1,-,h2,-⟩:=h.all x (List.mem_of_getElem? hx);refine⟨h1,h2,g,0,rfl,fun j hj=>?_⟩;have hi:=(List.getElem?_eq_some_iff.1 hx).1;rw [Bk.arr_size h1] at hj;rw [Nat.zero_add,World.ownsRow.cellAt hr (i*45+j) (by omega),zw (fun y hy=>(h.all y hy).1) hj,hx];show (x.1.cells x.2)[j]? = _;rw [List.getElem?_eq_getElem (by rw [Bk.cells_length h1]; exact hj)];rfl
theorem Jdc{q:Nat}{bv:Value}{l:List (Bk×Value)}{b:Bk}(h:BkR w B sv l)(hB:B≤w.heap.size)(hb:b.Wf)(hs:IsSl bv)(hq:Blk w q (b.cells bv))(hy:BytesAt w bv b.bytes)(hn:b.bytes≠[]→Apr sv.ownBlock bv)(hlen:l.length≤100)(ty:TypeId) :
 ∃sv' w',(Builtin.append_ #[95,95] ty #[sv,.slice (some ⟨q,0,none⟩) 1 c]).run Tryz.prog w=.ok sv' w'∧BkR w' B sv' (l++[(b,bv)])∧w.grownBy w' sv.ownBlock∧(sv'.ownBlock=sv.ownBlock∨sv'.ownBlock=some w.heap.size):=by
 obtain⟨i,hi,hz,hs2,hby⟩:=inf82;have hl:=b.cells_length hb bv;obtain⟨v',w',hr,h2,h3,_,h5⟩:=run_append_own_at (P:=Tryz.prog) (w:=w) B 95 ty 82 i (.agg (Bk.none.arr (.slice none 0 0))) 45 152 Tryz.underlying95 hi hz hs2 hby (Bk.arr_size none_wf _) (by decide) sv l.length (Fo.QP l) h.row ⟨q,0,none⟩ 1 c (b.cells bv) (by omega) (fun j u hu=>by
  rw [show (⟨q,0,none⟩:Addr).add j=⟨q,j,none⟩ by unfold Addr.add; split <;> simp_all]
  exact hq.cell hu) (fun v hv=>Bk.arr_one hs.one v (by simpa [Bk.arr] using hv)) (by simp only [maxLen]; omega) (by omega) hB
 have hap:∀(x:Bk×Value),BytesAt w x.2 x.1.bytes→(x.1.bytes≠[]→Apr sv.ownBlock x.2)→(x.1.bytes≠[]→Apr v'.ownBlock x.2):=fun x hx k h0=>by
  rcases h5 with e | e
  · rw [e];exact k h0
  · rw [e];intro n hn2 e2;cases e2;obtain⟨b0,o0,c0,e3,-⟩:=hx.has (List.length_pos_iff.2 h0);rw [e3] at hn2;have:=hx.lt (List.length_pos_iff.2 h0) e3;cases hn2;exact absurd this (Nat.lt_irrefl _)
 refine⟨v',w',hr,⟨?_,fun x hm=>?_⟩,h3,h5⟩
 · rw [List.length_append,List.length_singleton,show Fo.QP (l++[(b,bv)])=Fo.QP l++b.cells bv by simp [Fo.QP]];exact h2
 · rcases List.mem_append.1 hm with hm | hm
   · obtain⟨q1,q2,q3,q4⟩:=h.all x hm;exact⟨q1,q2,BytesAt.grow q3 h3 q4,hap x q3 q4⟩
   · obtain rfl:=List.mem_singleton.1 hm;exact⟨hb,hs,BytesAt.grow hy h3 hn,hap (b,bv) hy hn⟩
theorem zx{C:Nat}{m:List (Bk×Value)}(h:OwnN w B sv l)(k:BkR w C tv m):Apr sv.ownBlock tv∧Apr tv.ownBlock sv:=by
 have h1:=QY h;have h2:=QY k.row;have hne:∀i,sv.ownBlock=some i→tv.ownBlock=some i→False:=fun i a b=>by
  obtain⟨c1,f1,e1⟩:=h1 i a;obtain⟨c2,f2,e2⟩:=h2 i b;rw [e1] at e2;cases e2
 exact⟨fun i a b=>hne i b a,fun i a b=>hne i a b⟩
section
variable {P:Program} {o:Oper} {a:Act} {w:World} {K:Act→World→Prop} {Q:Exit→Act→World→Prop}
theorem J1s(x:Operand)(v:Int)(d:Tmp)(hd:o.dst=some d)(ho:o.op=.buildSlice 41 1 #[(0,x)])(hx:a.eval x=.int .i64 v)(hh:∀g w',w.heap.size=g→Blk w' g [.int .i64 v]→Below w.heap.size w w'→g<w'.heap.size→K (a.put (some d) (.slice (some ⟨g,0,none⟩) 1 1)) w'):o.wp Tryz.prog a w K Q:=by
 have hr:(Instr.buildSlice 41 1 #[(0,.int .i64 v)]).run Tryz.prog w=.ok (.slice (some ⟨w.heap.size,0,none⟩) 1 1) (w.alloc (.cells #[.int .i64 v] 3)):=J9y w v;exact Jg (some d) hd _ _ (JZ _ _ a.eval _ 41 1 _ ho #[(0,.int .i64 v)] (by simp [hx]) _ hr) (hh _ _ rfl (Blk.new w _ _) ((Below.refl _ _).alloc (Nat.le_refl _) _) (by simp))
theorem J1t{b:Bk}{bv:Value}(hb:b.Wf)(x:Operand)(d:Tmp)(hd:o.dst=some d)(ho:o.op=.buildSlice 95 1 #[(0,x)])(hx:a.eval x=.agg (b.cells bv).toArray)(hh:∀g w',w.heap.size=g→Blk w' g (b.cells bv)→Below w.heap.size w w'→g<w'.heap.size→K (a.put (some d) (.slice (some ⟨g,0,none⟩) 1 1)) w'):o.wp Tryz.prog a w K Q :=
 Jg (some d) hd _ _ (JZ _ _ a.eval _ 95 1 _ ho #[(0,.agg (b.cells bv).toArray)] (by simp [hx]) _ (J9x w b bv hb)) (hh _ _ rfl (Blk.new w _ _) ((Below.refl _ _).alloc (Nat.le_refl _) _) (by simp))
end
open Go.RowKit Rn
variable {A:Nat→Prop} {B N c g k:Nat} {E:World→Prop} {K:Act→World→Prop} {L:List Value} {P:Program} {Q:Exit→Act→World→Prop} {V:List (Nat×List Value)} {W w w':World} {a:Act} {l:List Int} {o:Oper} {sv:Value}
theorem YS{c a b:Prop}[Decidable c](h:c)(k:a):if c then a else b:=by rw [if_pos h]; exact k
theorem KN(dst:Option Tmp)(hd:o.dst=dst)(w':World)(hr:(execOp a.eval o).run P w=.ok .skip w')(h:K (a.put dst undef) w'):o.wp P a w K Q:=by
 subst hd;unfold Oper.wp;rw [hr];exact h
def RwA(pv bv:Value)(lb:List (Bk×Value))(k:Nat):Prop:=pv.ownBlock=some k∨bv.ownBlock=some k∨∃x∈lb,x.1.bytes≠[]∧x.2.ownBlock=some k
theorem qS(h:BytesAt w sv l)(h0:l≠[])(hk:sv.ownBlock=some k):k<w.heap.size:=by
 obtain⟨b,o,c,e,-⟩:=h.has (List.length_pos_iff.2 h0);have:=h.lt (List.length_pos_iff.2 h0) e;rw [e] at hk;cases hk;exact this
theorem Stays.rows{pv bv:Value}{ps:List Int}{lb:List (Bk×Value)}:Stays N (RwA pv bv lb) fun u=>OwnN u B pv ps∧BkR u B bv lb:=by
 refine⟨fun u u' _ he hb=>⟨he.1.below hb,he.2.grow (zv hb) (Apr.none _) fun x _ _=>Apr.none _⟩,fun g hg ha v v' hv _ ho=>⟨hv.1.grow (Y8 ho) ?_,hv.2.grow (Y8 ho) ?_ ?_⟩,fun u hu k hk=>?_⟩
 · intro k hk e;cases e;exact ha (.inl hk)
 · intro k hk e;cases e;exact ha (.inr (.inl hk))
 · intro x hx h0 k hk e;cases e;exact ha (.inr (.inr ⟨x,hx,h0,hk⟩))
 · rcases hk with hk | hk | ⟨x,hx,h0,hk⟩
   · exact (hu.1.lt k hk).2
   · exact (hu.2.lt k hk).2
   · exact qS (hu.2.all x hx).2.2.1 h0 hk
theorem St.add{A2:Nat→Prop}{F:World→Prop}(h:Rn.St N A E V w)(hF:F w)(hs:Stays N A2 F)(hd:∀p∈V,¬A2 p.1):Rn.St N (fun k=>A k∨A2 k) (fun u=>E u∧F u) V w :=
 ⟨h.sz,h.blk,h.ge,h.nd,⟨h.ex,hF⟩,h.st.both hs,fun i g L hi hk=>hk.elim (h.av i g L hi) (hd _ (List.mem_of_getElem? hi)),h.ns⟩
theorem Stays.own:Stays N (fun k=>sv.ownBlock=some k) fun u=>OwnN u B sv l :=
 ⟨fun u u' _ he hb=>he.below hb,fun g _ ha v v' hv _ ho=>hv.grow (Y8 ho) fun k hk e=>by cases e; exact ha hk,fun u hu k hk=>(hu.lt k hk).2⟩
theorem St.owns(h:Rn.St N A E V w)(hb:Below w.heap.size w w')(hy:OwnN w' w.heap.size sv l):Rn.St N (fun k=>A k∨sv.ownBlock=some k) (fun u=>E u∧OwnN u w.heap.size sv l) V w':=by
 have k:=h.call hb;exact⟨k.sz,k.blk,k.ge,k.nd,⟨k.ex,hy⟩,h.st.both Stays.own,fun i g L hi ho=>ho.elim (h.av i g L hi) fun ho=>absurd (h.blk i g L hi).lt (Nat.not_lt.2 (hy.lt g ho).1),h.ns⟩
abbrev FB(W:World)(B:Nat)(u:World):Prop:=Below W.heap.size W u∧B≤u.heap.size
theorem Stays.fb(W:World)(B:Nat):Stays W.heap.size (fun _=>False) (FB W B):=(Stays.below W).and ⟨fun u u' _ he hb=>Nat.le_trans he hb.size,fun g _ _ v v' hv _ ho=>Nat.le_trans hv ho.size,fun _ _ _ h=>h.elim⟩
abbrev FE(W:World)(B:Nat)(pv bv:Value)(ps:List Int)(lb:List (Bk×Value))(u:World):Prop:=FB W B u∧OwnN u B pv ps∧BkR u B bv lb
abbrev FA(pv bv:Value)(lb:List (Bk×Value))(k:Nat):Prop:=False∨RwA pv bv lb k
structure FolR (W:World) (B:Nat) (pv bv:Value) (ps:List Int) (lb:List (Bk×Value)) (V:List (Nat×List Value)) (w:World):Prop where
 st:Rn.St W.heap.size (FA pv bv lb) (FE W B pv bv ps lb) V w
 ap:∀x∈lb,x.1.bytes≠[]→Apr pv.ownBlock x.2
 bw:W.heap.size≤B
theorem FolR.start(h:Rn.St W.heap.size (fun _=>False) (fun u=>Below W.heap.size W u) V w):FolR W w.heap.size (.slice none 0 0) (.slice none 0 0) [] [] V w:=by
 have h2:Rn.St W.heap.size (fun _=>False) (FB W w.heap.size) V w:=⟨h.sz,h.blk,h.ge,h.nd,⟨h.ex,Nat.le_refl _⟩,Stays.fb _ _,h.av,h.ns⟩
 refine⟨St.add h2 ⟨OwnN.nil _ _,BkR.nil _ _⟩ Stays.rows fun p _ hk=>?_,(fun x hx=>by cases hx),h.sz⟩;rcases hk with hk | hk | ⟨x,hx,-⟩
 · cases hk
 · cases hk
 · cases hx
theorem FolR.again{pv bv:Value}{ps:List Int}{lb:List (Bk×Value)}{V':List (Nat×List Value)}(h:FolR W B pv bv ps lb V w)(hs:Rn.St W.heap.size (FA pv bv lb) (FE W B pv bv ps lb) V' w'):FolR W B pv bv ps lb V' w':=⟨hs,h.ap,h.bw⟩
structure FolS (W:World) (B:Nat) (pv bv:Value) (ps:List Int) (lb:List (Bk×Value)) (b:Bk) (sv:Value) (V:List (Nat×List Value)) (w:World):Prop where
 st:Rn.St W.heap.size (fun k=>FA pv bv lb k∨(b.bytes≠[]∧sv.ownBlock=some k)) (fun u=>FE W B pv bv ps lb u∧BytesAt u sv b.bytes) V w
 ap:∀x∈lb,x.1.bytes≠[]→Apr pv.ownBlock x.2
 s1:b.bytes≠[]→Apr pv.ownBlock sv
 s2:b.bytes≠[]→Apr bv.ownBlock sv
 bw:W.heap.size≤B
theorem FolR.slice{pv bv:Value}{ps:List Int}{lb:List (Bk×Value)}{b:Bk}(h:FolR W B pv bv ps lb V w)(hb:Below w.heap.size w w')(hy:BytesAt w' sv b.bytes)(hf:Fresh w.heap.size sv):FolS W B pv bv ps lb b sv V w':=by
 have hk:b.bytes≠[]→∀k,sv.ownBlock=some k→w.heap.size≤k:=fun h0 k hk=>by
  obtain⟨b',o,c,e,-⟩:=hy.has (List.length_pos_iff.2 h0);rw [e] at hk;cases hk;exact hf _ o _ c e
 exact⟨h.st.slice hb hy hf,h.ap,fun h0 k hs e=>by have:=(h.st.ex.2.1.lt k e).2; have:=hk h0 k hs; omega,fun h0 k hs e=>by have:=(h.st.ex.2.2.lt k e).2; have:=hk h0 k hs; omega,h.bw⟩
section
variable {W:World} {B:Nat} {pv bv:Value} {ps:List Int} {lb:List (Bk×Value)} {b:Bk} {sv:Value} {V:List (Nat×List Value)} {o:Oper} {a:Act} {w:World} {K:Act→World→Prop} {Q:Exit→Act→World→Prop}
theorem FolS.again{V':List (Nat×List Value)}(h:FolS W B pv bv ps lb b sv V w)(hs:Rn.St W.heap.size (fun k=>FA pv bv lb k∨(b.bytes≠[]∧sv.ownBlock=some k)) (fun u=>FE W B pv bv ps lb u∧BytesAt u sv b.bytes) V' w'):FolS W B pv bv ps lb b sv V' w':=⟨hs,h.ap,h.s1,h.s2,h.bw⟩
theorem FolS.new(h:FolS W B pv bv ps lb b sv V w)(hns:∀v∈L,∀t,v≠.string t)(hg:w.heap.size=g)(hA:Blk w' g L)(hb:Below w.heap.size w w'):FolS W B pv bv ps lb b sv (V++[(g,L)]) w':=by
 subst hg;exact h.again (h.st.new hns hA hb)
theorem FolS.app1(h:FolS W B pv bv ps lb b sv V w)(j:Nat){gl:Nat}{x:Int}(hV:V[j]? = some (gl,[.int .i64 x]))(hlen:ps.length≤100)(p q:Operand)(d:Tmp)(hd:o.dst=some d)(ho:o.op=.call { callee:=.builtin .append,args:=#[p,q],argTypes:=#[41,41] })(hp:a.eval p=pv)(hq:a.eval q=.slice (some ⟨gl,0,none⟩) 1 c)(k:∀pv' w',FolS W B pv' bv (ps++[x]) lb b sv V w'→K (a.put (some d) pv') w'):o.wp Tryz.prog a w K Q:=by
 have hi:IntsAt w (.slice (some ⟨gl,0,none⟩) 1 c) [x]:=⟨_,c,rfl,fun i z hz=>by
  cases i with
  | zero =>
   simp at hz
   subst hz
   exact⟨gl,0,rfl,(h.st.blk j gl _ hV).cell rfl⟩
  | succ i=>simp at hz⟩
 obtain⟨pv',w',hr,hO,hg,hor⟩:=J33 h.st.ex.1.2.1 h.st.ex.1.1.2 hi (by simp; omega) o.type;refine Jg (some d) hd pv' w' (Ql a.eval o p q 41 41 ho pv _ pv' hp hq hr) (k pv' w' ?_);have hlt:=h.st.ex.1.2.1.lt;have hrw:=zx h.st.ex.1.2.1 h.st.ex.1.2.2;have hin:∀k,pv'.ownBlock=some k→pv.ownBlock=some k∨k=w.heap.size:=fun k hk=>by
  rcases hor with e | e
  · exact .inl (e ▸ hk)
  · rw [e] at hk;cases hk;exact .inr rfl
 have hnew:∀{s:Value} {l:List Int},BytesAt w s l→(l≠[]→Apr pv.ownBlock s)→l≠[]→Apr pv'.ownBlock s:=fun hy hs h0 k hk e=>by
  rcases hin k e with e | e
  · exact hs h0 k hk e
  · have:=qS hy h0 hk;omega
 have hE:FE W B pv' bv (ps++[x]) lb w'∧BytesAt w' sv b.bytes :=
  ⟨⟨⟨h.st.ex.1.1.1.trans (Kt hg h.st.sz fun k hk=>by have:=(hlt k hk).1; have:=h.bw; omega),Nat.le_trans h.st.ex.1.1.2 hg.size⟩,hO,h.st.ex.1.2.2.grow hg hrw.1 h.ap⟩,BytesAt.grow h.st.ex.2 hg h.s1⟩
 refine⟨⟨Nat.le_trans h.st.sz hg.size,fun i g L hi=>(h.st.blk i g L hi).of_block (hg.block g (h.st.blk i g L hi).lt fun e=>h.st.av i g L hi (.inl (.inr (.inl e.symm)))),h.st.ge,h.st.nd,hE,((Stays.fb W B).both Stays.rows).both Stays.bytes,fun i g L hi hk=>?_,h.st.ns⟩,fun x hx h0=>hnew (h.st.ex.1.2.2.all x hx).2.2.1 (h.ap x hx) h0,hnew h.st.ex.2 h.s1,h.s2,h.bw⟩;have hav:=h.st.av i g L hi;rcases hk with (hk | hk | hk | hk) | hk
 · exact hk.elim
 · rcases hin g hk with e | e
   · exact hav (.inl (.inr (.inl e)))
   · have:=(h.st.blk i g L hi).lt;omega
 · exact hav (.inl (.inr (.inr (.inl hk))))
 · exact hav (.inl (.inr (.inr (.inr hk))))
 · exact hav (.inr hk)
theorem FolS.app2(h:FolS W B pv bv ps lb b sv V w)(hb:b.Wf)(hs:IsSl sv)(j:Nat){gb:Nat}(hV:V[j]? = some (gb,b.cells sv))(hlen:lb.length≤100)(p q:Operand)(d:Tmp)(hd:o.dst=some d)(ho:o.op=.call { callee:=.builtin .append,args:=#[p,q],argTypes:=#[95,95] })(hp:a.eval p=bv)(hq:a.eval q=.slice (some ⟨gb,0,none⟩) 1 c)(k:∀bv' w',FolR W B pv bv' ps (lb++[(b,sv)]) V w'→K (a.put (some d) bv') w'):o.wp Tryz.prog a w K Q:=by
 obtain⟨bv',w',hr,hO,hg,hor⟩:=Jdc (c:=c) h.st.ex.1.2.2 h.st.ex.1.1.2 hb hs (h.st.blk j gb _ hV) h.st.ex.2 h.s2 hlen o.type;refine Jg (some d) hd bv' w' (Ql a.eval o p q 95 95 ho bv _ bv' hp hq hr) (k bv' w' ?_);have hlt:=h.st.ex.1.2.2.lt;have hrw:=zx h.st.ex.1.2.1 h.st.ex.1.2.2;have hE:FE W B pv bv' ps (lb++[(b,sv)]) w' :=
  ⟨⟨h.st.ex.1.1.1.trans (Kt hg h.st.sz fun k hk=>by have:=(hlt k hk).1; have:=h.bw; omega),Nat.le_trans h.st.ex.1.1.2 hg.size⟩,h.st.ex.1.2.1.grow hg hrw.2,hO⟩
 refine⟨⟨Nat.le_trans h.st.sz hg.size,fun i g L hi=>(h.st.blk i g L hi).of_block (hg.block g (h.st.blk i g L hi).lt fun e=>h.st.av i g L hi (.inl (.inr (.inr (.inl e.symm))))),h.st.ge,h.st.nd,hE,(Stays.fb W B).both Stays.rows,fun i g L hi hk=>?_,h.st.ns⟩,fun x hx h0=>?_,h.bw⟩
 · have hav:=h.st.av i g L hi;rcases hk with hk | hk | hk | ⟨x,hx,h0,hk⟩
   · exact hk.elim
   · exact hav (.inl (.inr (.inl hk)))
   · rcases hor with e | e
     · exact hav (.inl (.inr (.inr (.inl (e ▸ hk)))))
     · rw [e] at hk;cases hk;exact absurd (h.st.blk i _ L hi).lt (Nat.lt_irrefl _)
   · rcases List.mem_append.1 hx with hx | hx
     · exact hav (.inl (.inr (.inr (.inr ⟨x,hx,h0,hk⟩))))
     · obtain rfl:=List.mem_singleton.1 hx;exact hav (.inr ⟨h0,hk⟩)
 · rcases List.mem_append.1 hx with hx | hx
   · exact h.ap x hx h0
   · obtain rfl:=List.mem_singleton.1 hx;exact h.s1 h0
end
end Go.Proofs.YtdbfmikeaoaebaaGreatDoor
