/- Steps. -/
import Derived.Test.YtdbfmikeaoaebaaGreatDoorLao
import Derived.Deep.SlicePairs
set_option linter.unusedSimpArgs false
set_option linter.unusedVariables false
set_option maxRecDepth 100000
set_option maxHeartbeats 4000000
namespace Go.Proofs.YtdbfmikeaoaebaaGreatDoor
open Go.RowKit Rn
variable {B N b base c e i j jb n:Nat} {C:Nat→Option (List Int)} {F:Nat→Prop} {Q:Exit→Act→World→Prop} {V:List (Nat×List Value)} {W u u' w w':World} {Z:List Int} {a:Ja} {after:Array Edge} {d:De.D} {dst:Option Tmp} {fv sv sv' v:Value} {g:Pl.Gm} {guard:Option (Nat×Bool)} {k:Operand} {l:List It} {o:Oper} {ops:Array Oper} {pos:String} {rest:List Oper} {t2:TypeId} {x:It} {xs:List Value}
def JA(F:Nat→Prop)(jb:Nat)(fv:Value)(k:Nat):Prop:=F k∨k=jb∨∃o n c,fv=.slice (some ⟨k,o,none⟩) n c
theorem Stays.jn(hN:W.heap.size≤N):Stays N (JA F jb fv) fun u=>Jn W u jb b F d g a fv :=
 ⟨fun u u' _ he hb=>he.below hb,fun q hq ha v v' hv _ ho=>hv.other ho (Nat.le_trans hN hq) (fun h=>ha (.inl h)) (fun h=>ha (.inr (.inl h))) fun b' o n c e h=>ha (.inr (.inr (by subst h;exact⟨o,n,c,e⟩))),fun u hu k hk=>by
  rcases hk with hk|rfl|⟨o,n,c,e⟩
  · exact (hu.dv.lt k hk).2
  · exact hu.blk.lt
  · exact (hu.sep _ _ _ _ e).2.2.2⟩
def OwnJ(u:World)(B:Nat)(sv:Value)(l:List It):Prop:=OwnI u B sv (l.map fun x=>(x,nb))∧(∀x∈l,x.blk.bytes=[])∧B≤u.heap.size
theorem J3n(h:w.ownsRow base e c v n xs)(hb:∀k,v.ownBlock=some k→w'.heap[k]? = w.heap[k]?):w'.ownsRow base e c v n xs:=by
 refine⟨h.1,?_⟩;rcases h.2 with hz|⟨g,cap,cur,e,hB,hg,r⟩
 · exact .inl hz
 · exact .inr ⟨g,cap,cur,e,hB,(hb g (by rw [e];rfl)).trans hg,r⟩
theorem OwnJ.keep(h:OwnJ u B sv l)(hb:∀k,sv.ownBlock=some k→u'.heap[k]? = u.heap[k]?)(hs:u.heap.size≤u'.heap.size):OwnJ u' B sv l:=by
 refine⟨⟨J3n h.1.row hb,fun x hx=>?_⟩,h.2.1,Nat.le_trans h.2.2 hs⟩;obtain⟨h1,h2,h3⟩:=h.1.all x hx;obtain⟨y,hy,rfl⟩:=List.mem_map.1 hx;refine⟨h1,?_,h3⟩;show BytesAt u' nb y.blk.bytes;rw [h.2.1 y hy];exact BytesAt.nil _ _ _
theorem OwnJ.lt(h:OwnJ u B sv l):∀k,sv.ownBlock=some k→B≤k∧k<u.heap.size:=h.1.lt
theorem OwnJ.below(h:OwnJ u B sv l)(hb:Below u.heap.size u u'):OwnJ u' B sv l:=h.keep (fun k hk=>hb.block k (h.lt k hk).2) hb.size
theorem OwnJ.nil(u:World)(B:Nat)(hB:B≤u.heap.size):OwnJ u B (.slice none 0 0) []:=⟨OwnI.nil u B,(fun x hx=>by cases hx),hB⟩
theorem Stays.ownJ:Stays N (fun k=>sv.ownBlock=some k) fun u=>OwnJ u B sv l :=
 ⟨fun u u' _ he hb=>he.below hb,fun g _ ha v v' hv _ ho=>hv.keep (fun k hk=>ho.block k (hv.lt k hk).2 fun e=>ha (by rw [←e];exact hk)) ho.size,fun u hu k hk=>(hu.lt k hk).2⟩
theorem Jn.row{row:Option Nat}(h:Jn W w jb b F d g a fv)(hg:w.grownBy w' row)(hr:∀k,row=some k→W.heap.size≤k∧¬JA F jb fv k):Jn W w' jb b F d g a fv:=by
 cases row with
 | none=>exact h.below ⟨hg.os,hg.tape,hg.output,hg.size,fun k hk=>hg.block k hk (by simp)⟩
 | some q =>
  obtain⟨h1,h2⟩:=hr q rfl;exact h.other (kb:=q) ⟨hg.os,hg.tape,hg.output,hg.size,fun k hk hn=>hg.block k hk fun e=>hn (Option.some.inj e)⟩ h1 (fun k=>h2 (.inl k)) (fun k=>h2 (.inr (.inl k))) fun b' o n c e k=>h2 (.inr (.inr (by subst k;exact⟨o,n,c,e⟩)))
abbrev SJ(N B:Nat)(W:World)(jb b:Nat)(F:Nat→Prop)(d:De.D)(g:Pl.Gm)(a:Ja)(fv sv:Value)(l:List It)(V:List (Nat×List Value))(w:World):Prop:=Rn.St N (fun k=>JA F jb fv k∨sv.ownBlock=some k) (fun u=>Jn W u jb b F d g a fv∧OwnJ u B sv l) V w
theorem SJ.app(h:SJ N B W jb b F d g a fv sv l V w)(hW:W.heap.size≤N)(hWB:W.heap.size≤B)(hJ:∀k,JA F jb fv k→k<B)(ho:OwnI w' B sv' (l.map (fun x=>(x,nb))++[(x,nb)]))(hx:x.blk.bytes=[])(hg:w.grownBy w' sv.ownBlock)(h5:sv'.ownBlock=sv.ownBlock∨sv'.ownBlock=some w.heap.size):SJ N B W jb b F d g a fv sv' (l++[x]) V w':=by
 have ho2:OwnJ w' B sv' (l++[x]):=⟨by rw [List.map_append];exact ho,fun y hy=>by
  rcases List.mem_append.1 hy with hy|hy
  · exact h.ex.2.2.1 y hy
  · obtain rfl:=List.mem_singleton.1 hy
    exact hx,Nat.le_trans h.ex.2.2.2 hg.size⟩
 have hj:=h.ex.1.row hg fun k hk=>⟨by have:=(h.ex.2.lt k hk).1;omega,fun hk2=>by have:=(h.ex.2.lt k hk).1;have:=hJ k hk2;omega⟩
 refine⟨Nat.le_trans h.sz hg.size,fun i q L hi=>(h.blk i q L hi).of_block (hg.block q (h.blk i q L hi).lt fun e=>h.av i q L hi (.inr e.symm)),h.ge,h.nd,⟨hj,ho2⟩,(Stays.jn hW).both Stays.ownJ,fun i q L hi hk=>?_,h.ns⟩;rcases hk with hk|hk
 · exact h.av i q L hi (.inl hk)
 · rcases h5 with e|e
   · exact h.av i q L hi (.inr (e ▸ hk))
   · rw [e] at hk;have:=(h.blk i q L hi).lt;have:=Option.some.inj hk;omega
theorem J3o(h:SJ N B W jb b F d g a fv sv l V w)(hW:W.heap.size≤N)(hWB:W.heap.size≤B)(hJ:∀k,JA F jb fv k→k<B)(hx:x.Wf)(hxb:x.blk.bytes=[])(hl:l.length≤100){u v:Operand}{c:Act}(ho:o.op=.buildSlice 74 1 #[(0,k)])(hk:c.eval k=.agg (x.arr nb))(hw:Region.wanted o (yielded ops c.tmps)=true)(hu:∀gl,(c.put o.dst (.slice (some ⟨gl,0,none⟩) 1 1)).eval u=sv)(hv:∀gl,(c.put o.dst (.slice (some ⟨gl,0,none⟩) 1 1)).eval v=.slice (some ⟨gl,0,none⟩) 1 1)(hw2:∀gl,Region.wanted ⟨dst,.call { callee:=.builtin .append,args:=#[u,v],argTypes:=#[74,74] },t2,pos,after,guard⟩ (yielded ops (c.put o.dst (.slice (some ⟨gl,0,none⟩) 1 1)).tmps)=true)(hh:∀sv' w' gl,SJ N B W jb b F d g a fv sv' (l++[x]) V w'→wpList Tryz.prog ops Q rest ((c.put o.dst (.slice (some ⟨gl,0,none⟩) 1 1)).put dst sv') w'):wpList Tryz.prog ops Q (o::⟨dst,.call { callee:=.builtin .append,args:=#[u,v],argTypes:=#[74,74] },t2,pos,after,guard⟩::rest) c w:=by
 refine Jo _ _ hw (JS _ _ _ _ 74 1 _ ho #[(0,.agg (x.arr nb))] (by simp [hk]) _ (Jac w hx)) ?_;have hal:=jp w (.cells (Jg [(x,nb)]).toArray 84);have hit:=(J4f w (l:=[(x,nb)]) (fun y hy=>by obtain rfl:=List.mem_singleton.1 hy;exact⟨hx,rfl,hxb⟩) 1 rfl (by decide) (F:=fun _=>False) (fun k hk=>hk.elim)).1;have h2:=h.call hal;refine J8j h2.ex.2.1 h2.ex.2.2.2 hit (fun y hy=>by obtain rfl:=List.mem_singleton.1 hy;intro h0;rw [hxb] at h0;exact absurd h0 (by decide)) (by simp;omega) (hu _) (hv _) (hw2 _) fun sv' w' ho hg h5=>hh sv' w' _ (SJ.app h2 hW hWB hJ ho hxb hg h5)
abbrev tvs(B:List Bool):List Value:=B.map Value.bool
theorem Jfx(B:List Bool):∀v∈tvs B,v.oneCell'=true:=fun v hv=>by obtain⟨x,-,rfl⟩:=List.mem_map.1 hv;rfl
theorem Jcp(B:List Bool):∀v∈tvs B,∀t,v≠.string t:=fun v hv t e=>by subst e;obtain⟨x,-,h⟩:=List.mem_map.1 hv;cases h
theorem Jcq{B:List Bool}(h:B.length=64):Ob 71 (tvs B):=⟨by rw [List.length_map,h];kernel_rfl,.inr ⟨_,_,Tryz.underlying71⟩,Jfx B,Jcp B⟩
theorem jj(B:List Bool)(i:Nat)(x:Bool):(tvs B).set i (.bool x)=tvs (B.set i x):=by simp [List.map_set]
theorem Zx{B:List Bool}{x:Bool}(h:B[i]? = some x):(tvs B)[i]? = some (.bool x):=by simp [h]
theorem Jcr:(Tryz.prog.info? 71).bind (·.zero)=some (.agg (tvs (List.replicate 64 false)).toArray):=by kernel_rfl
theorem Jip(h:Z.length=2048):Ob 72 (u8s Z):=⟨by rw [List.length_map,h];kernel_rfl,.inr ⟨_,_,Tryz.underlying72⟩,je Z,u8s_noStr Z⟩
theorem Jiq:(Tryz.prog.info? 72).bind (·.zero)=some (.agg (u8s (zeros 2048)).toArray):=by kernel_rfl
def Zz(Z:List Int)(j:Nat):List Int:=(Z.drop (j*32)).take 32
def Y2(Z:List Int)(j:Nat)(l:List Int):List Int:=Z.take (j*32)++(l++Z.drop (j*32+32))
theorem J0t(h:Z.length=2048)(hj:j<64):(Zz Z j).length=32:=by unfold Zz;rw [List.length_take,List.length_drop];omega
theorem J7t(h:Z.length=2048)(hj:j<64){l:List Int}(hl:l.length=32):(Y2 Z j l).length=2048:=by unfold Y2;rw [List.length_append,List.length_append,List.length_take,List.length_drop];omega
theorem yO(Z:List Int)(j:Nat):u8s Z=u8s (Z.take (j*32))++(u8s (Zz Z j)++u8s (Z.drop (j*32+32))):=by
 rw [←List.map_append,←List.map_append];congr 1;unfold Zz;rw [←List.drop_drop,List.take_append_drop,List.take_append_drop]
theorem J4z(Z:List Int)(j:Nat)(l:List Int):u8s (Y2 Z j l)=u8s (Z.take (j*32))++(u8s l++u8s (Z.drop (j*32+32))):=by
 simp [Y2]
theorem yP(h:Z.length=2048)(hj:j<64):(u8s (Z.take (j*32))).length=j*32:=by rw [List.length_map,List.length_take];omega
theorem J3p(h:Z.length=2048)(hj:j<64){l:List Int}(hl:l.length=32):Zz (Y2 Z j l) j=l:=by
 unfold Zz Y2;rw [List.drop_append_of_le_length (by rw [List.length_take];omega),List.drop_take,Nat.sub_self,List.take_zero,List.nil_append,List.take_append_of_le_length (by omega),List.take_of_length_le (by omega)]
theorem J0u(h:Z.length=2048)(hi:i<64)(hj:j<64)(hij:i≠j){l:List Int}(hl:l.length=32):Zz (Y2 Z j l) i=Zz Z i:=by
 refine List.ext_getElem? fun k=>?_;unfold Zz Y2
 by_cases hk:k<32
 · rw [List.getElem?_take_of_lt hk,List.getElem?_take_of_lt hk,List.getElem?_drop,List.getElem?_drop];rcases Nat.lt_or_gt_of_ne hij with hlt|hlt
   · rw [List.getElem?_append_left (by rw [List.length_take];omega),List.getElem?_take_of_lt (by omega)]
   · rw [List.getElem?_append_right (by rw [List.length_take];omega),List.length_take,List.getElem?_append_right (by omega),List.getElem?_drop];congr 1;omega
 · rw [List.getElem?_eq_none (by rw [List.length_take];omega),List.getElem?_eq_none (by rw [List.length_take];omega)]
structure Cor (C:Nat→Option (List Int)) (B:List Bool) (Z:List Int):Prop where
 lb:B.length=64
 lz:Z.length=2048
 th:∀p,p<64→B[p]? = some (C p).isSome
 pg:∀p,p<64→∀c,C p=some c→Zz Z p=c
theorem Cor.start:Cor (fun _=>none) (List.replicate 64 false) (zeros 2048):=⟨List.length_replicate,J1 _,fun p hp=>by rw [List.getElem?_replicate,if_pos hp];rfl,fun p hp c h=>by cases h⟩
theorem Cor.yes{B:List Bool}(h:Cor C B Z)(hj:j<64){l:List Int}(hl:l.length=32)(hx:x.mark.2=(j:Int))(hc:(if x.mark.1=4 then some (zeros 32) else if x.mark.1=5 then none else some x.blk.page)=some l):Cor (Qg C x) (B.set j true) (Y2 Z j l):=by
 refine⟨by rw [List.length_set];exact h.lb,J7t h.lz hj hl,fun p hp=>?_,fun p hp c hcp=>?_⟩
 · unfold Qg;rw [hx]
   by_cases e:p=j
   · subst e;rw [if_pos rfl,hc,List.getElem?_set_self (by rw [h.lb];exact hp)];rfl
   · rw [if_neg (by omega),List.getElem?_set_ne (by omega)];exact h.th p hp
 · unfold Qg at hcp;rw [hx] at hcp
   by_cases e:p=j
   · subst e;rw [if_pos rfl,hc] at hcp;cases hcp;exact J3p h.lz hp hl
   · rw [if_neg (by omega)] at hcp;rw [J0u h.lz hp hj e hl];exact h.pg p hp c hcp
theorem Cor.no{B:List Bool}(h:Cor C B Z)(hj:j<64)(hx:x.mark.2=(j:Int))(hc:(if x.mark.1=4 then some (zeros 32) else if x.mark.1=5 then none else some x.blk.page)=none):Cor (Qg C x) (B.set j false) Z:=by
 refine⟨by rw [List.length_set];exact h.lb,h.lz,fun p hp=>?_,fun p hp c hcp=>?_⟩
 · unfold Qg;rw [hx]
   by_cases e:p=j
   · subst e;rw [if_pos rfl,hc,List.getElem?_set_self (by rw [h.lb];exact hp)];rfl
   · rw [if_neg (by omega),List.getElem?_set_ne (by omega)];exact h.th p hp
 · unfold Qg at hcp;rw [hx] at hcp
   by_cases e:p=j
   · subst e;rw [if_pos rfl,hc] at hcp;cases hcp
   · rw [if_neg (by omega)] at hcp;exact h.pg p hp c hcp
theorem Jfy(k:Int)(n:Nat)(hk:Jh k)(h1:1≤n)(h2:n≤64)(w:World):Calls Tryz.prog 21 #[.int .i64 k,.int .i64 n] w fun e w'=>(∃j:Nat,j<n∧e=.returned (.int .i64 j))∧w=w':=by
 obtain⟨r,hr⟩:∃r,k.tmod n=r:=⟨_,rfl⟩
 have hn0:(0:Int)<n:=by omega
 have r1:-(n:Int)<r:=by rw [←hr];exact Int.lt_tmod_of_pos k hn0
 have r2:r<n:=by rw [←hr];exact Int.tmod_lt_of_pos k hn0
 obtain⟨j,hj⟩:∃j:Nat,(r+n).tmod n=(j:Int):=⟨((r+n).tmod n).toNat,by have:=Int.tmod_nonneg (n:Int) (show 0≤r+n by omega);omega⟩
 have hjn:j<n:=by have:=Int.tmod_lt_of_pos (r+n) hn0;omega
 have g1:decide ((n:Int)<1)=false:=decide_eq_false (by omega);have hw:IntKind.i64.wrap (r+n)=r+n:=JQ (by omega) (by omega);have hne:¬((n:Int)=0):=by omega
 have HJ:=Zh hjn;clear hjn r1 r2;go_enter Tryz.func21,Tryz.ntmps21
 go_wp2_with fail
 go_ret;exact⟨⟨j,HJ.out,rfl⟩,rfl⟩
variable {B N b j jb m:Nat} {F:Nat→Prop} {M:List Bool} {V:List (Nat×List Value)} {W w w':World} {a:Ja} {d:De.D} {fv pv sv:Value} {g:Pl.Gm} {l:List It} {p:Pr} {x:It}
theorem Jcs:∀(m:Nat) (l:List Int),l.Nodup→(∀x∈l,∃j:Nat,j<m∧x=(j:Int))→l.length≤m
 | 0,l,_,h=>by
  cases l with
  | nil=>exact Nat.le_refl 0
  | cons x r=>obtain⟨j,hj,-⟩:=h x (List.mem_cons_self ..);omega
 | m+1,l,hn,h=>by
  have h1:=Jcs m (l.erase (m:Int)) (hn.erase _) fun x hx=>by
   obtain⟨j,hj,e⟩:=h x (List.mem_of_mem_erase hx);have:x≠(m:Int):=fun e2=>by
    subst e2;exact (List.Nodup.mem_erase_iff hn).1 hx |>.1 rfl
   exact⟨j,by omega,e⟩
  have h2:=List.length_erase (l:=l) (a:=(m:Int));split at h2 <;> omega
structure Met (M:List Bool) (l:List It):Prop where
 len:M.length=64
 at_:∀p:Nat,p<64→M[p]? = some (decide (∃x∈l,x.mark.2=(p:Int)))
theorem Met.start:Met (List.replicate 64 false) []:=⟨List.length_replicate,fun p hp=>by rw [List.getElem?_replicate,if_pos hp];simp⟩
theorem Met.put(h:Met M l)(hj:j<64)(hx:x.mark.2=(j:Int)):Met (M.set j true) (l++[x]):=by
 refine⟨by rw [List.length_set];exact h.len,fun p hp=>?_⟩
 by_cases e:p=j
 · subst e;rw [List.getElem?_set_self (by rw [h.len];exact hp)];congr 1;symm;exact decide_eq_true ⟨x,by simp,hx⟩
 · rw [List.getElem?_set_ne (by omega),h.at_ p hp];congr 1;refine decide_eq_decide.2 ⟨fun ⟨y,h1,h2⟩=>⟨y,List.mem_append_left _ h1,h2⟩,fun ⟨y,h1,h2⟩=>?_⟩;rcases List.mem_append.1 h1 with h1|h1
   · exact⟨y,h1,h2⟩
   · obtain rfl:=List.mem_singleton.1 h1;omega
structure Its (m:Nat) (M:List Bool) (l:List It):Prop where
 tu:Turns m l
 nd:(Xd l).Nodup
 me:Met M l
theorem Its.start(m:Nat):Its m (List.replicate 64 false) []:=⟨(fun x hx=>by cases hx),List.nodup_nil,Met.start⟩
theorem jK(h:Turns m l):∀x∈l,Kt x.mark=x.mark.2∧∃j:Nat,j<m∧x.mark.2=(j:Int):=fun x hx=>by
 obtain⟨j,hj,hk⟩:=h x hx;rcases hk with rfl|rfl|⟨v,hv,rfl⟩
 · exact⟨rfl,j,hj,rfl⟩
 · exact⟨rfl,j,hj,rfl⟩
 · exact⟨rfl,j,hj,rfl⟩
theorem Its.len(h:Its m M l):l.length≤m:=by
 have:=Jcs m (Xd l) h.nd fun x hx=>by
  obtain⟨y,hy,rfl⟩:=List.mem_map.1 hx;obtain⟨e,j,hj,e2⟩:=jK h.tu y hy;exact⟨j,hj,e.trans e2⟩
 rwa [List.length_map] at this
theorem Its.more(h:Its m M l)(hm:m≤64)(hj:j<m)(hx:x=KW 4 j∨x=KW 5 j∨∃v,Ks v∧x=X5 j v)(hM:M[j]? = some false):Its m (M.set j true) (l++[x]):=by
 have hid:x.mark.2=(j:Int):=by rcases hx with e|e|⟨v,-,e⟩ <;> rw [e] <;> rfl
 have htu:Turns m (l++[x]):=fun y hy=>by
  rcases List.mem_append.1 hy with hy|hy
  · exact h.tu y hy
  · obtain rfl:=List.mem_singleton.1 hy;exact⟨j,hj,hx⟩
 refine⟨htu,?_,h.me.put (by omega) hid⟩;have hsl:Kt x.mark=(j:Int):=(jK htu x (by simp)).1.trans hid;show ((l++[x]).map fun x=>Kt x.mark).Nodup;rw [List.map_append];refine List.nodup_append.2 ⟨h.nd,by simp,fun a ha b hb e=>?_⟩;obtain⟨y,hy,rfl⟩:=List.mem_map.1 ha;simp only [List.map_cons,List.map_nil,List.mem_singleton] at hb;subst hb;have h1:=h.me.at_ j (by omega);rw [hM] at h1;have h2:=of_decide_eq_false (Option.some.inj h1).symm;exact h2 ⟨y,hy,by rw [←(jK h.tu y hy).1,e,hsl]⟩
theorem ZA(C:Nat→Option (List Int))(l:List It)(x:It):(l++[x]).foldl Qg C=Qg (l.foldl Qg C) x:=by rw [List.foldl_append];rfl
def Jjs(g:Pl.Gm)(n m t:Nat)(w:World)(jb b g2 gs ga gp:Nat)(S:List Value)(i:Nat)(wr:World):Prop:=∃P bj d X C F fv B Z,Lv g n m t d X P bj C∧P.length≤i∧Cor C B Z∧Rn.St w.heap.size (JA F jb fv) (fun u=>Jn w u jb b F d g bj fv) [(g2,[.int .i64 g.p,.int .i64 g.s,.int .i64 g.l,.int .i64 g.f]),(gs,S),(ga,tvs B),(gp,u8s Z)] wr
theorem SK.items(h:Rn.St N (JA F jb fv) (fun u=>Jn W u jb b F d g a fv) V w)(hW:W.heap.size≤N)(hB:B≤w.heap.size):SJ N B W jb b F d g a fv (.slice none 0 0) [] V w :=
 ⟨h.sz,h.blk,h.ge,h.nd,⟨h.ex,OwnJ.nil _ _ hB⟩,(Stays.jn hW).both Stays.ownJ,fun i q L hi hk=>hk.elim (h.av i q L hi) fun e=>(by cases e),h.ns⟩
theorem SK.put(h:SJ N B W jb b F d g a fv sv l V w)(hW:W.heap.size≤N)(hp:Jja W w jb b F fv g p pv w'):∃F' fv',Rn.St N (JA F' jb fv') (fun u=>Jn W u jb b F' p.d g p.a fv') V w':=by
 obtain⟨F',fv',-,hj,hO,hF,-,hS⟩:=hp;refine⟨F',fv',St.put2 h hO (fun i q L hi hk=>?_) hj (Stays.jn hW) fun i q L hi hk=>?_⟩
 · rcases hk with hk|hk
   · exact h.av i q L hi (.inl (.inl hk))
   · exact h.av i q L hi (.inl (.inr (.inl hk)))
 · have hlt:=(h.blk i q L hi).lt;rcases hk with hk|hk|⟨o,n,c,e⟩
   · rcases hF q hk with hk|hk
     · exact h.av i q L hi (.inl (.inl hk))
     · omega
   · exact h.av i q L hi (.inl (.inr (.inl hk)))
   · obtain⟨o2,n2,c2,e2⟩:=hS q o n c e;exact h.av i q L hi (.inl (.inr (.inr ⟨o2,n2,c2,e2⟩)))
def Jir(w:World)(tv:Value)(r:List (Int×Int)):Prop:=∃a cap,tv=.slice a r.length cap∧r.length≤9223372036854775807∧∀k x,r[k]? = some x→(Jh x.1∧Ks x.2)∧∃b o,a=some ⟨b,o,none⟩∧w.cell? ⟨b,o+k*2,none⟩=some (.int .i64 x.1)∧w.cell? ⟨b,o+k*2+1,none⟩=some (.int .u8 x.2)
def kH(w:World)(sv:Value)(l:List (List (Int×Int))):Prop:=∃a cap,sv=.slice a l.length cap∧l.length≤9223372036854775807∧∀i r,l[i]? = some r→∃b o tv,a=some ⟨b,o,none⟩∧w.cell? ⟨b,o+i,none⟩=some tv∧Jir w tv r
open Go.ChangeShapes Go.WideShapes Go.ChangeAt Go.Deep Go.Joins
variable {fuel:Nat} {v:Value}
theorem Jfz:Tryz.prog.cellsOf 5=1:=by kernel_rfl
theorem J50:Tryz.prog.cellsOf 3=1:=by kernel_rfl
theorem Jg0:Tryz.prog.cellsOf 23=4:=by kernel_rfl
theorem Jg1:Tryz.prog.cellsOf 73=1:=by kernel_rfl
theorem Jg2:Tryz.prog.cellsOf 77=2:=by kernel_rfl
theorem J0v{n:Int}(h:(Lit.int .u8 n).wf=true):Ks n:=by
 have:=bounds_u8 h;exact⟨this.1,by omega⟩
theorem yQ{n:Int}(h:(Lit.int .i64 n).wf=true):Jh n:=by
 have:=bounds_i64 h;exact⟨by omega,by omega⟩
section
variable {H:Type} {enc:TypeId×Value→H} {W:World}
theorem Jg3{base:Nat}{d:DataW H}{p:List MemPlace}(hv:Value.okWide Tryz.prog W .any base 23 v)(h:DataW.Trod enc Tryz.prog W 0 (fun _=>true) true 23 v d p):∃g:Pl.Gm,v=g.v:=by
 simp only [Value.okWide,Tryz.underlying23] at hv;obtain⟨cs,rfl,hsz,_⟩:=hv;rw [Jg0] at hsz;obtain⟨l⟩:=cs;obtain⟨v0,v1,v2,v3,rfl⟩:∃v0 v1 v2 v3,l=[v0,v1,v2,v3]:=by
  match l,hsz with
  | [v0,v1,v2,v3],_=>exact⟨v0,v1,v2,v3,rfl⟩
 obtain⟨fuel,hf⟩:=h;obtain⟨y0,y1,y2,y3,n',_,_,h0,h1,h2,h3⟩:=trod_struct4 Tryz.underlying23 hf;simp only [J50,Value.cells] at h0 h1 h2 h3;obtain⟨a0,e0,_,_⟩:=DataW.trod_int Tryz.underlying3 h0;obtain⟨a1,e1,_,_⟩:=DataW.trod_int Tryz.underlying3 h1;obtain⟨a2,e2,_,_⟩:=DataW.trod_int Tryz.underlying3 h2;obtain⟨a3,e3,_,_⟩:=DataW.trod_int Tryz.underlying3 h3;simp at e0 e1 e2 e3;subst e0 e1 e2 e3;exact⟨⟨a0,a1,a2,a3⟩,rfl⟩
theorem J0w{A:Type}(z:A)(n:Nat)(P:Nat→A→Prop)(h:∀i,i<n→∃x,P i x):∃l:List A,l.length=n∧∀i x,l[i]? = some x→P i x:=by
 classical
 refine⟨(List.range n).map fun i=>if h2:i<n then Classical.choose (h i h2) else z,by simp,fun i x hx=>?_⟩;have hi:i<n:=by
  have:=(Zg hx).1;simpa using this
 rw [List.getElem?_map,List.getElem?_range hi] at hx;have e:=Option.some.inj hx;simp only [hi,dif_pos] at e;rw [←e];exact Classical.choose_spec (h i hi)
theorem Jis{cs:List Value}{x:DataW H×List MemPlace}(h:DataW.trod enc Tryz.prog W 0 (fun _=>true) true fuel 73 cs=some x):∃tv l,cs=[tv]∧Jir W tv l:=by
 rcases open_slice_pairs Tryz.underlying73 Tryz.underlying77 Jg2 rfl rfl J50 Jfz h with ⟨rfl,_⟩|⟨a,len,cap,m,n,V0,V1,D0,D1,P0,P1,rfl,_,hl,hm,hmm,_,hi⟩
 · exact⟨_,[],rfl,none,0,rfl,Nat.zero_le _,fun k x hx=>by simp at hx⟩
 · simp only [if_true] at hmm;obtain⟨l,hll,hlx⟩:=J0w ((0,0):Int×Int) len (fun i x=>(Jh x.1∧Ks x.2)∧∃b o,some a=some ⟨b,o,none⟩∧W.cell? ⟨b,o+i*2,none⟩=some (.int .i64 x.1)∧W.cell? ⟨b,o+i*2+1,none⟩=some (.int .u8 x.2)) fun i hil=>by
    obtain⟨h0,h1,t0,t1⟩:=hi i (by omega);obtain⟨z0,e0,_,w0⟩:=DataW.trod_int Tryz.underlying3 t0;obtain⟨z1,e1,_,w1⟩:=DataW.trod_int Tryz.underlying5 t1;simp only [List.cons.injEq,and_true] at e0 e1;rw [e0] at h0;rw [e1] at h1;obtain⟨g,o,spot⟩:=a;have hspot:spot=none:=by simpa [Addr.add] using World.cell?_spot (hi 0 (by omega)).1
    subst hspot;simp only [add_plain] at h0 h1;exact⟨(z0,z1),⟨yQ w0,J0v w1⟩,g,o,rfl,h0,by simpa [Nat.add_assoc] using h1⟩
   subst hll;have:maxLen=9223372036854775807:=rfl;exact⟨_,l,rfl,some a,cap,rfl,by omega,fun k x hx=>hlx k x hx⟩
theorem Jct{base:Nat}{d:DataW H}{p:List MemPlace}(hv:Value.okWide Tryz.prog W .any base 65 v)(h:DataW.Trod enc Tryz.prog W 0 (fun _=>true) true 65 v d p):∃l,kH W v l:=by
 obtain⟨a0,len0,cap0,rfl⟩:=okWide_slice Tryz.underlying65 hv;obtain⟨fuel,hf⟩:=h;rcases open_slice1 Tryz.underlying65 Jg1 hf with ⟨hcs,_⟩|⟨a,len,cap,m,n,V,D,Pl,hcs,_,hl,hm,hmm,_,hi⟩
 · simp [Value.cells] at hcs;obtain⟨rfl,rfl,rfl⟩:=hcs;exact⟨[],_,_,rfl,Nat.zero_le _,fun i x hx=>by simp at hx⟩
 · simp [Value.cells] at hcs;obtain⟨rfl,rfl,rfl⟩:=hcs;simp only [if_true] at hmm;obtain⟨l,hll,hlx⟩:=J0w ([]:List (Int×Int)) len0 (fun i r=>∃b o tv,some a=some ⟨b,o,none⟩∧W.cell? ⟨b,o+i,none⟩=some tv∧Jir W tv r) fun i hil=>by
    obtain⟨h0,t0⟩:=hi i (by omega);obtain⟨tv,r,e,hr⟩:=Jis t0;simp only [List.cons.injEq,and_true] at e;rw [e] at h0;obtain⟨g,o,spot⟩:=a;have hspot:spot=none:=by simpa [Addr.add] using World.cell?_spot (hi 0 (by omega)).1
    subst hspot;simp only [add_plain] at h0;exact⟨r,g,o,tv,rfl,h0,hr⟩
   subst hll;have:maxLen=9223372036854775807:=rfl;exact⟨l,some a,cap0,rfl,by omega,fun i r hr=>hlx i r hr⟩
end
theorem J7u:([23,65].all fun t=>Tryz.prog.readableRec t&&decide (t<Tryz.prog.types.size))=true:=by kernel_rfl
theorem yR{ts:List TypeId}(h:∀t∈ts,t∈[23,65]):∀t∈ts,Tryz.prog.readableRec t=true∧t<Tryz.prog.types.size:=fun t ht=>by
 have:=List.all_eq_true.1 J7u t (h t ht);simpa using this
theorem jL(g:Pl.Gm)(sv:Value)(l:List (List (Int×Int)))(w:World)(hs:kH w sv l)(hv:Vars w)(hwk:∀w',Vars w'→Calls Tryz.prog 8 #[] w' fun e w2=>e=.returned (.bool true)∧Below w'.heap.size w' w2)(hno:¬g.Ok∨g.Ok∧(20<l.length∨l.length≤20∧g.cap<1)):Calls Tryz.prog 5 #[g.v,sv] w (Zr w (.bool true)):=by
 obtain⟨sa,cp,rfl,hbig,hc⟩:=hs;have H:=Rn.St.start (Stays.below w) Zq;have HV:=Zh hv;have HWK:=Zh hwk;obtain⟨m,hm⟩:∃m,l.length=m:=⟨_,rfl⟩
 rw [hm] at hbig hno ⊢;have HNO:=Zh hno;clear hc hm hv hwk hno;go_enter Tryz.func5,Tryz.ntmps5;go_upto_region 0 with fail;refine Zl ?_;refine bx H ?_ (hns:=(Je g).ns);clear H;intro g1 w1 H;refine tk (.bool false) ?_;go_upto_region 1 with fail;refine Zl ?_;refine ldO (Je g) H 0 ?_;rcases HNO.out with h1|⟨h1,h2⟩
 case inl =>
  refine cl (Pl.J83 g h1 _) H ?_;clear H;intro w2 H;clear h1
  go_wp2_with fail
  refine (HWK.out _ (HV.below Zy H.ex)).mono ?_;rintro e w99 ⟨rfl,hb⟩;replace H:=H.call hb
  go_wp2_with fail
  go_ret;exact⟨rfl,H.ex⟩
 have HG:=Zh h1;refine cl (Pl.jk g h1 _) H ?_;clear H;intro w2 H;clear h1;rcases h2 with h2|⟨h2,h3⟩
 case inl =>
  have hm20:decide ((20:Int)<(m:Int))=true:=decide_eq_true (by omega)
  go_wp2_with fail
  refine (HWK.out _ (HV.below Zy H.ex)).mono ?_;rintro e w99 ⟨rfl,hb⟩;replace H:=H.call hb
  go_wp2_with fail
  go_ret;exact⟨rfl,H.ex⟩
 have hm20:decide ((20:Int)<(m:Int))=false:=decide_eq_false (by omega);have hc1:decide (g.cap<1)=true:=decide_eq_true h3;refine tk (.bool false) ?_;refine tk (.bool false) ?_;refine tk (.slice sa m cp) ?_;refine tk (.int .i64 m) ?_;refine tk (.bool false) ?_;refine tk (.bool false) ?_;refine tk (.bool false) ?_;refine ldO (Je g) H 0 ?_;refine cl (Pl.kt g HG.out _) H ?_;clear H;intro w3 H;refine tk (.int .i64 g.cap) ?_ (hr:=by go_simp;rfl);refine tk (.bool true) ?_;refine tk (.bool true) ?_;go_wp2_with fail
 refine (HWK.out _ (HV.below Zy H.ex)).mono ?_;rintro e w99 ⟨rfl,hb⟩;replace H:=H.call hb
 go_wp2_with fail
 go_ret;exact⟨rfl,H.ex⟩
variable {A A' F:Nat→Prop} {E E':World→Prop} {N b jb t:Nat} {V:List (Nat×List Value)} {W u w w':World} {a:Ja} {d:De.D} {fv:Value} {g:Pl.Gm}
theorem St.jn2(h:Rn.St N A E V w)(hb:Below w.heap.size w w')(hW:W.heap.size≤N)(hj:Jn W w' jb b F d g a fv)(hjb:w.heap.size≤jb)(hn:Jdw w.heap.size fv)(hF:∀k,F k→A k):Rn.St N (JA F jb fv) (fun u=>Jn W u jb b F d g a fv) V w':=by
 have k:=h.call hb;refine⟨k.sz,k.blk,k.ge,k.nd,hj,Stays.jn hW,fun i q L hi hk=>?_,k.ns⟩;have h1:=(h.blk i q L hi).lt;rcases hk with hk|rfl|⟨o,n,c,e⟩
 · exact h.av i q L hi (hF q hk)
 · omega
 · have:=hn q (by rw [e];rfl);omega
theorem J7v:Tryz.prog.built 56 [(0,.int .u32 1),(1,.agg #[.int .i64 g.p,.int .i64 g.s,.int .i64 g.l,.int .i64 g.f]),(4,.int .u32 1)]=some (fR g).cells.toArray:=by kernel_rfl
theorem Jit(hg:g.Ok)(ht:(t:Int)=4+g.s*g.l)(hv:Vars w)(hu:Vars u)(hd:De.Dv w u b F (De.Ki t)):Calls Tryz.prog 19 #[.pointer (some ⟨b,0,none⟩),.agg (fR g).cells.toArray] u fun e w2=>∃F',e=.returned (.int .i64 0)∧De.Dv w w2 b F' (fD g t)∧Only F u w2∧∀k,F' k→F k∨u.heap.size≤k:=by
 have hs:=X9 hg;have hf:=Jcn hg (n:=t) (by omega);have k:=Rn.write_yes (fR g) (qN hg) (J4y hg) u hd hu.1 hv.1.lt (by rw [zN];show g.tot≤_;unfold Pl.Gm.tot;rw [if_pos hg];omega) (show 0≤900000 by decide) (show 0≤900000 by decide);rw [hf.e] at k;exact k
theorem St.less(h:Rn.St N A E V w)(hE:E' w)(hs:Rn.Stays N A' E')(hA:∀k,A' k→A k):Rn.St N A' E' V w:=⟨h.sz,h.blk,h.ge,h.nd,hE,hs,fun i g L hi hk=>h.av i g L hi (hA g hk),h.ns⟩
theorem Jk8(u:World)(x y:Operand)(a b:Array Value):(eqGuard .neq 43 x y (.agg a) (.agg b)).run Tryz.prog u=.ok () u:=by
 unfold eqGuard;simp [go_sem]
theorem Jcu(u:World)(ev:Operand→Value)(o:Oper)(x y:Operand)(l:List Int)(hl:l.length=32)(h1:ev x=.agg (u8s l).toArray)(h2:ev y=.agg (u8s l).toArray)(ho:o.op=.binOp .neq 43 x y 43):(execOp ev o).run Tryz.prog u=.ok (.value (.bool false)) u:=by
 have hq:=Jg7 u l l hl hl;rw [decide_eq_true rfl] at hq;unfold execOp;simp only [ho,Sem.run_bind,h1,h2,Jk8,hq,Result.andThen_ok,Sem.run_pure,Bool.not_true]
def PgV(c:Option (List Int))(cv:List Value)(ev:Int):Prop:=(c=none∧ev=17∨∃l sv,c=some l∧l.length=32∧cv=chC sv l∧ev=0)∧Ob 45 cv
theorem J3q(v:Int):(rp 32 v).length=32:=by simp [rp]
theorem Jg4(hg:g.Ok):g.cap≤16∧g.cap≤g.p:=by
 have h1:=hg.1;have h2:=hg.2.1;have h3:=hg.maps;unfold Pl.Gm.cap;omega
theorem Jcv(g:Pl.Gm)(sv:Value)(l:List (List (Int×Int)))(w:World)(hs:kH w sv l)(hv:Vars w)(hwk:∀w',Vars w'→Calls Tryz.prog 8 #[] w' fun e w2=>e=.returned (.bool true)∧Below w'.heap.size w' w2)(hg:g.Ok)(hl:l.length≤20)(hcap:1≤g.cap):Calls Tryz.prog 5 #[g.v,sv] w (Zr w (.bool true)):=by
 obtain⟨sa,cp,rfl,hbig,hc⟩:=hs;have H:=Rn.St.start (Stays.below w) Zq;have HV:=Zh hv;have HWK:=Zh hwk;have HTC:=Zh hc;have HBG:=Zh hbig;obtain⟨m,hm⟩:∃m,l.length=m:=⟨_,rfl⟩
 rw [hm] at hbig HBG ⊢;have HM:=Zh hm;have hg0:=hg;have HG:=Zh hg;have hs0:=X9 hg;obtain⟨t,ht⟩:∃t:Nat,4+g.s*g.l=(t:Int):=⟨(4+g.s*g.l).toNat,by omega⟩
 have HT:Hid ((t:Int)=4+g.s*g.l):=Zh ht.symm;have HTS:Hid (t≤516):=Zh (by omega);have HT1:Hid (1≤t∧t≤1024):=Zh ⟨by omega,by omega⟩;obtain⟨n,hn⟩:∃n:Nat,g.p=(n:Int):=⟨g.p.toNat,by have:=hg.1.1;omega⟩
 have HN:Hid ((n:Int)=g.p):=Zh hn.symm;obtain⟨mo,hmo⟩:∃mo:Nat,g.cap=(mo:Int):=⟨g.cap.toNat,by omega⟩
 have hcp:=Jg4 hg;have HMO:Hid (g.cap=(mo:Int)):=Zh hmo;have HMC:Hid ((mo:Int)≤g.cap):=Zh (by omega);have HM1:Hid (1≤mo∧mo≤16∧mo≤n):=Zh ⟨by omega,by omega,by omega⟩;have HL20:Hid (m≤20):=Zh (by omega);have HF0:=Zh (Jcn hg (n:=t) (by omega));have HL0:Hid (Lv g n mo t (fD g t) (fX g t) [] (fA g) fun _=>none):=Zh (Lv.start hg ht.symm);have HFI:Hid (fits g (fA g) (fD g t).S.length=true):=Zh (by unfold fits;rw [kG hg,decide_eq_true (by rw [HF0.s];omega)];rfl);have HFB:Hid ((fA g).free.length≤9223372036854775807):=Zh (by have:=(Ja.few (kG hg));omega);clear hg hg0 hs0 ht hn hmo hcp hl hcap;clear hc hm hbig hv hwk;go_enter Tryz.func5,Tryz.ntmps5;go_upto_region 0 with fail;refine Zl ?_;refine bx H ?_ (hns:=(Je g).ns);clear H;intro g1 w1 H;refine tk (.bool false) ?_;refine Zn ?_;have hm20:decide ((20:Int)<(m:Int))=false:=decide_eq_false (by have:=HL20.out;omega);have hc1:decide (g.cap<1)=false:=decide_eq_false (by have:=HMO.out;have:=HM1.out;omega);go_upto_region 1 with fail;refine Zl ?_;refine ldO (Je g) H 0 ?_;refine cl (Pl.jk g HG.out _) H ?_;clear H;intro w2 H;refine tk (.bool false) ?_;refine tk (.bool false) ?_;refine tk (.slice sa m cp) ?_;refine tk (.int .i64 m) ?_;refine tk (.bool false) ?_;refine tk (.bool false) ?_;refine tk (.bool false) ?_;refine ldO (Je g) H 0 ?_;refine cl (Pl.kt g HG.out _) H ?_;clear H;intro w3 H;refine tk (.int .i64 g.cap) ?_ (hr:=by go_simp;rfl);refine tk (.bool false) ?_;refine tk (.bool false) ?_;go_upto_region 3 with fail;clear hm20 hc1;go_upto_region 3 with fail;refine Zl ?_;refine ldO (Je g) H 0 ?_;refine cl (Pl.kt g HG.out _) H ?_;clear H;intro w4 H;refine tk (.int .i64 (4+g.s*g.l)) ?_ (hr:=by go_simp;rfl);refine J0 rfl fun K hK=>?_;go_simp;rw [←HT.out];refine (De.Ja3 w _ H.ex t HT1.out).mono ?_;rintro e w5 ⟨b,F,rfl,hd,hb,hF⟩;replace H:=Rn.St.after H (Only.of_below hb) (fun k hk=>.inr (hF k hk)) hd (Stays.dv Zy);clear hb hd hF;refine hK _ _ (nm ?_);clear hK K;refine tk (.tuple #[.pointer (some ⟨b,0,none⟩),.int .i64 0]) ?_;refine tk (.pointer (some ⟨b,0,none⟩)) ?_;refine tk (.int .i64 0) ?_;refine tk (.pointer (some ⟨b,0,none⟩)) ?_;refine tk (.int .i64 0) ?_;go_upto_region 4 with fail;refine Zl ?_;refine tk (.pointer (some ⟨b,0,none⟩)) ?_;refine ldO (Je g) H 0 ?_;refine tk (.agg (fR g).cells.toArray) ?_ (hr:=by exact J8 _ _ _ _ 56 _ rfl #[(0,.int .u32 1),(1,.agg #[.int .i64 g.p,.int .i64 g.s,.int .i64 g.l,.int .i64 g.f]),(4,.int .u32 1)] (by simp [go_sem]) _ (run_build _ 56 _ _ J7v));refine J0 rfl fun K hK=>?_;go_simp;refine (Jit HG.out HT.out HV.out (HV.below Zy H.ex.2) H.ex).mono ?_;rintro e w6 ⟨F1,rfl,hd,hO,hf⟩;replace H:=Rn.St.after H hO hf hd (Stays.dv Zy);clear hO hd hf;refine hK _ _ (nm ?_);clear hK K;refine tk (.bool false) ?_;go_upto_region 6 with fail;refine Zl ?_;refine tk (.pointer (some ⟨b,0,none⟩)) ?_;refine J0 rfl fun K hK=>?_;go_simp;refine (HL0.load HG.out HN.out HT.out HMC.out (Nat.zero_le _) _ (HV.below Zy H.ex.2) HV.out H.ex).mono ?_;rintro e w7 ⟨⟨hv,ov,tv,rfl,hOw,hT,hFr,hOv,-⟩,hb⟩;have HSH:=Zh hOw.sl;have HSO:=Zh hOv.sl;have HST:=Zh hT.sl;have hold:=St.old H;replace H:=St.add (H.call hb) hT Stays.ints fun q hq hk=>by
  obtain⟨jq,hjq⟩:=List.getElem?_of_mem hq;have h1:=hold jq q.1 q.2 hjq;obtain⟨tb,tk1,tc,e,-⟩:=hT.has (List.length_pos_iff.2 hk.1);have h2:=hFr _ _ _ _ e;have h5:=hk.2;rw [e] at h5;have h4:tb=q.1:=Option.some.inj h5;omega
 clear hOw hT hFr hOv hb hold;refine hK _ _ (nm ?_);clear hK K;refine tk (.tuple #[.agg (Jy (fR g) hv ov ⟨(fA g).seg,(fA g).off,(fA g).seq,[]⟩ tv).toArray,.int .i64 0]) ?_;refine tk (.agg (Jy (fR g) hv ov ⟨(fA g).seg,(fA g).off,(fA g).seq,[]⟩ tv).toArray) ?_;refine tk (.int .i64 0) ?_;refine al Yi H ?_ (hns:=stZ_ob.ns);clear H;intro g8 w8 H;refine stO (K9 (qN HG.out) HSH.out HSO.out HST.out) (Ob.len (K9 (qN HG.out) HSH.out HSO.out HST.out) stZ_ob) H 1 ?_;clear H;intro w8 H;refine tk (.int .i64 0) ?_;go_upto_region 7 with fail;refine Zl ?_;refine tk (.pointer (some ⟨b,0,none⟩)) ?_;refine ldO (Je g) H 0 ?_;refine tk (.pointer (some ⟨g8,18,none⟩)) ?_;refine ldP (Xu ⟨(fA g).seg,(fA g).off,(fA g).seq,[]⟩ HST.out) H 1 (J3i _ _ _ _ _) ?_;refine J0 rfl fun K hK=>?_;go_simp;refine (zH (W:=w) b F1 (fD g t) (by rw [HF0.s];have:=HTS.out;omega) g (fA g) tv HFB.out HFI.out (J27 1 (by decide)) _ H.ex.2 H.ex.1).mono ?_;rintro e w9 ⟨jb,fv,rfl,⟨hj,hnf⟩,hjb,hb⟩;replace H:=St.jn2 H hb Zy hj hjb hnf fun k hk=>.inl hk;clear hj hnf hjb hb;refine hK _ _ (nm ?_);clear hK K;refine tk (.tuple #[.pointer (some ⟨jb,0,none⟩),.int .i64 0]) ?_;refine tk (.pointer (some ⟨jb,0,none⟩)) ?_;refine tk (.int .i64 0) ?_;refine tk (.pointer (some ⟨jb,0,none⟩)) ?_;refine tk (.int .i64 0) ?_;go_upto_region 10 with fail
 go_cut [11] from 11 to 82 (fun s11 wx=>s11=.int .i64 (mo:Int)∧Rn.St w.heap.size (JA F1 jb fv) (fun u=>Jn w u jb b F1 (fD g t) g (fA g) fv) [(g1,[.int .i64 g.p,.int .i64 g.s,.int .i64 g.l,.int .i64 g.f]),(g8,Jy (fR g) hv ov ⟨(fA g).seg,(fA g).off,(fA g).seq,[]⟩ tv)] wx)
 case first =>
  have hmn:g.cap≤g.p:=by have:=HMO.out;have:=HM1.out;have:=HN.out;omega
  have HMN:=Zh hmn;clear hmn;refine J9 (fun wq=>Rn.St w.heap.size (JA F1 jb fv) (fun u=>Jn w u jb b F1 (fD g t) g (fA g) fv) [(g1,[.int .i64 g.p,.int .i64 g.s,.int .i64 g.l,.int .i64 g.f]),(g8,Jy (fR g) hv ov ⟨(fA g).seg,(fA g).off,(fA g).seq,[]⟩ tv)] wq) (by kernel_rfl) ?_;replace H:=H.drew;generalize w9.drew=w0 at *;refine th 0 76 (.pointer (some ⟨g1,0,none⟩)) H ?_;refine th 1 77 (.int .i64 g.p) H ?_ (hy:=fun u hS=>by have hq:=(hS.blk 0 _ _ rfl).cell (i:=0) (v:=.int .i64 g.p) rfl;go_simp);refine th 2 78 (.agg ([.int .i64 g.p,.int .i64 g.s,.int .i64 g.l,.int .i64 g.f]).toArray) H ?_ (hy:=fun u hS=>Kj (Je g) (hS.blk 0 _ _ rfl) _ _ _ rfl rfl);refine Zo 3 fun K hK=>?_;go_simp;refine (Pl.kt g HG.out _).mono ?_;rintro e wd ⟨rfl,hb⟩;replace H:=H.call hb;refine hK _ _ H ?_;clear hK K hb;refine nm ?_;refine th 4 80 (.int .i64 g.cap) H ?_ (hy:=fun u hS=>by go_simp;rfl);refine th 5 81 (.int .i64 (mo:Int)) H ?_ (hy:=fun u hS=>by have h1:=HMN.out;have h2:=HMO.out;go_simp;omega);refine th 6 11 (.int .i64 (mo:Int)) H ?_;refine Zd ?_
  go_wp2_with fail
  go_meet
  exact⟨rfl,H⟩
 case rest =>
  obtain⟨rfl,H2⟩:=hcut;clear H;have H:=H2;clear H2;go_upto_region 11 with fail;refine Zl ?_;refine al Jcr H ?_ (hns:=(Jcq List.length_replicate).ns);clear H;intro g10 w10 H;go_upto_region 12 with fail;refine Zl ?_;refine al Jiq H ?_ (hns:=(Jip (J1 2048)).ns);clear H;intro g11 w11 H;refine Zn ?_;have HI:Jjs g n mo t w jb b g1 g8 g10 g11 (Jy (fR g) hv ov ⟨(fA g).seg,(fA g).off,(fA g).seq,[]⟩ tv) 0 w11:=⟨[],_,_,_,_,_,_,_,_,HL0.out,Nat.le_refl 0,Cor.start,H⟩
  clear H HL0 HF0 HFI HFB
  go_wp2_with fail
  go_loopg [14] m (fun q c14 wr=>∃i:Nat,m-i≤q∧i≤m∧c14=.int .i64 (i:Int)∧Jjs g n mo t w jb b g1 g8 g10 g11 (Jy (fR g) hv ov ⟨(fA g).seg,(fA g).off,(fA g).seq,[]⟩ tv) i wr)
  case atStart=>exact⟨0,by omega,by omega,rfl,HI⟩
  case round =>
   obtain⟨i,hq,him,rfl,P,bj,d,X,C,F,fv,B,Z,hlv,hpn,hcor,H⟩:=hrel;clear HI;have HLV:=Zh hlv;have HPN:=Zh hpn;have HCOR:=Zh hcor;have HQ:=Zh hq;have HIM:=Zh him;clear hlv hpn hcor hq him;have WKE:=fun (u:World) (hb:Below w.heap.size w u)=>HWK.out u (HV.below Zy hb);have HWE:=Zh WKE;clear WKE
   by_cases hlt:i<m
   case neg =>
    obtain rfl:i=m:=by have:=HIM.out;omega
    have gk:decide ((i:Int)<(i:Int))=false:=decide_eq_false (by omega)
    go_wp2_with fail
    refine (HWE.out _ H.ex.dv.2).mono ?_;rintro e w99 ⟨rfl,hb⟩;replace H:=H.call hb
    go_wp2_with fail
    go_ret;exact⟨rfl,H.ex.dv.2⟩
   have gk:decide ((i:Int)<(m:Int))=true:=decide_eq_true (by omega);have HLT:=Zh hlt;obtain⟨r,hr⟩:∃r,l[i]? = some r:=⟨_,List.getElem?_eq_getElem (by have:=HM.out;omega)⟩
   obtain⟨lg,lo,tv,ha,hcl,ra,rc,rfl,hrl,hrow⟩:=HTC.out i r hr;subst ha;have HCL:=Zh hcl;have HROW:=Zh hrow;have HRL:=Zh hrl;obtain⟨rn,hrn⟩:∃rn,r.length=rn:=⟨_,rfl⟩
   rw [hrn] at HCL HRL hrl hcl;have HRN:=Zh hrn;have e0:=(H.ex.dv.2.cell (block_lt_of_cell hcl)).trans hcl;clear hlt hr hcl hrow
   by_cases h100:rn≤100
   case neg =>
    have g1:decide ((100:Int)<(rn:Int))=true:=decide_eq_true (by omega)
    go_wp2_with fail
    refine (HWE.out _ H.ex.dv.2).mono ?_;rintro e w99 ⟨rfl,hb⟩;replace H:=H.call hb
    go_wp2_with fail
    go_ret;exact⟨rfl,H.ex.dv.2⟩
   have g1:decide ((100:Int)<(rn:Int))=false:=decide_eq_false (by omega);have HR100:=Zh h100;go_upto_region 19 with fail;clear e0 gk g1 hrl hrn h100;go_upto_region 19 with fail;refine Zl ?_;refine al Jcr H ?_ (hns:=(Jcq List.length_replicate).ns);clear H;intro g41 w41 H;refine Zn ?_;have hjb:=fun k hk=>H.st.lt _ H.ex k hk;obtain⟨BB,hBB⟩:∃BB,w41.heap.size=BB:=⟨_,rfl⟩
   have hBW:w.heap.size≤BB:=by rw [←hBB];exact H.sz
   rw [hBB] at hjb;have HJB:Hid (∀k,JA F jb fv k→k<BB):=Zh hjb;have HBW:=Zh hBW;have HI2:=SK.items (B:=BB) H Zy (Nat.le_of_eq hBB.symm);clear H hjb hBB hBW
   go_wp2_with fail
   go_loopg [15,17] rn (fun q c15 c17 wr=>∃(k:Nat) (its:List It) (sv2:Value) (B2:List Bool) (Z2:List Int) (M:List Bool),rn-k≤q∧k≤rn∧c15=sv2∧c17=.int .i64 (k:Int)∧Its mo M its∧Cor (its.foldl Qg C) B2 Z2∧SJ w.heap.size BB w jb b F d g bj fv sv2 its [(g1,[.int .i64 g.p,.int .i64 g.s,.int .i64 g.l,.int .i64 g.f]),(g8,Jy (fR g) hv ov ⟨(fA g).seg,(fA g).off,(fA g).seq,[]⟩ tv),(g10,tvs B2),(g11,u8s Z2),(g41,tvs M)] wr)
   case atStart=>exact⟨0,[],_,B,Z,_,by omega,by omega,rfl,rfl,Its.start mo,HCOR.out,HI2⟩
   case round =>
    obtain⟨k,its,sv2,B2,Z2,M,hq2,hkr,rfl,rfl,YY,hcor2,H⟩:=hrel;clear HI2;have HITS:=Zh YY;have HC2:=Zh hcor2;have HQ2:=Zh hq2;have HKR:=Zh hkr;clear YY hcor2 hq2 hkr;have e0:=(H.ex.1.dv.2.cell (block_lt_of_cell HCL.out)).trans HCL.out;have gi:decide ((i:Int)<(m:Int))=true:=decide_eq_true (by have:=HLT.out;omega)
    by_cases hlt2:k<rn
    case neg =>
     as_aux_lemma =>
      obtain rfl:k=rn:=by have:=HKR.out;omega
      have gk:decide ((k:Int)<(k:Int))=false:=decide_eq_false (by omega);obtain⟨ia,ic,hsv,-⟩:=H.ex.2.1.len;rw [List.length_map] at hsv;obtain⟨nl,hnl⟩:∃nl,its.length=nl:=⟨_,rfl⟩
      rw [hnl] at hsv;subst hsv;have HNL:=Zh hnl;have hi20:i≤20:=by have:=HL20.out;have:=HIM.out;omega
      by_cases h0:nl=0
      case pos =>
       subst h0;obtain rfl:its=[]:=List.eq_nil_of_length_eq_zero hnl;have g0:decide (((0:Nat):Int)=0)=true:=by decide
       go_wp2_with fail
       go_roundg (m-(i+1))
       case measure=>have:=HQ.out;have:=HLT.out;omega
       case rel=>exact⟨i+1,by omega,by have:=HLT.out;omega,rfl,P,bj,d,X,C,F,fv,B2,Z2,HLV.out,by have:=HPN.out;omega,HC2.out,(St.less H H.ex.1 (Stays.jn Zy) (fun k hk=>.inl hk)).cut 4⟩
      have g0:decide ((nl:Int)=0)=false:=decide_eq_false (by omega);have g00:decide (nl=0)=false:=decide_eq_false h0;have HN0:Hid (1≤its.length):=Zh (by omega);have HTR:Hid (its.length≤mo):=Zh HITS.len;clear hnl;go_upto_region 36 with fail;clear h0;clear e0 gi gk g0 g00;have hpa:=J4d H.ex.1 HV.out (its.map fun x=>(x,nb)) its (by simp [Function.comp_def]) _ (by rw [List.length_map];have:=HTR.out;have:=HM1.out;omega) H.ex.2.1.items (fun w' ho=>OwnI.items (H.ex.2.keep (fun k hk=>ho.block k (H.ex.2.lt k hk).2 fun hf=>by have h1:=(H.ex.2.lt k hk).1;have h2:=HJB.out k (.inl hf);omega) ho.size).1) (by have h1:=HLV.sn.img.len.trans HLV.len;have:=HTS.out;omega) (by have:=HLV.tt;have:=HPN.out;omega) (by rw [HLV.l];decide);have hlp:=HLV.puts HG.out HT.out HM1.out.2.1 HITS.tu HN0.out HTR.out HITS.nd;have HPE:Hid ((JY g bj d its).e=0→∃X',Lv g n mo t (JY g bj d its).d X' (P++[(its,(JY g bj d its).pl)]) (JY g bj d its).a (its.foldl Qg C)):=Zh fun he=>HLV.put HG.out HT.out HM1.out.2.1 HM1.out.2.2 HITS.tu HN0.out HTR.out HITS.nd he;obtain⟨pe,hpe⟩:∃pe,(JY g bj d its).e=pe:=⟨_,rfl⟩
      rw [hpe] at hpa hlp HPE;have h14:pe=14∨pe=0:=hlp.imp id fun h=>h.1;have HPA:=Zh hpa;clear hpa hlp hpe;refine Zl ?_;refine tk (.pointer (some ⟨jb,0,none⟩)) ?_;refine tk (.slice ia nl ic) ?_;refine J0 rfl fun K hK=>?_;go_simp;refine HPA.mono ?_;rintro e wp ⟨pv,rfl,hp⟩;obtain⟨F2,fv2,H2⟩:=SK.put H Zy hp;have H3:=Rn.St.cut H2 4;clear H H2 hp HPA;have H:=H3;clear H3;refine hK _ _ (nm ?_);clear hK K;refine tk (.tuple #[pv,.int .i64 pe]) ?_;refine tk pv ?_;refine tk (.int .i64 pe) ?_;refine tk pv ?_;refine tk (.int .i64 pe) ?_;refine Zn ?_;rcases h14 with rfl|rfl
      case inl =>
       go_wp2_with fail
       refine (HWE.out _ H.ex.dv.2).mono ?_;rintro e w99 ⟨rfl,hb⟩;replace H:=H.call hb
       go_wp2_with fail
       go_ret;exact⟨rfl,H.ex.dv.2⟩
      obtain⟨X2,hlv2⟩:=HPE.out rfl;generalize (JY g bj d its).d=d2 at *;generalize (JY g bj d its).a=bj2 at *;generalize (JY g bj d its).pl=pl2 at *;have HP2:Hid ((P++[(its,pl2)]).length≤i+1):=Zh (by rw [List.length_append,List.length_singleton];have:=HPN.out;omega);generalize P++[(its,pl2)]=P2 at *;have HLV2:=Zh hlv2;have HHL:Hid ((Kk (zeros n) P2).length=n):=Zh (by rw [Y0,J1]);have HN64:Hid (1≤n∧n≤64):=Zh (by have h1:=HG.out.1;have h2:=HN.out;constructor <;> omega);obtain⟨fl,hfl⟩:∃fl,bj2.free.length=fl:=⟨_,rfl⟩
      have HFL:Hid (bj2.free.length=fl∧fl≤1000):=Zh ⟨hfl,by have:=Ja.few hlv2.sn.good;omega⟩;clear hlv2 HPE hfl;go_upto_region 39 with fail;go_upto_region 39 with fail;refine Zl ?_;refine tk (.pointer (some ⟨b,0,none⟩)) ?_;refine J0 rfl fun K hK=>?_;go_simp;refine (HLV2.load HG.out HN.out HT.out HMC.out (by have:=HP2.out;omega) _ (HV.below Zy H.ex.dv.2) HV.out H.ex.dv).mono ?_;rintro e w71 ⟨⟨hv2,ov2,tv2,rfl,hOw,hT,hFr,hOv,-⟩,hb⟩;obtain⟨ha,hc,e1,-⟩:=World.ownsRow.form hOw (by rw [HHL.out];exact HN64.out.1);rw [HHL.out] at e1;obtain rfl:hv2=.slice (some ⟨ha,0,none⟩) n hc:=e1;obtain⟨ta,tc,e1⟩:∃a c,tv2=.slice a bj2.free.length c:=hT.form;rw [HFL.out.1] at e1;subst e1;have HSO2:=Zh hOv.sl;have hold:=St.old H;replace H:=St.add (St.add (H.call hb) (hOw.mono H.sz) Stays.own fun q hq hk=>by
       obtain⟨jq,hjq⟩:=List.getElem?_of_mem hq
       have h1:=hold jq q.1 q.2 hjq
       have h2:=(hOw.lt q.1 hk).1
       omega) hT Stays.ints fun q hq hk=>by
       obtain⟨jq,hjq⟩:=List.getElem?_of_mem hq;have h1:=hold jq q.1 q.2 hjq;obtain⟨tb,tk1,tc2,e,-⟩:=hT.has (List.length_pos_iff.2 hk.1);have h2:=hFr _ _ _ _ e;have h5:=hk.2;rw [e] at h5;have h4:tb=q.1:=Option.some.inj h5;omega
      clear hOw hT hFr hOv hb hold;refine hK _ _ (nm ?_);clear hK K;refine tk (.tuple #[.agg (Jy (fR g) (.slice (some ⟨ha,0,none⟩) n hc) ov2 ⟨bj2.seg,bj2.off,bj2.seq,[]⟩ (.slice ta fl tc)).toArray,.int .i64 0]) ?_;refine tk (.agg (Jy (fR g) (.slice (some ⟨ha,0,none⟩) n hc) ov2 ⟨bj2.seg,bj2.off,bj2.seq,[]⟩ (.slice ta fl tc)).toArray) ?_;refine tk (.int .i64 0) ?_;refine al Yi H ?_ (hns:=stZ_ob.ns);clear H;intro g72 w72 H;refine stO (K9 (qN HG.out) (Jz (some ⟨ha,0,none⟩) n hc) HSO2.out (Jz ta fl tc)) (Ob.len (K9 (qN HG.out) (Jz (some ⟨ha,0,none⟩) n hc) HSO2.out (Jz ta fl tc)) stZ_ob) H 4 ?_;clear H;intro w72 H;refine tk (.int .i64 0) ?_;go_upto_region 40 with fail;refine J9 (fun wq=>Rn.St w.heap.size (fun k=>(JA F2 jb fv2 k∨(Value.slice (some ⟨ha,0,none⟩) n hc).ownBlock=some k)∨(bj2.free≠[]∧(Value.slice ta fl tc).ownBlock=some k)) (fun u=>(Jn w u jb b F2 d2 g bj2 fv2∧OwnN u w.heap.size (.slice (some ⟨ha,0,none⟩) n hc) (Kk (zeros n) P2))∧IntsAt u (.slice ta fl tc) bj2.free) [(g1,[.int .i64 g.p,.int .i64 g.s,.int .i64 g.l,.int .i64 g.f]),(g8,Jy (fR g) hv ov ⟨(fA g).seg,(fA g).off,(fA g).seq,[]⟩ tv),(g10,tvs B2),(g11,u8s Z2),(g72,Jy (fR g) (.slice (some ⟨ha,0,none⟩) n hc) ov2 ⟨bj2.seg,bj2.off,bj2.seq,[]⟩ (.slice ta fl tc))] wq) (by kernel_rfl) ?_;replace H:=H.drew;generalize w72.drew=w0 at *;refine th 0 198 (.int .i64 0) H ?_;refine th 1 199 (.bool false) H ?_;refine th 2 200 (.bool false) H ?_;refine th 3 201 (.pointer (some ⟨g72,16,none⟩)) H ?_;refine th 4 202 (.slice (some ⟨ha,0,none⟩) n hc) H ?_ (hy:=fun u hS=>by have hq:=(hS.blk 4 _ _ rfl).cell (i:=16) (v:=.slice (some ⟨ha,0,none⟩) n hc) rfl;go_simp);refine th 5 203 (.int .i64 (n:Int)) H ?_;refine th 6 204 (.pointer (some ⟨g1,0,none⟩)) H ?_;refine th 7 205 (.int .i64 g.p) H ?_ (hy:=fun u hS=>by have hq:=(hS.blk 0 _ _ rfl).cell (i:=0) (v:=.int .i64 g.p) rfl;go_simp);refine th 8 206 (.bool false) H ?_ (hy:=fun u hS=>by have hq:=HN.out;go_simp);refine th 9 207 (.bool false) H ?_;refine th 10 208 (.bool false) H ?_;refine th 11 209 (.pointer (some ⟨g72,18,none⟩)) H ?_;refine th 12 210 (.agg #[.int .i64 bj2.seg,.int .i64 bj2.off,.int .u32 bj2.seq,.slice ta fl tc]) H ?_ (hy:=fun u hS=>Q9 (c:=18) (Xu ⟨bj2.seg,bj2.off,bj2.seq,[]⟩ (Jz ta fl tc)) (J3i _ _ _ _ _) (hS.blk 4 _ _ rfl) rfl _ _ _ rfl rfl);refine th 13 211 (.pointer (some ⟨jb,0,none⟩)) H ?_;refine Zo 14 fun K hK=>?_;go_simp;refine (Ja5 H.ex.1.1).mono ?_;rintro e wa ⟨tv1,rfl,ho1,hb⟩;replace H:=H.call hb;have h1:=ho1.ints;clear hb ho1;refine hK _ _ H (nm ?_);clear hK K;refine Zo 15 fun K hK=>?_;go_simp;refine (Jaf bj2 tv1 (by have:=HFL.out;omega) h1).mono ?_;rintro e wb2 ⟨tv3,rfl,ho3,hb⟩;replace H:=H.call hb;have h3:=ho3.ints;clear hb ho3 h1;refine hK _ _ H (nm ?_);clear hK K;refine Zo 16 fun K hK=>?_;go_simp;refine (Jag bj2 _ tv3 (by have:=HFL.out;omega) H.ex.2 h3).mono ?_;rintro e wc2 ⟨rfl,hb⟩;replace H:=H.call hb;clear hb h3;refine hK _ _ H (nm ?_);clear hK K;refine th 17 215 (.bool false) H ?_;refine th 18 216 (.bool false) H ?_;refine Zd ?_;go_upto_region 42 with fail
      go_wp2_with fail
      go_loopg [23] n (fun q c23 wr=>∃p:Nat,n-p≤q∧p≤n∧c23=.int .i64 (p:Int)∧Rn.St w.heap.size (fun k=>(JA F2 jb fv2 k∨(Value.slice (some ⟨ha,0,none⟩) n hc).ownBlock=some k)∨(bj2.free≠[]∧(Value.slice ta fl tc).ownBlock=some k)) (fun u=>(Jn w u jb b F2 d2 g bj2 fv2∧OwnN u w.heap.size (.slice (some ⟨ha,0,none⟩) n hc) (Kk (zeros n) P2))∧IntsAt u (.slice ta fl tc) bj2.free) [(g1,[.int .i64 g.p,.int .i64 g.s,.int .i64 g.l,.int .i64 g.f]),(g8,Jy (fR g) hv ov ⟨(fA g).seg,(fA g).off,(fA g).seq,[]⟩ tv),(g10,tvs B2),(g11,u8s Z2),(g72,Jy (fR g) (.slice (some ⟨ha,0,none⟩) n hc) ov2 ⟨bj2.seg,bj2.off,bj2.seq,[]⟩ (.slice ta fl tc))] wr)
      case atStart=>exact⟨0,by omega,by omega,rfl,H⟩
      case round =>
       as_aux_lemma =>
        obtain⟨p,hq3,hpn,rfl,H2⟩:=hrel;clear H;have H:=H2;clear H2;have HQ3:=Zh hq3;have HP3:=Zh hpn;clear hq3 hpn;have c0:=(H.blk 0 _ _ rfl).cell (i:=0) (v:=.int .i64 g.p) rfl
        by_cases hlt3:p<n
        case neg =>
         have gp:decide ((p:Int)<g.p)=false:=decide_eq_false (by have:=HN.out;omega);have hi20:i≤20:=by have:=HL20.out;have:=HIM.out;omega
         go_wp2_with fail
         go_roundg (m-(i+1))
         case measure=>have:=HQ.out;have:=HLT.out;omega
         case rel=>exact⟨i+1,by omega,by have:=HLT.out;omega,rfl,P2,bj2,d2,X2,_,F2,fv2,B2,Z2,HLV2.out,HP2.out,HC2.out,(St.less H H.ex.1.1 (Stays.jn Zy) (fun k hk=>.inl (.inl hk))).cut 4⟩
        have gp:decide ((p:Int)<g.p)=true:=decide_eq_true (by have:=HN.out;omega);go_upto_region 45 with fail;clear gp c0;have HLT3:=Zh hlt3;have HP64:Hid (p<64):=Zh (by have:=HN64.out;omega);obtain⟨hh,hx⟩:∃hh,(Kk (zeros n) P2)[p]? = some hh:=⟨_,List.getElem?_eq_getElem (by rw [HHL.out];exact hlt3)⟩
        have HX:=Zh hx;have hch:=HLV2.hd p hlt3;rw [jJ hx] at hch;obtain⟨cp2,hcp2⟩:∃c,its.foldl Qg C p=c:=⟨_,rfl⟩
        rw [hcp2] at hch;have HTH:Hid (B2[p]? = some cp2.isSome):=Zh (by rw [HC2.th p HP64.out,hcp2]);have HPGc:Hid (∀c,cp2=some c→Zz Z2 p=c):=Zh fun c hc=>HC2.pg p HP64.out c (hcp2.trans hc);have HPC:Hid (∀u,Vars u→De.Dv w u b F2 d2→Calls Tryz.prog 13 #[.pointer (some ⟨b,0,none⟩),g.v,.int .i64 p,.int .i64 hh] u fun e w'=>Jgp cp2 e∧Below u.heap.size u w'):=Zh fun u hv hd=>J3l HG.out HLV2.sn.rec_ (by have:=HN.out;omega) hch (by have:=HLV2.len;have:=HT.out;omega) HLV2.sn.img (by rw [HLV2.l];decide) u hv hd;clear hlt3 hx hch hcp2
        go_cut [24,25] from 217 to 260 (fun s24 s25 wx=>∃g24 cv ev,s24=.pointer (some ⟨g24,0,none⟩)∧s25=.int .i64 ev∧PgV cp2 cv ev∧Rn.St w.heap.size (fun k=>(JA F2 jb fv2 k∨(Value.slice (some ⟨ha,0,none⟩) n hc).ownBlock=some k)∨(bj2.free≠[]∧(Value.slice ta fl tc).ownBlock=some k)) (fun u=>(Jn w u jb b F2 d2 g bj2 fv2∧OwnN u w.heap.size (.slice (some ⟨ha,0,none⟩) n hc) (Kk (zeros n) P2))∧IntsAt u (.slice ta fl tc) bj2.free) [(g1,[.int .i64 g.p,.int .i64 g.s,.int .i64 g.l,.int .i64 g.f]),(g8,Jy (fR g) hv ov ⟨(fA g).seg,(fA g).off,(fA g).seq,[]⟩ tv),(g10,tvs B2),(g11,u8s Z2),(g72,Jy (fR g) (.slice (some ⟨ha,0,none⟩) n hc) ov2 ⟨bj2.seg,bj2.off,bj2.seq,[]⟩ (.slice ta fl tc)),(g24,cv)] wx)
        case first =>
         as_aux_lemma =>
          refine J9 (fun wq=>Rn.St w.heap.size (fun k=>(JA F2 jb fv2 k∨(Value.slice (some ⟨ha,0,none⟩) n hc).ownBlock=some k)∨(bj2.free≠[]∧(Value.slice ta fl tc).ownBlock=some k)) (fun u=>(Jn w u jb b F2 d2 g bj2 fv2∧OwnN u w.heap.size (.slice (some ⟨ha,0,none⟩) n hc) (Kk (zeros n) P2))∧IntsAt u (.slice ta fl tc) bj2.free) [(g1,[.int .i64 g.p,.int .i64 g.s,.int .i64 g.l,.int .i64 g.f]),(g8,Jy (fR g) hv ov ⟨(fA g).seg,(fA g).off,(fA g).seq,[]⟩ tv),(g10,tvs B2),(g11,u8s Z2),(g72,Jy (fR g) (.slice (some ⟨ha,0,none⟩) n hc) ov2 ⟨bj2.seg,bj2.off,bj2.seq,[]⟩ (.slice ta fl tc))] wq) (by kernel_rfl) ?_;replace H:=H.drew;generalize wr.drew=w0 at *;refine th 0 224 (.pointer (some ⟨b,0,none⟩)) H ?_;refine th 1 225 (.agg ([.int .i64 g.p,.int .i64 g.s,.int .i64 g.l,.int .i64 g.f]).toArray) H ?_ (hy:=fun u hS=>Kj (Je g) (hS.blk 0 _ _ rfl) _ _ _ rfl rfl);refine th 2 226 (.int .i64 (p:Int)) H ?_;refine th 3 227 (.pointer (some ⟨g72,16,none⟩)) H ?_;refine th 4 228 (.slice (some ⟨ha,0,none⟩) n hc) H ?_ (hy:=fun u hS=>by have hq:=(hS.blk 4 _ _ rfl).cell (i:=16) (v:=.slice (some ⟨ha,0,none⟩) n hc) rfl;go_simp);refine th 5 229 (.int .i64 (p:Int)) H ?_;refine th 6 230 (.pointer (some ⟨ha,p,none⟩)) H ?_ (hy:=fun u hS=>by have hq:=HLT3.out;go_simp);refine th 7 231 (.int .i64 hh) H ?_ (hy:=fun u hS=>by have hq:=IntsAt.atc (OwnN.ints hS.ex.1.2) HX.out;rw [Nat.zero_add] at hq;go_simp);refine kO 8 12 (by kernel_rfl) rfl rfl rfl rfl (fun K hK=>?_) (fun K hK=>?_)
          · go_simp;refine (HPC.out _ (HV.below Zy H.ex.1.1.dv.2) H.ex.1.1.dv).mono ?_;rintro e wd ⟨hpo,hb⟩;obtain⟨cv,ev,rfl,hpv⟩:=hpo.to;replace H:=H.call hb;have HPV:=Zh hpv;clear hb hpo hpv;refine hK _ _ H (nm ?_);clear hK K;refine th 9 223 (.tuple #[.agg cv.toArray,.int .i64 ev]) H ?_;refine th 10 233 (.agg cv.toArray) H ?_;refine th 11 234 (.int .i64 ev) H ?_;refine Zo 12 fun K hK=>?_;refine Jf (some 24) rfl _ _ (JB _ _ _ 45 rfl _ KA) ?_;have hA:Blk (wd.alloc (.cells chZ.toArray 45)) wd.heap.size chZ:=Blk.new wd chZ.toArray 45;replace H:=H.new chz_ob.ns hA (Zq.alloc Zy _);clear hA;refine hK _ _ (H.cut 5) (nm ?_);clear hK K;generalize wd.alloc (.cells chZ.toArray 45)=we at *;generalize wd.heap.size=g24 at *;refine Zo 13 fun K hK=>?_;refine stH HPV.out.2 (Ob.len HPV.out.2 chz_ob) (H.blk 5 _ _ rfl) ?_;intro wf hD hO;replace H:=St.via H 5 rfl HPV.out.2.ns hD hO;refine hK _ _ (H.cut 5) (nm ?_);clear hK K;refine th 14 25 (.int .i64 ev) (H.cut 5) ?_;refine Zd ?_
            go_wp2_with fail
            go_meet
            exact⟨_,cv,ev,rfl,rfl,HPV.out,H⟩
          · refine Jf (some 24) rfl _ _ (JB _ _ _ 45 rfl _ KA) ?_;have hA:Blk (w0.alloc (.cells chZ.toArray 45)) w0.heap.size chZ:=Blk.new w0 chZ.toArray 45;replace H:=H.new chz_ob.ns hA (Zq.alloc Zy _);clear hA;refine hK _ _ (H.cut 5) (nm ?_);clear hK K;generalize w0.alloc (.cells chZ.toArray 45)=we at *;generalize w0.heap.size=g24 at *;refine Zo 8 fun K hK=>?_;go_simp;refine (HPC.out _ (HV.below Zy H.ex.1.1.dv.2) H.ex.1.1.dv).mono ?_;rintro e wd ⟨hpo,hb⟩;obtain⟨cv,ev,rfl,hpv⟩:=hpo.to;replace H:=H.call hb;have HPV:=Zh hpv;clear hb hpo hpv;refine hK _ _ (H.cut 5) (nm ?_);clear hK K;refine th 9 223 (.tuple #[.agg cv.toArray,.int .i64 ev]) (H.cut 5) ?_;refine th 10 233 (.agg cv.toArray) (H.cut 5) ?_;refine th 11 234 (.int .i64 ev) (H.cut 5) ?_;refine Zo 13 fun K hK=>?_;refine stH HPV.out.2 (Ob.len HPV.out.2 chz_ob) (H.blk 5 _ _ rfl) ?_;intro wf hD hO;replace H:=St.via H 5 rfl HPV.out.2.ns hD hO;refine hK _ _ (H.cut 5) (nm ?_);clear hK K;refine th 14 25 (.int .i64 ev) (H.cut 5) ?_;refine Zd ?_
            go_wp2_with fail
            go_meet
            exact⟨_,cv,ev,rfl,rfl,HPV.out,H⟩
        case rest =>
         obtain⟨g24,cv,ev,rfl,rfl,hpv,H2⟩:=hcut;clear H HPC;have H:=H2;clear H2;have hp64:p≤64:=by have:=HP64.out;omega
         go_upto_region 46 with fail;rcases hpv.1 with ⟨hcq,rfl⟩|⟨l5,sv5,hcq,hl5,rfl,rfl⟩
         · as_aux_lemma =>
            rw [hcq] at HTH;refine J9 (fun wq=>Rn.St w.heap.size (fun k=>(JA F2 jb fv2 k∨(Value.slice (some ⟨ha,0,none⟩) n hc).ownBlock=some k)∨(bj2.free≠[]∧(Value.slice ta fl tc).ownBlock=some k)) (fun u=>(Jn w u jb b F2 d2 g bj2 fv2∧OwnN u w.heap.size (.slice (some ⟨ha,0,none⟩) n hc) (Kk (zeros n) P2))∧IntsAt u (.slice ta fl tc) bj2.free) [(g1,[.int .i64 g.p,.int .i64 g.s,.int .i64 g.l,.int .i64 g.f]),(g8,Jy (fR g) hv ov ⟨(fA g).seg,(fA g).off,(fA g).seq,[]⟩ tv),(g10,tvs B2),(g11,u8s Z2),(g72,Jy (fR g) (.slice (some ⟨ha,0,none⟩) n hc) ov2 ⟨bj2.seg,bj2.off,bj2.seq,[]⟩ (.slice ta fl tc)),(g24,cv)] wq) (by kernel_rfl) ?_;replace H:=H.drew;generalize World.drew _=w0 at *;refine th 0 235 (.int .i64 17) H ?_;refine th 1 236 (.bool false) H ?_;refine th 2 237 (.int .i64 (p:Int)) H ?_;refine th 3 238 (.pointer (some ⟨g10,p,none⟩)) H ?_ (hy:=fun u hS=>by have hq:=HP64.out;go_simp;intro hq2;omega);refine th 4 239 (.bool false) H ?_ (hy:=fun u hS=>by have hq:=(hS.blk 2 _ _ rfl).cell (i:=p) (v:=.bool false) (Zx HTH.out);go_simp);refine th 5 240 (.bool false) H ?_;refine th 6 241 (.bool false) H ?_;refine th 7 242 (.int .i64 17) H ?_;refine th 8 243 (.bool false) H ?_;refine th 9 244 (.bool false) H ?_;refine ph 10 245 H ?_;refine ph 11 246 H ?_;refine ph 12 247 H ?_;refine ph 13 248 H ?_;refine ph 14 249 H ?_;refine ph 15 250 H ?_;refine th 16 251 (.bool false) H ?_;refine th 17 252 (.bool false) H ?_;refine th 18 253 (.bool false) H ?_;refine th 19 254 (.int .i64 17) H ?_;refine th 20 255 (.bool true) H ?_;refine th 21 256 (.bool true) H ?_;refine th 22 257 (.int .i64 17) H ?_;refine th 23 258 (.bool false) H ?_;refine th 24 259 (.bool false) H ?_;refine th 25 260 (.bool false) H ?_;refine Zd ?_
            go_wp2_with fail
            go_roundg (n-(p+1))
            case measure=>have:=HQ3.out;have:=HLT3.out;omega
            case rel=>exact⟨p+1,by omega,by have:=HLT3.out;omega,rfl,H.cut 5⟩
         · as_aux_lemma =>
            rw [hcq] at HTH HPGc;have hq:=HPGc.out _ rfl;subst hq;have HL5:=Zh hl5;clear hl5;refine J9 (fun wq=>Rn.St w.heap.size (fun k=>(JA F2 jb fv2 k∨(Value.slice (some ⟨ha,0,none⟩) n hc).ownBlock=some k)∨(bj2.free≠[]∧(Value.slice ta fl tc).ownBlock=some k)) (fun u=>(Jn w u jb b F2 d2 g bj2 fv2∧OwnN u w.heap.size (.slice (some ⟨ha,0,none⟩) n hc) (Kk (zeros n) P2))∧IntsAt u (.slice ta fl tc) bj2.free) [(g1,[.int .i64 g.p,.int .i64 g.s,.int .i64 g.l,.int .i64 g.f]),(g8,Jy (fR g) hv ov ⟨(fA g).seg,(fA g).off,(fA g).seq,[]⟩ tv),(g10,tvs B2),(g11,u8s Z2),(g72,Jy (fR g) (.slice (some ⟨ha,0,none⟩) n hc) ov2 ⟨bj2.seg,bj2.off,bj2.seq,[]⟩ (.slice ta fl tc)),(g24,chC sv5 (Zz Z2 p))] wq) (by kernel_rfl) ?_;replace H:=H.drew;generalize World.drew _=w0 at *;refine th 0 235 (.int .i64 0) H ?_;refine th 1 236 (.bool true) H ?_;refine th 2 237 (.int .i64 (p:Int)) H ?_;refine th 3 238 (.pointer (some ⟨g10,p,none⟩)) H ?_ (hy:=fun u hS=>by have hq:=HP64.out;go_simp;intro hq2;omega);refine th 4 239 (.bool true) H ?_ (hy:=fun u hS=>by have hq:=(hS.blk 2 _ _ rfl).cell (i:=p) (v:=.bool true) (Zx HTH.out);go_simp);refine th 5 240 (.bool false) H ?_;refine th 6 241 (.bool false) H ?_;refine th 7 242 (.int .i64 0) H ?_;refine th 8 243 (.bool true) H ?_;refine th 9 244 (.bool true) H ?_;refine th 10 245 (.pointer (some ⟨g24,1,none⟩)) H ?_;refine th 11 246 (.agg (u8s (Zz Z2 p)).toArray) H ?_ (hy:=fun u hS=>Q9 (c:=1) (KD HL5.out) (jf _ _) (hS.blk 5 _ _ rfl) rfl _ _ _ rfl rfl);refine th 12 247 (.int .i64 (p:Int)) H ?_;refine th 13 248 (.pointer (some ⟨g11,p*32,none⟩)) H ?_ (hy:=fun u hS=>by have hq:=HP64.out;go_simp;intro hq2;omega);refine th 14 249 (.agg (u8s (Zz Z2 p)).toArray) H ?_ (hy:=fun u hS=>Q9 (c:=p*32) (KD HL5.out) (yO Z2 p) (hS.blk 3 _ _ rfl) (yP HC2.lz HP64.out) _ _ _ rfl rfl);refine th 15 250 (.bool false) H ?_ (hy:=fun u hS=>Jcu _ _ _ _ _ (Zz Z2 p) HL5.out rfl rfl rfl);refine th 16 251 (.bool false) H ?_;refine th 17 252 (.bool false) H ?_;refine th 18 253 (.bool false) H ?_;refine th 19 254 (.int .i64 0) H ?_;refine th 20 255 (.bool false) H ?_;refine th 21 256 (.bool false) H ?_;refine ph 22 257 H ?_;refine ph 23 258 H ?_;refine th 24 259 (.bool false) H ?_;refine th 25 260 (.bool false) H ?_;refine Zd ?_
            go_wp2_with fail
            go_roundg (n-(p+1))
            case measure=>have:=HQ3.out;have:=HLT3.out;omega
            case rel=>exact⟨p+1,by omega,by have:=HLT3.out;omega,rfl,H.cut 5⟩
    have gk:decide ((k:Int)<(rn:Int))=true:=decide_eq_true (by omega);have HLT2:=Zh hlt2;obtain⟨⟨id,v⟩,hx⟩:∃x,r[k]? = some x:=⟨_,List.getElem?_eq_getElem (by have:=HRN.out;omega)⟩
    obtain⟨⟨hsm,hby⟩,qb,qo,hra,hd0,hd1⟩:=HROW.out k _ hx;simp only at hsm hby hd0 hd1;subst hra;have HD1:=Zh hd1;have HBY:=Zh hby;have e1:=(H.ex.1.dv.2.cell (block_lt_of_cell hd0)).trans hd0;have HSM:=Zh hsm;clear hlt2 hx hd0 hd1 hsm hby
    go_wp2_with fail
    refine (Jfy id mo HSM.out HM1.out.1 (by have:=HM1.out.2.1;omega) _).mono ?_;rintro e wm ⟨⟨j,hj,rfl⟩,rfl⟩;have HJ:Hid (j<mo):=Zh hj;have HJ64:Hid (j<64):=Zh (by have:=HM1.out.2.1;omega);clear hj e1;go_upto_region 24 with fail;clear e0 gk gi;obtain⟨mb,hmb⟩:∃mb,M[j]? = some mb:=⟨_,HITS.me.at_ j HJ64.out⟩
    have HMB:=Zh hmb;have c16:=(H.blk 4 _ _ rfl).cell (i:=j) (v:=.bool mb) (Zx hmb);clear hmb;refine Zl ?_;refine tk (.int .i64 (j:Int)) ?_;refine tk (.pointer (some ⟨g41,j,none⟩)) ?_ (hr:=by go_simp;intro hq;have:=HJ64.out;omega);refine tk (.bool mb) ?_;refine Zn ?_;clear c16;have hk1:k≤100:=by have:=HLT2.out;have:=HR100.out;omega
    cases mb with
    | true =>
     go_wp2_with fail
     go_roundg (rn-(k+1))
     case measure=>have:=HQ2.out;have:=HLT2.out;omega
     case rel=>exact⟨k+1,its,_,B2,Z2,M,by omega,by have:=HLT2.out;omega,rfl,rfl,HITS.out,HC2.out,H⟩
    | false =>
     go_upto_region 25 with fail;refine Zl ?_;refine tk (.int .i64 (j:Int)) ?_;refine tk (.pointer (some ⟨g41,j,none⟩)) ?_ (hr:=by go_simp;intro hq;have:=HJ64.out;omega);refine sc H 4 j (v:=.bool true) (fun t h=>by cases h) ?_ (hl:=Zx HMB.out);clear H;intro wb H;rw [jj] at H;refine Zn ?_;have e0:=(H.ex.1.dv.2.cell (block_lt_of_cell HCL.out)).trans HCL.out;have e2:=(H.ex.1.dv.2.cell (block_lt_of_cell HD1.out)).trans HD1.out;have gk:decide ((k:Int)<(rn:Int))=true:=decide_eq_true (by have:=HLT2.out;omega);have gi:decide ((i:Int)<(m:Int))=true:=decide_eq_true (by have:=HLT.out;omega);have hcv:v.tmod 3=0∨v.tmod 3=1∨v.tmod 3=2:=by have h1:=HBY.out.1;have h2:=Int.tmod_nonneg 3 h1;have h3:=Int.tmod_lt_of_pos v (show (0:Int)<3 by decide);omega
     have HVM:=Zh hcv;clear hcv;obtain⟨vm,hvm⟩:∃vm,v.tmod 3=vm:=⟨_,rfl⟩
     rw [hvm] at HVM;have hit:=HITS.len;have HIL:Hid (its.length≤100):=Zh (by have:=HM1.out.2.1;omega);clear hit;have hjs:Jh (j:Int):=⟨by omega,by have:=HJ64.out;omega⟩
     have HJS:=Zh hjs;clear hjs;go_upto_region 29 with fail;clear e0 e2 gk gi hvm;have HMX:∀x:It,(x=KW 4 j∨x=KW 5 j∨∃v,Ks v∧x=X5 j v)→Its mo (M.set j true) (its++[x]):=fun x hx=>HITS.more (by have:=HM1.out.2.1;omega) HJ.out hx HMB.out;have HMX:=Zh HMX
     by_cases hv0:vm=0
     · subst hv0;clear HVM;go_upto_region 30 with fail;refine Zl ?_;refine tk (u15) ?_;refine tk (.int .i64 (j:Int)) ?_;refine tk (.agg #[.int .i64 4,.int .i64 (j:Int)]) ?_ (hr:=by exact J8 _ _ _ _ 79 _ rfl #[(0,.int .i64 4),(1,.int .i64 (j:Int))] (by simp [go_sem]) _ (run_build _ 79 _ _ (xX _ _)));refine tk (.agg ((KW 4 j).arr nb)) ?_ (hr:=by exact J8 _ _ _ _ 84 _ rfl #[(0,.agg #[.int .i64 4,.int .i64 (j:Int)])] (by simp [go_sem]) _ (run_build _ 84 _ _ (zM _ _)));refine J3o H Zy HBW.out HJB.out (x:=KW 4 j) (XV (QO 4 (by decide)) HJS.out) rfl HIL.out rfl rfl rfl (fun _=>rfl) (fun _=>rfl) (fun _=>rfl) fun sv3 w3 gl H3=>?_;clear H;have H:=H3;clear H3;refine nm ?_;refine tk (sv3) ?_;go_upto_region 31 with fail;refine Zl ?_;refine tk (.int .i64 (j:Int)) ?_;refine tk (.int .i64 (j:Int)) ?_;refine tk (.agg (u8s (zeros 32)).toArray) ?_ (hr:=by exact J8 _ _ _ _ 43 _ rfl #[] (by simp) _ (run_build _ 43 _ _ (by kernel_rfl)));refine tk (.pointer (some ⟨g10,j,none⟩)) ?_ (hr:=by go_simp;intro hq;have:=HJ64.out;omega);refine sc H 2 j (v:=.bool true) (fun t h=>by cases h) ?_ (hl:=Zx (HC2.th j HJ64.out));clear H;intro wt H;rw [jj] at H;refine tk (.pointer (some ⟨g11,j*32,none⟩)) ?_ (hr:=by go_simp;intro hq;have:=HJ64.out;omega);refine stP (KD (J1 32)) (by rw [List.length_map,List.length_map,J0t HC2.lz HJ64.out,(J1 32)]) (u8s_noStr (Y2 Z2 j (zeros 32))) H 3 (yO Z2 j) (J4z Z2 j (zeros 32)) ?_ (hc:=(yP HC2.lz HJ64.out));clear H;intro wp H;refine Zn ?_;have HK1:Hid (k≤100):=Zh (by have:=HLT2.out;have:=HR100.out;omega);have hk1:k≤100:=HK1.out
       go_wp2_with fail
       go_roundg (rn-(k+1))
       case measure=>have:=HQ2.out;have:=HLT2.out;omega
       case rel=>exact⟨k+1,its++[KW 4 j],_,_,(Y2 Z2 j (zeros 32)),_,by omega,by have:=HLT2.out;omega,rfl,rfl,HMX.out _ (.inl rfl),by rw [ZA];exact HC2.yes HJ64.out (J1 32) rfl rfl,H⟩
     by_cases hv1:vm=1
     · subst hv1;clear HVM hv0;go_upto_region 33 with fail;refine Zl ?_;refine tk (u15) ?_;refine tk (.int .i64 (j:Int)) ?_;refine tk (.agg #[.int .i64 5,.int .i64 (j:Int)]) ?_ (hr:=by exact J8 _ _ _ _ 79 _ rfl #[(0,.int .i64 5),(1,.int .i64 (j:Int))] (by simp [go_sem]) _ (run_build _ 79 _ _ (xX _ _)));refine tk (.agg ((KW 5 j).arr nb)) ?_ (hr:=by exact J8 _ _ _ _ 84 _ rfl #[(0,.agg #[.int .i64 5,.int .i64 (j:Int)])] (by simp [go_sem]) _ (run_build _ 84 _ _ (zM _ _)));refine J3o H Zy HBW.out HJB.out (x:=KW 5 j) (XV (QO 5 (by decide)) HJS.out) rfl HIL.out rfl rfl rfl (fun _=>rfl) (fun _=>rfl) (fun _=>rfl) fun sv3 w3 gl H3=>?_;clear H;have H:=H3;clear H3;refine nm ?_;refine tk (sv3) ?_;go_upto_region 34 with fail;refine Zl ?_;refine tk (.int .i64 (j:Int)) ?_;refine tk (.pointer (some ⟨g10,j,none⟩)) ?_ (hr:=by go_simp;intro hq;have:=HJ64.out;omega);refine sc H 2 j (v:=.bool false) (fun t h=>by cases h) ?_ (hl:=Zx (HC2.th j HJ64.out));clear H;intro wt H;rw [jj] at H;refine Zn ?_;have HK1:Hid (k≤100):=Zh (by have:=HLT2.out;have:=HR100.out;omega);have hk1:k≤100:=HK1.out
       go_wp2_with fail
       go_roundg (rn-(k+1))
       case measure=>have:=HQ2.out;have:=HLT2.out;omega
       case rel=>exact⟨k+1,its++[KW 5 j],_,_,Z2,_,by omega,by have:=HLT2.out;omega,rfl,rfl,HMX.out _ (.inr (.inl rfl)),by rw [ZA];exact HC2.no HJ64.out rfl rfl,H⟩
     obtain rfl:vm=2:=by have:=HVM.out;omega
     clear HVM hv0 hv1;go_upto_region 27 with fail;refine Zl ?_;have e0:=(H.ex.1.dv.2.cell (block_lt_of_cell HCL.out)).trans HCL.out;have e2:=(H.ex.1.dv.2.cell (block_lt_of_cell HD1.out)).trans HD1.out;have gk:decide ((k:Int)<(rn:Int))=true:=decide_eq_true (by have:=HLT2.out;omega);have gi:decide ((i:Int)<(m:Int))=true:=decide_eq_true (by have:=HLT.out;omega);refine tk (u15) ?_;refine tk (.int .i64 (j:Int)) ?_;refine tk (.slice (some ⟨lg,lo,none⟩) m cp) ?_;refine tk (.int .i64 (i:Int)) ?_;refine tk (.pointer (some ⟨lg,lo+i,none⟩)) ?_;refine tk (.slice (some ⟨qb,qo,none⟩) rn rc) ?_;refine tk (.int .i64 (k:Int)) ?_;refine tk (.pointer (some ⟨qb,qo+k*2,none⟩)) ?_;refine tk (.pointer (some ⟨qb,qo+k*2+1,none⟩)) ?_;refine tk (.int .u8 v) ?_;clear e0 e2 gk gi;refine J0 rfl fun K hK=>?_;go_simp;refine (xc j v HJS.out HBY.out _).mono ?_;rintro e wi ⟨rfl,hb⟩;replace H:=H.call hb;refine hK _ _ ?_;clear hK K hb;refine nm ?_;refine J3o H Zy HBW.out HJB.out (x:=X5 j v) (Y6 HJS.out HBY.out) rfl HIL.out rfl rfl rfl (fun _=>rfl) (fun _=>rfl) (fun _=>rfl) fun sv3 w3 gl H3=>?_;clear H;have H:=H3;clear H3;refine nm ?_;refine tk (sv3) ?_;go_upto_region 28 with fail;have gk:decide ((k:Int)<(rn:Int))=true:=decide_eq_true (by have:=HLT2.out;omega);have gi:decide ((i:Int)<(m:Int))=true:=decide_eq_true (by have:=HLT.out;omega);have HGK:=Zh gk;have HGI:=Zh gi;have HCS:Hid (∀u:World,Below w.heap.size w u→u.cell? ⟨lg,lo+i,none⟩=some (.slice (some ⟨qb,qo,none⟩) rn rc)∧u.cell? ⟨qb,qo+k*2+1,none⟩=some (.int .u8 v)):=Zh fun u hb=>⟨(hb.cell (block_lt_of_cell HCL.out)).trans HCL.out,(hb.cell (block_lt_of_cell HD1.out)).trans HD1.out⟩
     clear gk gi;refine J9 (fun wq=>Below w.heap.size w wq) (by kernel_rfl) ?_;replace H:=H.drew;refine th 0 141 (.int .i64 (j:Int)) H.ex.1.dv.2 ?_;refine th 1 142 (.int .i64 (j:Int)) H.ex.1.dv.2 ?_;refine th 2 143 (.slice (some ⟨lg,lo,none⟩) m cp) H.ex.1.dv.2 ?_;refine th 3 144 (.int .i64 (i:Int)) H.ex.1.dv.2 ?_;refine th 4 145 (.pointer (some ⟨lg,lo+i,none⟩)) H.ex.1.dv.2 ?_ (hy:=fun u hS=>by have hq:=HGI.out;go_simp);refine th 5 146 (.slice (some ⟨qb,qo,none⟩) rn rc) H.ex.1.dv.2 ?_ (hy:=fun u hS=>by have hq:=(HCS.out u hS).1;go_simp);refine th 6 147 (.int .i64 (k:Int)) H.ex.1.dv.2 ?_;refine th 7 148 (.pointer (some ⟨qb,qo+k*2,none⟩)) H.ex.1.dv.2 ?_ (hy:=fun u hS=>by have hq:=HGK.out;go_simp);refine th 8 149 (.pointer (some ⟨qb,qo+k*2+1,none⟩)) H.ex.1.dv.2 ?_;refine th 9 150 (.int .u8 v) H.ex.1.dv.2 ?_ (hy:=fun u hS=>by have hq:=(HCS.out u hS).2;go_simp);refine th 11 152 (.pointer (some ⟨g10,j,none⟩)) H.ex.1.dv.2 ?_ (hy:=fun u hS=>by go_simp;intro hq;have:=HJ64.out;omega);refine Zo 10 fun K hK=>?_;go_simp;refine (kU v _).mono ?_;rintro e wl ⟨rfl,hb⟩;replace H:=H.call hb;refine hK _ _ H.ex.1.dv.2 ?_;clear hK K hb;refine nm ?_;refine Zo 12 fun K hK=>?_;refine scH (.bool true) ((H.blk 2 _ _ rfl).cell (i:=j) (Zx (HC2.th j HJ64.out))) ((H.blk 2 _ _ rfl).frozen j) ?_;have H3:=Rn.St.put H (M:=(tvs B2).set j (.bool true)) 2 rfl (by rw [jj];exact Jcp _) ((H.blk 2 _ _ rfl).set j (.bool true)) ((Only.refl (fun k=>k=g10) _).setCell (p:=⟨g10,j,none⟩) (.inl rfl) (.bool true));clear H;have H:=H3;clear H3;rw [jj] at H;generalize World.setCell _ _ _=ws at *;refine hK _ _ H.ex.1.dv.2 (nm ?_);clear hK K;refine th 13 153 (.pointer (some ⟨g11,j*32,none⟩)) H.ex.1.dv.2 ?_ (hy:=fun u hS=>by go_simp;intro hq;have:=HJ64.out;omega);refine Zo 14 fun K hK=>?_;refine Jia (KD (J3q v)) (by rw [List.length_map,List.length_map,J0t HC2.lz HJ64.out,J3q]) (yO Z2 j) (J4z Z2 j (rp 32 v)) (H.blk 3 _ _ rfl) (yP HC2.lz HJ64.out) ?_;intro wp hD hO;have H3:=Rn.St.put H (M:=u8s (Y2 Z2 j (rp 32 v))) 3 rfl (u8s_noStr _) hD hO;clear H hD hO;have H:=H3;clear H3;refine hK _ _ H.ex.1.dv.2 (nm ?_);clear hK K;refine Zd ?_;clear HGK HGI HCS;have HK1:Hid (k≤100):=Zh (by have:=HLT2.out;have:=HR100.out;omega);have hk1:k≤100:=HK1.out
     go_wp2_with fail
     go_roundg (rn-(k+1))
     case measure=>have:=HQ2.out;have:=HLT2.out;omega
     case rel=>exact⟨k+1,its++[X5 j v],_,_,(Y2 Z2 j (rp 32 v)),_,by omega,by have:=HLT2.out;omega,rfl,rfl,HMX.out _ (.inr (.inr ⟨v,HBY.out,rfl⟩)),by rw [ZA];exact HC2.yes HJ64.out (J3q v) rfl rfl,H⟩
end Go.Proofs.YtdbfmikeaoaebaaGreatDoor
