/- Steps. -/
import Derived.Test.YtdbfmikeaoaebaaGreatDoorLag
import Derived.Test.YtdbfmikeaoaebaaGreatDoorLae
set_option linter.unusedSimpArgs false
set_option linter.unusedVariables false
set_option maxRecDepth 100000
set_option maxHeartbeats 4000000
namespace Go.Proofs.YtdbfmikeaoaebaaGreatDoor
open Go.RowKit
variable {X:List (List Int)} {i n:Nat} {q:Int}
structure Img (d:De.D) (X:List (List Int)):Prop where
 v:De.app d.S d.L=X.map fun y=>(u8s y).toArray
 sc:∀y∈X,Sc y
theorem Img.len{d:De.D}(h:Img d X):d.S.length=X.length:=by
 have:=congrArg List.length h.v;simpa using this
theorem J4g(t:Nat):Img (De.Ki t) (List.replicate t (zeros 64)):=by
 refine⟨?_,fun y hy=>?_⟩
 · show List.replicate t (De.JM 0)=_;rw [List.map_replicate];congr 1
 · rw [List.eq_of_mem_replicate hy];exact zeros_sc
theorem Img.read{d:De.D}(h:Img d X){y:List Int}(hi:X[i]? = some y):d.read (i:Int)=(u8s y).toArray∧d.readE (i:Int)=0:=by
 have hl:=h.len;have hx:=(Zg hi).1;have hh:d.has (i:Int)=true:=by
  unfold De.D.has;simp only [Bool.and_eq_true,decide_eq_true_eq];omega
 constructor
 · unfold De.D.read;rw [if_pos hh,h.v,Int.toNat_natCast,List.getD_eq_getElem?_getD,List.getElem?_map,hi];rfl
 · unfold De.D.readE;rw [if_pos hh]
theorem Img.write{d:De.D}(h:Img d X){x:List Int}(hx:Sc x)(he:d.writeE (i:Int)=0):Img (d.write (i:Int) (u8s x).toArray) (X.set i x):=by
 have hh:d.has (i:Int)=true:=by
  cases e:d.has (i:Int)
  · unfold De.D.writeE at he;rw [e] at he;cases he
  · rfl
 have hf:¬d.F=0:=fun e=>by
  unfold De.D.writeE at he;rw [if_pos hh,if_pos e] at he;cases he
 have hw:d.write (i:Int) (u8s x).toArray={ d with F:=d.nextF,T:=d.T+1,L:=d.L++[((i:Int).toNat,(u8s x).toArray)] }:=by unfold De.D.write;rw [if_pos hh,if_neg hf]
 rw [hw];refine⟨?_,fun y hy=>?_⟩
 · show De.app d.S (d.L++[((i:Int).toNat,(u8s x).toArray)])=_;rw [De.ZU,h.v,List.map_set];simp only [Int.toNat_natCast]
 · rcases List.mem_or_eq_of_mem_set hy with hy|rfl
   · exact h.sc y hy
   · exact hx
theorem Img.wrsX{d:De.D}(h:Img d X)(Y:List (List Int))(hY:∀y∈Y,Sc y)(f:Nat)(hf:f+Y.length≤X.length)(ht:(wrs d (f:Int) Y).2=true) :
 ∃X',Img (wrs d (f:Int) Y).1 X'∧X'.length=X.length∧(∀k y,Y[k]? = some y→X'[f+k]? = some y)∧∀p,(p<f∨f+Y.length≤p)→X'[p]? = X[p]? := by
 induction Y generalizing d X f with
 | nil=>exact⟨X,h,rfl,fun k y hk=>by simp at hk,fun p _=>rfl⟩
 | cons x r ih =>
  simp only [List.length_cons] at hf
  by_cases he:d.writeE (f:Int)=0
  · have e:wrs d (f:Int) (x::r)=wrs (d.write (f:Int) (u8s x).toArray) ((f+1:Nat):Int) r:=by
     show (if d.writeE (f:Int)=0 then _ else _)=_;rw [if_pos he];rfl
    rw [e] at ht ⊢;obtain⟨X',h1,h2,h3,h4⟩:=ih (h.write (hY x (by simp)) he) (fun y hy=>hY y (List.mem_cons_of_mem _ hy)) (f+1) (by rw [List.length_set];omega) ht;refine⟨X',h1,by rw [h2,List.length_set],fun k y hk=>?_,fun p hp=>?_⟩
    · cases k with
      | zero =>
       simp only [List.getElem?_cons_zero,Option.some.injEq] at hk;subst hk;rw [Nat.add_zero,h4 f (.inl (by omega)),List.getElem?_set_self (by omega)]
      | succ k =>
       have:=h3 k y (by simpa using hk);rw [show f+(k+1)=f+1+k by omega];exact this
    · simp only [List.length_cons] at hp;rw [h4 p (by omega),List.getElem?_set_ne (by omega)]
  · exfalso;have e:(wrs d (f:Int) (x::r)).2=false:=by
     show (if d.writeE (f:Int)=0 then _ else _:De.D×Bool).2=_;rw [if_neg he]
    rw [e] at ht;cases ht
theorem Img.flush{d:De.D}(h:Img d X):Img d.flush X:=by
 unfold De.D.flush;split
 · exact⟨h.v,h.sc⟩
 · exact⟨h.v,h.sc⟩
theorem Img.wrAllX{d:De.D}(h:Img d X)(Y:List (List Int))(hY:∀y∈Y,Sc y)(f:Nat)(hf:f+Y.length≤X.length)(ht:(Kz d (f:Int) Y).2=true) :
 (Kz d (f:Int) Y).1.L=[]∧∃X',Img (Kz d (f:Int) Y).1 X'∧X'.length=X.length∧(∀k y,Y[k]? = some y→X'[f+k]? = some y)∧∀p,(p<f∨f+Y.length≤p)→X'[p]? = X[p]? := by
 by_cases hw:(wrs d (f:Int) Y).2=true
 · have e:Kz d (f:Int) Y=((wrs d (f:Int) Y).1.flush,decide ((wrs d (f:Int) Y).1.flushE=0)):=by unfold Kz;rw [if_pos hw]
   rw [e] at ht ⊢;simp only at ht ⊢;obtain⟨X',h1,h2⟩:=h.wrsX Y hY f hf hw;refine⟨?_,X',h1.flush,h2⟩;have h0:¬(wrs d (f:Int) Y).1.F=0:=fun e0=>by
    unfold De.D.flushE at ht;rw [if_pos e0] at ht;exact absurd ht (by decide)
   unfold De.D.flush;rw [if_neg h0]
 · exfalso;have e:(Kz d (f:Int) Y).2=false:=by unfold Kz;rw [if_neg hw]
   rw [e] at ht;cases ht
def gAt(X:List (List Int))(g:Pl.Gm)(a:Ja):Option (List It):=X0 a.seq ((X.drop (J6 g a).toNat).take (g.l-a.off).toNat)
def aft(a b1:Ja)(l:List It):Ja:=⟨b1.seg,b1.off+(Jd a.seq l).1.length,(a.seq+Km l)%M32,b1.free⟩
def pOf(g:Pl.Gm)(a b1:Ja)(l:List It):List Int:=(Jd a.seq l).2.map (Xx (J6 g b1))
def nxt(X:List (List Int))(g:Pl.Gm)(a:Ja):Option (List It×Ja):=match gAt X g a with
 | some l=>some (l,a)
 | none=>match a.free with
  | []=>none
  | f::r=>(gAt X g ⟨f,0,a.seq,r⟩).map fun l=>(l,⟨f,0,a.seq,r⟩)
inductive Way (X:List (List Int)) (g:Pl.Gm) (a:Ja):List (List It×List Int)→Ja→Prop where
 | nil:Way X g a [] a
 | snoc {P:List (List It×List Int)} {b b1:Ja} {l:List It}:Way X g a P b→nxt X g b=some (l,b1)→Way X g a (P++[(l,pOf g b b1 l)]) (aft b b1 l)
def itr(X:List (List Int))(g:Pl.Gm)(a:Ja):Nat→Option (List (List It×List Int)×Ja)
 | 0=>some ([],a)
 | n+1=>match itr X g a n with
  | none=>none
  | some (P,b)=>match nxt X g b with
   | none=>none
   | some (l,b1)=>some (P++[(l,pOf g b b1 l)],aft b b1 l)
theorem Way.itrX{g:Pl.Gm}{a b:Ja}{P:List (List It×List Int)}(h:Way X g a P b):itr X g a P.length=some (P,b):=by
 induction h with
 | nil=>rfl
 | snoc h hn ih =>
  rw [List.length_append];show itr X g a (_+1)=_;rw [itr,ih];simp only [hn]
theorem yh{g:Pl.Gm}{a b:Ja}{P:List (List It×List Int)}(h:itr X g a n=some (P,b))(hn:nxt X g b=none):∀k,itr X g a (n+1+k)=none
 | 0=>by
  rw [Nat.add_zero,itr,h];simp only [hn]
 | k+1=>by
  rw [←Nat.add_assoc,itr,yh h hn k]
theorem Way.uniq{g:Pl.Gm}{a b b':Ja}{P P':List (List It×List Int)}(h:Way X g a P b)(hn:nxt X g b=none)(h':Way X g a P' b')(hn':nxt X g b'=none):P'=P∧b'=b:=by
 have e:=h.itrX;have e':=h'.itrX;rcases Nat.lt_trichotomy P.length P'.length with hl|hl|hl
 · have:=yh e hn (P'.length-P.length-1);rw [show P.length+1+(P'.length-P.length-1)=P'.length by omega,e'] at this;cases this
 · rw [hl,e'] at e;injection e with e
   exact⟨congrArg Prod.fst e,congrArg Prod.snd e⟩
 · have:=yh e' hn' (P.length-P'.length-1);rw [show P'.length+1+(P.length-P'.length-1)=P.length by omega,e] at this;cases this
theorem Jhk{α:Type}{A B:List α}(h:A <+: B){x:α}(hi:A[i]? = some x):B[i]? = some x:=by
 obtain⟨r,rfl⟩:=h;rw [List.getElem?_append_left (Zg hi).1];exact hi
theorem YC{x:List Int}(h:KN x=true):x.getD 0 0=83:=by
 simp only [KN,Bool.and_eq_true,decide_eq_true_eq] at h;rw [←h.2];rfl
def NH(n:Int)(y:List Int):Prop:=KN y=true→(J5 y).seq≠n
theorem J4h(n:Int):NH n (zeros 64):=fun h=>by
 have:=YC h;exact absurd this (by decide)
theorem Jah{l:List It}(h:JH l=true)(w:∀x∈l,x.Wf)(n:Int)(hn:Kh n):∃y,(Jd n l).1[0]? = some y∧KN y=true∧(J5 y).seq=n:=by
 obtain⟨more,e⟩:=J5w h n hn;obtain⟨s1,s2,-⟩:=zl (Zc h (k:=0) (Qo h).1) (fun x hx=>w x (QK hx)) hn more;exact⟨_,e,s1,by rw [s2]⟩
theorem Jhl(hX:∀y∈X,Sc y)(f m:Nat):∀y∈(X.drop f).take m,Sc y:=fun y hy=>hX y (List.mem_of_mem_drop (List.mem_of_mem_take hy))
theorem zO(hX:∀y∈X,Sc y){g:Pl.Gm}{a:Ja}(hq:Kh a.seq)(h:a.off<g.l→∀y,X[(J6 g a).toNat]? = some y→NH a.seq y):gAt X g a=none:=by
 cases e:gAt X g a with
 | none=>rfl
 | some l =>
  exfalso;obtain⟨h1,h2,h3⟩:=(J5s (Jhl hX _ _)).1 e;obtain⟨y,e1,e2,e3⟩:=Jah h1 h2 a.seq hq;have e4:=Jhk h3 e1;rw [List.getElem?_take] at e4;split at e4
  · rw [List.getElem?_drop,Nat.add_zero] at e4;exact h (by omega) y e4 e2 e3
  · cases e4
theorem zP{g:Pl.Gm}{a:Ja}{l:List It}(h:JH l=true)(w:∀x∈l,x.Wf)(hn:((Jd a.seq l).1.length:Int)≤g.l-a.off)(hat:∀k y,(Jd a.seq l).1[k]? = some y→X[(J6 g a).toNat+k]? = some y):gAt X g a=some l:=by
 refine zn h w (List.prefix_iff_getElem?.2 fun i hi=>?_);rw [List.getElem?_take,if_pos (by omega),List.getElem?_drop];exact hat i _ (List.getElem?_eq_getElem hi)
theorem yi{g:Pl.Gm}{b:Ja}(hg:b.good g=true){f:Int}{r:List Int}(hf:b.free=f::r):f≠b.seg:=fun e=>by
 have hno:=Xp (Ja.good_parts hg).2.2.2.2;rw [hf,e] at hno;exact hno List.mem_cons_self
theorem Jai{g:Pl.Gm}{b b1:Ja}{l:List It}(hnx:Nx g b b1 (Jd b.seq l).1.length)(hs:ZX b b1)(h:JH l=true)(w:∀x∈l,x.Wf)(hat:∀k y,(Jd b.seq l).1[k]? = some y→X[(J6 g b1).toNat+k]? = some y)(hno:b1≠b→gAt X g b=none)(hg:b.good g=true):nxt X g b=some (l,b1):=by
 have hoff:=hnx.off;rcases hs with rfl|⟨f,r,hf,rfl⟩
 · unfold nxt;rw [zP h w (by omega) hat]
 · have hne:(⟨f,0,b.seq,r⟩:Ja)≠b:=fun e=>yi hg hf (by rw [←e]);unfold nxt;rw [hno hne];simp only [hf];rw [zP (a:=⟨f,0,b.seq,r⟩) h w (by simp only at hoff ⊢;omega) hat];rfl
inductive Rcd (X:List (List Int)) (g:Pl.Gm) (a:Ja):List (List It×List Int)→Ja→Prop where
 | nil:Rcd X g a [] a
 | snoc {P:List (List It×List Int)} {b b1:Ja} {l:List It}:Rcd X g a P b→b.good g=true→Nx g b b1 (Jd b.seq l).1.length→ZX b b1→JH l=true→(∀x∈l,x.Wf)→(∀k y,(Jd b.seq l).1[k]? = some y→X[(J6 g b1).toNat+k]? = some y)→(b1≠b→gAt X g b=none)→Rcd X g a (P++[(l,pOf g b b1 l)]) (aft b b1 l)
theorem Rcd.chain{g:Pl.Gm}{a b:Ja}{P:List (List It×List Int)}(h:Rcd X g a P b):Way X g a P b:=by
 induction h with
 | nil=>exact .nil
 | snoc _ hg hnx hs hm w hat hno ih=>exact .snoc ih (Jai hnx hs hm w hat hno hg)
theorem zQ{X':List (List Int)}{g:Pl.Gm}{a:Ja}(h:∀i,i<(g.l-a.off).toNat→X'[(J6 g a).toNat+i]? = X[(J6 g a).toNat+i]?):gAt X' g a=gAt X g a:=by
 unfold gAt;congr 1;refine List.ext_getElem? fun i=>?_;rw [List.getElem?_take,List.getElem?_take];split
 · rw [List.getElem?_drop,List.getElem?_drop];exact h i (by omega)
 · rfl
theorem QP{g:Pl.Gm}{a:Ja}(h:a.good g=true):(((J6 g a).toNat:Nat):Int)=4+a.seg*g.l+a.off∧4≤(J6 g a).toNat:=by
 obtain⟨h1,h2,h3,h4,-⟩:=Ja.good_parts h;have h0:0≤a.seg*g.l:=Int.mul_nonneg h2.1 (by omega);unfold J6;omega
theorem Rcd.keep{X':List (List Int)}{g:Pl.Gm}{a b:Ja}{P:List (List It×List Int)}(h:Rcd X g a P b)(hk:∀p:Nat,QV g b (p:Int)→X'[p]? = X[p]?):Rcd X' g a P b:=by
 induction h with
 | nil=>exact .nil
 | @snoc P b b1 l _ hg hnx hs hm w hat hno ih =>
  refine .snoc (ih fun p hp=>hk p (ye hg hnx hs hp)) hg hnx hs hm w (fun k y hy=>?_) fun hne=>?_
  · rw [←hat k y hy];refine hk _ ?_;obtain⟨f,e,-,-⟩:=hnx.first;have hkl:=(Zg hy).1;have:=yf hnx (x:=(k:Int)) (q:=(b.seq+Km l)%M32) (by omega) (by omega);rw [show (((J6 g b1).toNat+k:Nat):Int)=J6 g b1+(k:Int) by rw [e];simp];exact this
  · rw [←hno hne];refine zQ fun i hi=>hk _ ?_;obtain⟨e1,-⟩:=QP hg;obtain⟨-,h2,h3,h4,h5⟩:=Ja.good_parts hg;have hpl:=YA (l:=g.l) (s:=b.seg) (c:=b.off+i) (by omega) (by omega) (by omega);have e2:(((J6 g b).toNat+i:Nat):Int)-4=b.seg*g.l+(b.off+i):=by push_cast;omega
    unfold QV aft;rw [e2,hpl.1,hpl.2];rcases hs with rfl|⟨f,r,hf,rfl⟩
    · exact absurd rfl hne
    · have hn:=Xp h5;rw [hf] at hn;exact .inr ⟨fun e=>hn (by rw [e];exact List.mem_cons_self),fun e=>hn (List.mem_cons_of_mem _ e)⟩
def xr(X:List (List Int))(g:Pl.Gm)(b:Ja)(Q:List Int→Prop):Prop:=∀p:Nat,4≤p→¬QV g b (p:Int)→∀y,X[p]? = some y→Q y
theorem J29{g:Pl.Gm}{b:Ja}(hg:b.good g=true)(ho:b.off<g.l):¬QV g b (((J6 g b).toNat:Nat):Int):=by
 obtain⟨e1,-⟩:=QP hg;obtain⟨-,h2,h3,h4,h5⟩:=Ja.good_parts hg;have hpl:=YA (l:=g.l) (s:=b.seg) (c:=b.off) (by omega) h3 ho;unfold QV;rw [e1,show 4+b.seg*g.l+b.off-4=b.seg*g.l+b.off by omega,hpl.1,hpl.2];rintro (⟨-,h⟩|⟨h,-⟩)
 · omega
 · exact h rfl
theorem YR{g:Pl.Gm}{b:Ja}(hg:b.good g=true){f:Int}{r:List Int}(hf:b.free=f::r):(⟨f,0,b.seq,r⟩:Ja).good g=true:=by
 obtain⟨h1,h2,h3,h4,h5⟩:=Ja.good_parts hg;rw [hf] at h5;obtain⟨k1,k2⟩:=Yz h5;exact J4b h1 k1 (Int.le_refl _) (by show (0:Int)≤g.l;omega) k2
theorem J2a{g:Pl.Gm}{b:Ja}(hg:b.good g=true){f:Int}{r:List Int}(hf:b.free=f::r)(ho:0<g.l):¬QV g b (((J6 g ⟨f,0,b.seq,r⟩).toNat:Nat):Int):=by
 obtain⟨e1,-⟩:=QP (YR hg hf);have hpl:=YA (l:=g.l) (s:=f) (c:=0) ho (Int.le_refl _) ho;unfold QV;simp only at e1;rw [e1,show 4+f*g.l+0-4=f*g.l+0 by omega,hpl.1,hpl.2,hf];rintro (⟨h,-⟩|⟨-,h⟩)
 · exact yi hg hf h
 · exact h List.mem_cons_self
theorem xt(hX:∀y∈X,Sc y){g:Pl.Gm}{b:Ja}{Q:List Int→Prop}(h:xr X g b Q)(hQ:∀y,Q y→NH b.seq y)(hg:b.good g=true)(hq:Kh b.seq):gAt X g b=none :=
 zO hX hq fun ho y hy=>hQ y (h _ (QP hg).2 (J29 hg ho) y hy)
theorem J2b(hX:∀y∈X,Sc y){g:Pl.Gm}{b:Ja}{Q:List Int→Prop}(h:xr X g b Q)(hQ:∀y,Q y→NH b.seq y)(hg:b.good g=true)(hq:Kh b.seq){f:Int}{r:List Int}(hf:b.free=f::r):gAt X g ⟨f,0,b.seq,r⟩=none :=
 zO hX hq fun ho y hy=>hQ y (h _ (QP (YR hg hf)).2 (J2a hg hf ho) y hy)
theorem J6f(hX:∀y∈X,Sc y){g:Pl.Gm}{b:Ja}{Q:List Int→Prop}(h:xr X g b Q)(hQ:∀y,Q y→NH b.seq y)(hg:b.good g=true)(hq:Kh b.seq):nxt X g b=none:=by
 unfold nxt;rw [xt hX h hQ hg hq];simp only;cases hf:b.free with
 | nil=>rfl
 | cons f r =>
  simp only;rw [J2b hX h hQ hg hq hf];rfl
theorem J2c{X':List (List Int)}{g:Pl.Gm}{b b1:Ja}{Q:List Int→Prop}(h:xr X g b Q)(hg:b.good g=true)(hnx:Nx g b b1 n)(hs:ZX b b1)(hk:∀p:Nat,(p<(J6 g b1).toNat∨(J6 g b1).toNat+n≤p)→X'[p]? = X[p]?):xr X' g ⟨b1.seg,b1.off+n,q,b1.free⟩ Q:=fun p h4 hm y hy=>by
 obtain⟨f,e,-,-⟩:=hnx.first;rw [e,Int.toNat_natCast] at hk
 by_cases hr:p<f∨f+n≤p
 · rw [hk p hr] at hy;exact h p h4 (fun hm'=>hm (ye hg hnx hs hm')) y hy
 · exfalso;have:=yf hnx (x:=((p-f:Nat):Int)) (q:=q) (by omega) (by omega);rw [e,show (f:Int)+((p-f:Nat):Int)=(p:Int) by omega] at this;exact hm this
variable {X:List (List Int)}
structure Puts (g:Pl.Gm) (b b1:Ja) (L:List It) (X X':List (List Int)):Prop where
 may:JH L=true
 nx:Nx g b b1 (Jd b.seq L).1.length
 st:ZX b b1
 len:X'.length=X.length
 at_:∀k y,(Jd b.seq L).1[k]? = some y→X'[(J6 g b1).toNat+k]? = some y
 old:∀p:Nat,(p<(J6 g b1).toNat∨(J6 g b1).toNat+(Jd b.seq L).1.length≤p)→X'[p]? = X[p]?
theorem yj{g:Pl.Gm}{b:Ja}{d:De.D}{L:List It}(hg:b.good g=true)(hd:Img d X)(ht:4+g.s*g.l≤(d.S.length:Int))(w:∀x∈L,x.Wf)(he:(JY g b d L).e=0) :
 ∃b1 X',Puts g b b1 L X X'∧(JY g b d L).a=aft b b1 L∧(JY g b d L).pl=pOf g b b1 L∧Img (JY g b d L).d X'∧(JY g b d L).d.L=[]:=by
 cases hl:XL g b L
 · rw [J4c hl] at he;exact absurd (show ((1:Int)=0) from he) (by decide)
 · cases hn:QE g b (Jd b.seq L).1.length with
   | none =>
    rw [jA hl hn] at he;exact absurd (show ((14:Int)=0) from he) (by decide)
   | some b1 =>
    have hnx:=qp hg (Y8 hl).2 hn;obtain⟨f,hf,hf4,hfn⟩:=hnx.first;cases hw:(Kz d (J6 g b1) (Jd b.seq L).1).2
    · rw [xp hl hn hw] at he;exact absurd (show ((12:Int)=0) from he) (by decide)
    · rw [yc hl hn hw];rw [hf] at hw ⊢;have hlen:=hd.len;obtain⟨h1,X',h2,h3,h4,h5⟩:=hd.wrAllX (Jd b.seq L).1 (Jdi w b.seq) f (by omega) hw;refine⟨b1,X',⟨(Y8 hl).1,hnx,J28 hn,h3,?_,?_⟩,rfl,?_,h2,h1⟩
      · rw [hf,Int.toNat_natCast];exact h4
      · rw [hf,Int.toNat_natCast];exact h5
      · show _=pOf g b b1 L;unfold pOf;rw [hf]
structure Sn (d:De.D) (X:List (List Int)) (g:Pl.Gm) (a:Ja) (P:List (List It×List Int)) (b:Ja) (Q:List Int→Prop):Prop where
 img:Img d X
 rec_:Rcd X g a P b
 cl:xr X g b Q
 good:b.good g=true
 seq:Kh b.seq
 tot:4+g.s*g.l≤(d.S.length:Int)
theorem Sn.new{d:De.D}{g:Pl.Gm}{a:Ja}{Q:List Int→Prop}(hd:Img d X)(hg:a.good g=true)(hq:Kh a.seq)(ht:4+g.s*g.l≤(d.S.length:Int))(hQ:∀y∈X,Q y):Sn d X g a [] a Q :=
 ⟨hd,.nil,fun p _ _ y hy=>hQ y (List.mem_of_getElem? hy),hg,hq,ht⟩
theorem Puts.keep{g:Pl.Gm}{b b1:Ja}{L:List It}{X':List (List Int)}(h:Puts g b b1 L X X')(hg:b.good g=true)(p:Nat)(hp:QV g b (p:Int)):X'[p]? = X[p]? := by
 obtain⟨f,e,-,-⟩:=h.nx.first;refine h.old p ?_;rw [e,Int.toNat_natCast]
 by_cases hr:p<f∨f+(Jd b.seq L).1.length≤p
 · exact hr
 · exact absurd (by rw [e];omega) (Je4 hg h.nx h.st (x:=((p-f:Nat):Int)) (by omega) (by omega) hp)
theorem Sn.put{d:De.D}{g:Pl.Gm}{a b:Ja}{P:List (List It×List Int)}{Q:List Int→Prop}(h:Sn d X g a P b Q)(hQ:∀y,Q y→NH b.seq y)(L:List It)(w:∀x∈L,x.Wf)(he:(JY g b d L).e=0) :
 ∃X',Sn (JY g b d L).d X' g a (P++[(L,(JY g b d L).pl)]) (JY g b d L).a Q∧(JY g b d L).d.L=[]∧JH L=true∧(JY g b d L).a.seq=(b.seq+Km L)%M32:=by
 obtain⟨b1,X',hp,ha,hpl,hi,hL⟩:=yj h.good h.img h.tot w he;rw [ha,hpl];have hgt:gAt X g b=none:=xt h.img.sc h.cl hQ h.good h.seq;refine⟨X',⟨hi,.snoc (h.rec_.keep fun p hm=>hp.keep h.good p hm) h.good hp.nx hp.st hp.may w hp.at_ fun hne=>?_,J2c h.cl h.good hp.nx hp.st hp.old,hp.nx.good _,YN _,?_⟩,hL,hp.may,rfl⟩
 · rw [←hgt];refine zQ fun i hi=>?_;obtain⟨e1,-⟩:=QP h.good;obtain⟨-,h2,h3,h4,h5⟩:=Ja.good_parts h.good;rcases hp.st with rfl|⟨f,r,hf,rfl⟩
   · exact absurd rfl hne
   · obtain⟨f1,e2,-,-⟩:=hp.nx.first;refine hp.old _ ?_
     by_cases hr:(J6 g b).toNat+i<(J6 g ⟨f,0,b.seq,r⟩).toNat∨(J6 g ⟨f,0,b.seq,r⟩).toNat+(Jd b.seq L).1.length≤(J6 g b).toNat+i
     · exact hr
     · exfalso;have hpl:=YA (l:=g.l) (s:=b.seg) (c:=b.off+i) (by omega) (by omega) (by omega);have hfp:=YB hp.nx (x:=(((J6 g b).toNat+i-(J6 g ⟨f,0,b.seq,r⟩).toNat:Nat):Int)) (by omega) (by omega);have e3:J6 g ⟨f,0,b.seq,r⟩+(((J6 g b).toNat+i-(J6 g ⟨f,0,b.seq,r⟩).toNat:Nat):Int)-4=b.seg*g.l+(b.off+i):=by
        rw [e2,Int.toNat_natCast] at hr ⊢;omega
       rw [e3,hpl.1] at hfp;exact yi h.good hf hfp.1.symm
 · have e1:=h.img.len;have e2:=hi.len;rw [e2,hp.len,←e1];exact h.tot
theorem Sn.read{d:De.D}{g:Pl.Gm}{a b:Ja}{P:List (List It×List Int)}{Q:List Int→Prop}(h:Sn d X g a P b Q)(hQ:∀y,Q y→NH b.seq y):Way X g a P b∧nxt X g b=none :=
 ⟨h.rec_.chain,J6f h.img.sc h.cl hQ h.good h.seq⟩
variable {L:List Value} {X:List (List Int)} {cap g k n:Nat} {cs:Array Value} {w w':World}
structure Row1 (w:World) (g T cap:Nat) (X:List (List Int)):Prop where
 n:X.length=T
 cap:T≤cap
 sc:∀y∈X,Sc y
 row:∃L:List Value,Blk w g L∧T*64≤L.length∧∀i x,X[i]? = some x→∀(j:Nat) (v:Value),(u8s x)[j]? = some v→L[i*64+j]? = some v
theorem Row1.secs{T:Nat}(h:Row1 w g T cap X):SecsAt w (.slice (some ⟨g,0,none⟩) T cap) X:=by
 obtain⟨L,hb,hl,hc⟩:=h.row;refine⟨_,cap,by rw [h.n],by rw [h.n];exact h.cap,fun i x hx=>?_⟩;have hs:=h.sc x (List.mem_of_getElem? hx);refine⟨hs,g,0,rfl,fun j hj=>?_⟩;have:=hc i x hx j ((u8s x).toArray[j]) (by simp);rw [Nat.zero_add];exact hb.cell this
theorem Row1.below{T:Nat}(h:Row1 w g T cap X)(hb:Below w.heap.size w w'):Row1 w' g T cap X:=by
 obtain⟨L,h1,h2,h3⟩:=h.row;exact⟨h.n,h.cap,h.sc,L,h1.below hb h1.lt,h2,h3⟩
theorem J6g{o:Nat}(h:o+cs.size≤L.length)(p:Nat):(Jt L o cs).toList[p]? = if o≤p∧p<o+cs.size then cs.toList[p-o]? else L[p]? := by
 unfold Jt;have hl:(L.take o).length=o:=by rw [List.length_take];omega
 by_cases h1:p<o
 · rw [if_neg (by omega),List.append_assoc,List.getElem?_append_left (by omega),List.getElem?_take_of_lt h1]
 · by_cases h2:p<o+cs.size
   · rw [if_pos ⟨by omega,h2⟩,List.append_assoc,List.getElem?_append_right (by omega),hl,List.getElem?_append_left (by simp;omega)]
   · rw [if_neg (by omega),List.getElem?_append_right (by simp;omega),List.getElem?_drop];congr 1;simp;omega
theorem zR{o:Nat}(h:o+cs.size≤L.length):(Jt L o cs).toList.length=L.length:=by
 unfold Jt;simp;omega
theorem Je5{T:Nat}{y:List Int}(hn:X.length=T)(hsc:∀y∈X,Sc y)(hl:T*64≤L.length)(hc:∀i x,X[i]? = some x→∀(j:Nat) (v:Value),(u8s x)[j]? = some v→L[i*64+j]? = some v)(hk:k<T)(hy:Sc y) :
 k*64+(u8s y).toArray.size≤L.length∧T*64≤(Jt L (k*64) (u8s y).toArray).toList.length∧∀i x,(X.set k y)[i]? = some x→∀(j:Nat) (v:Value),(u8s x)[j]? = some v→(Jt L (k*64) (u8s y).toArray).toList[i*64+j]? = some v:=by
 have hs:(u8s y).toArray.size=64:=hy.size;have hf:k*64+(u8s y).toArray.size≤L.length:=by rw [hs];omega
 refine⟨hf,by rw [zR hf];exact hl,fun i x hx j v hv=>?_⟩;rw [J6g hf,hs]
 by_cases hik:i=k
 · subst hik;rw [List.getElem?_set_self (by omega)] at hx;cases hx;have hj:=(Zg hv).1;rw [List.length_map,hy.length] at hj;rw [if_pos ⟨by omega,by omega⟩,show i*64+j-i*64=j by omega];exact hv
 · rw [List.getElem?_set_ne (fun e=>hik e.symm)] at hx;have hj:=(Zg hv).1;rw [List.length_map,(hsc x (List.mem_of_getElem? hx)).length] at hj;rw [if_neg (by
    intro h
    have:i<k∨k<i:=by omega
    omega)]
   exact hc i x hx j v hv
section
variable {ops:Array Oper} {rest:List Oper} {dst:Option Tmp} {x y:Operand} {t2:TypeId} {pos:String} {after:Array Edge} {guard:Option (Nat×Bool)} {a:Act} {w:World} {Q:Exit→Act→World→Prop}
theorem J6h{T:Nat}{s:List Int}(h:Row1 w g T cap X)(hk:k<T)(hs:Sc s)(hx:a.eval x=.pointer (some ⟨g,k*64,none⟩))(hy:a.eval y=.agg (u8s s).toArray)(hw:Region.wanted ⟨dst,.store 36 x y,t2,pos,after,guard⟩ (yielded ops a.tmps)=true)(hh:∀w',Row1 w' g T cap (X.set k s)→Only (fun k=>k=g) w w'→w'.heap.size=w.heap.size→wpList Tryz.prog ops Q rest (a.put dst undef) w'):wpList Tryz.prog ops Q (⟨dst,.store 36 x y,t2,pos,after,guard⟩::rest) a w:=by
 obtain⟨L,hb,hl,hc⟩:=h.row;obtain⟨h1,h2,h3⟩:=Je5 h.n h.sc hl hc hk hs;refine ZD hb (by rw [hs.size];exact info36) h1 (Jj _) hx hy hw fun wX hX hO hS=>?_;refine hh wX ⟨by rw [List.length_set];exact h.n,h.cap,fun z hz=>?_,_,hX,h2,h3⟩ hO hS;rcases List.mem_or_eq_of_mem_set hz with hz|rfl
 · exact h.sc z hz
 · exact hs
end
theorem J6i(n:Nat):(madeCells (De.JM 0) (n*64)).toList=JL (List.replicate n (zeros 64)):=by
 rw [De.xn];unfold De.flat JL;rw [List.flatMap_replicate,List.flatMap_replicate];congr 1
theorem Je6(w w':World)(n:Nat)(hb:Blk w' w.heap.size (madeCells (De.JM 0) (n*64)).toList):Row1 w' w.heap.size n n (List.replicate n (zeros 64)):=by
 rw [J6i] at hb;have hsc:∀y∈List.replicate n (zeros 64),Sc y:=fun y hy=>by rw [List.eq_of_mem_replicate hy];exact zeros_sc
 refine⟨List.length_replicate,Nat.le_refl _,hsc,_,hb,?_,fun i x hx j v hv=>?_⟩
 · rw [QY hsc,List.length_replicate];exact Nat.le_refl _
 · have hj:=(Zg hv).1;rw [List.length_map,(hsc x (List.mem_of_getElem? hx)).length] at hj;rw [Yu hsc hj,hx];exact hv
def fst(Y:List (List Int))(n k:Nat):List (List Int):=Y.take k++List.replicate (n-k) (zeros 64)
theorem Jaj(Y:List (List Int))(n:Nat):fst Y n 0=List.replicate n (zeros 64):=by simp [fst]
theorem Je7{Y:List (List Int)}(h:Y.length=n):fst Y n n=Y:=by simp [fst,←h]
theorem Jak{Y:List (List Int)}{y:List Int}(h:Y.length=n)(hk:Y[k]? = some y):(fst Y n k).set k y=fst Y n (k+1):=by
 obtain⟨hl,he⟩:=List.getElem?_eq_some_iff.1 hk;have e:(Y.take k).length=k:=by rw [List.length_take];omega
 unfold fst;rw [List.set_append_right _ _ (by omega),e,Nat.sub_self,List.take_add_one,hk,show n-k=(n-(k+1))+1 by omega,List.replicate_succ];simp
section
variable {W w:World} {b:Nat} {F:Nat→Prop} {d:De.D}
theorem qT(h:De.Dv W w b F d)(hX:Img d X)(hLn:d.L.length≤1000000)(f n:Nat)(hn:n≤100)(hf:f+n≤X.length)(hbig:X.length≤2000) :
 Calls Tryz.prog 177 #[.pointer (some ⟨b,0,none⟩),.int .i64 f,.int .i64 n] w fun e w'=>∃sv,e=.returned sv∧SecsAt w' sv ((X.drop f).take n)∧Below w.heap.size w w':=by
 obtain⟨Y,hY⟩:∃Y,(X.drop f).take n=Y:=⟨_,rfl⟩
 have hYl:Y.length=n:=by rw [←hY,List.length_take,List.length_drop];omega
 have HYA:Hid (∀k,k<n→∃y,Y[k]? = some y∧X[f+k]? = some y∧Sc y):=Zh fun k hk=>by
  obtain⟨y,hy⟩:∃y,X[f+k]? = some y:=⟨_,List.getElem?_eq_getElem (by omega)⟩
  refine⟨y,?_,hy,hX.sc _ (List.mem_of_getElem? hy)⟩;rw [←hY,List.getElem?_take,if_pos hk,List.getElem?_drop];exact hy
 rw [hY];have HYL:=Zh hYl;have HD:=Zh h;have HX:=Zh hX;have HL:=Zh hLn;have HFN:Hid (f+n≤2000):=Zh (by omega);have mk:=De.J9x n (by omega);have HR0:Hid (∀w1,w1=w.alloc (.cells (madeCells (De.JM 0) (n*64)) 36)→Row1 w1 w.heap.size n n (fst Y n 0)∧Below w.heap.size w w1):=Zh (by
  rintro w1 rfl
  rw [Jaj]
  exact⟨Je6 w _ n (Blk.new w _ 36),Zq.alloc Zy _⟩)
 clear h hX hLn hf hbig hY hYl;go_enter Tryz.func177,Tryz.ntmps177
 go_wp2_with fail
 obtain⟨hr,hb⟩:=HR0.out _ rfl;generalize w.alloc (.cells (madeCells (De.JM 0) (n*64)) 36)=w1 at *;have HR:=Zh hr;have HB:=Zh hb;clear hr hb mk HR0
 go_loopg [13] n (fun q i wr=>∃k:Nat,n-k≤q∧k≤n∧i=.int .i64 k∧Row1 wr w.heap.size n n (fst Y n k)∧Below w.heap.size w wr)
 case atStart=>exact⟨0,by omega,by omega,rfl,HR.out,HB.out⟩
 case round =>
  obtain⟨k,hq,hk,rfl,hr,hb⟩:=hrel;have HRk:=Zh hr;have HBk:=Zh hb;clear hr hb HR HB
  by_cases hkn:k<n
  · have gk:decide ((k:Int)<(n:Int))=true:=decide_eq_true (by omega);have hk0:(k:Int)<(n:Int):=by omega
    obtain⟨y,hy1,hy2,hy3⟩:=HYA.out k hkn;have HY1:=Zh hy1;have HY3:=Zh hy3;obtain⟨r1,r2⟩:=HX.read hy2;have HRD:Hid (Calls Tryz.prog 34 #[.pointer (some ⟨b,0,none⟩),.int .i64 ((f:Int)+(k:Int))] wr fun e w'=>e=.returned (.tuple #[.agg (u8s y).toArray,.int .i64 0])∧Below wr.heap.size wr w'):=Zh (by
     have:=De.kx (HD.below HBk.out) HL.out ((f+k:Nat):Int)
     rw [r1,r2] at this
     exact this)
    have gw:Hid (IntKind.i64.wrap ((f:Int)+(k:Int))=(f:Int)+(k:Int)):=Zh (JQ (by omega) (by have:=HFN.out;omega));clear hy1 hy2 hy3 r1 r2;go_upto_region 5 with fail;refine Zl ?_;refine tk (.slice (some ⟨w.heap.size,0,none⟩) n n) ?_;refine tk (.int .i64 k) ?_;refine tk (.pointer (some ⟨b,0,none⟩)) ?_;refine tk (.int .i64 f) ?_;refine tk (.int .i64 k) ?_;refine tk (.int .i64 ((f:Int)+(k:Int))) ?_ (hr:=by have q:=gw.out;go_simp);refine J0 rfl fun K hK=>?_;go_simp;refine (HRD.out).mono ?_;rintro e w2 ⟨rfl,hb2⟩;have HR2:=Zh (HRk.below (hb2.mono Zy));have HB2:=Zh (Jk HBk.out hb2);clear hb2;refine hK _ _ (nm ?_);clear hK K;refine tk (.tuple #[.agg (u8s y).toArray,.int .i64 0]) ?_;refine tk (.agg (u8s y).toArray) ?_;refine tk (.int .i64 0) ?_;refine tk (.pointer (some ⟨w.heap.size,k*64,none⟩)) ?_;refine J6h HR2.out hkn HY3.out rfl rfl rfl ?_;intro w3 hr3 ho3 hs3;refine nm ?_;have HR3:Hid (Row1 w3 w.heap.size n n (fst Y n (k+1))):=Zh (by rw [←Jak HYL.out HY1.out];exact hr3);have HB3:Hid (Below w.heap.size w w3):=Zh (HB2.trans (ho3.below HB2.size fun j hj=>Nat.le_of_eq hj.symm));clear hr3 ho3 hs3;go_wp2_with fail
    go_roundg (n-(k+1))
    case measure=>omega
    case rel=>exact⟨k+1,by omega,by omega,by go_num,HR3.out,HB3.out⟩
  · have hk2:k=n:=by omega
    subst hk2;have gk:decide ((k:Int)<(k:Int))=false:=decide_eq_false (by omega);have HRS:Hid (SecsAt wr (.slice (some ⟨w.heap.size,0,none⟩) k k) Y):=Zh (by
     have:=HRk.secs
     rw [Je7 HYL.out] at this
     exact this)
    go_wp2_with fail
    go_ret;exact⟨_,rfl,HRS.out,HBk.out⟩
end
section
variable {W w:World}
theorem zS(f:Int)(l:List Int)(sv:Value)(w:World)(hi:IntsAt w sv l)(hl:l.length≤1000)(hf:0≤f∧f≤2000)(hx:∀x∈l,-1≤x∧x≤2000):Calls Tryz.prog 178 #[.int .i64 f,sv] w fun e w'=>∃v,e=.returned v∧OwnN w' w.heap.size v (l.map (Xx f))∧Below w.heap.size w w':=by
 have HI:=Zh hi;have HX:=Zh hx;have HF:=Zh hf;obtain⟨sa,sc,hsv,-⟩:=hi;obtain⟨m,hm⟩:∃m,l.length=m:=⟨_,rfl⟩
 rw [hm] at hsv hl;subst hsv;have HM:=Zh hm;have HP0:Hid (Pst w (w.alloc (.cells (madeCells #[.int .i64 0] m) 3)) w.heap.size (pls f l 0)):=Zh (by
  have e:madeCells #[Value.int .i64 0] m=(Jq (List.replicate m 0)).toArray:=by
   apply Array.ext'
   rw [toList_madeCells_one]
   simp [Jq]
  rw [zK,hm,e]
  exact⟨Blk.new w _ 3,by have:=OwnN.lit w w.heap.size Zy (List.replicate m 0) (by simp;omega) _ rfl;exact this,Zq.alloc Zy _⟩)
 have mk:=De.J1z m (by omega);clear hx hf hm;go_enter Tryz.func178,Tryz.ntmps178
 go_wp2_with fail
 generalize w.alloc (.cells (madeCells #[.int .i64 0] m) 3)=w1 at *
 go_loopg [13] m (fun q i wr=>∃k:Nat,m-k≤q∧k≤m∧i=.int .i64 k∧Pst w wr w.heap.size (pls f l k))
 case atStart=>exact⟨0,by omega,by omega,rfl,HP0.out⟩
 case round =>
  obtain⟨k,hq,hk,rfl,hst⟩:=hrel;have HP:=Zh hst;clear hst
  by_cases hkm:k<m
  · have gk:decide ((k:Int)<(m:Int))=true:=decide_eq_true (by omega);have hk0:(k:Int)<(m:Int):=by omega
    obtain⟨x,hx⟩:∃x,l[k]? = some x:=⟨_,List.getElem?_eq_getElem (by have:=HM.out;omega)⟩
    have HXX:=Zh hx;have HXB:=Zh (HX.out x (List.mem_of_getElem? hx));obtain⟨g0,o0,c0,hsa,hat⟩:=HI.has (by have:=HM.out;omega);have hsa2:sa=some ⟨g0,o0,none⟩:=by injection hsa
    subst hsa2;have cx:=(HP.bel.cell (block_lt_of_cell (hat k x hx))).trans (hat k x hx);have HKL:Hid (k<l.length):=Zh (by have:=HM.out;omega);have HZ:Hid (wr.cell? ⟨w.heap.size,k,none⟩=some (.int .i64 0)):=Zh (HP.blk.cell (by rw [List.getElem?_map,ql f l k HKL.out];rfl));have HP1:Hid (Pst w (wr.setCell ⟨w.heap.size,k,none⟩ (.int .i64 0)) w.heap.size (pls f l k)):=Zh (by
     have:=HP.set Zy k 0 (by rw [ZW f l k (Nat.le_of_lt HKL.out)];exact HKL.out)
     rwa [yb f l k HKL.out] at this)
    clear hx hat hsa;go_upto_region 5 with fail;refine Zl ?_;refine tk (.slice (some ⟨w.heap.size,0,none⟩) m m) ?_;refine tk (.int .i64 k) ?_;refine tk (.pointer (some ⟨w.heap.size,k,none⟩)) ?_;refine Xy (wr.setCell ⟨w.heap.size,k,none⟩ (.int .i64 0)) rfl (by have q:=HZ.out;have fz:=HP.blk.frozen k;go_simp) ?_;have HZ1:Hid ((wr.setCell ⟨w.heap.size,k,none⟩ (.int .i64 0)).cell? ⟨w.heap.size,k,none⟩=some (.int .i64 0)):=Zh (HP1.blk.cell (by rw [List.getElem?_map,ql f l k HKL.out];rfl));generalize wr.setCell ⟨w.heap.size,k,none⟩ (.int .i64 0)=wS at *;refine nm ?_;refine Zn ?_
    by_cases hx0:0≤x
    · have gx:decide (0≤x)=true:=decide_eq_true hx0;have HP2:Hid (Pst w (wS.setCell ⟨w.heap.size,k,none⟩ (.int .i64 (f+x))) w.heap.size (pls f l (k+1))):=Zh (by
       have:=HP1.set Zy k (f+x) (by rw [ZW f l k (Nat.le_of_lt HKL.out)];exact HKL.out)
       rw [qm f l k x HXX.out,Xx,if_pos hx0]
       exact this)
      have gw:Hid (IntKind.i64.wrap (f+x)=f+x):=Zh (JQ (by have:=HF.out;omega) (by have:=HF.out;have:=HXB.out;omega));go_upto_region 7 with fail;refine Zl ?_;refine tk (.slice (some ⟨w.heap.size,0,none⟩) m m) ?_;refine tk (.int .i64 k) ?_;refine tk (.int .i64 f) ?_;refine tk (.int .i64 x) ?_;refine tk (.int .i64 (f+x)) ?_ (hr:=by have q:=gw.out;go_simp);refine tk (.pointer (some ⟨w.heap.size,k,none⟩)) ?_;refine Xy (wS.setCell ⟨w.heap.size,k,none⟩ (.int .i64 (f+x))) rfl (by have q:=HZ1.out;have fz:=HP1.blk.frozen k;go_simp) ?_;generalize wS.setCell ⟨w.heap.size,k,none⟩ (.int .i64 (f+x))=wT at *;refine nm ?_;go_wp2_with fail
      go_roundg (m-(k+1))
      case measure=>omega
      case rel=>exact⟨k+1,by omega,by omega,by go_num,HP2.out⟩
    · have gx:decide (0≤x)=false:=decide_eq_false hx0;have HP2:Hid (Pst w wS w.heap.size (pls f l (k+1))):=Zh (by
       rw [J4a f l k x HXX.out hx0]
       exact HP1.out)
      clear HXX HXB
      go_wp2_with fail
      go_roundg (m-(k+1))
      case measure=>omega
      case rel=>exact⟨k+1,by omega,by omega,by go_num,HP2.out⟩
  · have hk2:k=l.length:=by have:=HM.out;omega
    have gk:decide ((k:Int)<(m:Int))=false:=decide_eq_false (by omega);have HR:Hid (Pst w wr w.heap.size (l.map (Xx f))):=Zh (by rw [←J49 f l,←hk2];exact HP.out);clear hk2
    go_wp2_with fail
    go_ret;refine⟨_,rfl,?_,HR.bel⟩;have:=HR.own;rw [List.length_map,HM.out] at this;exact this
end
def GatOutF(B:Nat)(r:List It×Nat)(e:Ending)(w':World):Prop:=∃iv pl,r.1=pl.map (·.1)∧e=.returned (.tuple #[iv,.int .i64 r.2])∧ItemsAt w' iv pl∧Fresh B iv∧∀x∈pl,Fresh B x.2
theorem GatOutF.none{B:Nat}{r:List It×Nat}{w':World}(h:r=([],0)):GatOutF B r (.returned (.tuple #[.slice Option.none 0 0,.int .i64 0])) w':=by
 subst h;exact⟨_,[],rfl,rfl,ItemsAt.nil _ _ _,Fresh.nil _,fun x hx=>by cases hx⟩
theorem zT(L:List (List Int))(N:Nat)(hN:L.length=N)(hNN:N≤100000)(sv:Value)(w:World)(h:SecsAt w sv L):Calls Tryz.prog 184 #[sv] w fun e w'=>GatOutF w.heap.size (Kv L) e w'∧Below w.heap.size w w':=by
 obtain⟨a,cap,rfl,hcap,hc⟩:=id h;have HS:=Zh h;rw [hN] at HS ⊢;have HC:=Zh hc;have HN:=Zh hN;have HG:Hid (gat L (N+1) [] 0=Kv L):=Zh (by unfold Kv;rw [hN]);have HCAP:Hid (N≤cap):=Zh (by omega);clear h hc hN hcap;go_enter Tryz.func184,Tryz.ntmps184
 go_wp2_with fail
 go_loopg [2,3] N (fun q u2 u3 wr=>∃(t f:Nat) (s2:Value) (P:List (It×Value)),s2=u2∧N-t≤q∧t≤N∧N<t+f∧u3=.int .i64 t∧P.length≤88∧gat L f (P.map (·.1)) t=Kv L∧(∀x∈P,Fresh w.heap.size x.2)∧OwnI wr w.heap.size s2 P∧Below w.heap.size w wr)
 case atStart=>exact⟨0,N+1,_,[],rfl,by omega,by omega,by omega,rfl,by simp,HG.out,(fun x hx=>by cases hx),OwnI.nil _ _,Below.refl _ _⟩
 case round =>
  obtain⟨t,f,s2,P,rfl,hq,ht,hf,rfl,hP,hg,hfx,ho,hb⟩:=hrel;have HFX:=Zh hfx;clear hfx;obtain⟨f,rfl⟩:∃g,f=g+1:=⟨f-1,by omega⟩
  obtain⟨a2,c2,hs2,-⟩:=ho.len;subst hs2;have HO:=Zh ho;have HB:=Zh hb;have HGT:=Zh hg;obtain⟨pn,hpn⟩:∃p,P.length=p:=⟨_,rfl⟩
  rw [hpn] at HO hP;rw [hpn];have HPN:=Zh hpn;clear hg ho hb HG hpn
  by_cases hlt:t<N
  · by_cases hpl:64<pn
    · have HX:Hid (Kv L=([],0)):=Zh (by rw [←HGT.out];exact J9i (by rw [List.length_map,HPN.out];exact hpl));have g1:decide ((t:Int)<(N:Int))=true:=decide_eq_true (by omega);have g2:decide ((pn:Int)≤64)=false:=decide_eq_false (by omega)
      go_wp2_with fail
      first|go_ret2|go_ret
      exact⟨GatOutF.none HX.out,HB.out⟩
    have g1:decide ((t:Int)<(N:Int))=true:=decide_eq_true (by omega);have g2:decide ((pn:Int)≤64)=true:=decide_eq_true (by omega);have ht0:(t:Int)<(N:Int):=by omega
    have hp64:pn≤64:=by omega
    obtain⟨y,hy⟩:∃y,L[t]? = some y:=⟨_,List.getElem?_eq_getElem (by have:=HN.out;omega)⟩
    obtain⟨y1,yg,yo,rfl,y2⟩:=HC.out t y hy;have HYK:=Zh hy;have HY:=Zh (y2.below HB.out (y2.lt (by rw [y1.size];decide)));have HYS:=Zh y1.size;have HDE:=Zh fun w=>zk y y1 w;have HREST:=Zh (HS.cut (t+1) N (by omega) Zy (L.drop (t+1)) (by rw [List.take_of_length_le (by rw [List.length_drop,HN.out];omega)]));clear y1 y2 hy hpl hlt;go_upto_region 2 with fail;refine Zl ?_;refine tk (.slice (some ⟨yg,yo,none⟩) N cap) ?_;refine tk (.int .i64 t) ?_;refine tk (.pointer (some ⟨yg,yo+t*64,none⟩)) ?_;refine Qc (cs:=(u8s y).toArray) HY.out HYS.out rfl rfl ?_;refine nm ?_;refine J0 rfl fun K hK=>?_;go_simp;refine (HDE.out _).mono ?_;rintro e w2 ⟨mv,rfl,hm,hb,hfr⟩;have HO2:=Zh (HO.below hb);have HB2:=Zh (Jk HB.out hb);have HM:=Zh hm;have HFR:=Zh hfr;have HLT:=Zh fun k hk=>(HO.lt k hk).2;clear hm hb hfr HO HB HY HDE;refine hK _ _ (nm ?_);clear hK K;refine tk (.tuple #[.agg #[.int .u32 (jr y).seq,.bool (jr y).more,mv],.int .i64 (jP y)]) ?_;refine tk (.agg #[.int .u32 (jr y).seq,.bool (jr y).more,mv]) ?_;refine tk (.int .i64 (jP y)) ?_;refine J4 J9g rfl ?_;intro w3 hA hb hl;refine nm ?_;refine J3 (cs:=#[.int .u32 (jr y).seq,.bool (jr y).more,mv]) hA rfl J9h (Jdg HM.out _ _) rfl rfl rfl ?_;intro w4 hD hO hlD;refine nm ?_;have hbb:Below w2.heap.size w2 w4:=hb.trans (hO.below hb.size fun k hk=>Nat.le_of_eq hk.symm);have HO4:=Zh (HO2.below hbb);have HB4:=Zh (Jk HB2.out hbb);have HM4:=Zh (HM.below hbb);have HV4:=Zh hD;have HNE:Hid (∀k,Value.ownBlock (.slice a2 pn c2)=some k→k<w2.heap.size):=Zh fun k hk=>(HO2.lt k hk).2;generalize w2.heap.size=b4 at *;clear hA hb hl hD hO hlD hbb HO2 HB2 HM;refine tk (.int .i64 (jP y)) ?_;refine Zn ?_;cases hs:KN y
    · have HX:Hid (Kv L=([],0)):=Zh (by rw [←HGT.out];exact J5v HYK.out hs);rw [(kv hs).2];clear hs
      go_wp2_with fail
      first|go_ret2|go_ret
      exact⟨GatOutF.none HX.out,HB4.out⟩
    have HSUM:=Zh hs;have hgm:=zq hs;have HMG:=Zh hgm;rw [(ZR hs).1] at HM4 HV4;rw [(ZR hs).2,(ZR hs).1];clear hs;obtain⟨ms,hms⟩:∃ms,(J5 y).marks=ms:=⟨_,rfl⟩
    rw [hms] at HM4 HMG;have HMS:=Zh hms;have hml:=(QU HMG.out).2;have HBL:=Zh fun w h=>J1p mv ms (by omega) w h;have HIO:=Zh fun w h1 h2=>zp ms (xP HMG.out) ms.length rfl hml (L.drop (t+1)) (by rw [List.length_drop,HN.out];omega) mv (.slice (K5 (some ⟨yg,yo,none⟩) (t+1) cap 64) (N-(t+1)) (cap-(t+1))) w h1 h2;have hbl:=QI ms;obtain⟨bn,hbn⟩:∃b,JC ms=b:=⟨_,rfl⟩
    rw [hbn] at hbl HBL;have HBN:=Zh hbn;have hb24:bn≤24:=by omega
    obtain⟨mo,hmo⟩:∃m,(J5 y).more=m:=⟨_,rfl⟩
    have HMO:=Zh hmo;rw [hmo] at HV4 ⊢;clear hms hgm hml hbl hbn hmo;have cv1:w4.cell? ⟨b4,1,none⟩=some (.bool mo):=HV4.cell rfl;have cv2:w4.cell? ⟨b4,2,none⟩=some mv:=HV4.cell rfl;go_upto_region 5 with fail;refine J9 (fun wq=>Below w4.heap.size w4 wq) (by kernel_rfl) ?_;refine th 0 28 (.pointer (some ⟨b4,2,none⟩)) Zq.drew ?_;refine th 1 29 (mv) Zq.drew ?_ (hy:=fun wq hS=>by have q:wq.cell? ⟨b4,2,none⟩=some mv:=(HV4.below hS HV4.lt).cell rfl;go_simp);refine th 2 30 (.slice (some ⟨yg,yo,none⟩) N cap) Zq.drew ?_;refine th 3 31 (.int .i64 t) Zq.drew ?_;refine th 4 32 (.int .i64 ((t+1:Nat):Int)) Zq.drew ?_ (hy:=fun wq hS=>by go_simp;exact JQ (by omega) (by omega));refine th 5 33 (.slice (K5 (some ⟨yg,yo,none⟩) (t+1) cap 64) (N-(t+1)) (cap-(t+1))) Zq.drew ?_ (hy:=fun wq hS=>by exact jQ wq _ _ _ _ rfl (some ⟨yg,yo,none⟩) N cap (t+1) rfl rfl (by omega));refine Zo 6 fun K hK=>?_;go_simp;refine (HIO.out _ (HM4.below Zq.drew) (HREST.below (HB4.drew))).mono ?_;rintro e w6 ⟨hio,hb⟩;have HS6:=Zh (Jk (Below.refl w4.heap.size w4).drew hb);have HB6:=Zh (Jk HB4.out HS6.out);have HO6:=Zh (HO4.below HS6.out);have HM6:=Zh (HM4.below HS6.out);have HV6:=Zh (HV4.below HS6.out HV4.lt);have HL4:=Zh HV4.lt;have HW4:Hid (w.heap.size≤w4.heap.size):=Zh HB4.size;clear cv1 cv2 hb HB4 HO4 HM4 HV4;rcases hio with ⟨h1,rfl⟩|⟨iv,pl,h1,rfl,h2,h3⟩
    · have HX:Hid (Kv L=([],0)):=Zh (by rw [←HGT.out];exact J9j HYK.out (by rw [HMS.out];exact h1));clear h1;refine hK _ _ HS6.out (nm ?_);clear hK K;refine th 7 27 (.tuple #[.slice none 0 0,.bool false]) HS6.out ?_;refine th 8 35 (.slice none 0 0) HS6.out ?_;refine th 9 36 (.bool false) HS6.out ?_;refine th 10 6 (.slice none 0 0) HS6.out ?_;refine th 11 7 (.bool false) HS6.out ?_;refine Zd ?_
      go_wp2_with fail
      first|go_ret2|go_ret
      exact⟨GatOutF.none HX.out,HB6.out⟩
    · have hlen:=Zf h1;rw [List.length_map,HBN.out,List.length_drop,HN.out] at hlen;obtain⟨hl1,hl2⟩:=hlen;have hl3:pl.length≤24:=by have:=(QU HMG.out).2;omega
      have HSOME:=Zh (J9k (L:=L) (f:=f) (P:=P.map (·.1)) HYK.out HSUM.out (by rw [List.length_map,HPN.out];exact hp64) (by rw [HMS.out];exact h1));have H2:=Zh h2;have H3:=Zh h3;have HFP:Hid (∀x∈P++pl,Fresh w.heap.size x.2):=Zh fun x hx=>(List.mem_append.1 hx).elim (HFX.out x) fun h=>fun b o n c e=>Nat.le_trans HW4.out (h3 x h b o n c e);have HL3:=Zh hl3;have hl4:t+(1+bn)≤N:=by omega
      clear h1 h2 h3 hl1 hl2 hl3;refine hK _ _ HS6.out (nm ?_);clear hK K;refine th 7 27 (.tuple #[iv,.bool true]) HS6.out ?_;refine th 8 35 (iv) HS6.out ?_;refine th 9 36 (.bool true) HS6.out ?_;refine th 10 6 (iv) HS6.out ?_;refine th 11 7 (.bool true) HS6.out ?_;refine Zd ?_;go_upto_region 8 with fail;refine Zl ?_;refine tk (.slice a2 pn c2) ?_;refine tk (iv) ?_;refine J8j HO6.out HB6.size H2.out (fun x hx=>Off.fresh (H3.out x hx) fun k hk=>Nat.lt_trans (HNE.out k hk) HL4.out) (by have:=HL3.out;have:=HPN.out;omega) rfl rfl rfl ?_;intro s7 w7 ho7 hg7 hr7;refine nm ?_;have HB7:=Zh (HB6.trans (Kq hg7 HB6.size fun k hk=>(HO6.lt k hk).1));have HO7:=Zh ho7;have HV7:=Zh (HV6.grown hg7 fun k hk=>Nat.ne_of_lt (HNE.out k hk));have HM7:=Zh (HM6.grown hg7 HFR.out fun k hk=>HLT.out k hk);clear ho7 hg7 hr7 HB6 HO6 HV6 HM6;refine tk (s7) ?_;refine Zn ?_;have cv1:w7.cell? ⟨b4,1,none⟩=some (.bool mo):=HV7.cell rfl;have cv2:w7.cell? ⟨b4,2,none⟩=some mv:=HV7.cell rfl
      go_wp2_with fail
      refine (HBL.out _ HM7.out).mono ?_;rintro e w8 ⟨rfl,hb⟩;have HB8:=Zh (Jk HB7.out hb);have HO8:=Zh (HO7.below hb);have HV8:=Zh (HV7.below hb HV7.lt);clear hb HB7 HO7 HV7 HM7 cv1 cv2;have cv1:w8.cell? ⟨b4,1,none⟩=some (.bool mo):=HV8.cell rfl;rw [HMO.out,HMS.out,HBN.out] at HSOME;cases mo
      · have HX:Hid (Kv L=((P++pl).map (·.1),t+(1+bn))):=Zh (by rw [←HGT.out,HSOME.out];simp)
        go_wp2_with fail
        first|go_ret2|go_ret
        exact⟨⟨_,P++pl,by rw [HX.out],by rw [HX.out];simp,HO8.items,fun b o n c e=>(HO8.lt b (by rw [e];rfl)).1,HFP.out⟩,HB8.out⟩
      · have HX:Hid (gat L f ((P++pl).map (·.1)) (t+(1+bn))=Kv L):=Zh (by rw [←HGT.out,HSOME.out];simp);have hpl2:Hid ((P++pl).length≤88):=Zh (by rw [List.length_append,HPN.out];have:=HL3.out;omega);have hti:Hid ((t:Int)+(1+(bn:Int))=((t+(1+bn):Nat):Int)):=Zh (by omega)
        go_wp2_with fail
        go_roundg (N-(t+(1+bn)))
        case measure=>omega
        case rel=>exact⟨t+(1+bn),f,s7,P++pl,rfl,by omega,hl4,by omega,by rw [←hti.out],hpl2.out,HX.out,HFP.out,by simpa using HO8.out,HB8.out⟩
  · obtain rfl:t=N:=by omega
    have HX:Hid (Kv L=([],0)):=Zh (by rw [←HGT.out];exact Jdh (by rw [HN.out];exact Nat.le_refl _));have g1:decide ((t:Int)<(t:Int))=false:=decide_eq_false (by omega)
    go_wp2_with fail
    first|go_ret2|go_ret
    exact⟨GatOutF.none HX.out,HB.out⟩
def zU(B:Nat)(n:Int)(r:Option (List It))(e:Ending)(w':World):Prop:=(r=none∧e=.returned (.tuple #[.agg #[.slice none 0 0,.slice none 0 0,.int .i64 0,.int .i64 0],.bool false])) ∨
 ∃iv pl av,r=some (pl.map (·.1))∧e=.returned (.tuple #[.agg #[iv,av,.int .i64 (Jd n (pl.map (·.1))).1.length,.int .i64 (parts pl.length)],.bool true])∧ItemsAt w' iv pl∧IntsAt w' av (Jd n (pl.map (·.1))).2∧(∀k,av.ownBlock=some k→B≤k)∧Fresh B iv∧∀x∈pl,Fresh B x.2
theorem J6j(n:Int)(hn:Kh n)(L:List (List Int))(N:Nat)(hN:L.length=N)(hNN:N≤100000)(sv:Value)(w:World)(h:SecsAt w sv L):Calls Tryz.prog 176 #[.int .u32 n,sv] w fun e w'=>zU w.heap.size n (X0 n L) e w'∧Below w.heap.size w w':=by
 have HGA:=Zh fun w h=>zT L N hN hNN sv w h;have HI:=Zh h;obtain⟨a,cap,rfl,hcap,-⟩:=h;have HN:=Zh hN;rw [hN] at HGA HI hcap ⊢;have HT:=Zh (J1u (L:=L));have HM:=Zh (zr (L:=L));have HCAP:=Zh hcap;clear hcap hN;go_enter Tryz.func176,Tryz.ntmps176;go_upto_region 0 with fail;refine Zl ?_;refine J4 ZS rfl ?_;intro w1 hR hb hl;refine nm ?_;have HR:=Zh hR;have HB:=Zh hb;have HL:=Zh hl;have HI1:=Zh (HI.below hb);clear hR hb hl;refine tk (.bool false) ?_;go_wp2_with fail
 refine (HGA.out _ HI1.out).mono ?_;rintro e w2 ⟨⟨iv,pl,h1,rfl,h2,hf1,hf2⟩,hb⟩;have HFF:Hid (Fresh w.heap.size iv∧∀x∈pl,Fresh w.heap.size x.2):=Zh ⟨fun b o n c e=>Nat.le_trans (Nat.le_of_lt HL.out) (hf1 b o n c e),fun x hx b o n c e=>Nat.le_trans (Nat.le_of_lt HL.out) (hf2 x hx b o n c e)⟩;clear hf1 hf2;have HB2:=Zh (Jk HB.out hb);have HR2:=Zh (HR.below hb HL.out);have HI2:=Zh (HI1.below hb);have HL2:Hid (w.heap.size<w2.heap.size):=Zh (Nat.lt_of_lt_of_le HL.out hb.size);have HP2:=Zh h2;have HRP:Hid (X0 n L=if JH (pl.map (·.1))&&decide ((Jd n (pl.map (·.1))).1=L.take (Kv L).2) then some (pl.map (·.1)) else none):=Zh (by unfold X0;rw [h1]);have hpl:=HM.out;rw [h1,List.length_map] at hpl;have HPL:=Zh hpl;obtain⟨ia,ic,hiv,-⟩:=h2;have HTT:=HT.out;rw [HN.out] at HTT;obtain⟨t,ht⟩:∃t,(Kv L).2=t:=⟨_,rfl⟩
 rw [ht] at HRP HTT ⊢;clear h1 hb HB HR HI1 HL HGA hpl HT HM ht;obtain⟨pn,hpn⟩:∃p,pl.length=p:=⟨_,rfl⟩
 rw [hpn] at hiv;subst hiv;have HPN:=Zh hpn;have hpn88:pn≤88:=by have:=HPL.out;omega
 clear hpn HPL;have HPA:=Zh fun w=>Yv (.slice ia pn ic) pn ⟨_,_,rfl⟩ (by omega) w;cases hm:JH (pl.map (·.1))
 · have HX:Hid (X0 n L=none):=Zh (by rw [HRP.out,hm,Bool.false_and];exact if_neg Bool.false_ne_true);have HLN:=Zh fun w h=>J8q pl (pl.map (·.1)) rfl hm n (.slice ia pn ic) (by have:=HPN.out;omega) w h;clear hm
   go_wp2_with fail
   refine (HLN.out _ HP2.out).mono ?_;rintro e w3 ⟨rfl,hb⟩;have HB3:=Zh (Jk HB2.out hb);have HR3:=Zh (HR2.below hb HL2.out);clear hb HB2 HR2 HI2 HP2 HLN;go_upto_region 4 with fail;refine Zl ?_;refine Ji (run_build _ 314 _ _ xf) rfl ?_;refine nm ?_;refine J3 (cs:=#[.slice none 0 0,.slice none 0 0,.int .i64 0,.int .i64 0]) HR3.out rfl Qj (Qx none none 0 0 0 0 0 0) rfl rfl rfl ?_;intro w4 hZ hO hlZ;refine nm ?_;have HB4:=Zh (HB3.trans (hO.below HB3.size fun k hk=>Nat.le_of_eq hk.symm));refine tk (.bool false) ?_;go_wp2_with fail
   refine bodyPost_ret (v:=.tuple #[.agg #[.slice none 0 0,.slice none 0 0,.int .i64 0,.int .i64 0],.bool false]) (results_cell_tmp rfl _ _ w.heap.size 0 _ _ _ rfl rfl Tryz.underlying314 rfl Qj (hZ.all rfl)) rfl ⟨.inl ⟨HX.out,rfl⟩,HB4.out⟩
 · rw [hm,Bool.true_and] at HRP;have HLY:=Zh fun w h=>J3v pl (pl.map (·.1)) rfl hm n hn (.slice ia pn ic) w h;clear hm;have HLL:=Zh (Qq n (pl.map (·.1)));have HLB:=Zh (QI (marks (pl.map (·.1))));have HLSM:Hid ((Jd n (pl.map (·.1))).1.length≤100000):=Zh (by
    have h1:=HLL.out
    have h2:=HLB.out
    rw [List.length_map,List.length_map] at h2
    rw [List.length_map,HPN.out] at h1
    have h3:parts pn≤pn+1:=by unfold parts;omega
    have h4:=HPN.out
    omega)
   go_wp2_with fail
   refine (HLY.out _ HP2.out).mono ?_;rintro e w3 ⟨s7,s8,rfl,ht⟩;have HB3:=Zh (Jk HB2.out ht.b);have HR3:=Zh (HR2.below ht.b HL2.out);have HI3:=Zh (HI2.below ht.b);have HP3:=Zh (HP2.below ht.b);have HS3:=Zh ht.s.secs;have HA3:=Zh ht.a.ints;have HN8:Hid (∀k,s8.ownBlock=some k→w.heap.size<k):=Zh fun k hk=>by have h1:=(ht.a.lt k hk).1;have h2:=HL2.out;omega
   have HL3:Hid (w.heap.size<w3.heap.size):=Zh (Nat.lt_of_lt_of_le HL2.out ht.b.size);have HCT:Hid (SecsAt w3 (.slice (K5 a 0 cap 64) t cap) (L.take t)):=Zh (by
    have:=HI3.cut 0 t (Nat.zero_le _) HTT (L.take t) (by simp)
    simpa using this)
   have HEQ:=Zh (J5u s7 (.slice (K5 a 0 cap 64) t cap) (Jd n (pl.map (·.1))).1 (L.take t) HLSM.out (by rw [List.length_take];have:=HN.out;omega) w3 HS3.out HCT.out);obtain⟨a7,c7,hs7,-⟩:=ht.s.len;obtain⟨a8,c8,hs8⟩:=ht.a.ints.form;subst hs7;subst hs8;have htc:t≤cap:=by have:=HCAP.out;omega
   obtain⟨l7,hl7⟩:∃m,(Jd n (pl.map (·.1))).1.length=m:=⟨_,rfl⟩
   obtain⟨l8,hl8⟩:∃m,(Jd n (pl.map (·.1))).2.length=m:=⟨_,rfl⟩
   rw [hl7] at HEQ ⊢;rw [hl8] at HA3 HN8 ⊢;have HL7:=Zh hl7;obtain⟨S7,hS7⟩:∃S,(Jd n (pl.map (·.1))).1=S:=⟨_,rfl⟩
   rw [hS7] at HEQ HRP;clear ht HB2 HR2 HI2 HP2 HL2 HS3 HCT HLY hl7 hl8 hS7 HLL HLB;go_upto_region 3 with fail;refine Zl ?_;refine tk (.int .i64 0) ?_;refine tk (.bool false) ?_;refine tk (.bool false) ?_;refine tk (.slice a7 l7 c7) ?_;refine tk (.slice a N cap) ?_;refine tk (.int .i64 t) ?_;refine tk (.slice (K5 a 0 cap 64) t cap) ?_ (hr:=(zo _ _ _ _ _ rfl a N cap t rfl rfl htc));refine J0 rfl fun K hK=>?_;go_simp;refine (HEQ.out).mono ?_;rintro e w4 ⟨rfl,hb⟩;have HB4:=Zh (Jk HB3.out hb);have HR4:=Zh (HR3.below hb HL3.out);have HP4:=Zh (HP3.below hb);have HA4:=Zh (HA3.below hb);clear hb HB3 HR3 HI3 HP3 HA3 HEQ;refine hK _ _ (nm ?_);clear hK K
   by_cases hd:S7=L.take t
   · have hdd:decide (S7=L.take t)=true:=decide_eq_true hd;have HX:Hid (X0 n L=some (pl.map (·.1))):=Zh (by rw [HRP.out,if_pos hdd]);rw [hdd];clear hd hdd HRP;refine tk (.bool false) ?_;refine tk (.bool false) ?_;go_upto_region 5 with fail;refine Zl ?_;refine tk (.slice ia pn ic) ?_;refine tk (.slice a8 l8 c8) ?_;refine tk (.slice a7 l7 c7) ?_;refine tk (.int .i64 l7) ?_;refine tk (.slice ia pn ic) ?_;refine J0 rfl fun K hK=>?_;go_simp;refine (HPA.out _).mono ?_;rintro e w5 ⟨rfl,rfl⟩;refine hK _ _ (nm ?_);clear hK K;refine tk (.agg #[.slice ia pn ic,.slice a8 l8 c8,.int .i64 l7,.int .i64 (parts pn)]) ?_ (hr:=(J8 _ _ _ _ 314 _ rfl #[(0,.slice ia pn ic),(1,.slice a8 l8 c8),(2,.int .i64 l7),(3,.int .i64 (parts pn))] (by simp only [List.map_toArray,List.map_cons,List.map_nil];rfl) _ (run_build w4 314 _ _ (J9l _ _ _ _ _ _ _ _))));refine J3 (cs:=#[.slice ia pn ic,.slice a8 l8 c8,.int .i64 l7,.int .i64 (parts pn)]) HR4.out rfl Qj (Qx _ _ _ _ _ _ _ _) rfl rfl rfl ?_;intro w6 hZ hO hlZ;refine nm ?_;have HB6:=Zh (HB4.trans (hO.below HB4.size fun k hk=>Nat.le_of_eq hk.symm));have HP6:=Zh (HP4.only HR4.out (J42 none none 0 0 0 0 0 0) hO);have HA6:=Zh (HA4.only hO fun b o n c e=>Nat.ne_of_gt (HN8.out b (by rw [e];rfl)));refine tk (.bool true) ?_;go_wp2_with fail
     refine bodyPost_ret (v:=.tuple #[.agg #[.slice ia pn ic,.slice a8 l8 c8,.int .i64 l7,.int .i64 (parts pn)],.bool true]) (results_cell_tmp rfl _ _ w.heap.size 0 _ _ _ rfl rfl Tryz.underlying314 rfl Qj (hZ.all rfl)) rfl ⟨.inr ⟨_,pl,_,HX.out,by rw [HL7.out,HPN.out],HP6.out,HA6.out,fun k hk=>Nat.le_of_lt (HN8.out k hk),HFF.out.1,HFF.out.2⟩,HB6.out⟩
   · have hdd:decide (S7=L.take t)=false:=decide_eq_false hd;have HX:Hid (X0 n L=none):=Zh (by rw [HRP.out,hdd];exact if_neg Bool.false_ne_true);rw [hdd];clear hd hdd HRP;refine tk (.bool true) ?_;refine tk (.bool true) ?_;go_upto_region 4 with fail;refine Zl ?_;refine Ji (run_build _ 314 _ _ xf) rfl ?_;refine nm ?_;refine J3 (cs:=#[.slice none 0 0,.slice none 0 0,.int .i64 0,.int .i64 0]) HR4.out rfl Qj (Qx none none 0 0 0 0 0 0) rfl rfl rfl ?_;intro w6 hZ hO hlZ;refine nm ?_;have HB6:=Zh (HB4.trans (hO.below HB4.size fun k hk=>Nat.le_of_eq hk.symm));refine tk (.bool false) ?_;go_wp2_with fail
     refine bodyPost_ret (v:=.tuple #[.agg #[.slice none 0 0,.slice none 0 0,.int .i64 0,.int .i64 0],.bool false]) (results_cell_tmp rfl _ _ w.heap.size 0 _ _ _ rfl rfl Tryz.underlying314 rfl Qj (hZ.all rfl)) rfl ⟨.inl ⟨HX.out,rfl⟩,HB6.out⟩
variable {L:List Value} {P:Program} {X:List (List Int)} {g:Nat} {l:List Int} {sv v:Value} {w w':World}
theorem Qr{fn:Func}{p q r:Tmp}{ty ty2:TypeId}(h:fn.results=#[.cell p ty,.cell q ty2,.tmp r])(tmps:Array Value)(w:World)(g g2:Nat)(cs cs2:Array Value)(d d2:TypeDesc)(v:Value)(hp:tmps.getD p undef=.pointer (some ⟨g,0,none⟩))(hq:tmps.getD q undef=.pointer (some ⟨g2,0,none⟩))(hv:tmps.getD r undef=v)(hu:P.underlying ty=some d)(hu2:P.underlying ty2=some d2)(hd:(match d with|.struct _|.array _ _=>true|_=>false)=true)(hd2:(match d2 with|.struct _|.array _ _=>true|_=>false)=true)(hi:(P.info? ty).map (·.size)=some cs.size)(hi2:(P.info? ty2).map (·.size)=some cs2.size)(hc:∀j (h:j<cs.size),w.cell? ⟨g,0+j,none⟩=some cs[j])(hc2:∀j (h:j<cs2.size),w.cell? ⟨g2,0+j,none⟩=some cs2[j]) :
 (results fn tmps).run P w=.ok (.tuple #[.agg cs,.agg cs2,v]) w:=by
 have hp':tmps[p]?.getD undef=.pointer (some ⟨g,0,none⟩):=by simpa using hp
 have hq':tmps[q]?.getD undef=.pointer (some ⟨g2,0,none⟩):=by simpa using hq
 have hv':tmps[r]?.getD undef=v:=by simpa using hv
 simp [results,h,hp',hq',hv',asAddr,Kb w g 0 ty cs d hu hd hi hc,Kb w g2 0 ty2 cs2 d2 hu2 hd2 hi2 hc2]
theorem zV{fn:Func}{p q r:Tmp}{ty2:TypeId}(h:fn.results=#[.tmp p,.cell q ty2,.tmp r])(tmps:Array Value)(w:World)(g2:Nat)(cs2:Array Value)(d2:TypeDesc)(u v:Value)(hp:tmps.getD p undef=u)(hq:tmps.getD q undef=.pointer (some ⟨g2,0,none⟩))(hv:tmps.getD r undef=v)(hu2:P.underlying ty2=some d2)(hd2:(match d2 with|.struct _|.array _ _=>true|_=>false)=true)(hi2:(P.info? ty2).map (·.size)=some cs2.size)(hc2:∀j (h:j<cs2.size),w.cell? ⟨g2,0+j,none⟩=some cs2[j]) :
 (results fn tmps).run P w=.ok (.tuple #[u,.agg cs2,v]) w:=by
 have hp':tmps[p]?.getD undef=u:=by simpa using hp
 have hq':tmps[q]?.getD undef=.pointer (some ⟨g2,0,none⟩):=by simpa using hq
 have hv':tmps[r]?.getD undef=v:=by simpa using hv
 simp [results,h,hp',hq',hv',asAddr,Kb w g2 0 ty2 cs2 d2 hu2 hd2 hi2 hc2]
theorem XC:(Tryz.prog.info? 214).bind (·.zero)=some (.agg #[.slice none 0 0,.slice none 0 0]):=by kernel_rfl
theorem KJ:(Tryz.prog.info? 214).map (·.size)=some 2:=by kernel_rfl
theorem J6k:Tryz.prog.built 214 []=some #[.slice none 0 0,.slice none 0 0]:=by kernel_rfl
theorem Jal(a b:Option Addr)(k c n d:Nat):Tryz.prog.built 214 [(0,.slice a k c),(1,.slice b n d)]=some #[.slice a k c,.slice b n d]:=by kernel_rfl
theorem XM(a b:Option Addr)(k c n d:Nat):∀v∈(#[.slice a k c,.slice b n d]:Array Value),v.oneCell'=true:=fun v hv=>by
 simp only [List.mem_toArray,List.mem_cons,List.not_mem_nil,or_false] at hv;rcases hv with rfl|rfl <;> rfl
theorem J4i(a b:Option Addr)(k c n d:Nat):NoIt [.slice a k c,.slice b n d]:=⟨by simp,fun z hz=>by simp at hz⟩
theorem xu(x y z:Int)(a:Option Addr)(k c:Nat):NoIt [.int .i64 x,.int .i64 y,.int .u32 z,.slice a k c]:=⟨by simp,fun z hz=>by simp at hz⟩
structure Fm (w wx:World) (gB aB rB tB:Nat) (g:Pl.Gm) (A R T:List Value):Prop where
 gb:Blk wx gB [.int .i64 g.p,.int .i64 g.s,.int .i64 g.l,.int .i64 g.f]
 ab:Blk wx aB A
 rb:Blk wx rB R
 tb:Blk wx tB T
 bel:Below w.heap.size w wx
 lt:w.heap.size≤gB∧gB<aB∧aB<rB∧rB<tB∧tB<wx.heap.size
theorem Fm.below{wx wy:World}{gB aB rB tB:Nat}{g:Pl.Gm}{A R T:List Value}(h:Fm w wx gB aB rB tB g A R T)(hb:Below wx.heap.size wx wy):Fm w wy gB aB rB tB g A R T :=
 ⟨h.gb.below hb h.gb.lt,h.ab.below hb h.ab.lt,h.rb.below hb h.rb.lt,h.tb.below hb h.tb.lt,Jk h.bel hb,h.lt.1,h.lt.2.1,h.lt.2.2.1,h.lt.2.2.2.1,Nat.lt_of_lt_of_le h.lt.2.2.2.2 hb.size⟩
theorem Fm.setA{wx wy:World}{gB aB rB tB:Nat}{g:Pl.Gm}{A A' R T:List Value}(h:Fm w wx gB aB rB tB g A R T)(ho:Only (fun k=>k=aB) wx wy)(hb:Blk wy aB A'):Fm w wy gB aB rB tB g A' R T:=by
 obtain⟨l1,l2,l3,l4,l5⟩:=h.lt;exact⟨h.gb.only ho (by omega),hb,h.rb.only ho (by omega),h.tb.only ho (by omega),h.bel.trans (ho.below h.bel.size fun k hk=>by omega),l1,l2,l3,l4,Nat.lt_of_lt_of_le l5 ho.size⟩
theorem Fm.setR{wx wy:World}{gB aB rB tB:Nat}{g:Pl.Gm}{A R R' T:List Value}(h:Fm w wx gB aB rB tB g A R T)(ho:Only (fun k=>k=rB) wx wy)(hb:Blk wy rB R'):Fm w wy gB aB rB tB g A R' T:=by
 obtain⟨l1,l2,l3,l4,l5⟩:=h.lt;exact⟨h.gb.only ho (by omega),h.ab.only ho (by omega),hb,h.tb.only ho (by omega),h.bel.trans (ho.below h.bel.size fun k hk=>by omega),l1,l2,l3,l4,Nat.lt_of_lt_of_le l5 ho.size⟩
theorem Fm.setT{wx wy:World}{gB aB rB tB:Nat}{g:Pl.Gm}{A R T T':List Value}(h:Fm w wx gB aB rB tB g A R T)(ho:Only (fun k=>k=tB) wx wy)(hb:Blk wy tB T'):Fm w wy gB aB rB tB g A R T':=by
 obtain⟨l1,l2,l3,l4,l5⟩:=h.lt;exact⟨h.gb.only ho (by omega),h.ab.only ho (by omega),h.rb.only ho (by omega),hb,h.bel.trans (ho.below h.bel.size fun k hk=>by omega),l1,l2,l3,l4,Nat.lt_of_lt_of_le l5 ho.size⟩
theorem Fault.onlyB{n:Int}(h:Fault w n v)(ho:Only (fun k=>k=g) w w')(hb:Blk w g L)(hL:∀t,L[0]? ≠ some (.string t)):Fault w' n v:=by
 obtain⟨T,d,t,ts,e,hc⟩:=h;refine⟨T,d,t,ts,e,hc.onlyZ ho fun q hq=>?_⟩;have:=hb.has_cell hq;exact hL q this
def Jjb(B:Nat)(wx:World)(q:Int)(r:Option (List It))(k:Nat)(ok:Bool):Prop:=(r=none∧ok=false)∨∃ia n1 c1 aa c2 pl,r=some (pl.map (·.1))∧ok=true∧n1=pl.length∧Blk wx k [.slice ia n1 c1,.slice aa n1 c2,.int .i64 (Jd q (pl.map (·.1))).1.length,.int .i64 (parts pl.length)]∧ItemsAt wx (.slice ia n1 c1) pl∧IntsAt wx (.slice aa n1 c2) (Jd q (pl.map (·.1))).2∧(∀j,Value.ownBlock (.slice aa n1 c2)=some j→B≤j∧j<wx.heap.size)∧Fresh B (.slice ia n1 c1)∧∀x∈pl,Fresh B x.2
def Jam(B:Nat)(g:Pl.Gm)(a:Ja)(fv:Value)(r:Option (List It))(e:Ending)(w':World):Prop :=
 (r=none∧∃v,e=.returned (.tuple #[.agg #[.slice none 0 0,.slice none 0 0],.agg #[.int .i64 0,.int .i64 0,.int .u32 0,.slice none 0 0],v])∧Fault w' 17 v) ∨
 ∃l ia n1 c1 aa n2 c2 pl,r=some l∧e=.returned (.tuple #[.agg #[.slice ia n1 c1,.slice aa n2 c2],.agg #[.int .i64 a.seg,.int .i64 (a.off+(Jd a.seq l).1.length),.int .u32 ((a.seq+Km l)%M32),fv],.nilIface])∧pl.map (·.1)=l∧ItemsAt w' (.slice ia n1 c1) pl∧IntsAt w' (.slice aa n2 c2) (pOf g a a l)∧(∀j,Value.ownBlock (.slice aa n2 c2)=some j→B≤j)∧Fresh B (.slice ia n1 c1)∧∀x∈pl,Fresh B x.2
theorem Je8{x y:Int}(h:y≤x):∃n:Nat,(x-y).toNat=n∧x-y=(n:Int):=⟨_,rfl,by omega⟩
theorem IntsAt.own_lt(h:IntsAt w sv l)(hl:0<l.length):∀j,sv.ownBlock=some j→j<w.heap.size:=fun j hj=>by
 obtain⟨b,o,cap,e,hc⟩:=h.has hl;subst e;have:b<w.heap.size:=block_lt_of_cell (hc 0 _ (List.getElem?_eq_getElem hl));simp [Value.ownBlock] at hj;omega
section
variable {W w:World} {b:Nat} {F:Nat→Prop} {d:De.D} {g:Pl.Gm} {a:Ja} {fv:Value}
theorem jS(h:De.Dv W w b F d)(hX:Img d X)(hLn:d.L.length≤1000000)(hbig:X.length≤1024)(hg:a.good g=true)(hq:Kh a.seq)(ht:4+g.s*g.l≤(X.length:Int))(hf:IntsAt w fv a.free) :
 Calls Tryz.prog 159 #[.pointer (some ⟨b,0,none⟩),g.v,.agg #[.int .i64 a.seg,.int .i64 a.off,.int .u32 a.seq,fv]] w fun e w'=>Jam w.heap.size g a fv (gAt X g a) e w'∧Below w.heap.size w w':=by
 obtain⟨hgo,hsg,ho1,ho2,-⟩:=Ja.good_parts hg;have hl32:=hgo.2.2.1.2;obtain⟨hfn,hf4⟩:=QP hg;have hsl:a.seg*g.l≤(g.s-1)*g.l:=Int.mul_le_mul_of_nonneg_right (by omega) (by omega);rw [Int.sub_mul,Int.one_mul] at hsl;have hs0:0≤a.seg*g.l:=Int.mul_nonneg hsg.1 (by omega);obtain⟨n,hn,hn2⟩:=Je8 ho2;have hgr:gAt X g a=X0 a.seq ((X.drop (J6 g a).toNat).take n):=by unfold gAt;rw [hn]
 have HFO:Hid (J6 g a=(((J6 g a).toNat:Nat):Int)):=Zh (by unfold J6 at hfn ⊢;omega);obtain⟨f,hff⟩:∃f,(J6 g a).toNat=f:=⟨_,rfl⟩
 rw [hff] at hfn hf4 hgr HFO;have hfl:f+n≤X.length:=by omega
 obtain⟨L,hL⟩:∃L,(X.drop f).take n=L:=⟨_,rfl⟩
 have hLl:L.length=n:=by rw [←hL,List.length_take,List.length_drop];omega
 rw [hL] at hgr;have HSE:Hid (∀w',Below w.heap.size w w'→Calls Tryz.prog 177 #[.pointer (some ⟨b,0,none⟩),.int .i64 f,.int .i64 n] w' fun e w''=>∃sv,e=.returned sv∧SecsAt w'' sv L∧Below w'.heap.size w' w''):=Zh fun w' hb=>by
  rw [←hL];exact qT (h.below hb) hX hLn f n (by omega) hfl (by omega)
 have HRG:Hid (∀w' sv,SecsAt w' sv L→Calls Tryz.prog 176 #[.int .u32 a.seq,sv] w' fun e w''=>zU w'.heap.size a.seq (X0 a.seq L) e w''∧Below w'.heap.size w' w''):=Zh fun w' sv hs=>J6j a.seq hq L n hLl (by omega) sv w' hs;have HLN:=Zh hLl;rw [hgr];obtain⟨r,hr⟩:∃r,X0 a.seq L=r:=⟨_,rfl⟩
 rw [hr] at HRG ⊢;have HMB:Hid (∀l,r=some l→JH l=true):=Zh fun l e=>by rw [e] at hr;exact (QL hr).1
 have HSG:=Zh fun w'=>Pl.J85 g hgo a.seg ⟨hsg.1,by omega⟩ w';have gw:Hid (IntKind.i64.wrap (4+a.seg*g.l+a.off)=(f:Int)):=Zh (by rw [hfn];exact JQ (by omega) (by omega));have gw1:Hid (IntKind.i64.wrap (g.l-a.off)=(n:Int)):=Zh (by rw [hn2];exact JQ (by omega) (by omega));have gw2:Hid (∀k:Nat,k≤1000→IntKind.i64.wrap (a.off+(k:Int))=a.off+(k:Int)):=Zh fun k hk=>JQ (by omega) (by omega);have gw3:Hid (∀k:Nat,k≤1000→IntKind.u32.wrap (k:Int)=(k:Int)):=Zh fun k hk=>kL (by omega) (by omega);have gw4:Hid (∀k:Nat,IntKind.u32.wrap (a.seq+(k:Int))=(a.seq+(k:Int))%M32):=Zh fun k=>by rw [IntKind.wrap_u32];rfl
 have HFS:Hid ((0:Int)≤(f:Int)∧(f:Int)≤2000):=Zh (by omega);have HNF:=Zh fun s w=>QM 17 rfl s w;have HFV:=Zh hf;obtain⟨fa,fc,hfv⟩:=hf.form;obtain⟨m,hm⟩:∃m,a.free.length=m:=⟨_,rfl⟩
 rw [hm] at hfv;subst hfv;clear h hX hLn hbig hg hq ht hf hgo hsg ho1 ho2 hl32 hfn hf4 hsl hs0 hn hn2 hgr hff hfl hL hLl hr hm;go_enter Tryz.func159,Tryz.ntmps159;go_upto_region 0 with fail;refine Zl ?_;refine JV (cs:=#[.int .i64 g.p,.int .i64 g.s,.int .i64 g.l,.int .i64 g.f]) rfl rfl ?_;intro w1 hG hb1 hl1;refine nm ?_;refine JV (cs:=#[.int .i64 a.seg,.int .i64 a.off,.int .u32 a.seq,.slice fa m fc]) rfl rfl ?_;intro w2 hA hb2 hl2;refine nm ?_;refine J4 XC rfl ?_;intro w3 hR hb3 hl3;refine nm ?_;refine J4 Q2 rfl ?_;intro w4 hT hb4 hl4;refine nm ?_;have HM4:Hid (Fm w w4 w.heap.size w1.heap.size w2.heap.size w3.heap.size g [.int .i64 a.seg,.int .i64 a.off,.int .u32 a.seq,.slice fa m fc] [.slice none 0 0,.slice none 0 0] [.int .i64 0,.int .i64 0,.int .u32 0,.slice none 0 0]):=Zh (by
  have b3:=hb3.trans (hb4.mono hb3.size)
  have b2:=hb2.trans (b3.mono hb2.size)
  exact⟨hG.below b2 hG.lt,hA.below b3 hA.lt,hR.below hb4 hR.lt,hT,hb1.trans (b2.mono hb1.size),Nat.le_refl _,hl1,hl2,hl3,hl4⟩)
 have HB4:Hid (Below w.heap.size w w4):=Zh HM4.bel;clear hG hb1 hl1 hA hb2 hl2 hR hb3 hl3 hT hb4 hl4;obtain⟨gB,hgB⟩:∃k,w.heap.size=k:=⟨_,rfl⟩
 rw [hgB];have HGB:=Zh hgB;have HM:Hid (Fm w w4 gB w1.heap.size w2.heap.size w3.heap.size g [.int .i64 a.seg,.int .i64 a.off,.int .u32 a.seq,.slice fa m fc] [.slice none 0 0,.slice none 0 0] [.int .i64 0,.int .i64 0,.int .u32 0,.slice none 0 0]):=Zh (by rw [←HGB.out];exact HM4.out);clear hgB HM4;generalize w1.heap.size=aB at *;generalize w2.heap.size=rB at *;generalize w3.heap.size=tB at *;refine tk (.nilIface) ?_;go_upto_region 1 with fail
 go_cut [9] from 12 to 19 (fun s wx=>s=.int .i64 (f:Int)∧Below w4.heap.size w4 wx)
 case first =>
  refine J9 (fun wq=>Below w4.heap.size w4 wq) (by kernel_rfl) ?_;have HSd:Hid (Below w4.heap.size w4 w4.drew):=Zh Zq.drew;refine th 0 12 (.agg #[.int .i64 g.p,.int .i64 g.s,.int .i64 g.l,.int .i64 g.f]) HSd.out ?_ (hy:=fun wq hS=>by have q:=HM.gb.below hS HM.gb.lt;have q0:=q.cell (i:=0) rfl;have q1:=q.cell (i:=1) rfl;have q2:=q.cell (i:=2) rfl;have q3:=q.cell (i:=3) rfl;go_simp);refine th 1 13 (.pointer (some ⟨aB,0,none⟩)) HSd.out ?_;refine th 2 14 (.int .i64 a.seg) HSd.out ?_ (hy:=fun wq hS=>by have q:=(HM.ab.below hS HM.ab.lt).cell (i:=0) rfl;go_simp);refine th 4 16 (.pointer (some ⟨aB,1,none⟩)) HSd.out ?_;refine th 5 17 (.int .i64 a.off) HSd.out ?_ (hy:=fun wq hS=>by have q:=(HM.ab.below hS HM.ab.lt).cell (i:=1) rfl;go_simp);refine Zo 3 fun K hK=>?_;go_simp;refine (HSG.out _).mono ?_;rintro e w5 ⟨rfl,hb⟩;have HS5:=Zh (Jk HSd.out hb);refine hK _ _ HS5.out ?_;clear hK K hb;refine nm ?_;refine th 6 18 (.int .i64 (f:Int)) HS5.out ?_ (hy:=fun wq hS=>by have q:=gw.out;go_simp);refine th 7 9 (.int .i64 (f:Int)) HS5.out ?_;refine Zd ?_
  go_wp2_with fail
  go_meet
  exact⟨rfl,HS5.out⟩
 case rest =>
 obtain⟨rfl,hb⟩:=hcut;have HM5:=Zh (HM.below hb);have HB4:=Zh (Jk HB4.out hb);clear HM hb;go_upto_region 2 with fail
 go_cut [10,11] from 20 to 33 (fun s10 s11 wx=>∃kB ok,s10=.pointer (some ⟨kB,0,none⟩)∧s11=.bool ok∧Below wc.heap.size wc wx∧wc.heap.size≤kB∧Jjb wc.heap.size wx a.seq r kB ok∧∃L,Blk wx kB L∧L.length=4)
 case first =>
  refine J9 (fun wq=>Below wc.heap.size wc wq) (by kernel_rfl) ?_;have HSd:Hid (Below wc.heap.size wc wc.drew):=Zh Zq.drew;refine th 0 20 (.pointer (some ⟨aB,2,none⟩)) HSd.out ?_;refine th 1 21 (.int .u32 a.seq) HSd.out ?_ (hy:=fun wq hS=>by have q:=(HM5.ab.below hS HM5.ab.lt).cell (i:=2) rfl;go_simp);refine th 2 22 (.pointer (some ⟨b,0,none⟩)) HSd.out ?_;refine th 3 23 (.int .i64 (f:Int)) HSd.out ?_;refine th 4 24 (.pointer (some ⟨gB,2,none⟩)) HSd.out ?_;refine th 5 25 (.int .i64 g.l) HSd.out ?_ (hy:=fun wq hS=>by have q:=(HM5.gb.below hS HM5.gb.lt).cell (i:=2) rfl;go_simp);refine th 6 26 (.pointer (some ⟨aB,1,none⟩)) HSd.out ?_;refine th 7 27 (.int .i64 a.off) HSd.out ?_ (hy:=fun wq hS=>by have q:=(HM5.ab.below hS HM5.ab.lt).cell (i:=1) rfl;go_simp);refine th 8 28 (.int .i64 (n:Int)) HSd.out ?_ (hy:=fun wq hS=>by have q:=gw1.out;go_simp);generalize wc.drew=wS at *;refine kO 9 14 (by kernel_rfl) rfl rfl rfl rfl (fun K hK=>?_) (fun K hK=>?_)
  · go_simp;refine (HSE.out wS (Jk HB4.out HSd.out)).mono ?_;rintro e v1 ⟨sv,rfl,hs,hb⟩;have Sv1:=Zh (Jk HSd.out hb);have SSv1:=Zh hs;obtain⟨sa,sc,hsv,-⟩:=id hs;rw [HLN.out] at hsv;subst hsv;refine hK _ _ Sv1.out ?_;clear hK K hb hs;refine nm ?_;refine kO 10 14 (by kernel_rfl) rfl rfl rfl rfl (fun K hK=>?_) (fun K hK=>?_)
    · go_simp;refine (HRG.out v1 (.slice sa n sc) SSv1.out).mono ?_;rintro e v2 ⟨ho,hb⟩;have Sv2:=Zh (Jk Sv1.out hb);rcases ho with ⟨hr,rfl⟩|⟨iv,pl,av,hr,rfl,hi,ha,hj,hf1,hf2⟩
      · have HRN:=Zh hr;refine hK _ _ Sv2.out ?_;clear hK K hb hr;refine nm ?_;refine th 11 19 (.tuple #[.agg #[.slice none 0 0,.slice none 0 0,.int .i64 0,.int .i64 0],.bool false]) Sv2.out ?_;refine th 12 31 (.agg #[.slice none 0 0,.slice none 0 0,.int .i64 0,.int .i64 0]) Sv2.out ?_;refine th 13 32 (.bool false) Sv2.out ?_;refine Zo 14 fun K hK=>?_;refine Jf (some 10) rfl _ _ (JB _ _ _ 314 rfl _ ZS) ?_;have hb:=(Below.refl v2.heap.size v2).alloc Zy (.cells #[.slice none 0 0,.slice none 0 0,.int .i64 0,.int .i64 0] 314);have hkb:=Blk.new v2 #[.slice none 0 0,.slice none 0 0,.int .i64 0,.int .i64 0] 314;have Sv3:=Zh (Jk Sv2.out hb);have Kv3:=Zh hkb;have KL:Hid (wc.heap.size≤v2.heap.size):=Zh Sv2.size;refine hK _ _ Sv3.out ?_;clear hK K hb hkb;generalize v2.alloc (.cells #[.slice none 0 0,.slice none 0 0,.int .i64 0,.int .i64 0] 314)=v3 at *;generalize v2.heap.size=kB at *;refine nm ?_;refine Zo 15 fun K hK=>?_;refine Jw 314 _ _ rfl kB #[.slice none 0 0,.slice none 0 0,.int .i64 0,.int .i64 0] rfl rfl _ Kv3.out rfl Qj (Qx none none 0 0 0 0 0 0) ?_;intro wz hD hO;have SZ:Hid (Below wc.heap.size wc wz):=Zh (Sv3.trans (hO.below Sv3.size fun k hk=>by rw [hk];exact KL.out));have HD:=Zh hD;refine hK _ _ SZ.out ?_;clear hK K hD hO;refine nm ?_;refine th 16 11 (.bool false) SZ.out ?_;refine Zd ?_
        go_wp2_with fail
        go_meet
        exact⟨kB,false,rfl,rfl,SZ.out,KL.out,.inl ⟨HRN.out,rfl⟩,⟨_,HD.out,rfl⟩⟩
      · have HRN:=Zh hr;obtain⟨ia,c1,hiv⟩:=Qa hi;obtain⟨aa,c2,hav⟩:=ha.form;obtain⟨n1,hn1⟩:∃m,pl.length=m:=⟨_,rfl⟩
        rw [hn1] at hiv;subst hiv;rw [Qz,List.length_map,hn1] at hav;subst hav;have HN1:Hid (n1=pl.length):=Zh hn1.symm;have HI:=Zh hi;have HN:=Zh ha;have HFF:Hid (Fresh wc.heap.size (.slice ia n1 c1)∧∀x∈pl,Fresh wc.heap.size x.2):=Zh ⟨fun b o n c e=>Nat.le_trans Sv1.size (hf1 b o n c e),fun x hx b o n c e=>Nat.le_trans Sv1.size (hf2 x hx b o n c e)⟩;clear hf1 hf2;have HJ:Hid (∀j,Value.ownBlock (.slice aa n1 c2)=some j→wc.heap.size≤j∧v1.heap.size≤j∧j<v2.heap.size):=Zh fun j hj2=>⟨Nat.le_trans Sv1.size (hj j hj2),hj j hj2,ha.own_lt (by rw [Qz];exact (JK.1 (HMB.out _ hr)).1) j hj2⟩
        refine hK _ _ Sv2.out ?_;clear hK K hb hr hi ha hj hn1;refine nm ?_;refine th 11 19 (.tuple #[.agg #[.slice ia n1 c1,.slice aa n1 c2,.int .i64 (Jd a.seq (pl.map (·.1))).1.length,.int .i64 (parts pl.length)],.bool true]) Sv2.out ?_;refine th 12 31 (.agg #[.slice ia n1 c1,.slice aa n1 c2,.int .i64 (Jd a.seq (pl.map (·.1))).1.length,.int .i64 (parts pl.length)]) Sv2.out ?_;refine th 13 32 (.bool true) Sv2.out ?_;refine Zo 14 fun K hK=>?_;refine Jf (some 10) rfl _ _ (JB _ _ _ 314 rfl _ ZS) ?_;have hb:=(Below.refl v2.heap.size v2).alloc Zy (.cells #[.slice none 0 0,.slice none 0 0,.int .i64 0,.int .i64 0] 314);have hkb:=Blk.new v2 #[.slice none 0 0,.slice none 0 0,.int .i64 0,.int .i64 0] 314;have Sv4:=Zh (Jk Sv2.out hb);have Kv4:=Zh hkb;have KL:Hid (wc.heap.size≤v2.heap.size):=Zh Sv2.size;have HJk:Hid (∀j,Value.ownBlock (.slice aa n1 c2)=some j→j≠v2.heap.size∧wc.heap.size≤j∧j<(v2.alloc (.cells #[.slice none 0 0,.slice none 0 0,.int .i64 0,.int .i64 0] 314)).heap.size):=Zh fun j hj=>by have h1:=HJ.out j hj;have h2:=hb.size;omega
        have HI2:=Zh (HI.below hb);have HN2:=Zh (HN.below hb);refine hK _ _ Sv4.out ?_;clear hK K hb hkb;generalize v2.alloc (.cells #[.slice none 0 0,.slice none 0 0,.int .i64 0,.int .i64 0] 314)=v4 at *;generalize v2.heap.size=kB at *;refine nm ?_;refine Zo 15 fun K hK=>?_;refine Jw 314 _ _ rfl kB #[.slice ia n1 c1,.slice aa n1 c2,.int .i64 (Jd a.seq (pl.map (·.1))).1.length,.int .i64 (parts pl.length)] rfl rfl _ Kv4.out rfl Qj (Qx _ _ _ _ _ _ _ _) ?_;intro wz hD hO;have SZ:Hid (Below wc.heap.size wc wz):=Zh (Sv4.trans (hO.below Sv4.size fun k hk=>by rw [hk];exact KL.out));have HD:=Zh hD;have HIz:=Zh (HI2.only Kv4.out (J42 none none 0 0 0 0 0 0) hO);have HNz:=Zh (HN2.only hO fun b o n c e=>(HJk.out b (by rw [e];rfl)).1);have HJz:Hid (∀j,Value.ownBlock (.slice aa n1 c2)=some j→wc.heap.size≤j∧j<wz.heap.size):=Zh fun j hj=>by have h1:=HJk.out j hj;have h2:=hO.size;omega
        refine hK _ _ SZ.out ?_;clear hK K hD hO;refine nm ?_;refine th 16 11 (.bool true) SZ.out ?_;refine Zd ?_
        go_wp2_with fail
        go_meet
        exact⟨kB,true,rfl,rfl,SZ.out,KL.out,.inr ⟨ia,n1,c1,aa,c2,pl,HRN.out,rfl,HN1.out,HD.out,HIz.out,HNz.out,HJz.out,HFF.out.1,HFF.out.2⟩,⟨_,HD.out,rfl⟩⟩
    · refine Jf (some 10) rfl _ _ (JB _ _ _ 314 rfl _ ZS) ?_;have hb:=(Below.refl v1.heap.size v1).alloc Zy (.cells #[.slice none 0 0,.slice none 0 0,.int .i64 0,.int .i64 0] 314);have hkb:=Blk.new v1 #[.slice none 0 0,.slice none 0 0,.int .i64 0,.int .i64 0] 314;have Sv5:=Zh (Jk Sv1.out hb);have Kv5:=Zh hkb;have KL:Hid (wc.heap.size≤v1.heap.size):=Zh Sv1.size;have SSv5:=Zh (SSv1.below hb);refine hK _ _ Sv5.out ?_;clear hK K hb hkb;generalize v1.alloc (.cells #[.slice none 0 0,.slice none 0 0,.int .i64 0,.int .i64 0] 314)=v5 at *;generalize v1.heap.size=kB at *;refine nm ?_;refine Zo 10 fun K hK=>?_;go_simp;refine (HRG.out v5 (.slice sa n sc) SSv5.out).mono ?_;rintro e v6 ⟨ho,hb⟩;have Sv6:=Zh (Jk Sv5.out hb);have Kv6:=Zh (Kv5.below hb Kv5.lt);rcases ho with ⟨hr,rfl⟩|⟨iv,pl,av,hr,rfl,hi,ha,hj,hf1,hf2⟩
      · have HRN:=Zh hr;refine hK _ _ Sv6.out ?_;clear hK K hb hr;refine nm ?_;refine th 11 19 (.tuple #[.agg #[.slice none 0 0,.slice none 0 0,.int .i64 0,.int .i64 0],.bool false]) Sv6.out ?_;refine th 12 31 (.agg #[.slice none 0 0,.slice none 0 0,.int .i64 0,.int .i64 0]) Sv6.out ?_;refine th 13 32 (.bool false) Sv6.out ?_;refine Zo 15 fun K hK=>?_;refine Jw 314 _ _ rfl kB #[.slice none 0 0,.slice none 0 0,.int .i64 0,.int .i64 0] rfl rfl _ Kv6.out rfl Qj (Qx none none 0 0 0 0 0 0) ?_;intro wz hD hO;have SZ:Hid (Below wc.heap.size wc wz):=Zh (Sv6.trans (hO.below Sv6.size fun k hk=>by rw [hk];exact KL.out));have HD:=Zh hD;refine hK _ _ SZ.out ?_;clear hK K hD hO;refine nm ?_;refine th 16 11 (.bool false) SZ.out ?_;refine Zd ?_
        go_wp2_with fail
        go_meet
        exact⟨kB,false,rfl,rfl,SZ.out,KL.out,.inl ⟨HRN.out,rfl⟩,⟨_,HD.out,rfl⟩⟩
      · have HRN:=Zh hr;obtain⟨ia,c1,hiv⟩:=Qa hi;obtain⟨aa,c2,hav⟩:=ha.form;obtain⟨n1,hn1⟩:∃m,pl.length=m:=⟨_,rfl⟩
        rw [hn1] at hiv;subst hiv;rw [Qz,List.length_map,hn1] at hav;subst hav;have HN1:Hid (n1=pl.length):=Zh hn1.symm;have HI:=Zh hi;have HN:=Zh ha;have HFF:Hid (Fresh wc.heap.size (.slice ia n1 c1)∧∀x∈pl,Fresh wc.heap.size x.2):=Zh ⟨fun b o n c e=>Nat.le_trans Sv5.size (hf1 b o n c e),fun x hx b o n c e=>Nat.le_trans Sv5.size (hf2 x hx b o n c e)⟩;clear hf1 hf2;have HJ:Hid (∀j,Value.ownBlock (.slice aa n1 c2)=some j→wc.heap.size≤j∧v5.heap.size≤j∧j<v6.heap.size):=Zh fun j hj2=>⟨Nat.le_trans Sv5.size (hj j hj2),hj j hj2,ha.own_lt (by rw [Qz];exact (JK.1 (HMB.out _ hr)).1) j hj2⟩
        refine hK _ _ Sv6.out ?_;clear hK K hb hr hi ha hj hn1;refine nm ?_;refine th 11 19 (.tuple #[.agg #[.slice ia n1 c1,.slice aa n1 c2,.int .i64 (Jd a.seq (pl.map (·.1))).1.length,.int .i64 (parts pl.length)],.bool true]) Sv6.out ?_;refine th 12 31 (.agg #[.slice ia n1 c1,.slice aa n1 c2,.int .i64 (Jd a.seq (pl.map (·.1))).1.length,.int .i64 (parts pl.length)]) Sv6.out ?_;refine th 13 32 (.bool true) Sv6.out ?_;have HJk:Hid (∀j,Value.ownBlock (.slice aa n1 c2)=some j→j≠kB∧wc.heap.size≤j∧j<v6.heap.size):=Zh fun j hj=>by have h1:=HJ.out j hj;have h2:=Kv5.lt;have h3:=KL.out;omega
        have HI2:=HI;have HN2:=HN;refine Zo 15 fun K hK=>?_;refine Jw 314 _ _ rfl kB #[.slice ia n1 c1,.slice aa n1 c2,.int .i64 (Jd a.seq (pl.map (·.1))).1.length,.int .i64 (parts pl.length)] rfl rfl _ Kv6.out rfl Qj (Qx _ _ _ _ _ _ _ _) ?_;intro wz hD hO;have SZ:Hid (Below wc.heap.size wc wz):=Zh (Sv6.trans (hO.below Sv6.size fun k hk=>by rw [hk];exact KL.out));have HD:=Zh hD;have HIz:=Zh (HI2.only Kv6.out (J42 none none 0 0 0 0 0 0) hO);have HNz:=Zh (HN2.only hO fun b o n c e=>(HJk.out b (by rw [e];rfl)).1);have HJz:Hid (∀j,Value.ownBlock (.slice aa n1 c2)=some j→wc.heap.size≤j∧j<wz.heap.size):=Zh fun j hj=>by have h1:=HJk.out j hj;have h2:=hO.size;omega
        refine hK _ _ SZ.out ?_;clear hK K hD hO;refine nm ?_;refine th 16 11 (.bool true) SZ.out ?_;refine Zd ?_
        go_wp2_with fail
        go_meet
        exact⟨kB,true,rfl,rfl,SZ.out,KL.out,.inr ⟨ia,n1,c1,aa,c2,pl,HRN.out,rfl,HN1.out,HD.out,HIz.out,HNz.out,HJz.out,HFF.out.1,HFF.out.2⟩,⟨_,HD.out,rfl⟩⟩
  · refine Jf (some 10) rfl _ _ (JB _ _ _ 314 rfl _ ZS) ?_;have hb:=(Below.refl wS.heap.size wS).alloc Zy (.cells #[.slice none 0 0,.slice none 0 0,.int .i64 0,.int .i64 0] 314);have hkb:=Blk.new wS #[.slice none 0 0,.slice none 0 0,.int .i64 0,.int .i64 0] 314;have Sv7:=Zh (Jk HSd.out hb);have Kv7:=Zh hkb;have KL:Hid (wc.heap.size≤wS.heap.size):=Zh HSd.size;refine hK _ _ Sv7.out ?_;clear hK K hb hkb;generalize wS.alloc (.cells #[.slice none 0 0,.slice none 0 0,.int .i64 0,.int .i64 0] 314)=v7 at *;generalize wS.heap.size=kB at *;refine nm ?_;refine Zo 9 fun K hK=>?_;go_simp;refine (HSE.out v7 (Jk HB4.out Sv7.out)).mono ?_;rintro e v8 ⟨sv,rfl,hs,hb⟩;have Sv8:=Zh (Jk Sv7.out hb);have SSv8:=Zh hs;have Kv8:=Zh (Kv7.below hb Kv7.lt);obtain⟨sa,sc,hsv,-⟩:=id hs;rw [HLN.out] at hsv;subst hsv;refine hK _ _ Sv8.out ?_;clear hK K hb hs;refine nm ?_;refine Zo 10 fun K hK=>?_;go_simp;refine (HRG.out v8 (.slice sa n sc) SSv8.out).mono ?_;rintro e v9 ⟨ho,hb⟩;have Sv9:=Zh (Jk Sv8.out hb);have Kv9:=Zh (Kv8.below hb Kv8.lt);rcases ho with ⟨hr,rfl⟩|⟨iv,pl,av,hr,rfl,hi,ha,hj,hf1,hf2⟩
    · have HRN:=Zh hr;refine hK _ _ Sv9.out ?_;clear hK K hb hr;refine nm ?_;refine th 11 19 (.tuple #[.agg #[.slice none 0 0,.slice none 0 0,.int .i64 0,.int .i64 0],.bool false]) Sv9.out ?_;refine th 12 31 (.agg #[.slice none 0 0,.slice none 0 0,.int .i64 0,.int .i64 0]) Sv9.out ?_;refine th 13 32 (.bool false) Sv9.out ?_;refine Zo 15 fun K hK=>?_;refine Jw 314 _ _ rfl kB #[.slice none 0 0,.slice none 0 0,.int .i64 0,.int .i64 0] rfl rfl _ Kv9.out rfl Qj (Qx none none 0 0 0 0 0 0) ?_;intro wz hD hO;have SZ:Hid (Below wc.heap.size wc wz):=Zh (Sv9.trans (hO.below Sv9.size fun k hk=>by rw [hk];exact KL.out));have HD:=Zh hD;refine hK _ _ SZ.out ?_;clear hK K hD hO;refine nm ?_;refine th 16 11 (.bool false) SZ.out ?_;refine Zd ?_
      go_wp2_with fail
      go_meet
      exact⟨kB,false,rfl,rfl,SZ.out,KL.out,.inl ⟨HRN.out,rfl⟩,⟨_,HD.out,rfl⟩⟩
    · have HRN:=Zh hr;obtain⟨ia,c1,hiv⟩:=Qa hi;obtain⟨aa,c2,hav⟩:=ha.form;obtain⟨n1,hn1⟩:∃m,pl.length=m:=⟨_,rfl⟩
      rw [hn1] at hiv;subst hiv;rw [Qz,List.length_map,hn1] at hav;subst hav;have HN1:Hid (n1=pl.length):=Zh hn1.symm;have HI:=Zh hi;have HN:=Zh ha;have HFF:Hid (Fresh wc.heap.size (.slice ia n1 c1)∧∀x∈pl,Fresh wc.heap.size x.2):=Zh ⟨fun b o n c e=>Nat.le_trans Sv8.size (hf1 b o n c e),fun x hx b o n c e=>Nat.le_trans Sv8.size (hf2 x hx b o n c e)⟩;clear hf1 hf2;have HJ:Hid (∀j,Value.ownBlock (.slice aa n1 c2)=some j→wc.heap.size≤j∧v8.heap.size≤j∧j<v9.heap.size):=Zh fun j hj2=>⟨Nat.le_trans Sv8.size (hj j hj2),hj j hj2,ha.own_lt (by rw [Qz];exact (JK.1 (HMB.out _ hr)).1) j hj2⟩
      refine hK _ _ Sv9.out ?_;clear hK K hb hr hi ha hj hn1;refine nm ?_;refine th 11 19 (.tuple #[.agg #[.slice ia n1 c1,.slice aa n1 c2,.int .i64 (Jd a.seq (pl.map (·.1))).1.length,.int .i64 (parts pl.length)],.bool true]) Sv9.out ?_;refine th 12 31 (.agg #[.slice ia n1 c1,.slice aa n1 c2,.int .i64 (Jd a.seq (pl.map (·.1))).1.length,.int .i64 (parts pl.length)]) Sv9.out ?_;refine th 13 32 (.bool true) Sv9.out ?_;have HJk:Hid (∀j,Value.ownBlock (.slice aa n1 c2)=some j→j≠kB∧wc.heap.size≤j∧j<v9.heap.size):=Zh fun j hj=>by have h1:=HJ.out j hj;have h2:=Kv8.lt;have h3:=KL.out;omega
      have HI2:=HI;have HN2:=HN;refine Zo 15 fun K hK=>?_;refine Jw 314 _ _ rfl kB #[.slice ia n1 c1,.slice aa n1 c2,.int .i64 (Jd a.seq (pl.map (·.1))).1.length,.int .i64 (parts pl.length)] rfl rfl _ Kv9.out rfl Qj (Qx _ _ _ _ _ _ _ _) ?_;intro wz hD hO;have SZ:Hid (Below wc.heap.size wc wz):=Zh (Sv9.trans (hO.below Sv9.size fun k hk=>by rw [hk];exact KL.out));have HD:=Zh hD;have HIz:=Zh (HI2.only Kv9.out (J42 none none 0 0 0 0 0 0) hO);have HNz:=Zh (HN2.only hO fun b o n c e=>(HJk.out b (by rw [e];rfl)).1);have HJz:Hid (∀j,Value.ownBlock (.slice aa n1 c2)=some j→wc.heap.size≤j∧j<wz.heap.size):=Zh fun j hj=>by have h1:=HJk.out j hj;have h2:=hO.size;omega
      refine hK _ _ SZ.out ?_;clear hK K hD hO;refine nm ?_;refine th 16 11 (.bool true) SZ.out ?_;refine Zd ?_
      go_wp2_with fail
      go_meet
      exact⟨kB,true,rfl,rfl,SZ.out,KL.out,.inr ⟨ia,n1,c1,aa,c2,pl,HRN.out,rfl,HN1.out,HD.out,HIz.out,HNz.out,HJz.out,HFF.out.1,HFF.out.2⟩,⟨_,HD.out,rfl⟩⟩
 case rest =>
 obtain⟨kB,ok,rfl,rfl,hb,hk,hr,-⟩:=hcut;have HM6:=Zh (HM5.below hb);have HB6:=Zh (Jk HB4.out hb);have HF6:=Zh (HFV.below HB6.out);have HKB:=Zh hk;have HML:=Zh HM5.lt.2.2.2.2;have hcs:=hb.size;clear hb hk HM5 HB4 HFV;rcases hr with ⟨hr,rfl⟩|⟨ia,n1,c1,aa,c2,pl,hr,rfl,hn1,hkb,hi,ha,hj,hfi⟩
 · have HRN:=Zh hr;clear hr hcs;go_upto_region 4 with fail;refine Zl ?_;refine Ji (run_build _ 214 _ _ J6k) rfl ?_;refine nm ?_;refine Ji (run_build _ 58 _ _ zI) rfl ?_;refine nm ?_;refine J0 rfl fun K hK=>?_;go_simp;refine (HNF.out _ _).mono ?_;rintro e w7 ⟨v,rfl,hf,hb⟩;have HF7:=Zh hf;have HM7:=Zh (HM6.below hb);clear hf hb HM6 HB6 HF6;refine hK _ _ (nm ?_);clear hK K;refine J3 (cs:=#[.slice none 0 0,.slice none 0 0]) HM7.rb rfl KJ (XM none none 0 0 0 0) rfl rfl rfl ?_;intro w8 hD hO hlD;have HF8:=Zh (HF7.onlyB hO HM7.rb (fun t=>by simp));have HM8:=Zh (HM7.setR hO hD);clear hD hO hlD HF7 HM7;refine nm ?_;refine J3 (cs:=#[.int .i64 0,.int .i64 0,.int .u32 0,.slice none 0 0]) HM8.tb rfl JG (Kg _ _ _ _ _ _) rfl rfl rfl ?_;intro w9 hD hO hlD;have HF9:=Zh (HF8.onlyB hO HM8.tb (fun t=>by simp));have HM9:=Zh (HM8.setT hO hD);clear hD hO hlD HF8 HM8;refine nm ?_;obtain⟨T,dd,hv⟩:=HF9.shape;subst hv;refine tk (.iface T dd) ?_;go_wp2_with fail
   refine bodyPost_ret (v:=.tuple #[.agg #[.slice none 0 0,.slice none 0 0],.agg #[.int .i64 0,.int .i64 0,.int .u32 0,.slice none 0 0],.iface T dd]) (Qr rfl _ _ rB tB #[.slice none 0 0,.slice none 0 0] #[.int .i64 0,.int .i64 0,.int .u32 0,.slice none 0 0] _ _ (.iface T dd) rfl rfl rfl Tryz.underlying214 Tryz.underlying58 rfl rfl KJ JG (HM9.rb.all rfl) (HM9.tb.all rfl)) rfl ⟨.inl ⟨HRN.out,_,rfl,HF9.out⟩,HGB.out ▸ HM9.bel⟩
 · have HRN:=Zh hr;have hmb:=HMB.out _ hr;have HN1:=Zh hn1;have HK6:=Zh hkb;have HI6:=Zh hi;have HA6:=Zh ha;have HJ6:=Zh hj;have h64:=(JK.1 hmb).2.1;rw [List.length_map] at h64;have HMAY:=Zh hmb;have HFF:Hid (Fresh gB (.slice ia n1 c1)∧∀x∈pl,Fresh gB x.2):=Zh (by
    have h1:=HM6.lt
    have h2:=HML.out
    exact⟨fun b o n c e=>by have:=hfi.1 b o n c e;omega,fun x hx b o n c e=>by have:=hfi.2 x hx b o n c e;omega⟩)
   clear hfi;obtain⟨k,hk⟩:∃k,(Jd a.seq (pl.map (·.1))).1.length=k:=⟨_,rfl⟩
   have HLK:Hid (k≤1000):=Zh (by
    have h1:=Qq a.seq (pl.map (·.1))
    have h2:=QI (marks (pl.map (·.1)))
    have h3:parts (pl.map (·.1)).length≤3:=(Qo hmb).2
    rw [List.length_map,List.length_map] at h2
    omega)
   have HK:=Zh hk;rw [hk] at HK6;obtain⟨q,hq⟩:∃q,parts pl.length=q:=⟨_,rfl⟩
   rw [hq] at HK6;have HQ:Hid (Km (pl.map (·.1))=(q:Int)∧q≤3):=Zh (by
    have h3:=(Qo hmb).2
    unfold Km
    rw [if_pos hmb,←hq]
    rw [List.length_map] at h3 ⊢
    exact⟨rfl,h3⟩)
   have HPL:=Zh fun w' h=>zS (w:=w') (f:Int) (Jd a.seq (pl.map (·.1))).2 (.slice aa n1 c2) h (by rw [Qz,List.length_map];omega) HFS.out (fun x hx=>by
    have h1:=zL hx
    have h2:=HLK.out
    rw [hk] at h1
    omega)
   clear hr hmb hn1 hkb hi ha hj h64 hk hq hcs;go_upto_region 5 with fail;refine Zl ?_;refine tk (.pointer (some ⟨aB,1,none⟩)) ?_;refine tk (.int .i64 a.off) ?_ (hr:=by have q:=HM6.ab.cell (i:=1) rfl;go_simp);refine tk (.pointer (some ⟨kB,2,none⟩)) ?_;refine tk (.int .i64 (k:Int)) ?_ (hr:=by have q:=HK6.cell (i:=2) rfl;go_simp);refine tk (.int .i64 (a.off+(k:Int))) ?_ (hr:=by have q:=gw2.out k HLK.out;go_simp);refine tk (.pointer (some ⟨aB,1,none⟩)) ?_;refine Xy (wc.setCell ⟨aB,1,none⟩ (.int .i64 (a.off+(k:Int)))) rfl (by have q:=HM6.ab.cell (i:=1) rfl;have fz:=HM6.ab.frozen 1;go_simp) ?_;have HNEK:Hid (aB≠kB∧rB≠kB∧tB≠kB):=Zh (by have h1:=HM6.lt;have h2:=HKB.out;have h3:=HML.out;omega);have HO7:Hid (Only (fun j=>j=aB) wc (wc.setCell ⟨aB,1,none⟩ (.int .i64 (a.off+(k:Int))))):=Zh ((Only.refl (fun j=>j=aB) wc).setCell (p:=⟨aB,1,none⟩) (.inl rfl) _);have HM7:=Zh (HM6.setA HO7.out (HM6.ab.set 1 (.int .i64 (a.off+(k:Int)))));have HI7:=Zh (HI6.only HM6.ab (xu _ _ _ _ _ _) HO7.out);have HA7:=Zh (HA6.only HO7.out fun b o n c e=>by have h1:=HJ6.out b (by rw [e];rfl);have h2:=HM6.lt;have h3:=HML.out;omega);have HK7:=Zh (HK6.only HO7.out fun e=>HNEK.out.1 e.symm);have HJ7:Hid (∀j,Value.ownBlock (.slice aa n1 c2)=some j→aB<j∧rB<j∧tB<j):=Zh fun j hj=>by have h1:=HJ6.out j hj;have h2:=HM6.lt;have h3:=HML.out;omega
   generalize wc.setCell ⟨aB,1,none⟩ (.int .i64 (a.off+(k:Int)))=w7 at *;clear HO7 HM6 HI6 HA6 HK6 HJ6 HB6 HF6 HSE HRG HSG;refine nm ?_;go_upto_region 6 with fail;refine Zl ?_;refine tk (.pointer (some ⟨aB,2,none⟩)) ?_;refine tk (.int .u32 a.seq) ?_ (hr:=by have q:=HM7.ab.cell (i:=2) rfl;go_simp);refine tk (.pointer (some ⟨kB,3,none⟩)) ?_;refine tk (.int .i64 (q:Int)) ?_ (hr:=by have q:=HK7.cell (i:=3) rfl;go_simp);refine tk (.int .u32 (q:Int)) ?_ (hr:=by have z:=gw3.out q (Nat.le_trans HQ.out.2 (by decide));go_simp);refine tk (.int .u32 ((a.seq+(q:Int))%M32)) ?_ (hr:=by have z:=gw4.out q;go_simp);refine tk (.pointer (some ⟨aB,2,none⟩)) ?_;refine Xy (w7.setCell ⟨aB,2,none⟩ (.int .u32 ((a.seq+(q:Int))%M32))) rfl (by have q:=HM7.ab.cell (i:=2) rfl;have fz:=HM7.ab.frozen 2;go_simp) ?_;have HO8:Hid (Only (fun j=>j=aB) w7 (w7.setCell ⟨aB,2,none⟩ (.int .u32 ((a.seq+(q:Int))%M32)))):=Zh ((Only.refl (fun j=>j=aB) w7).setCell (p:=⟨aB,2,none⟩) (.inl rfl) _);have HM8:=Zh (HM7.setA HO8.out (HM7.ab.set 2 (.int .u32 ((a.seq+(q:Int))%M32))));have HI8:=Zh (HI7.only HM7.ab (xu _ _ _ _ _ _) HO8.out);have HA8:=Zh (HA7.only HO8.out fun b o n c e=>by have h1:=HJ7.out b (by rw [e];rfl);omega);have HK8:=Zh (HK7.only HO8.out fun e=>HNEK.out.1 e.symm);generalize w7.setCell ⟨aB,2,none⟩ (.int .u32 ((a.seq+(q:Int))%M32))=w8 at *;clear HO8 HM7 HI7 HA7 HK7;refine nm ?_;go_upto_region 7 with fail;refine J9 (fun wq=>Only (fun j=>j=rB∨j=tB∨w8.heap.size≤j) w8 wq) (by kernel_rfl) ?_;have HSd:Hid (Only (fun j=>j=rB∨j=tB∨w8.heap.size≤j) w8 w8.drew):=Zh (Only.refl _ _).drew;have HLT:Hid (aB<rB∧rB<tB∧tB<w8.heap.size∧kB<w8.heap.size):=Zh ⟨HM8.lt.2.2.1,HM8.lt.2.2.2.1,HM8.lt.2.2.2.2,HK8.lt⟩;have HAW:Hid (∀wq,Only (fun j=>j=rB∨j=tB∨w8.heap.size≤j) w8 wq→Blk wq aB [.int .i64 a.seg,.int .i64 (a.off+(k:Int)),.int .u32 ((a.seq+(q:Int))%M32),.slice fa m fc]):=Zh fun wq hS=>HM8.ab.only hS (by have:=HLT.out;omega);have HKW:Hid (∀wq,Only (fun j=>j=rB∨j=tB∨w8.heap.size≤j) w8 wq→Blk wq kB [.slice ia n1 c1,.slice aa n1 c2,.int .i64 k,.int .i64 q]):=Zh fun wq hS=>HK8.only hS (by have h1:=HLT.out;have h2:=HNEK.out;omega);have HMd:=Zh (HM8.below Zq.drew);have HId:=Zh (HI8.below Zq.drew);have HAd:=Zh (HA8.below Zq.drew);have HSZ:Hid (w8.drew.heap.size=w8.heap.size):=Zh rfl;generalize w8.drew=wS at *;refine th 0 51 (.pointer (some ⟨kB,0,none⟩)) HSd.out ?_;refine th 1 52 (.slice ia n1 c1) HSd.out ?_ (hy:=fun wq hS=>by have q:=(HKW.out wq hS).cell (i:=0) rfl;go_simp);refine th 2 53 (.int .i64 (f:Int)) HSd.out ?_;refine th 3 54 (.pointer (some ⟨kB,1,none⟩)) HSd.out ?_;refine th 4 55 (.slice aa n1 c2) HSd.out ?_ (hy:=fun wq hS=>by have q:=(HKW.out wq hS).cell (i:=1) rfl;go_simp);refine th 7 58 (.agg #[.int .i64 a.seg,.int .i64 (a.off+(k:Int)),.int .u32 ((a.seq+(q:Int))%M32),.slice fa m fc]) HSd.out ?_ (hy:=fun wq hS=>by have q:=HAW.out wq hS;have q0:=q.cell (i:=0) rfl;have q1:=q.cell (i:=1) rfl;have q2:=q.cell (i:=2) rfl;have q3:=q.cell (i:=3) rfl;go_simp);refine Zo 5 fun K hK=>?_;go_simp;refine (HPL.out _ HAd.out).mono ?_;rintro e w9 ⟨pv,rfl,hp,hb⟩;have HS9:Hid (Only (fun j=>j=rB∨j=tB∨w8.heap.size≤j) w8 w9):=Zh (HSd.trans ((Only.of_belowB hb).more fun j _ hj=>.inr (.inr (by have:=HSZ.out;omega))));have HM9:=Zh (HMd.below hb);have HI9:=Zh (HId.below hb);have HP9:=Zh hp.ints;have HPB:Hid (∀j,pv.ownBlock=some j→tB<j):=Zh fun j hj=>by have h1:=(hp.lt j hj).1;have h2:=HMd.lt;omega
   obtain⟨pa,pc,hpv⟩:=hp.ints.form;obtain⟨n3,hn3⟩:∃n,((Jd a.seq (pl.map (·.1))).2.map (Xx (f:Int))).length=n:=⟨_,rfl⟩
   rw [hn3] at hpv;subst hpv;refine hK _ _ HS9.out ?_;clear hK K hp hb hn3 HMd HId HAd HPL HSd;refine nm ?_;refine th 6 57 (.agg #[.slice ia n1 c1,.slice pa n3 pc]) HS9.out ?_ (hy:=fun wq hS=>by exact J8 _ _ _ _ 214 _ rfl #[(0,.slice ia n1 c1),(1,.slice pa n3 pc)] (by simp only [List.map_toArray,List.map_cons,List.map_nil];rfl) _ (run_build wq 214 _ _ (Jal _ _ _ _ _ _)));refine Zo 8 fun K hK=>?_;refine Jw 214 _ _ rfl rB #[.slice ia n1 c1,.slice pa n3 pc] rfl rfl _ HM9.rb rfl KJ (XM _ _ _ _ _ _) ?_;intro w10 hD hO;have HS10:Hid (Only (fun j=>j=rB∨j=tB∨w8.heap.size≤j) w8 w10):=Zh (HS9.trans (hO.more fun j _ hj=>.inl hj));have HM10:=Zh (HM9.setR hO hD);have HI10:=Zh (HI9.only HM9.rb (J4i _ _ _ _ _ _) hO);have HP10:=Zh (HP9.only hO fun b o n c e=>by have h1:=HPB.out b (by rw [e];rfl);have h2:=HLT.out;omega);refine hK _ _ HS10.out ?_;clear hK K hD hO HM9 HI9 HP9 HS9;refine nm ?_;refine Zo 9 fun K hK=>?_;refine Jw 58 _ _ rfl tB #[.int .i64 a.seg,.int .i64 (a.off+(k:Int)),.int .u32 ((a.seq+(q:Int))%M32),.slice fa m fc] rfl rfl _ HM10.tb rfl JG (Kg _ _ _ _ _ _) ?_;intro w11 hD hO;have HS11:Hid (Only (fun j=>j=rB∨j=tB∨w8.heap.size≤j) w8 w11):=Zh (HS10.trans (hO.more fun j _ hj=>.inr (.inl hj)));have HM11:=Zh (HM10.setT hO hD);have HI11:=Zh (HI10.only HM10.tb (xu _ _ _ _ _ _) hO);have HP11:=Zh (HP10.only hO fun b o n c e=>by have h1:=HPB.out b (by rw [e];rfl);omega);refine hK _ _ HS11.out ?_;clear hK K hD hO HM10 HI10 HP10 HS10;refine nm ?_;refine th 10 8 (.nilIface) HS11.out ?_;refine Zd ?_
   go_wp2_with fail
   refine bodyPost_ret (v:=.tuple #[.agg #[.slice ia n1 c1,.slice pa n3 pc],.agg #[.int .i64 a.seg,.int .i64 (a.off+(k:Int)),.int .u32 ((a.seq+(q:Int))%M32),.slice fa m fc],.nilIface]) (Qr rfl _ _ rB tB #[.slice ia n1 c1,.slice pa n3 pc] #[.int .i64 a.seg,.int .i64 (a.off+(k:Int)),.int .u32 ((a.seq+(q:Int))%M32),.slice fa m fc] _ _ .nilIface rfl rfl rfl Tryz.underlying214 Tryz.underlying58 rfl rfl KJ JG (HM11.rb.all rfl) (HM11.tb.all rfl)) rfl ⟨.inr ⟨pl.map (·.1),ia,n1,c1,pa,n3,pc,pl,HRN.out,by rw [HK.out,HQ.out.1],rfl,HI11.out,?_,fun j hj=>by have h1:=HPB.out j hj;have h2:=HM11.lt;have h3:=HGB.out;omega,by rw [HGB.out];exact HFF.out.1,by rw [HGB.out];exact HFF.out.2⟩,HGB.out ▸ HM11.bel⟩;unfold pOf;rw [HFO.out];exact HP11.out
end
open Go.Extern.Stop Go.Stop Go.Extern
theorem jB(h:Value)(w:World):(Go.method 461 282 (.agg #[h]) "Comparable").run Tryz.prog w=.ok (220,.agg #[h]) w:=by kernel_rfl
theorem Je9(v:Value)(xT:TypeId)(w:World):(Instr.typeAssert (.iface 190 v) xT 301 true).run Tryz.prog w=.ok (.tuple #[.nilIface,.bool false]) w:=run_typeAssert_lacksB Tryz.underlying301 (by kernel_rfl) (by kernel_rfl) v xT w
theorem zW(v:Value)(xT:TypeId)(w:World):(Instr.typeAssert (.iface 190 v) xT 289 true).run Tryz.prog w=.ok (.tuple #[.iface 190 v,.bool true]) w:=run_typeAssert_hasB Tryz.underlying289 (by kernel_rfl) v xT w
theorem J2d(v:Value)(xT:TypeId)(w:World):(Instr.typeAssert (.iface 28 v) xT 301 true).run Tryz.prog w=.ok (.tuple #[.nilIface,.bool false]) w:=run_typeAssert_lacksB Tryz.underlying301 (by kernel_rfl) (by kernel_rfl) v xT w
theorem J2e(v:Value)(xT:TypeId)(w:World):(Instr.typeAssert (.iface 28 v) xT 289 true).run Tryz.prog w=.ok (.tuple #[.nilIface,.bool false]) w:=run_typeAssert_lacksB Tryz.underlying289 (by kernel_rfl) (by kernel_rfl) v xT w
theorem J2f(v:Value)(xT:TypeId)(w:World):(Instr.typeAssert (.iface 28 v) xT 290 true).run Tryz.prog w=.ok (.tuple #[.nilIface,.bool false]) w:=run_typeAssert_lacksB Tryz.underlying290 (by kernel_rfl) (by kernel_rfl) v xT w
theorem kj(a:Addr)(w:World):(Go.method 461 190 (.pointer (some a)) "Unwrap").run Tryz.prog w=.ok (214,.pointer (some a)) w:=by kernel_rfl
theorem Jhm:(Tryz.prog.info? 28).map (·.comparable)=some true:=by kernel_rfl
theorem Jea(a b:Int)(w:World):(binOp .eql 121 (.iface 28 (.int .i64 a)) (.iface 28 (.int .i64 b))).run Tryz.prog w=.ok (.bool (a == b)) w:=by
 obtain⟨i,hi,hc⟩:=Option.map_eq_some_iff.1 Jhm;exact ZT w a b Tryz.underlying121 Tryz.underlying28 hi hc
theorem Jeb(a b:Value)(w:World):(binOp .eql 121 (.iface 190 a) (.iface 28 b)).run Tryz.prog w=.ok (.bool false) w :=
 run_eql_iface_types 190 28 a b Tryz.underlying121 (by decide) w
theorem Jjc(args:Array Value)(w:World):(callFunc 220 args).run Tryz.prog w=(((ReflectliteType.method fun t=>do Go.Extern.Rtype.noPackHeld "Comparable" t;pure (.bool (←typeInfo t).comparable):Array Value→Sem Value) args).run Tryz.prog w).andThen fun v w'=>.ok (.value v) w':=@run_callFunc_extern Tryz.prog 220 _ (ReflectliteType.method fun t=>do Go.Extern.Rtype.noPackHeld "Comparable" t;pure (.bool (←typeInfo t).comparable)) Tryz.func220 (by kernel_rfl) (by kernel_rfl) (by kernel_rfl) (by kernel_rfl) args w
theorem yk(w:World):((ReflectliteType.method fun t=>do Go.Extern.Rtype.noPackHeld "Comparable" t;(fun a=>Value.bool a.comparable) <$> typeInfo t) #[.agg #[.pointer (some ⟨4,28,none⟩)]]).run Tryz.prog w=.ok (.bool true) w:=by kernel_rfl
theorem Jan{w:World}{n:Int}:∀{ts:List ByteArray} {v:Value},Chain w n ts v→∃T d,v=.iface T d
 | [],_,h=>⟨_,_,h⟩
 | _::_,_,⟨_,_,h,_⟩=>⟨_,_,h⟩
theorem Jhn(n m:Int)(r:Bool)(hr:(n == m)=r)(ts:List ByteArray)(v:Value)(w:World)(hc:Chain w n ts v) :
 Calls Tryz.prog 143 #[v,.iface 28 (.int .i64 m),.bool true] w fun e w'=>e=.returned (.bool r)∧w=w':=by
 have e1:=Jea n m;have e2:=fun a=>Jeb a (.int .i64 m);rw [hr] at e1;have mU:=kj;have nA:=Je9;have nU:=zW;have n1:=J2d;have n2:=J2e;have n3:=J2f;have HC:=Zh hc;clear hc hr;go_enter Tryz.func143,Tryz.ntmps143
 go_wp2_with fail
 go_loopg [0] ts.length (fun k x wr=>∃us:List ByteArray,us.length≤k∧Chain wr n us x∧w=wr)
 case atStart=>exact⟨ts,Nat.le_refl _,HC.out,rfl⟩
 case round =>
  obtain⟨us,hl,hcr,rfl⟩:=hrel;cases us with
  | nil =>
   simp only [Chain] at hcr;subst hcr;cases r
   · go_wp2
     go_ret;exact⟨rfl,rfl⟩
   · go_wp2
     go_ret;exact⟨rfl,rfl⟩
  | cons s us =>
   obtain⟨a,u,rfl,k0,k1,k2,hcu⟩:=hcr;obtain⟨T,d,rfl⟩:=Jan hcu;have HU:=Zh hcu;have HL:=Zh hl;clear hcu hl
   go_wp2_with (go_at_call 214;go_must (refine (q9 a (.iface T d) _ k1).mono ?_);rintro e w' ⟨rfl,rfl⟩)
   go_roundg us.length
   case measure=>have:=HL.out;simp at this;omega
   case rel=>exact⟨us,Nat.le_refl _,HU.out,rfl⟩
theorem Jao(n m:Int)(r:Bool)(hr:(n == m)=r)(ts:List ByteArray)(T:TypeId)(d:Value)(w:World)(hc:Chain w n ts (.iface T d)) :
 Calls Tryz.prog 114 #[.iface T d,.iface 28 (.int .i64 m)] w fun e w'=>e=.returned (.bool r)∧w=w':=by
 have h31:=Jgd;have h79:=Jjc;have tO:=zt;have mC:=jB;have cO:=yk;have HI:=Zh (Jhn n m r hr ts (.iface T d) w hc);clear hc hr;go_enter Tryz.func114,Tryz.ntmps114
 go_wp2_with (go_at_call 143;go_must (refine HI.mono ?_);rintro e w' ⟨rfl,rfl⟩)
 go_ret;exact⟨rfl,rfl⟩
theorem Jho(a:Value)(w:World) :
 CallsD Tryz.prog 113 #[a] .returning w fun e u' w'=>e=.returned (.tuple #[])∧u'=.returning∧w'=w:=by
 refine callsD_of_wpS Tryz.func113 rfl fun c₀ cs hu=>?_;apply wpS_seq;apply wpS_region;simp [wpOpsS,go_sem,recoverD,hu,Tryz.ntmps113,Exit.thenS];refine wpS_cond (t:=false) (by simp [Act.eval,Array.replicate]) ?_;simp only [Bool.false_eq_true,if_false];refine wpS_of_wp (wp_skip ?_);cases c₀
 simp_all [bodyPostS,results,Tryz.results113]
theorem YD(m:Int)(r:Bool)(hr:(m == 0)=r)(w:World):Calls Tryz.prog 84 #[.nilIface,.int .i64 m] w fun e w'=>e=.returned (.bool r)∧Below w.heap.size w w':=by
 go_enter_defers Tryz.func84,Tryz.ntmps84
 go_wp2
 simp [bodyPostD,Leaves,settle,results,Tryz.results84,go_sem];exact Zq.alloc Zy _
theorem YE(n m:Int)(r:Bool)(hr:(n == m)=r)(ts:List ByteArray)(T:TypeId)(d:Value)(w:World)(hc:Chain w n ts (.iface T d)) :
 Calls Tryz.prog 84 #[.iface T d,.int .i64 m] w fun e w'=>e=.returned (.bool r)∧Below w.heap.size w w':=by
 have hmf:∀(fn:Fn) (first cap:Array Value) (w:World),(Instr.makeFunc fn first cap).run Tryz.prog w=.ok (.func fn first cap) w:=fun _ _ _ _=>rfl;have b1:Below w.heap.size w (w.alloc (.cells #[.bool false] 4)):=(Below.refl w.heap.size w).alloc Zy _;have HA:=Zh (Jao n m r hr ts T d (w.alloc (.cells #[.bool false] 4)) (hc.below Zy b1));have HB:=Zh b1;clear hr hc b1
 go_enter_defers Tryz.func84,Tryz.ntmps84
 go_wp2_with (go_at_call 114;go_must (refine HA.mono ?_);rintro e w1 ⟨rfl,rfl⟩)
 refine leaves_cons (f:=113) (args:=#[.pointer (some ⟨w.heap.size,0,none⟩)]) (by simp) (by simp [go_sem]) ?_;refine (Jho _ _).mono ?_;rintro e u' w'' ⟨rfl,rfl,rfl⟩;simp [Leaves,settle,results,Tryz.results84,go_sem];exact Zq.alloc Zy _
end Go.Proofs.YtdbfmikeaoaebaaGreatDoor
