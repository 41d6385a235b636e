/- Steps. -/
import Derived.Test.YtdbfmikeaoaebaaGreatDoorMav
import Derived.Test.YtdbfmikeaoaebaaGreatDoorMar
import Derived.Test.YtdbfmikeaoaebaaGreatDoorMau
set_option linter.unusedSimpArgs false
set_option linter.unusedVariables false
set_option maxRecDepth 100000
set_option maxHeartbeats 4000000
namespace Go.Proofs.YtdbfmikeaoaebaaGreatDoor
open Go.RowKit Rn
variable {B b c i m n:Nat} {S:Nat→Prop} {V:List (Nat×List Value)} {W W0 w w':World} {X:List (List Int)} {fv ov:Value} {l:List Int}
structure RdG (w wx:World) (sv:Value) (P:List (List It×List Int)) (bj:Ja) (tv:Value) (g4:Nat):Prop where
 bel:Below w.heap.size w wx
 gs:∃BB gl,w.heap.size≤BB∧Gs BB wx sv P gl
 ft:IntsAt wx tv bj.free
 fr:Fresh w.heap.size tv
 at_:Blk wx g4 (atC bj tv)
 ge:w.heap.size≤g4
theorem IntsAt.atc{o:Nat}(h:IntsAt w (.slice (some ⟨b,o,none⟩) n c) l){x:Int}(hi:l[i]? = some x):w.cell? ⟨b,o+i,none⟩=some (.int .i64 x):=by
 obtain⟨a,cap,e,hc⟩:=h;obtain⟨b',o',ea,hx⟩:=hc i x hi;injection e with e1 e2 e3
 rw [←e1] at ea;cases ea;exact hx
theorem ItemsAt.atc{o:Nat}{l:List (It×Value)}(h:ItemsAt w (.slice (some ⟨b,o,none⟩) n c) l){x:It×Value}(hi:l[i]? = some x):At w b (o+i*47) (x.1.cells x.2).toArray:=by
 obtain⟨a,cap,e,hl,hc⟩:=h;obtain⟨hw,hb,b',o',ea,hx⟩:=hc i x hi;injection e with e1 e2 e3
 rw [←e1] at ea;cases ea;exact hx
theorem St.side2{kh:Nat}{cur cur':List Int}(h:Rn.St W.heap.size (fun k=>False∨(Value.slice (some ⟨kh,0,none⟩) m c).ownBlock=some k) (fun u=>Only S W u∧OwnN u B (.slice (some ⟨kh,0,none⟩) m c) cur) V w)(hS:S kh)(hk:kh<W.heap.size)(hO:Only (fun k=>k=kh) w w')(hy:OwnN w' B (.slice (some ⟨kh,0,none⟩) m c) cur'):Rn.St W.heap.size (fun k=>False∨(Value.slice (some ⟨kh,0,none⟩) m c).ownBlock=some k) (fun u=>Only S W u∧OwnN u B (.slice (some ⟨kh,0,none⟩) m c) cur') V w' :=
 ⟨Nat.le_trans h.sz hO.size,fun i g L hi=>(h.blk i g L hi).only hO fun e=>by have:=h.ge i g L hi; omega,h.ge,h.nd,⟨h.ex.1.trans ⟨hO.os,hO.tape,hO.output,hO.size,fun i hi hn=>hO.block i hi fun e=>hn (by rw [e]; exact hS)⟩,hy⟩,Stays.only.both Stays.own,h.av,h.ns⟩
theorem Jac{r:Rn.Rg}(hwf:r.Wf)(hg:r.g.Ok)(hrs:∀x∈r.rs,x≠0→4≤x∧x≤4+r.s*r.l-1){mv:Value}(h2:IsSl ov)(h4:IsSl mv)(m c kh xb b B:Nat)(hm:(m:Int)=r.p)(hs:List Int)(hlen:hs.length=m)(F:List Int)(w:World)(hfv:IntsAt w fv F)(hB:B≤w.heap.size)(hx:Blk w xb (JM r (.slice (some ⟨kh,0,none⟩) m c) ov ⟨r.seg,r.off,r.seq,[]⟩ fv (.pointer (some ⟨b,0,none⟩)) mv))(hh:OwnN w B (.slice (some ⟨kh,0,none⟩) m c) hs)(hne:xb≠kh)(hvr:Vars W0){Fd:Nat→Prop}{d:De.D}(hd:De.Dv W0 w b Fd d)(hW:W0.heap.size≤xb)(hF:¬Fd xb)(hWk:W0.heap.size≤kh)(hFk:¬Fd kh)(hLn:d.L.length≤1000000)(hX:Img d X)(ht:4+r.s*r.l≤(X.length:Int))(hbig:X.length≤1024)(hfit:fits r.g ⟨r.seg,r.off,r.seq,F⟩ d.S.length=true)(hq:Kj r.seq)(P:List (List It×List Int))(bj:Ja)(hway:Way X r.g ⟨r.seg,r.off,r.seq,F⟩ P bj)(hnx:nxt X r.g bj=none)(hfits:Fits P m)(hPn:P.length≤1000)(hPs:∀q∈P,q.2.length<100000)(hsm:∀x∈QS hs P,Jo x)(L:List Int)(hri:QG X r.g (QS hs P) r.rs bj.seg bj.off r.g.cap=some L) :
 Calls Tryz.prog 68 #[.pointer (some ⟨xb,0,none⟩)] w fun e w'=>∃tv,e=.returned .nilIface∧Blk w' xb (JM r (.slice (some ⟨kh,0,none⟩) m c) ov ⟨bj.seg,bj.off,bj.seq,[]⟩ tv (.pointer (some ⟨b,0,none⟩)) mv)∧OwnN w' B (.slice (some ⟨kh,0,none⟩) m c) (QS hs P)∧IntsAt w' tv bj.free∧Fresh w.heap.size tv∧Only (fun k=>k=xb∨k=kh) w w':=by
 have HWF:=Zh hwf;have HG:=Zh hg;have HSO:=Zh h2;have HSM:=Zh h4;have HSF:=Zh hfv.sl;have HXB:=Zh hx;have HH:=Zh hh;have HBW:=Zh hB;have HNE:=Zh hne;have HFT:=Zh hfits;have HPN:=Zh hPn;have HPS:=Zh hPs;have HMP:=Zh hm;have HLEN:=Zh hlen;have HKH:=Zh (hh.lt kh rfl).2;have HXW:=Zh hx.lt;have HRD:Hid (∀w',Below w.heap.size w w'→Calls Tryz.prog 102 #[.pointer (some ⟨b,0,none⟩),r.g.v,.agg (atC ⟨r.seg,r.off,r.seq,[]⟩ fv).toArray] w' fun e w2=>∃sv tv,e=.returned (.tuple #[sv,.agg (atC bj tv).toArray,.int .i64 0])∧(∃BB gl,w'.heap.size≤BB∧Gs BB w2 sv P gl)∧IntsAt w2 tv bj.free∧Fresh w'.heap.size tv∧Below w'.heap.size w' w2):=Zh fun w' hb=>(Sr.J5t (a:=⟨r.seg,r.off,r.seq,F⟩) (hd.below hb) hX hbig hLn hfit hq (hfv.below hb)).mono fun e w2 ⟨P',b',sv,tv,⟨k1,k2⟩,k3,k4,k5,k6,k7⟩=>by
  obtain⟨rfl,rfl⟩:=hway.uniq hnx k1 k2;exact⟨sv,tv,k3,k4,k5,k6,k7⟩
 have HRI:Hid (∀w' tv,IntsAt w' (.slice (some ⟨kh,0,none⟩) m c) (QS hs P)→IsSl tv→Blk w' xb (JM r (.slice (some ⟨kh,0,none⟩) m c) ov ⟨bj.seg,bj.off,bj.seq,[]⟩ tv (.pointer (some ⟨b,0,none⟩)) mv)→De.Dv W0 w' b Fd d→Calls Tryz.prog 99 #[.pointer (some ⟨xb,0,none⟩)] w' fun e w2=>J5o w'.heap.size (some L) e w2∧Below w'.heap.size w' w2):=Zh fun w' tv i1 i3 hb hdv=>by
  have:=qV hwf hg ⟨bj.seg,bj.off,bj.seq,[]⟩ (QS hs P) (by rw [J5v,hlen]; exact hm) hsm hrs w' i1 h2 i3 h4 hb (hvr.below (Nat.le_refl _) hdv.2) hdv hLn hX ht;rw [hri] at this;exact this
 have HDV:Hid (∀w',Only (fun k=>k=xb∨k=kh) w w'→De.Dv W0 w' b Fd d):=Zh fun w' ho=>hd.go ho (fun k hk=>hk.elim (fun e=>by rw [e]; exact hW) fun e=>by rw [e]; exact hWk) (fun k hf hk=>hk.elim (fun e=>hF (e ▸ hf)) fun e=>hFk (e ▸ hf));have H:=Rn.St.start (Stays.below w) (Below.refl _ _);clear hwf hg hrs h2 h4 hm hlen hfv hB hx hh hne hvr hd hW hF hWk hFk hLn hX ht hbig hfit hq hway hnx hfits hPn hPs hsm hri;go_enter Tryz.func68,Tryz.ntmps68;go_upto_region 0 with fail;refine Zl ?_;refine tk (Value.nilIface) ?_;go_upto_region 1 with fail
 go_cut [3,4,5] from 3 to 32 (fun s3 s4 s5 wx=>∃sv tv g4,sv=s3∧s4=.pointer (some ⟨g4,0,none⟩)∧s5=.int .i64 0∧RdG w wx sv P bj tv g4)
 case first =>
  refine J8 (fun wq=>Below w.heap.size w wq) (by kernel_rfl) ?_;replace H:=H.drew;generalize w.drew=w0 at *;refine th 0 14 (.pointer (some ⟨xb,0,none⟩)) H.ex ?_;refine th 1 15 (.pointer (some ⟨xb,0,none⟩)) H.ex ?_;refine th 2 16 (.pointer (some ⟨xb,22,none⟩)) H.ex ?_;refine th 3 17 ((.pointer (some ⟨b,0,none⟩))) H.ex ?_ (hy:=fun u hS=>by have hq:=(HXB.below hS HXB.lt).cell (i:=22) (v:=(.pointer (some ⟨b,0,none⟩))) ((J36 HWF.out (.slice (some ⟨kh,0,none⟩) m c) ov ⟨r.seg,r.off,r.seq,[]⟩ fv (.pointer (some ⟨b,0,none⟩)) mv)); go_simp);refine th 4 18 (.pointer (some ⟨xb,0,none⟩)) H.ex ?_;refine th 5 19 (.pointer (some ⟨xb,0,none⟩)) H.ex ?_;refine th 6 20 (.pointer (some ⟨xb,0,none⟩)) H.ex ?_;refine th 7 21 (.pointer (some ⟨xb,0,none⟩)) H.ex ?_;refine th 8 22 (.pointer (some ⟨xb,1,none⟩)) H.ex ?_;refine th 9 23 (.agg (geC r).toArray) H.ex ?_ (hy:=fun u hS=>QR (c:=1) (Jh r.g) (jS _ _ _ _ _ _ _) (HXB.below hS HXB.lt) rfl _ _ _ rfl rfl);refine th 10 24 (.pointer (some ⟨xb,0,none⟩)) H.ex ?_;refine th 11 25 (.pointer (some ⟨xb,0,none⟩)) H.ex ?_;refine th 12 26 (.pointer (some ⟨xb,0,none⟩)) H.ex ?_;refine th 13 27 (.pointer (some ⟨xb,18,none⟩)) H.ex ?_;refine th 14 28 (.agg (atC ⟨r.seg,r.off,r.seq,[]⟩ fv).toArray) H.ex ?_ (hy:=fun u hS=>QR (c:=18) (XS ⟨r.seg,r.off,r.seq,[]⟩ HSF.out) (kX _ _ _ _ _ _ _) (HXB.below hS HXB.lt) (by simp [HWF.cells]) _ _ _ rfl rfl);refine wpAnyH_all (rs:=[15,20]) (by kernel_rfl) (by simp) fun mm hm=>?_;rcases (show mm=15∨mm=20 by simpa using hm) with rfl | rfl
  · refine wpOp_step rfl fun K hK1=>YS rfl ?_;have hK:=fun a w hS hA=>hK1 a w ⟨hS,hA⟩;clear hK1 hm;go_simp;refine (HRD.out _ H.ex).mono ?_;rintro e w2 ⟨sv,tv,rfl,⟨BB,gl,hBB,hgs⟩,hft,hfr,hb⟩;have hZ:=H.sz;replace H:=H.call hb;refine hK _ _ H.ex (nm ?_);clear hK K;refine th 16 13 (.tuple #[sv,.agg (atC bj tv).toArray,.int .i64 0]) H.ex ?_;refine th 17 30 (sv) H.ex ?_;refine th 18 31 (.agg (atC bj tv).toArray) H.ex ?_;refine th 19 32 (.int .i64 0) H.ex ?_;refine Zo 20 fun K hK=>?_;refine Jg (some 4) rfl _ _ (JI _ _ _ 58 rfl _ J38) (hK _ _ ((H.new (XS _ Jl).ns (Blk.new w2 _ 58) ((Below.refl _ _).alloc (Nat.le_refl _) _)).ex) ?_);have hA:=Blk.new w2 (atC ⟨0,0,0,[]⟩ (.slice none 0 0)).toArray 58;have hab:Below w2.heap.size w2 (w2.alloc (.cells (atC ⟨0,0,0,[]⟩ (.slice none 0 0)).toArray 58)):=(Below.refl _ _).alloc (Nat.le_refl _) _;have H3:=H.new (XS _ Jl).ns hA hab;clear hK K;refine nm ?_;generalize w2.alloc _=w3 at *;refine th 21 3 (sv) H3.ex ?_;refine Zo 22 fun K hK=>?_;refine stH (M:=atC ⟨0,0,0,[]⟩ (.slice none 0 0)) (XS bj hft.sl) rfl hA ?_;intro w4 hD hO;have H4:=H3.put 0 rfl (XS bj hft.sl).ns hD hO;have h24:Below w2.heap.size w2 w4:=hab.trans (hO.below hab.size fun k hk=>Nat.le_of_eq hk.symm);refine hK _ _ H4.ex (nm ?_);clear hK K;refine th 23 5 (.int .i64 0) H4.ex ?_;refine Zd ?_
    go_wp2_with fail
    go_meet
    exact⟨sv,tv,w2.heap.size,rfl,rfl,rfl,H4.ex,⟨BB,gl,by omega,hgs.below h24⟩,hft.below h24,Fresh.up hfr hZ,hD,H.sz⟩
  · refine wpOp_step rfl fun K hK1=>YS rfl ?_;have hK:=fun a w hS hA=>hK1 a w ⟨hS,hA⟩;clear hK1 hm;refine Jg (some 4) rfl _ _ (JI _ _ _ 58 rfl _ J38) (hK _ _ ((H.new (XS _ Jl).ns (Blk.new w0 _ 58) ((Below.refl _ _).alloc (Nat.le_refl _) _)).ex) ?_);have hA:=Blk.new w0 (atC ⟨0,0,0,[]⟩ (.slice none 0 0)).toArray 58;have hab:Below w0.heap.size w0 (w0.alloc (.cells (atC ⟨0,0,0,[]⟩ (.slice none 0 0)).toArray 58)):=(Below.refl _ _).alloc (Nat.le_refl _) _;have hlt:w0.heap.size<(w0.alloc (.cells (atC ⟨0,0,0,[]⟩ (.slice none 0 0)).toArray 58)).heap.size:=by simp
    have H3:=H.new (XS _ Jl).ns hA hab;have hZ:=H.sz;clear hK K;refine nm ?_;clear H;generalize w0.alloc _=w3 at *;have H:=H3;clear H3 hab;refine Zo 15 fun K hK=>?_;go_simp;refine (HRD.out _ H.ex).mono ?_;rintro e w2 ⟨sv,tv,rfl,⟨BB,gl,hBB,hgs⟩,hft,hfr,hb⟩;have hA2:=hA.below hb hA.lt;replace H:=H.call hb;refine hK _ _ H.ex (nm ?_);clear hK K;refine th 16 13 (.tuple #[sv,.agg (atC bj tv).toArray,.int .i64 0]) H.ex ?_;refine th 17 30 (sv) H.ex ?_;refine th 18 31 (.agg (atC bj tv).toArray) H.ex ?_;refine th 19 32 (.int .i64 0) H.ex ?_;refine th 21 3 (sv) H.ex ?_;refine Zo 22 fun K hK=>?_;refine stH (M:=atC ⟨0,0,0,[]⟩ (.slice none 0 0)) (XS bj hft.sl) rfl hA2 ?_;intro w4 hD hO;have H4:=H.put 0 rfl (XS bj hft.sl).ns hD hO;refine hK _ _ H4.ex (nm ?_);clear hK K;refine th 23 5 (.int .i64 0) H4.ex ?_;refine Zd ?_
    go_wp2_with fail
    go_meet
    exact⟨sv,tv,w0.heap.size,rfl,rfl,rfl,H4.ex,⟨BB,gl,by omega,hgs.only hO fun q h1 _ e=>by omega⟩,hft.onlyF hO fun q o n c e h=>by have:=hfr q o n c e; have h:q=w0.heap.size:=h; omega,Fresh.up hfr (by omega),hD,hZ⟩
 case rest =>
  obtain⟨sv,tv,g4,rfl,rfl,rfl,hR⟩:=hcut;clear H;obtain⟨BB,gl,hBB,hgs⟩:=hR.gs;have HRB:=Zh hR.bel;have HFT2:=Zh hR.ft;have HFR:=Zh hR.fr;have HST:=Zh hR.ft.sl;have HAT:=Zh hR.at_;have HGE:=Zh hR.ge;have hkl:kh<wc.heap.size:=Nat.lt_of_lt_of_le HKH.out hR.bel.size;have HKX:=Zh hkl;have HXX:=Zh (HXB.below hR.bel HXB.lt);have HHX:Hid (OwnN wc B (.slice (some ⟨kh,0,none⟩) m c) hs):=Zh (OwnN.grow HH.out ⟨hR.bel.os,hR.bel.tape,hR.bel.output,hR.bel.size,fun k hk _=>hR.bel.block k hk⟩ (Apr.none _));have HGR:Hid (∀(i:Nat) (x:List It×List Int),P[i]? = some x→∃g cap iv pv pl,sv=.slice (some ⟨g,0,none⟩) P.length cap∧(∀u,Only (fun k=>k=kh) wc u→At u g (i*2) #[iv,pv]∧ItemsAt u iv pl∧IntsAt u pv x.2)∧pl.map (·.1)=x.1):=Zh fun i x hi=>Jfy hgs hi fun q hq e=>by have:=HKH.out; omega
  obtain⟨sa,sc,hsv⟩:=GsAt.form ⟨_,_,hgs⟩;generalize hn:P.length=n at hsv HGR HPN;have HN:=Zh hn;subst hsv;have H:=Rn.St.start (Rn.Stays.both (Stays.only (W:=wc) (S:=fun k=>k=kh)) (Stays.own (B:=B) (sv:=.slice (some ⟨kh,0,none⟩) m c) (l:=hs))) ⟨Only.refl _ _,HHX.out⟩;have HBC:Hid (B≤wc.heap.size):=Zh (Nat.le_trans HBW.out hR.bel.size);have HST0:Hid (QS hs P=QS hs (P.drop 0)):=Zh rfl;clear hR hBB hgs hkl hn
  go_wp2_with fail
  go_loopg [35] n (fun q i wr=>∃(i2:Nat) (cur:List Int),n-i2≤q∧i2≤n∧i=.int .i64 i2∧QS hs P=QS cur (P.drop i2)∧cur.length=m∧Rn.St wc.heap.size (fun k=>False∨(Value.slice (some ⟨kh,0,none⟩) m c).ownBlock=some k) (fun u=>Only (fun k=>k=kh) wc u∧OwnN u B (.slice (some ⟨kh,0,none⟩) m c) cur) [] wr)
  case atStart=>exact⟨0,hs,by omega,by omega,rfl,HST0.out,HLEN.out,H⟩
  case round =>
   clear H HST0;obtain⟨i2,cur,hq,hi,rfl,hro,hcl,H⟩:=hrel;have HQ:=Zh hq;have HRO:=Zh hro;have HCL:=Zh hcl;clear hq hro hcl
   by_cases hlt:i2<n
   · have hk1:(i2:Int)<(n:Int):=by omega
     obtain⟨x,hx⟩:∃x,P[i2]? = some x:=⟨_,List.getElem?_eq_getElem (by have:=HN.out; omega)⟩
     obtain⟨g,cap,iv,pv,pl,hsv,hat,hpl⟩:=HGR.out i2 x hx;injection hsv with e1 e2 e3
     subst e1;obtain⟨hfl,hfi⟩:=HFT.out x (List.mem_of_getElem? hx);have HIN:=Zh hlt;have HX:=Zh hx;have HA:=Zh hat;have HPL:=Zh hpl;have HFI:=Zh hfi;obtain⟨ia,ic,hiv,-⟩:=(hat wc (Only.refl _ _)).2.1;obtain⟨pa,pc,hpv,-⟩:=(hat wc (Only.refl _ _)).2.2;have hpn:pl.length=x.2.length:=by rw [←hfl,←hpl,List.length_map]
     generalize hnk:pl.length=nk at *;rw [←hpn] at hpv;subst hiv hpv;have HNK:=Zh hnk;have HPN2:=Zh hpn.symm;have HNS:Hid (x.2.length<100000):=Zh (HPS.out x (List.mem_of_getElem? hx));clear hx hat hpl hfl hfi hpn hnk e2 e3 hi hlt;go_upto_region 4 with fail;refine Zl ?_;refine tk (.pointer (some ⟨g,i2*2,none⟩)) ?_;refine Jh7 (Jab (JK ia nk ic) (JK pa nk pc)) (HA.out _ H.ex.1).1 ?_;refine al Xw H ?_ (hns:=(Jab Jl Jl).ns);clear H;intro g7 w7 H;refine stO (M:=[.slice none 0 0,.slice none 0 0]) (Jab (JK ia nk ic) (JK pa nk pc)) rfl H 0 ?_;clear H;intro w8 H;refine Zn ?_;clear hk1;go_upto_region 5 with fail;refine Zl ?_;refine tk (.pointer (some ⟨g7,0,none⟩)) ?_;refine lc H 0 (0) ?_;refine tk (.int .i64 nk) ?_;refine tk (.int .i64 0) ?_;go_wp2_with fail
     go_loopg [42] nk (fun q k wr=>∃(i3:Nat) (cu2:List Int),nk-i3≤q∧i3≤nk∧k=.int .i64 i3∧ZP cur (x.1.zip x.2)=ZP cu2 ((x.1.zip x.2).drop i3)∧cu2.length=m∧Rn.St wc.heap.size (fun k=>False∨(Value.slice (some ⟨kh,0,none⟩) m c).ownBlock=some k) (fun u=>Only (fun k=>k=kh) wc u∧OwnN u B (.slice (some ⟨kh,0,none⟩) m c) cu2) [(g7,[.slice ia nk ic,.slice pa nk pc])] wr)
     case atStart=>exact⟨0,cur,by omega,by omega,rfl,rfl,HCL.out,H⟩
     case round =>
      clear H;obtain⟨i3,cu2,hq,hi3,rfl,hr2,hc2,H⟩:=hrel;have HQ2:=Zh hq;have HR2:=Zh hr2;have HC2:=Zh hc2;clear hq hr2 hc2
      by_cases hlt2:i3<nk
      · have hk3:(i3:Int)<(nk:Int):=by omega
        obtain⟨⟨it,sv2⟩,hp⟩:∃p,pl[i3]? = some p:=⟨_,List.getElem?_eq_getElem (by have:=HNK.out; omega)⟩
        obtain⟨q2,hq2⟩:∃q,x.2[i3]? = some q:=⟨_,List.getElem?_eq_getElem (by have:=HPN2.out; omega)⟩
        have hxi:x.1[i3]? = some it:=by rw [←HPL.out,List.getElem?_map,hp]; rfl
        have hz:(x.1.zip x.2)[i3]? = some (it,q2):=List.getElem?_zip_eq_some.2 ⟨hxi,hq2⟩;obtain⟨hmk,j,hj,hjm⟩:=HFI.out it (List.mem_of_getElem? hxi);have HMK:=Zh hmk;have HJ:=Zh hj;have HJM:=Zh hjm;have HZ:=Zh hz;have HP:=Zh hp;have HQV:=Zh hq2;have HIL:=Zh hlt2;obtain⟨ga,oa,ca,eia,-,-,hit⟩:=(HA.out _ H.ex.1).2.1.has (by have:=HNK.out; omega);obtain⟨gp,op,cp,epa,-⟩:=(HA.out _ H.ex.1).2.2.has (by have:=HPN2.out; omega);injection eia with e1 e2 e3
        injection epa with e4 e5 e6
        subst e1 e4;have HIT:=Zh (hit i3 _ hp).1;have HSI:=Zh (Bytes.sl (hit i3 _ hp).2.1);clear hit e2 e3 e5 e6 hp hq2 hxi hz hmk hj hjm hi3 hlt2;go_upto_region 7 with fail;refine Zl ?_;refine tk (.int .i64 i3) ?_;refine tk (.pointer (some ⟨ga,oa+i3*47,none⟩)) ?_;refine Jh7 (jz HIT.out HSI.out) (ItemsAt.atc (HA.out _ H.ex.1).2.1 HP.out) ?_;refine al Jdm H ?_ (hns:=itnone_ob.ns);clear H;intro g9 w9 H;refine tk (.int .i64 i3) ?_;refine stO (M:=It.none.cells (.slice none 0 0)) (jz HIT.out HSI.out) (Ob.len (jz HIT.out HSI.out) itnone_ob) H 1 ?_;clear H;intro w10 H;go_upto_region 8 with fail;refine J8 (fun wq=>Blk wq g9 (it.cells sv2)∧Blk wq g7 [.slice (some ⟨ga,oa,none⟩) nk ic,.slice (some ⟨gp,op,none⟩) nk pc]∧wq.cell? ⟨gp,op+i3,none⟩=some (.int .i64 q2)) (by kernel_rfl) ?_;replace H:=H.drew;have hS0:=And.intro (H.blk 1 _ _ rfl) (And.intro (H.blk 0 _ _ rfl) (IntsAt.atc (HA.out _ H.ex.1).2.2 HQV.out));refine th 0 47 (.pointer (some ⟨xb,0,none⟩)) hS0 ?_;refine th 1 48 (.agg (it.cells sv2).toArray) hS0 ?_ (hy:=fun u hS=>Kn (jz HIT.out HSI.out) hS.1 _ _ _ rfl rfl);refine th 2 49 (.pointer (some ⟨g7,1,none⟩)) hS0 ?_;refine th 3 50 (.slice (some ⟨gp,op,none⟩) nk pc) hS0 ?_ (hy:=fun u hS=>by have hq:=hS.2.1.cell (i:=1) (v:=.slice (some ⟨gp,op,none⟩) nk pc) rfl; go_simp);refine th 4 51 (.int .i64 i3) hS0 ?_;refine th 5 52 (.pointer (some ⟨gp,op+i3,none⟩)) hS0 ?_;refine th 6 53 (.int .i64 q2) hS0 ?_ (hy:=fun u hS=>by have hq:=hS.2.2; go_simp);refine Zo 7 fun K hK=>?_;go_simp;refine (Jaa HWF.out ⟨r.seg,r.off,r.seq,[]⟩ HSO.out HSF.out HSM.out it HIT.out HSI.out HMK.out j m c HJ.out HMP.out cu2 HC2.out HJM.out q2 HNE.out _ (by have h1:=HBC.out; have h2:=H.ex.1.size; omega) (HXX.only H.ex.1 HNE.out) H.ex.2).mono ?_;rintro e w11 ⟨rfl,hOw,hO⟩;clear hS0;replace H:=St.side2 H rfl HKX.out hO hOw;clear hO hOw;have hS0:=And.intro (H.blk 1 _ _ rfl) (And.intro (H.blk 0 _ _ rfl) (IntsAt.atc (HA.out _ H.ex.1).2.2 HQV.out));refine hK _ _ hS0 (nm ?_);clear hK K;refine th 8 10 .nilIface hS0 ?_;refine Zd ?_;clear hS0 hk3;have hb1:=HIL.out;have hb2:=HNS.out;have hb3:=HPN2.out
        go_wp2_with fail
        go_roundg (nk-(i3+1))
        case measure=>have:=HQ2.out; have:=HIL.out; omega
        case rel=>exact⟨i3+1,cu2.set it.mark.2.toNat (qm it q2),by omega,by have:=HIL.out; omega,by go_num,by rw [HR2.out,J20 HZ.out],by rw [List.length_set]; exact HC2.out,H.cut 1⟩
      · obtain rfl:i3=nk:=by omega
        have hend:ZP cur (x.1.zip x.2)=cu2:=by
         rw [HR2.out,List.drop_of_length_le (by rw [List.length_zip]; have:=HPN2.out; omega)];rfl
        have HEND:=Zh hend;have hk3:¬(i3:Int)<(i3:Int):=Int.lt_irrefl _;clear hi3 hlt2 hend;have hb1:=HIN.out;have hb2:=HPN.out
        go_wp2_with fail
        go_roundg (n-(i2+1))
        case measure=>have:=HQ.out; have:=HIN.out; omega
        case rel=>exact⟨i2+1,cu2,by omega,by have:=HIN.out; omega,by go_num,by rw [HRO.out,J21 HX.out,HEND.out],HC2.out,H.cut 0⟩
   · obtain rfl:i2=n:=by omega
     have hend:QS hs P=cur:=by
      rw [HRO.out,List.drop_of_length_le (by have:=HN.out; omega)];rfl
     have HEND:=Zh hend;rw [hend] at HRI;clear hi hlt HRO hend;have HLI:=Zh (fun u (h:OwnN u B (.slice (some ⟨kh,0,none⟩) m c) cur)=>OwnN.ints h);have hk3:¬(i2:Int)<(i2:Int):=Int.lt_irrefl _;go_upto_region 13 with fail;clear hk3;refine Zl ?_;refine tk (.pointer (some ⟨xb,0,none⟩)) ?_;refine Jhk (XS bj HST.out) (HAT.only H.ex.1 (by have h1:=HGE.out; have h2:=HKH.out; omega)) ?_;refine tk (.pointer (some ⟨xb,0,none⟩)) ?_;refine tk (.pointer (some ⟨xb,0,none⟩)) ?_;refine tk (.pointer (some ⟨xb,18,none⟩)) ?_;refine J0 rfl fun K hK=>?_;refine Jh6 (M:=JM r (.slice (some ⟨kh,0,none⟩) m c) ov ⟨r.seg,r.off,r.seq,[]⟩ fv (.pointer (some ⟨b,0,none⟩)) mv) (L:=atC ⟨r.seg,r.off,r.seq,[]⟩ fv) (c:=18) (XS bj HST.out) rfl (kX r (.slice (some ⟨kh,0,none⟩) m c) ov ⟨r.seg,r.off,r.seq,[]⟩ fv (.pointer (some ⟨b,0,none⟩)) mv) (kX r (.slice (some ⟨kh,0,none⟩) m c) ov ⟨bj.seg,bj.off,bj.seq,[]⟩ tv (.pointer (some ⟨b,0,none⟩)) mv) (HXX.only H.ex.1 HNE.out) (by simp [HWF.cells]) ?_;intro w13 hD hO;refine hK _ _ (nm ?_);clear hK K;refine Zn ?_;have HO1:Hid (OwnN w13 B (.slice (some ⟨kh,0,none⟩) m c) cur):=Zh (OwnN.grow H.ex.2 (Y8 hO) fun k hk e=>by cases e; exact HNE.out (Option.some.inj hk).symm);have HT1:Hid (IntsAt w13 tv bj.free):=Zh ((IntsAt.only HFT2.out H.ex.1 fun q o n c e h=>by have h1:=HFR.out q o n c e; have h2:=HKH.out; omega).only hO fun q o n c e h=>by have h1:=HFR.out q o n c e; have h2:=HXW.out; omega);have HO2:Hid (Only (fun k=>k=xb∨k=kh) w w13):=Zh (((Only.of_below HRB.out).trans (H.ex.1.more fun k _ h=>.inr h)).trans (hO.more fun k _ h=>.inl h));have HD1:=Zh hD;clear H hD hO
     go_wp2_with fail
     refine (HRI.out w13 tv (OwnN.ints HO1.out) HST.out HD1.out (HDV.out _ HO2.out)).mono ?_;rintro e w14 ⟨⟨lv,rfl,ho⟩,hb⟩;obtain⟨la,ln,lc,rfl⟩:=OwnN.sl ho;have HHB:=Zh hb;clear ho hb
     go_wp2_with fail
     go_ret;exact⟨tv,rfl,HD1.below HHB.out HD1.lt,by rw [HEND.out]; exact OwnN.below HO1.out HHB.out,HT1.below HHB.out,HFR.out,HO2.trans (Only.of_below HHB.out)⟩
open Go.RowKit Rn
variable {F:Nat→Prop} {L M:List Value} {V:List (Nat×List Value)} {W0 w w':World} {X:List (List Int)} {b g:Nat} {l:List Int}
def stZ:List Value:=JY Rn.Rg.none (.slice none 0 0) (.slice none 0 0) ⟨0,0,0,[]⟩ (.slice none 0 0)
theorem stZ_ob:Ob 60 stZ:=Ko Rn.none_wf Jl Jl Jl
theorem QJ:(Tryz.prog.info? 60).bind (·.zero)=some (.agg stZ.toArray):=by kernel_rfl
theorem Jad(w:World):(Instr.build 60 #[]).run Tryz.prog w=.ok (.agg stZ.toArray) w:=run_build (P:=Tryz.prog) w 60 _ _ (by kernel_rfl)
theorem Je8(h:l.length=8):∃a b c d e f g i,l=[a,b,c,d,e,f,g,i]:=by
 match l,h with
 | [a,b,c,d,e,f,g,i],_=>exact⟨a,b,c,d,e,f,g,i,rfl⟩
theorem J5w{r:Rn.Rg}(h:r.Wf):Tryz.prog.built 60 [(0,.agg r.cells.toArray)]=some (JY r (.slice none 0 0) (.slice none 0 0) ⟨0,0,0,[]⟩ (.slice none 0 0)).toArray:=by
 obtain⟨g1,g2,g3,g4,g5,g6,g7,g8,rs⟩:=r;obtain⟨a,b,c,d,e,f,g,i,rfl⟩:=Je8 h.len;kernel_rfl
theorem J5x{r:Rn.Rg}(h:r.Wf)(dv:Option Addr):Tryz.prog.built 168 [(0,.agg (JY r (.slice none 0 0) (.slice none 0 0) ⟨0,0,0,[]⟩ (.slice none 0 0)).toArray),(1,.pointer dv)]=some (JM r (.slice none 0 0) (.slice none 0 0) ⟨0,0,0,[]⟩ (.slice none 0 0) (.pointer dv) (.slice none 0 0)).toArray:=by
 obtain⟨g1,g2,g3,g4,g5,g6,g7,g8,rs⟩:=r;obtain⟨a,b,c,d,e,f,g,i,rfl⟩:=Je8 h.len;kernel_rfl
theorem qW(n:Int)(hn:n≠0)(dq:Option Addr)(w:World)(hc:∀w',Below w.heap.size w w'→Calls Tryz.prog 66 #[.pointer dq] w' fun e w2=>e=.returned (.tuple #[.agg Rn.Rg.none.cells.toArray,.int .i64 n])∧Below w'.heap.size w' w2):Calls Tryz.prog 40 #[.pointer dq] w fun e w'=>jd n stZ e w'∧Below w.heap.size w w':=by
 have H:=Rn.St.start (Stays.below w) (Below.refl _ _);have HC:=Zh hc;have HN:=Zh hn;clear hc hn;go_enter Tryz.func40,Tryz.ntmps40;go_upto_region 0 with fail;refine Zl ?_;refine al QJ H ?_ (hns:=stZ_ob.ns);clear H;intro g1 w1 H;refine tk (Value.nilIface) ?_;go_upto_region 1 with fail;refine Zl ?_;refine tk (.pointer dq) ?_;refine J0 rfl fun K hK=>?_;go_simp;refine (HC.out _ H.ex).mono ?_;rintro e w2 ⟨rfl,hb⟩;replace H:=H.call hb;clear hb;refine hK _ _ (nm ?_);clear hK K;refine tk (.tuple #[.agg Rn.Rg.none.cells.toArray,.int .i64 n]) ?_;refine tk (.agg Rn.Rg.none.cells.toArray) ?_;refine tk (.int .i64 n) ?_;refine al K3 H ?_ (hns:=(Xo Rn.none_wf).ns);clear H;intro g3 w3 H;refine stO (Xo Rn.none_wf) (Ob.len (Xo Rn.none_wf) (Xo Rn.none_wf)) H 1 ?_;clear H;intro w3 H;refine tk (.int .i64 n) ?_;go_upto_region 2 with fail;refine Zl ?_;refine tk (.int .i64 n) ?_;refine tk (.bool true) ?_ (hr:=by have hq:=HN.out; go_simp);go_upto_region 3 with fail;refine Zl ?_;refine Je (Jad _) rfl ?_;refine nm ?_;refine tk (.int .i64 n) ?_;refine J0 rfl fun K hK=>?_;go_simp;refine (new_err n (by simpa using HN.out) _ _).mono ?_;rintro e w4 ⟨T4,d4,t4,s4,rfl,hc,hb⟩;replace H:=(H.call hb).chain hc;clear hc hb;refine hK _ _ (nm ?_);clear hK K;refine stO stZ_ob (Ob.len stZ_ob stZ_ob) H 0 ?_;clear H;intro w4 H;refine tk (.iface T4 d4) ?_;go_wp2_with fail
 exact XI stZ_ob H 0 rfl ⟨⟨_,_,_,_,rfl,H.ex.2⟩,H.ex.1⟩
def zH(r:Rn.Rg)(p b:Nat)(w:World)(bj:Ja)(hs:List Int):Prop:=∀w' xb,Below w.heap.size w w'→w.heap.size≤xb→Blk w' xb (JM r (.slice none 0 0) (.slice none 0 0) ⟨0,0,0,[]⟩ (.slice none 0 0) (.pointer (some ⟨b,0,none⟩)) (.slice none 0 0))→Calls Tryz.prog 67 #[.pointer (some ⟨xb,0,none⟩)] w' fun e w2=>∃kh c ov fv mv,e=.returned .nilIface∧Blk w2 xb (JM r (.slice (some ⟨kh,0,none⟩) p c) ov ⟨r.seg,r.off,r.seq,[]⟩ fv (.pointer (some ⟨b,0,none⟩)) mv)∧Only (fun k=>k=xb) w' w2∧w'.heap.size≤kh∧IsSl ov∧IsSl fv∧IsSl mv∧Calls Tryz.prog 68 #[.pointer (some ⟨xb,0,none⟩)] w2 fun e w3=>∃tv,e=.returned .nilIface∧Blk w3 xb (JM r (.slice (some ⟨kh,0,none⟩) p c) ov ⟨bj.seg,bj.off,bj.seq,[]⟩ tv (.pointer (some ⟨b,0,none⟩)) mv)∧OwnN w3 w'.heap.size (.slice (some ⟨kh,0,none⟩) p c) hs∧IntsAt w3 tv bj.free∧Fresh w2.heap.size tv∧Only (fun k=>k=xb∨k=kh) w2 w3∧IntsAt w3 ov (zeros p)∧(∀k,ov.ownBlock=some k→w'.heap.size≤k)
theorem zI{r:Rn.Rg}(hwf:r.Wf)(hg:r.g.Ok)(hz:r.rs=zeros 8)(p:Nat)(hp:(p:Int)=r.p)(b:Nat)(w:World)(hvr:Vars W0){d:De.D}(hd:De.Dv W0 w b F d)(hLn:d.L.length≤1000000)(hX:Img d X)(ht:4+r.s*r.l≤(X.length:Int))(hbig:X.length≤1024)(hfit:fits r.g ⟨r.seg,r.off,r.seq,zG r⟩ d.S.length=true)(hq:Kj r.seq)(P:List (List It×List Int))(bj:Ja)(hway:Way X r.g ⟨r.seg,r.off,r.seq,zG r⟩ P bj)(hnx:nxt X r.g bj=none)(hfits:Fits P p)(hPn:P.length≤1000)(hPs:∀q∈P,q.2.length<100000)(hsm:∀x∈QS (zeros p) P,Jo x)(L:List Int)(hri:QG X r.g (QS (zeros p) P) r.rs bj.seg bj.off r.g.cap=some L):zH r p b w bj (QS (zeros p) P):=by
 intro w' xb hb hxb hx;have hp1:1≤r.p:=hg.1.1;have hW:W0.heap.size≤w.heap.size:=hd.2.size;have hF:∀k,w.heap.size≤k→¬F k:=fun k hk h=>by have:=(hd.lt k h).2; omega
 refine (J1x hwf hg hz p hp xb b w' hx hvr (hd.below hb) (by omega) (hF xb hxb) hLn hX ht).mono ?_;rintro e w2 ⟨hv,ov,fv,mv,rfl,hD,hO,hOw,hFv,hOv,hOf,hmv,hoh⟩;obtain⟨kh,c,rfl,-⟩:=World.ownsRow.form hOw (by rw [J1]; omega);rw [J1] at hOw hD;have hkh:=(hOw.lt kh rfl).1;have hxw:=hx.lt;have hbs:=hb.size;have hOz:=hO.size;have hd2:De.Dv W0 w2 b F d:=(hd.below hb).go1 hO (by omega) (hF xb hxb);refine⟨kh,c,ov,fv,mv,rfl,hD,hO,hkh,hOv.sl,hFv.sl,hmv,(Jac hwf hg (fun x hx h0=>by rw [hz] at hx; exact absurd (List.eq_of_mem_replicate hx) h0) hOv.sl hmv p c kh xb b w'.heap.size hp (zeros p) (J1 p) (zG r) w2 hFv.ints hOz hD hOw (by omega) hvr hd2 (by omega) (hF xb hxb) (by omega) (hF kh (by omega)) hLn hX ht hbig hfit hq P bj hway hnx hfits hPn hPs hsm L hri).mono fun e w3 ⟨tv,k1,k2,k3,k4,k5,k6⟩=>⟨tv,k1,k2,k3,k4,k5,k6,hOv.onlyF k6 fun q o n c e hF=>?_,hOf⟩⟩;have h1:=hOf q (by rw [e]; rfl);rcases hF with hF | hF
 · omega
 · exact hoh q (by rw [e]; rfl) (by rw [hF]; rfl)
theorem St.two{w0:World}{kh:Nat}(h:Rn.St w0.heap.size (fun _=>False) (fun u=>Below w0.heap.size w0 u) V w)(i:Nat)(hi:V[i]? = some (g,L))(hns:∀v∈M,∀t,v≠.string t)(hD:Blk w' g M)(hO:Only (fun k=>k=g∨k=kh) w w')(hk:w0.heap.size≤kh)(hkV:∀(j q:Nat) (R:List Value),V[j]? = some (q,R)→q≠kh):Rn.St w0.heap.size (fun _=>False) (fun u=>Below w0.heap.size w0 u) (V.set i (g,M)) w':=by
 have old:∀(j q:Nat) (R:List Value),(V.set i (g,M))[j]? = some (q,R)→(q=g∧R=M)∨(V[j]? = some (q,R)∧q≠g):=fun j q R hj=>by
  by_cases hij:i=j
  · subst hij;rw [List.getElem?_set_self (List.getElem?_eq_some_iff.1 hi).1] at hj;cases hj;exact .inl ⟨rfl,rfl⟩
  · rw [List.getElem?_set_ne hij] at hj;exact .inr ⟨hj,fun e=>hij (by subst e; exact h.nd i j _ L R hi hj)⟩
 refine⟨Nat.le_trans h.sz hO.size,fun j q R hj=>?_,fun j q R hj=>?_,fun j k q R R' hj hk'=>?_,?_,h.st,fun j q R hj hf=>hf.elim,fun j q R hj=>?_⟩
 · rcases old j q R hj with ⟨rfl,rfl⟩ | ⟨h1,h2⟩
   · exact hD
   · exact (h.blk j q R h1).only hO fun e=>e.elim h2 (hkV j q R h1)
 · rcases old j q R hj with ⟨rfl,rfl⟩ | ⟨h1,h2⟩
   · exact h.ge i q L hi
   · exact h.ge j q R h1
 · have a1:∃R0,V[j]? = some (q,R0):=by
    by_cases hij:i=j
    · subst hij;rw [List.getElem?_set_self (List.getElem?_eq_some_iff.1 hi).1] at hj;cases hj;exact⟨L,hi⟩
    · rw [List.getElem?_set_ne hij] at hj;exact⟨R,hj⟩
   have a2:∃R0,V[k]? = some (q,R0):=by
    by_cases hij:i=k
    · subst hij;rw [List.getElem?_set_self (List.getElem?_eq_some_iff.1 hi).1] at hk';cases hk';exact⟨L,hi⟩
    · rw [List.getElem?_set_ne hij] at hk';exact⟨R',hk'⟩
   obtain⟨R0,a1⟩:=a1;obtain⟨R1,a2⟩:=a2;exact h.nd j k q R0 R1 a1 a2
 · have hg:=h.ge i g L hi;have hz:=h.sz;exact h.ex.trans (hO.below hz fun k e=>by rcases e with rfl | rfl <;> assumption)
 · rcases old j q R hj with ⟨rfl,rfl⟩ | ⟨h1,h2⟩
   · exact hns
   · exact h.ns j q R h1
theorem J22{r:Rn.Rg}(hwf:r.Wf)(p b:Nat)(bj:Ja)(hs:List Int)(w:World)(hc:∀w',Below w.heap.size w w'→Calls Tryz.prog 66 #[(.pointer (some ⟨b,0,none⟩))] w' fun e w2=>e=.returned (.tuple #[.agg r.cells.toArray,.int .i64 0])∧Below w'.heap.size w' w2)(hbg:zH r p b w bj hs):Calls Tryz.prog 40 #[(.pointer (some ⟨b,0,none⟩))] w fun e w'=>(∃hv ov tv,e=.returned (.tuple #[.agg (JY r hv ov ⟨bj.seg,bj.off,bj.seq,[]⟩ tv).toArray,.nilIface])∧OwnN w' w.heap.size hv hs∧IntsAt w' tv bj.free∧Fresh w.heap.size tv∧IntsAt w' ov (zeros p)∧(∀k,ov.ownBlock=some k→w.heap.size≤k))∧Below w.heap.size w w':=by
 have H:=Rn.St.start (Stays.below w) (Below.refl _ _);have HC:=Zh hc;have HWF:=Zh hwf;have HBG:Hid (∀w' xb,Below w.heap.size w w'→w.heap.size≤xb→Blk w' xb (JM r (.slice none 0 0) (.slice none 0 0) ⟨0,0,0,[]⟩ (.slice none 0 0) (.pointer (some ⟨b,0,none⟩)) (.slice none 0 0))→Calls Tryz.prog 67 #[.pointer (some ⟨xb,0,none⟩)] w' fun e w2=>∃kh c ov fv mv,e=.returned .nilIface∧Blk w2 xb (JM r (.slice (some ⟨kh,0,none⟩) p c) ov ⟨r.seg,r.off,r.seq,[]⟩ fv (.pointer (some ⟨b,0,none⟩)) mv)∧Only (fun k=>k=xb) w' w2∧w'.heap.size≤kh∧IsSl ov∧IsSl fv∧IsSl mv∧Calls Tryz.prog 68 #[.pointer (some ⟨xb,0,none⟩)] w2 fun e w3=>∃tv,e=.returned .nilIface∧Blk w3 xb (JM r (.slice (some ⟨kh,0,none⟩) p c) ov ⟨bj.seg,bj.off,bj.seq,[]⟩ tv (.pointer (some ⟨b,0,none⟩)) mv)∧OwnN w3 w'.heap.size (.slice (some ⟨kh,0,none⟩) p c) hs∧IntsAt w3 tv bj.free∧Fresh w2.heap.size tv∧Only (fun k=>k=xb∨k=kh) w2 w3∧IntsAt w3 ov (zeros p)∧(∀k,ov.ownBlock=some k→w'.heap.size≤k)):=Zh hbg;clear hc hwf hbg;go_enter Tryz.func40,Tryz.ntmps40;go_upto_region 0 with fail;refine Zl ?_;refine al QJ H ?_ (hns:=stZ_ob.ns);clear H;intro g1 w1 H;refine tk (Value.nilIface) ?_;go_upto_region 1 with fail;refine Zl ?_;refine tk (.pointer (some ⟨b,0,none⟩)) ?_;refine J0 rfl fun K hK=>?_;go_simp;refine (HC.out _ H.ex).mono ?_;rintro e w2 ⟨rfl,hb⟩;replace H:=H.call hb;clear hb;refine hK _ _ (nm ?_);clear hK K;refine tk (.tuple #[.agg r.cells.toArray,.int .i64 0]) ?_;refine tk (.agg r.cells.toArray) ?_;refine tk (.int .i64 0) ?_;refine al K3 H ?_ (hns:=(Xo Rn.none_wf).ns);clear H;intro g3 w3 H;refine stO (Xo HWF.out) (Ob.len (Xo HWF.out) (Xo Rn.none_wf)) H 1 ?_;clear H;intro w3 H;refine tk (.int .i64 0) ?_;go_upto_region 2 with fail;refine Zl ?_;refine tk (.int .i64 0) ?_;refine tk (.bool false) ?_;go_upto_region 4 with fail;refine Zl ?_;refine ldO (Xo HWF.out) H 1 ?_;refine tk (.agg (JY r (.slice none 0 0) (.slice none 0 0) ⟨0,0,0,[]⟩ (.slice none 0 0)).toArray) ?_ (hr:=by exact Jc _ _ _ _ 60 _ rfl #[(0,.agg r.cells.toArray)] (by simp [go_sem]) _ (run_build _ 60 _ _ (J5w HWF.out)));refine tk (.pointer (some ⟨b,0,none⟩)) ?_;refine tk (.agg (JM r (.slice none 0 0) (.slice none 0 0) ⟨0,0,0,[]⟩ (.slice none 0 0) (.pointer (some ⟨b,0,none⟩)) (.slice none 0 0)).toArray) ?_ (hr:=by exact Jc _ _ _ _ 168 _ rfl #[(0,.agg (JY r (.slice none 0 0) (.slice none 0 0) ⟨0,0,0,[]⟩ (.slice none 0 0)).toArray),(1,(.pointer (some ⟨b,0,none⟩)))] (by simp [go_sem]) _ (run_build _ 168 _ _ (J5x HWF.out _)));refine bx H ?_ (hns:=(YE HWF.out Jl Jl Jl ⟨_,rfl⟩ Jl).ns);clear H;intro g4 w4 H;refine tk (.pointer (some ⟨g4,0,none⟩)) ?_;go_upto_region 5 with fail;refine Zl ?_;refine tk (.pointer (some ⟨g4,0,none⟩)) ?_;refine J0 rfl fun K hK=>?_;have HW4:=Zh H;go_simp;refine (HBG.out _ _ H.ex (H.ge 2 _ _ rfl) (H.blk 2 _ _ rfl)).mono ?_;rintro e w5 ⟨kh,c,ov,fv,mv,rfl,hD,hO,hkh,h2,h3,h4,hgo⟩;have HSO:=Zh h2;have HSF:=Zh h3;have HSM:=Zh h4;have HKH:=Zh hkh;have HGO:=Zh hgo;have HOZ:=Zh hO.size;replace H:=St.via H 2 rfl (YE HWF.out (JK (some ⟨kh,0,none⟩) p c) HSO.out HSF.out ⟨_,rfl⟩ HSM.out).ns hD hO;clear hD hO hkh h2 h3 h4 hgo;refine hK _ _ (nm ?_);clear hK K;refine tk (.nilIface) ?_;go_upto_region 6 with fail;refine Zl ?_;refine tk (.nilIface) ?_;refine tk (.bool false) ?_;go_upto_region 8 with fail;refine Zl ?_;refine tk (.pointer (some ⟨g4,0,none⟩)) ?_;refine J0 rfl fun K hK=>?_;go_simp;refine HGO.mono ?_;rintro e w6 ⟨tv,rfl,hD,hOw,hT,hFr,hO,hOv,hOf⟩;have HOF:Hid (∀k,ov.ownBlock=some k→w.heap.size≤k):=Zh fun k hk=>Nat.le_trans HW4.sz (hOf k hk)
 have HST:=Zh hT.sl;have HFR:Hid (Fresh w.heap.size tv):=Zh (hFr.up (by have h1:=HW4.sz; have h2:=HOZ.out; omega));have hkw:w.heap.size≤kh:=Nat.le_trans HW4.sz HKH.out;have hnv:∀(j q:Nat) (R:List Value),[(g1,stZ),(g3,r.cells),(g4,JM r (.slice (some ⟨kh,0,none⟩) p c) ov ⟨bj.seg,bj.off,bj.seq,[]⟩ tv (.pointer (some ⟨b,0,none⟩)) mv)][j]? = some (q,R)→q<w4.heap.size:=fun j q R hj=>by
  have h0:=(HW4.blk 0 _ _ rfl).lt;have h1:=(HW4.blk 1 _ _ rfl).lt;have h2:=(HW4.blk 2 _ _ rfl).lt;rcases j with _ | _ | _ | j
  · cases hj; exact h0
  · cases hj; exact h1
  · cases hj; exact h2
  · cases hj
 replace H:=St.two H 2 rfl (YE HWF.out (JK (some ⟨kh,0,none⟩) p c) HSO.out HST.out ⟨_,rfl⟩ HSM.out).ns hD hO hkw (fun j q R hj e=>by
  have h0:=(HW4.blk 0 _ _ rfl).lt
  have h1:=(HW4.blk 1 _ _ rfl).lt
  have h2:=(HW4.blk 2 _ _ rfl).lt
  have h3:=HKH.out
  rcases j with _ | _ | _ | j
  · cases hj; omega
  · cases hj; omega
  · cases hj; omega
  · cases hj)
 replace H:=St.add (St.add H (hOw.mono HW4.sz) Stays.own fun q hq hk=>by
  obtain⟨j,hj⟩:=List.getElem?_of_mem hq
  have h1:=hnv j q.1 q.2 hj
  have h2:=HKH.out
  have h3:kh=q.1:=Option.some.inj hk
  omega) hT Stays.ints fun q hq hk=>by
  obtain⟨j,hj⟩:=List.getElem?_of_mem hq;have h1:=hnv j q.1 q.2 hj;obtain⟨tb,tk1,tc,e,-⟩:=hT.has (List.length_pos_iff.2 hk.1);have h2:=hFr _ _ _ _ e;have h3:=HOZ.out;have h4:tb=q.1:=by
   have h5:=hk.2;rw [e] at h5;exact Option.some.inj h5
  omega
 replace H:=St.add H hOv Stays.ints fun q hq hk=>by
  obtain⟨j,hj⟩:=List.getElem?_of_mem hq;have h1:=hnv j q.1 q.2 hj;have h2:=hOf q.1 hk.2;omega
 clear hD hOw hT hFr hO hkw hnv hOv hOf;refine hK _ _ (nm ?_);clear hK K;refine tk (.nilIface) ?_;go_upto_region 9 with fail;refine Zl ?_;refine tk (.nilIface) ?_;refine tk (.bool false) ?_;go_upto_region 11 with fail;refine Zl ?_;refine tk (.pointer (some ⟨g4,0,none⟩)) ?_;refine tk (.pointer (some ⟨g4,0,none⟩)) ?_;refine tk (.pointer (some ⟨g4,0,none⟩)) ?_;refine ldP (Ko HWF.out (JK (some ⟨kh,0,none⟩) p c) HSO.out HST.out) H 2 (xU _ _ _ _ _ _ _) ?_;refine stO (Ko HWF.out (JK (some ⟨kh,0,none⟩) p c) HSO.out HST.out) (Ob.len (Ko HWF.out (JK (some ⟨kh,0,none⟩) p c) HSO.out HST.out) stZ_ob) H 0 ?_;clear H;intro w6 H;refine tk (Value.nilIface) ?_;go_wp2_with fail
 refine XI (Ko HWF.out (JK (some ⟨kh,0,none⟩) p c) HSO.out HST.out) H 0 rfl ⟨?_,H.ex.1.1.1⟩;exact⟨_,ov,tv,rfl,H.ex.1.1.2,H.ex.1.2,HFR.out,H.ex.2,HOF.out⟩
theorem zJ(n:Int)(dq:Option Addr)(w:World)(hvr:Vars w)(hc:∀w',Below w.heap.size w w'→Calls Tryz.prog 40 #[.pointer dq] w' fun e w2=>jd n stZ e w2∧Below w'.heap.size w' w2):Calls Tryz.prog 16 #[.pointer dq] w (Zr w (.tuple #[.agg stZ.toArray,.int .i64 n])):=by
 have H:=Rn.St.start (Stays.below w) (Below.refl _ _);have HC:=Zh hc;have HV:=Zh hvr;clear hc hvr;go_enter Tryz.func16,Tryz.ntmps16;go_upto_region 0 with fail;refine Zl ?_;refine al QJ H ?_ (hns:=stZ_ob.ns);clear H;intro g1 w1 H;refine tk (.int .i64 0) ?_;go_upto_region 1 with fail;refine Zl ?_;refine tk (.pointer dq) ?_;refine J0 rfl fun K hK=>?_;go_simp;refine (HC.out _ H.ex).mono ?_;rintro e w2 ⟨⟨T2,d2,t2,s2,rfl,hc⟩,hb⟩;replace H:=(H.call hb).chain hc;clear hc hb;refine hK _ _ (nm ?_);clear hK K;refine tk (.tuple #[.agg stZ.toArray,.iface T2 d2]) ?_;refine tk (.agg stZ.toArray) ?_;refine tk (.iface T2 d2) ?_;refine al QJ H ?_ (hns:=stZ_ob.ns);clear H;intro g3 w3 H;refine stO stZ_ob (Ob.len stZ_ob stZ_ob) H 1 ?_;clear H;intro w3 H;refine tk (.iface T2 d2) ?_;go_upto_region 2 with fail;refine J8 (fun wq=>Blk wq g3 (stZ)) (by kernel_rfl) ?_;replace H:=H.drew;refine th 0 11 (.agg (stZ).toArray) (H.blk 1 _ _ rfl) ?_ (hy:=fun u hS=>Kn stZ_ob hS _ _ _ rfl rfl);refine th 1 12 (.iface T2 d2) (H.blk 1 _ _ rfl) ?_;refine Zo 2 fun K hK=>?_;go_simp;refine (xn n _ _ _ _ (HV.below (Nat.le_refl _) H.ex.1).1 H.ex.2).mono ?_;rintro e w4 ⟨rfl,hb⟩;replace H:=H.call hb;clear hb;refine hK _ _ (H.blk 1 _ _ rfl) (nm ?_);clear hK K;refine Zo 3 fun K hK=>?_;refine stH stZ_ob (Ob.len stZ_ob stZ_ob) (H.blk 0 _ _ rfl) ?_;intro w5 hD hO;replace H:=St.via H 0 rfl stZ_ob.ns hD hO;clear hD hO;refine hK _ _ (H.blk 1 _ _ rfl) (nm ?_);clear hK K;refine th 4 3 (.int .i64 n) (H.blk 1 _ _ rfl) ?_;refine Zd ?_
 go_wp2_with fail
 exact XI stZ_ob H 0 rfl ⟨rfl,H.ex.1⟩
theorem Jdn{r:Rn.Rg}(hwf:r.Wf)(p:Nat)(bj:Ja)(hs:List Int)(dq:Option Addr)(w:World)(hvr:Vars w)(hc:∀w',Below w.heap.size w w'→Calls Tryz.prog 40 #[.pointer dq] w' fun e w2=>(∃hv ov tv,e=.returned (.tuple #[.agg (JY r hv ov ⟨bj.seg,bj.off,bj.seq,[]⟩ tv).toArray,.nilIface])∧OwnN w2 w'.heap.size hv hs∧IntsAt w2 tv bj.free∧Fresh w'.heap.size tv∧IntsAt w2 ov (zeros p)∧(∀k,ov.ownBlock=some k→w'.heap.size≤k))∧Below w'.heap.size w' w2):Calls Tryz.prog 16 #[.pointer dq] w fun e w'=>(∃hv ov tv,e=.returned (.tuple #[.agg (JY r hv ov ⟨bj.seg,bj.off,bj.seq,[]⟩ tv).toArray,.int .i64 0])∧OwnN w' w.heap.size hv hs∧IntsAt w' tv bj.free∧Fresh w.heap.size tv∧IntsAt w' ov (zeros p)∧(∀k,ov.ownBlock=some k→w.heap.size≤k))∧Below w.heap.size w w':=by
 have H:=Rn.St.start (Stays.below w) (Below.refl _ _);have HC:=Zh hc;have HV:=Zh hvr;have HWF:=Zh hwf;clear hc hvr hwf;go_enter Tryz.func16,Tryz.ntmps16;go_upto_region 0 with fail;refine Zl ?_;refine al QJ H ?_ (hns:=stZ_ob.ns);clear H;intro g1 w1 H;refine tk (.int .i64 0) ?_;go_upto_region 1 with fail;refine Zl ?_;refine tk (.pointer dq) ?_;refine J0 rfl fun K hK=>?_;go_simp;refine (HC.out _ H.ex).mono ?_;rintro e w2 ⟨⟨hv,ov,tv,rfl,hOw,hT,hFr,hOv,hOf⟩,hb⟩;have HOF:Hid (∀k,ov.ownBlock=some k→w.heap.size≤k):=Zh fun k hk=>Nat.le_trans H.sz (hOf k hk);have HSH:=Zh hOw.sl;have HSO:=Zh hOv.sl;have HST:=Zh hT.sl;have HFR:Hid (Fresh w.heap.size tv):=Zh (hFr.up H.sz);have HUP:=Zh H.sz;have h1:=(H.blk 0 _ _ rfl).lt;replace H:=St.add (St.owns H hb hOw) hT Stays.ints fun q hq hk=>by
  obtain rfl:=List.mem_singleton.1 hq;obtain⟨tb,tk1,tc,e,-⟩:=hT.has (List.length_pos_iff.2 hk.1);have h2:=hFr _ _ _ _ e;have h5:=hk.2;rw [e] at h5;have h4:tb=g1:=Option.some.inj h5;omega
 replace H:=St.add H hOv Stays.ints fun q hq hk=>by
  obtain rfl:=List.mem_singleton.1 hq;have h2:=hOf _ hk.2;omega
 clear hOw hT hFr hOv hOf hb h1;refine hK _ _ (nm ?_);clear hK K;refine tk (.tuple #[.agg (JY r hv ov ⟨bj.seg,bj.off,bj.seq,[]⟩ tv).toArray,.nilIface]) ?_;refine tk (.agg (JY r hv ov ⟨bj.seg,bj.off,bj.seq,[]⟩ tv).toArray) ?_;refine tk (.nilIface) ?_;refine al QJ H ?_ (hns:=stZ_ob.ns);clear H;intro g3 w3 H;refine stO (Ko HWF.out HSH.out HSO.out HST.out) (Ob.len (Ko HWF.out HSH.out HSO.out HST.out) stZ_ob) H 1 ?_;clear H;intro w3 H;refine tk (.nilIface) ?_;go_upto_region 2 with fail;refine J8 (fun wq=>Blk wq g3 (JY r hv ov ⟨bj.seg,bj.off,bj.seq,[]⟩ tv)) (by kernel_rfl) ?_;replace H:=H.drew;refine th 0 11 (.agg (JY r hv ov ⟨bj.seg,bj.off,bj.seq,[]⟩ tv).toArray) (H.blk 1 _ _ rfl) ?_ (hy:=fun u hS=>Kn (Ko HWF.out HSH.out HSO.out HST.out) hS _ _ _ rfl rfl);refine th 1 12 (.nilIface) (H.blk 1 _ _ rfl) ?_;refine Zo 2 fun K hK=>?_;go_simp;refine (ZW _).mono ?_;rintro e w4 ⟨rfl,rfl⟩;refine hK _ _ (H.blk 1 _ _ rfl) (nm ?_);clear hK K;refine Zo 3 fun K hK=>?_;refine stH (Ko HWF.out HSH.out HSO.out HST.out) (Ob.len (Ko HWF.out HSH.out HSO.out HST.out) stZ_ob) (H.blk 0 _ _ rfl) ?_;intro w5 hD hO;replace H:=St.via H 0 rfl (Ko HWF.out HSH.out HSO.out HST.out).ns hD hO;clear hD hO;refine hK _ _ (H.blk 1 _ _ rfl) (nm ?_);clear hK K;refine th 4 3 (.int .i64 0) (H.blk 1 _ _ rfl) ?_;refine Zd ?_
 go_wp2_with fail
 refine XI (Ko HWF.out HSH.out HSO.out HST.out) H 0 rfl ⟨?_,H.ex.1.1.1⟩;exact⟨hv,ov,tv,rfl,OwnN.mono H.ex.1.1.2 HUP.out,H.ex.1.2,HFR.out,H.ex.2,HOF.out⟩
theorem Jae(w:World)(hv:Vars w):Calls Tryz.prog 16 #[.pointer none] w fun e w'=>e=.returned (.tuple #[.agg stZ.toArray,.int .i64 1])∧Below w.heap.size w w' :=
 zJ 1 none w hv fun w' _=>qW 1 (by decide) none w' fun w2 _=>Rn.J1b w2
theorem Jaf(w:World)(hv:Vars w){d:De.D}(hd:De.Dv W0 w b F d)(hLn:d.L.length≤1000000){x y:List Int}(hf:Rn.Four d x y)(hn:Rn.Xm d.S.length x y=none):Calls Tryz.prog 16 #[.pointer (some ⟨b,0,none⟩)] w fun e w'=>e=.returned (.tuple #[.agg stZ.toArray,.int .i64 13])∧Below w.heap.size w w' :=
 zJ 13 _ w hv fun w' hb=>qW 13 (by decide) _ w' fun w2 hb2=>by
  have k:=Rn.kJ w2 ((hv.below (Nat.le_refl _) (Jk hb hb2)).1) (hd.below (Jk hb hb2)) hLn hf;rw [hn] at k;exact k
theorem zK(w:World)(hv:Vars w){d:De.D}(hd:De.Dv W0 w b F d)(hLn:d.L.length≤1000000){x y:List Int}(hf:Rn.Four d x y){r:Rn.Rg}(hn:Rn.Xm d.S.length x y=some r)(hwf:r.Wf)(p:Nat)(bj:Ja)(hs:List Int)(hbg:∀w',Below w.heap.size w w'→zH r p b w' bj hs):Calls Tryz.prog 16 #[.pointer (some ⟨b,0,none⟩)] w fun e w'=>(∃hv ov tv,e=.returned (.tuple #[.agg (JY r hv ov ⟨bj.seg,bj.off,bj.seq,[]⟩ tv).toArray,.int .i64 0])∧OwnN w' w.heap.size hv hs∧IntsAt w' tv bj.free∧Fresh w.heap.size tv∧IntsAt w' ov (zeros p)∧(∀k,ov.ownBlock=some k→w.heap.size≤k))∧Below w.heap.size w w' :=
 Jdn hwf p bj hs _ w hv fun w' hb=>J22 hwf p b bj hs w' (fun w2 hb2=>by
  have k:=Rn.kJ w2 ((hv.below (Nat.le_refl _) (Jk hb hb2)).1) (hd.below (Jk hb hb2)) hLn hf
  rw [hn] at k
  exact k) (hbg w' hb)
open Go.RowKit Rn
variable {F:Nat→Prop} {W0:World} {X:List (List Int)} {b:Nat} {l:List Int}
def VR:Rn.Rg:=⟨1,16,8,24,4,0,0,1,zeros 8⟩
theorem Yb:VR.Wf:=⟨⟨by decide,by decide⟩,⟨by decide,by decide⟩,⟨by decide,by decide⟩,⟨by decide,by decide⟩,⟨by decide,by decide⟩,⟨by decide,by decide⟩,⟨by decide,by decide⟩,⟨by decide,by decide⟩,rfl,Rn.none_wf.rs⟩
theorem Jdo:VR.good=true:=by kernel_rfl
theorem Jag(h:l.all (fun x=>decide (0≤x)&&decide (x<256))=true):∀x∈l,KO x:=fun x hx=>by
 have:=List.all_eq_true.1 h x hx;simp only [Bool.and_eq_true,decide_eq_true_eq] at this;exact⟨this.1,by omega⟩
theorem xX:Rn.Sc2 (zeros 128):=⟨J1 _,Kv _⟩
theorem vr2:Rn.Sc2 VR.enc:=⟨rfl,Jag (by kernel_rfl)⟩
theorem Jfz:VR.g.tot≤200:=by decide
def VD:De.D:=(De.XD 200).put VR
def VX:List (List Int):=((List.replicate 200 (zeros 64)).set 2 VR.s0).set 3 VR.s1
theorem Jg0:Rn.Four (De.XD 200) (zeros 128) (zeros 128):=⟨xX,xX,by kernel_rfl,by kernel_rfl,by kernel_rfl,by kernel_rfl⟩
theorem Jg1:Rn.Xm 200 (zeros 128) (zeros 128)=none:=by kernel_rfl
theorem Jg2:(De.XD 200).putE VR=0:=by kernel_rfl
theorem XJ:VD.S.length=200:=by kernel_rfl
theorem Jhm:VD.T=3:=by kernel_rfl
theorem Jg3:VD.L=[]:=by kernel_rfl
theorem Jh8:VD.F=-1:=by kernel_rfl
theorem Je9:Sc VR.s0∧Sc VR.s1:=by
 have h:=vr2;exact⟨⟨rfl,fun x hx=>h.bytes x (List.mem_append_left _ hx)⟩,⟨rfl,fun x hx=>h.bytes x (List.mem_append_right _ hx)⟩⟩
theorem vd_img:Img VD VX:=by
 have h0:=Jc3 200;have h1:Img ((De.XD 200).write 2 (u8s VR.s0).toArray) ((List.replicate 200 (zeros 64)).set 2 VR.s0):=h0.write (i:=2) Je9.1 (by kernel_rfl);have h2:Img (((De.XD 200).write 2 (u8s VR.s0).toArray).write 3 (u8s VR.s1).toArray) VX:=h1.write (i:=3) Je9.2 (by kernel_rfl);have e:VD=(((De.XD 200).write 2 (u8s VR.s0).toArray).write 3 (u8s VR.s1).toArray).flush:=by
  unfold VD De.D.put;have e1:(De.XD 200).F=-1:=by kernel_rfl
  have e2:((De.XD 200).write (VR.gen%2*2) (u8s VR.s0).toArray).F=-1:=by kernel_rfl
  rw [if_neg (by rw [e1]; decide),if_neg (by rw [e2]; decide)];rfl
 rw [e];exact h2.flush
theorem Jdp:Rn.Four VD (zeros 128) VR.enc:=⟨xX,vr2,by kernel_rfl,by kernel_rfl,by kernel_rfl,by kernel_rfl⟩
theorem Jah:Rn.Xm 200 (zeros 128) VR.enc=some VR:=by
 have h0:Rn.Ya 200 0 (zeros 128)=none:=by kernel_rfl
 have h1:Rn.Ya 200 1 VR.enc=some VR:=by
  kernel_rfl
 unfold Rn.Xm;rw [h0,h1];rfl
theorem jV:zG VR=[1,2,3,4,5,6,7]:=by kernel_rfl
def VA:Ja:=⟨0,0,1,[1,2,3,4,5,6,7]⟩
theorem xY:VA.good WG=true:=by decide
def VB:Ja:=⟨0,2,2,[1,2,3,4,5,6,7]⟩
def VL:List It:=[YQ 3 7,Yr 4 5]
theorem Jai:JE VL=true:=JN.2 ⟨by decide,by decide,fun x hx=>by
 simp only [VL,List.mem_cons,List.not_mem_nil,or_false] at hx
 rcases hx with rfl | rfl
 · exact Jby (by decide)
 · exact J8h (.inl rfl) (by decide),by decide⟩
theorem Jea:∀x∈VL,x.Wf:=fun x hx=>by
 simp only [VL,List.mem_cons,List.not_mem_nil,or_false] at hx;rcases hx with rfl | rfl
 · exact jL (XZ 3 (by decide)) (J2s 7 (by decide))
 · exact yS (XZ 4 (by decide)) (XZ 5 (by decide))
theorem J23(n:Int):(Jd n VL).1.length=2:=by rw [QM]; decide
theorem Jh9(n:Int):(Jd n VL).2=[1,-1]:=rfl
theorem Jeb{d:De.D}(hS:d.S.length=200)(hF:d.F=-1):(Kw WG VA d VL).e=0∧(Kw WG VA d VL).pl=[5,0]∧(Kw WG VA d VL).a=VB∧(Kw WG VA d VL).d.L=[]∧(Kw WG VA d VL).d.S.length=200:=by
 have hp:Ke VL=1:=by unfold Ke; rw [Jai]; rfl
 have hl:XX WG VA VL=true:=by unfold XX; rw [Jai,J23]; decide
 have hn:QN WG VA (Jd VA.seq VL).1.length=some VA:=by rw [J23]; rfl
 obtain⟨h1,h2,h3,h4,-,h6,-⟩:=J4m (d:=d) xY hl hn (by rw [hS]; decide) (.inl (by omega));rw [J23] at h3;rw [Jh9] at h2;rw [hp] at h3;exact⟨h1,h2,h3,h4,h6.trans hS⟩
def VQ(y:List Int):Prop:=y=zeros 64∨y=VR.s0∨y=VR.s1
theorem Jaj(n:Int):∀y,VQ y→NH n y:=fun y hy=>by
 rcases hy with rfl | rfl | rfl
 · exact Jc4 n
 · intro h;rw [show KF VR.s0=false by kernel_rfl] at h;cases h
 · intro h;rw [show KF VR.s1=false by kernel_rfl] at h;cases h
theorem v_sn0:Sn VD VX WG VA [] VA VQ:=Sn.new vd_img xY (Jbz 1 (by decide)) (by rw [XJ]; decide) fun y hy=>by
 unfold VX at hy;rcases List.mem_or_eq_of_mem_set hy with hy | rfl
 · rcases List.mem_or_eq_of_mem_set hy with hy | rfl
   · exact .inl (List.eq_of_mem_replicate hy)
   · exact .inr (.inl rfl)
 · exact .inr (.inr rfl)
def VH:List Int:=[0,0,0,5,0,1,0,0,0,0,0,0,0,0,0,0]
theorem J24:QS (zeros 16) [(VL,[5,0])]=VH:=by kernel_rfl
theorem Jha:∃X,Sn (Kw WG VA VD VL).d X WG VA [(VL,[5,0])] VB VQ∧Rn.Four (Kw WG VA VD VL).d (zeros 128) VR.enc∧X.length=200:=by
 obtain⟨p1,p2,p3,p4,p5⟩:=Jeb XJ Jh8;obtain⟨X1,h1,-⟩:=v_sn0.put (Jaj _) VL Jea p1;obtain⟨b1,X2,hp,ha,-,hi,-⟩:=J2v xY vd_img (by rw [XJ]; decide) Jea p1;obtain rfl:=h1.img.inj hi;rw [p2,p3] at h1;have hl:X1.length=200:=by rw [hp.len]; rfl
 have hb:4≤(J7 WG b1).toNat:=by
  obtain⟨f,e,h4,-⟩:=hp.nx.first;rw [e];omega
 have old:∀k:Nat,k<4→X1[k]? = VX[k]? := fun k hk=>hp.old k (.inl (by omega));refine⟨X1,h1,⟨xX,vr2,?_,?_,?_,?_⟩,hl⟩
 · exact (h1.img.read (i:=0) (y:=zeros 64) (by rw [old 0 (by decide)]; rfl)).1
 · exact (h1.img.read (i:=1) (y:=zeros 64) (by rw [old 1 (by decide)]; rfl)).1
 · exact (h1.img.read (i:=2) (y:=VR.s0) (by rw [old 2 (by decide)]; rfl)).1
 · exact (h1.img.read (i:=3) (y:=VR.s1) (by rw [old 3 (by decide)]; rfl)).1
theorem xZ{d:De.D}(h:Sn d X WG VA [(VL,[5,0])] VB VQ):Ju X WG 3 3 5=some [(5,qf 3 7)]:=by
 obtain⟨p,hp,hs⟩:=((h.rec_.stands _ (List.mem_singleton.2 rfl)).2 0 (YQ 3 7) rfl)
 obtain rfl:p=5:=by cases hp; rfl
 have hb:=hs.blk (by kernel_rfl) (by kernel_rfl) (jL (XZ 3 (by decide)) (J2s 7 (by decide))).b (by decide);have hb:Qi X WG 3 5=some (qf 3 7):=hb;rw [Qj (by decide) hb];rfl
theorem Jec{d:De.D}(h:Sn d X WG VA [(VL,[5,0])] VB VQ):JV X WG 0 VH=some [5]:=by
 have z:∀(n:Nat) (k:Int),JV X WG k (zeros n)=some []:=fun n=>by
  induction n with
  | zero=>intro k; rfl
  | succ n ih=>intro k; exact (Ku rfl).trans (ih _)
 unfold VH;rw [Ku rfl,Ku rfl,Ku rfl,Xy (k:=0+1+1+1) (h:=5) (l:=[(5,qf 3 7)]) (by decide) (xZ h),Ku rfl,Xy (by decide) (Qd _ _ _ _)];rw [show JV X WG (0+1+1+1+1+1+1) [0,0,0,0,0,0,0,0,0,0]=some [] from z 10 _];rfl
theorem Jak{d:De.D}(h:Sn d X WG VA [(VL,[5,0])] VB VQ):QG X WG VH (zeros 8) VB.seg VB.off WG.cap=some [5]:=by
 have e:Ye X WG VH (zeros 8)=some [5]:=by
  unfold Ye;rw [Jec h];rfl
 unfold QG;rw [if_neg (by decide),e];exact if_pos ⟨by decide,fun p hp=>by obtain rfl:=List.mem_singleton.1 hp; decide⟩
theorem y4:fits WG VA 200=true:=by decide
theorem Jg4:Fits [(VL,[5,0])] 16:=fun q hq=>by
 obtain rfl:=List.mem_singleton.1 hq;refine⟨rfl,fun x hx=>?_⟩;simp only [VL,List.mem_cons,List.not_mem_nil,or_false] at hx;rcases hx with rfl | rfl
 · exact⟨.inr (.inr rfl),3,rfl,by decide⟩
 · exact⟨.inl rfl,5,rfl,by decide⟩
theorem J39:∀x∈VH,Jo x:=fun x hx=>by
 have h:VH.all (fun x=>decide (0≤x)&&decide (x<256))=true:=by kernel_rfl
 exact KX (Jag h x hx)
theorem zL:WG.Ok:=by decide
theorem Jg5(w:World)(hvr:Vars W0)(hd:De.Dv W0 w b F VD):zH VR 16 b w VA (zeros 16):=by
 obtain⟨k1,k2⟩:=v_sn0.read (Jaj _);have hl:VX.length=200:=vd_img.len.symm.trans XJ;have k:=zI Yb zL rfl 16 rfl b w hvr hd (by rw [Jg3]; decide) vd_img (by rw [hl]; decide) (by rw [hl]; decide) (by rw [XJ,jV]; exact y4) (Jbz 1 (by decide)) [] VA (by rw [jV]; exact k1) k2 (fun q hq=>by cases hq) (by decide) (fun q hq=>by cases hq) (fun x hx=>by rw [List.eq_of_mem_replicate hx]; exact Kb) [] (jy 16 VA.seg VA.off zL);exact k
theorem Jg6(w:World)(hvr:Vars W0){d:De.D}(hs:Sn d X WG VA [(VL,[5,0])] VB VQ)(hX:X.length=200)(hL:d.L=[])(hd:De.Dv W0 w b F d):zH VR 16 b w VB VH:=by
 obtain⟨k1,k2⟩:=hs.read (Jaj _);have hl:d.S.length=200:=hs.img.len.trans hX;have k:=zI Yb zL rfl 16 rfl b w hvr hd (by rw [hL]; decide) hs.img (by rw [hX]; decide) (by rw [hX]; decide) (by rw [hl,jV]; exact y4) (Jbz 1 (by decide)) [(VL,[5,0])] VB (by rw [jV]; exact k1) k2 Jg4 (by decide) (fun q hq=>by obtain rfl:=List.mem_singleton.1 hq; decide) (by rw [J24]; exact J39) [5] (by rw [J24]; exact Jak hs);rw [J24] at k;exact k
open Go.RowKit Rn
theorem J5y{r:Rn.Rg}(hwf:r.Wf){hv ov fv:Value}(a:Ja)(l:List Int)(dq:Option Addr)(w:World)(h1:IsSl hv)(h2:IsSl ov)(h3:IsSl fv)(hvr:Vars w)(hc:∀w',Below w.heap.size w w'→Calls Tryz.prog 51 #[.pointer dq,.agg (JY r hv ov a fv).toArray] w' fun e w2=>J5o w'.heap.size (some l) e w2∧Below w'.heap.size w' w2):Calls Tryz.prog 29 #[.pointer dq,.agg (JY r hv ov a fv).toArray] w fun e w'=>(∃sv,e=.returned (.tuple #[sv,.int .i64 0])∧OwnN w' w.heap.size sv l)∧Below w.heap.size w w':=by
 have H:=Rn.St.start (Stays.below w) (Below.refl _ _);have HV:=Zh hvr;have HC:=Zh hc;have HWF:=Zh hwf;have HSH:=Zh h1;have HSO:=Zh h2;have HSF:=Zh h3;clear hvr hc hwf h1 h2 h3;go_enter Tryz.func29,Tryz.ntmps29;go_upto_region 0 with fail;refine Zl ?_;refine bx H ?_ (hns:=(Ko HWF.out HSH.out HSO.out HSF.out).ns);clear H;intro g1 w1 H;refine tk (.slice none 0 0) ?_;refine tk (.int .i64 0) ?_;go_upto_region 1 with fail;refine Zl ?_;refine tk (.pointer dq) ?_;refine ldO (Ko HWF.out HSH.out HSO.out HSF.out) H 0 ?_;refine J0 rfl fun K hK=>?_;go_simp;refine (HC.out _ H.ex).mono ?_;rintro e w2 ⟨⟨sv,rfl,ho⟩,hb⟩;have HUP:=Zh H.sz;replace H:=St.owns H hb ho;clear ho hb;refine hK _ _ (nm ?_);clear hK K;refine tk (.tuple #[sv,.nilIface]) ?_;refine tk (sv) ?_;refine tk (.nilIface) ?_;refine tk (sv) ?_;refine tk (.nilIface) ?_;go_upto_region 2 with fail;refine Zl ?_;refine tk (sv) ?_;refine tk (.nilIface) ?_;refine J0 rfl fun K hK=>?_;go_simp;refine (ZW _).mono ?_;rintro e w3 ⟨rfl,rfl⟩;refine hK _ _ (nm ?_);clear hK K;refine tk (sv) ?_;refine tk (.int .i64 0) ?_;go_wp2_with fail
 go_ret2;exact⟨⟨sv,rfl,OwnN.mono H.ex.2 HUP.out⟩,H.ex.1⟩
open Go.RowKit Rn
variable {F:Nat→Prop} {W0:World} {X:List (List Int)} {b:Nat} {hv ov tv:Value}
def Jed(p:Nat)(r:Rn.Rg)(bj:Ja)(hs:List Int)(w w':World)(e:Ending):Prop:=(∃hv ov tv,e=.returned (.tuple #[.agg (JY r hv ov ⟨bj.seg,bj.off,bj.seq,[]⟩ tv).toArray,.int .i64 0])∧OwnN w' w.heap.size hv hs∧IntsAt w' tv bj.free∧Fresh w.heap.size tv∧IntsAt w' ov (zeros p)∧(∀k,ov.ownBlock=some k→w.heap.size≤k))∧Below w.heap.size w w'
theorem Jg7(w:World)(hv:Vars w)(hv0:Vars W0)(hd:De.Dv W0 w b F VD):Calls Tryz.prog 16 #[.pointer (some ⟨b,0,none⟩)] w fun e w'=>Jed 16 VR VA (zeros 16) w w' e :=
 zK w hv hd (by rw [Jg3]; decide) Jdp (by rw [XJ]; exact Jah) Yb 16 VA (zeros 16) fun w' hb=>Jg5 w' hv0 (hd.below hb)
structure Wk1 (d:De.D) (X:List (List Int)):Prop where
 sn:Sn d X WG VA [(VL,[5,0])] VB VQ
 four:Rn.Four d (zeros 128) VR.enc
 len:X.length=200
 l:d.L=[]
theorem wk1:∃X,Wk1 (Kw WG VA VD VL).d X:=by
 obtain⟨X,h1,h2,h3⟩:=Jha;exact⟨X,h1,h2,h3,(Jeb XJ Jh8).2.2.2.1⟩
theorem Jg8{d:De.D}(h:Wk1 d X)(w:World)(hv:Vars w)(hv0:Vars W0)(hd:De.Dv W0 w b F d):Calls Tryz.prog 16 #[.pointer (some ⟨b,0,none⟩)] w fun e w'=>Jed 16 VR VB VH w w' e:=by
 have hl:d.S.length=200:=h.sn.img.len.trans h.len;exact zK w hv hd (by rw [h.l]; decide) h.four (by rw [hl]; exact Jah) Yb 16 VB VH fun w' hb=>Jg6 w' hv0 h.sn h.len h.l (hd.below hb)
theorem Jal{d:De.D}(h:Wk1 d X)(w:World)(hv:Vars w)(hd:De.Dv W0 w b F d):Calls Tryz.prog 13 #[.pointer (some ⟨b,0,none⟩),WG.v,.int .i64 3,.int .i64 5] w fun e w'=>(∃sv,e=.returned (.tuple #[.agg (chC sv (rp 32 7)).toArray,.int .i64 0])∧OwnN w' w.heap.size sv [5])∧Below w.heap.size w w':=by
 have k:=J5i WG 3 5 (XZ 5 (by decide)) w hv hd (by rw [h.l]; decide) h.sn.img;rw [xZ h.sn,h.len] at k;refine k.mono fun e w' hk=>⟨?_,hk.2⟩
 have h1:=hk.1;have e1:chE X ((200:Nat):Int) WG 3 5=0:=by
  unfold chE;rw [if_neg (not_not_intro ⟨zL,⟨by decide,by decide⟩,by decide⟩),if_neg (by decide),xZ h.sn];rfl
 rw [e1] at h1;exact h1
theorem Jdq{d:De.D}(h:Wk1 d X)(w:World)(hi:IntsAt w hv VH)(h2:IsSl ov)(h3:IsSl tv)(hvr:Vars w)(hd:De.Dv W0 w b F d):Calls Tryz.prog 29 #[.pointer (some ⟨b,0,none⟩),.agg (JY VR hv ov ⟨VB.seg,VB.off,VB.seq,[]⟩ tv).toArray] w fun e w'=>(∃sv,e=.returned (.tuple #[sv,.int .i64 0])∧OwnN w' w.heap.size sv [5])∧Below w.heap.size w w':=by
 refine J5y Yb ⟨VB.seg,VB.off,VB.seq,[]⟩ [5] _ w hi.sl h2 h3 hvr fun w' hb=>?_;have k:=ZO Yb zL ⟨VB.seg,VB.off,VB.seq,[]⟩ VH rfl J39 w' (hi.below hb) h2 h3 (hvr.below (Nat.le_refl _) hb) (hd.below hb) (by rw [h.l]; decide) h.sn.img (by rw [h.len]; decide);have e:Ye X VR.g VH VR.rs=some [5]:=by
  unfold Ye;rw [show VR.g=WG from rfl,Jec h.sn];rfl
 rw [e] at k;exact k
open Go.RowKit Rn
variable {A F S:Nat→Prop} {B N b:Nat} {E:World→Prop} {V:List (Nat×List Value)} {l:List Int} {sv:Value} {w w':World}
theorem Jg9(r:Rn.Rg)(hv ov:Value)(a:Ja)(fv:Value):JY r hv ov a fv=(r.cells++[hv,ov])++(atC a fv++[]):=by simp [JY,atC]
theorem St.put2{B:Nat→Prop}{E2:World→Prop}(h:Rn.St N A E V w)(hO:Only S w w')(hS:∀(i g:Nat) (L:List Value),V[i]? = some (g,L)→¬S g)(hE:E2 w')(hs:Rn.Stays N B E2)(hB:∀(i g:Nat) (L:List Value),V[i]? = some (g,L)→¬B g):Rn.St N B E2 V w' :=
 ⟨Nat.le_trans h.sz hO.size,fun i g L hi=>(h.blk i g L hi).only hO (hS i g L hi),h.ge,h.nd,hE,hs,hB,h.ns⟩
theorem Jga{u:World}(hv:Vars w)(hu:Vars u)(hd:De.Dv w u b F (De.XD 200)):Calls Tryz.prog 19 #[.pointer (some ⟨b,0,none⟩),.agg VR.cells.toArray] u fun e w2=>∃F',e=.returned (.int .i64 0)∧De.Dv w w2 b F' VD∧Only F u w2∧∀k,F' k→F k∨u.heap.size≤k:=by
 have k:=Rn.write_yes VR Yb Jdo u hd hu.1 hv.1.lt (by rw [yT]; exact Jfz) (by decide) (by decide);rw [Jg2] at k;exact k
theorem Jdr:Tryz.prog.built 56 [(0,.int .u32 1),(1,.agg #[.int .i64 16,.int .i64 8,.int .i64 24,.int .i64 4]),(4,.int .u32 1)]=some VR.cells.toArray:=by kernel_rfl
theorem St.old(h:Rn.St N A E V w):∀(i g:Nat) (L:List Value),V[i]? = some (g,L)→g<w.heap.size:=fun i g L hi=>(h.blk i g L hi).lt
theorem Y9:(rp 32 7).length=32:=by decide
theorem Jhn(u:World):(binOp .eql 43 (.agg (u8s (rp 32 7)).toArray) (.agg (u8s (rp 32 7)).toArray)).run Tryz.prog u=.ok (.bool true) u:=by
 rw [J64 u (rp 32 7) (rp 32 7) Y9 Y9,decide_eq_true rfl]
theorem Jho(u:World)(a b:Array Value):(eqGuard .eql 43 (.tmp 143) (.tmp 144) (.agg a) (.agg b)).run Tryz.prog u=.ok () u:=by
 unfold eqGuard;simp [go_sem]
theorem Jam(u:World)(ev:Operand→Value)(o:Oper)(h1:ev (.tmp 143)=.agg (u8s (rp 32 7)).toArray)(h2:ev (.tmp 144)=.agg (u8s (rp 32 7)).toArray)(ho:o.op=.binOp .eql 43 (.tmp 143) (.tmp 144) 43):(execOp ev o).run Tryz.prog u=.ok (.value (.bool true)) u:=by
 have hq:=Jhn u;unfold execOp;simp only [ho,Sem.run_bind,h1,h2,Jho,hq,Result.andThen_ok,Sem.run_pure]
theorem Jds:Tryz.prog.built 79 [(0,.int .i64 4),(1,.int .i64 5)]=some #[.int .i64 4,.int .i64 5]:=by kernel_rfl
theorem Jdt:Tryz.prog.built 84 [(0,.agg #[.int .i64 4,.int .i64 5])]=some ((Yr 4 5).arr nb):=by kernel_rfl
theorem OwnN.onlyS(h:OwnN w B sv l)(ho:Only S w w')(hS:∀k,sv.ownBlock=some k→¬S k):OwnN w' B sv l:=by
 refine⟨h.1,?_⟩;rcases h.2 with hn | ⟨g,cap,cur,e,hB,hg,r⟩
 · exact .inl hn
 · exact .inr ⟨g,cap,cur,e,hB,(ho.block g (Array.getElem?_eq_some_iff.1 hg).1 (hS g (by rw [e]; rfl))).trans hg,r⟩
end Go.Proofs.YtdbfmikeaoaebaaGreatDoor
