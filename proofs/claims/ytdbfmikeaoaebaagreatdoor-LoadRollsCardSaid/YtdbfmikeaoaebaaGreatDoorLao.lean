/- Steps. -/
import Derived.Test.YtdbfmikeaoaebaaGreatDoorLan
import Derived.Test.YtdbfmikeaoaebaaGreatDoorLal
import Derived.Test.YtdbfmikeaoaebaaGreatDoorLam
import Derived.Test.YtdbfmikeaoaebaaGreatDoorRows
import Derived.ProofKit
import Derived.LaidMore
import Derived.LaidHandle
import Derived.OpenShut
import Derived.Stop.Joined
import Derived.SliceStrings
import Derived.Lib.LaidTab
import Derived.Stop.LaidErr
import Derived.Lib.SmallJoins
import Derived.Deep.Fields
import Derived.Deep.Slices
set_option linter.unusedSimpArgs false
set_option linter.unusedVariables false
set_option maxRecDepth 100000
set_option maxHeartbeats 4000000
namespace Go.Proofs.YtdbfmikeaoaebaaGreatDoor
open Go.RowKit Rn
variable {B b c i kh m n o:Nat} {Fd S:Nat→Prop} {V:List (Nat×List Value)} {W W0 w w':World} {X:List (List Int)} {cur cur' l:List Int} {d:De.D} {fv mv ov:Value} {r:Rn.Rg} {x:Int}
structure RdG (w wx:World) (sv:Value) (P:List (List It×List Int)) (bj:Ja) (tv:Value) (g4:Nat):Prop where
 bel:Below w.heap.size w wx
 gs:∃BB gl,w.heap.size≤BB∧Gs BB wx sv P gl
 ft:IntsAt wx tv bj.free
 fr:Fresh w.heap.size tv
 at_:Blk wx g4 (atC bj tv)
 ge:w.heap.size≤g4
theorem IntsAt.atc(h:IntsAt w (.slice (some ⟨b,o,none⟩) n c) l)(hi:l[i]? = some x):w.cell? ⟨b,o+i,none⟩=some (.int .i64 x):=by
 obtain⟨a,cap,e,hc⟩:=h;obtain⟨b',o',ea,hx⟩:=hc i x hi;injection e with e1 e2 e3
 rw [←e1] at ea;cases ea;exact hx
theorem ItemsAt.atc{l:List (It×Value)}(h:ItemsAt w (.slice (some ⟨b,o,none⟩) n c) l){x:It×Value}(hi:l[i]? = some x):At w b (o+i*47) (x.1.cells x.2).toArray:=by
 obtain⟨a,cap,e,hl,hc⟩:=h;obtain⟨hw,hb,b',o',ea,hx⟩:=hc i x hi;injection e with e1 e2 e3
 rw [←e1] at ea;cases ea;exact hx
theorem St.side2(h:Rn.St W.heap.size (fun k=>False∨(Value.slice (some ⟨kh,0,none⟩) m c).ownBlock=some k) (fun u=>Only S W u∧OwnN u B (.slice (some ⟨kh,0,none⟩) m c) cur) V w)(hS:S kh)(hk:kh<W.heap.size)(hO:Only (fun k=>k=kh) w w')(hy:OwnN w' B (.slice (some ⟨kh,0,none⟩) m c) cur'):Rn.St W.heap.size (fun k=>False∨(Value.slice (some ⟨kh,0,none⟩) m c).ownBlock=some k) (fun u=>Only S W u∧OwnN u B (.slice (some ⟨kh,0,none⟩) m c) cur') V w' :=
 ⟨Nat.le_trans h.sz hO.size,fun i g L hi=>(h.blk i g L hi).only hO fun e=>by have:=h.ge i g L hi;omega,h.ge,h.nd,⟨h.ex.1.trans ⟨hO.os,hO.tape,hO.output,hO.size,fun i hi hn=>hO.block i hi fun e=>hn (by rw [e];exact hS)⟩,hy⟩,Stays.only.both Stays.own,h.av,h.ns⟩
theorem Jcb(hwf:r.Wf)(hg:r.g.Ok)(hrs:∀x∈r.rs,x≠0→4≤x∧x≤4+r.s*r.l-1)(h2:IsSl ov)(h4:IsSl mv)(m c kh xb b B:Nat)(hm:(m:Int)=r.p)(hs:List Int)(hlen:hs.length=m)(F:List Int)(w:World)(hfv:IntsAt w fv F)(hB:B≤w.heap.size)(hx:Blk w xb (JP r (.slice (some ⟨kh,0,none⟩) m c) ov ⟨r.seg,r.off,r.seq,[]⟩ fv (.pointer (some ⟨b,0,none⟩)) mv))(hh:OwnN w B (.slice (some ⟨kh,0,none⟩) m c) hs)(hne:xb≠kh)(hvr:Vars W0)(hd:De.Dv W0 w b Fd d)(hW:W0.heap.size≤xb)(hF:¬Fd xb)(hWk:W0.heap.size≤kh)(hFk:¬Fd kh)(hLn:d.L.length≤1000000)(hX:Img d X)(ht:4+r.s*r.l≤(X.length:Int))(hbig:X.length≤1024)(hfit:fits r.g ⟨r.seg,r.off,r.seq,F⟩ d.S.length=true)(hq:Kh r.seq)(P:List (List It×List Int))(bj:Ja)(hway:Way X r.g ⟨r.seg,r.off,r.seq,F⟩ P bj)(hnx:nxt X r.g bj=none)(hfits:Fits P m)(hPn:P.length≤1000)(hPs:∀q∈P,q.2.length<100000)(hsm:∀x∈Kk hs P,Jh x)(L:List Int)(hri:QD X r.g (Kk hs P) r.rs bj.seg bj.off r.g.cap=some L) :
 Calls Tryz.prog 68 #[.pointer (some ⟨xb,0,none⟩)] w fun e w'=>∃tv,e=.returned .nilIface∧Blk w' xb (JP r (.slice (some ⟨kh,0,none⟩) m c) ov ⟨bj.seg,bj.off,bj.seq,[]⟩ tv (.pointer (some ⟨b,0,none⟩)) mv)∧OwnN w' B (.slice (some ⟨kh,0,none⟩) m c) (Kk hs P)∧IntsAt w' tv bj.free∧Fresh w.heap.size tv∧Only (fun k=>k=xb∨k=kh) w w':=by
 have HWF:=Zh hwf;have HG:=Zh hg;have HSO:=Zh h2;have HSM:=Zh h4;have HSF:=Zh hfv.sl;have HXB:=Zh hx;have HH:=Zh hh;have HBW:=Zh hB;have HNE:=Zh hne;have HFT:=Zh hfits;have HPN:=Zh hPn;have HPS:=Zh hPs;have HMP:=Zh hm;have HLEN:=Zh hlen;have HKH:=Zh (hh.lt kh rfl).2;have HXW:=Zh hx.lt;have HRD:Hid (∀w',Below w.heap.size w w'→Calls Tryz.prog 102 #[.pointer (some ⟨b,0,none⟩),r.g.v,.agg (atC ⟨r.seg,r.off,r.seq,[]⟩ fv).toArray] w' fun e w2=>∃sv tv,e=.returned (.tuple #[sv,.agg (atC bj tv).toArray,.int .i64 0])∧(∃BB gl,w'.heap.size≤BB∧Gs BB w2 sv P gl)∧IntsAt w2 tv bj.free∧Fresh w'.heap.size tv∧Below w'.heap.size w' w2):=Zh fun w' hb=>(Sr.J7j (a:=⟨r.seg,r.off,r.seq,F⟩) (hd.below hb) hX hbig hLn hfit hq (hfv.below hb)).mono fun e w2 ⟨P',b',sv,tv,⟨k1,k2⟩,k3,k4,k5,k6,k7⟩=>by
  obtain⟨rfl,rfl⟩:=hway.uniq hnx k1 k2;exact⟨sv,tv,k3,k4,k5,k6,k7⟩
 have HRI:Hid (∀w' tv,IntsAt w' (.slice (some ⟨kh,0,none⟩) m c) (Kk hs P)→IsSl tv→Blk w' xb (JP r (.slice (some ⟨kh,0,none⟩) m c) ov ⟨bj.seg,bj.off,bj.seq,[]⟩ tv (.pointer (some ⟨b,0,none⟩)) mv)→De.Dv W0 w' b Fd d→Calls Tryz.prog 99 #[.pointer (some ⟨xb,0,none⟩)] w' fun e w2=>J7e w'.heap.size (some L) e w2∧Below w'.heap.size w' w2):=Zh fun w' tv i1 i3 hb hdv=>by
  have:=xK hwf hg ⟨bj.seg,bj.off,bj.seq,[]⟩ (Kk hs P) (by rw [Y0,hlen];exact hm) hsm hrs w' i1 h2 i3 h4 hb (hvr.below Zy hdv.2) hdv hLn hX ht;rw [hri] at this;exact this
 have HDV:Hid (∀w',Only (fun k=>k=xb∨k=kh) w w'→De.Dv W0 w' b Fd d):=Zh fun w' ho=>hd.go ho (fun k hk=>hk.elim (fun e=>by rw [e];exact hW) fun e=>by rw [e];exact hWk) (fun k hf hk=>hk.elim (fun e=>hF (e ▸ hf)) fun e=>hFk (e ▸ hf));have H:=Rn.St.start (Stays.below w) Zq;clear hwf hg hrs h2 h4 hm hlen hfv hB hx hh hne hvr hd hW hF hWk hFk hLn hX ht hbig hfit hq hway hnx hfits hPn hPs hsm hri;go_enter Tryz.func68,Tryz.ntmps68;go_upto_region 0 with fail;refine Zl ?_;refine tk (Value.nilIface) ?_;go_upto_region 1 with fail
 go_cut [3,4,5] from 3 to 32 (fun s3 s4 s5 wx=>∃sv tv g4,sv=s3∧s4=.pointer (some ⟨g4,0,none⟩)∧s5=.int .i64 0∧RdG w wx sv P bj tv g4)
 case first =>
  refine J9 (fun wq=>Below w.heap.size w wq) (by kernel_rfl) ?_;replace H:=H.drew;generalize w.drew=w0 at *;refine th 0 14 (.pointer (some ⟨xb,0,none⟩)) H.ex ?_;refine th 1 15 (.pointer (some ⟨xb,0,none⟩)) H.ex ?_;refine th 2 16 (.pointer (some ⟨xb,22,none⟩)) H.ex ?_;refine th 3 17 ((.pointer (some ⟨b,0,none⟩))) H.ex ?_ (hy:=fun u hS=>by have hq:=(HXB.below hS HXB.lt).cell (i:=22) (v:=(.pointer (some ⟨b,0,none⟩))) ((J4u HWF.out (.slice (some ⟨kh,0,none⟩) m c) ov ⟨r.seg,r.off,r.seq,[]⟩ fv (.pointer (some ⟨b,0,none⟩)) mv));go_simp);refine th 4 18 (.pointer (some ⟨xb,0,none⟩)) H.ex ?_;refine th 5 19 (.pointer (some ⟨xb,0,none⟩)) H.ex ?_;refine th 6 20 (.pointer (some ⟨xb,0,none⟩)) H.ex ?_;refine th 7 21 (.pointer (some ⟨xb,0,none⟩)) H.ex ?_;refine th 8 22 (.pointer (some ⟨xb,1,none⟩)) H.ex ?_;refine th 9 23 (.agg (geC r).toArray) H.ex ?_ (hy:=fun u hS=>Q9 (c:=1) (Je r.g) (kA _ _ _ _ _ _ _) (HXB.below hS HXB.lt) rfl _ _ _ rfl rfl);refine th 10 24 (.pointer (some ⟨xb,0,none⟩)) H.ex ?_;refine th 11 25 (.pointer (some ⟨xb,0,none⟩)) H.ex ?_;refine th 12 26 (.pointer (some ⟨xb,0,none⟩)) H.ex ?_;refine th 13 27 (.pointer (some ⟨xb,18,none⟩)) H.ex ?_;refine th 14 28 (.agg (atC ⟨r.seg,r.off,r.seq,[]⟩ fv).toArray) H.ex ?_ (hy:=fun u hS=>Q9 (c:=18) (Xu ⟨r.seg,r.off,r.seq,[]⟩ HSF.out) (qI _ _ _ _ _ _ _) (HXB.below hS HXB.lt) (by simp [HWF.cells]) _ _ _ rfl rfl);refine wpAnyH_all (rs:=[15,20]) (by kernel_rfl) (by simp) fun mm hm=>?_;rcases (show mm=15∨mm=20 by simpa using hm) with rfl|rfl
  · refine wpOp_step rfl fun K hK1=>YZ rfl ?_;have hK:=fun a w hS hA=>hK1 a w ⟨hS,hA⟩;clear hK1 hm;go_simp;refine (HRD.out _ H.ex).mono ?_;rintro e w2 ⟨sv,tv,rfl,⟨BB,gl,hBB,hgs⟩,hft,hfr,hb⟩;have hZ:=H.sz;replace H:=H.call hb;refine hK _ _ H.ex (nm ?_);clear hK K;refine th 16 13 (.tuple #[sv,.agg (atC bj tv).toArray,.int .i64 0]) H.ex ?_;refine th 17 30 (sv) H.ex ?_;refine th 18 31 (.agg (atC bj tv).toArray) H.ex ?_;refine th 19 32 (.int .i64 0) H.ex ?_;refine Zo 20 fun K hK=>?_;refine Jf (some 4) rfl _ _ (JB _ _ _ 58 rfl _ J4w) (hK _ _ ((H.new (Xu _ Jm).ns (Blk.new w2 _ 58) (Zq.alloc Zy _)).ex) ?_);have hA:=Blk.new w2 (atC ⟨0,0,0,[]⟩ (.slice none 0 0)).toArray 58;have hab:Below w2.heap.size w2 (w2.alloc (.cells (atC ⟨0,0,0,[]⟩ (.slice none 0 0)).toArray 58)):=Zq.alloc Zy _;have H3:=H.new (Xu _ Jm).ns hA hab;clear hK K;refine nm ?_;generalize w2.alloc _=w3 at *;refine th 21 3 (sv) H3.ex ?_;refine Zo 22 fun K hK=>?_;refine stH (M:=atC ⟨0,0,0,[]⟩ (.slice none 0 0)) (Xu bj hft.sl) rfl hA ?_;intro w4 hD hO;have H4:=H3.put 0 rfl (Xu bj hft.sl).ns hD hO;have h24:Below w2.heap.size w2 w4:=hab.trans (hO.below hab.size fun k hk=>Nat.le_of_eq hk.symm);refine hK _ _ H4.ex (nm ?_);clear hK K;refine th 23 5 (.int .i64 0) H4.ex ?_;refine Zd ?_
    go_wp2_with fail
    go_meet
    exact⟨sv,tv,w2.heap.size,rfl,rfl,rfl,H4.ex,⟨BB,gl,by omega,hgs.below h24⟩,hft.below h24,Fresh.up hfr hZ,hD,H.sz⟩
  · refine wpOp_step rfl fun K hK1=>YZ rfl ?_;have hK:=fun a w hS hA=>hK1 a w ⟨hS,hA⟩;clear hK1 hm;refine Jf (some 4) rfl _ _ (JB _ _ _ 58 rfl _ J4w) (hK _ _ ((H.new (Xu _ Jm).ns (Blk.new w0 _ 58) (Zq.alloc Zy _)).ex) ?_);have hA:=Blk.new w0 (atC ⟨0,0,0,[]⟩ (.slice none 0 0)).toArray 58;have hab:Below w0.heap.size w0 (w0.alloc (.cells (atC ⟨0,0,0,[]⟩ (.slice none 0 0)).toArray 58)):=Zq.alloc Zy _;have hlt:w0.heap.size<(w0.alloc (.cells (atC ⟨0,0,0,[]⟩ (.slice none 0 0)).toArray 58)).heap.size:=by simp
    have H3:=H.new (Xu _ Jm).ns hA hab;have hZ:=H.sz;clear hK K;refine nm ?_;clear H;generalize w0.alloc _=w3 at *;have H:=H3;clear H3 hab;refine Zo 15 fun K hK=>?_;go_simp;refine (HRD.out _ H.ex).mono ?_;rintro e w2 ⟨sv,tv,rfl,⟨BB,gl,hBB,hgs⟩,hft,hfr,hb⟩;have hA2:=hA.below hb hA.lt;replace H:=H.call hb;refine hK _ _ H.ex (nm ?_);clear hK K;refine th 16 13 (.tuple #[sv,.agg (atC bj tv).toArray,.int .i64 0]) H.ex ?_;refine th 17 30 (sv) H.ex ?_;refine th 18 31 (.agg (atC bj tv).toArray) H.ex ?_;refine th 19 32 (.int .i64 0) H.ex ?_;refine th 21 3 (sv) H.ex ?_;refine Zo 22 fun K hK=>?_;refine stH (M:=atC ⟨0,0,0,[]⟩ (.slice none 0 0)) (Xu bj hft.sl) rfl hA2 ?_;intro w4 hD hO;have H4:=H.put 0 rfl (Xu bj hft.sl).ns hD hO;refine hK _ _ H4.ex (nm ?_);clear hK K;refine th 23 5 (.int .i64 0) H4.ex ?_;refine Zd ?_
    go_wp2_with fail
    go_meet
    exact⟨sv,tv,w0.heap.size,rfl,rfl,rfl,H4.ex,⟨BB,gl,by omega,hgs.only hO fun q h1 _ e=>by omega⟩,hft.onlyF hO fun q o n c e h=>by have:=hfr q o n c e;have h:q=w0.heap.size:=h;omega,Fresh.up hfr (by omega),hD,hZ⟩
 case rest =>
  obtain⟨sv,tv,g4,rfl,rfl,rfl,hR⟩:=hcut;clear H;obtain⟨BB,gl,hBB,hgs⟩:=hR.gs;have HRB:=Zh hR.bel;have HFT2:=Zh hR.ft;have HFR:=Zh hR.fr;have HST:=Zh hR.ft.sl;have HAT:=Zh hR.at_;have HGE:=Zh hR.ge;have hkl:kh<wc.heap.size:=Nat.lt_of_lt_of_le HKH.out hR.bel.size;have HKX:=Zh hkl;have HXX:=Zh (HXB.below hR.bel HXB.lt);have HHX:Hid (OwnN wc B (.slice (some ⟨kh,0,none⟩) m c) hs):=Zh (OwnN.grow HH.out ⟨hR.bel.os,hR.bel.tape,hR.bel.output,hR.bel.size,fun k hk _=>hR.bel.block k hk⟩ (Apr.none _));have HGR:Hid (∀(i:Nat) (x:List It×List Int),P[i]? = some x→∃g cap iv pv pl,sv=.slice (some ⟨g,0,none⟩) P.length cap∧(∀u,Only (fun k=>k=kh) wc u→At u g (i*2) #[iv,pv]∧ItemsAt u iv pl∧IntsAt u pv x.2)∧pl.map (·.1)=x.1):=Zh fun i x hi=>Jib hgs hi fun q hq e=>by have:=HKH.out;omega
  obtain⟨sa,sc,hsv⟩:=GsAt.form ⟨_,_,hgs⟩;generalize hn:P.length=n at hsv HGR HPN;have HN:=Zh hn;subst hsv;have H:=Rn.St.start (Rn.Stays.both (Stays.only (W:=wc) (S:=fun k=>k=kh)) (Stays.own (B:=B) (sv:=.slice (some ⟨kh,0,none⟩) m c) (l:=hs))) ⟨Only.refl _ _,HHX.out⟩;have HBC:Hid (B≤wc.heap.size):=Zh (Nat.le_trans HBW.out hR.bel.size);have HST0:Hid (Kk hs P=Kk hs (P.drop 0)):=Zh rfl;clear hR hBB hgs hkl hn
  go_wp2_with fail
  go_loopg [35] n (fun q i wr=>∃(i2:Nat) (cur:List Int),n-i2≤q∧i2≤n∧i=.int .i64 i2∧Kk hs P=Kk cur (P.drop i2)∧cur.length=m∧Rn.St wc.heap.size (fun k=>False∨(Value.slice (some ⟨kh,0,none⟩) m c).ownBlock=some k) (fun u=>Only (fun k=>k=kh) wc u∧OwnN u B (.slice (some ⟨kh,0,none⟩) m c) cur) [] wr)
  case atStart=>exact⟨0,hs,by omega,by omega,rfl,HST0.out,HLEN.out,H⟩
  case round =>
   clear H HST0;obtain⟨i2,cur,hq,hi,rfl,hro,hcl,H⟩:=hrel;have HQ:=Zh hq;have HRO:=Zh hro;have HCL:=Zh hcl;clear hq hro hcl
   by_cases hlt:i2<n
   · have hk1:(i2:Int)<(n:Int):=by omega
     obtain⟨x,hx⟩:∃x,P[i2]? = some x:=⟨_,List.getElem?_eq_getElem (by have:=HN.out;omega)⟩
     obtain⟨g,cap,iv,pv,pl,hsv,hat,hpl⟩:=HGR.out i2 x hx;injection hsv with e1 e2 e3
     subst e1;obtain⟨hfl,hfi⟩:=HFT.out x (List.mem_of_getElem? hx);have HIN:=Zh hlt;have HX:=Zh hx;have HA:=Zh hat;have HPL:=Zh hpl;have HFI:=Zh hfi;obtain⟨ia,ic,hiv,-⟩:=(hat wc (Only.refl _ _)).2.1;obtain⟨pa,pc,hpv,-⟩:=(hat wc (Only.refl _ _)).2.2;have hpn:pl.length=x.2.length:=by rw [←hfl,←hpl,List.length_map]
     generalize hnk:pl.length=nk at *;rw [←hpn] at hpv;subst hiv hpv;have HNK:=Zh hnk;have HPN2:=Zh hpn.symm;have HNS:Hid (x.2.length<100000):=Zh (HPS.out x (List.mem_of_getElem? hx));clear hx hat hpl hfl hfi hpn hnk e2 e3 hi hlt;go_upto_region 4 with fail;refine Zl ?_;refine tk (.pointer (some ⟨g,i2*2,none⟩)) ?_;refine Jjo (Jca (Jz ia nk ic) (Jz pa nk pc)) (HA.out _ H.ex.1).1 ?_;refine al XC H ?_ (hns:=(Jca Jm Jm).ns);clear H;intro g7 w7 H;refine stO (M:=[.slice none 0 0,.slice none 0 0]) (Jca (Jz ia nk ic) (Jz pa nk pc)) rfl H 0 ?_;clear H;intro w8 H;refine Zn ?_;clear hk1;go_upto_region 5 with fail;refine Zl ?_;refine tk (.pointer (some ⟨g7,0,none⟩)) ?_;refine lc H 0 (0) ?_;refine tk (.int .i64 nk) ?_;refine tk (.int .i64 0) ?_;go_wp2_with fail
     go_loopg [42] nk (fun q k wr=>∃(i3:Nat) (cu2:List Int),nk-i3≤q∧i3≤nk∧k=.int .i64 i3∧Yk cur (x.1.zip x.2)=Yk cu2 ((x.1.zip x.2).drop i3)∧cu2.length=m∧Rn.St wc.heap.size (fun k=>False∨(Value.slice (some ⟨kh,0,none⟩) m c).ownBlock=some k) (fun u=>Only (fun k=>k=kh) wc u∧OwnN u B (.slice (some ⟨kh,0,none⟩) m c) cu2) [(g7,[.slice ia nk ic,.slice pa nk pc])] wr)
     case atStart=>exact⟨0,cur,by omega,by omega,rfl,rfl,HCL.out,H⟩
     case round =>
      clear H;obtain⟨i3,cu2,hq,hi3,rfl,hr2,hc2,H⟩:=hrel;have HQ2:=Zh hq;have HR2:=Zh hr2;have HC2:=Zh hc2;clear hq hr2 hc2
      by_cases hlt2:i3<nk
      · have hk3:(i3:Int)<(nk:Int):=by omega
        obtain⟨⟨it,sv2⟩,hp⟩:∃p,pl[i3]? = some p:=⟨_,List.getElem?_eq_getElem (by have:=HNK.out;omega)⟩
        obtain⟨q2,hq2⟩:∃q,x.2[i3]? = some q:=⟨_,List.getElem?_eq_getElem (by have:=HPN2.out;omega)⟩
        have hxi:x.1[i3]? = some it:=by rw [←HPL.out,List.getElem?_map,hp];rfl
        have hz:(x.1.zip x.2)[i3]? = some (it,q2):=List.getElem?_zip_eq_some.2 ⟨hxi,hq2⟩;obtain⟨hmk,j,hj,hjm⟩:=HFI.out it (List.mem_of_getElem? hxi);have HMK:=Zh hmk;have HJ:=Zh hj;have HJM:=Zh hjm;have HZ:=Zh hz;have HP:=Zh hp;have HQV:=Zh hq2;have HIL:=Zh hlt2;obtain⟨ga,oa,ca,eia,-,-,hit⟩:=(HA.out _ H.ex.1).2.1.has (by have:=HNK.out;omega);obtain⟨gp,op,cp,epa,-⟩:=(HA.out _ H.ex.1).2.2.has (by have:=HPN2.out;omega);injection eia with e1 e2 e3
        injection epa with e4 e5 e6
        subst e1 e4;have HIT:=Zh (hit i3 _ hp).1;have HSI:=Zh (Bytes.sl (hit i3 _ hp).2.1);clear hit e2 e3 e5 e6 hp hq2 hxi hz hmk hj hjm hi3 hlt2;go_upto_region 7 with fail;refine Zl ?_;refine tk (.int .i64 i3) ?_;refine tk (.pointer (some ⟨ga,oa+i3*47,none⟩)) ?_;refine Jjo (kd HIT.out HSI.out) (ItemsAt.atc (HA.out _ H.ex.1).2.1 HP.out) ?_;refine al Jfm H ?_ (hns:=itnone_ob.ns);clear H;intro g9 w9 H;refine tk (.int .i64 i3) ?_;refine stO (M:=It.none.cells (.slice none 0 0)) (kd HIT.out HSI.out) (Ob.len (kd HIT.out HSI.out) itnone_ob) H 1 ?_;clear H;intro w10 H;go_upto_region 8 with fail;refine J9 (fun wq=>Blk wq g9 (it.cells sv2)∧Blk wq g7 [.slice (some ⟨ga,oa,none⟩) nk ic,.slice (some ⟨gp,op,none⟩) nk pc]∧wq.cell? ⟨gp,op+i3,none⟩=some (.int .i64 q2)) (by kernel_rfl) ?_;replace H:=H.drew;have hS0:=And.intro (H.blk 1 _ _ rfl) (And.intro (H.blk 0 _ _ rfl) (IntsAt.atc (HA.out _ H.ex.1).2.2 HQV.out));refine th 0 47 (.pointer (some ⟨xb,0,none⟩)) hS0 ?_;refine th 1 48 (.agg (it.cells sv2).toArray) hS0 ?_ (hy:=fun u hS=>Kj (kd HIT.out HSI.out) hS.1 _ _ _ rfl rfl);refine th 2 49 (.pointer (some ⟨g7,1,none⟩)) hS0 ?_;refine th 3 50 (.slice (some ⟨gp,op,none⟩) nk pc) hS0 ?_ (hy:=fun u hS=>by have hq:=hS.2.1.cell (i:=1) (v:=.slice (some ⟨gp,op,none⟩) nk pc) rfl;go_simp);refine th 4 51 (.int .i64 i3) hS0 ?_;refine th 5 52 (.pointer (some ⟨gp,op+i3,none⟩)) hS0 ?_;refine th 6 53 (.int .i64 q2) hS0 ?_ (hy:=fun u hS=>by have hq:=hS.2.2;go_simp);refine Zo 7 fun K hK=>?_;go_simp;refine (Jc9 HWF.out ⟨r.seg,r.off,r.seq,[]⟩ HSO.out HSF.out HSM.out it HIT.out HSI.out HMK.out j m c HJ.out HMP.out cu2 HC2.out HJM.out q2 HNE.out _ (by have h1:=HBC.out;have h2:=H.ex.1.size;omega) (HXX.only H.ex.1 HNE.out) H.ex.2).mono ?_;rintro e w11 ⟨rfl,hOw,hO⟩;clear hS0;replace H:=St.side2 H rfl HKX.out hO hOw;clear hO hOw;have hS0:=And.intro (H.blk 1 _ _ rfl) (And.intro (H.blk 0 _ _ rfl) (IntsAt.atc (HA.out _ H.ex.1).2.2 HQV.out));refine hK _ _ hS0 (nm ?_);clear hK K;refine th 8 10 .nilIface hS0 ?_;refine Zd ?_;clear hS0 hk3;have hb1:=HIL.out;have hb2:=HNS.out;have hb3:=HPN2.out
        go_wp2_with fail
        go_roundg (nk-(i3+1))
        case measure=>have:=HQ2.out;have:=HIL.out;omega
        case rel=>exact⟨i3+1,cu2.set it.mark.2.toNat (Zw it q2),by omega,by have:=HIL.out;omega,by go_num,by rw [HR2.out,J3c HZ.out],by rw [List.length_set];exact HC2.out,H.cut 1⟩
      · obtain rfl:i3=nk:=by omega
        have hend:Yk cur (x.1.zip x.2)=cu2:=by
         rw [HR2.out,List.drop_of_length_le (by rw [List.length_zip];have:=HPN2.out;omega)];rfl
        have HEND:=Zh hend;have hk3:¬(i3:Int)<(i3:Int):=Int.lt_irrefl _;clear hi3 hlt2 hend;have hb1:=HIN.out;have hb2:=HPN.out
        go_wp2_with fail
        go_roundg (n-(i2+1))
        case measure=>have:=HQ.out;have:=HIN.out;omega
        case rel=>exact⟨i2+1,cu2,by omega,by have:=HIN.out;omega,by go_num,by rw [HRO.out,J3d HX.out,HEND.out],HC2.out,H.cut 0⟩
   · obtain rfl:i2=n:=by omega
     have hend:Kk hs P=cur:=by
      rw [HRO.out,List.drop_of_length_le (by have:=HN.out;omega)];rfl
     have HEND:=Zh hend;rw [hend] at HRI;clear hi hlt HRO hend;have HLI:=Zh (fun u (h:OwnN u B (.slice (some ⟨kh,0,none⟩) m c) cur)=>OwnN.ints h);have hk3:¬(i2:Int)<(i2:Int):=Int.lt_irrefl _;go_upto_region 13 with fail;clear hk3;refine Zl ?_;refine tk (.pointer (some ⟨xb,0,none⟩)) ?_;refine Jk1 (Xu bj HST.out) (HAT.only H.ex.1 (by have h1:=HGE.out;have h2:=HKH.out;omega)) ?_;refine tk (.pointer (some ⟨xb,0,none⟩)) ?_;refine tk (.pointer (some ⟨xb,0,none⟩)) ?_;refine tk (.pointer (some ⟨xb,18,none⟩)) ?_;refine J0 rfl fun K hK=>?_;refine Jia (M:=JP r (.slice (some ⟨kh,0,none⟩) m c) ov ⟨r.seg,r.off,r.seq,[]⟩ fv (.pointer (some ⟨b,0,none⟩)) mv) (L:=atC ⟨r.seg,r.off,r.seq,[]⟩ fv) (c:=18) (Xu bj HST.out) rfl (qI r (.slice (some ⟨kh,0,none⟩) m c) ov ⟨r.seg,r.off,r.seq,[]⟩ fv (.pointer (some ⟨b,0,none⟩)) mv) (qI r (.slice (some ⟨kh,0,none⟩) m c) ov ⟨bj.seg,bj.off,bj.seq,[]⟩ tv (.pointer (some ⟨b,0,none⟩)) mv) (HXX.only H.ex.1 HNE.out) (by simp [HWF.cells]) ?_;intro w13 hD hO;refine hK _ _ (nm ?_);clear hK K;refine Zn ?_;have HO1:Hid (OwnN w13 B (.slice (some ⟨kh,0,none⟩) m c) cur):=Zh (OwnN.grow H.ex.2 (Yh hO) fun k hk e=>by cases e;exact HNE.out (Option.some.inj hk).symm);have HT1:Hid (IntsAt w13 tv bj.free):=Zh ((IntsAt.only HFT2.out H.ex.1 fun q o n c e h=>by have h1:=HFR.out q o n c e;have h2:=HKH.out;omega).only hO fun q o n c e h=>by have h1:=HFR.out q o n c e;have h2:=HXW.out;omega);have HO2:Hid (Only (fun k=>k=xb∨k=kh) w w13):=Zh (((Only.of_below HRB.out).trans (H.ex.1.more fun k _ h=>.inr h)).trans (hO.more fun k _ h=>.inl h));have HD1:=Zh hD;clear H hD hO
     go_wp2_with fail
     refine (HRI.out w13 tv (OwnN.ints HO1.out) HST.out HD1.out (HDV.out _ HO2.out)).mono ?_;rintro e w14 ⟨⟨lv,rfl,ho⟩,hb⟩;obtain⟨la,ln,lc,rfl⟩:=OwnN.sl ho;have HHB:=Zh hb;clear ho hb
     go_wp2_with fail
     go_ret;exact⟨tv,rfl,HD1.below HHB.out HD1.lt,by rw [HEND.out];exact OwnN.below HO1.out HHB.out,HT1.below HHB.out,HFR.out,HO2.trans (Only.of_below HHB.out)⟩
variable {F:Nat→Prop} {L M:List Value} {V:List (Nat×List Value)} {W0 w w' w0:World} {X:List (List Int)} {b g kh:Nat} {d:De.D} {l x y:List Int} {r:Rn.Rg}
def stZ:List Value:=Jy Rn.Rg.none (.slice none 0 0) (.slice none 0 0) ⟨0,0,0,[]⟩ (.slice none 0 0)
theorem stZ_ob:Ob 60 stZ:=K9 Rn.none_wf Jm Jm Jm
theorem Yi:(Tryz.prog.info? 60).bind (·.zero)=some (.agg stZ.toArray):=by kernel_rfl
theorem Jgi(h:l.length=8):∃a b c d e f g i,l=[a,b,c,d,e,f,g,i]:=by
 match l,h with
 | [a,b,c,d,e,f,g,i],_=>exact⟨a,b,c,d,e,f,g,i,rfl⟩
theorem J7l(h:r.Wf):Tryz.prog.built 60 [(0,.agg r.cells.toArray)]=some (Jy r (.slice none 0 0) (.slice none 0 0) ⟨0,0,0,[]⟩ (.slice none 0 0)).toArray:=by
 obtain⟨g1,g2,g3,g4,g5,g6,g7,g8,rs⟩:=r;obtain⟨a,b,c,d,e,f,g,i,rfl⟩:=Jgi h.len;kernel_rfl
theorem J7m(h:r.Wf)(dv:Option Addr):Tryz.prog.built 168 [(0,.agg (Jy r (.slice none 0 0) (.slice none 0 0) ⟨0,0,0,[]⟩ (.slice none 0 0)).toArray),(1,.pointer dv)]=some (JP r (.slice none 0 0) (.slice none 0 0) ⟨0,0,0,[]⟩ (.slice none 0 0) (.pointer dv) (.slice none 0 0)).toArray:=by
 obtain⟨g1,g2,g3,g4,g5,g6,g7,g8,rs⟩:=r;obtain⟨a,b,c,d,e,f,g,i,rfl⟩:=Jgi h.len;kernel_rfl
def xL(r:Rn.Rg)(p b:Nat)(w:World)(bj:Ja)(hs:List Int):Prop:=∀w' xb,Below w.heap.size w w'→w.heap.size≤xb→Blk w' xb (JP r (.slice none 0 0) (.slice none 0 0) ⟨0,0,0,[]⟩ (.slice none 0 0) (.pointer (some ⟨b,0,none⟩)) (.slice none 0 0))→Calls Tryz.prog 67 #[.pointer (some ⟨xb,0,none⟩)] w' fun e w2=>∃kh c ov fv mv,e=.returned .nilIface∧Blk w2 xb (JP r (.slice (some ⟨kh,0,none⟩) p c) ov ⟨r.seg,r.off,r.seq,[]⟩ fv (.pointer (some ⟨b,0,none⟩)) mv)∧Only (fun k=>k=xb) w' w2∧w'.heap.size≤kh∧IsSl ov∧IsSl fv∧IsSl mv∧Calls Tryz.prog 68 #[.pointer (some ⟨xb,0,none⟩)] w2 fun e w3=>∃tv,e=.returned .nilIface∧Blk w3 xb (JP r (.slice (some ⟨kh,0,none⟩) p c) ov ⟨bj.seg,bj.off,bj.seq,[]⟩ tv (.pointer (some ⟨b,0,none⟩)) mv)∧OwnN w3 w'.heap.size (.slice (some ⟨kh,0,none⟩) p c) hs∧IntsAt w3 tv bj.free∧Fresh w2.heap.size tv∧Only (fun k=>k=xb∨k=kh) w2 w3∧IntsAt w3 ov (zeros p)∧(∀k,ov.ownBlock=some k→w'.heap.size≤k)
theorem qL(hwf:r.Wf)(hg:r.g.Ok)(hz:r.rs=zeros 8)(p:Nat)(hp:(p:Int)=r.p)(b:Nat)(w:World)(hvr:Vars W0)(hd:De.Dv W0 w b F d)(hLn:d.L.length≤1000000)(hX:Img d X)(ht:4+r.s*r.l≤(X.length:Int))(hbig:X.length≤1024)(hfit:fits r.g ⟨r.seg,r.off,r.seq,ji r⟩ d.S.length=true)(hq:Kh r.seq)(P:List (List It×List Int))(bj:Ja)(hway:Way X r.g ⟨r.seg,r.off,r.seq,ji r⟩ P bj)(hnx:nxt X r.g bj=none)(hfits:Fits P p)(hPn:P.length≤1000)(hPs:∀q∈P,q.2.length<100000)(hsm:∀x∈Kk (zeros p) P,Jh x)(L:List Int)(hri:QD X r.g (Kk (zeros p) P) r.rs bj.seg bj.off r.g.cap=some L):xL r p b w bj (Kk (zeros p) P):=by
 intro w' xb hb hxb hx;have hp1:1≤r.p:=hg.1.1;have hW:W0.heap.size≤w.heap.size:=hd.2.size;have hF:∀k,w.heap.size≤k→¬F k:=fun k hk h=>by have:=(hd.lt k h).2;omega
 refine (J39 hwf hg hz p hp xb b w' hx hvr (hd.below hb) (by omega) (hF xb hxb) hLn hX ht).mono ?_;rintro e w2 ⟨hv,ov,fv,mv,rfl,hD,hO,hOw,hFv,hOv,hOf,hmv,hoh⟩;obtain⟨kh,c,rfl,-⟩:=World.ownsRow.form hOw (by rw [J1];omega);rw [J1] at hOw hD;have hkh:=(hOw.lt kh rfl).1;have hxw:=hx.lt;have hbs:=hb.size;have hOz:=hO.size;have hd2:De.Dv W0 w2 b F d:=(hd.below hb).go1 hO (by omega) (hF xb hxb);refine⟨kh,c,ov,fv,mv,rfl,hD,hO,hkh,hOv.sl,hFv.sl,hmv,(Jcb hwf hg (fun x hx h0=>by rw [hz] at hx;exact absurd (List.eq_of_mem_replicate hx) h0) hOv.sl hmv p c kh xb b w'.heap.size hp (zeros p) (J1 p) (ji r) w2 hFv.ints hOz hD hOw (by omega) hvr hd2 (by omega) (hF xb hxb) (by omega) (hF kh (by omega)) hLn hX ht hbig hfit hq P bj hway hnx hfits hPn hPs hsm L hri).mono fun e w3 ⟨tv,k1,k2,k3,k4,k5,k6⟩=>⟨tv,k1,k2,k3,k4,k5,k6,hOv.onlyF k6 fun q o n c e hF=>?_,hOf⟩⟩;have h1:=hOf q (by rw [e];rfl);rcases hF with hF|hF
 · omega
 · exact hoh q (by rw [e];rfl) (by rw [hF];rfl)
theorem St.two(h:Rn.St w0.heap.size (fun _=>False) (fun u=>Below w0.heap.size w0 u) V w)(i:Nat)(hi:V[i]? = some (g,L))(hns:∀v∈M,∀t,v≠.string t)(hD:Blk w' g M)(hO:Only (fun k=>k=g∨k=kh) w w')(hk:w0.heap.size≤kh)(hkV:∀(j q:Nat) (R:List Value),V[j]? = some (q,R)→q≠kh):Rn.St w0.heap.size (fun _=>False) (fun u=>Below w0.heap.size w0 u) (V.set i (g,M)) w':=by
 have old:∀(j q:Nat) (R:List Value),(V.set i (g,M))[j]? = some (q,R)→(q=g∧R=M)∨(V[j]? = some (q,R)∧q≠g):=fun j q R hj=>by
  by_cases hij:i=j
  · subst hij;rw [List.getElem?_set_self (Zg hi).1] at hj;cases hj;exact .inl ⟨rfl,rfl⟩
  · rw [List.getElem?_set_ne hij] at hj;exact .inr ⟨hj,fun e=>hij (by subst e;exact h.nd i j _ L R hi hj)⟩
 refine⟨Nat.le_trans h.sz hO.size,fun j q R hj=>?_,fun j q R hj=>?_,fun j k q R R' hj hk'=>?_,?_,h.st,fun j q R hj hf=>hf.elim,fun j q R hj=>?_⟩
 · rcases old j q R hj with ⟨rfl,rfl⟩|⟨h1,h2⟩
   · exact hD
   · exact (h.blk j q R h1).only hO fun e=>e.elim h2 (hkV j q R h1)
 · rcases old j q R hj with ⟨rfl,rfl⟩|⟨h1,h2⟩
   · exact h.ge i q L hi
   · exact h.ge j q R h1
 · have a1:∃R0,V[j]? = some (q,R0):=by
    by_cases hij:i=j
    · subst hij;rw [List.getElem?_set_self (Zg hi).1] at hj;cases hj;exact⟨L,hi⟩
    · rw [List.getElem?_set_ne hij] at hj;exact⟨R,hj⟩
   have a2:∃R0,V[k]? = some (q,R0):=by
    by_cases hij:i=k
    · subst hij;rw [List.getElem?_set_self (Zg hi).1] at hk';cases hk';exact⟨L,hi⟩
    · rw [List.getElem?_set_ne hij] at hk';exact⟨R',hk'⟩
   obtain⟨R0,a1⟩:=a1;obtain⟨R1,a2⟩:=a2;exact h.nd j k q R0 R1 a1 a2
 · have hg:=h.ge i g L hi;have hz:=h.sz;exact h.ex.trans (hO.below hz fun k e=>by rcases e with rfl|rfl <;> assumption)
 · rcases old j q R hj with ⟨rfl,rfl⟩|⟨h1,h2⟩
   · exact hns
   · exact h.ns j q R h1
theorem J3e(hwf:r.Wf)(p b:Nat)(bj:Ja)(hs:List Int)(w:World)(hc:∀w',Below w.heap.size w w'→Calls Tryz.prog 66 #[(.pointer (some ⟨b,0,none⟩))] w' fun e w2=>e=.returned (.tuple #[.agg r.cells.toArray,.int .i64 0])∧Below w'.heap.size w' w2)(hbg:xL r p b w bj hs):Calls Tryz.prog 40 #[(.pointer (some ⟨b,0,none⟩))] w fun e w'=>(∃hv ov tv,e=.returned (.tuple #[.agg (Jy r hv ov ⟨bj.seg,bj.off,bj.seq,[]⟩ tv).toArray,.nilIface])∧OwnN w' w.heap.size hv hs∧IntsAt w' tv bj.free∧Fresh w.heap.size tv∧IntsAt w' ov (zeros p)∧(∀k,ov.ownBlock=some k→w.heap.size≤k))∧Below w.heap.size w w':=by
 have H:=Rn.St.start (Stays.below w) Zq;have HC:=Zh hc;have HWF:=Zh hwf;have HBG:Hid (∀w' xb,Below w.heap.size w w'→w.heap.size≤xb→Blk w' xb (JP r (.slice none 0 0) (.slice none 0 0) ⟨0,0,0,[]⟩ (.slice none 0 0) (.pointer (some ⟨b,0,none⟩)) (.slice none 0 0))→Calls Tryz.prog 67 #[.pointer (some ⟨xb,0,none⟩)] w' fun e w2=>∃kh c ov fv mv,e=.returned .nilIface∧Blk w2 xb (JP r (.slice (some ⟨kh,0,none⟩) p c) ov ⟨r.seg,r.off,r.seq,[]⟩ fv (.pointer (some ⟨b,0,none⟩)) mv)∧Only (fun k=>k=xb) w' w2∧w'.heap.size≤kh∧IsSl ov∧IsSl fv∧IsSl mv∧Calls Tryz.prog 68 #[.pointer (some ⟨xb,0,none⟩)] w2 fun e w3=>∃tv,e=.returned .nilIface∧Blk w3 xb (JP r (.slice (some ⟨kh,0,none⟩) p c) ov ⟨bj.seg,bj.off,bj.seq,[]⟩ tv (.pointer (some ⟨b,0,none⟩)) mv)∧OwnN w3 w'.heap.size (.slice (some ⟨kh,0,none⟩) p c) hs∧IntsAt w3 tv bj.free∧Fresh w2.heap.size tv∧Only (fun k=>k=xb∨k=kh) w2 w3∧IntsAt w3 ov (zeros p)∧(∀k,ov.ownBlock=some k→w'.heap.size≤k)):=Zh hbg;clear hc hwf hbg;go_enter Tryz.func40,Tryz.ntmps40;go_upto_region 0 with fail;refine Zl ?_;refine al Yi H ?_ (hns:=stZ_ob.ns);clear H;intro g1 w1 H;refine tk (Value.nilIface) ?_;go_upto_region 1 with fail;refine Zl ?_;refine tk (.pointer (some ⟨b,0,none⟩)) ?_;refine J0 rfl fun K hK=>?_;go_simp;refine (HC.out _ H.ex).mono ?_;rintro e w2 ⟨rfl,hb⟩;replace H:=H.call hb;clear hb;refine hK _ _ (nm ?_);clear hK K;refine tk (.tuple #[.agg r.cells.toArray,.int .i64 0]) ?_;refine tk (.agg r.cells.toArray) ?_;refine tk (.int .i64 0) ?_;refine al Ke H ?_ (hns:=(Zu Rn.none_wf).ns);clear H;intro g3 w3 H;refine stO (Zu HWF.out) (Ob.len (Zu HWF.out) (Zu Rn.none_wf)) H 1 ?_;clear H;intro w3 H;refine tk (.int .i64 0) ?_;go_upto_region 2 with fail;refine Zl ?_;refine tk (.int .i64 0) ?_;refine tk (.bool false) ?_;go_upto_region 4 with fail;refine Zl ?_;refine ldO (Zu HWF.out) H 1 ?_;refine tk (.agg (Jy r (.slice none 0 0) (.slice none 0 0) ⟨0,0,0,[]⟩ (.slice none 0 0)).toArray) ?_ (hr:=by exact J8 _ _ _ _ 60 _ rfl #[(0,.agg r.cells.toArray)] (by simp [go_sem]) _ (run_build _ 60 _ _ (J7l HWF.out)));refine tk (.pointer (some ⟨b,0,none⟩)) ?_;refine tk (.agg (JP r (.slice none 0 0) (.slice none 0 0) ⟨0,0,0,[]⟩ (.slice none 0 0) (.pointer (some ⟨b,0,none⟩)) (.slice none 0 0)).toArray) ?_ (hr:=by exact J8 _ _ _ _ 168 _ rfl #[(0,.agg (Jy r (.slice none 0 0) (.slice none 0 0) ⟨0,0,0,[]⟩ (.slice none 0 0)).toArray),(1,(.pointer (some ⟨b,0,none⟩)))] (by simp [go_sem]) _ (run_build _ 168 _ _ (J7m HWF.out _)));refine bx H ?_ (hns:=(YM HWF.out Jm Jm Jm ⟨_,rfl⟩ Jm).ns);clear H;intro g4 w4 H;refine tk (.pointer (some ⟨g4,0,none⟩)) ?_;go_upto_region 5 with fail;refine Zl ?_;refine tk (.pointer (some ⟨g4,0,none⟩)) ?_;refine J0 rfl fun K hK=>?_;have HW4:=Zh H;go_simp;refine (HBG.out _ _ H.ex (H.ge 2 _ _ rfl) (H.blk 2 _ _ rfl)).mono ?_;rintro e w5 ⟨kh,c,ov,fv,mv,rfl,hD,hO,hkh,h2,h3,h4,hgo⟩;have HSO:=Zh h2;have HSF:=Zh h3;have HSM:=Zh h4;have HKH:=Zh hkh;have HGO:=Zh hgo;have HOZ:=Zh hO.size;replace H:=St.via H 2 rfl (YM HWF.out (Jz (some ⟨kh,0,none⟩) p c) HSO.out HSF.out ⟨_,rfl⟩ HSM.out).ns hD hO;clear hD hO hkh h2 h3 h4 hgo;refine hK _ _ (nm ?_);clear hK K;refine tk (.nilIface) ?_;go_upto_region 6 with fail;refine Zl ?_;refine tk (.nilIface) ?_;refine tk (.bool false) ?_;go_upto_region 8 with fail;refine Zl ?_;refine tk (.pointer (some ⟨g4,0,none⟩)) ?_;refine J0 rfl fun K hK=>?_;go_simp;refine HGO.mono ?_;rintro e w6 ⟨tv,rfl,hD,hOw,hT,hFr,hO,hOv,hOf⟩;have HOF:Hid (∀k,ov.ownBlock=some k→w.heap.size≤k):=Zh fun k hk=>Nat.le_trans HW4.sz (hOf k hk)
 have HST:=Zh hT.sl;have HFR:Hid (Fresh w.heap.size tv):=Zh (hFr.up (by have h1:=HW4.sz;have h2:=HOZ.out;omega));have hkw:w.heap.size≤kh:=Nat.le_trans HW4.sz HKH.out;have hnv:∀(j q:Nat) (R:List Value),[(g1,stZ),(g3,r.cells),(g4,JP r (.slice (some ⟨kh,0,none⟩) p c) ov ⟨bj.seg,bj.off,bj.seq,[]⟩ tv (.pointer (some ⟨b,0,none⟩)) mv)][j]? = some (q,R)→q<w4.heap.size:=fun j q R hj=>by
  have h0:=(HW4.blk 0 _ _ rfl).lt;have h1:=(HW4.blk 1 _ _ rfl).lt;have h2:=(HW4.blk 2 _ _ rfl).lt;rcases j with _|_|_|j
  · cases hj;exact h0
  · cases hj;exact h1
  · cases hj;exact h2
  · cases hj
 replace H:=St.two H 2 rfl (YM HWF.out (Jz (some ⟨kh,0,none⟩) p c) HSO.out HST.out ⟨_,rfl⟩ HSM.out).ns hD hO hkw (fun j q R hj e=>by
  have h0:=(HW4.blk 0 _ _ rfl).lt
  have h1:=(HW4.blk 1 _ _ rfl).lt
  have h2:=(HW4.blk 2 _ _ rfl).lt
  have h3:=HKH.out
  rcases j with _|_|_|j
  · cases hj;omega
  · cases hj;omega
  · cases hj;omega
  · cases hj)
 replace H:=St.add (St.add H (hOw.mono HW4.sz) Stays.own fun q hq hk=>by
  obtain⟨j,hj⟩:=List.getElem?_of_mem hq
  have h1:=hnv j q.1 q.2 hj
  have h2:=HKH.out
  have h3:kh=q.1:=Option.some.inj hk
  omega) hT Stays.ints fun q hq hk=>by
  obtain⟨j,hj⟩:=List.getElem?_of_mem hq;have h1:=hnv j q.1 q.2 hj;obtain⟨tb,tk1,tc,e,-⟩:=hT.has (List.length_pos_iff.2 hk.1);have h2:=hFr _ _ _ _ e;have h3:=HOZ.out;have h4:tb=q.1:=by
   have h5:=hk.2;rw [e] at h5;exact Option.some.inj h5
  omega
 replace H:=St.add H hOv Stays.ints fun q hq hk=>by
  obtain⟨j,hj⟩:=List.getElem?_of_mem hq;have h1:=hnv j q.1 q.2 hj;have h2:=hOf q.1 hk.2;omega
 clear hD hOw hT hFr hO hkw hnv hOv hOf;refine hK _ _ (nm ?_);clear hK K;refine tk (.nilIface) ?_;go_upto_region 9 with fail;refine Zl ?_;refine tk (.nilIface) ?_;refine tk (.bool false) ?_;go_upto_region 11 with fail;refine Zl ?_;refine tk (.pointer (some ⟨g4,0,none⟩)) ?_;refine tk (.pointer (some ⟨g4,0,none⟩)) ?_;refine tk (.pointer (some ⟨g4,0,none⟩)) ?_;refine ldP (K9 HWF.out (Jz (some ⟨kh,0,none⟩) p c) HSO.out HST.out) H 2 (yH _ _ _ _ _ _ _) ?_;refine stO (K9 HWF.out (Jz (some ⟨kh,0,none⟩) p c) HSO.out HST.out) (Ob.len (K9 HWF.out (Jz (some ⟨kh,0,none⟩) p c) HSO.out HST.out) stZ_ob) H 0 ?_;clear H;intro w6 H;refine tk (Value.nilIface) ?_;go_wp2_with fail
 refine Yf (K9 HWF.out (Jz (some ⟨kh,0,none⟩) p c) HSO.out HST.out) H 0 rfl ⟨?_,H.ex.1.1.1⟩;exact⟨_,ov,tv,rfl,H.ex.1.1.2,H.ex.1.2,HFR.out,H.ex.2,HOF.out⟩
theorem Jfn(hwf:r.Wf)(p:Nat)(bj:Ja)(hs:List Int)(dq:Option Addr)(w:World)(hvr:Vars w)(hc:∀w',Below w.heap.size w w'→Calls Tryz.prog 40 #[.pointer dq] w' fun e w2=>(∃hv ov tv,e=.returned (.tuple #[.agg (Jy r hv ov ⟨bj.seg,bj.off,bj.seq,[]⟩ tv).toArray,.nilIface])∧OwnN w2 w'.heap.size hv hs∧IntsAt w2 tv bj.free∧Fresh w'.heap.size tv∧IntsAt w2 ov (zeros p)∧(∀k,ov.ownBlock=some k→w'.heap.size≤k))∧Below w'.heap.size w' w2):Calls Tryz.prog 16 #[.pointer dq] w fun e w'=>(∃hv ov tv,e=.returned (.tuple #[.agg (Jy r hv ov ⟨bj.seg,bj.off,bj.seq,[]⟩ tv).toArray,.int .i64 0])∧OwnN w' w.heap.size hv hs∧IntsAt w' tv bj.free∧Fresh w.heap.size tv∧IntsAt w' ov (zeros p)∧(∀k,ov.ownBlock=some k→w.heap.size≤k))∧Below w.heap.size w w':=by
 have H:=Rn.St.start (Stays.below w) Zq;have HC:=Zh hc;have HV:=Zh hvr;have HWF:=Zh hwf;clear hc hvr hwf;go_enter Tryz.func16,Tryz.ntmps16;go_upto_region 0 with fail;refine Zl ?_;refine al Yi H ?_ (hns:=stZ_ob.ns);clear H;intro g1 w1 H;refine tk (.int .i64 0) ?_;go_upto_region 1 with fail;refine Zl ?_;refine tk (.pointer dq) ?_;refine J0 rfl fun K hK=>?_;go_simp;refine (HC.out _ H.ex).mono ?_;rintro e w2 ⟨⟨hv,ov,tv,rfl,hOw,hT,hFr,hOv,hOf⟩,hb⟩;have HOF:Hid (∀k,ov.ownBlock=some k→w.heap.size≤k):=Zh fun k hk=>Nat.le_trans H.sz (hOf k hk);have HSH:=Zh hOw.sl;have HSO:=Zh hOv.sl;have HST:=Zh hT.sl;have HFR:Hid (Fresh w.heap.size tv):=Zh (hFr.up H.sz);have HUP:=Zh H.sz;have h1:=(H.blk 0 _ _ rfl).lt;replace H:=St.add (St.owns H hb hOw) hT Stays.ints fun q hq hk=>by
  obtain rfl:=List.mem_singleton.1 hq;obtain⟨tb,tk1,tc,e,-⟩:=hT.has (List.length_pos_iff.2 hk.1);have h2:=hFr _ _ _ _ e;have h5:=hk.2;rw [e] at h5;have h4:tb=g1:=Option.some.inj h5;omega
 replace H:=St.add H hOv Stays.ints fun q hq hk=>by
  obtain rfl:=List.mem_singleton.1 hq;have h2:=hOf _ hk.2;omega
 clear hOw hT hFr hOv hOf hb h1;refine hK _ _ (nm ?_);clear hK K;refine tk (.tuple #[.agg (Jy r hv ov ⟨bj.seg,bj.off,bj.seq,[]⟩ tv).toArray,.nilIface]) ?_;refine tk (.agg (Jy r hv ov ⟨bj.seg,bj.off,bj.seq,[]⟩ tv).toArray) ?_;refine tk (.nilIface) ?_;refine al Yi H ?_ (hns:=stZ_ob.ns);clear H;intro g3 w3 H;refine stO (K9 HWF.out HSH.out HSO.out HST.out) (Ob.len (K9 HWF.out HSH.out HSO.out HST.out) stZ_ob) H 1 ?_;clear H;intro w3 H;refine tk (.nilIface) ?_;go_upto_region 2 with fail;refine J9 (fun wq=>Blk wq g3 (Jy r hv ov ⟨bj.seg,bj.off,bj.seq,[]⟩ tv)) (by kernel_rfl) ?_;replace H:=H.drew;refine th 0 11 (.agg (Jy r hv ov ⟨bj.seg,bj.off,bj.seq,[]⟩ tv).toArray) (H.blk 1 _ _ rfl) ?_ (hy:=fun u hS=>Kj (K9 HWF.out HSH.out HSO.out HST.out) hS _ _ _ rfl rfl);refine th 1 12 (.nilIface) (H.blk 1 _ _ rfl) ?_;refine Zo 2 fun K hK=>?_;go_simp;refine (jw _).mono ?_;rintro e w4 ⟨rfl,rfl⟩;refine hK _ _ (H.blk 1 _ _ rfl) (nm ?_);clear hK K;refine Zo 3 fun K hK=>?_;refine stH (K9 HWF.out HSH.out HSO.out HST.out) (Ob.len (K9 HWF.out HSH.out HSO.out HST.out) stZ_ob) (H.blk 0 _ _ rfl) ?_;intro w5 hD hO;replace H:=St.via H 0 rfl (K9 HWF.out HSH.out HSO.out HST.out).ns hD hO;clear hD hO;refine hK _ _ (H.blk 1 _ _ rfl) (nm ?_);clear hK K;refine th 4 3 (.int .i64 0) (H.blk 1 _ _ rfl) ?_;refine Zd ?_
 go_wp2_with fail
 refine Yf (K9 HWF.out HSH.out HSO.out HST.out) H 0 rfl ⟨?_,H.ex.1.1.1⟩;exact⟨hv,ov,tv,rfl,OwnN.mono H.ex.1.1.2 HUP.out,H.ex.1.2,HFR.out,H.ex.2,HOF.out⟩
theorem qM(w:World)(hv:Vars w)(hd:De.Dv W0 w b F d)(hLn:d.L.length≤1000000)(hf:Rn.Four d x y)(hn:Rn.Xs d.S.length x y=some r)(hwf:r.Wf)(p:Nat)(bj:Ja)(hs:List Int)(hbg:∀w',Below w.heap.size w w'→xL r p b w' bj hs):Calls Tryz.prog 16 #[.pointer (some ⟨b,0,none⟩)] w fun e w'=>(∃hv ov tv,e=.returned (.tuple #[.agg (Jy r hv ov ⟨bj.seg,bj.off,bj.seq,[]⟩ tv).toArray,.int .i64 0])∧OwnN w' w.heap.size hv hs∧IntsAt w' tv bj.free∧Fresh w.heap.size tv∧IntsAt w' ov (zeros p)∧(∀k,ov.ownBlock=some k→w.heap.size≤k))∧Below w.heap.size w w' :=
 Jfn hwf p bj hs _ w hv fun w' hb=>J3e hwf p b bj hs w' (fun w2 hb2=>by
  have k:=Rn.J2n w2 ((hv.below Zy (Jk hb hb2)).1) (hd.below (Jk hb hb2)) hLn hf
  rw [hn] at k
  exact k) (hbg w' hb)
variable {F:Nat→Prop} {W0:World} {X:List (List Int)} {b:Nat} {d:De.D} {l:List Int}
def VR:Rn.Rg:=⟨1,16,8,24,4,0,0,1,zeros 8⟩
theorem Yl:VR.Wf:=⟨⟨by decide,by decide⟩,⟨by decide,by decide⟩,⟨by decide,by decide⟩,⟨by decide,by decide⟩,⟨by decide,by decide⟩,⟨by decide,by decide⟩,⟨by decide,by decide⟩,⟨by decide,by decide⟩,rfl,Rn.none_wf.rs⟩
theorem Jfo:VR.good=true:=by kernel_rfl
theorem Jcc(h:l.all (fun x=>decide (0≤x)&&decide (x<256))=true):∀x∈l,Ks x:=fun x hx=>by
 have:=List.all_eq_true.1 h x hx;simp only [Bool.and_eq_true,decide_eq_true_eq] at this;exact⟨this.1,by omega⟩
theorem J3f:Rn.Sc2 (zeros 128):=⟨J1 _,K8 _⟩
theorem vr2:Rn.Sc2 VR.enc:=⟨rfl,Jcc (by kernel_rfl)⟩
theorem Jic:VR.g.tot≤200:=by decide
def VD:De.D:=(De.Ki 200).put VR
def VX:List (List Int):=((List.replicate 200 (zeros 64)).set 2 VR.s0).set 3 VR.s1
theorem Jid:(De.Ki 200).putE VR=0:=by kernel_rfl
theorem XP:VD.S.length=200:=by kernel_rfl
theorem Jk3:VD.T=3:=by kernel_rfl
theorem Jie:VD.L=[]:=by kernel_rfl
theorem Jjp:VD.F=-1:=by kernel_rfl
theorem Jgj:Sc VR.s0∧Sc VR.s1:=by
 have h:=vr2;exact⟨⟨rfl,fun x hx=>h.bytes x (List.mem_append_left _ hx)⟩,⟨rfl,fun x hx=>h.bytes x (List.mem_append_right _ hx)⟩⟩
theorem vd_img:Img VD VX:=by
 have h0:=J4g 200;have h1:Img ((De.Ki 200).write 2 (u8s VR.s0).toArray) ((List.replicate 200 (zeros 64)).set 2 VR.s0):=h0.write (i:=2) Jgj.1 (by kernel_rfl);have h2:Img (((De.Ki 200).write 2 (u8s VR.s0).toArray).write 3 (u8s VR.s1).toArray) VX:=h1.write (i:=3) Jgj.2 (by kernel_rfl);have e:VD=(((De.Ki 200).write 2 (u8s VR.s0).toArray).write 3 (u8s VR.s1).toArray).flush:=by
  unfold VD De.D.put;have e1:(De.Ki 200).F=-1:=by kernel_rfl
  have e2:((De.Ki 200).write (VR.gen%2*2) (u8s VR.s0).toArray).F=-1:=by kernel_rfl
  rw [if_neg (by rw [e1];decide),if_neg (by rw [e2];decide)];rfl
 rw [e];exact h2.flush
theorem Jfp:Rn.Four VD (zeros 128) VR.enc:=⟨J3f,vr2,by kernel_rfl,by kernel_rfl,by kernel_rfl,by kernel_rfl⟩
theorem Jcd:Rn.Xs 200 (zeros 128) VR.enc=some VR:=by
 have h0:Rn.XE 200 0 (zeros 128)=none:=by kernel_rfl
 have h1:Rn.XE 200 1 VR.enc=some VR:=by
  kernel_rfl
 unfold Rn.Xs;rw [h0,h1];rfl
theorem kE:ji VR=[1,2,3,4,5,6,7]:=by kernel_rfl
def VA:Ja:=⟨0,0,1,[1,2,3,4,5,6,7]⟩
theorem yK:VA.good WG=true:=by decide
def VB:Ja:=⟨0,2,2,[1,2,3,4,5,6,7]⟩
def VL:List It:=[X5 3 7,KW 4 5]
theorem Jce:JH VL=true:=JK.2 ⟨by decide,by decide,fun x hx=>by
 simp only [VL,List.mem_cons,List.not_mem_nil,or_false] at hx
 rcases hx with rfl|rfl
 · exact yd (by decide)
 · exact qq (.inl rfl) (by decide),by decide⟩
theorem Jgk:∀x∈VL,x.Wf:=fun x hx=>by
 simp only [VL,List.mem_cons,List.not_mem_nil,or_false] at hx;rcases hx with rfl|rfl
 · exact Y6 (QO 3 (by decide)) (J4e 7 (by decide))
 · exact XV (QO 4 (by decide)) (QO 5 (by decide))
theorem J3g(n:Int):(Jd n VL).1.length=2:=by rw [Qq];decide
theorem Jjq(n:Int):(Jd n VL).2=[1,-1]:=rfl
theorem Jgl(hS:d.S.length=200)(hF:d.F=-1):(JY WG VA d VL).e=0∧(JY WG VA d VL).pl=[5,0]∧(JY WG VA d VL).a=VB∧(JY WG VA d VL).d.L=[]∧(JY WG VA d VL).d.S.length=200:=by
 have hp:Km VL=1:=by unfold Km;rw [Jce];rfl
 have hl:XL WG VA VL=true:=by unfold XL;rw [Jce,J3g];decide
 have hn:QE WG VA (Jd VA.seq VL).1.length=some VA:=by rw [J3g];rfl
 obtain⟨h1,h2,h3,h4,-,h6,-⟩:=xq (d:=d) yK hl hn (by rw [hS];decide) (.inl (by omega));rw [J3g] at h3;rw [Jjq] at h2;rw [hp] at h3;exact⟨h1,h2,h3,h4,h6.trans hS⟩
def VQ(y:List Int):Prop:=y=zeros 64∨y=VR.s0∨y=VR.s1
theorem Jcf(n:Int):∀y,VQ y→NH n y:=fun y hy=>by
 rcases hy with rfl|rfl|rfl
 · exact J4h n
 · intro h;rw [show KN VR.s0=false by kernel_rfl] at h;cases h
 · intro h;rw [show KN VR.s1=false by kernel_rfl] at h;cases h
theorem v_sn0:Sn VD VX WG VA [] VA VQ:=Sn.new vd_img yK (J27 1 (by decide)) (by rw [XP];decide) fun y hy=>by
 unfold VX at hy;rcases List.mem_or_eq_of_mem_set hy with hy|rfl
 · rcases List.mem_or_eq_of_mem_set hy with hy|rfl
   · exact .inl (List.eq_of_mem_replicate hy)
   · exact .inr (.inl rfl)
 · exact .inr (.inr rfl)
def VH:List Int:=[0,0,0,5,0,1,0,0,0,0,0,0,0,0,0,0]
theorem J3h:Kk (zeros 16) [(VL,[5,0])]=VH:=by kernel_rfl
theorem Jjr:∃X,Sn (JY WG VA VD VL).d X WG VA [(VL,[5,0])] VB VQ∧Rn.Four (JY WG VA VD VL).d (zeros 128) VR.enc∧X.length=200:=by
 obtain⟨p1,p2,p3,p4,p5⟩:=Jgl XP Jjp;obtain⟨X1,h1,-⟩:=v_sn0.put (Jcf _) VL Jgk p1;obtain⟨b1,X2,hp,ha,-,hi,-⟩:=yj yK vd_img (by rw [XP];decide) Jgk p1;obtain rfl:=h1.img.inj hi;rw [p2,p3] at h1;have hl:X1.length=200:=by rw [hp.len];rfl
 have hb:4≤(J6 WG b1).toNat:=by
  obtain⟨f,e,h4,-⟩:=hp.nx.first;rw [e];omega
 have old:∀k:Nat,k<4→X1[k]? = VX[k]? := fun k hk=>hp.old k (.inl (by omega));refine⟨X1,h1,⟨J3f,vr2,?_,?_,?_,?_⟩,hl⟩
 · exact (h1.img.read (i:=0) (y:=zeros 64) (by rw [old 0 (by decide)];rfl)).1
 · exact (h1.img.read (i:=1) (y:=zeros 64) (by rw [old 1 (by decide)];rfl)).1
 · exact (h1.img.read (i:=2) (y:=VR.s0) (by rw [old 2 (by decide)];rfl)).1
 · exact (h1.img.read (i:=3) (y:=VR.s1) (by rw [old 3 (by decide)];rfl)).1
theorem yL(h:Sn d X WG VA [(VL,[5,0])] VB VQ):Jr X WG 3 3 5=some [(5,Za 3 7)]:=by
 obtain⟨p,hp,hs⟩:=((h.rec_.stands _ (List.mem_singleton.2 rfl)).2 0 (X5 3 7) rfl)
 obtain rfl:p=5:=by cases hp;rfl
 have hb:=hs.blk (by kernel_rfl) (by kernel_rfl) (Y6 (QO 3 (by decide)) (J4e 7 (by decide))).b (by decide);have hb:Q6 X WG 3 5=some (Za 3 7):=hb;rw [Q7 (by decide) hb];rfl
theorem Jgm(h:Sn d X WG VA [(VL,[5,0])] VB VQ):JU X WG 0 VH=some [5]:=by
 have z:∀(n:Nat) (k:Int),JU X WG k (zeros n)=some []:=fun n=>by
  induction n with
  | zero=>intro k;rfl
  | succ n ih=>intro k;exact (Ko rfl).trans (ih _)
 unfold VH;rw [Ko rfl,Ko rfl,Ko rfl,Qs (k:=0+1+1+1) (h:=5) (l:=[(5,Za 3 7)]) (by decide) (yL h),Ko rfl,Qs (by decide) (KG _ _ _ _)];rw [show JU X WG (0+1+1+1+1+1+1) [0,0,0,0,0,0,0,0,0,0]=some [] from z 10 _];rfl
theorem Jcg(h:Sn d X WG VA [(VL,[5,0])] VB VQ):QD X WG VH (zeros 8) VB.seg VB.off WG.cap=some [5]:=by
 have e:Ye X WG VH (zeros 8)=some [5]:=by
  unfold Ye;rw [Jgm h];rfl
 unfold QD;rw [if_neg (by decide),e];exact if_pos ⟨by decide,fun p hp=>by obtain rfl:=List.mem_singleton.1 hp;decide⟩
theorem yM:fits WG VA 200=true:=by decide
theorem Jif:Fits [(VL,[5,0])] 16:=fun q hq=>by
 obtain rfl:=List.mem_singleton.1 hq;refine⟨rfl,fun x hx=>?_⟩;simp only [VL,List.mem_cons,List.not_mem_nil,or_false] at hx;rcases hx with rfl|rfl
 · exact⟨.inr (.inr rfl),3,rfl,by decide⟩
 · exact⟨.inl rfl,5,rfl,by decide⟩
theorem J4x:∀x∈VH,Jh x:=fun x hx=>by
 have h:VH.all (fun x=>decide (0≤x)&&decide (x<256))=true:=by kernel_rfl
 exact Q3 (Jcc h x hx)
theorem J0q:WG.Ok:=by decide
theorem Jig(w:World)(hvr:Vars W0)(hd:De.Dv W0 w b F VD):xL VR 16 b w VA (zeros 16):=by
 obtain⟨k1,k2⟩:=v_sn0.read (Jcf _);have hl:VX.length=200:=vd_img.len.symm.trans XP;have k:=qL Yl J0q rfl 16 rfl b w hvr hd (by rw [Jie];decide) vd_img (by rw [hl];decide) (by rw [hl];decide) (by rw [XP,kE];exact yM) (J27 1 (by decide)) [] VA (by rw [kE];exact k1) k2 (fun q hq=>by cases hq) (by decide) (fun q hq=>by cases hq) (fun x hx=>by rw [List.eq_of_mem_replicate hx];exact K7) [] (kc 16 VA.seg VA.off J0q);exact k
theorem Jih(w:World)(hvr:Vars W0)(hs:Sn d X WG VA [(VL,[5,0])] VB VQ)(hX:X.length=200)(hL:d.L=[])(hd:De.Dv W0 w b F d):xL VR 16 b w VB VH:=by
 obtain⟨k1,k2⟩:=hs.read (Jcf _);have hl:d.S.length=200:=hs.img.len.trans hX;have k:=qL Yl J0q rfl 16 rfl b w hvr hd (by rw [hL];decide) hs.img (by rw [hX];decide) (by rw [hX];decide) (by rw [hl,kE];exact yM) (J27 1 (by decide)) [(VL,[5,0])] VB (by rw [kE];exact k1) k2 Jif (by decide) (fun q hq=>by obtain rfl:=List.mem_singleton.1 hq;decide) (by rw [J3h];exact J4x) [5] (by rw [J3h];exact Jcg hs);rw [J3h] at k;exact k
theorem J7n{r:Rn.Rg}(hwf:r.Wf){hv ov fv:Value}(a:Ja)(l:List Int)(dq:Option Addr)(w:World)(h1:IsSl hv)(h2:IsSl ov)(h3:IsSl fv)(hvr:Vars w)(hc:∀w',Below w.heap.size w w'→Calls Tryz.prog 51 #[.pointer dq,.agg (Jy r hv ov a fv).toArray] w' fun e w2=>J7e w'.heap.size (some l) e w2∧Below w'.heap.size w' w2):Calls Tryz.prog 29 #[.pointer dq,.agg (Jy r hv ov a fv).toArray] w fun e w'=>(∃sv,e=.returned (.tuple #[sv,.int .i64 0])∧OwnN w' w.heap.size sv l)∧Below w.heap.size w w':=by
 have H:=Rn.St.start (Stays.below w) Zq;have HV:=Zh hvr;have HC:=Zh hc;have HWF:=Zh hwf;have HSH:=Zh h1;have HSO:=Zh h2;have HSF:=Zh h3;clear hvr hc hwf h1 h2 h3;go_enter Tryz.func29,Tryz.ntmps29;go_upto_region 0 with fail;refine Zl ?_;refine bx H ?_ (hns:=(K9 HWF.out HSH.out HSO.out HSF.out).ns);clear H;intro g1 w1 H;refine tk (.slice none 0 0) ?_;refine tk (.int .i64 0) ?_;go_upto_region 1 with fail;refine Zl ?_;refine tk (.pointer dq) ?_;refine ldO (K9 HWF.out HSH.out HSO.out HSF.out) H 0 ?_;refine J0 rfl fun K hK=>?_;go_simp;refine (HC.out _ H.ex).mono ?_;rintro e w2 ⟨⟨sv,rfl,ho⟩,hb⟩;have HUP:=Zh H.sz;replace H:=St.owns H hb ho;clear ho hb;refine hK _ _ (nm ?_);clear hK K;refine tk (.tuple #[sv,.nilIface]) ?_;refine tk (sv) ?_;refine tk (.nilIface) ?_;refine tk (sv) ?_;refine tk (.nilIface) ?_;go_upto_region 2 with fail;refine Zl ?_;refine tk (sv) ?_;refine tk (.nilIface) ?_;refine J0 rfl fun K hK=>?_;go_simp;refine (jw _).mono ?_;rintro e w3 ⟨rfl,rfl⟩;refine hK _ _ (nm ?_);clear hK K;refine tk (sv) ?_;refine tk (.int .i64 0) ?_;go_wp2_with fail
 go_ret2;exact⟨⟨sv,rfl,OwnN.mono H.ex.2 HUP.out⟩,H.ex.1⟩
variable {F:Nat→Prop} {W0:World} {X:List (List Int)} {b:Nat} {d:De.D} {hv ov tv:Value}
def Jch(p:Nat)(r:Rn.Rg)(bj:Ja)(hs:List Int)(w w':World)(e:Ending):Prop:=(∃hv ov tv,e=.returned (.tuple #[.agg (Jy r hv ov ⟨bj.seg,bj.off,bj.seq,[]⟩ tv).toArray,.int .i64 0])∧OwnN w' w.heap.size hv hs∧IntsAt w' tv bj.free∧Fresh w.heap.size tv∧IntsAt w' ov (zeros p)∧(∀k,ov.ownBlock=some k→w.heap.size≤k))∧Below w.heap.size w w'
theorem Jii(w:World)(hv:Vars w)(hv0:Vars W0)(hd:De.Dv W0 w b F VD):Calls Tryz.prog 16 #[.pointer (some ⟨b,0,none⟩)] w fun e w'=>Jch 16 VR VA (zeros 16) w w' e :=
 qM w hv hd (by rw [Jie];decide) Jfp (by rw [XP];exact Jcd) Yl 16 VA (zeros 16) fun w' hb=>Jig w' hv0 (hd.below hb)
structure Wk1 (d:De.D) (X:List (List Int)):Prop where
 sn:Sn d X WG VA [(VL,[5,0])] VB VQ
 four:Rn.Four d (zeros 128) VR.enc
 len:X.length=200
 l:d.L=[]
theorem wk1:∃X,Wk1 (JY WG VA VD VL).d X:=by
 obtain⟨X,h1,h2,h3⟩:=Jjr;exact⟨X,h1,h2,h3,(Jgl XP Jjp).2.2.2.1⟩
theorem Jij(h:Wk1 d X)(w:World)(hv:Vars w)(hv0:Vars W0)(hd:De.Dv W0 w b F d):Calls Tryz.prog 16 #[.pointer (some ⟨b,0,none⟩)] w fun e w'=>Jch 16 VR VB VH w w' e:=by
 have hl:d.S.length=200:=h.sn.img.len.trans h.len;exact qM w hv hd (by rw [h.l];decide) h.four (by rw [hl];exact Jcd) Yl 16 VB VH fun w' hb=>Jih w' hv0 h.sn h.len h.l (hd.below hb)
theorem Jci(h:Wk1 d X)(w:World)(hv:Vars w)(hd:De.Dv W0 w b F d):Calls Tryz.prog 13 #[.pointer (some ⟨b,0,none⟩),WG.v,.int .i64 3,.int .i64 5] w fun e w'=>(∃sv,e=.returned (.tuple #[.agg (chC sv (rp 32 7)).toArray,.int .i64 0])∧OwnN w' w.heap.size sv [5])∧Below w.heap.size w w':=by
 have k:=xI WG 3 5 (QO 5 (by decide)) w hv hd (by rw [h.l];decide) h.sn.img;rw [yL h.sn,h.len] at k;refine k.mono fun e w' hk=>⟨?_,hk.2⟩
 have h1:=hk.1;have e1:chE X ((200:Nat):Int) WG 3 5=0:=by
  unfold chE;rw [if_neg (not_not_intro ⟨J0q,⟨by decide,by decide⟩,by decide⟩),if_neg (by decide),yL h.sn];rfl
 rw [e1] at h1;exact h1
theorem Jfq(h:Wk1 d X)(w:World)(hi:IntsAt w hv VH)(h2:IsSl ov)(h3:IsSl tv)(hvr:Vars w)(hd:De.Dv W0 w b F d):Calls Tryz.prog 29 #[.pointer (some ⟨b,0,none⟩),.agg (Jy VR hv ov ⟨VB.seg,VB.off,VB.seq,[]⟩ tv).toArray] w fun e w'=>(∃sv,e=.returned (.tuple #[sv,.int .i64 0])∧OwnN w' w.heap.size sv [5])∧Below w.heap.size w w':=by
 refine J7n Yl ⟨VB.seg,VB.off,VB.seq,[]⟩ [5] _ w hi.sl h2 h3 hvr fun w' hb=>?_;have k:=jh Yl J0q ⟨VB.seg,VB.off,VB.seq,[]⟩ VH rfl J4x w' (hi.below hb) h2 h3 (hvr.below Zy hb) (hd.below hb) (by rw [h.l];decide) h.sn.img (by rw [h.len];decide);have e:Ye X VR.g VH VR.rs=some [5]:=by
  unfold Ye;rw [show VR.g=WG from rfl,Jgm h.sn];rfl
 rw [e] at k;exact k
variable {A B F S:Nat→Prop} {E E2:World→Prop} {N b:Nat} {V:List (Nat×List Value)} {l:List Int} {sv:Value} {u w w':World}
theorem J3i(r:Rn.Rg)(hv ov:Value)(a:Ja)(fv:Value):Jy r hv ov a fv=(r.cells++[hv,ov])++(atC a fv++[]):=by simp [Jy,atC]
theorem St.put2(h:Rn.St N A E V w)(hO:Only S w w')(hS:∀(i g:Nat) (L:List Value),V[i]? = some (g,L)→¬S g)(hE:E2 w')(hs:Rn.Stays N B E2)(hB:∀(i g:Nat) (L:List Value),V[i]? = some (g,L)→¬B g):Rn.St N B E2 V w' :=
 ⟨Nat.le_trans h.sz hO.size,fun i g L hi=>(h.blk i g L hi).only hO (hS i g L hi),h.ge,h.nd,hE,hs,hB,h.ns⟩
theorem Jik(hv:Vars w)(hu:Vars u)(hd:De.Dv w u b F (De.Ki 200)):Calls Tryz.prog 19 #[.pointer (some ⟨b,0,none⟩),.agg VR.cells.toArray] u fun e w2=>∃F',e=.returned (.int .i64 0)∧De.Dv w w2 b F' VD∧Only F u w2∧∀k,F' k→F k∨u.heap.size≤k:=by
 have k:=Rn.write_yes VR Yl Jfo u hd hu.1 hv.1.lt (by rw [zN];exact Jic) (by decide) (by decide);rw [Jid] at k;exact k
theorem Jfr:Tryz.prog.built 56 [(0,.int .u32 1),(1,.agg #[.int .i64 16,.int .i64 8,.int .i64 24,.int .i64 4]),(4,.int .u32 1)]=some VR.cells.toArray:=by kernel_rfl
theorem St.old(h:Rn.St N A E V w):∀(i g:Nat) (L:List Value),V[i]? = some (g,L)→g<w.heap.size:=fun i g L hi=>(h.blk i g L hi).lt
theorem Yj:(rp 32 7).length=32:=by decide
theorem Jk4(u:World):(binOp .eql 43 (.agg (u8s (rp 32 7)).toArray) (.agg (u8s (rp 32 7)).toArray)).run Tryz.prog u=.ok (.bool true) u:=by
 rw [J7z u (rp 32 7) (rp 32 7) Yj Yj,decide_eq_true rfl]
theorem Jk5(u:World)(a b:Array Value):(eqGuard .eql 43 (.tmp 143) (.tmp 144) (.agg a) (.agg b)).run Tryz.prog u=.ok () u:=by
 unfold eqGuard;simp [go_sem]
theorem Jcj(u:World)(ev:Operand→Value)(o:Oper)(h1:ev (.tmp 143)=.agg (u8s (rp 32 7)).toArray)(h2:ev (.tmp 144)=.agg (u8s (rp 32 7)).toArray)(ho:o.op=.binOp .eql 43 (.tmp 143) (.tmp 144) 43):(execOp ev o).run Tryz.prog u=.ok (.value (.bool true)) u:=by
 have hq:=Jk4 u;unfold execOp;simp only [ho,Sem.run_bind,h1,h2,Jk5,hq,Result.andThen_ok,Sem.run_pure]
theorem Jfs:Tryz.prog.built 79 [(0,.int .i64 4),(1,.int .i64 5)]=some #[.int .i64 4,.int .i64 5]:=by kernel_rfl
theorem Jft:Tryz.prog.built 84 [(0,.agg #[.int .i64 4,.int .i64 5])]=some ((KW 4 5).arr nb):=by kernel_rfl
theorem OwnN.onlyS{B:Nat}(h:OwnN w B sv l)(ho:Only S w w')(hS:∀k,sv.ownBlock=some k→¬S k):OwnN w' B sv l:=by
 refine⟨h.1,?_⟩;rcases h.2 with hn|⟨g,cap,cur,e,hB,hg,r⟩
 · exact .inl hn
 · exact .inr ⟨g,cap,cur,e,hB,(ho.block g (Array.getElem?_eq_some_iff.1 hg).1 (hS g (by rw [e];rfl))).trans hg,r⟩
theorem J7o(w:World)(hv:Vars w):Calls Tryz.prog 8 #[] w (Zr w (.bool true)):=by
 have H:=Rn.St.start (Stays.below w) Zq;have HV:=Zh hv;clear hv;go_enter Tryz.func8,Tryz.ntmps8;go_upto_region 0 with fail;refine Zl ?_;refine tk (.bool false) ?_;go_upto_region 1 with fail;refine Zl ?_;refine J0 rfl fun K hK=>?_;go_simp;refine (Pl.J56 _).mono ?_;rintro e w1 ⟨rfl,hb⟩;replace H:=H.call hb;clear hb;refine hK _ _ (nm ?_);clear hK K;refine al Jau H ?_ (hns:=(Je ⟨0,0,0,0⟩).ns);clear H;intro g2 w2 H;refine stO (Je WG) (Ob.len (Je WG) (Je ⟨0,0,0,0⟩)) H 0 ?_;clear H;intro w2 H;go_upto_region 2 with fail;refine Zl ?_;refine J0 rfl fun K hK=>?_;go_simp;refine (De.Ja3 w _ H.ex 200 (by decide)).mono ?_;rintro e w3 ⟨b,F,rfl,hd,hb,hF⟩;replace H:=Rn.St.after H (Only.of_below hb) (fun k hk=>.inr (hF k hk)) hd (Stays.dv Zy);clear hb hd hF;refine hK _ _ (nm ?_);clear hK K;refine tk (.tuple #[.pointer (some ⟨b,0,none⟩),.int .i64 0]) ?_;refine tk (.pointer (some ⟨b,0,none⟩)) ?_;refine tk (.int .i64 0) ?_;refine tk (.pointer (some ⟨b,0,none⟩)) ?_;refine tk (.int .i64 0) ?_;go_upto_region 3 with fail;refine Zl ?_;refine tk (.int .i64 0) ?_;refine tk (.bool false) ?_;refine tk (.bool false) ?_;refine tk (.pointer (some ⟨b,0,none⟩)) ?_;refine ldO (Je WG) H 0 ?_;refine tk (.agg VR.cells.toArray) ?_ (hr:=by exact J8 _ _ _ _ 56 _ rfl #[(0,.int .u32 1),(1,.agg #[.int .i64 16,.int .i64 8,.int .i64 24,.int .i64 4]),(4,.int .u32 1)] (by simp [go_sem];exact⟨rfl,rfl,rfl,rfl⟩) _ (run_build _ 56 _ _ Jfr));refine J0 rfl fun K hK=>?_;go_simp;refine (Jik HV.out (HV.below Zy H.ex.2) H.ex).mono ?_;rintro e w4 ⟨F1,rfl,hd,hO,hf⟩;replace H:=Rn.St.after H hO hf hd (Stays.dv Zy);clear hO hd hf;refine hK _ _ (nm ?_);clear hK K;refine tk (.bool false) ?_;refine tk (.bool false) ?_;go_upto_region 5 with fail;refine Zl ?_;refine tk (.pointer (some ⟨b,0,none⟩)) ?_;refine J0 rfl fun K hK=>?_;go_simp;refine (Jii _ (HV.below Zy H.ex.2) HV.out H.ex).mono ?_;rintro e w5 ⟨⟨hv,ov,tv,rfl,hOw,hT,hFr,hOv,-⟩,hb⟩;obtain⟨ha,hc,e1,-⟩:=World.ownsRow.form hOw (by decide);obtain rfl:hv=.slice (some ⟨ha,0,none⟩) 16 hc:=e1;obtain⟨ta,tc,rfl⟩:∃a c,tv=.slice a 7 c:=hT.form;have HSO:=Zh hOv.sl;have hold:=St.old H;have hsz:=H.sz;have hdv:=H.ex;have HNF:Hid (∀k,(Value.slice (some ⟨ha,0,none⟩) 16 hc).ownBlock=some k→¬F1 k):=Zh fun k hk hf=>by have h1:=(hOw.lt k hk).1;have h2:=(hdv.lt k hf).2;omega
 replace H:=St.add (St.add (H.call hb) (hOw.mono H.sz) Stays.own fun q hq hk=>by
  obtain⟨j,hj⟩:=List.getElem?_of_mem hq
  have h1:=hold j q.1 q.2 hj
  have h2:=(hOw.lt q.1 hk).1
  omega) hT Stays.ints fun q hq hk=>by
  obtain⟨j,hj⟩:=List.getElem?_of_mem hq;have h1:=hold j q.1 q.2 hj;obtain⟨tb,tk1,tc,e,-⟩:=hT.has (List.length_pos_iff.2 hk.1);have h2:=hFr _ _ _ _ e;have h5:=hk.2;rw [e] at h5;have h4:tb=q.1:=Option.some.inj h5;omega
 clear hOw hT hFr hOv hb hold hdv hsz;refine hK _ _ (nm ?_);clear hK K;refine tk (.tuple #[.agg (Jy VR (.slice (some ⟨ha,0,none⟩) 16 hc) ov ⟨VA.seg,VA.off,VA.seq,[]⟩ (.slice ta 7 tc)).toArray,.int .i64 0]) ?_;refine tk (.agg (Jy VR (.slice (some ⟨ha,0,none⟩) 16 hc) ov ⟨VA.seg,VA.off,VA.seq,[]⟩ (.slice ta 7 tc)).toArray) ?_;refine tk (.int .i64 0) ?_;refine al Yi H ?_ (hns:=stZ_ob.ns);clear H;intro g6 w6 H;refine stO (K9 Yl (Jz (some ⟨ha,0,none⟩) 16 hc) HSO.out (Jz ta 7 tc)) (Ob.len (K9 Yl (Jz (some ⟨ha,0,none⟩) 16 hc) HSO.out (Jz ta 7 tc)) stZ_ob) H 1 ?_;clear H;intro w6 H;refine tk (.int .i64 0) ?_;go_upto_region 6 with fail;refine Zl ?_;refine tk (.pointer (some ⟨b,0,none⟩)) ?_;refine ldO (Je WG) H 0 ?_;refine tk (.pointer (some ⟨g6,18,none⟩)) ?_;refine ldP (Xu ⟨VA.seg,VA.off,VA.seq,[]⟩ (Jz ta 7 tc)) H 1 (J3i _ _ _ _ _) ?_;refine J0 rfl fun K hK=>?_;go_simp;refine (J48 (W:=w) b F1 VD (by rw [XP];decide) WG VA (.slice ta 7 tc) (by decide) (by rw [XP];exact yM) (J27 1 (by decide)) _ H.ex.2 H.ex.1.1).mono ?_;rintro e w7 ⟨jb,tv2,rfl,hj,hjb,hb⟩;have HJ:=Zh hj;have HOJ:Hid (∀k,(Value.slice (some ⟨ha,0,none⟩) 16 hc).ownBlock=some k→k≠jb):=Zh fun k hk e=>by have h1:=(H.ex.1.2.lt k hk).2;omega
 have hold:=St.old H;have HVJ:Hid (∀(i g:Nat) (L:List Value),[(g2,[.int .i64 WG.p,.int .i64 WG.s,.int .i64 WG.l,.int .i64 WG.f]),(g6,Jy VR (.slice (some ⟨ha,0,none⟩) 16 hc) ov ⟨VA.seg,VA.off,VA.seq,[]⟩ (.slice ta 7 tc))][i]? = some (g,L)→g≠jb):=Zh fun i g L hi e=>by have h1:=hold i g L hi;omega
 replace H:=H.call hb;clear hj hjb hb hold;refine hK _ _ (nm ?_);clear hK K;refine tk (.tuple #[.pointer (some ⟨jb,0,none⟩),.int .i64 0]) ?_;refine tk (.pointer (some ⟨jb,0,none⟩)) ?_;refine tk (.int .i64 0) ?_;refine tk (.pointer (some ⟨jb,0,none⟩)) ?_;refine tk (.int .i64 0) ?_;go_upto_region 9 with fail;refine Zl ?_;refine tk (.pointer (some ⟨jb,0,none⟩)) ?_;refine J0 rfl fun K hK=>?_;go_simp;refine (xc 3 7 (QO 3 (by decide)) (J4e 7 (by decide)) _).mono ?_;rintro e w8 ⟨rfl,hb⟩;replace H:=H.call hb;have HJ2:=Zh (HJ.below hb);clear HJ hb;have HJ:=HJ2;clear HJ2;refine hK _ _ (nm ?_);clear hK K;refine tk (.agg #[.int .i64 4,.int .i64 5]) ?_ (hr:=by exact J8 _ _ _ _ 79 _ rfl #[(0,.int .i64 4),(1,.int .i64 5)] (by simp [go_sem]) _ (run_build _ 79 _ _ Jfs));refine tk (.agg ((KW 4 5).arr nb)) ?_ (hr:=by exact J8 _ _ _ _ 84 _ rfl #[(0,.agg #[.int .i64 4,.int .i64 5])] (by simp [go_sem]) _ (run_build _ 84 _ _ Jft));have hw1:=Y6 (QO 3 (by decide)) (J4e 7 (by decide));have hw2:=XV (QO 4 (by decide)) (QO 5 (by decide));refine Jo _ _ rfl (JS _ _ _ _ 74 2 _ rfl #[(0,.agg ((X5 3 7).arr nb)),(1,.agg ((KW 4 5).arr nb))] (by simp only [List.map_toArray,List.map_cons,List.map_nil];rfl) _ (Jad w8 hw1 hw2)) ?_;refine nm ?_;have hit:=J4f w8 (l:=[(X5 3 7,nb),(KW 4 5,nb)]) (fun x hx=>by simp only [List.mem_cons,List.not_mem_nil,or_false] at hx;rcases hx with rfl|rfl;exact⟨hw1,rfl,rfl⟩;exact⟨hw2,rfl,rfl⟩) 2 rfl (by decide) (F:=F1) (fun k hk=>(HJ.dv.lt k hk).2);have HIT:=Zh hit;have hal:=jp w8 (.cells (Jg [(X5 3 7,nb),(KW 4 5,nb)]).toArray 84);replace H:=H.call hal;have HJ2:=Zh (HJ.below hal);clear hit hw1 hw2 HJ hal;have HJ:=HJ2;clear HJ2;generalize w8.alloc (.cells (Jg [(X5 3 7,nb),(KW 4 5,nb)]).toArray 84)=w9 at *;generalize w8.heap.size=gi at *;refine J0 rfl fun K hK=>?_;go_simp;refine (J4d HJ.out HV.out [(X5 3 7,nb),(KW 4 5,nb)] VL rfl _ (by decide) HIT.out.1 HIT.out.2 (by rw [XP];decide) (by rw [Jk3];decide) (by rw [Jie];decide)).mono ?_;rintro e w10 ⟨pv,rfl,F2,fv1,ho,hj,hon,hn,hpa,-⟩;have hold:=St.old H;have hav:=H.av;replace H:=St.put2 (B:=fun k=>F2 k∨(Value.slice (some ⟨ha,0,none⟩) 16 hc).ownBlock=some k) (E2:=fun u=>De.Dv w u b F2 (JY WG VA VD VL).d∧OwnN u w.heap.size (.slice (some ⟨ha,0,none⟩) 16 hc) (zeros 16)) H hon (fun i g L hi hk=>hk.elim (fun hf=>hav i g L hi (.inl (.inl hf))) fun e=>HVJ.out i g L hi e) ⟨hj.dv,OwnN.onlyS H.ex.1.2 hon fun k hk hS=>hS.elim (HNF.out k hk) (HOJ.out k hk)⟩ ((Stays.dv Zy).both Stays.own) (fun i g L hi hk=>hk.elim (fun hf=>(hn g hf).elim (fun h1=>hav i g L hi (.inl (.inl h1))) fun h1=>by have h2:=hold i g L hi;omega) fun h1=>hav i g L hi (.inl (.inr h1)));clear ho hj hon hn hpa hold hav HJ HIT HNF HOJ HVJ;obtain⟨X,hk1⟩:=wk1;have HK1:=Zh hk1;clear hk1;generalize (JY WG VA VD VL).d=d1 at *;refine hK _ _ (nm ?_);clear hK K;go_upto_region 10 with fail;refine Zl ?_;refine tk (.pointer (some ⟨b,0,none⟩)) ?_;refine J0 rfl fun K hK=>?_;go_simp;refine (Jij HK1.out _ (HV.below Zy H.ex.1.2) HV.out H.ex.1).mono ?_;rintro e w11 ⟨⟨hv,ov2,tv,rfl,hOw,hT,hFr,hOv,hOf⟩,hb⟩;obtain⟨ga,gc,e1,-⟩:=World.ownsRow.form hOw (by decide);obtain rfl:hv=.slice (some ⟨ga,0,none⟩) 16 gc:=e1;obtain⟨oa,oo,oc,e1,-⟩:=hOv.has (by decide);obtain rfl:ov2=.slice (some ⟨oa,oo,none⟩) 16 oc:=e1;obtain⟨ta2,tc2,rfl⟩:∃a c,tv=.slice a 7 c:=hT.form;have hold:=St.old H;have hsz:=H.sz;replace H:=St.add (St.add (H.call hb) (hOw.mono H.sz) Stays.own fun q hq hk=>by
  obtain⟨j,hj⟩:=List.getElem?_of_mem hq
  have h1:=hold j q.1 q.2 hj
  have h2:=(hOw.lt q.1 hk).1
  omega) hOv Stays.ints fun q hq hk=>by
  obtain⟨j,hj⟩:=List.getElem?_of_mem hq;have h1:=hold j q.1 q.2 hj;have h2:=hOf q.1 hk.2;omega
 clear hOw hT hFr hOv hOf hb hold hsz;refine hK _ _ (nm ?_);clear hK K;refine tk (.tuple #[.agg (Jy VR (.slice (some ⟨ga,0,none⟩) 16 gc) (.slice (some ⟨oa,oo,none⟩) 16 oc) ⟨VB.seg,VB.off,VB.seq,[]⟩ (.slice ta2 7 tc2)).toArray,.int .i64 0]) ?_;refine tk (.agg (Jy VR (.slice (some ⟨ga,0,none⟩) 16 gc) (.slice (some ⟨oa,oo,none⟩) 16 oc) ⟨VB.seg,VB.off,VB.seq,[]⟩ (.slice ta2 7 tc2)).toArray) ?_;refine tk (.int .i64 0) ?_;refine al Yi H ?_ (hns:=stZ_ob.ns);clear H;intro g12 w12 H;refine stO (K9 Yl (Jz (some ⟨ga,0,none⟩) 16 gc) (Jz (some ⟨oa,oo,none⟩) 16 oc) (Jz ta2 7 tc2)) (Ob.len (K9 Yl (Jz (some ⟨ga,0,none⟩) 16 gc) (Jz (some ⟨oa,oo,none⟩) 16 oc) (Jz ta2 7 tc2)) stZ_ob) H 2 ?_;clear H;intro w12 H;refine tk (.int .i64 0) ?_;refine Zn ?_;have c0:=(H.blk 2 _ _ rfl).cell (i:=16) (v:=.slice (some ⟨ga,0,none⟩) 16 gc) rfl;have c1:=(H.blk 1 _ _ rfl).cell (i:=16) (v:=.slice (some ⟨ha,0,none⟩) 16 hc) rfl;have c2:=(H.blk 2 _ _ rfl).cell (i:=17) (v:=.slice (some ⟨oa,oo,none⟩) 16 oc) rfl;go_upto_region 13 with fail;clear c0 c1 c2
 go_cut [10,11] from 10 to 91 (fun s10 s11 wx=>∃g10 sv,s10=.pointer (some ⟨g10,0,none⟩)∧s11=.int .i64 0∧IsSl sv∧Rn.St w.heap.size (fun k=>((F2 k∨(Value.slice (some ⟨ha,0,none⟩) 16 hc).ownBlock=some k)∨(Value.slice (some ⟨ga,0,none⟩) 16 gc).ownBlock=some k)∨(zeros 16≠[]∧(Value.slice (some ⟨oa,oo,none⟩) 16 oc).ownBlock=some k)) (fun u=>((De.Dv w u b F2 d1∧OwnN u w.heap.size (.slice (some ⟨ha,0,none⟩) 16 hc) (zeros 16))∧OwnN u w.heap.size (.slice (some ⟨ga,0,none⟩) 16 gc) VH)∧IntsAt u (.slice (some ⟨oa,oo,none⟩) 16 oc) (zeros 16)) [(g2,[.int .i64 WG.p,.int .i64 WG.s,.int .i64 WG.l,.int .i64 WG.f]),(g6,Jy VR (.slice (some ⟨ha,0,none⟩) 16 hc) ov ⟨VA.seg,VA.off,VA.seq,[]⟩ (.slice ta 7 tc)),(g12,Jy VR (.slice (some ⟨ga,0,none⟩) 16 gc) (.slice (some ⟨oa,oo,none⟩) 16 oc) ⟨VB.seg,VB.off,VB.seq,[]⟩ (.slice ta2 7 tc2)),(g10,chC sv (rp 32 7))] wx)
 case first =>
  refine J9 (fun wq=>Rn.St w.heap.size (fun k=>((F2 k∨(Value.slice (some ⟨ha,0,none⟩) 16 hc).ownBlock=some k)∨(Value.slice (some ⟨ga,0,none⟩) 16 gc).ownBlock=some k)∨(zeros 16≠[]∧(Value.slice (some ⟨oa,oo,none⟩) 16 oc).ownBlock=some k)) (fun u=>((De.Dv w u b F2 d1∧OwnN u w.heap.size (.slice (some ⟨ha,0,none⟩) 16 hc) (zeros 16))∧OwnN u w.heap.size (.slice (some ⟨ga,0,none⟩) 16 gc) VH)∧IntsAt u (.slice (some ⟨oa,oo,none⟩) 16 oc) (zeros 16)) [(g2,[.int .i64 WG.p,.int .i64 WG.s,.int .i64 WG.l,.int .i64 WG.f]),(g6,Jy VR (.slice (some ⟨ha,0,none⟩) 16 hc) ov ⟨VA.seg,VA.off,VA.seq,[]⟩ (.slice ta 7 tc)),(g12,Jy VR (.slice (some ⟨ga,0,none⟩) 16 gc) (.slice (some ⟨oa,oo,none⟩) 16 oc) ⟨VB.seg,VB.off,VB.seq,[]⟩ (.slice ta2 7 tc2))] wq) (by kernel_rfl) ?_;replace H:=H.drew;generalize w12.drew=w0 at *;refine th 0 83 (.pointer (some ⟨b,0,none⟩)) H ?_;refine th 1 84 (.agg ([.int .i64 WG.p,.int .i64 WG.s,.int .i64 WG.l,.int .i64 WG.f]).toArray) H ?_ (hy:=fun u hS=>Kj (Je WG) (hS.blk 0 _ _ rfl) _ _ _ rfl rfl);refine th 2 85 (.pointer (some ⟨g12,16,none⟩)) H ?_;refine th 3 86 (.slice (some ⟨ga,0,none⟩) 16 gc) H ?_ (hy:=fun u hS=>by have hq:=(hS.blk 2 _ _ rfl).cell (i:=16) (v:=.slice (some ⟨ga,0,none⟩) 16 gc) rfl;go_simp);refine th 4 87 (.pointer (some ⟨ga,3,none⟩)) H ?_;refine th 5 88 (.int .i64 5) H ?_ (hy:=fun u hS=>by have hq:=IntsAt.atc (OwnN.ints hS.ex.1.2) (i:=3) (x:=5) rfl;go_simp);refine kO 6 10 (by kernel_rfl) rfl rfl rfl rfl (fun K hK=>?_) (fun K hK=>?_)
  · go_simp;refine (Jci HK1.out _ (HV.below Zy H.ex.1.1.1.2) H.ex.1.1.1).mono ?_;rintro e wd ⟨⟨sv,rfl,ho⟩,hb⟩;have HSL:=Zh ho.sl;replace H:=H.call hb;clear ho hb;refine hK _ _ H (nm ?_);clear hK K;refine th 7 82 (.tuple #[.agg (chC sv (rp 32 7)).toArray,.int .i64 0]) H ?_;refine th 8 90 (.agg (chC sv (rp 32 7)).toArray) H ?_;refine th 9 91 (.int .i64 0) H ?_;refine Zo 10 fun K hK=>?_;refine Jf (some 10) rfl _ _ (JB _ _ _ 45 rfl _ KA) ?_;have hA:Blk (wd.alloc (.cells chZ.toArray 45)) wd.heap.size chZ:=Blk.new wd chZ.toArray 45;replace H:=H.new chz_ob.ns hA (Zq.alloc Zy _);clear hA;refine hK _ _ (H.cut 3) (nm ?_);clear hK K;generalize wd.alloc (.cells chZ.toArray 45)=we at *;generalize wd.heap.size=g10 at *;refine Zo 11 fun K hK=>?_;refine stH (KE HSL.out Yj) (Ob.len (KE HSL.out Yj) chz_ob) (H.blk 3 _ _ rfl) ?_;intro wf hD hO;replace H:=St.via H 3 rfl (KE HSL.out Yj).ns hD hO;refine hK _ _ (H.cut 3) (nm ?_);clear hK K;refine th 12 11 (.int .i64 0) (H.cut 3) ?_;refine Zd ?_
    go_wp2_with fail
    go_meet
    exact⟨_,sv,rfl,rfl,HSL.out,H⟩
  · refine Jf (some 10) rfl _ _ (JB _ _ _ 45 rfl _ KA) ?_;have hA:Blk (w0.alloc (.cells chZ.toArray 45)) w0.heap.size chZ:=Blk.new w0 chZ.toArray 45;replace H:=H.new chz_ob.ns hA (Zq.alloc Zy _);clear hA;refine hK _ _ (H.cut 3) (nm ?_);clear hK K;generalize w0.alloc (.cells chZ.toArray 45)=we at *;generalize w0.heap.size=g10 at *;refine Zo 6 fun K hK=>?_;go_simp;refine (Jci HK1.out _ (HV.below Zy H.ex.1.1.1.2) H.ex.1.1.1).mono ?_;rintro e wd ⟨⟨sv,rfl,ho⟩,hb⟩;have HSL:=Zh ho.sl;replace H:=H.call hb;clear ho hb;refine hK _ _ (H.cut 3) (nm ?_);clear hK K;refine th 7 82 (.tuple #[.agg (chC sv (rp 32 7)).toArray,.int .i64 0]) (H.cut 3) ?_;refine th 8 90 (.agg (chC sv (rp 32 7)).toArray) (H.cut 3) ?_;refine th 9 91 (.int .i64 0) (H.cut 3) ?_;refine Zo 11 fun K hK=>?_;refine stH (KE HSL.out Yj) (Ob.len (KE HSL.out Yj) chz_ob) (H.blk 3 _ _ rfl) ?_;intro wf hD hO;replace H:=St.via H 3 rfl (KE HSL.out Yj).ns hD hO;refine hK _ _ (H.cut 3) (nm ?_);clear hK K;refine th 12 11 (.int .i64 0) (H.cut 3) ?_;refine Zd ?_
    go_wp2_with fail
    go_meet
    exact⟨_,sv,rfl,rfl,HSL.out,H⟩
 case rest =>
  obtain⟨g10,sv,rfl,rfl,hsl,H2⟩:=hcut;have HSL:=Zh hsl;clear H hsl;have H:=H2;clear H2;go_upto_region 14 with fail;refine Zl ?_;refine tk (.pointer (some ⟨b,0,none⟩)) ?_;refine ldO (K9 Yl (Jz (some ⟨ga,0,none⟩) 16 gc) (Jz (some ⟨oa,oo,none⟩) 16 oc) (Jz ta2 7 tc2)) H 2 ?_;refine J0 rfl fun K hK=>?_;go_simp;refine (Jfq HK1.out _ (OwnN.ints H.ex.1.2) (Jz (some ⟨oa,oo,none⟩) 16 oc) (Jz ta2 7 tc2) (HV.below Zy H.ex.1.1.1.2) H.ex.1.1.1).mono ?_;rintro e w13 ⟨⟨lv,rfl,ho⟩,hb⟩;obtain⟨la,lc,rfl⟩:∃a c,lv=.slice a 1 c:=ho.ints.form;have hold:=St.old H;replace H:=St.add (H.call hb) (ho.mono H.sz) Stays.own fun q hq hk=>by
   obtain⟨j,hj⟩:=List.getElem?_of_mem hq;have h1:=hold j q.1 q.2 hj;have h2:=(ho.lt q.1 hk).1;omega
  clear ho hb hold;refine hK _ _ (nm ?_);clear hK K;refine tk (.tuple #[.slice la 1 lc,.int .i64 0]) ?_;refine tk (.slice la 1 lc) ?_;refine tk (.int .i64 0) ?_;refine tk (.slice la 1 lc) ?_;refine tk (.int .i64 0) ?_;go_upto_region 15 with fail;refine J9 (fun wq=>Rn.St w.heap.size (fun k=>(fun k=>((F2 k∨(Value.slice (some ⟨ha,0,none⟩) 16 hc).ownBlock=some k)∨(Value.slice (some ⟨ga,0,none⟩) 16 gc).ownBlock=some k)∨(zeros 16≠[]∧(Value.slice (some ⟨oa,oo,none⟩) 16 oc).ownBlock=some k)) k∨(Value.slice la 1 lc).ownBlock=some k) (fun u=>(fun u=>((De.Dv w u b F2 d1∧OwnN u w.heap.size (.slice (some ⟨ha,0,none⟩) 16 hc) (zeros 16))∧OwnN u w.heap.size (.slice (some ⟨ga,0,none⟩) 16 gc) VH)∧IntsAt u (.slice (some ⟨oa,oo,none⟩) 16 oc) (zeros 16)) u∧OwnN u w.heap.size (.slice la 1 lc) [5]) [(g2,[.int .i64 WG.p,.int .i64 WG.s,.int .i64 WG.l,.int .i64 WG.f]),(g6,Jy VR (.slice (some ⟨ha,0,none⟩) 16 hc) ov ⟨VA.seg,VA.off,VA.seq,[]⟩ (.slice ta 7 tc)),(g12,Jy VR (.slice (some ⟨ga,0,none⟩) 16 gc) (.slice (some ⟨oa,oo,none⟩) 16 oc) ⟨VB.seg,VB.off,VB.seq,[]⟩ (.slice ta2 7 tc2)),(g10,chC sv (rp 32 7))] wq) (by kernel_rfl) ?_;replace H:=H.drew;generalize w13.drew=w0 at *;refine th 0 98 (.pointer (some ⟨g6,16,none⟩)) H ?_;refine th 1 99 (.slice (some ⟨ha,0,none⟩) 16 hc) H ?_ (hy:=fun u hS=>by have hq:=(hS.blk 1 _ _ rfl).cell (i:=16) (v:=.slice (some ⟨ha,0,none⟩) 16 hc) rfl;go_simp);refine th 2 100 (.pointer (some ⟨ha,3,none⟩)) H ?_;refine th 3 101 (.int .i64 0) H ?_ (hy:=fun u hS=>by have hq:=IntsAt.atc (OwnN.ints hS.ex.1.1.1.2) (i:=3) (x:=0) rfl;go_simp);refine th 4 102 (.bool true) H ?_;refine th 5 103 (.bool true) H ?_;refine th 6 104 (.pointer (some ⟨g6,18,none⟩)) H ?_;refine th 7 105 (.pointer (some ⟨g6,21,none⟩)) H ?_;refine th 8 106 (.slice ta 7 tc) H ?_ (hy:=fun u hS=>by have hq:=(hS.blk 1 _ _ rfl).cell (i:=21) (v:=.slice ta 7 tc) rfl;go_simp);refine th 9 107 (.int .i64 7) H ?_;refine th 10 108 (.bool true) H ?_;refine th 11 109 (.bool true) H ?_;refine th 12 110 (.bool true) H ?_;refine th 13 111 (.pointer (some ⟨g12,16,none⟩)) H ?_;refine th 14 112 (.slice (some ⟨ga,0,none⟩) 16 gc) H ?_ (hy:=fun u hS=>by have hq:=(hS.blk 2 _ _ rfl).cell (i:=16) (v:=.slice (some ⟨ga,0,none⟩) 16 gc) rfl;go_simp);refine th 15 113 (.pointer (some ⟨ga,3,none⟩)) H ?_;refine th 16 114 (.int .i64 5) H ?_ (hy:=fun u hS=>by have hq:=IntsAt.atc (OwnN.ints hS.ex.1.1.2) (i:=3) (x:=5) rfl;go_simp);refine th 17 115 (.bool true) H ?_;refine th 18 116 (.bool true) H ?_;refine th 19 117 (.bool true) H ?_;refine th 20 118 (.pointer (some ⟨g12,16,none⟩)) H ?_;refine th 21 119 (.slice (some ⟨ga,0,none⟩) 16 gc) H ?_ (hy:=fun u hS=>by have hq:=(hS.blk 2 _ _ rfl).cell (i:=16) (v:=.slice (some ⟨ga,0,none⟩) 16 gc) rfl;go_simp);refine th 22 120 (.pointer (some ⟨ga,5,none⟩)) H ?_;refine th 23 121 (.int .i64 1) H ?_ (hy:=fun u hS=>by have hq:=IntsAt.atc (OwnN.ints hS.ex.1.1.2) (i:=5) (x:=1) rfl;go_simp);refine th 24 122 (.bool true) H ?_;refine th 25 123 (.bool true) H ?_;refine th 26 124 (.bool true) H ?_;refine th 27 125 (.pointer (some ⟨g12,17,none⟩)) H ?_;refine th 28 126 (.slice (some ⟨oa,oo,none⟩) 16 oc) H ?_ (hy:=fun u hS=>by have hq:=(hS.blk 2 _ _ rfl).cell (i:=17) (v:=.slice (some ⟨oa,oo,none⟩) 16 oc) rfl;go_simp);refine th 29 127 (.pointer (some ⟨oa,oo+3,none⟩)) H ?_;refine th 30 128 (.int .i64 0) H ?_ (hy:=fun u hS=>by have hq:=IntsAt.atc hS.ex.1.2 (i:=3) (x:=0) rfl;go_simp);refine th 31 129 (.bool true) H ?_;refine th 32 130 (.bool true) H ?_;refine th 33 131 (.bool true) H ?_;refine th 34 132 (.pointer (some ⟨g12,18,none⟩)) H ?_;refine th 35 133 (.pointer (some ⟨g12,19,none⟩)) H ?_;refine th 36 134 (.int .i64 2) H ?_ (hy:=fun u hS=>by have hq:=(hS.blk 2 _ _ rfl).cell (i:=19) (v:=.int .i64 2) rfl;go_simp);refine th 37 135 (.bool true) H ?_
  refine th 38 136 (.bool true) H ?_;refine th 39 137 (.bool true) H ?_;refine th 40 138 (.int .i64 0) H ?_;refine th 41 139 (.bool true) H ?_;refine th 42 140 (.bool true) H ?_;refine th 43 141 (.bool true) H ?_;refine th 44 142 (.pointer (some ⟨g10,1,none⟩)) H ?_;refine th 45 143 (.agg (u8s (rp 32 7)).toArray) H ?_ (hy:=fun u hS=>Q9 (c:=1) (KD Yj) (jf _ _) (hS.blk 3 _ _ rfl) rfl _ _ _ rfl rfl);refine Zo 46 fun K hK=>?_;go_simp;refine (kU 7 _).mono ?_;rintro e wg ⟨rfl,hb⟩;replace H:=H.call hb;clear hb;refine hK _ _ H (nm ?_);clear hK K;refine th 47 145 (.bool true) H ?_ (hy:=fun u hS=>Jcj u _ _ rfl rfl rfl);refine th 48 146 (.bool true) H ?_;refine th 49 147 (.bool true) H ?_;refine th 50 148 (.int .i64 0) H ?_;refine th 51 149 (.bool true) H ?_;refine th 52 150 (.bool true) H ?_;refine th 53 151 (.bool true) H ?_;refine th 54 152 (.slice la 1 lc) H ?_;refine Zo 55 fun K hK=>?_;refine J34 _ 5 153 rfl rfl rfl fun gl wl hg hA hb hl=>hK _ _ (H.call hb) ?_;clear hK K;have hI:=Jjl (c:=1) hA;replace H:=H.call hb;clear hg hA hb hl;refine nm ?_;refine Zo 56 fun K hK=>?_;go_simp;refine (zc [5] [5] (by decide) (by decide) _ _ _ (OwnN.ints H.ex.2) hI).mono ?_;rintro e wh ⟨rfl,hb⟩;replace H:=H.call hb;clear hb hI;refine hK _ _ H (nm ?_);clear hK K;refine th 57 155 (.bool true) H ?_;refine th 58 0 (.bool true) H ?_;refine Zd ?_
  go_wp2_with fail
  go_ret;exact⟨rfl,H.ex.1.1.1.1.2⟩
open Go.ChangeShapes Go.WideShapes Go.ChangeAt Go.Deep Go.Joins
theorem own:ownKnob Tryz.prog.godebug=none:=by kernel_rfl
theorem Jfu:laidOutB Tryz.prog=true:=by kernel_rfl
abbrev L4:List (String×DataW Unit):=[("math/bits.deBruijn32tab",Rows.laid_math_bits_deBruijn32tab),("math/bits.deBruijn64tab",Rows.laid_math_bits_deBruijn64tab),("internal/strconv.uint64pow10",Rows.laid_internal_strconv_uint64pow10),("errors.errorType",Rows.laid_errors_errorType)]
theorem gE:Tryz.prog.globalNamed "errors.errorType"=some 0:=by kernel_rfl
theorem gP:Tryz.prog.globalNamed "internal/strconv.uint64pow10"=some 1:=by kernel_rfl
theorem gPt:(Tryz.prog.globals[1]?).map (·.type)=some 308:=by kernel_rfl
theorem rtype:(Tryz.prog.cutTypes.find? (·.1 == "internal/reflectlite.rtype")).map (·.2)=some 282:=by kernel_rfl
theorem J3j:Tryz.prog.types.size=361:=by kernel_rfl
theorem Jil:((List.range 361).filter fun t=>Tryz.prog.rowNamed t [101,114,114,111,114])=[121]:=by kernel_rfl
theorem Jck:Tryz.prog.cellsOf 276=1:=by kernel_rfl
theorem Jcl:Tryz.prog.cellsOf 308=20:=by kernel_rfl
theorem J7p:typeHandle Tryz.prog 121=.pointer (some ⟨4,121,none⟩):=by kernel_rfl
theorem yN{W:World}(h:laidMetH Tryz.prog L4 W):Vars W:=by
 have h':laidMet Tryz.prog [("math/bits.deBruijn32tab",Rows.laid_math_bits_deBruijn32tab),("math/bits.deBruijn64tab",Rows.laid_math_bits_deBruijn64tab),("internal/strconv.uint64pow10",Rows.laid_internal_strconv_uint64pow10)] W∧handlesMet Tryz.prog [("errors.errorType",Rows.laid_errors_errorType)] W:=h;have hT:Lib.TabIs Tryz.prog W "internal/strconv.uint64pow10" .u64 Lib.pow10Tab :=
  Lib.tabIs_of_head (rest:=[]) gP gPt Tryz.underlying308 Tryz.underlying276 Jck Jcl (laidMet.tail (laidMet.tail h'.1))
 obtain⟨name,u,ty,e1,e2,e3,e4,e5⟩:=h'.2 _ (List.mem_singleton.2 rfl);have en:name=[101,114,114,111,114]:=(Option.some.inj e1).symm;subst en;obtain rfl:=Option.some.inj (rtype.symm.trans e2);have hm:ty∈(List.range 361).filter fun t=>Tryz.prog.rowNamed t [101,114,114,111,114]:=List.mem_filter.2 ⟨List.mem_range.2 (by rw [←J3j];exact e3),e4⟩;rw [Jil] at hm;obtain rfl:=List.mem_singleton.1 hm;rw [J7p] at e5;have hE:ErrVar W:=by have:=World.var?_cell gE e5 0;simpa [ErrVar] using this
 have h1:W.cell? ⟨1,0,none⟩=some (.int .u64 1):=hT.cell gP 0 (by decide);exact⟨hE,hT,Kw h1⟩
theorem Jcm(os:Os)(args:Array Value):laidMetH Tryz.prog L4 ((World.doorLaid Tryz.prog 400 os).forCall (fun _ _=>0) ⟨#[],args,[]⟩).memory :=
 laidMetH_of_parts3 (fuel:=8) (laidMet_of_run' 8 (by kernel_rfl) (by kernel_rfl)) (by kernel_rfl) (by kernel_rfl)
theorem Z5{H:Type}{enc:TypeId×Value→H}{W W':World}(hb:Below W.heap.size W W'):∀{ts:List TypeId} {vs:List Value} {ds:List (DataW H)} {ps:List MemPlace},
 (∀t∈ts,Tryz.prog.readableRec t=true∧t<Tryz.prog.types.size)→DataW.TrodAll enc Tryz.prog W 0 (fun _=>true) true ts vs ds ps→(∀x∈ps,x.block<W.heap.size) →
 DataW.TrodAll enc Tryz.prog W' 0 (fun b=>decide (b<W.heap.size)) true ts vs ds ps
 | [],_,_,_,_,h,_=>by
  obtain⟨rfl,rfl,rfl⟩:=trodAll_nil h;exact trodAll_mk0
 | t::ts,_,_,_,hr,h,hlt=>by
  obtain⟨v,vs,d,ds,p,q,rfl,rfl,rfl,h0,h1⟩:=trodAll_cons h;refine trodAll_cons_mk (Below.trod Jfu (hr t (by simp)).1 (hr t (by simp)).2 h0 hb fun x hx=>hlt x (by simp [hx])) (Z5 hb (fun u hu=>hr u (by simp [hu])) h1 fun x hx=>hlt x (by simp [hx]))
variable {X:List (List Int)} {d:De.D} {g:Pl.Gm} {n:Nat}
def fR(g:Pl.Gm):Rn.Rg:=⟨1,g.p,g.s,g.l,g.f,0,0,1,zeros 8⟩
theorem Jk6(g:Pl.Gm):(fR g).g=g:=rfl
theorem qN(h:g.Ok):(fR g).Wf:=by
 obtain⟨h1,h2,h3,h4⟩:=h;exact⟨⟨show (0:Int)≤1 by decide,show (1:Int)<4294967296 by decide⟩,⟨by show _≤g.p;omega,by show g.p<_;omega⟩,⟨by show _≤g.s;omega,by show g.s<_;omega⟩,⟨by show _≤g.l;omega,by show g.l<_;omega⟩,⟨by show _≤g.f;omega,by show g.f<_;omega⟩,K7,K7,⟨show (0:Int)≤1 by decide,show (1:Int)<4294967296 by decide⟩,rfl,Rn.none_wf.rs⟩
theorem J4y(h:g.Ok):(fR g).good=true:=by
 have h2:=h.2.1;have h3:=h.2.2.1;unfold Rn.Rg.good;have e1:decide (fR g).g.Ok=true:=decide_eq_true h;have e2:decide (0≤(fR g).seg∧(fR g).seg≤(fR g).s-1)=true:=decide_eq_true ⟨Int.le_refl 0,by show (0:Int)≤g.s-1;omega⟩;have e3:decide (0≤(fR g).off∧(fR g).off≤(fR g).l)=true:=decide_eq_true ⟨Int.le_refl 0,by show (0:Int)≤g.l;omega⟩;have e4:Rn.Qk (fR g).g (fR g).rs=true:=by
  unfold Rn.Qk;refine List.all_eq_true.2 fun k hk=>?_;have hk:=List.mem_range.1 hk;have hz:(fR g).rs.getD k 0=0:=by
   show (zeros 8).getD k 0=0;rw [List.getD_eq_getElem?_getD,zeros,List.getElem?_replicate];split <;> rfl
  unfold Rn.QQ;rw [hz];rfl
 rw [e1,e2,e3,e4];rfl
theorem kF(g:Pl.Gm):Rn.readOf (fR g).enc=fR g:=by kernel_rfl
theorem Jim(h:g.Ok):Rn.XD (fR g).enc=true:=by
 unfold Rn.XD;rw [kF,J4y h,decide_eq_true rfl];rfl
theorem qO(h:g.Ok):∀x∈(fR g).enc,Ks x:=by
 obtain⟨h1,h2,h3,h4⟩:=h;have hb:∀{n:Int},0≤n→n≤64→Ks n:=fun h k=>⟨h,by omega⟩
 intro x hx;unfold Rn.Rg.enc Rn.Rg.s0 Rn.Rg.s1 Rn.Rg.b0 Rn.Rg.b1 at hx;simp only [List.mem_append,List.mem_cons] at hx;rcases hx with ((rfl|rfl|hx|hx|hx)|hx)|((rfl|rfl|hx|hx)|hx)
 · exact⟨by decide,by decide⟩
 · exact⟨by decide,by decide⟩
 · exact X3 4 _ x hx
 · have hx:x∈[g.p,g.s,g.l,g.f,0,0]:=hx;simp only [List.mem_cons,List.not_mem_nil,or_false] at hx;rcases hx with rfl|rfl|rfl|rfl|rfl|rfl <;> exact hb (by omega) (by omega)
 · exact X3 4 _ x hx
 · exact K8 _ x hx
 · exact⟨by decide,by decide⟩
 · exact⟨by decide,by decide⟩
 · exact X3 4 _ x hx
 · have hx:x∈zeros 16:=hx;exact K8 _ x hx
 · exact K8 _ x hx
theorem Jin(h:g.Ok):Rn.Sc2 (fR g).enc:=⟨rfl,qO h⟩
theorem Jgn(h:g.Ok):Sc (fR g).s0∧Sc (fR g).s1 :=
 ⟨⟨rfl,fun x hx=>qO h x (List.mem_append_left _ hx)⟩,⟨rfl,fun x hx=>qO h x (List.mem_append_right _ hx)⟩⟩
theorem J7q(h:g.Ok){n:Int}(hn:4+g.s*g.l≤n):Rn.Xs n (zeros 128) (fR g).enc=some (fR g):=by
 have h0:Rn.XE n 0 (zeros 128)=none:=Rn.j6 fun c=>absurd c.1 (by rw [show Rn.XD (zeros 128)=false by kernel_rfl];decide);have h1:Rn.XE n 1 (fR g).enc=some (fR g):=by
  rw [Rn.xy ⟨Jim h,by rw [kF];rfl,by rw [kF];show g.tot≤n;unfold Pl.Gm.tot;rw [if_pos h];exact hn⟩,kF]
 unfold Rn.Xs;rw [h0,h1];rfl
def fD(g:Pl.Gm)(n:Nat):De.D:=(De.Ki n).put (fR g)
def fX(g:Pl.Gm)(n:Nat):List (List Int):=((List.replicate n (zeros 64)).set 2 (fR g).s0).set 3 (fR g).s1
structure FD (g:Pl.Gm) (n:Nat):Prop where
 e:(De.Ki n).putE (fR g)=0
 img:Img (fD g n) (fX g n)
 l:(fD g n).L=[]
 f:(fD g n).F=-1
 t:(fD g n).T=3
 s:(fD g n).S.length=n
theorem J0r(h:4≤n)(x y:Array Value):(De.Ki n).writeE 2=0∧((De.Ki n).write 2 x).writeE 3=0∧(((De.Ki n).write 2 x).write 3 y).F=-1∧(((De.Ki n).write 2 x).write 3 y).T=2∧(((De.Ki n).write 2 x).write 3 y).L=[(2,x),(3,y)]∧((De.Ki n).write 2 x).F=-1∧(((De.Ki n).write 2 x).write 3 y).S=(De.Ki n).S:=by
 have hs:(De.Ki n).S.length=n:=List.length_replicate;have h2:(De.Ki n).has 2=true:=by unfold De.D.has;rw [hs];simp;omega
 have e1:(De.Ki n).write 2 x=⟨(De.Ki n).S,[(2,x)],-1,1⟩:=by
  unfold De.D.write;rw [if_pos h2,if_neg (show ¬((De.Ki n).F=0) from (show ¬((-1:Int)=0) by decide))];rfl
 have h3:((De.Ki n).write 2 x).has 3=true:=by rw [e1];unfold De.D.has;show (decide _&&decide ((3:Int)<((De.Ki n).S.length:Int)))=true;rw [hs];simp;omega
 have e2:((De.Ki n).write 2 x).write 3 y=⟨(De.Ki n).S,[(2,x),(3,y)],-1,2⟩:=by
  rw [e1] at h3 ⊢;unfold De.D.write;rw [if_pos h3,if_neg (show ¬((-1:Int)=0) by decide)];rfl
 refine⟨?_,?_,by rw [e2],by rw [e2],by rw [e2],by rw [e1],by rw [e2]⟩
 · unfold De.D.writeE;rw [if_pos h2,if_neg (show ¬((De.Ki n).F=0) from (show ¬((-1:Int)=0) by decide))]
 · unfold De.D.writeE;rw [if_pos h3,if_neg (by rw [e1];exact (show ¬((-1:Int)=0) by decide))]
theorem Jcn(h:g.Ok)(hn:4≤n):FD g n:=by
 obtain⟨w1,w2,w3,w4,w5,w6,w7⟩:=J0r hn (u8s (fR g).s0).toArray (u8s (fR g).s1).toArray;have e:fD g n=(((De.Ki n).write 2 (u8s (fR g).s0).toArray).write 3 (u8s (fR g).s1).toArray).flush:=by
  unfold fD De.D.put;rw [if_neg (by rw [show (De.Ki n).F=-1 from rfl];decide),if_neg (by rw [show ((De.Ki n).write ((fR g).gen%2*2) (u8s (fR g).s0).toArray).F=-1 from w6];decide)];rfl
 have h0:=J4g n;have h1:=h0.write (i:=2) (Jgn h).1 w1;have h2:=h1.write (i:=3) (Jgn h).2 w2;have hf:(((De.Ki n).write 2 (u8s (fR g).s0).toArray).write 3 (u8s (fR g).s1).toArray).flush=⟨De.app (((De.Ki n).write 2 (u8s (fR g).s0).toArray).write 3 (u8s (fR g).s1).toArray).S (((De.Ki n).write 2 (u8s (fR g).s0).toArray).write 3 (u8s (fR g).s1).toArray).L,[],-1,3⟩:=by
  unfold De.D.flush;rw [if_neg (by rw [w3];decide)];unfold De.D.nextF;rw [if_pos (by rw [w3];decide),w3,w4]
 have hi:Img (fD g n) (fX g n):=by rw [e];exact h2.flush
 refine⟨?_,hi,by rw [e,hf],by rw [e,hf],by rw [e,hf],hi.len.trans (by simp [fX])⟩;unfold De.D.putE;rw [if_neg (by rw [show (De.Ki n).F=-1 from rfl];decide),if_neg (by rw [show ((De.Ki n).write ((fR g).gen%2*2) (u8s (fR g).s0).toArray).F=-1 from w6];decide)];show (((De.Ki n).write 2 (u8s (fR g).s0).toArray).write 3 (u8s (fR g).s1).toArray).flushE=0;unfold De.D.flushE;rw [if_neg (by rw [w3];decide)]
theorem Jio(g:Pl.Gm)(n:Nat):(fX g n).length=n:=by simp [fX]
theorem Jfv(h:g.Ok)(hn:4≤n)(hi:Img d X)(hX:∀k:Nat,k<4→X[k]? = (fX g n)[k]?):Rn.Four d (zeros 128) (fR g).enc:=by
 have g0:X[0]? = some (zeros 64):=by rw [hX 0 (by decide)];obtain⟨m,rfl⟩:∃m,n=m+4:=⟨n-4,by omega⟩;rfl
 have g1:X[1]? = some (zeros 64):=by rw [hX 1 (by decide)];obtain⟨m,rfl⟩:∃m,n=m+4:=⟨n-4,by omega⟩;rfl
 have g2:X[2]? = some (fR g).s0:=by rw [hX 2 (by decide)];obtain⟨m,rfl⟩:∃m,n=m+4:=⟨n-4,by omega⟩;rfl
 have g3:X[3]? = some (fR g).s1:=by rw [hX 3 (by decide)];obtain⟨m,rfl⟩:∃m,n=m+4:=⟨n-4,by omega⟩;rfl
 exact⟨J3f,Jin h,(hi.read (i:=0) g0).1,(hi.read (i:=1) g1).1,(hi.read (i:=2) g2).1,(hi.read (i:=3) g3).1⟩
def fQ(g:Pl.Gm)(y:List Int):Prop:=y=zeros 64∨y=(fR g).s0∨y=(fR g).s1
theorem Jgo(g:Pl.Gm)(n:Int):∀y,fQ g y→NH n y:=fun y hy=>by
 rcases hy with rfl|rfl|rfl
 · exact J4h n
 · exact fun h=>absurd (YC h) (by show ¬_;simp [Rn.Rg.s0,Rn.Rg.b0])
 · exact fun h=>absurd (YC h) (by show ¬_;simp [Rn.Rg.s1,Rn.Rg.b1])
theorem Jk7(g:Pl.Gm)(n:Nat):∀y∈fX g n,fQ g y:=fun y hy=>by
 unfold fX at hy;rcases List.mem_or_eq_of_mem_set hy with hy|rfl
 · rcases List.mem_or_eq_of_mem_set hy with hy|rfl
   · exact .inl (List.eq_of_mem_replicate hy)
   · exact .inr (.inl rfl)
 · exact .inr (.inr rfl)
def fA(g:Pl.Gm):Ja:=⟨0,0,1,ji (fR g)⟩
theorem kG(h:g.Ok):(fA g).good g=true:=by
 have hz:ji (fR g)=Us.J0b (zeros g.s.toNat) 0:=by
  unfold ji;rw [Jk6,Us.J4q h,Us.qA];rfl
 have key:∀m:Nat,6≤m→m≤16→KF ⟨1,m,24,2⟩ 0 (Us.J0b (zeros m) 0)=true:=by
  intro m h6 h16;have:m=6∨m=7∨m=8∨m=9∨m=10∨m=11∨m=12∨m=13∨m=14∨m=15∨m=16:=by omega
  rcases this with rfl|rfl|rfl|rfl|rfl|rfl|rfl|rfl|rfl|rfl|rfl <;> rfl
 have h2:=h.2.1;have h3:=h.2.2.1;have hs:((g.s.toNat:Nat):Int)=g.s:=Int.toNat_of_nonneg (by omega);have kk:=key g.s.toNat (by omega) (by omega);rw [hs,←hz] at kk;have kk:KF g 0 (ji (fR g))=true:=kk;unfold Ja.good;have e1:decide g.Ok=true:=decide_eq_true h;have e2:Xk g (fA g).seg=true:=by show (decide ((0:Int)≤0)&&decide ((0:Int)<g.s))=true;simp;omega
 have e3:decide (0≤(fA g).off)=true:=decide_eq_true (Int.le_refl 0);have e4:decide ((fA g).off≤g.l)=true:=decide_eq_true (show (0:Int)≤g.l by omega);rw [e1,e2,e3,e4,show KF g (fA g).seg (fA g).free=true from kk];rfl
variable {C:Nat→Option (List Int)} {H pl:List Int} {P Q:List (List It×List Int)} {X:List (List Int)} {c:Option (List Int)} {g:Pl.Gm} {h v:Int} {l:List It} {m n p:Nat}
def Qg(C:Nat→Option (List Int))(x:It):Nat→Option (List Int):=fun p=>if (p:Int)=x.mark.2 then (if x.mark.1=4 then some (zeros 32) else if x.mark.1=5 then none else some x.blk.page) else C p
def Turns(m:Nat)(l:List It):Prop:=∀x∈l,∃j:Nat,j<m∧(x=KW 4 j∨x=KW 5 j∨∃v,Ks v∧x=X5 j v)
def Hd1(P:List (List It×List Int))(p:Nat)(h:Int)(c:Option (List Int)):Prop:=(h=0∧c=none)∨(h=1∧c=some (zeros 32))∨(∃v,Ks v∧c=some (rp 32 v)∧∃q∈P,∃i:Nat,q.1[i]? = some (X5 p v)∧q.2[i]? = some h)
theorem Hd1.more(k:Hd1 P p h c)(hQ:∀q∈P,q∈Q):Hd1 Q p h c:=by
 rcases k with k|k|⟨v,h1,h2,q,h3,h4⟩
 · exact .inl k
 · exact .inr (.inl k)
 · exact .inr (.inr ⟨v,h1,h2,q,hQ q h3,h4⟩)
theorem qP(hm:m≤n)(hl:Turns m l)(hq:(l,pl)∈Q):∀(z:List (It×Int)),(∀y∈z,∃i:Nat,l[i]? = some y.1∧pl[i]? = some y.2)→∀(H:List Int) (C:Nat→Option (List Int)),H.length=n→(∀p,p<n→Hd1 Q p (H.getD p 0) (C p))→∀p,p<n→Hd1 Q p ((Yk H z).getD p 0) ((z.map (·.1)).foldl Qg C p)
 | [],_,H,C,_,h=>h
 | y::r,hz,H,C,hn,h=>by
  have ih:=qP hm hl hq r (fun x hx=>hz x (List.mem_cons_of_mem _ hx)) (H.set y.1.mark.2.toNat (Zw y.1 y.2)) (Qg C y.1) (by rw [List.length_set];exact hn) ?_
  · exact ih
  · intro p hp;obtain⟨i,h1,h2⟩:=hz y (List.mem_cons_self ..);obtain⟨j,hj,hk⟩:=hl y.1 (List.mem_of_getElem? h1);have hid:y.1.mark.2=(j:Int):=by rcases hk with e|e|⟨v,-,e⟩ <;> rw [e] <;> rfl
    rw [hid,Int.toNat_natCast];unfold Qg;rw [hid]
    by_cases hpj:p=j
    · subst hpj;rw [if_pos rfl];have e:(H.set p (Zw y.1 y.2)).getD p 0=Zw y.1 y.2:=by rw [List.getD_eq_getElem?_getD,List.getElem?_set_self (by omega)];rfl
      rw [e];rcases hk with e|e|⟨v,hv,e⟩
      · rw [e];exact .inr (.inl ⟨rfl,rfl⟩)
      · rw [e];exact .inl ⟨rfl,rfl⟩
      · have e1:Zw y.1 y.2=y.2:=by rw [e];rfl
        rw [e1];refine .inr (.inr ⟨v,hv,by rw [e];rfl,(l,pl),hq,i,by rw [←e];exact h1,h2⟩)
    · rw [if_neg (by omega)];have e:(H.set j (Zw y.1 y.2)).getD p 0=H.getD p 0:=by rw [List.getD_eq_getElem?_getD,List.getD_eq_getElem?_getD,List.getElem?_set_ne (by omega)]
      rw [e];exact h p hp
theorem Jfw:∀y∈l.zip pl,∃i:Nat,l[i]? = some y.1∧pl[i]? = some y.2:=fun y hy=>by
 obtain⟨i,hi⟩:=List.getElem?_of_mem hy;rw [List.getElem?_zip_eq_some] at hi;exact⟨i,hi⟩
theorem J7r(hm:m≤n)(hl:Turns m l)(he:l.length=pl.length)(hn:H.length=n)(h:∀p,p<n→Hd1 P p (H.getD p 0) (C p)):∀p,p<n→Hd1 (P++[(l,pl)]) p ((Yk H (l.zip pl)).getD p 0) (l.foldl Qg C p):=by
 have k:=qP hm hl (Q:=P++[(l,pl)]) (by simp) (l.zip pl) Jfw H C hn fun p hp=>(h p hp).more fun q hq=>List.mem_append_left _ hq;rw [List.map_fst_zip (by omega)] at k;exact k
theorem xM:∀{l:List It} (hl:Turns m l) {C:Nat→Option (List Int)} {p:Nat},m≤p→l.foldl Qg C p=C p
 | [],_,C,p,_=>rfl
 | x::r,hl,C,p,hp=>by
  obtain⟨j,hj,hk⟩:=hl x (List.mem_cons_self ..);have hid:x.mark.2=(j:Int):=by rcases hk with e|e|⟨v,-,e⟩ <;> rw [e] <;> rfl
  show r.foldl Qg (Qg C x) p=C p;rw [xM (fun y hy=>hl y (List.mem_cons_of_mem _ hy)) hp];unfold Qg;rw [hid,if_neg (by omega)]
theorem J3k(H:List Int)(P:List (List It×List Int))(q:List It×List Int):Kk H (P++[q])=Yk (Kk H P) (q.1.zip q.2):=by simp [Kk]
theorem Turns.wf(h:Turns m l)(hm:m≤64):∀x∈l,x.Wf∧x.ok=true:=fun x hx=>by
 obtain⟨j,hj,hk⟩:=h x hx;have hs:Jh (j:Int):=⟨by omega,by omega⟩
 rcases hk with rfl|rfl|⟨v,hv,rfl⟩
 · exact⟨XV (QO 4 (by decide)) hs,qq (.inl rfl) ⟨by omega,by omega⟩⟩
 · exact⟨XV (QO 5 (by decide)) hs,qq (.inr rfl) ⟨by omega,by omega⟩⟩
 · exact⟨Y6 hs hv,yd ⟨by omega,by omega⟩⟩
theorem Turns.fit(h:Turns m l)(hm:m≤n):∀x∈l,(x.mark.1=4∨x.mark.1=5∨x.mark.1=1)∧∃j:Nat,x.mark.2=(j:Int)∧j<n:=fun x hx=>by
 obtain⟨j,hj,hk⟩:=h x hx;rcases hk with rfl|rfl|⟨v,hv,rfl⟩
 · exact⟨.inl rfl,j,rfl,by omega⟩
 · exact⟨.inr (.inl rfl),j,rfl,by omega⟩
 · exact⟨.inr (.inr rfl),j,rfl,by omega⟩
theorem J7s(hp:p<64)(hv:Ks v)(hs:Stands X g (X5 p v) h)(n:Nat):Jr X g p (n+1) h=some [(h,Za p v)]∧Q6 X g p h=some (Za p v)∧4≤h∧h≤4+g.s*g.l-1:=by
 have hsm:Jh (p:Int):=⟨by omega,by omega⟩
 have hok:=yd (id:=(p:Int)) (v:=v) ⟨by omega,by omega⟩;have hb:=hs.blk rfl (by simp only [It.ok,It.fits,Bool.and_eq_true] at hok;have h2:=hok.2;rw [if_pos (show (X5 p v).has=true from rfl)] at h2;simp only [Bool.and_eq_true] at h2;exact h2.2) (Y6 hsm hv).b (show (1:Int)≠3 by decide);have hb:Q6 X g p h=some (Za p v):=hb;have hr:=(hs.1 rfl).1;refine⟨?_,hb,hr.1,hr.2⟩;rw [Q7 (by omega) hb];rfl
variable {C:Nat→Option (List Int)} {F:Nat→Prop} {H l:List Int} {P:List (List It×List Int)} {W0:World} {X:List (List Int)} {a b:Ja} {bb i m n p:Nat} {c:Option (List Int)} {d:De.D} {g:Pl.Gm} {h x:Int}
theorem ke:∀(H:List Int) (k:Nat),(∀(i:Nat) (h:Int),H[i]? = some h→h=0∨h=1∨(2≤h∧∃b,Jr X g ((k+i:Nat):Int) 3 h=some [(h,b)]))→JU X g (k:Int) H=some (H.filter fun h=>decide (2≤h))
 | [],k,_=>rfl
 | h::r,k,hk=>by
  have ih:=ke r (k+1) fun i x hx=>by
   have:=hk (i+1) x (by simpa using hx)
   rwa [show k+1+i=k+(i+1) by omega]
  have e1:((k+1:Nat):Int)=(k:Int)+1:=by omega
  rw [e1] at ih;rcases hk 0 h rfl with rfl|rfl|⟨h2,b,hb⟩
  · rw [Ko rfl,ih];rfl
  · rw [Qs (by decide) (KG _ _ _ _),ih];rfl
  · rw [Nat.add_zero] at hb;rw [Qs (by omega) hb,ih,List.filter_cons_of_pos (by simpa using h2)];rfl
theorem jJ(h:l[i]? = some x):l.getD i 0=x:=by rw [List.getD_eq_getElem?_getD,h];rfl
theorem Hd1.at(hr:Rcd X g a P b)(hp:p<64)(k:Hd1 P p h c):(h=0∧c=none)∨(h=1∧c=some (zeros 32))∨(∃v,Ks v∧c=some (rp 32 v)∧4≤h∧h≤4+g.s*g.l-1∧Jr X g p 3 h=some [(h,Za p v)]∧Q6 X g p h=some (Za p v)∧QV g b h):=by
 rcases k with k|k|⟨v,hv,hc,q,hq,i,h1,h2⟩
 · exact .inl k
 · exact .inr (.inl k)
 · obtain⟨h',e,hs⟩:=(hr.stands q hq).2 i _ h1;rw [h2] at e;cases e;obtain⟨k1,k2,k3,k4⟩:=J7s hp hv hs 2;exact .inr (.inr ⟨v,hv,hc,k3,k4,k1,k2,hr.met q hq h (List.mem_of_getElem? h2) (by omega)⟩)
theorem Jco(h:∀x∈l,x=0):Hs.cnt l=0:=by
 unfold Hs.cnt;rw [List.length_eq_zero_iff,List.filter_eq_nil_iff];intro x hx;rw [h x hx];decide
theorem J0s(hr:Rcd X g a P b)(hn:n≤64)(hH:H.length=n)(hd:∀p,p<n→Hd1 P p (H.getD p 0) (C p))(hC:∀p,m≤p→C p=none)(hm:(m:Int)≤g.cap):∃L,QD X g H (zeros 8) b.seg b.off g.cap=some L:=by
 have at':∀(i:Nat) (h:Int),H[i]? = some h→i<n∧Hd1 P i h (C i):=fun i h e=>by
  have hi:i<n:=by have:=(Zg e).1;omega
  have:=hd i hi;rw [jJ e] at this;exact⟨hi,this⟩
 have hp:JU X g 0 H=some (H.filter fun h=>decide (2≤h)):=by
  have:=ke (X:=X) (g:=g) H 0 fun i h e=>by
   obtain⟨hi,k⟩:=at' i h e;rw [Nat.zero_add];rcases k.at hr (by omega) with ⟨k,-⟩|⟨k,-⟩|⟨v,-,-,k1,-,k2,-⟩
   · exact .inl k
   · exact .inr (.inl k)
   · exact .inr (.inr ⟨by omega,_,k2⟩)
  exact this
 refine⟨_,Zv (l:=H.filter fun h=>decide (2≤h)) ?_ ?_ ⟨?_,fun h hh=>?_⟩⟩
 · have e:H=H.take m++H.drop m:=(List.take_append_drop m H).symm;have h2:Hs.cnt (H.drop m)=0:=Jco fun x hx=>by
    obtain⟨i,hi⟩:=List.getElem?_of_mem hx;rw [List.getElem?_drop] at hi;obtain⟨-,k⟩:=at' _ _ hi;rw [hC _ (by omega)] at k;rcases k with k|⟨-,k⟩|⟨v,-,k,-⟩
    · exact k.1
    · cases k
    · cases k
   have h1:=Hs.Jbr (H.take m);rw [List.length_take] at h1;rw [e,Hs.Zs,h2];omega
 · unfold Ye;rw [hp];show some (_++KO (zeros 8))=_;rw [show KO (zeros 8)=[] from rfl,List.append_nil]
 · refine List.pairwise_filter.2 (List.pairwise_iff_getElem.2 fun i j hi hj hij h1 h2 e=>?_);have h1:2≤H[i]:=by simpa using h1
   obtain⟨-,k1⟩:=at' i _ (List.getElem?_eq_getElem hi);obtain⟨-,k2⟩:=at' j _ (List.getElem?_eq_getElem hj);rw [←e] at k2;rcases k1.at hr (by omega) with ⟨k,-⟩|⟨k,-⟩|⟨v,-,-,-,-,-,b1,-⟩
   · omega
   · omega
   rcases k2.at hr (by omega) with ⟨k,-⟩|⟨k,-⟩|⟨v2,-,-,-,-,-,b2,-⟩
   · omega
   · omega
   have c1:=(XF b1).2.2.2;rw [jd] at b1 b2;obtain⟨x,hx,b1⟩:=Option.bind_eq_some_iff.1 b1;obtain⟨y,hy,b2⟩:=Option.bind_eq_some_iff.1 b2;rw [hx] at hy;cases hy;split at b1
   · rename_i c1
     split at b2
     · rename_i c2
       have:=c1.2.symm.trans c2.2;omega
     · cases b2
   · cases b1
 · obtain⟨h1,h2⟩:=List.mem_filter.1 hh;have h2:2≤h:=by simpa using h2
   obtain⟨i,hi⟩:=List.getElem?_of_mem h1;obtain⟨hin,k⟩:=at' i h hi;rcases k.at hr (by omega) with ⟨k,-⟩|⟨k,-⟩|⟨v,-,-,-,-,-,-,k⟩
   · omega
   · omega
   · intro c;rcases k with k|k
     · have:=k.2;have:=c.2;omega
     · exact k.1 c.1
def Jgp(c:Option (List Int))(e:Ending):Prop:=match c with
 | none=>e=.returned (.tuple #[.agg chZ.toArray,.int .i64 17])
 | some l=>l.length=32∧∃sv,IsSl sv∧e=.returned (.tuple #[.agg (chC sv l).toArray,.int .i64 0])
theorem J3l(hg:g.Ok)(hr:Rcd X g a P b)(hp:(p:Int)<g.p)(k:Hd1 P p h c)(ht:4+g.s*g.l≤(X.length:Int))(hd:Img d X)(hL:d.L.length≤1000000)(w:World)(hv:Vars w)(hdv:De.Dv W0 w bb F d):Calls Tryz.prog 13 #[.pointer (some ⟨bb,0,none⟩),g.v,.int .i64 p,.int .i64 h] w fun e w'=>Jgp c e∧Below w.heap.size w w':=by
 have h64:=hg.1.2;have hsl:g.s*g.l≤16*32:=Int.mul_le_mul hg.2.1.2 hg.2.2.1.2 (by have:=hg.2.2.1.1;omega) (by decide);have kk:=k.at hr (show p<64 by omega);have hsm:Jh h:=by
  rcases kk with ⟨k,-⟩|⟨k,-⟩|⟨v,-,-,k1,k2,-⟩
  · exact⟨by omega,by omega⟩
  · exact⟨by omega,by omega⟩
  · exact⟨by omega,by omega⟩
 have q:=xI g (p:Int) h hsm w hv hdv hL hd;have ha:¬¬(g.Ok∧(0≤(p:Int)∧(p:Int)<g.p)∧4+g.s*g.l≤(X.length:Int)):=not_not_intro ⟨hg,⟨by omega,hp⟩,ht⟩;refine q.mono fun e w' hq=>⟨?_,hq.2⟩
 have h1:=hq.1;rcases kk with ⟨rfl,rfl⟩|⟨rfl,rfl⟩|⟨v,hvb,rfl,k1,-,k2,-⟩
 · have e1:chE X (X.length:Int) g p 0=17:=by unfold chE;rw [if_neg ha,if_pos rfl]
   rw [e1] at h1;unfold ChR at h1;split at h1
   · rw [if_neg (by decide)] at h1;exact h1
   · exact h1
 · have e1:chE X (X.length:Int) g p 1=0:=by unfold chE;rw [if_neg ha,if_neg (by decide),KG];rfl
   rw [e1,KG] at h1;have h1:∃sv,e=.returned (.tuple #[.agg (chC sv (zeros 32)).toArray,.int .i64 0])∧OwnN w' w.heap.size sv []:=h1;obtain⟨sv,h2,h3⟩:=h1;exact⟨rfl,sv,h3.sl,h2⟩
 · have e1:chE X (X.length:Int) g p h=0:=by unfold chE;rw [if_neg ha,if_neg (by omega),k2];rfl
   rw [e1,k2] at h1;have h1:∃sv,e=.returned (.tuple #[.agg (chC sv (rp 32 v)).toArray,.int .i64 0])∧OwnN w' w.heap.size sv [h]:=h1;obtain⟨sv,h2,h3⟩:=h1;exact⟨by simp [rp],sv,h3.sl,h2⟩
structure Lv (g:Pl.Gm) (n m t:Nat) (d:De.D) (X:List (List Int)) (P:List (List It×List Int)) (bj:Ja) (C:Nat→Option (List Int)):Prop where
 sn:Sn d X g (fA g) P bj (fQ g)
 old:∀k:Nat,k<4→X[k]? = (fX g t)[k]?
 len:X.length=t
 l:d.L=[]
 f:d.F=-1
 tt:d.T≤3+100*P.length
 hd:∀p,p<n→Hd1 P p ((Kk (zeros n) P).getD p 0) (C p)
 no:∀p,m≤p→C p=none
 fit:Fits P n
 pls:∀q∈P,q.2.length≤64
variable {C:Nat→Option (List Int)} {F:Nat→Prop} {P:List (List It×List Int)} {W0:World} {X:List (List Int)} {a bj:Ja} {b m n t:Nat} {d:De.D} {g:Pl.Gm} {l:List It}
theorem X9(hg:g.Ok):4+g.s*g.l≤516∧148≤4+g.s*g.l:=by
 have h1:g.s*g.l≤16*32:=Int.mul_le_mul hg.2.1.2 hg.2.2.1.2 (by have:=hg.2.2.1.1;omega) (by decide);have h2:(6:Int)*24≤g.s*g.l:=Int.mul_le_mul hg.2.1.1 hg.2.2.1.1 (by decide) (by have:=hg.2.1.1;omega);omega
theorem Lv.start(hg:g.Ok)(ht:(t:Int)=4+g.s*g.l):Lv g n m t (fD g t) (fX g t) [] (fA g) fun _=>none:=by
 have hs:=X9 hg;have hf:=Jcn hg (n:=t) (by omega);refine⟨Sn.new hf.img (kG hg) (J27 1 (by decide)) (by rw [hf.s];omega) (Jk7 g t),fun _ _=>rfl,Jio g t,hf.l,hf.f,by rw [hf.t];exact Nat.le_refl _,fun p hp=>.inl ⟨?_,rfl⟩,fun _ _=>rfl,(fun q hq=>by cases hq),fun q hq=>by cases hq⟩;show (zeros n).getD p 0=0;rw [List.getD_eq_getElem?_getD,zeros,List.getElem?_replicate,if_pos hp];rfl
theorem J3m(hg:g.Ok)(hm:m≤16)(hl:Turns m l)(h1:1≤l.length)(h2:l.length≤m)(hn:(Xd l).Nodup):XL g a l=true∧(Jd a.seq l).1.length≤17:=by
 have hmb:JH l=true:=JK.2 ⟨h1,by omega,fun x hx=>(hl.wf (by omega) x hx).2,hn⟩;have hlen:(Jd a.seq l).1.length≤17:=by
  rw [Qq];have hb:=QI (marks l);rw [List.length_map] at hb;have hp:parts l.length=1:=by unfold parts;omega
  omega
 refine⟨?_,hlen⟩;unfold XL;rw [hmb,decide_eq_true (by have:=hg.2.2.1.1;omega)];rfl
theorem Lv.puts(hg:g.Ok)(ht:(t:Int)=4+g.s*g.l)(h:Lv g n m t d X P bj C)(hm:m≤16)(hl:Turns m l)(h1:1≤l.length)(h2:l.length≤m)(hn:(Xd l).Nodup):((JY g bj d l).e=14∨(JY g bj d l).e=0∧(JY g bj d l).d.F=-1∧(JY g bj d l).d.T≤d.T+18):=by
 obtain⟨hla,hlen⟩:=J3m hg (a:=bj) hm hl h1 h2 hn;have hs:d.S.length=t:=h.sn.img.len.trans h.len;cases hx:QE g bj (Jd bj.seq l).1.length with
 | none=>left;rw [jA hla hx]
 | some a1 =>
  right;obtain⟨e1,-,-,-,e5,-,e7⟩:=xq (d:=d) h.sn.good hla hx (by rw [hs];omega) (.inl (by rw [h.f];decide));refine⟨e1,?_,by rw [e5];omega⟩;rw [e7,if_pos (by rw [h.f];decide),h.f]
theorem Lv.put(hg:g.Ok)(ht:(t:Int)=4+g.s*g.l)(h:Lv g n m t d X P bj C)(hm:m≤16)(hmn:m≤n)(hl:Turns m l)(h1:1≤l.length)(h2:l.length≤m)(hn:(Xd l).Nodup)(he:(JY g bj d l).e=0):∃X',Lv g n m t (JY g bj d l).d X' (P++[(l,(JY g bj d l).pl)]) (JY g bj d l).a (l.foldl Qg C):=by
 have hs:d.S.length=t:=h.sn.img.len.trans h.len;have hw:∀x∈l,x.Wf:=fun x hx=>(hl.wf (by omega) x hx).1;obtain⟨X',k1,k2,-,-⟩:=h.sn.put (Jgo g _) l hw he;obtain⟨b1,X2,hp,ha,hpl,hi,-⟩:=yj h.sn.good h.sn.img (by rw [hs];omega) hw he;obtain rfl:=k1.img.inj hi;rcases h.puts hg ht hm hl h1 h2 hn with e|⟨-,eF,eT⟩
 · omega
 have h4:4≤(J6 g b1).toNat:=by
  obtain⟨f,e,h4,-⟩:=hp.nx.first;rw [e];omega
 have hle:l.length=(JY g bj d l).pl.length:=by rw [hpl];simp [pOf,k9]
 refine⟨X',k1,fun k hk=>(hp.old k (.inl (by omega))).trans (h.old k hk),hp.len.trans h.len,k2,eF,?_,?_,fun p hp=>(xM hl hp).trans (h.no p hp),?_,?_⟩
 · rw [List.length_append,List.length_singleton];have:=h.tt;omega
 · rw [J3k];exact J7r hmn hl hle (by rw [Y0];exact J1 n) h.hd
 · intro q hq;rcases List.mem_append.1 hq with hq|hq
   · exact h.fit q hq
   · obtain rfl:=List.mem_singleton.1 hq;exact⟨hle,hl.fit hmn⟩
 · intro q hq;rcases List.mem_append.1 hq with hq|hq
   · exact h.pls q hq
   · obtain rfl:=List.mem_singleton.1 hq;show (JY g bj d l).pl.length≤64;omega
theorem Lv.small(hg:g.Ok)(h:Lv g n m t d X P bj C)(hn:n≤64):∀x∈Kk (zeros n) P,Jh x:=fun x hx=>by
 obtain⟨i,hi⟩:=List.getElem?_of_mem hx;have hin:i<n:=by have:=(Zg hi).1;rw [Y0,J1] at this;exact this
 have k:=h.hd i hin;rw [jJ hi] at k;have:=X9 hg;rcases k.at h.sn.rec_ (by omega) with ⟨k,-⟩|⟨k,-⟩|⟨v,-,-,k1,k2,-⟩
 · exact⟨by omega,by omega⟩
 · exact⟨by omega,by omega⟩
 · exact⟨by omega,by omega⟩
theorem Lv.begun(hg:g.Ok)(hnp:(n:Int)=g.p)(ht:(t:Int)=4+g.s*g.l)(hm:(m:Int)≤g.cap)(h:Lv g n m t d X P bj C)(hP:P.length≤1000)(w:World)(hvr:Vars W0)(hd:De.Dv W0 w b F d):xL (fR g) n b w bj (Kk (zeros n) P):=by
 have hs:=X9 hg;have h64:=hg.1.2;obtain⟨k1,k2⟩:=h.sn.read (Jgo g _);obtain⟨L,hL⟩:=J0s h.sn.rec_ (n:=n) (by omega) (H:=Kk (zeros n) P) (by rw [Y0];exact J1 n) h.hd h.no hm;have hl:d.S.length=t:=h.sn.img.len.trans h.len;have hfit:fits g (fA g) d.S.length=true:=by
  unfold fits;rw [kG hg,decide_eq_true (by rw [hl];omega)];rfl
 exact qL (qN hg) hg rfl n hnp b w hvr hd (by rw [h.l];decide) h.sn.img (by show 4+g.s*g.l≤_;rw [h.len];omega) (by rw [h.len];omega) hfit (J27 1 (by decide)) P bj k1 k2 h.fit hP (fun q hq=>by have:=h.pls q hq;omega) (h.small hg (by omega)) L hL
theorem Lv.load(hg:g.Ok)(hnp:(n:Int)=g.p)(ht:(t:Int)=4+g.s*g.l)(hm:(m:Int)≤g.cap)(h:Lv g n m t d X P bj C)(hP:P.length≤1000)(w:World)(hv:Vars w)(hv0:Vars W0)(hd:De.Dv W0 w b F d):Calls Tryz.prog 16 #[.pointer (some ⟨b,0,none⟩)] w fun e w'=>Jch n (fR g) bj (Kk (zeros n) P) w w' e:=by
 have hs:=X9 hg;have hl:d.S.length=t:=h.sn.img.len.trans h.len;exact qM w hv hd (by rw [h.l];decide) (Jfv hg (n:=t) (by omega) h.sn.img h.old) (by rw [hl];exact J7q hg (by omega)) (qN hg) n bj _ fun w' hb=>h.begun hg hnp ht hm hP w' hv0 (hd.below hb)
end Go.Proofs.YtdbfmikeaoaebaaGreatDoor
