/- Steps. -/
import Derived.Test.YtdbfmikeaoaebaaGreatDoorDam
import Derived.Test.YtdbfmikeaoaebaaGreatDoorRows
import Derived.ProofKit
import Derived.LaidMore
import Derived.LaidHandle
import Derived.OpenShut
import Derived.Stop.Joined
import Derived.SliceStrings
import Derived.Lib.LaidTab
import Derived.Stop.LaidErr
import Derived.Lib.SmallJoins
import Derived.Deep.Fields
import Derived.Deep.Slices
import Derived.Test.YtdbfmikeaoaebaaGreatDoorDak
import Derived.Deep.AppendLies
import Derived.Deep.Cut
import Derived.Deep.CutRange
import Derived.Deep.DeepFit
import Derived.Deep.DeepMust
import Derived.Deep.LoopGhost
import Derived.Deep.Upon
import Derived.Laws.CopyRow
import Derived.Laws.Rows
import Derived.Laws.StructEq
import Derived.Lib.AppendZeros
import Derived.Lib.EndianBits
import Derived.Lib.Hide
import Derived.OrdersHeld
import Derived.WalkKit
import Derived.WalkLawsBesides
import Derived.WalkSpells
import Derived.Test.YtdbfmikeaoaebaaGreatDoorDal
set_option linter.unusedSimpArgs false
set_option linter.unusedVariables false
set_option maxRecDepth 100000
set_option maxHeartbeats 4000000
namespace Go.Proofs.YtdbfmikeaoaebaaGreatDoor
open Go.RowKit Rn
theorem J6v(w:World)(hv:Vars w):Calls Tryz.prog 8 #[] w (Zr w (.bool true)):=by
 have H:=Rn.St.start (Stays.below w) (Below.refl _ _);have HV:=Zh hv;clear hv;go_enter Tryz.func8,Tryz.ntmps8;go_upto_region 0 with fail;refine Zl ?_;refine tk (.bool false) ?_;go_upto_region 1 with fail;refine Zl ?_;refine J0 rfl fun K hK=>?_;go_simp;refine (Pl.qH _).mono ?_;rintro e w1 ⟨rfl,hb⟩;replace H:=H.call hb;clear hb;refine hK _ _ (nm ?_);clear hK K;refine al J1n H ?_ (hns:=(Jg ⟨0,0,0,0⟩).ns);clear H;intro g2 w2 H;refine stO (Jg WG) (Ob.len (Jg WG) (Jg ⟨0,0,0,0⟩)) H 0 ?_;clear H;intro w2 H;go_upto_region 2 with fail;refine Zl ?_;refine J0 rfl fun K hK=>?_;go_simp;refine (De.J97 w _ H.ex 200 (by decide)).mono ?_;rintro e w3 ⟨b,F,rfl,hd,hb,hF⟩;replace H:=Rn.St.after H (Only.of_below hb) (fun k hk=>.inr (hF k hk)) hd (Stays.dv (Nat.le_refl _));clear hb hd hF;refine hK _ _ (nm ?_);clear hK K;refine tk (.tuple #[.pointer (some ⟨b,0,none⟩),.int .i64 0]) ?_;refine tk (.pointer (some ⟨b,0,none⟩)) ?_;refine tk (.int .i64 0) ?_;refine tk (.pointer (some ⟨b,0,none⟩)) ?_;refine tk (.int .i64 0) ?_;go_upto_region 3 with fail;refine Zl ?_;refine tk (.int .i64 0) ?_;refine tk (.bool false) ?_;refine tk (.bool false) ?_;refine tk (.pointer (some ⟨b,0,none⟩)) ?_;refine ldO (Jg WG) H 0 ?_;refine tk (.agg VR.cells.toArray) ?_ (hr:=by exact Jc _ _ _ _ 56 _ rfl #[(0,.int .u32 1),(1,.agg #[.int .i64 16,.int .i64 8,.int .i64 24,.int .i64 4]),(4,.int .u32 1)] (by simp [go_sem];exact⟨rfl,rfl,rfl,rfl⟩) _ (run_build _ 56 _ _ Jet));refine J0 rfl fun K hK=>?_;go_simp;refine (Jhb HV.out (HV.below (Nat.le_refl _) H.ex.2) H.ex).mono ?_;rintro e w4 ⟨F1,rfl,hd,hO,hf⟩;replace H:=Rn.St.after H hO hf hd (Stays.dv (Nat.le_refl _));clear hO hd hf;refine hK _ _ (nm ?_);clear hK K;refine tk (.bool false) ?_;refine tk (.bool false) ?_;go_upto_region 5 with fail;refine Zl ?_;refine tk (.pointer (some ⟨b,0,none⟩)) ?_;refine J0 rfl fun K hK=>?_;go_simp;refine (Jh8 _ (HV.below (Nat.le_refl _) H.ex.2) HV.out H.ex).mono ?_;rintro e w5 ⟨⟨hv,ov,tv,rfl,hOw,hT,hFr,hOv,-⟩,hb⟩;obtain⟨ha,hc,e1,-⟩:=World.ownsRow.form hOw (by decide);obtain rfl:hv=.slice (some ⟨ha,0,none⟩) 16 hc:=e1;obtain⟨ta,tc,rfl⟩:∃a c,tv=.slice a 7 c:=hT.form;have HSO:=Zh hOv.sl;have hold:=St.old H;have hsz:=H.sz;have hdv:=H.ex;have HNF:Hid (∀k,(Value.slice (some ⟨ha,0,none⟩) 16 hc).ownBlock=some k→¬F1 k):=Zh fun k hk hf=>by have h1:=(hOw.lt k hk).1;have h2:=(hdv.lt k hf).2;omega
 replace H:=St.add (St.add (H.call hb) (hOw.mono H.sz) Stays.own fun q hq hk=>by
  obtain⟨j,hj⟩:=List.getElem?_of_mem hq
  have h1:=hold j q.1 q.2 hj
  have h2:=(hOw.lt q.1 hk).1
  omega) hT Stays.ints fun q hq hk=>by
  obtain⟨j,hj⟩:=List.getElem?_of_mem hq;have h1:=hold j q.1 q.2 hj;obtain⟨tb,tk1,tc,e,-⟩:=hT.has (List.length_pos_iff.2 hk.1);have h2:=hFr _ _ _ _ e;have h5:=hk.2;rw [e] at h5;have h4:tb=q.1:=Option.some.inj h5;omega
 clear hOw hT hFr hOv hb hold hdv hsz;refine hK _ _ (nm ?_);clear hK K;refine tk (.tuple #[.agg (K3 VR (.slice (some ⟨ha,0,none⟩) 16 hc) ov ⟨VA.seg,VA.off,VA.seq,[]⟩ (.slice ta 7 tc)).toArray,.int .i64 0]) ?_;refine tk (.agg (K3 VR (.slice (some ⟨ha,0,none⟩) 16 hc) ov ⟨VA.seg,VA.off,VA.seq,[]⟩ (.slice ta 7 tc)).toArray) ?_;refine tk (.int .i64 0) ?_;refine al j6 H ?_ (hns:=stZ_ob.ns);clear H;intro g6 w6 H;refine stO (Kt Yb (JN (some ⟨ha,0,none⟩) 16 hc) HSO.out (JN ta 7 tc)) (Ob.len (Kt Yb (JN (some ⟨ha,0,none⟩) 16 hc) HSO.out (JN ta 7 tc)) stZ_ob) H 1 ?_;clear H;intro w6 H;refine tk (.int .i64 0) ?_;go_upto_region 6 with fail;refine Zl ?_;refine tk (.pointer (some ⟨b,0,none⟩)) ?_;refine ldO (Jg WG) H 0 ?_;refine tk (.pointer (some ⟨g6,18,none⟩)) ?_;refine ldP (XR ⟨VA.seg,VA.off,VA.seq,[]⟩ (JN ta 7 tc)) H 1 (Jha _ _ _ _ _) ?_;refine J0 rfl fun K hK=>?_;go_simp;refine (J3c (W:=w) b F1 VD (by rw [XJ];decide) WG VA (.slice ta 7 tc) (by decide) (by rw [XJ];exact yp) (Jd4 1 (by decide)) _ H.ex.2 H.ex.1.1).mono ?_;rintro e w7 ⟨jb,tv2,rfl,hj,hjb,hb⟩;have HJ:=Zh hj;have HOJ:Hid (∀k,(Value.slice (some ⟨ha,0,none⟩) 16 hc).ownBlock=some k→k≠jb):=Zh fun k hk e=>by have h1:=(H.ex.1.2.lt k hk).2;omega
 have hold:=St.old H;have HVJ:Hid (∀(i g:Nat) (L:List Value),[(g2,[.int .i64 WG.p,.int .i64 WG.s,.int .i64 WG.l,.int .i64 WG.f]),(g6,K3 VR (.slice (some ⟨ha,0,none⟩) 16 hc) ov ⟨VA.seg,VA.off,VA.seq,[]⟩ (.slice ta 7 tc))][i]? = some (g,L)→g≠jb):=Zh fun i g L hi e=>by have h1:=hold i g L hi;omega
 replace H:=H.call hb;clear hj hjb hb hold;refine hK _ _ (nm ?_);clear hK K;refine tk (.tuple #[.pointer (some ⟨jb,0,none⟩),.int .i64 0]) ?_;refine tk (.pointer (some ⟨jb,0,none⟩)) ?_;refine tk (.int .i64 0) ?_;refine tk (.pointer (some ⟨jb,0,none⟩)) ?_;refine tk (.int .i64 0) ?_;go_upto_region 9 with fail;refine Zl ?_;refine tk (.pointer (some ⟨jb,0,none⟩)) ?_;refine J0 rfl fun K hK=>?_;go_simp;refine (J4p 3 7 (XZ 3 (by decide)) (J3h 7 (by decide)) _).mono ?_;rintro e w8 ⟨rfl,hb⟩;replace H:=H.call hb;have HJ2:=Zh (HJ.below hb);clear HJ hb;have HJ:=HJ2;clear HJ2;refine hK _ _ (nm ?_);clear hK K;refine tk (.agg #[.int .i64 4,.int .i64 5]) ?_ (hr:=by exact Jc _ _ _ _ 79 _ rfl #[(0,.int .i64 4),(1,.int .i64 5)] (by simp [go_sem]) _ (run_build _ 79 _ _ Jeu));refine tk (.agg ((Yr 4 5).arr nb)) ?_ (hr:=by exact Jc _ _ _ _ 84 _ rfl #[(0,.agg #[.int .i64 4,.int .i64 5])] (by simp [go_sem]) _ (run_build _ 84 _ _ Jev));have hw1:=k9 (XZ 3 (by decide)) (J3h 7 (by decide));have hw2:=zh (XZ 4 (by decide)) (XZ 5 (by decide));refine Je _ _ rfl (JT _ _ _ _ 74 2 _ rfl #[(0,.agg ((YW 3 7).arr nb)),(1,.agg ((Yr 4 5).arr nb))] (by simp only [List.map_toArray,List.map_cons,List.map_nil];rfl) _ (J9g w8 hw1 hw2)) ?_;refine nm ?_;have hit:=Jd5 w8 (l:=[(YW 3 7,nb),(Yr 4 5,nb)]) (fun x hx=>by simp only [List.mem_cons,List.not_mem_nil,or_false] at hx;rcases hx with rfl|rfl;exact⟨hw1,rfl,rfl⟩;exact⟨hw2,rfl,rfl⟩) 2 rfl (by decide) (F:=F1) (fun k hk=>(HJ.dv.lt k hk).2);have HIT:=Zh hit;have hal:=jc w8 (.cells (Jj [(YW 3 7,nb),(Yr 4 5,nb)]).toArray 84);replace H:=H.call hal;have HJ2:=Zh (HJ.below hal);clear hit hw1 hw2 HJ hal;have HJ:=HJ2;clear HJ2;generalize w8.alloc (.cells (Jj [(YW 3 7,nb),(Yr 4 5,nb)]).toArray 84)=w9 at *;generalize w8.heap.size=gi at *;refine J0 rfl fun K hK=>?_;go_simp;refine (Jd2 HJ.out HV.out [(YW 3 7,nb),(Yr 4 5,nb)] VL rfl _ (by decide) HIT.out.1 HIT.out.2 (by rw [XJ];decide) (by rw [Jiu];decide) (by rw [Jh4];decide)).mono ?_;rintro e w10 ⟨pv,rfl,F2,fv1,ho,hj,hon,hn,hpa,-⟩;have hold:=St.old H;have hav:=H.av;replace H:=St.put2 (B:=fun k=>F2 k∨(Value.slice (some ⟨ha,0,none⟩) 16 hc).ownBlock=some k) (E2:=fun u=>De.Dv w u b F2 (KA WG VA VD VL).d∧OwnN u w.heap.size (.slice (some ⟨ha,0,none⟩) 16 hc) (zeros 16)) H hon (fun i g L hi hk=>hk.elim (fun hf=>hav i g L hi (.inl (.inl hf))) fun e=>HVJ.out i g L hi e) ⟨hj.dv,OwnN.onlyS H.ex.1.2 hon fun k hk hS=>hS.elim (HNF.out k hk) (HOJ.out k hk)⟩ ((Stays.dv (Nat.le_refl _)).both Stays.own) (fun i g L hi hk=>hk.elim (fun hf=>(hn g hf).elim (fun h1=>hav i g L hi (.inl (.inl h1))) fun h1=>by have h2:=hold i g L hi;omega) fun h1=>hav i g L hi (.inl (.inr h1)));clear ho hj hon hn hpa hold hav HJ HIT HNF HOJ HVJ;obtain⟨X,hk1⟩:=wk1;have HK1:=Zh hk1;clear hk1;generalize (KA WG VA VD VL).d=d1 at *;refine hK _ _ (nm ?_);clear hK K;go_upto_region 10 with fail;refine Zl ?_;refine tk (.pointer (some ⟨b,0,none⟩)) ?_;refine J0 rfl fun K hK=>?_;go_simp;refine (Jh9 HK1.out _ (HV.below (Nat.le_refl _) H.ex.1.2) HV.out H.ex.1).mono ?_;rintro e w11 ⟨⟨hv,ov2,tv,rfl,hOw,hT,hFr,hOv,hOf⟩,hb⟩;obtain⟨ga,gc,e1,-⟩:=World.ownsRow.form hOw (by decide);obtain rfl:hv=.slice (some ⟨ga,0,none⟩) 16 gc:=e1;obtain⟨oa,oo,oc,e1,-⟩:=hOv.has (by decide);obtain rfl:ov2=.slice (some ⟨oa,oo,none⟩) 16 oc:=e1;obtain⟨ta2,tc2,rfl⟩:∃a c,tv=.slice a 7 c:=hT.form;have hold:=St.old H;have hsz:=H.sz;replace H:=St.add (St.add (H.call hb) (hOw.mono H.sz) Stays.own fun q hq hk=>by
  obtain⟨j,hj⟩:=List.getElem?_of_mem hq
  have h1:=hold j q.1 q.2 hj
  have h2:=(hOw.lt q.1 hk).1
  omega) hOv Stays.ints fun q hq hk=>by
  obtain⟨j,hj⟩:=List.getElem?_of_mem hq;have h1:=hold j q.1 q.2 hj;have h2:=hOf q.1 hk.2;omega
 clear hOw hT hFr hOv hOf hb hold hsz;refine hK _ _ (nm ?_);clear hK K;refine tk (.tuple #[.agg (K3 VR (.slice (some ⟨ga,0,none⟩) 16 gc) (.slice (some ⟨oa,oo,none⟩) 16 oc) ⟨VB.seg,VB.off,VB.seq,[]⟩ (.slice ta2 7 tc2)).toArray,.int .i64 0]) ?_;refine tk (.agg (K3 VR (.slice (some ⟨ga,0,none⟩) 16 gc) (.slice (some ⟨oa,oo,none⟩) 16 oc) ⟨VB.seg,VB.off,VB.seq,[]⟩ (.slice ta2 7 tc2)).toArray) ?_;refine tk (.int .i64 0) ?_;refine al j6 H ?_ (hns:=stZ_ob.ns);clear H;intro g12 w12 H;refine stO (Kt Yb (JN (some ⟨ga,0,none⟩) 16 gc) (JN (some ⟨oa,oo,none⟩) 16 oc) (JN ta2 7 tc2)) (Ob.len (Kt Yb (JN (some ⟨ga,0,none⟩) 16 gc) (JN (some ⟨oa,oo,none⟩) 16 oc) (JN ta2 7 tc2)) stZ_ob) H 2 ?_;clear H;intro w12 H;refine tk (.int .i64 0) ?_;refine Zn ?_;have c0:=(H.blk 2 _ _ rfl).cell (i:=16) (v:=.slice (some ⟨ga,0,none⟩) 16 gc) rfl;have c1:=(H.blk 1 _ _ rfl).cell (i:=16) (v:=.slice (some ⟨ha,0,none⟩) 16 hc) rfl;have c2:=(H.blk 2 _ _ rfl).cell (i:=17) (v:=.slice (some ⟨oa,oo,none⟩) 16 oc) rfl;go_upto_region 13 with fail;clear c0 c1 c2
 go_cut [10,11] from 10 to 91 (fun s10 s11 wx=>∃g10 sv,s10=.pointer (some ⟨g10,0,none⟩)∧s11=.int .i64 0∧IsSl sv∧Rn.St w.heap.size (fun k=>((F2 k∨(Value.slice (some ⟨ha,0,none⟩) 16 hc).ownBlock=some k)∨(Value.slice (some ⟨ga,0,none⟩) 16 gc).ownBlock=some k)∨(zeros 16≠[]∧(Value.slice (some ⟨oa,oo,none⟩) 16 oc).ownBlock=some k)) (fun u=>((De.Dv w u b F2 d1∧OwnN u w.heap.size (.slice (some ⟨ha,0,none⟩) 16 hc) (zeros 16))∧OwnN u w.heap.size (.slice (some ⟨ga,0,none⟩) 16 gc) VH)∧IntsAt u (.slice (some ⟨oa,oo,none⟩) 16 oc) (zeros 16)) [(g2,[.int .i64 WG.p,.int .i64 WG.s,.int .i64 WG.l,.int .i64 WG.f]),(g6,K3 VR (.slice (some ⟨ha,0,none⟩) 16 hc) ov ⟨VA.seg,VA.off,VA.seq,[]⟩ (.slice ta 7 tc)),(g12,K3 VR (.slice (some ⟨ga,0,none⟩) 16 gc) (.slice (some ⟨oa,oo,none⟩) 16 oc) ⟨VB.seg,VB.off,VB.seq,[]⟩ (.slice ta2 7 tc2)),(g10,chC sv (rp 32 7))] wx)
 case first =>
  refine J9 (fun wq=>Rn.St w.heap.size (fun k=>((F2 k∨(Value.slice (some ⟨ha,0,none⟩) 16 hc).ownBlock=some k)∨(Value.slice (some ⟨ga,0,none⟩) 16 gc).ownBlock=some k)∨(zeros 16≠[]∧(Value.slice (some ⟨oa,oo,none⟩) 16 oc).ownBlock=some k)) (fun u=>((De.Dv w u b F2 d1∧OwnN u w.heap.size (.slice (some ⟨ha,0,none⟩) 16 hc) (zeros 16))∧OwnN u w.heap.size (.slice (some ⟨ga,0,none⟩) 16 gc) VH)∧IntsAt u (.slice (some ⟨oa,oo,none⟩) 16 oc) (zeros 16)) [(g2,[.int .i64 WG.p,.int .i64 WG.s,.int .i64 WG.l,.int .i64 WG.f]),(g6,K3 VR (.slice (some ⟨ha,0,none⟩) 16 hc) ov ⟨VA.seg,VA.off,VA.seq,[]⟩ (.slice ta 7 tc)),(g12,K3 VR (.slice (some ⟨ga,0,none⟩) 16 gc) (.slice (some ⟨oa,oo,none⟩) 16 oc) ⟨VB.seg,VB.off,VB.seq,[]⟩ (.slice ta2 7 tc2))] wq) (by kernel_rfl) ?_;replace H:=H.drew;generalize w12.drew=w0 at *;refine th 0 83 (.pointer (some ⟨b,0,none⟩)) H ?_;refine th 1 84 (.agg ([.int .i64 WG.p,.int .i64 WG.s,.int .i64 WG.l,.int .i64 WG.f]).toArray) H ?_ (hy:=fun u hS=>Kf (Jg WG) (hS.blk 0 _ _ rfl) _ _ _ rfl rfl);refine th 2 85 (.pointer (some ⟨g12,16,none⟩)) H ?_;refine th 3 86 (.slice (some ⟨ga,0,none⟩) 16 gc) H ?_ (hy:=fun u hS=>by have hq:=(hS.blk 2 _ _ rfl).cell (i:=16) (v:=.slice (some ⟨ga,0,none⟩) 16 gc) rfl;go_simp);refine th 4 87 (.pointer (some ⟨ga,3,none⟩)) H ?_;refine th 5 88 (.int .i64 5) H ?_ (hy:=fun u hS=>by have hq:=IntsAt.atc (OwnN.ints hS.ex.1.2) (i:=3) (x:=5) rfl;go_simp);refine Zu 6 10 (by kernel_rfl) rfl rfl rfl rfl (fun K hK=>?_) (fun K hK=>?_)
  · go_simp;refine (Jbi HK1.out _ (HV.below (Nat.le_refl _) H.ex.1.1.1.2) H.ex.1.1.1).mono ?_;rintro e wd ⟨⟨sv,rfl,ho⟩,hb⟩;have HSL:=Zh ho.sl;replace H:=H.call hb;clear ho hb;refine hK _ _ H (nm ?_);clear hK K;refine th 7 82 (.tuple #[.agg (chC sv (rp 32 7)).toArray,.int .i64 0]) H ?_;refine th 8 90 (.agg (chC sv (rp 32 7)).toArray) H ?_;refine th 9 91 (.int .i64 0) H ?_;refine Zo 10 fun K hK=>?_;refine Jb (some 10) rfl _ _ (Jy _ _ _ 45 rfl _ Kc) ?_;have hA:Blk (wd.alloc (.cells chZ.toArray 45)) wd.heap.size chZ:=Blk.new wd chZ.toArray 45;replace H:=H.new chz_ob.ns hA ((Below.refl _ _).alloc (Nat.le_refl _) _);clear hA;refine hK _ _ (H.cut 3) (nm ?_);clear hK K;generalize wd.alloc (.cells chZ.toArray 45)=we at *;generalize wd.heap.size=g10 at *;refine Zo 11 fun K hK=>?_;refine stH (Ks HSL.out Y9) (Ob.len (Ks HSL.out Y9) chz_ob) (H.blk 3 _ _ rfl) ?_;intro wf hD hO;replace H:=St.via H 3 rfl (Ks HSL.out Y9).ns hD hO;refine hK _ _ (H.cut 3) (nm ?_);clear hK K;refine th 12 11 (.int .i64 0) (H.cut 3) ?_;refine Zd ?_
    go_wp2_with fail
    go_meet
    exact⟨_,sv,rfl,rfl,HSL.out,H⟩
  · refine Jb (some 10) rfl _ _ (Jy _ _ _ 45 rfl _ Kc) ?_;have hA:Blk (w0.alloc (.cells chZ.toArray 45)) w0.heap.size chZ:=Blk.new w0 chZ.toArray 45;replace H:=H.new chz_ob.ns hA ((Below.refl _ _).alloc (Nat.le_refl _) _);clear hA;refine hK _ _ (H.cut 3) (nm ?_);clear hK K;generalize w0.alloc (.cells chZ.toArray 45)=we at *;generalize w0.heap.size=g10 at *;refine Zo 6 fun K hK=>?_;go_simp;refine (Jbi HK1.out _ (HV.below (Nat.le_refl _) H.ex.1.1.1.2) H.ex.1.1.1).mono ?_;rintro e wd ⟨⟨sv,rfl,ho⟩,hb⟩;have HSL:=Zh ho.sl;replace H:=H.call hb;clear ho hb;refine hK _ _ (H.cut 3) (nm ?_);clear hK K;refine th 7 82 (.tuple #[.agg (chC sv (rp 32 7)).toArray,.int .i64 0]) (H.cut 3) ?_;refine th 8 90 (.agg (chC sv (rp 32 7)).toArray) (H.cut 3) ?_;refine th 9 91 (.int .i64 0) (H.cut 3) ?_;refine Zo 11 fun K hK=>?_;refine stH (Ks HSL.out Y9) (Ob.len (Ks HSL.out Y9) chz_ob) (H.blk 3 _ _ rfl) ?_;intro wf hD hO;replace H:=St.via H 3 rfl (Ks HSL.out Y9).ns hD hO;refine hK _ _ (H.cut 3) (nm ?_);clear hK K;refine th 12 11 (.int .i64 0) (H.cut 3) ?_;refine Zd ?_
    go_wp2_with fail
    go_meet
    exact⟨_,sv,rfl,rfl,HSL.out,H⟩
 case rest =>
  obtain⟨g10,sv,rfl,rfl,hsl,H2⟩:=hcut;have HSL:=Zh hsl;clear H hsl;have H:=H2;clear H2;go_upto_region 14 with fail;refine Zl ?_;refine tk (.pointer (some ⟨b,0,none⟩)) ?_;refine ldO (Kt Yb (JN (some ⟨ga,0,none⟩) 16 gc) (JN (some ⟨oa,oo,none⟩) 16 oc) (JN ta2 7 tc2)) H 2 ?_;refine J0 rfl fun K hK=>?_;go_simp;refine (Jes HK1.out _ (OwnN.ints H.ex.1.2) (JN (some ⟨oa,oo,none⟩) 16 oc) (JN ta2 7 tc2) (HV.below (Nat.le_refl _) H.ex.1.1.1.2) H.ex.1.1.1).mono ?_;rintro e w13 ⟨⟨lv,rfl,ho⟩,hb⟩;obtain⟨la,lc,rfl⟩:∃a c,lv=.slice a 1 c:=ho.ints.form;have hold:=St.old H;replace H:=St.add (H.call hb) (ho.mono H.sz) Stays.own fun q hq hk=>by
   obtain⟨j,hj⟩:=List.getElem?_of_mem hq;have h1:=hold j q.1 q.2 hj;have h2:=(ho.lt q.1 hk).1;omega
  clear ho hb hold;refine hK _ _ (nm ?_);clear hK K;refine tk (.tuple #[.slice la 1 lc,.int .i64 0]) ?_;refine tk (.slice la 1 lc) ?_;refine tk (.int .i64 0) ?_;refine tk (.slice la 1 lc) ?_;refine tk (.int .i64 0) ?_;go_upto_region 15 with fail;refine J9 (fun wq=>Rn.St w.heap.size (fun k=>(fun k=>((F2 k∨(Value.slice (some ⟨ha,0,none⟩) 16 hc).ownBlock=some k)∨(Value.slice (some ⟨ga,0,none⟩) 16 gc).ownBlock=some k)∨(zeros 16≠[]∧(Value.slice (some ⟨oa,oo,none⟩) 16 oc).ownBlock=some k)) k∨(Value.slice la 1 lc).ownBlock=some k) (fun u=>(fun u=>((De.Dv w u b F2 d1∧OwnN u w.heap.size (.slice (some ⟨ha,0,none⟩) 16 hc) (zeros 16))∧OwnN u w.heap.size (.slice (some ⟨ga,0,none⟩) 16 gc) VH)∧IntsAt u (.slice (some ⟨oa,oo,none⟩) 16 oc) (zeros 16)) u∧OwnN u w.heap.size (.slice la 1 lc) [5]) [(g2,[.int .i64 WG.p,.int .i64 WG.s,.int .i64 WG.l,.int .i64 WG.f]),(g6,K3 VR (.slice (some ⟨ha,0,none⟩) 16 hc) ov ⟨VA.seg,VA.off,VA.seq,[]⟩ (.slice ta 7 tc)),(g12,K3 VR (.slice (some ⟨ga,0,none⟩) 16 gc) (.slice (some ⟨oa,oo,none⟩) 16 oc) ⟨VB.seg,VB.off,VB.seq,[]⟩ (.slice ta2 7 tc2)),(g10,chC sv (rp 32 7))] wq) (by kernel_rfl) ?_;replace H:=H.drew;generalize w13.drew=w0 at *;refine th 0 98 (.pointer (some ⟨g6,16,none⟩)) H ?_;refine th 1 99 (.slice (some ⟨ha,0,none⟩) 16 hc) H ?_ (hy:=fun u hS=>by have hq:=(hS.blk 1 _ _ rfl).cell (i:=16) (v:=.slice (some ⟨ha,0,none⟩) 16 hc) rfl;go_simp);refine th 2 100 (.pointer (some ⟨ha,3,none⟩)) H ?_;refine th 3 101 (.int .i64 0) H ?_ (hy:=fun u hS=>by have hq:=IntsAt.atc (OwnN.ints hS.ex.1.1.1.2) (i:=3) (x:=0) rfl;go_simp);refine th 4 102 (.bool true) H ?_;refine th 5 103 (.bool true) H ?_;refine th 6 104 (.pointer (some ⟨g6,18,none⟩)) H ?_;refine th 7 105 (.pointer (some ⟨g6,21,none⟩)) H ?_;refine th 8 106 (.slice ta 7 tc) H ?_ (hy:=fun u hS=>by have hq:=(hS.blk 1 _ _ rfl).cell (i:=21) (v:=.slice ta 7 tc) rfl;go_simp);refine th 9 107 (.int .i64 7) H ?_;refine th 10 108 (.bool true) H ?_;refine th 11 109 (.bool true) H ?_;refine th 12 110 (.bool true) H ?_;refine th 13 111 (.pointer (some ⟨g12,16,none⟩)) H ?_;refine th 14 112 (.slice (some ⟨ga,0,none⟩) 16 gc) H ?_ (hy:=fun u hS=>by have hq:=(hS.blk 2 _ _ rfl).cell (i:=16) (v:=.slice (some ⟨ga,0,none⟩) 16 gc) rfl;go_simp);refine th 15 113 (.pointer (some ⟨ga,3,none⟩)) H ?_;refine th 16 114 (.int .i64 5) H ?_ (hy:=fun u hS=>by have hq:=IntsAt.atc (OwnN.ints hS.ex.1.1.2) (i:=3) (x:=5) rfl;go_simp);refine th 17 115 (.bool true) H ?_;refine th 18 116 (.bool true) H ?_;refine th 19 117 (.bool true) H ?_;refine th 20 118 (.pointer (some ⟨g12,16,none⟩)) H ?_;refine th 21 119 (.slice (some ⟨ga,0,none⟩) 16 gc) H ?_ (hy:=fun u hS=>by have hq:=(hS.blk 2 _ _ rfl).cell (i:=16) (v:=.slice (some ⟨ga,0,none⟩) 16 gc) rfl;go_simp);refine th 22 120 (.pointer (some ⟨ga,5,none⟩)) H ?_;refine th 23 121 (.int .i64 1) H ?_ (hy:=fun u hS=>by have hq:=IntsAt.atc (OwnN.ints hS.ex.1.1.2) (i:=5) (x:=1) rfl;go_simp);refine th 24 122 (.bool true) H ?_;refine th 25 123 (.bool true) H ?_;refine th 26 124 (.bool true) H ?_;refine th 27 125 (.pointer (some ⟨g12,17,none⟩)) H ?_;refine th 28 126 (.slice (some ⟨oa,oo,none⟩) 16 oc) H ?_ (hy:=fun u hS=>by have hq:=(hS.blk 2 _ _ rfl).cell (i:=17) (v:=.slice (some ⟨oa,oo,none⟩) 16 oc) rfl;go_simp);refine th 29 127 (.pointer (some ⟨oa,oo+3,none⟩)) H ?_;refine th 30 128 (.int .i64 0) H ?_ (hy:=fun u hS=>by have hq:=IntsAt.atc hS.ex.1.2 (i:=3) (x:=0) rfl;go_simp);refine th 31 129 (.bool true) H ?_;refine th 32 130 (.bool true) H ?_;refine th 33 131 (.bool true) H ?_;refine th 34 132 (.pointer (some ⟨g12,18,none⟩)) H ?_;refine th 35 133 (.pointer (some ⟨g12,19,none⟩)) H ?_;refine th 36 134 (.int .i64 2) H ?_ (hy:=fun u hS=>by have hq:=(hS.blk 2 _ _ rfl).cell (i:=19) (v:=.int .i64 2) rfl;go_simp);refine th 37 135 (.bool true) H ?_
  refine th 38 136 (.bool true) H ?_;refine th 39 137 (.bool true) H ?_;refine th 40 138 (.int .i64 0) H ?_;refine th 41 139 (.bool true) H ?_;refine th 42 140 (.bool true) H ?_;refine th 43 141 (.bool true) H ?_;refine th 44 142 (.pointer (some ⟨g10,1,none⟩)) H ?_;refine th 45 143 (.agg (u8s (rp 32 7)).toArray) H ?_ (hy:=fun u hS=>QU (c:=1) (Kz Y9) (ZX _ _) (hS.blk 3 _ _ rfl) rfl _ _ _ rfl rfl);refine Zo 46 fun K hK=>?_;go_simp;refine (yD 7 _).mono ?_;rintro e wg ⟨rfl,hb⟩;replace H:=H.call hb;clear hb;refine hK _ _ H (nm ?_);clear hK K;refine th 47 145 (.bool true) H ?_ (hy:=fun u hS=>Jbj u _ _ rfl rfl rfl);refine th 48 146 (.bool true) H ?_;refine th 49 147 (.bool true) H ?_;refine th 50 148 (.int .i64 0) H ?_;refine th 51 149 (.bool true) H ?_;refine th 52 150 (.bool true) H ?_;refine th 53 151 (.bool true) H ?_;refine th 54 152 (.slice la 1 lc) H ?_;refine Zo 55 fun K hK=>?_;refine J2d _ 5 153 rfl rfl rfl fun gl wl hg hA hb hl=>hK _ _ (H.call hb) ?_;clear hK K;have hI:=Jia (c:=1) hA;replace H:=H.call hb;clear hg hA hb hl;refine nm ?_;refine Zo 56 fun K hK=>?_;go_simp;refine (J7u [5] [5] (by decide) (by decide) _ _ _ (OwnN.ints H.ex.2) hI).mono ?_;rintro e wh ⟨rfl,hb⟩;replace H:=H.call hb;clear hb hI;refine hK _ _ H (nm ?_);clear hK K;refine th 57 155 (.bool true) H ?_;refine th 58 0 (.bool true) H ?_;refine Zd ?_
  go_wp2_with fail
  go_ret;exact⟨rfl,H.ex.1.1.1.1.2⟩
open Go.ChangeShapes Go.WideShapes Go.ChangeAt Go.RowKit Go.Deep Go.Joins
theorem own:ownKnob Tryz.prog.godebug=none:=by kernel_rfl
theorem Jew:laidOutB Tryz.prog=true:=by kernel_rfl
abbrev L4:List (String×DataW Unit):=[("math/bits.deBruijn32tab",Rows.laid_math_bits_deBruijn32tab),("math/bits.deBruijn64tab",Rows.laid_math_bits_deBruijn64tab),("internal/strconv.uint64pow10",Rows.laid_internal_strconv_uint64pow10),("errors.errorType",Rows.laid_errors_errorType)]
theorem gE:Tryz.prog.globalNamed "errors.errorType"=some 0:=by kernel_rfl
theorem gP:Tryz.prog.globalNamed "internal/strconv.uint64pow10"=some 1:=by kernel_rfl
theorem gPt:(Tryz.prog.globals[1]?).map (·.type)=some 308:=by kernel_rfl
theorem rtype:(Tryz.prog.cutTypes.find? (·.1 == "internal/reflectlite.rtype")).map (·.2)=some 282:=by kernel_rfl
theorem J2q:Tryz.prog.types.size=361:=by kernel_rfl
theorem Jhc:((List.range 361).filter fun t=>Tryz.prog.rowNamed t [101,114,114,111,114])=[121]:=by kernel_rfl
theorem Jbk:Tryz.prog.cellsOf 276=1:=by kernel_rfl
theorem Jbl:Tryz.prog.cellsOf 308=20:=by kernel_rfl
theorem J6w:typeHandle Tryz.prog 121=.pointer (some ⟨4,121,none⟩):=by kernel_rfl
theorem yq{W:World}(h:laidMetH Tryz.prog L4 W):Vars W:=by
 have h':laidMet Tryz.prog [("math/bits.deBruijn32tab",Rows.laid_math_bits_deBruijn32tab),("math/bits.deBruijn64tab",Rows.laid_math_bits_deBruijn64tab),("internal/strconv.uint64pow10",Rows.laid_internal_strconv_uint64pow10)] W∧handlesMet Tryz.prog [("errors.errorType",Rows.laid_errors_errorType)] W:=h;have hT:Lib.TabIs Tryz.prog W "internal/strconv.uint64pow10" .u64 Lib.pow10Tab :=
  Lib.tabIs_of_head (rest:=[]) gP gPt Tryz.underlying308 Tryz.underlying276 Jbk Jbl (laidMet.tail (laidMet.tail h'.1))
 obtain⟨name,u,ty,e1,e2,e3,e4,e5⟩:=h'.2 _ (List.mem_singleton.2 rfl);have en:name=[101,114,114,111,114]:=(Option.some.inj e1).symm;subst en;obtain rfl:=Option.some.inj (rtype.symm.trans e2);have hm:ty∈(List.range 361).filter fun t=>Tryz.prog.rowNamed t [101,114,114,111,114]:=List.mem_filter.2 ⟨List.mem_range.2 (by rw [←J2q];exact e3),e4⟩;rw [Jhc] at hm;obtain rfl:=List.mem_singleton.1 hm;rw [J6w] at e5;have hE:ErrVar W:=by have:=World.var?_cell gE e5 0;simpa [ErrVar] using this
 have h1:W.cell? ⟨1,0,none⟩=some (.int .u64 1):=hT.cell gP 0 (by decide);exact⟨hE,hT,Kq h1⟩
theorem Jbm(os:Os)(args:Array Value):laidMetH Tryz.prog L4 ((World.doorLaid Tryz.prog 400 os).forCall (fun _ _=>0) ⟨#[],args,[]⟩).memory :=
 laidMetH_of_parts3 (fuel:=8) (laidMet_of_run' 8 (by kernel_rfl) (by kernel_rfl)) (by kernel_rfl) (by kernel_rfl)
theorem Z4{H:Type}{enc:TypeId×Value→H}{W W':World}(hb:Below W.heap.size W W'):∀{ts:List TypeId} {vs:List Value} {ds:List (DataW H)} {ps:List MemPlace},
 (∀t∈ts,Tryz.prog.readableRec t=true∧t<Tryz.prog.types.size)→DataW.TrodAll enc Tryz.prog W 0 (fun _=>true) true ts vs ds ps→(∀x∈ps,x.block<W.heap.size) →
 DataW.TrodAll enc Tryz.prog W' 0 (fun b=>decide (b<W.heap.size)) true ts vs ds ps
 | [],_,_,_,_,h,_=>by
  obtain⟨rfl,rfl,rfl⟩:=trodAll_nil h;exact trodAll_mk0
 | t::ts,_,_,_,hr,h,hlt=>by
  obtain⟨v,vs,d,ds,p,q,rfl,rfl,rfl,h0,h1⟩:=trodAll_cons h;refine trodAll_cons_mk (Below.trod Jew (hr t (by simp)).1 (hr t (by simp)).2 h0 hb fun x hx=>hlt x (by simp [hx])) (Z4 hb (fun u hu=>hr u (by simp [hu])) h1 fun x hx=>hlt x (by simp [hx]))
open Go.RowKit
namespace R4
open Go.RowKit Pl
open Go.RowKit
open Go.RowKit
theorem xo(h:Int)(w:World):Calls Tryz.prog 95 #[.int .i64 h] w fun e w'=>e=.returned (.bool (JH h))∧w=w':=by
 unfold JH
 by_cases h0:h=0
 · subst h0;go_enter Tryz.func95,Tryz.ntmps95
   go_wp2_with fail
   go_ret;exact⟨rfl,rfl⟩
 · by_cases h1:h=1
   · subst h1;go_enter Tryz.func95,Tryz.ntmps95
     go_wp2_with fail
     go_ret;exact⟨rfl,rfl⟩
   · by_cases h2:4≤h <;> by_cases h3:h≤1023 <;> simp only [h0,h1,h2,h3,decide_false,decide_true,Bool.false_or,Bool.and_true,Bool.and_false]
     all_goals
      go_enter Tryz.func95,Tryz.ntmps95
      go_wp2_with fail
      go_ret;exact⟨J6 (by simp [h0,h1]),rfl⟩
open Go.RowKit
open Go.RowKit
open Go.RowKit
open Go.RowKit
open Go.RowKit
open Go.RowKit
open Go.RowKit
open Go.RowKit
theorem YU(v:Int)(hv:0≤v∧v<4294967296)(w:World):Calls Tryz.prog 85 #[.int .u32 v,.int .i64 4] w fun e w'=>∃sv,e=.returned sv∧Own w' w.heap.size sv (le 4 v)∧Below w.heap.size w w':=by
 obtain⟨hv1,hv2⟩:=hv;go_enter Tryz.func85,Tryz.ntmps85
 go_wp2_with fail
 go_loopg [5,6] 4 (fun q s i wr=>∃k:Nat,4-k≤q∧k≤4∧i=.int .i64 k∧Own wr w.heap.size s ((le 4 v).take k)∧Below w.heap.size w wr)
 case atStart=>exact⟨0,by omega,by omega,rfl,by rw [List.take_zero];exact Own.nil _ _,Below.refl _ _⟩
 case round =>
  obtain⟨k,hg,hk,rfl,hown,hbel⟩:=hrel;have HO:=Zh hown;have HB:=Zh hbel;clear hown hbel;rcases (show k=0∨k=1∨k=2∨k=3∨k=4 by omega) with rfl|rfl|rfl|rfl|rfl
  · repeat (first|(with_reducible refine Jp (id:=5) ?_)|go_values|go_skip|go_guarded|go_step|go_upon|go_back)
    refine Stop.mk (wp_region_lit ?_);refine Qn u5 rfl (by go_simp) ?_;refine nm ?_;refine tk (.int .u32 v) ?_;refine tk (.int .i64 0) ?_;refine tk (.int .i64 0) ?_ (hr:=by go_simp <;> rfl);refine tk (.int .u64 0) ?_ (hr:=by go_simp <;> rfl);refine tk (.int .u32 (v)) ?_ (hr:=by go_simp <;> first|rfl|omega);refine tk (.int .u8 (v%256)) ?_ (hr:=by go_simp <;> (rw [IntKind.wrap_u8]));refine Je (.slice (some ⟨wr.heap.size,0,none⟩) 1 1) (wr.alloc (.cells #[.int .u8 (v%256)] 5)) rfl (by go_simp) ?_;refine nm ?_;have hb1:=(Below.refl wr.heap.size wr).alloc (Nat.le_refl _) (.cells #[.int .u8 (v%256)] 5);have hby:=(Own.lit wr wr.heap.size (Nat.le_refl _) [v%256] (by simp) _ rfl).bytes;refine app_L (HO.below hb1) (Nat.le_trans HB.size hb1.size) hby (by simp [le]) rfl rfl rfl ?_;intro sv' w' hO hB';refine nm ?_;have HO2:=Zh hO;have HB2:=Zh ((HB.trans (hb1.mono HB.size)).trans hB');clear hO hB' hb1 hby;refine Qn sv' rfl (by go_simp) ?_;refine nm ?_;go_wp2_with fail
    go_roundg (4-1)
    case measure=>omega
    case rel=>exact⟨1,by omega,by omega,by go_num,by simpa [le4] using HO2.out,HB2.out⟩
  · repeat (first|(with_reducible refine Jp (id:=5) ?_)|go_values|go_skip|go_guarded|go_step|go_upon|go_back)
    refine Stop.mk (wp_region_lit ?_);refine Qn u5 rfl (by go_simp) ?_;refine nm ?_;refine tk (.int .u32 v) ?_;refine tk (.int .i64 1) ?_;refine tk (.int .i64 8) ?_ (hr:=by go_simp <;> rfl);refine tk (.int .u64 8) ?_ (hr:=by go_simp <;> rfl);refine tk (.int .u32 (v/256)) ?_ (hr:=by go_simp <;> first|rfl|omega);refine tk (.int .u8 (v/256%256)) ?_ (hr:=by go_simp <;> (rw [IntKind.wrap_u8]));refine Je (.slice (some ⟨wr.heap.size,0,none⟩) 1 1) (wr.alloc (.cells #[.int .u8 (v/256%256)] 5)) rfl (by go_simp) ?_;refine nm ?_;have hb1:=(Below.refl wr.heap.size wr).alloc (Nat.le_refl _) (.cells #[.int .u8 (v/256%256)] 5);have hby:=(Own.lit wr wr.heap.size (Nat.le_refl _) [v/256%256] (by simp) _ rfl).bytes;refine app_L (HO.below hb1) (Nat.le_trans HB.size hb1.size) hby (by simp [le]) rfl rfl rfl ?_;intro sv' w' hO hB';refine nm ?_;have HO2:=Zh hO;have HB2:=Zh ((HB.trans (hb1.mono HB.size)).trans hB');clear hO hB' hb1 hby;refine Qn sv' rfl (by go_simp) ?_;refine nm ?_;go_wp2_with fail
    go_roundg (4-2)
    case measure=>omega
    case rel=>exact⟨2,by omega,by omega,by go_num,by simpa [le4] using HO2.out,HB2.out⟩
  · repeat (first|(with_reducible refine Jp (id:=5) ?_)|go_values|go_skip|go_guarded|go_step|go_upon|go_back)
    refine Stop.mk (wp_region_lit ?_);refine Qn u5 rfl (by go_simp) ?_;refine nm ?_;refine tk (.int .u32 v) ?_;refine tk (.int .i64 2) ?_;refine tk (.int .i64 16) ?_ (hr:=by go_simp <;> rfl);refine tk (.int .u64 16) ?_ (hr:=by go_simp <;> rfl);refine tk (.int .u32 (v/65536)) ?_ (hr:=by go_simp <;> first|rfl|omega);refine tk (.int .u8 (v/65536%256)) ?_ (hr:=by go_simp <;> (rw [IntKind.wrap_u8]));refine Je (.slice (some ⟨wr.heap.size,0,none⟩) 1 1) (wr.alloc (.cells #[.int .u8 (v/65536%256)] 5)) rfl (by go_simp) ?_;refine nm ?_;have hb1:=(Below.refl wr.heap.size wr).alloc (Nat.le_refl _) (.cells #[.int .u8 (v/65536%256)] 5);have hby:=(Own.lit wr wr.heap.size (Nat.le_refl _) [v/65536%256] (by simp) _ rfl).bytes;refine app_L (HO.below hb1) (Nat.le_trans HB.size hb1.size) hby (by simp [le]) rfl rfl rfl ?_;intro sv' w' hO hB';refine nm ?_;have HO2:=Zh hO;have HB2:=Zh ((HB.trans (hb1.mono HB.size)).trans hB');clear hO hB' hb1 hby;refine Qn sv' rfl (by go_simp) ?_;refine nm ?_;go_wp2_with fail
    go_roundg (4-3)
    case measure=>omega
    case rel=>exact⟨3,by omega,by omega,by go_num,by simpa [le4] using HO2.out,HB2.out⟩
  · repeat (first|(with_reducible refine Jp (id:=5) ?_)|go_values|go_skip|go_guarded|go_step|go_upon|go_back)
    refine Stop.mk (wp_region_lit ?_);refine Qn u5 rfl (by go_simp) ?_;refine nm ?_;refine tk (.int .u32 v) ?_;refine tk (.int .i64 3) ?_;refine tk (.int .i64 24) ?_ (hr:=by go_simp <;> rfl);refine tk (.int .u64 24) ?_ (hr:=by go_simp <;> rfl);refine tk (.int .u32 (v/16777216)) ?_ (hr:=by go_simp <;> first|rfl|omega);refine tk (.int .u8 (v/16777216%256)) ?_ (hr:=by go_simp <;> (rw [IntKind.wrap_u8]));refine Je (.slice (some ⟨wr.heap.size,0,none⟩) 1 1) (wr.alloc (.cells #[.int .u8 (v/16777216%256)] 5)) rfl (by go_simp) ?_;refine nm ?_;have hb1:=(Below.refl wr.heap.size wr).alloc (Nat.le_refl _) (.cells #[.int .u8 (v/16777216%256)] 5);have hby:=(Own.lit wr wr.heap.size (Nat.le_refl _) [v/16777216%256] (by simp) _ rfl).bytes;refine app_L (HO.below hb1) (Nat.le_trans HB.size hb1.size) hby (by simp [le]) rfl rfl rfl ?_;intro sv' w' hO hB';refine nm ?_;have HO2:=Zh hO;have HB2:=Zh ((HB.trans (hb1.mono HB.size)).trans hB');clear hO hB' hb1 hby;refine Qn sv' rfl (by go_simp) ?_;refine nm ?_;go_wp2_with fail
    go_roundg (4-4)
    case measure=>omega
    case rel=>exact⟨4,by omega,by omega,by go_num,by simpa [le4] using HO2.out,HB2.out⟩
  · go_wp2_with fail
    go_ret;exact⟨_,rfl,by simpa [le4] using HO.out,HB.out⟩
theorem J6x(v:Int)(hv:0≤v∧v<4294967296)(w:World):Calls Tryz.prog 85 #[.int .u32 v,.int .i64 2] w fun e w'=>∃sv,e=.returned sv∧Own w' w.heap.size sv (le 2 v)∧Below w.heap.size w w':=by
 obtain⟨hv1,hv2⟩:=hv;go_enter Tryz.func85,Tryz.ntmps85
 go_wp2_with fail
 go_loopg [5,6] 2 (fun q s i wr=>∃k:Nat,2-k≤q∧k≤2∧i=.int .i64 k∧Own wr w.heap.size s ((le 2 v).take k)∧Below w.heap.size w wr)
 case atStart=>exact⟨0,by omega,by omega,rfl,by rw [List.take_zero];exact Own.nil _ _,Below.refl _ _⟩
 case round =>
  obtain⟨k,hg,hk,rfl,hown,hbel⟩:=hrel;have HO:=Zh hown;have HB:=Zh hbel;clear hown hbel;rcases (show k=0∨k=1∨k=2 by omega) with rfl|rfl|rfl
  · repeat (first|(with_reducible refine Jp (id:=5) ?_)|go_values|go_skip|go_guarded|go_step|go_upon|go_back)
    refine Stop.mk (wp_region_lit ?_);refine Qn u5 rfl (by go_simp) ?_;refine nm ?_;refine tk (.int .u32 v) ?_;refine tk (.int .i64 0) ?_;refine tk (.int .i64 0) ?_ (hr:=by go_simp <;> rfl);refine tk (.int .u64 0) ?_ (hr:=by go_simp <;> rfl);refine tk (.int .u32 (v)) ?_ (hr:=by go_simp <;> first|rfl|omega);refine tk (.int .u8 (v%256)) ?_ (hr:=by go_simp <;> (rw [IntKind.wrap_u8]));refine Je (.slice (some ⟨wr.heap.size,0,none⟩) 1 1) (wr.alloc (.cells #[.int .u8 (v%256)] 5)) rfl (by go_simp) ?_;refine nm ?_;have hb1:=(Below.refl wr.heap.size wr).alloc (Nat.le_refl _) (.cells #[.int .u8 (v%256)] 5);have hby:=(Own.lit wr wr.heap.size (Nat.le_refl _) [v%256] (by simp) _ rfl).bytes;refine app_L (HO.below hb1) (Nat.le_trans HB.size hb1.size) hby (by simp [le]) rfl rfl rfl ?_;intro sv' w' hO hB';refine nm ?_;have HO2:=Zh hO;have HB2:=Zh ((HB.trans (hb1.mono HB.size)).trans hB');clear hO hB' hb1 hby;refine Qn sv' rfl (by go_simp) ?_;refine nm ?_;go_wp2_with fail
    go_roundg (2-1)
    case measure=>omega
    case rel=>exact⟨1,by omega,by omega,by go_num,by simpa [le2] using HO2.out,HB2.out⟩
  · repeat (first|(with_reducible refine Jp (id:=5) ?_)|go_values|go_skip|go_guarded|go_step|go_upon|go_back)
    refine Stop.mk (wp_region_lit ?_);refine Qn u5 rfl (by go_simp) ?_;refine nm ?_;refine tk (.int .u32 v) ?_;refine tk (.int .i64 1) ?_;refine tk (.int .i64 8) ?_ (hr:=by go_simp <;> rfl);refine tk (.int .u64 8) ?_ (hr:=by go_simp <;> rfl);refine tk (.int .u32 (v/256)) ?_ (hr:=by go_simp <;> first|rfl|omega);refine tk (.int .u8 (v/256%256)) ?_ (hr:=by go_simp <;> (rw [IntKind.wrap_u8]));refine Je (.slice (some ⟨wr.heap.size,0,none⟩) 1 1) (wr.alloc (.cells #[.int .u8 (v/256%256)] 5)) rfl (by go_simp) ?_;refine nm ?_;have hb1:=(Below.refl wr.heap.size wr).alloc (Nat.le_refl _) (.cells #[.int .u8 (v/256%256)] 5);have hby:=(Own.lit wr wr.heap.size (Nat.le_refl _) [v/256%256] (by simp) _ rfl).bytes;refine app_L (HO.below hb1) (Nat.le_trans HB.size hb1.size) hby (by simp [le]) rfl rfl rfl ?_;intro sv' w' hO hB';refine nm ?_;have HO2:=Zh hO;have HB2:=Zh ((HB.trans (hb1.mono HB.size)).trans hB');clear hO hB' hb1 hby;refine Qn sv' rfl (by go_simp) ?_;refine nm ?_;go_wp2_with fail
    go_roundg (2-2)
    case measure=>omega
    case rel=>exact⟨2,by omega,by omega,by go_num,by simpa [le2] using HO2.out,HB2.out⟩
  · go_wp2_with fail
    go_ret;exact⟨_,rfl,by simpa [le2] using HO.out,HB.out⟩
open Go.RowKit
theorem jQ(sv:Value)(l:List Int)(h0:0<l.length)(hl:l.length≤64)(w:World)(hbs:BytesAt w sv l):Calls Tryz.prog 86 #[sv] w fun e w'=>e=.returned (.agg (u8s (l++zeros (64-l.length))).toArray)∧Below w.heap.size w w':=by
 obtain⟨p,q,cap,rfl,hc⟩:=hbs.has h0;have HC:=Zh hc;have HL:=Zh h0;clear hc hbs h0;go_enter Tryz.func86,Tryz.ntmps86
 repeat (first|(with_reducible refine Jp (id:=0) ?_)|go_values|go_skip|go_guarded|go_step|go_upon|go_back)
 refine Stop.mk (wp_region_lit ?_);refine J4 JQ rfl ?_;intro w1 hR hB hl1;refine nm ?_;refine Zn ?_
 repeat (first|(with_reducible refine Jp (id:=1) ?_)|go_values|go_skip|go_guarded|go_step|go_upon|go_back)
 refine Stop.mk (wp_region_lit ?_);refine J4 JQ rfl ?_;intro w2 hS hB2 hl2;refine nm ?_;have HR:Hid (Blk w2 w.heap.size (u8s (zeros 64))):=Zh (hR.below hB2 hl1);have HS:Hid (Blk w2 w1.heap.size (u8s (zeros 64))):=Zh hS;have HB:=Zh (hB.trans (hB2.mono hB.size));have HLT:=Zh hl1;have HC2:=Zh (fun (j:Nat) (v:Int) (hv:l[j]? = some v)=>show w2.cell? ⟨p,q+j,none⟩=some (.int .u8 v) from by
  have:=HC.out j v hv
  have h1:=(hB.cell (block_lt_of_cell this)).trans this
  exact (hB2.cell (block_lt_of_cell h1)).trans h1)
 clear hR hS hB hB2 hl1 hl2;generalize w1.heap.size=s at *;clear w1;refine Zn ?_
 repeat (first|(with_reducible refine Jp (id:=2) ?_)|go_values|go_skip|go_guarded|go_step|go_upon|go_back)
 refine Stop.mk (wp_region_lit ?_);refine tk (.slice (some ⟨s,0,none⟩) 64 64) ?_;refine tk (.slice (some ⟨p,q,none⟩) l.length cap) ?_;refine J0 rfl fun K hK=>?_;refine YI _ _ rfl Tryz.underlying80 QW s 0 64 64 p q l.length cap rfl rfl (u8s (zeros 64)) l HS.out (Nat.min_eq_left hl).symm (fun j v hv=>HC2.out j v hv) (by simp [zeros];omega) (some 6) rfl fun w3 hb ho=>?_;refine hK _ _ (nm ?_);clear hK K;rw [Qd,kt] at hb;have HS3:=Zh hb;have HR3:=Zh (HR.only ho (by have:=HLT.out;omega));have HB3:=Zh (HB.trans (ho.below HB.size (fun k hk=>by have:=HLT.out;omega)));have HSZ:Hid ((l++zeros (64-l.length)).length=64):=Zh (by simp [zeros];omega);clear hb ho;refine Zn ?_
 repeat (first|(with_reducible refine Jp (id:=3) ?_)|go_values|go_skip|go_guarded|go_step|go_upon|go_back)
 refine Stop.mk (wp_region_lit ?_);refine KX (cs:=(u8s (l++zeros (64-l.length))).toArray) (Blk.all HS3.out rfl) (by rw [J2,HSZ.out]) rfl rfl ?_;refine nm ?_;refine J3 (cs:=(u8s (l++zeros (64-l.length))).toArray) HR3.out (by rw [J2,HSZ.out];simp [zeros]) (by rw [J2,HSZ.out];exact info36) (Ji _) rfl rfl rfl ?_;intro w4 hD hOD hlD;refine nm ?_;have HF:=Zh (HB3.trans (hOD.below HB3.size (fun k hk=>Nat.le_of_eq hk.symm)));go_wp2_with fail
 exact bodyPost_ret (v:=.agg (u8s (l++zeros (64-l.length))).toArray) (Jo rfl _ _ w.heap.size 0 _ _ rfl Tryz.underlying36 rfl (by rw [J2,HSZ.out];exact info36) (Blk.all hD rfl)) rfl ⟨by simp,HF.out⟩
open Go.RowKit
theorem Jex(b:Bk)(sv:Value)(hs:Len sv b.bytes.length)(hw:b.Wf)(hk:b.kind=1)(w:World):Calls Tryz.prog 64 #[.agg (b.arr sv)] w (Zr w (.bool b.good)):=by
 have HK:=Zh hk;clear hk;have HWb:=Zh hw;have HZ:=Zh (b.arr_size hw sv);have HPS:(u8s b.page).toArray.size=32:=by simpa using hw.page
 have HHS:(Js b.heads).toArray.size=8:=by simpa using hw.heads
 have HPS:=Zh HPS;have HHS:=Zh HHS;have HE:=Zh fun w=>J2u w b.heads (zeros 8) hw.heads (J1 8);have HP:=Zh fun w=>qF w b.page (zeros 32) hw.page (J1 32);have HHD:=Zh fun w=>xo b.prev w;have hlen:=hw.bytes;obtain⟨ab,capb,hsvb⟩:=hs;have HSVb:=Zh hsvb;clear hsvb hw;go_enter Tryz.func64,Tryz.ntmps64
 repeat (first|(with_reducible refine Jp (id:=0) ?_)|go_values|go_skip|go_guarded|go_step|go_upon|go_back)
 refine Stop.mk (wp_region_lit ?_);refine JR rfl rfl ?_;intro w1 hA hb hl;refine nm ?_;have HA:Hid (BAt w1 w.heap.size b sv):=Zh ⟨hA,HWb.out⟩;have HB:=Zh hb;clear hA hb hl;refine tk (.bool false) ?_;go_upto_region 1 with fail
 go_cut [3] from 6 to 20 (fun s3 wx=>s3=.bool b.plain∧w1=wx)
 case first =>
  have c34:=HA.c34;have c35:=HA.c35.trans (congrArg some HSVb.out);have c36:=HA.c36
  by_cases h1:b.off=0 <;> by_cases h2:b.bytes.length=0
  all_goals
   go_wp2_with fail
   go_meet
   exact⟨congrArg Value.bool (by simp [qK,h1,h2,XT]),rfl⟩
 case rest =>
 obtain⟨rfl,rfl⟩:=hcut;have HPL:=Zh (show b.plain=b.plain from rfl);obtain⟨q3,hq3⟩:∃q,b.plain=q:=⟨_,rfl⟩
 obtain⟨q4,hq4⟩:∃q,decide (b.heads=zeros 8)=q:=⟨_,rfl⟩
 obtain⟨qp,hqp⟩:∃q,decide (b.page=zeros 32)=q:=⟨_,rfl⟩
 rw [hq3];rw [hq4] at HE;rw [hqp] at HP;have HQ3:=Zh hq3;have HQ4:=Zh hq4;have HQP:=Zh hqp;clear hq3 hq4 hqp
 repeat (first|(with_reducible refine Jp (id:=2) ?_)|go_values|go_skip|go_guarded|go_step|go_upon|go_back)
 refine Stop.mk (wp_region_lit ?_);refine tk (.pointer (some ⟨w.heap.size,37,none⟩)) ?_;refine QX (cs:=(Js b.heads).toArray) HA.heads HHS.out rfl rfl ?_;refine nm ?_;refine Jh (YH _) rfl ?_;refine nm ?_;refine tk (.bool q4) ?_ (hr:=by have he:=HE.out;go_simp);refine tk (.bool q4) ?_;refine Zn ?_;have c0:=HA.c0;rw [HK.out] at c0
 repeat (first|(with_reducible refine Jp (id:=5) ?_)|go_values|go_skip|go_guarded|go_step|go_upon|go_back)
 refine Stop.mk (wp_region_lit ?_);refine tk (.pointer (some ⟨w.heap.size,1,none⟩)) ?_;refine tk (.int .i64 b.id) ?_ (hr:=by have hq:=HA.c1;go_simp)
 by_cases h1:0≤b.id
 case neg =>
  refine tk (.bool false) ?_
  go_wp2_with fail
  go_ret;exact⟨J6 (KH fun hg=>by have hi:=(YK HK.out).1 hg;have e3:=HQ3.out;have e4:=HQ4.out;have ep:=HQP.out;simp only [e3,e4,ep] at hi;first|(simp at hi;done)|omega|simp_all),HB.out⟩
 refine tk (.bool true) ?_;refine tk (.bool true) ?_;refine tk (.pointer (some ⟨w.heap.size,1,none⟩)) ?_;refine tk (.int .i64 b.id) ?_ (hr:=by have hq:=HA.c1;go_simp)
 by_cases h2:b.id<64
 case neg =>
  refine tk (.bool false) ?_
  go_wp2_with fail
  go_ret;exact⟨J6 (KH fun hg=>by have hi:=(YK HK.out).1 hg;have e3:=HQ3.out;have e4:=HQ4.out;have ep:=HQP.out;simp only [e3,e4,ep] at hi;first|(simp at hi;done)|omega|simp_all),HB.out⟩
 refine tk (.bool true) ?_;refine tk (.bool true) ?_;refine tk (.bool true) ?_;cases q3
 case false =>
  refine tk (.bool false) ?_
  go_wp2_with fail
  go_ret;exact⟨J6 (KH fun hg=>by have hi:=(YK HK.out).1 hg;have e3:=HQ3.out;have e4:=HQ4.out;have ep:=HQP.out;simp only [e3,e4,ep] at hi;first|(simp at hi;done)|omega|simp_all),HB.out⟩
 refine tk (.bool true) ?_;refine tk (.bool true) ?_;refine tk (.bool true) ?_;refine tk (.bool q4) ?_;refine tk (.bool q4) ?_;refine tk (.bool q4) ?_;go_wp2_with fail
 go_ret;exact⟨J6 (J30 (by rw [YK HK.out,HQ3.out,HQ4.out];simp [h1,h2])),HB.out⟩
theorem Jey(b:Bk)(sv:Value)(hs:Len sv b.bytes.length)(hw:b.Wf)(hk:b.kind=2)(w:World):Calls Tryz.prog 64 #[.agg (b.arr sv)] w (Zr w (.bool b.good)):=by
 have HK:=Zh hk;clear hk;have HWb:=Zh hw;have HZ:=Zh (b.arr_size hw sv);have HPS:(u8s b.page).toArray.size=32:=by simpa using hw.page
 have HHS:(Js b.heads).toArray.size=8:=by simpa using hw.heads
 have HPS:=Zh HPS;have HHS:=Zh HHS;have HE:=Zh fun w=>J2u w b.heads (zeros 8) hw.heads (J1 8);have HP:=Zh fun w=>qF w b.page (zeros 32) hw.page (J1 32);have HHD:=Zh fun w=>xo b.prev w;have hlen:=hw.bytes;obtain⟨ab,capb,hsvb⟩:=hs;have HSVb:=Zh hsvb;clear hsvb hw;go_enter Tryz.func64,Tryz.ntmps64
 repeat (first|(with_reducible refine Jp (id:=0) ?_)|go_values|go_skip|go_guarded|go_step|go_upon|go_back)
 refine Stop.mk (wp_region_lit ?_);refine JR rfl rfl ?_;intro w1 hA hb hl;refine nm ?_;have HA:Hid (BAt w1 w.heap.size b sv):=Zh ⟨hA,HWb.out⟩;have HB:=Zh hb;clear hA hb hl;refine tk (.bool false) ?_;go_upto_region 1 with fail
 go_cut [3] from 6 to 20 (fun s3 wx=>s3=.bool b.plain∧w1=wx)
 case first =>
  have c34:=HA.c34;have c35:=HA.c35.trans (congrArg some HSVb.out);have c36:=HA.c36
  by_cases h1:b.off=0 <;> by_cases h2:b.bytes.length=0
  all_goals
   go_wp2_with fail
   go_meet
   exact⟨congrArg Value.bool (by simp [qK,h1,h2,XT]),rfl⟩
 case rest =>
 obtain⟨rfl,rfl⟩:=hcut;have HPL:=Zh (show b.plain=b.plain from rfl);obtain⟨q3,hq3⟩:∃q,b.plain=q:=⟨_,rfl⟩
 obtain⟨q4,hq4⟩:∃q,decide (b.heads=zeros 8)=q:=⟨_,rfl⟩
 obtain⟨qp,hqp⟩:∃q,decide (b.page=zeros 32)=q:=⟨_,rfl⟩
 rw [hq3];rw [hq4] at HE;rw [hqp] at HP;have HQ3:=Zh hq3;have HQ4:=Zh hq4;have HQP:=Zh hqp;clear hq3 hq4 hqp
 repeat (first|(with_reducible refine Jp (id:=2) ?_)|go_values|go_skip|go_guarded|go_step|go_upon|go_back)
 refine Stop.mk (wp_region_lit ?_);refine tk (.pointer (some ⟨w.heap.size,37,none⟩)) ?_;refine QX (cs:=(Js b.heads).toArray) HA.heads HHS.out rfl rfl ?_;refine nm ?_;refine Jh (YH _) rfl ?_;refine nm ?_;refine tk (.bool q4) ?_ (hr:=by have he:=HE.out;go_simp);refine tk (.bool q4) ?_;refine Zn ?_;have c0:=HA.c0;rw [HK.out] at c0
 repeat (first|(with_reducible refine Jp (id:=7) ?_)|go_values|go_skip|go_guarded|go_step|go_upon|go_back)
 refine Stop.mk (wp_region_lit ?_);refine tk (.pointer (some ⟨w.heap.size,1,none⟩)) ?_;refine tk (.int .i64 b.id) ?_ (hr:=by have hq:=HA.c1;go_simp)
 by_cases h1:0≤b.id
 case neg =>
  refine tk (.bool false) ?_
  go_wp2_with fail
  go_ret;exact⟨J6 (KH fun hg=>by have hi:=(KG HK.out).1 hg;have e3:=HQ3.out;have e4:=HQ4.out;have ep:=HQP.out;simp only [e3,e4,ep] at hi;first|(simp at hi;done)|omega|simp_all),HB.out⟩
 refine tk (.bool true) ?_;refine tk (.bool true) ?_;refine tk (.pointer (some ⟨w.heap.size,1,none⟩)) ?_;refine tk (.int .i64 b.id) ?_ (hr:=by have hq:=HA.c1;go_simp)
 by_cases h2:b.id<64
 case neg =>
  refine tk (.bool false) ?_
  go_wp2_with fail
  go_ret;exact⟨J6 (KH fun hg=>by have hi:=(KG HK.out).1 hg;have e3:=HQ3.out;have e4:=HQ4.out;have ep:=HQP.out;simp only [e3,e4,ep] at hi;first|(simp at hi;done)|omega|simp_all),HB.out⟩
 refine tk (.bool true) ?_;refine tk (.bool true) ?_;refine tk (.bool true) ?_;refine tk (.pointer (some ⟨w.heap.size,2,none⟩)) ?_;refine KU (cs:=(u8s b.page).toArray) HA.page HPS.out rfl rfl ?_;refine nm ?_;refine Jh (Qo _) rfl ?_;refine nm ?_;refine tk (.bool qp) ?_ (hr:=by have he:=HP.out;go_simp);refine tk (.bool qp) ?_;cases qp
 case false =>
  refine tk (.bool false) ?_
  go_wp2_with fail
  go_ret;exact⟨J6 (KH fun hg=>by have hi:=(KG HK.out).1 hg;have e3:=HQ3.out;have e4:=HQ4.out;have ep:=HQP.out;simp only [e3,e4,ep] at hi;first|(simp at hi;done)|omega|simp_all),HB.out⟩
 refine tk (.bool true) ?_;cases q4
 case false =>
  refine tk (.bool false) ?_
  go_wp2_with fail
  go_ret;exact⟨J6 (KH fun hg=>by have hi:=(KG HK.out).1 hg;have e3:=HQ3.out;have e4:=HQ4.out;have ep:=HQP.out;simp only [e3,e4,ep] at hi;first|(simp at hi;done)|omega|simp_all),HB.out⟩
 refine tk (.bool true) ?_;refine tk (.bool true) ?_;refine tk (.bool true) ?_;refine tk (.pointer (some ⟨w.heap.size,34,none⟩)) ?_;refine tk (.int .i64 b.off) ?_ (hr:=by have hq:=HA.c34;go_simp)
 by_cases h3:0≤b.off
 case neg =>
  refine tk (.bool false) ?_
  go_wp2_with fail
  go_ret;exact⟨J6 (KH fun hg=>by have hi:=(KG HK.out).1 hg;have e3:=HQ3.out;have e4:=HQ4.out;have ep:=HQP.out;simp only [e3,e4,ep] at hi;first|(simp at hi;done)|omega|simp_all),HB.out⟩
 refine tk (.bool true) ?_;refine tk (.bool true) ?_;refine tk (.bool true) ?_;refine tk (.pointer (some ⟨w.heap.size,34,none⟩)) ?_;refine tk (.int .i64 b.off) ?_ (hr:=by have hq:=HA.c34;go_simp)
 by_cases h4:b.off<32
 case neg =>
  refine tk (.bool false) ?_
  go_wp2_with fail
  go_ret;exact⟨J6 (KH fun hg=>by have hi:=(KG HK.out).1 hg;have e3:=HQ3.out;have e4:=HQ4.out;have ep:=HQP.out;simp only [e3,e4,ep] at hi;first|(simp at hi;done)|omega|simp_all),HB.out⟩
 refine tk (.bool true) ?_;refine tk (.bool true) ?_;refine tk (.bool true) ?_;refine tk (.pointer (some ⟨w.heap.size,35,none⟩)) ?_;refine tk (.slice ab b.bytes.length capb) ?_ (hr:=by have hq:=HA.c35.trans (congrArg some HSVb.out);go_simp);refine tk (.int .i64 (b.bytes.length)) ?_
 by_cases h5:(1:Int)≤b.bytes.length
 case neg =>
  refine tk (.bool false) ?_
  go_wp2_with fail
  go_ret;exact⟨J6 (KH fun hg=>by have hi:=(KG HK.out).1 hg;have e3:=HQ3.out;have e4:=HQ4.out;have ep:=HQP.out;simp only [e3,e4,ep] at hi;first|(simp at hi;done)|omega|simp_all),HB.out⟩
 refine tk (.bool true) ?_;refine tk (.bool true) ?_;refine tk (.bool true) ?_;refine tk (.pointer (some ⟨w.heap.size,35,none⟩)) ?_;refine tk (.slice ab b.bytes.length capb) ?_ (hr:=by have hq:=HA.c35.trans (congrArg some HSVb.out);go_simp);refine tk (.int .i64 (b.bytes.length)) ?_
 by_cases h6:(b.bytes.length:Int)≤16
 case neg =>
  refine tk (.bool false) ?_
  go_wp2_with fail
  go_ret;exact⟨J6 (KH fun hg=>by have hi:=(KG HK.out).1 hg;have e3:=HQ3.out;have e4:=HQ4.out;have ep:=HQP.out;simp only [e3,e4,ep] at hi;first|(simp at hi;done)|omega|simp_all),HB.out⟩
 refine tk (.bool true) ?_;refine tk (.bool true) ?_;refine tk (.bool true) ?_;refine tk (.pointer (some ⟨w.heap.size,35,none⟩)) ?_;refine tk (.slice ab b.bytes.length capb) ?_ (hr:=by have hq:=HA.c35.trans (congrArg some HSVb.out);go_simp);refine tk (.int .i64 (b.bytes.length)) ?_;refine tk (.pointer (some ⟨w.heap.size,34,none⟩)) ?_;refine tk (.int .i64 b.off) ?_ (hr:=by have hq:=HA.c34;go_simp);refine tk (.int .i64 (32-b.off)) ?_ (hr:=by go_simp;exact JB (by omega) (by omega))
 by_cases h7:(b.bytes.length:Int)≤32-b.off
 case neg =>
  refine tk (.bool false) ?_
  go_wp2_with fail
  go_ret;exact⟨J6 (KH fun hg=>by have hi:=(KG HK.out).1 hg;have e3:=HQ3.out;have e4:=HQ4.out;have ep:=HQP.out;simp only [e3,e4,ep] at hi;first|(simp at hi;done)|omega|simp_all),HB.out⟩
 refine tk (.bool true) ?_;refine tk (.bool true) ?_;refine tk (.bool true) ?_;refine tk (.pointer (some ⟨w.heap.size,36,none⟩)) ?_;refine tk (.int .i64 b.prev) ?_ (hr:=by have hq:=HA.c36;go_simp)
 by_cases h8:b.prev≠0
 case neg =>
  refine tk (.bool false) ?_ (hr:=by simp only [ne_eq,Decidable.not_not] at h8;go_simp)
  go_wp2_with fail
  go_ret;exact⟨J6 (KH fun hg=>by have hi:=(KG HK.out).1 hg;have e3:=HQ3.out;have e4:=HQ4.out;have ep:=HQP.out;simp only [e3,e4,ep] at hi;first|(simp at hi;done)|omega|simp_all),HB.out⟩
 refine tk (.bool true) ?_;refine tk (.bool true) ?_;refine tk (.bool true) ?_;refine tk (.pointer (some ⟨w.heap.size,36,none⟩)) ?_;refine tk (.int .i64 b.prev) ?_ (hr:=by have hq:=HA.c36;go_simp);refine J0 rfl fun K hK=>?_;go_simp;refine (HHD.out _).mono ?_;rintro e w11 ⟨rfl,rfl⟩;refine hK _ _ (nm ?_);clear hK K;refine tk (.bool (JH b.prev)) ?_;refine tk (.bool (JH b.prev)) ?_;go_wp2_with fail
 go_ret;exact⟨J6 (J30 (by rw [KG HK.out,HQP.out,HQ4.out];simp [h1,h2,h3,h4,h5,h6,h7,h8])),HB.out⟩
open Go.RowKit
theorem J02(b:Bk)(sv:Value)(n:Int)(w:World)(hs:BytesAt w sv b.bytes)(hw:b.Wf)(hg:b.good=true)(hk:b.kind=1)(hn:0≤n∧n<4294967296):Calls Tryz.prog 52 #[.agg (b.arr sv),.int .u32 n] w (Zr w (.tuple #[.agg (u8s (b.enc n)).toArray,.int .i64 0])):=by
 have HSZ:=Zh (b.arr_size hw sv);have HW:=Zh hw;have HG:=Zh fun w=>Jex b sv hs.len hw hk w;rw [hg] at HG;obtain⟨hn1,hn2⟩:=hn;obtain⟨_,hi1,hi2⟩:=Q6 hg;have HK:=Zh hk;have HL:=Zh (enc_length hg hw n);have HLL:=Zh (Jhn hw hk n);clear hg hk hw;go_enter Tryz.func52,Tryz.ntmps52
 repeat (first|(with_reducible refine Jp (id:=0) ?_)|go_values|go_skip|go_guarded|go_step|go_upon|go_back)
 refine Stop.mk (wp_region_lit ?_);refine JR rfl rfl ?_;intro wA hA hB hl;refine nm ?_;refine J4 JQ rfl ?_;intro wB hR hB2 hl2;refine nm ?_;refine tk (.int .i64 0) ?_;have H0:Hid (ES w wB w.heap.size wA.heap.size b sv):=Zh ⟨⟨hA.below hB2 hl,HW.out⟩,hR,hB.trans (hB2.mono hB.size),Nat.le_refl _,hl⟩;clear hA hB hl hR hB2 hl2;generalize hgg:w.heap.size=g at *;generalize hrr:wA.heap.size=r at *;have HGG:=Zh hgg;clear hgg hrr wA;refine Zn ?_
 repeat (first|(with_reducible refine Jp (id:=1) ?_)|go_values|go_skip|go_guarded|go_step|go_upon|go_back)
 refine Stop.mk (wp_region_lit ?_);refine JF H0.bat.all HSZ.out rfl rfl ?_;refine nm ?_;refine J0 rfl fun K hK=>?_;go_simp;refine (HG.out _).mono ?_;rintro e w1 ⟨rfl,hb⟩;refine hK _ _ (nm ?_);clear hK K;have H1:=Zh (H0.below hb);clear hb H0;refine tk (.bool false) ?_;go_upto_region 3 with fail
 go_cut [6] from 12 to 22 (fun s6 wx=>∃o,o=s6∧Own wx w1.heap.size o ([1,b.id]++le 4 n)∧Below w1.heap.size w1 wx)
 case first =>
  have HC0:=Zh (fun (wq:World) (hS:Below w1.heap.size w1 wq)=>show wq.cell? ⟨g,0,none⟩=some (.int .i64 1) from by
   have hq:=(H1.bat.below hS H1.bat.lt).c0
   rwa [HK.out] at hq)
  refine J9 (fun wq=>Below w1.heap.size w1 wq) (by kernel_rfl) ?_;have HS:Hid (Below w1.heap.size w1 w1.drew):=Zh (Below.refl _ _).drew;generalize w1.drew=wS at *;refine th 0 12 (.pointer (some ⟨g,0,none⟩)) HS.out ?_;refine th 1 13 (.int .i64 1) HS.out ?_ (hy:=fun wq hS=>by have hq:=HC0.out wq hS;go_simp);refine th 2 14 (.int .u8 1) HS.out ?_ (hy:=fun wq hS=>by go_simp;rfl);refine th 3 15 (.pointer (some ⟨g,1,none⟩)) HS.out ?_;refine th 4 16 (.int .i64 b.id) HS.out ?_ (hy:=fun wq hS=>by have hq:=(H1.bat.below hS H1.bat.lt).c1;go_simp);refine th 5 17 (.int .u8 b.id) HS.out ?_ (hy:=fun wq hS=>by go_simp;exact Zt (by omega) (by omega));refine th 7 19 (.int .u32 n) HS.out ?_;refine Zu 6 8 (by kernel_rfl) rfl rfl rfl rfl (fun K hK=>?_) (fun K hK=>?_)
  · refine Jb (some 18) rfl (.slice (some ⟨wS.heap.size,0,none⟩) 2 2) (wS.alloc (.cells #[.int .u8 1,.int .u8 b.id] 5)) (by go_simp) ?_;have hb1:=(Below.refl wS.heap.size wS).alloc (Nat.le_refl _) (.cells #[.int .u8 1,.int .u8 b.id] 5);have hlit:=Own.lit wS w1.heap.size HS.size [1,b.id] (by simp) _ rfl;generalize (Value.slice (some ⟨wS.heap.size,0,none⟩) 2 2)=lv at *;have HL1:Hid (Own (wS.alloc (.cells #[.int .u8 1,.int .u8 b.id] 5)) w1.heap.size lv [1,b.id]):=Zh hlit;have HS':=Zh (HS.trans (hb1.mono HS.size));have HQ0:=Zh (HS.out);clear HS;have HS:=HS';clear HS';refine hK _ _ HS.out ?_;clear hK K hlit;refine nm ?_;generalize wS.alloc (.cells #[.int .u8 1,.int .u8 b.id] 5)=wD at *;refine Zo 8 fun K hK=>?_;go_simp;refine (YU n ⟨hn1,hn2⟩ wD).mono ?_;rintro e w3 ⟨pv,rfl,hpo,hpb⟩;have HP1:=Zh hpo.bytes;have HL2:=Zh (HL1.below hpb);have HS2:=Zh (HS.trans (hpb.mono HS.size));clear HL1 HS hpo hpb hb1;have HL1:=HL2;have HS:=HS2;clear HL2 HS2;refine hK _ _ HS.out (nm ?_);clear hK K;refine Zo 9 fun K hK=>?_;refine kv _ _ (some 21) rfl rfl HL1.out HS.size HP1.out (by simp [J5]) rfl rfl ?_;intro sv' w' hO hB';have HSF:=Zh (HS.trans hB');have HOF:=Zh hO;refine hK _ _ HSF.out ?_;clear hK K hO hB';refine nm ?_;refine Jl 10 (some 6) sv' rfl rfl (by kernel_rfl) (by kernel_rfl) (by kernel_rfl) (fun _ _ _ h=>h) rfl (fun wq hS=>by go_simp) HSF.out ?_;refine nm ?_;refine Zd ?_
    go_wp2_with fail
    go_meet
    exact⟨_,rfl,HOF.out,HSF.out⟩
  · go_simp;refine (YU n ⟨hn1,hn2⟩ wS).mono ?_;rintro e w3 ⟨pv,rfl,hpo,hpb⟩;have HP0:=Zh hpo.bytes;have HS2:=Zh (HS.trans (hpb.mono HS.size));clear HS hpo hpb;have HS:=HS2;clear HS2;refine hK _ _ HS.out (nm ?_);clear hK K;refine Zo 6 fun K hK=>?_;refine Jb (some 18) rfl (.slice (some ⟨w3.heap.size,0,none⟩) 2 2) (w3.alloc (.cells #[.int .u8 1,.int .u8 b.id] 5)) (by go_simp) ?_;have hb1:=(Below.refl w3.heap.size w3).alloc (Nat.le_refl _) (.cells #[.int .u8 1,.int .u8 b.id] 5);have hlit:=Own.lit w3 w1.heap.size HS.size [1,b.id] (by simp) _ rfl;generalize (Value.slice (some ⟨w3.heap.size,0,none⟩) 2 2)=lv at *;have HL1:Hid (Own (w3.alloc (.cells #[.int .u8 1,.int .u8 b.id] 5)) w1.heap.size lv [1,b.id]):=Zh hlit;have HS':=Zh (HS.trans (hb1.mono HS.size));have HP1:=Zh (HP0.below hb1);clear HS HP0;have HS:=HS';clear HS';refine hK _ _ HS.out ?_;clear hK K hlit hb1;refine nm ?_;generalize w3.alloc (.cells #[.int .u8 1,.int .u8 b.id] 5)=wD at *;refine Zo 9 fun K hK=>?_;refine kv _ _ (some 21) rfl rfl HL1.out HS.size HP1.out (by simp [J5]) rfl rfl ?_;intro sv' w' hO hB';have HSF:=Zh (HS.trans hB');have HOF:=Zh hO;refine hK _ _ HSF.out ?_;clear hK K hO hB';refine nm ?_;refine Jl 10 (some 6) sv' rfl rfl (by kernel_rfl) (by kernel_rfl) (by kernel_rfl) (fun _ _ _ h=>h) rfl (fun wq hS=>by go_simp) HSF.out ?_;refine nm ?_;refine Zd ?_
    go_wp2_with fail
    go_meet
    exact⟨_,rfl,HOF.out,HSF.out⟩
 case rest =>
 obtain⟨s6,rfl,hO3,hB3⟩:=hcut;have HO3:=Zh hO3;have H3:=Zh (H1.below hB3);have HBS:=Zh hB3.size;have HB3:=Zh hB3;clear hO3 hB3;have c0:=H3.bat.c0;rw [HK.out] at c0
 repeat (first|(with_reducible refine Jp (id:=6) ?_)|go_values|go_skip|go_guarded|go_step|go_upon|go_back)
 refine Stop.mk (wp_region_lit ?_);refine Qn s6 rfl (by go_simp) ?_;refine nm ?_;refine tk (.pointer (some ⟨g,2,none⟩)) ?_;refine tk (.slice (some ⟨g,2,none⟩) 32 32) ?_;have hby2:BytesAt _ (.slice (some ⟨g,2,none⟩) b.page.length 32) b.page:=⟨_,32,rfl,fun i x hx=>⟨g,2,rfl,H3.bat.page_at i x hx⟩⟩
 rw [HW.page] at hby2;refine app_L HO3.out HBS.out hby2 (by simp [J5,HW.page]) rfl rfl rfl ?_;intro s7 w7 hO7 hB7;refine nm ?_;have HO7:=Zh hO7;have H7:=Zh (ES.grow H3.out H1.bat.lt H1.res.lt hB7 HBS.out);clear hO7 hB7 hby2;refine Qn s7 rfl (by go_simp) ?_;refine nm ?_;refine Zn ?_
 repeat (first|(with_reducible refine Jp (id:=15) ?_)|go_values|go_skip|go_guarded|go_step|go_upon|go_back)
 refine Stop.mk (wp_region_lit ?_);refine Qn s7 rfl (by go_simp) ?_;refine nm ?_;refine J0 rfl fun K hK=>?_;go_simp;refine (jQ s7 _ (by rw [HLL.out.1];decide) (by rw [HLL.out.1];decide) _ HO7.bytes).mono ?_;rintro e w8 ⟨rfl,hb⟩;rw [HLL.out.2];refine hK _ _ (nm ?_);clear hK K;have HE8:=Zh (H7.below hb);clear hb;refine J3 (cs:=(u8s (b.enc n)).toArray) HE8.res (by rw [J2,HL.out];simp [zeros]) (by rw [J2,HL.out];exact info36) (Ji _) rfl rfl rfl ?_;intro wZ hZ hOZ hlZ;refine nm ?_;refine tk (.int .i64 0) ?_;have HF:=Zh (HE8.bel.trans (hOZ.below HE8.bel.size (fun k hk=>by have:=HE8.g0;have:=HE8.gr;omega)));go_wp2_with fail
 refine bodyPost_ret (v:=.tuple #[.agg (u8s (b.enc n)).toArray,.int .i64 0]) (results_cell_tmp rfl _ _ r 0 _ _ _ rfl rfl Tryz.underlying36 rfl (by rw [J2,HL.out];exact info36) ?_) rfl ⟨rfl,HF.out⟩;exact Blk.all (cs:=(u8s (b.enc n)).toArray) hZ rfl
theorem J03(b:Bk)(sv:Value)(n:Int)(w:World)(hs:BytesAt w sv b.bytes)(hw:b.Wf)(hg:b.good=true)(hk:b.kind=2)(hn:0≤n∧n<4294967296):Calls Tryz.prog 52 #[.agg (b.arr sv),.int .u32 n] w (Zr w (.tuple #[.agg (u8s (b.enc n)).toArray,.int .i64 0])):=by
 have HSZ:=Zh (b.arr_size hw sv);have HW:=Zh hw;have HG:=Zh fun w=>Jey b sv hs.len hw hk w;rw [hg] at HG;obtain⟨hn1,hn2⟩:=hn;obtain⟨_,hi1,hi2⟩:=Q6 hg;have HK:=Zh hk;have HL:=Zh (enc_length hg hw n);have HLL:=Zh (Jho hg hk n);obtain⟨⟨hb1,hb2⟩,⟨ho1,ho2⟩,⟨hp1,hp2⟩,_⟩:=jy hg hk;have HBY:=Zh hs;obtain⟨p,q,cap,hsv,_⟩:=hs.has (by omega);have HSV:=Zh hsv;clear hsv;clear hg hk hw;go_enter Tryz.func52,Tryz.ntmps52
 repeat (first|(with_reducible refine Jp (id:=0) ?_)|go_values|go_skip|go_guarded|go_step|go_upon|go_back)
 refine Stop.mk (wp_region_lit ?_);refine JR rfl rfl ?_;intro wA hA hB hl;refine nm ?_;refine J4 JQ rfl ?_;intro wB hR hB2 hl2;refine nm ?_;refine tk (.int .i64 0) ?_;have H0:Hid (ES w wB w.heap.size wA.heap.size b sv):=Zh ⟨⟨hA.below hB2 hl,HW.out⟩,hR,hB.trans (hB2.mono hB.size),Nat.le_refl _,hl⟩;clear hA hB hl hR hB2 hl2;generalize hgg:w.heap.size=g at *;generalize hrr:wA.heap.size=r at *;have HGG:=Zh hgg;clear hgg hrr wA;refine Zn ?_
 repeat (first|(with_reducible refine Jp (id:=1) ?_)|go_values|go_skip|go_guarded|go_step|go_upon|go_back)
 refine Stop.mk (wp_region_lit ?_);refine JF H0.bat.all HSZ.out rfl rfl ?_;refine nm ?_;refine J0 rfl fun K hK=>?_;go_simp;refine (HG.out _).mono ?_;rintro e w1 ⟨rfl,hb⟩;refine hK _ _ (nm ?_);clear hK K;have H1:=Zh (H0.below hb);clear hb H0;refine tk (.bool false) ?_;go_upto_region 3 with fail
 go_cut [6] from 12 to 22 (fun s6 wx=>∃o,o=s6∧Own wx w1.heap.size o ([2,b.id]++le 4 n)∧Below w1.heap.size w1 wx)
 case first =>
  have HC0:=Zh (fun (wq:World) (hS:Below w1.heap.size w1 wq)=>show wq.cell? ⟨g,0,none⟩=some (.int .i64 2) from by
   have hq:=(H1.bat.below hS H1.bat.lt).c0
   rwa [HK.out] at hq)
  refine J9 (fun wq=>Below w1.heap.size w1 wq) (by kernel_rfl) ?_;have HS:Hid (Below w1.heap.size w1 w1.drew):=Zh (Below.refl _ _).drew;generalize w1.drew=wS at *;refine th 0 12 (.pointer (some ⟨g,0,none⟩)) HS.out ?_;refine th 1 13 (.int .i64 2) HS.out ?_ (hy:=fun wq hS=>by have hq:=HC0.out wq hS;go_simp);refine th 2 14 (.int .u8 2) HS.out ?_ (hy:=fun wq hS=>by go_simp;rfl);refine th 3 15 (.pointer (some ⟨g,1,none⟩)) HS.out ?_;refine th 4 16 (.int .i64 b.id) HS.out ?_ (hy:=fun wq hS=>by have hq:=(H1.bat.below hS H1.bat.lt).c1;go_simp);refine th 5 17 (.int .u8 b.id) HS.out ?_ (hy:=fun wq hS=>by go_simp;exact Zt (by omega) (by omega));refine th 7 19 (.int .u32 n) HS.out ?_;refine Zu 6 8 (by kernel_rfl) rfl rfl rfl rfl (fun K hK=>?_) (fun K hK=>?_)
  · refine Jb (some 18) rfl (.slice (some ⟨wS.heap.size,0,none⟩) 2 2) (wS.alloc (.cells #[.int .u8 2,.int .u8 b.id] 5)) (by go_simp) ?_;have hb1:=(Below.refl wS.heap.size wS).alloc (Nat.le_refl _) (.cells #[.int .u8 2,.int .u8 b.id] 5);have hlit:=Own.lit wS w1.heap.size HS.size [2,b.id] (by simp) _ rfl;generalize (Value.slice (some ⟨wS.heap.size,0,none⟩) 2 2)=lv at *;have HL1:Hid (Own (wS.alloc (.cells #[.int .u8 2,.int .u8 b.id] 5)) w1.heap.size lv [2,b.id]):=Zh hlit;have HS':=Zh (HS.trans (hb1.mono HS.size));have HQ0:=Zh (HS.out);clear HS;have HS:=HS';clear HS';refine hK _ _ HS.out ?_;clear hK K hlit;refine nm ?_;generalize wS.alloc (.cells #[.int .u8 2,.int .u8 b.id] 5)=wD at *;refine Zo 8 fun K hK=>?_;go_simp;refine (YU n ⟨hn1,hn2⟩ wD).mono ?_;rintro e w3 ⟨pv,rfl,hpo,hpb⟩;have HP1:=Zh hpo.bytes;have HL2:=Zh (HL1.below hpb);have HS2:=Zh (HS.trans (hpb.mono HS.size));clear HL1 HS hpo hpb hb1;have HL1:=HL2;have HS:=HS2;clear HL2 HS2;refine hK _ _ HS.out (nm ?_);clear hK K;refine Zo 9 fun K hK=>?_;refine kv _ _ (some 21) rfl rfl HL1.out HS.size HP1.out (by simp [J5]) rfl rfl ?_;intro sv' w' hO hB';have HSF:=Zh (HS.trans hB');have HOF:=Zh hO;refine hK _ _ HSF.out ?_;clear hK K hO hB';refine nm ?_;refine Jl 10 (some 6) sv' rfl rfl (by kernel_rfl) (by kernel_rfl) (by kernel_rfl) (fun _ _ _ h=>h) rfl (fun wq hS=>by go_simp) HSF.out ?_;refine nm ?_;refine Zd ?_
    go_wp2_with fail
    go_meet
    exact⟨_,rfl,HOF.out,HSF.out⟩
  · go_simp;refine (YU n ⟨hn1,hn2⟩ wS).mono ?_;rintro e w3 ⟨pv,rfl,hpo,hpb⟩;have HP0:=Zh hpo.bytes;have HS2:=Zh (HS.trans (hpb.mono HS.size));clear HS hpo hpb;have HS:=HS2;clear HS2;refine hK _ _ HS.out (nm ?_);clear hK K;refine Zo 6 fun K hK=>?_;refine Jb (some 18) rfl (.slice (some ⟨w3.heap.size,0,none⟩) 2 2) (w3.alloc (.cells #[.int .u8 2,.int .u8 b.id] 5)) (by go_simp) ?_;have hb1:=(Below.refl w3.heap.size w3).alloc (Nat.le_refl _) (.cells #[.int .u8 2,.int .u8 b.id] 5);have hlit:=Own.lit w3 w1.heap.size HS.size [2,b.id] (by simp) _ rfl;generalize (Value.slice (some ⟨w3.heap.size,0,none⟩) 2 2)=lv at *;have HL1:Hid (Own (w3.alloc (.cells #[.int .u8 2,.int .u8 b.id] 5)) w1.heap.size lv [2,b.id]):=Zh hlit;have HS':=Zh (HS.trans (hb1.mono HS.size));have HP1:=Zh (HP0.below hb1);clear HS HP0;have HS:=HS';clear HS';refine hK _ _ HS.out ?_;clear hK K hlit hb1;refine nm ?_;generalize w3.alloc (.cells #[.int .u8 2,.int .u8 b.id] 5)=wD at *;refine Zo 9 fun K hK=>?_;refine kv _ _ (some 21) rfl rfl HL1.out HS.size HP1.out (by simp [J5]) rfl rfl ?_;intro sv' w' hO hB';have HSF:=Zh (HS.trans hB');have HOF:=Zh hO;refine hK _ _ HSF.out ?_;clear hK K hO hB';refine nm ?_;refine Jl 10 (some 6) sv' rfl rfl (by kernel_rfl) (by kernel_rfl) (by kernel_rfl) (fun _ _ _ h=>h) rfl (fun wq hS=>by go_simp) HSF.out ?_;refine nm ?_;refine Zd ?_
    go_wp2_with fail
    go_meet
    exact⟨_,rfl,HOF.out,HSF.out⟩
 case rest =>
 obtain⟨s6,rfl,hO3,hB3⟩:=hcut;have HO3:=Zh hO3;have H3:=Zh (H1.below hB3);have HBS:=Zh hB3.size;have HB3:=Zh hB3;clear hO3 hB3;have c0:=H3.bat.c0;rw [HK.out] at c0;go_upto_region 8 with fail
 go_cut [6] from 32 to 45 (fun s7 wx=>∃o,o=s7∧Own wx w1.heap.size o (([2,b.id]++le 4 n)++[b.off,(b.bytes.length:Int)]++b.bytes)∧Below w1.heap.size w1 wx)
 case first =>
  refine J9 (fun wq=>Below w1.heap.size w1 wq) (by kernel_rfl) ?_;have HS:Hid (Below w1.heap.size w1 wc.drew):=Zh HB3.drew;have HO3d:Hid (Own wc.drew w1.heap.size s6 ([2,b.id]++le 4 n)):=Zh HO3.out;generalize wc.drew=wS at *;refine th 0 32 (s6) HS.out ?_;refine th 1 33 (.pointer (some ⟨g,34,none⟩)) HS.out ?_;refine th 2 34 (.int .i64 b.off) HS.out ?_ (hy:=fun wq hS=>by have hq:=(H1.bat.below hS H1.bat.lt).c34;go_simp);refine th 3 35 (.int .u8 b.off) HS.out ?_ (hy:=fun wq hS=>by go_simp;exact Zt (by omega) (by omega));refine th 4 36 (.pointer (some ⟨g,35,none⟩)) HS.out ?_;refine th 5 37 (.slice (some ⟨p,q,none⟩) b.bytes.length cap) HS.out ?_ (hy:=fun wq hS=>by have hq:=((H1.bat.below hS H1.bat.lt).c35).trans (congrArg some HSV.out);go_simp);refine th 6 38 (.int .i64 (b.bytes.length:Int)) HS.out ?_;refine th 7 39 (.int .u8 (b.bytes.length:Int)) HS.out ?_ (hy:=fun wq hS=>by go_simp;exact Zt (by omega) (by omega));refine th 10 42 (.pointer (some ⟨g,35,none⟩)) HS.out ?_;refine th 11 43 (.slice (some ⟨p,q,none⟩) b.bytes.length cap) HS.out ?_ (hy:=fun wq hS=>by have hq:=((H1.bat.below hS H1.bat.lt).c35).trans (congrArg some HSV.out);go_simp);refine Zo 8 fun K hK=>?_;refine Jb (some 40) rfl (.slice (some ⟨wS.heap.size,0,none⟩) 2 2) (wS.alloc (.cells #[.int .u8 b.off,.int .u8 (b.bytes.length:Int)] 5)) (by go_simp) ?_;have hb1:=(Below.refl wS.heap.size wS).alloc (Nat.le_refl _) (.cells #[.int .u8 b.off,.int .u8 (b.bytes.length:Int)] 5);have hlit:=Own.lit wS w1.heap.size HS.size [b.off,(b.bytes.length:Int)] (by simp) _ rfl;have HS':=Zh (HS.trans (hb1.mono HS.size));have HO3':=Zh (HO3d.below hb1);generalize (Value.slice (some ⟨wS.heap.size,0,none⟩) 2 2)=lv at *;have HL1:Hid (BytesAt (wS.alloc (.cells #[.int .u8 b.off,.int .u8 (b.bytes.length:Int)] 5)) lv [b.off,(b.bytes.length:Int)]):=Zh hlit.bytes;clear hlit hb1;refine hK _ _ HS'.out ?_;clear hK K HS HO3d;refine nm ?_;generalize wS.alloc (.cells #[.int .u8 b.off,.int .u8 (b.bytes.length:Int)] 5)=wD at *;refine Zo 9 fun K hK=>?_;refine kv _ _ (some 41) rfl rfl HO3'.out HS'.out.size HL1.out (by simp [J5]) rfl rfl ?_;intro s8 w8 hO8 hB8;have HS8:=Zh (HS'.out.trans hB8);have HO8:=Zh hO8;refine hK _ _ HS8.out ?_;clear hK K hO8 hB8 HO3' HS' HL1;refine nm ?_;have HYB:=Zh (show BytesAt w8 (.slice (some ⟨p,q,none⟩) b.bytes.length cap) b.bytes from by
   rw [←HSV.out]
   exact (HBY.below (H1.bel)).below HS8.out)
  refine Zo 12 fun K hK=>?_;refine kv _ _ (some 44) rfl rfl HO8.out HS8.size HYB.out (by simp [J5];omega) rfl rfl ?_;intro s9 w9 hO9 hB9;have HS9:=Zh (HS8.trans hB9);have HO9:=Zh hO9;refine hK _ _ HS9.out ?_;clear hK K hO9 hB9 HO8 HS8 HYB;refine nm ?_;refine th 13 6 (s9) HS9.out ?_;refine Zd ?_
  go_wp2_with fail
  go_meet
  exact⟨_,rfl,HO9.out,HS9.out⟩
 case rest =>
 clear HO3 H3 HBS HB3 c0;obtain⟨s7,rfl,hO3,hB3⟩:=hcut;have HO4:=Zh hO3;have HB4:=Zh hB3;clear hO3 hB3;go_upto_region 9 with fail;refine J9 (fun wq=>Below w1.heap.size w1 wq) (by kernel_rfl) ?_;have HS:Hid (Below w1.heap.size w1 wc.drew):=Zh HB4.drew;have HO4d:Hid (Own wc.drew w1.heap.size s7 (([2,b.id]++le 4 n)++[b.off,(b.bytes.length:Int)]++b.bytes)):=Zh HO4.out;generalize wc.drew=wS at *;refine th 0 45 (s7) HS.out ?_;refine th 1 46 (.pointer (some ⟨g,35,none⟩)) HS.out ?_;refine th 2 47 (.slice (some ⟨p,q,none⟩) b.bytes.length cap) HS.out ?_ (hy:=fun wq hS=>by have hq:=((H1.bat.below hS H1.bat.lt).c35).trans (congrArg some HSV.out);go_simp);refine th 3 48 (.int .i64 (b.bytes.length:Int)) HS.out ?_;refine th 4 49 (.int .i64 ((16-b.bytes.length:Nat):Int)) HS.out ?_ (hy:=fun wq hS=>by go_simp;rw [JB (by omega) (by omega)];omega);refine th 6 51 (.pointer (some ⟨g,36,none⟩)) HS.out ?_;refine th 7 52 (.int .i64 b.prev) HS.out ?_ (hy:=fun wq hS=>by have hq:=(H1.bat.below hS H1.bat.lt).c36;go_simp);refine th 8 53 (.int .u32 b.prev) HS.out ?_ (hy:=fun wq hS=>by go_simp;exact j7 (by omega) (by omega));refine Zo 5 fun K hK=>?_;refine Jby _ _ (some 50) rfl rfl HO4d.out (by simp) HS.size (by simp [J5];omega) rfl rfl ?_;intro s8 w8 hO8 hB8;have HS8:=Zh (HS.trans hB8);have HO8:=Zh hO8;refine hK _ _ HS8.out ?_;clear hK K hB8 hO8;refine nm ?_;refine Zo 9 fun K hK=>?_;go_simp;refine (J6x b.prev ⟨by omega,by omega⟩ w8).mono ?_;rintro e w3 ⟨pv,rfl,hpo,hpb⟩;have HP1:=Zh hpo.bytes;have HO8':=Zh (HO8.below hpb);have HS8':=Zh (HS8.trans (hpb.mono HS8.size));clear HO8 HS8 hpo hpb;have HO8:=HO8';have HS8:=HS8';refine hK _ _ HS8.out (nm ?_);clear hK K;refine Zo 10 fun K hK=>?_;refine kv _ _ (some 55) rfl rfl HO8.out HS8.size HP1.out (by simp [J5,J1];omega) rfl rfl ?_;intro s9 w9 hO9 hB9;have HS9:=Zh (HS8.trans hB9);have HO9:=Zh hO9;refine hK _ _ HS9.out ?_;clear hK K hO9 hB9;refine nm ?_;refine th 11 6 (s9) HS9.out ?_;refine Zd ?_;have H5:=Zh (H1.below HS9.out)
 repeat (first|(with_reducible refine Jp (id:=15) ?_)|go_values|go_skip|go_guarded|go_step|go_upon|go_back)
 refine Stop.mk (wp_region_lit ?_);refine Qn s9 rfl (by go_simp) ?_;refine nm ?_;refine J0 rfl fun K hK=>?_;go_simp;refine (jQ s9 _ (by rw [HLL.out.1];decide) (by rw [HLL.out.1];decide) _ HO9.bytes).mono ?_;rintro e w8 ⟨rfl,hb⟩;rw [HLL.out.2];refine hK _ _ (nm ?_);clear hK K;have HE8:=Zh (H5.below hb);clear hb;refine J3 (cs:=(u8s (b.enc n)).toArray) HE8.res (by rw [J2,HL.out];simp [zeros]) (by rw [J2,HL.out];exact info36) (Ji _) rfl rfl rfl ?_;intro wZ hZ hOZ hlZ;refine nm ?_;refine tk (.int .i64 0) ?_;have HF:=Zh (HE8.bel.trans (hOZ.below HE8.bel.size (fun k hk=>by have:=HE8.g0;have:=HE8.gr;omega)));go_wp2_with fail
 refine bodyPost_ret (v:=.tuple #[.agg (u8s (b.enc n)).toArray,.int .i64 0]) (results_cell_tmp rfl _ _ r 0 _ _ _ rfl rfl Tryz.underlying36 rfl (by rw [J2,HL.out];exact info36) ?_) rfl ⟨rfl,HF.out⟩;exact Blk.all (cs:=(u8s (b.enc n)).toArray) hZ rfl
open Go.RowKit
end R4
open Go.RowKit
variable {F:Nat→Prop} {W0:World} {X:List (List Int)} {b i n:Nat} {p:Int}
inductive Ro (X:List (List Int)) (k:Int):List (Int×Bk)→List Int→Prop where
 | one {b:Bk}:b.kind=1→Kr X WG k 4=some b→Ro X k [(4,b)] b.page
 | more {L:List (Int×Bk)} {p:List Int} {b:Bk}:Ro X k L p→b.kind=2→b.prev=3+L.length→Kr X WG k (4+L.length)=some b→Ro X k ((4+(L.length:Int),b)::L) (Jz p b.off.toNat b.bytes)
theorem Ro.pos{k:Int}{L:List (Int×Bk)}{p:List Int}(h:Ro X k L p):0<L.length:=by cases h <;> simp
theorem Ro.chain{k:Int}{L:List (Int×Bk)}{p:List Int}(h:Ro X k L p):∀n,Jm X WG k n (3+L.length)=if L.length≤n then some L else none:=by
 induction h with
 | @one b hk hb =>
  intro n;rw [show (3+(([((4:Int),b)]:List (Int×Bk)).length:Int))=4 by simp];cases n with
  | zero=>simp [Jm]
  | succ n=>rw [KM (by decide) hb,if_pos hk,if_pos (by simp)]
 | @more L p b hr hk hp hb ih =>
  intro n;rw [show (3+((((4+(L.length:Int),b)::L).length:Nat):Int))=4+(L.length:Int) by simp;omega];cases n with
  | zero=>simp [Jm];omega
  | succ n =>
   rw [KM (by omega) hb,if_neg (by omega),hp,ih n]
   by_cases hn:L.length≤n
   · rw [if_pos hn,if_pos (by simp;omega)];rfl
   · rw [if_neg hn,if_neg (by simp;omega)];rfl
theorem Ro.comes{k:Int}{L:List (Int×Bk)}{p:List Int}(h:Ro X k L p):Fo.comes (L.map (·.2))=p:=by
 induction h with
 | @one b hk hb=>simp [Fo.comes,Bk.over,hk]
 | @more L p b hr hk hp hb ih =>
  have:Fo.comes (((4+(L.length:Int),b)::L).map (·.2))=b.over (Fo.comes (L.map (·.2))):=rfl;rw [this,ih];exact if_neg (by omega)
theorem Ro.ends{k:Int}{L:List (Int×Bk)}{p:List Int}(h:Ro X k L p):(L.map (·.1))[0]? = some (3+(L.length:Int))∧(L.map (·.1))[L.length-1]? = some 4:=by
 induction h with
 | @one b hk hb=>simp
 | @more L p b hr hk hp hb ih =>
  have:=hr.pos;refine⟨by simp;omega,?_⟩;rw [List.map_cons,List.length_cons,show L.length+1-1=(L.length-1)+1 by omega,List.getElem?_cons_succ];exact ih.2
theorem Ro.other{k k':Int}{L:List (Int×Bk)}{p:List Int}(h:Ro X k L p)(hk:k'≠k)(n:Nat):Jm X WG k' n (3+L.length)=none:=by
 have key:∀{q:Int} {b:Bk},Kr X WG k q=some b→Kr X WG k' q=none:=fun {q b} hb=>by
  cases hc:Kr X WG k' q with
  | none=>rfl
  | some c =>
   exfalso;have h1:=(QT hb).2.2.2;have h2:=(QT hc).2.2.2;rw [ZW] at hb hc;obtain⟨x,hx,hb⟩:=Option.bind_eq_some_iff.1 hb;obtain⟨y,hy,hc⟩:=Option.bind_eq_some_iff.1 hc;rw [hx] at hy;cases hy;split at hb
   · split at hc
     · cases hb;cases hc;exact hk (h2.symm.trans h1)
     · cases hc
   · cases hb
 cases h with
 | @one b hk hb =>
  rw [show (3+(([((4:Int),b)]:List (Int×Bk)).length:Int))=4 by simp];exact QJ (by decide) (key hb)
 | @more L p b hr hk hp hb =>
  rw [show (3+((((4+(L.length:Int),b)::L).length:Nat):Int))=4+(L.length:Int) by simp;omega];exact QJ (by omega) (key hb)
theorem xp{g:Pl.Gm}{k:Int}{y:List Int}(hp:p.toNat≠n):Kr (X.set n y) g k p=Kr X g k p:=by
 have e:(X.set n y).getD p.toNat []=X.getD p.toNat []:=by rw [List.getD_eq_getElem?_getD,List.getD_eq_getElem?_getD,List.getElem?_set_ne (Ne.symm hp)]
 unfold Kr;rw [e]
theorem Ro.keep{k:Int}{L:List (Int×Bk)}{p:List Int}(h:Ro X k L p){y:List Int}(hn:4+L.length≤n):Ro (X.set n y) k L p:=by
 induction h with
 | @one b hk hb=>exact .one hk ((xp (by simp at hn;omega)).trans hb)
 | @more L p b hr hk hp hb ih =>
  simp only [List.length_cons] at hn;exact .more (ih (by omega)) hk hp ((xp (by omega)).trans hb)
theorem xq{p:Nat}{b:Bk}(h4:4≤p)(hp:p<196)(hX:X[p]? = some (b.enc 9))(hg:b.good=true)(hw:b.Wf)(h3:b.kind≠3):Kr X WG b.id (p:Int)=some b:=by
 have eX:X.getD ((p:Int)).toNat []=b.enc 9:=by rw [List.getD_eq_getElem?_getD,Int.toNat_natCast,hX];rfl
 have hb:=Yn hg hw 9 (by decide);have hd:Qb (b.enc 9)=b:=by rw [(ZH hb).1,(ZC hg hw 9 (by decide)).1]
 unfold Kr;rw [eX,hd,if_pos ⟨⟨by omega,by show (p:Int)≤4+8*24-1;omega⟩,hb,h3,rfl⟩]
def imB(k:Int)(p:List Int):Bk:=⟨1,k,p,0,[],0,zeros 8⟩
def dlB(k o v h:Int):Bk:=⟨2,k,zeros 32,o,[v],h,zeros 8⟩
theorem J42:Jk 0:=⟨by decide,by decide⟩
theorem Jhd{k:Int}{p:List Int}(hk:0≤k∧k<16)(hp:p.length=32)(hb:∀x∈p,K7 x):(imB k p).Wf :=
 ⟨show Jk 1 from ⟨by decide,by decide⟩,show Jk k from ⟨by omega,by omega⟩,J42,J42,hp,hb,Nat.zero_le _,fun x hx=>(by cases hx),rfl,QO 8⟩
theorem Jbn{k:Int}{p:List Int}(hk:0≤k∧k<16):(imB k p).good=true:=by
 have h1:within k 0 63=true:=by simp [within];omega
 show (within k 0 63&&true&&true)=true;rw [h1];rfl
theorem Jhe{k o v h:Int}(hk:0≤k∧k<16)(ho:0≤o∧o<32)(hv:K7 v)(hh:4≤h∧h≤1000):(dlB k o v h).Wf :=
 ⟨show Jk 2 from ⟨by decide,by decide⟩,show Jk k from ⟨by omega,by omega⟩,show Jk o from ⟨by omega,by omega⟩,show Jk h from ⟨by omega,by omega⟩,rfl,Kn _,by show 1≤9223372036854775807;decide,fun x hx=>by obtain rfl:=List.mem_singleton.1 hx;exact hv,rfl,QO 8⟩
theorem Jbo{k o v h:Int}(hk:0≤k∧k<16)(ho:0≤o∧o<32)(hh:4≤h∧h≤1000):(dlB k o v h).good=true:=by
 have h1:within k 0 63=true:=by simp [within];omega
 have h2:within o 0 (32-((1:Nat):Int))=true:=by simp [within];omega
 have h3:JH h=true:=by simp [JH];omega
 have h4:decide (h≠0)=true:=by simp;omega
 show (within k 0 63&&(true&&within o 0 (32-((1:Nat):Int))&&JH h&&decide (h≠0))&&true&&true)=true;rw [h1,h2,h3,h4];rfl
theorem Jbp{p:List Int}{o:Nat}{v:Int}(ho:o<p.length):Jz p o [v]=p.set o v:=by
 rw [List.set_eq_take_append_cons_drop,if_pos ho];unfold Jz;rw [List.append_assoc];rfl
structure Dk (d:De.D) (X:List (List Int)) (n:Nat):Prop where
 img:Img d X
 len:X.length=200
 t:d.T=n
 l:d.L.length=n
 f:d.F=-1
theorem dk_new:Dk (De.Xj 200) (List.replicate 200 (zeros 64)) 0:=⟨J3k 200,List.length_replicate,rfl,rfl,rfl⟩
theorem Dk.put{d:De.D}(h:Dk d X n)(hi:i<200){y:List Int}(hy:Sc y):d.writeE (i:Int)=0∧Dk (d.write (i:Int) (u8s y).toArray) (X.set i y) (n+1):=by
 have hs:=h.img.len.trans h.len;have hh:d.has (i:Int)=true:=by unfold De.D.has;rw [hs];simp;omega
 have hf:=h.f;have e:d.writeE (i:Int)=0:=by unfold De.D.writeE;rw [if_pos hh,if_neg (by omega)]
 refine⟨e,h.img.write hy e,by simp [h.len],?_,?_,?_⟩ <;> unfold De.D.write <;> rw [if_pos hh,if_neg (by omega)]
 · simp [h.t]
 · simp [h.l]
 · show d.nextF=-1;unfold De.D.nextF;rw [if_pos (by omega),hf]
theorem J2r{k:Int}(hk:0≤k∧k<16){L:List (Int×Bk)}{p:List Int}(hr:Ro X k L p)(hl:L.length≤3){h:Int}(he:h=3+(L.length:Int)){d:De.D}(hn:n≤100)(hD:Dk d X n)(w:World)(hv:Vars w)(hd:De.Dv W0 w b F d):Calls Tryz.prog 13 #[.pointer (some ⟨b,0,none⟩),WG.v,.int .i64 k,.int .i64 h] w fun e w'=>(∃sv,e=.returned (.tuple #[.agg (chC sv p).toArray,.int .i64 0])∧OwnN w' w.heap.size sv (L.map (·.1)))∧Below w.heap.size w w':=by
 subst he;have q:=jx WG k (3+L.length) ⟨by omega,by omega⟩ w hv hd (by rw [hD.l];omega) hD.img;have e:Jm X WG k 3 (3+L.length)=some L:=by rw [hr.chain 3,if_pos hl]
 rw [e,hD.len] at q;refine q.mono fun e' w' hq=>⟨?_,hq.2⟩
 have h1:=hq.1;have e1:chE X ((200:Nat):Int) WG k (3+L.length)=0:=by
  unfold chE;rw [if_neg (not_not_intro ⟨by decide,⟨hk.1,hk.2⟩,by decide⟩),if_neg (by omega),e];rfl
 rw [e1] at h1;have h2:∃sv,e'=.returned (.tuple #[.agg (chC sv (Fo.comes (L.map (·.2)))).toArray,.int .i64 0])∧OwnN w' w.heap.size sv (L.map (·.1)):=h1
 rwa [hr.comes] at h2
theorem Xt{k h:Int}(hk:0≤k∧k<16)(hh:4≤h∧h≤1000)(hc:Jm X WG k 3 h=none){d:De.D}(hn:n≤100)(hD:Dk d X n)(w:World)(hv:Vars w)(hd:De.Dv W0 w b F d):Calls Tryz.prog 13 #[.pointer (some ⟨b,0,none⟩),WG.v,.int .i64 k,.int .i64 h] w (Zr w (.tuple #[.agg chZ.toArray,.int .i64 13])):=by
 have q:=jx WG k h ⟨by omega,by omega⟩ w hv hd (by rw [hD.l];omega) hD.img;rw [hc,hD.len] at q;refine q.mono fun e' w' hq=>⟨?_,hq.2⟩
 have h1:=hq.1;have e1:chE X ((200:Nat):Int) WG k h=13:=by
  unfold chE;rw [if_neg (not_not_intro ⟨by decide,⟨hk.1,hk.2⟩,by decide⟩),if_neg (by omega),hc];rfl
 rw [e1] at h1;exact h1
open Go.RowKit Rn
theorem J2s(b:Bk)(sv:Value)(n:Int)(w:World)(hs:BytesAt w sv b.bytes)(hw:b.Wf)(hg:b.good=true)(hk:b.kind=1∨b.kind=2)(hn:0≤n∧n<4294967296):Calls Tryz.prog 52 #[.agg (b.arr sv),.int .u32 n] w (Zr w (.tuple #[.agg (u8s (b.enc n)).toArray,.int .i64 0])):=by
 rcases hk with k|k
 · exact R4.J02 b sv n w hs hw hg k hn
 · exact R4.J03 b sv n w hs hw hg k hn
theorem J04(b:Bk)(sv:Value)(w:World)(hs:BytesAt w sv b.bytes)(hw:b.Wf)(hg:b.good=true)(hk:b.kind=1∨b.kind=2):Calls Tryz.prog 31 #[.agg (b.arr sv)] w (Zr w (.agg (u8s (b.enc 9)).toArray)):=by
 have H:=Rn.St.start (Stays.below w) (Below.refl _ _);have HS:=Zh hs;have HW:=Zh hw;have HSL:=Zh (Bytes.sl hs);have HG:=Zh hg;have HK:=Zh hk;have HEL:Hid ((b.enc 9).length=64):=Zh (xt hg hw 9).length;clear hs hw hg hk;go_enter Tryz.func31,Tryz.ntmps31;go_upto_region 0 with fail;refine Zl ?_;refine bx H ?_ (hns:=(Jv HW.out HSL.out).ns);clear H;intro g1 w1 H;refine al JQ H ?_ (hns:=(Qz (J1 64)).ns);clear H;intro g2 w2 H;go_upto_region 1 with fail;refine Zl ?_;refine ldO (Jv HW.out HSL.out) H 0 ?_;refine J0 rfl fun K hK=>?_;go_simp;refine (J2s b sv 9 _ (HS.below H.ex) HW.out HG.out HK.out (by decide)).mono ?_;rintro e w3 ⟨rfl,hb⟩;replace H:=H.call hb;clear hb;refine hK _ _ (nm ?_);clear hK K;refine tk (.tuple #[.agg (u8s (b.enc 9)).toArray,.int .i64 0]) ?_;refine tk (.agg (u8s (b.enc 9)).toArray) ?_;refine tk (.int .i64 0) ?_;refine al JQ H ?_ (hns:=(Qz (J1 64)).ns);clear H;intro g4 w4 H;refine stO (Qz HEL.out) (Ob.len (Qz HEL.out) (Qz (J1 64))) H 2 ?_;clear H;intro w4 H;refine tk (.int .i64 0) ?_;go_upto_region 2 with fail;refine Zl ?_;refine ldO (Qz HEL.out) H 2 ?_;refine stO (Qz HEL.out) (Ob.len (Qz HEL.out) (Qz (J1 64))) H 1 ?_;clear H;intro w4 H;go_wp2_with fail
 exact bodyPost_ret (v:=.agg (u8s (b.enc 9)).toArray) (Jo rfl _ _ g2 0 _ _ rfl Tryz.underlying36 rfl (by rw [J2,HEL.out];exact info36) (Blk.all (H.blk 1 _ _ rfl) rfl)) rfl ⟨rfl,H.ex⟩
open Go.RowKit Rn
theorem J6y{l:List Int}(h:l.length=32):∃x0 x1 x2 x3 x4 x5 x6 x7 x8 x9 x10 x11 x12 x13 x14 x15 x16 x17 x18 x19 x20 x21 x22 x23 x24 x25 x26 x27 x28 x29 x30 x31,l=[x0,x1,x2,x3,x4,x5,x6,x7,x8,x9,x10,x11,x12,x13,x14,x15,x16,x17,x18,x19,x20,x21,x22,x23,x24,x25,x26,x27,x28,x29,x30,x31]:=by
 match l,h with
 | [x0,x1,x2,x3,x4,x5,x6,x7,x8,x9,x10,x11,x12,x13,x14,x15,x16,x17,x18,x19,x20,x21,x22,x23,x24,x25,x26,x27,x28,x29,x30,x31],_=>exact⟨x0,x1,x2,x3,x4,x5,x6,x7,x8,x9,x10,x11,x12,x13,x14,x15,x16,x17,x18,x19,x20,x21,x22,x23,x24,x25,x26,x27,x28,x29,x30,x31,rfl⟩
theorem Jbq(k:Int){p:List Int}(h:p.length=32):Tryz.prog.built 82 [(0,.int .i64 1),(1,.int .i64 k),(2,.agg (u8s p).toArray)]=some ((imB k p).arr (.slice none 0 0)):=by
 obtain⟨x0,x1,x2,x3,x4,x5,x6,x7,x8,x9,x10,x11,x12,x13,x14,x15,x16,x17,x18,x19,x20,x21,x22,x23,x24,x25,x26,x27,x28,x29,x30,x31,rfl⟩:=J6y h;kernel_rfl
theorem Jbr(k off v h:Int)(a:Option Addr)(n c:Nat):Tryz.prog.built 82 [(0,.int .i64 2),(1,.int .i64 k),(3,.int .i64 off),(4,.slice a n c),(5,.int .i64 h)]=some ((dlB k off v h).arr (.slice a n c)):=by kernel_rfl
def J43(w:World)(sv:Value)(l:List (Int×Int)):Prop:=∃a cap,sv=.slice a l.length cap∧∀i x,l[i]? = some x→∃g o,a=some ⟨g,o,none⟩∧w.cell? ⟨g,o+i*2,none⟩=some (.int .u8 x.1)∧w.cell? ⟨g,o+i*2+1,none⟩=some (.int .u8 x.2)
theorem Jii(w:World)(v:Int):(Instr.buildSlice 80 1 #[(0,.int .u8 v)]).run Tryz.prog w=.ok (.slice (some ⟨w.heap.size,0,none⟩) 1 1) (w.alloc (.cells #[.int .u8 v] 5)):=by
 kernel_rfl
theorem Jix(u:World)(x y:Operand)(a b:Array Value):(eqGuard .eql 43 x y (.agg a) (.agg b)).run Tryz.prog u=.ok () u:=by
 unfold eqGuard;simp [go_sem]
theorem Jbs(u:World)(ev:Operand→Value)(o:Oper)(x y:Operand)(l:List Int)(hl:l.length=32)(h1:ev x=.agg (u8s l).toArray)(h2:ev y=.agg (u8s l).toArray)(ho:o.op=.binOp .eql 43 x y 43):(execOp ev o).run Tryz.prog u=.ok (.value (.bool true)) u:=by
 have hq:=qF u l l hl hl;rw [decide_eq_true rfl] at hq;unfold execOp;simp only [ho,Sem.run_bind,h1,h2,Jix,hq,Result.andThen_ok,Sem.run_pure]
theorem Jhf(w:World):BytesAt w (.slice none 0 0) []:=⟨none,0,rfl,fun i x hx=>by simp at hx⟩
theorem Jhg(w:World)(v:Int):BytesAt (w.alloc (.cells #[.int .u8 v] 5)) (.slice (some ⟨w.heap.size,0,none⟩) 1 1) [v]:=⟨_,_,rfl,fun i x hx=>by
 cases i with
 | zero=>cases hx;exact⟨_,_,rfl,(Blk.new w #[.int .u8 v] 5).cell (i:=0) rfl⟩
 | succ i=>simp at hx⟩
def Inv(w:World)(b:Nat)(k:Int)(g1 g2:Nat)(j:Nat)(wr:World):Prop:=∃pg F d X L,Rn.St w.heap.size F (fun u=>De.Dv w u b F d) [(g1,u8s pg),(g2,[.int .i64 WG.p,.int .i64 WG.s,.int .i64 WG.l,.int .i64 WG.f])] wr∧Dk d X (j+1)∧Ro X k L pg∧L.length=j+1∧pg.length=32∧∀x∈pg,K7 x
theorem J6z(z:Int)(p:List Int)(sv:Value)(l:List (Int×Int))(hz:K7 z)(hpl:p.length=32)(hpb:∀x∈p,K7 x)(w:World)(hs:J43 w sv l)(hb:∀x∈l,K7 x.1∧K7 x.2)(hbig:l.length≤9223372036854775807)(hv:Vars w)(hwk:∀w',Vars w'→Calls Tryz.prog 8 #[] w' fun e w2=>e=.returned (.bool true)∧Below w'.heap.size w' w2):Calls Tryz.prog 7 #[.int .u8 z,.agg (u8s p).toArray,sv] w (Zr w (.bool true)):=by
 obtain⟨sa,cp,rfl,hc⟩:=hs;have H:=Rn.St.start (Stays.below w) (Below.refl _ _);have HV:=Zh hv;have HWK:=Zh hwk;have HPL:=Zh hpl;have HPB:=Zh hpb;have HPC:=Zh hc;have HLB:=Zh hb;obtain⟨m,hm⟩:∃m,l.length=m:=⟨_,rfl⟩
 rw [hm] at hbig ⊢;have HM:=Zh hm;have HBG:=Zh hbig;have hz0:0≤z:=hz.1;have hz1:z<256:=hz.2;obtain⟨k,hk⟩:∃k,z.tmod 16=k:=⟨_,rfl⟩
 have HK:Hid (0≤k∧k<16):=Zh (by rw [←hk];exact⟨Int.tmod_nonneg 16 hz0,Int.tmod_lt_of_pos z (by decide)⟩);have hcv:IntKind.i64.wrap z=z:=JB (by omega) (by omega);clear hz hpl hpb hc hb hm hbig hv hwk;go_enter Tryz.func7,Tryz.ntmps7;go_upto_region 0 with fail;refine Zl ?_;refine bx H ?_ (hns:=(Kz HPL.out).ns);clear H;intro g1 w1 H;refine tk (.bool false) ?_;go_upto_region 1 with fail;refine Zl ?_;refine J0 rfl fun K hK=>?_;go_simp;refine (Pl.qH _).mono ?_;rintro e w2 ⟨rfl,hb⟩;replace H:=H.call hb;clear hb;refine hK _ _ (nm ?_);clear hK K;refine al J1n H ?_ (hns:=(Jg ⟨0,0,0,0⟩).ns);clear H;intro g3 w3 H;refine stO (Jg WG) (Ob.len (Jg WG) (Jg ⟨0,0,0,0⟩)) H 1 ?_;clear H;intro w3 H;refine Zn ?_;have c0:=(H.blk 1 _ _ rfl).cell (i:=0) (v:=.int .i64 16) rfl;go_upto_region 3 with fail;clear c0 hcv;go_upto_region 3 with fail;refine Zl ?_;refine J0 rfl fun K hK=>?_;go_simp;refine (De.J97 w _ H.ex 200 (by decide)).mono ?_;rintro e w4 ⟨b,F,rfl,hd,hb,hF⟩;replace H:=Rn.St.after H (Only.of_below hb) (fun k hk=>.inr (hF k hk)) hd (Stays.dv (Nat.le_refl _));clear hb hd hF;refine hK _ _ (nm ?_);clear hK K;refine tk (.tuple #[.pointer (some ⟨b,0,none⟩),.int .i64 0]) ?_;refine tk (.pointer (some ⟨b,0,none⟩)) ?_;refine tk (.int .i64 0) ?_;refine tk (.pointer (some ⟨b,0,none⟩)) ?_;refine tk (.int .i64 0) ?_;refine Zn ?_
 by_cases hm5:m≤5
 case neg =>
  have g5:decide ((5:Int)<(m:Int))=true:=decide_eq_true (by omega)
  go_wp2_with fail
  refine (HWK.out _ (HV.below (Nat.le_refl _) H.ex.2)).mono ?_;rintro e w99 ⟨rfl,hb⟩;replace H:=H.call hb
  go_wp2_with fail
  go_ret;exact⟨rfl,H.ex.2⟩
 have g5:decide ((5:Int)<(m:Int))=false:=decide_eq_false (by omega);go_upto_region 6 with fail;clear g5;have HM5:=Zh hm5;clear hm5 hz0 hz1 hk;have HD:=Zh dk_new;have HWF:Hid (imB k p).Wf:=Zh (Jhd HK.out HPL.out HPB.out);have HGD:Hid ((imB k p).good=true):=Zh (Jbn HK.out);have HSC:Hid (Sc ((imB k p).enc 9)):=Zh (xt HGD.out HWF.out 9);have HEL:=Zh HSC.length;have hput:=dk_new.put (i:=4) (by decide) HSC.out;have HWE:Hid ((De.Xj 200).writeE 4=0):=Zh hput.1;have HD1:Hid (Dk ((De.Xj 200).write 4 (u8s ((imB k p).enc 9)).toArray) ((List.replicate 200 (zeros 64)).set 4 ((imB k p).enc 9)) 1):=Zh hput.2;have HRO:Hid (Ro ((List.replicate 200 (zeros 64)).set 4 ((imB k p).enc 9)) k [(4,imB k p)] p):=Zh (.one rfl (xq (p:=4) (b:=imB k p) (by decide) (by decide) (by simp) HGD.out HWF.out (show (1:Int)≠3 by decide)));clear hput;go_upto_region 6 with fail;refine Zl ?_;refine tk (.pointer (some ⟨b,0,none⟩)) ?_;refine tk (.int .i64 k) ?_;refine ldO (Kz HPL.out) H 0 ?_;refine tk (.agg ((imB k p).arr (.slice none 0 0))) ?_ (hr:=by exact Jc _ _ _ _ 82 _ rfl #[(0,.int .i64 1),(1,.int .i64 k),(2,.agg (u8s p).toArray)] (by simp [go_sem]) _ (run_build _ 82 _ _ (Jbq k HPL.out)));refine J0 rfl fun K hK=>?_;go_simp;refine (J04 (imB k p) _ _ (Jhf _) HWF.out HGD.out (.inl rfl)).mono ?_;rintro e w5 ⟨rfl,hb⟩;replace H:=H.call hb;clear hb;refine hK _ _ (nm ?_);clear hK K;refine J0 rfl fun K hK=>?_;go_simp;refine (De.Qu H.ex (by rw [HD.t];omega) (by rw [HD.l];omega) 4 _ (J1c HSC.out)).mono ?_;rintro e w6 ⟨F1,rfl,hd,hO,hf⟩;replace H:=Rn.St.after H hO hf hd (Stays.dv (Nat.le_refl _));clear hO hd hf;rw [HWE.out];refine hK _ _ (nm ?_);clear hK K;refine tk (.int .i64 0) ?_;refine Zn ?_;have HI:Inv w b k g1 g3 0 w6:=⟨p,_,_,_,_,H,HD1.out,HRO.out,rfl,HPL.out,HPB.out⟩
 clear H HD HWF HGD HSC HEL HWE HD1 HRO
 go_wp2_with fail
 go_loopg [11,12,13] m (fun q c11 c12 c13 wr=>∃j:Nat,m-j≤q∧j≤m∧c11=.int .i64 0∧c12=.int .i64 (4+(j:Int))∧c13=.int .i64 (j:Int)∧Inv w b k g1 g3 j wr)
 case atStart=>exact⟨0,by omega,by omega,rfl,rfl,rfl,HI⟩
 case round =>
  obtain⟨j,hq,hjm,rfl,rfl,rfl,pg,F0,d,X,L,H,hD,hro,hll,hpgl,hpgb⟩:=hrel;clear HI;have HD:=Zh hD;have HRO:=Zh hro;have HLL:=Zh hll;have HGL:=Zh hpgl;have HGB:=Zh hpgb;have HQ:=Zh hq;have HJM:=Zh hjm;clear hD hro hll hpgl hpgb hq hjm
  by_cases hlt:j<m
  case neg =>
   obtain rfl:j=m:=by have:=HJM.out;omega
   have gk:decide ((j:Int)<(j:Int))=false:=decide_eq_false (by omega);go_upto_region 17 with fail;have HE4:Hid (4+(j:Int)=3+(L.length:Int)):=Zh (by rw [HLL.out];omega)
   by_cases h2:j≤2
   · have H2:=Zh h2;clear h2 gk;have HH4:Hid (4≤4+(j:Int)∧4+(j:Int)≤1000):=Zh (by have:=HM5.out;omega);go_upto_region 17 with fail;refine Zl ?_;refine tk (.pointer (some ⟨b,0,none⟩)) ?_;refine ldO (Jg WG) H 1 ?_;refine tk (.int .i64 k) ?_;refine tk (.int .i64 (4+(j:Int))) ?_;refine J0 rfl fun K hK=>?_;go_simp;refine (J2r HK.out HRO.out (by have:=HLL.out;have:=H2.out;omega) HE4.out (by have:=HM5.out;omega) HD.out _ (HV.below (Nat.le_refl _) H.ex.2) H.ex).mono ?_;rintro e w7 ⟨⟨qv,rfl,ho⟩,hb⟩;have HQS:=Zh ho.sl;have hold:=St.old H;replace H:=St.add (H.call hb) (OwnN.mono ho H.sz) Stays.own fun q hq hk=>by
      obtain⟨jq,hjq⟩:=List.getElem?_of_mem hq;have h1:=hold jq q.1 q.2 hjq;have h2:=(ho.lt q.1 hk).1;omega
     clear ho hb hold;refine hK _ _ (nm ?_);clear hK K;refine tk (.tuple #[.agg (chC qv pg).toArray,.int .i64 0]) ?_;refine tk (.agg (chC qv pg).toArray) ?_;refine tk (.int .i64 0) ?_;refine al Kc H ?_ (hns:=chz_ob.ns);clear H;intro g8 w8 H;refine stO (Ks HQS.out HGL.out) (Ob.len (Ks HQS.out HGL.out) chz_ob) H 2 ?_;clear H;intro w8 H;refine tk (.int .i64 0) ?_;refine Zn ?_;obtain⟨k2,hk2⟩:∃k2,(k+1).tmod 16=k2:=⟨_,rfl⟩
     have HK2:Hid (0≤k2∧k2<16):=Zh (by rw [←hk2];exact⟨Int.tmod_nonneg 16 (by have:=HK.out;omega),Int.tmod_lt_of_pos _ (by decide)⟩);have hne:k2≠k:=by rw [←hk2,Int.tmod_eq_emod_of_nonneg (by have:=HK.out;omega)];have:=HK.out;omega
     have HCO:Hid (Jm X WG k2 3 (4+(j:Int))=none):=Zh (by rw [HE4.out];exact HRO.other hne 3);have HKE:=Zh hk2;have HKW:Hid (IntKind.i64.wrap (k+1)=k+1):=Zh (JB (by have:=HK.out;omega) (by have:=HK.out;omega));clear hk2 hne;go_upto_region 18 with fail
     go_cut [17,18] from 17 to 110 (fun s17 s18 wx=>s18=.int .i64 13∧Rn.St w.heap.size (fun k=>F0 k∨qv.ownBlock=some k) (fun u=>De.Dv w u b F0 d∧OwnN u w.heap.size qv (L.map (·.1))) [(g1,u8s pg),(g3,[.int .i64 WG.p,.int .i64 WG.s,.int .i64 WG.l,.int .i64 WG.f]),(g8,chC qv pg)] wx)
     case first =>
      refine J9 (fun wq=>Rn.St w.heap.size (fun k=>F0 k∨qv.ownBlock=some k) (fun u=>De.Dv w u b F0 d∧OwnN u w.heap.size qv (L.map (·.1))) [(g1,u8s pg),(g3,[.int .i64 WG.p,.int .i64 WG.s,.int .i64 WG.l,.int .i64 WG.f]),(g8,chC qv pg)] wq) (by kernel_rfl) ?_;replace H:=H.drew;generalize w8.drew=w0 at *;refine th 0 99 (.pointer (some ⟨b,0,none⟩)) H ?_;refine th 1 100 (.agg ([.int .i64 WG.p,.int .i64 WG.s,.int .i64 WG.l,.int .i64 WG.f]).toArray) H ?_ (hy:=fun u hS=>Kf (Jg WG) (hS.blk 1 _ _ rfl) _ _ _ rfl rfl);refine th 2 101 (.int .i64 k) H ?_;refine th 3 102 (.int .i64 (k+1)) H ?_ (hy:=fun u hS=>by have hq:=HKW.out;go_simp);refine th 4 103 (.pointer (some ⟨g3,0,none⟩)) H ?_;refine th 5 104 (.int .i64 16) H ?_ (hy:=fun u hS=>by have hq:=(hS.blk 1 _ _ rfl).cell (i:=0) (v:=.int .i64 16) rfl;go_simp);refine th 6 105 (.int .i64 k2) H ?_ (hy:=fun u hS=>by have hq:=HKE.out;go_simp);refine th 7 106 (.int .i64 (4+(j:Int))) H ?_;refine Zu 8 12 (by kernel_rfl) rfl rfl rfl rfl (fun K hK=>?_) (fun K hK=>?_)
      · go_simp;refine (Xt HK2.out HH4.out HCO.out (by have:=HM5.out;omega) HD.out _ (HV.below (Nat.le_refl _) H.ex.1.2) H.ex.1).mono ?_;rintro e wd ⟨rfl,hb⟩;replace H:=H.call hb;clear hb;refine hK _ _ H (nm ?_);clear hK K;refine th 9 98 (.tuple #[.agg chZ.toArray,.int .i64 13]) H ?_;refine th 10 108 (.agg chZ.toArray) H ?_;refine th 11 109 (.int .i64 13) H ?_;refine Zo 12 fun K hK=>?_;refine Jb (some 17) rfl _ _ (Jy _ _ _ 45 rfl _ Kc) ?_;have hA:Blk (wd.alloc (.cells chZ.toArray 45)) wd.heap.size chZ:=Blk.new wd chZ.toArray 45;replace H:=H.new chz_ob.ns hA ((Below.refl _ _).alloc (Nat.le_refl _) _);clear hA;refine hK _ _ (H.cut 3) (nm ?_);clear hK K;generalize wd.alloc (.cells chZ.toArray 45)=we at *;generalize wd.heap.size=g10 at *;refine Zo 13 fun K hK=>?_;refine stH chz_ob (Ob.len chz_ob chz_ob) (H.blk 3 _ _ rfl) ?_;intro wf hD hO;replace H:=St.via H 3 rfl chz_ob.ns hD hO;refine hK _ _ (H.cut 3) (nm ?_);clear hK K;refine th 14 18 (.int .i64 13) (H.cut 3) ?_;refine Zd ?_
        go_wp2_with fail
        go_meet
        exact⟨rfl,H.cut 3⟩
      · refine Jb (some 17) rfl _ _ (Jy _ _ _ 45 rfl _ Kc) ?_;have hA:Blk (w0.alloc (.cells chZ.toArray 45)) w0.heap.size chZ:=Blk.new w0 chZ.toArray 45;replace H:=H.new chz_ob.ns hA ((Below.refl _ _).alloc (Nat.le_refl _) _);clear hA;refine hK _ _ (H.cut 3) (nm ?_);clear hK K;generalize w0.alloc (.cells chZ.toArray 45)=we at *;generalize w0.heap.size=g10 at *;refine Zo 8 fun K hK=>?_;go_simp;refine (Xt HK2.out HH4.out HCO.out (by have:=HM5.out;omega) HD.out _ (HV.below (Nat.le_refl _) H.ex.1.2) H.ex.1).mono ?_;rintro e wd ⟨rfl,hb⟩;replace H:=H.call hb;clear hb;refine hK _ _ (H.cut 3) (nm ?_);clear hK K;refine th 9 98 (.tuple #[.agg chZ.toArray,.int .i64 13]) (H.cut 3) ?_;refine th 10 108 (.agg chZ.toArray) (H.cut 3) ?_;refine th 11 109 (.int .i64 13) (H.cut 3) ?_;refine Zo 13 fun K hK=>?_;refine stH chz_ob (Ob.len chz_ob chz_ob) (H.blk 3 _ _ rfl) ?_;intro wf hD hO;replace H:=St.via H 3 rfl chz_ob.ns hD hO;refine hK _ _ (H.cut 3) (nm ?_);clear hK K;refine th 14 18 (.int .i64 13) (H.cut 3) ?_;refine Zd ?_
        go_wp2_with fail
        go_meet
        exact⟨rfl,H.cut 3⟩
     case rest =>
      obtain⟨rfl,H2⟩:=hcut;clear H;have H:=H2;clear H2;have hj2:j≤2:=H2.out;have g3:decide ((3:Int)<(j:Int)+1)=false:=decide_eq_false (by omega);go_upto_region 23 with fail;clear g3;refine Zl ?_;refine tk (.int .i64 0) ?_;refine tk (.bool true) ?_;refine tk (.bool true) ?_;refine tk (.pointer (some ⟨g8,1,none⟩)) ?_;refine ldP (Kz HGL.out) H 2 (ZX _ _) ?_;refine ldO (Kz HGL.out) H 0 ?_;refine tk (.bool true) ?_ (hr:=Jbs _ _ _ _ _ pg HGL.out rfl rfl rfl);refine tk (.bool true) ?_;have hi:=OwnN.ints H.ex.2;obtain⟨qa,qc,e,hc⟩:=hi;obtain⟨qb,qo,e2,hc0⟩:=hc 0 _ HRO.ends.1;obtain⟨qb2,qo2,e3,hc1⟩:=hc _ _ HRO.ends.2;rw [e2] at e3;cases e3;subst e2;rw [List.length_map,HLL.out] at e;rw [HLL.out,Nat.add_sub_cancel] at hc1;rw [←HE4.out,Nat.add_zero] at hc0;have cq:_:=(H.blk 2 _ _ rfl).cell (i:=0) (v:=qv) rfl;rw [e] at cq;clear hc e
      go_wp2_with fail
      clear hc0 hc1 cq;refine (HWK.out _ (HV.below (Nat.le_refl _) H.ex.1.2)).mono ?_;rintro e w99 ⟨rfl,hb⟩;replace H:=H.call hb
      go_wp2_with fail
      go_ret;exact⟨rfl,H.ex.1.2⟩
   · have H2:=Zh h2;clear h2 gk;have HH4:Hid (4≤4+(j:Int)∧4+(j:Int)≤1000):=Zh (by have:=HM5.out;omega);have HCN:Hid (Jm X WG k 3 (4+(j:Int))=none):=Zh (by rw [HE4.out,HRO.chain 3,if_neg (by have:=HLL.out;have:=H2.out;omega)]);go_upto_region 17 with fail;refine Zl ?_;refine tk (.pointer (some ⟨b,0,none⟩)) ?_;refine ldO (Jg WG) H 1 ?_;refine tk (.int .i64 k) ?_;refine tk (.int .i64 (4+(j:Int))) ?_;refine J0 rfl fun K hK=>?_;go_simp;refine (Xt HK.out HH4.out HCN.out (by have:=HM5.out;omega) HD.out _ (HV.below (Nat.le_refl _) H.ex.2) H.ex).mono ?_;rintro e w7 ⟨rfl,hb⟩;replace H:=H.call hb;clear hb;refine hK _ _ (nm ?_);clear hK K;refine tk (.tuple #[.agg chZ.toArray,.int .i64 13]) ?_;refine tk (.agg chZ.toArray) ?_;refine tk (.int .i64 13) ?_;refine al Kc H ?_ (hns:=chz_ob.ns);clear H;intro g8 w8 H;refine stO chz_ob (Ob.len chz_ob chz_ob) H 2 ?_;clear H;intro w8 H;refine tk (.int .i64 13) ?_;refine Zn ?_;obtain⟨k2,hk2⟩:∃k2,(k+1).tmod 16=k2:=⟨_,rfl⟩
     have HK2:Hid (0≤k2∧k2<16):=Zh (by rw [←hk2];exact⟨Int.tmod_nonneg 16 (by have:=HK.out;omega),Int.tmod_lt_of_pos _ (by decide)⟩);have hne:k2≠k:=by rw [←hk2,Int.tmod_eq_emod_of_nonneg (by have:=HK.out;omega)];have:=HK.out;omega
     have HCO:Hid (Jm X WG k2 3 (4+(j:Int))=none):=Zh (by rw [HE4.out];exact HRO.other hne 3);have HKE:=Zh hk2;have HKW:Hid (IntKind.i64.wrap (k+1)=k+1):=Zh (JB (by have:=HK.out;omega) (by have:=HK.out;omega));clear hk2 hne;go_upto_region 18 with fail
     go_cut [17,18] from 17 to 110 (fun s17 s18 wx=>s18=.int .i64 13∧Rn.St w.heap.size F0 (fun u=>De.Dv w u b F0 d) [(g1,u8s pg),(g3,[.int .i64 WG.p,.int .i64 WG.s,.int .i64 WG.l,.int .i64 WG.f]),(g8,chZ)] wx)
     case first =>
      refine J9 (fun wq=>Rn.St w.heap.size F0 (fun u=>De.Dv w u b F0 d) [(g1,u8s pg),(g3,[.int .i64 WG.p,.int .i64 WG.s,.int .i64 WG.l,.int .i64 WG.f]),(g8,chZ)] wq) (by kernel_rfl) ?_;replace H:=H.drew;generalize w8.drew=w0 at *;refine th 0 99 (.pointer (some ⟨b,0,none⟩)) H ?_;refine th 1 100 (.agg ([.int .i64 WG.p,.int .i64 WG.s,.int .i64 WG.l,.int .i64 WG.f]).toArray) H ?_ (hy:=fun u hS=>Kf (Jg WG) (hS.blk 1 _ _ rfl) _ _ _ rfl rfl);refine th 2 101 (.int .i64 k) H ?_;refine th 3 102 (.int .i64 (k+1)) H ?_ (hy:=fun u hS=>by have hq:=HKW.out;go_simp);refine th 4 103 (.pointer (some ⟨g3,0,none⟩)) H ?_;refine th 5 104 (.int .i64 16) H ?_ (hy:=fun u hS=>by have hq:=(hS.blk 1 _ _ rfl).cell (i:=0) (v:=.int .i64 16) rfl;go_simp);refine th 6 105 (.int .i64 k2) H ?_ (hy:=fun u hS=>by have hq:=HKE.out;go_simp);refine th 7 106 (.int .i64 (4+(j:Int))) H ?_;refine Zu 8 12 (by kernel_rfl) rfl rfl rfl rfl (fun K hK=>?_) (fun K hK=>?_)
      · go_simp;refine (Xt HK2.out HH4.out HCO.out (by have:=HM5.out;omega) HD.out _ (HV.below (Nat.le_refl _) H.ex.2) H.ex).mono ?_;rintro e wd ⟨rfl,hb⟩;replace H:=H.call hb;clear hb;refine hK _ _ H (nm ?_);clear hK K;refine th 9 98 (.tuple #[.agg chZ.toArray,.int .i64 13]) H ?_;refine th 10 108 (.agg chZ.toArray) H ?_;refine th 11 109 (.int .i64 13) H ?_;refine Zo 12 fun K hK=>?_;refine Jb (some 17) rfl _ _ (Jy _ _ _ 45 rfl _ Kc) ?_;have hA:Blk (wd.alloc (.cells chZ.toArray 45)) wd.heap.size chZ:=Blk.new wd chZ.toArray 45;replace H:=H.new chz_ob.ns hA ((Below.refl _ _).alloc (Nat.le_refl _) _);clear hA;refine hK _ _ (H.cut 3) (nm ?_);clear hK K;generalize wd.alloc (.cells chZ.toArray 45)=we at *;generalize wd.heap.size=g10 at *;refine Zo 13 fun K hK=>?_;refine stH chz_ob (Ob.len chz_ob chz_ob) (H.blk 3 _ _ rfl) ?_;intro wf hD hO;replace H:=St.via H 3 rfl chz_ob.ns hD hO;refine hK _ _ (H.cut 3) (nm ?_);clear hK K;refine th 14 18 (.int .i64 13) (H.cut 3) ?_;refine Zd ?_
        go_wp2_with fail
        go_meet
        exact⟨rfl,H.cut 3⟩
      · refine Jb (some 17) rfl _ _ (Jy _ _ _ 45 rfl _ Kc) ?_;have hA:Blk (w0.alloc (.cells chZ.toArray 45)) w0.heap.size chZ:=Blk.new w0 chZ.toArray 45;replace H:=H.new chz_ob.ns hA ((Below.refl _ _).alloc (Nat.le_refl _) _);clear hA;refine hK _ _ (H.cut 3) (nm ?_);clear hK K;generalize w0.alloc (.cells chZ.toArray 45)=we at *;generalize w0.heap.size=g10 at *;refine Zo 8 fun K hK=>?_;go_simp;refine (Xt HK2.out HH4.out HCO.out (by have:=HM5.out;omega) HD.out _ (HV.below (Nat.le_refl _) H.ex.2) H.ex).mono ?_;rintro e wd ⟨rfl,hb⟩;replace H:=H.call hb;clear hb;refine hK _ _ (H.cut 3) (nm ?_);clear hK K;refine th 9 98 (.tuple #[.agg chZ.toArray,.int .i64 13]) (H.cut 3) ?_;refine th 10 108 (.agg chZ.toArray) (H.cut 3) ?_;refine th 11 109 (.int .i64 13) (H.cut 3) ?_;refine Zo 13 fun K hK=>?_;refine stH chz_ob (Ob.len chz_ob chz_ob) (H.blk 3 _ _ rfl) ?_;intro wf hD hO;replace H:=St.via H 3 rfl chz_ob.ns hD hO;refine hK _ _ (H.cut 3) (nm ?_);clear hK K;refine th 14 18 (.int .i64 13) (H.cut 3) ?_;refine Zd ?_
        go_wp2_with fail
        go_meet
        exact⟨rfl,H.cut 3⟩
     case rest =>
      obtain⟨rfl,H2⟩:=hcut;clear H;have H:=H2;clear H2;have c15:=(H.blk 2 _ _ rfl).cell (i:=0) (v:=.slice none 0 0) rfl;have hj5:j≤5:=HM5.out;have hj3:2<j:=Nat.lt_of_not_le H2.out;have g3:decide ((3:Int)<(j:Int)+1)=true:=decide_eq_true (by omega)
      go_wp2_with fail
      clear c15 g3;refine (HWK.out _ (HV.below (Nat.le_refl _) H.ex.2)).mono ?_;rintro e w99 ⟨rfl,hb⟩;replace H:=H.call hb
      go_wp2_with fail
      go_ret;exact⟨rfl,H.ex.2⟩
  have gk:decide ((j:Int)<(m:Int))=true:=decide_eq_true (by omega);have HLT:=Zh hlt;obtain⟨⟨x,y⟩,hx⟩:∃x,l[j]? = some x:=⟨_,List.getElem?_eq_getElem (by have:=HM.out;omega)⟩
  obtain⟨hbx,hby⟩:=HLB.out _ (List.mem_of_getElem? hx);obtain⟨lg,lo,ha,hc0,hc1⟩:=HPC.out j _ hx;simp only at hbx hby hc0 hc1;subst ha;obtain⟨o,ho,ho32⟩:∃o:Nat,x.tmod 32=(o:Int)∧o<32:=⟨(x.tmod 32).toNat,by have:=Int.tmod_nonneg 32 hbx.1;omega,by have:=Int.tmod_nonneg 32 hbx.1;have:=Int.tmod_lt_of_pos x (show (0:Int)<32 by decide);omega⟩
  have HX0:=Zh hc0;have HX1:=Zh hc1;have HBY:=Zh hby;have HO:=Zh ho32;have e0:=(H.ex.2.cell (block_lt_of_cell hc0)).trans hc0;have hcv:IntKind.i64.wrap x=x:=JB (by have:=hbx.1;omega) (by have:=hbx.2;omega);have hj5:j≤5:=by have:=HM5.out;omega
  clear hlt hx hc0 hc1 hby ho32;go_upto_region 12 with fail;clear e0 hcv gk;clear ho hbx;refine Zl ?_;have e1:=(H.ex.2.cell (block_lt_of_cell HX1.out)).trans HX1.out;have gk:decide ((j:Int)<(m:Int))=true:=decide_eq_true (by have:=HLT.out;omega);refine tk (.int .i64 (o:Int)) ?_;refine tk (.slice (some ⟨lg,lo,none⟩) m cp) ?_;refine tk (.int .i64 (j:Int)) ?_;refine tk (.pointer (some ⟨lg,lo+j*2,none⟩)) ?_;refine tk (.pointer (some ⟨lg,lo+j*2+1,none⟩)) ?_;refine tk (.int .u8 y) ?_;refine tk (.pointer (some ⟨g1,o,none⟩)) ?_ (hr:=by go_simp;intro hq;have:=HO.out;omega);refine sc H 0 o (v:=.int .u8 y) (fun t h=>by cases h) ?_ (hl:=Qh (by rw [HGL.out];exact HO.out));clear H;intro wa H;rw [J3o] at H;refine Zn ?_;have hj5:j<5:=by have:=HM5.out;have:=HLT.out;omega
  have hll:(L.length:Int)=(j:Int)+1:=by rw [HLL.out];rfl
  have HPGL:Hid ((pg.set o y).length=32):=Zh (by rw [List.length_set];exact HGL.out);have HWF:Hid (dlB k (o:Int) y (4+(j:Int))).Wf:=Zh (Jhe HK.out ⟨by omega,by have:=HO.out;omega⟩ HBY.out ⟨by omega,by omega⟩);have HGD:Hid ((dlB k (o:Int) y (4+(j:Int))).good=true):=Zh (Jbo HK.out ⟨by omega,by have:=HO.out;omega⟩ ⟨by omega,by omega⟩);have HSC:Hid (Sc ((dlB k (o:Int) y (4+(j:Int))).enc 9)):=Zh (xt HGD.out HWF.out 9);have HEL:=Zh HSC.length;have hput:=HD.put (i:=5+j) (by omega) HSC.out;have e5:((5+j:Nat):Int)=5+(j:Int):=by omega
  rw [e5] at hput;have HWE:=Zh hput.1;have HD1:=Zh hput.2;have hb:Kr (X.set (5+j) ((dlB k (o:Int) y (4+(j:Int))).enc 9)) WG k (4+(L.length:Int))=some (dlB k (o:Int) y (4+(j:Int))):=by
   have q:=xq (X:=X.set (5+j) ((dlB k (o:Int) y (4+(j:Int))).enc 9)) (p:=5+j) (b:=dlB k (o:Int) y (4+(j:Int))) (by omega) (by omega) (List.getElem?_set_self (by rw [HD.len];omega)) HGD.out HWF.out (show (2:Int)≠3 by decide);rw [show (4+(L.length:Int))=((5+j:Nat):Int) by omega];exact q
  have hr:=Ro.more (b:=dlB k (o:Int) y (4+(j:Int))) (HRO.keep (n:=5+j) (y:=(dlB k (o:Int) y (4+(j:Int))).enc 9) (by rw [HLL.out];omega)) rfl (show (4:Int)+j=3+(L.length:Int) by omega) hb;have el:Jz pg (dlB k (o:Int) y (4+(j:Int))).off.toNat (dlB k (o:Int) y (4+(j:Int))).bytes=pg.set o y:=by
   show Jz pg ((o:Int)).toNat [y]=_;rw [Int.toNat_natCast];exact Jbp (by rw [HGL.out];exact HO.out)
  rw [el] at hr;have HRO2:=Zh hr;have HGY:Hid (∀x∈pg.set o y,K7 x):=Zh fun x hx=>(List.mem_or_eq_of_mem_set hx).elim (HGB.out x) fun e=>e ▸ HBY.out;clear hput hb hr el hll e5;have hw5:IntKind.i64.wrap (5+(j:Int))=5+(j:Int):=JB (by omega) (by omega);go_upto_region 13 with fail;refine Zl ?_;refine tk (.pointer (some ⟨b,0,none⟩)) ?_;refine tk (.int .i64 (j:Int)) ?_;refine tk (.int .i64 (5+(j:Int))) ?_;refine tk (.int .i64 k) ?_;refine tk (.int .i64 (o:Int)) ?_;refine tk (.slice (some ⟨lg,lo,none⟩) m cp) ?_;refine tk (.int .i64 (j:Int)) ?_;refine tk (.pointer (some ⟨lg,lo+j*2,none⟩)) ?_;refine tk (.pointer (some ⟨lg,lo+j*2+1,none⟩)) ?_;have e1:=(H.ex.2.cell (block_lt_of_cell HX1.out)).trans HX1.out;refine tk (.int .u8 y) ?_;clear e1;generalize hwa:wa=w20 at *;clear hwa;refine Je _ _ rfl (JT _ _ _ _ 80 1 _ rfl #[(0,.int .u8 y)] (by simp [go_sem]) _ (Jii w20 y)) ?_;refine nm ?_;have HBY:=Zh (Jhg w20 y);replace H:=H.call (jc w20 (.cells #[.int .u8 y] 5));generalize w20.alloc (.cells #[.int .u8 y] 5)=w21 at *;generalize w20.heap.size=gl at *;refine tk (.int .i64 (4+(j:Int))) ?_;refine tk (.agg ((dlB k o y (4+j)).arr (.slice (some ⟨gl,0,none⟩) 1 1))) ?_ (hr:=by exact Jc _ _ _ _ 82 _ rfl #[(0,.int .i64 2),(1,.int .i64 k),(3,.int .i64 o),(4,.slice (some ⟨gl,0,none⟩) 1 1),(5,.int .i64 (4+j))] (by simp [go_sem]) _ (run_build _ 82 _ _ (Jbr k o y (4+j) _ _ _)));refine J0 rfl fun K hK=>?_;go_simp;refine (J04 (dlB k o y (4+j)) _ _ HBY.out HWF.out HGD.out (.inr rfl)).mono ?_;rintro e w22 ⟨rfl,hb⟩;replace H:=H.call hb;clear hb;refine hK _ _ (nm ?_);clear hK K;refine J0 rfl fun K hK=>?_;go_simp;refine (De.Qu H.ex (by rw [HD.t];omega) (by rw [HD.l];omega) (5+j) _ (J1c HSC.out)).mono ?_;rintro e w23 ⟨F1,rfl,hd,hO,hf⟩;replace H:=Rn.St.after H hO hf hd (Stays.dv (Nat.le_refl _));clear hO hd hf;rw [HWE.out];refine hK _ _ (nm ?_);clear hK K;refine tk (.int .i64 0) ?_;refine Zn ?_;have hj5:j<5:=by have:=HM5.out;have:=HLT.out;omega
  clear gk hw5
  go_wp2_with fail
  go_roundg (m-(j+1))
  case measure=>have:=HQ.out;have:=HLT.out;omega
  case rel=>exact⟨j+1,by omega,by have:=HLT.out;omega,rfl,by rw [show (4+((j+1:Nat):Int))=5+(j:Int) by omega],by rfl,pg.set o y,_,_,_,_,H,HD1.out,HRO2.out,by rw [List.length_cons,HLL.out],HPGL.out,HGY.out⟩
open Go.ChangeShapes Go.WideShapes Go.ChangeAt Go.RowKit Go.Deep Go.Joins
variable {fuel n:Nat} {t:TypeId} {v:Value}
theorem Jbt:Tryz.prog.cellsOf 5=1:=by kernel_rfl
theorem Jez:Tryz.prog.cellsOf 43=32:=by kernel_rfl
theorem km:Tryz.prog.cellsOf 94=2:=by kernel_rfl
theorem X8{n:Int}(h:(Lit.int .u8 n).wf=true):K7 n:=by
 have:=bounds_u8 h;exact⟨this.1,by omega⟩
theorem xr{k:IntKind}:∀{cs:List Value},(∀c∈cs,∃z,c=.int k z∧(Lit.int k z).wf=true)→∃l:List Int,cs=l.map (Value.int k)∧∀y∈l,(Lit.int k y).wf=true
 | [],_=>⟨[],rfl,fun y hy=>by cases hy⟩
 | c::cs,h=>by
  obtain⟨z,rfl,hw⟩:=h c (by simp);obtain⟨l,rfl,hl⟩:=xr (k:=k) (cs:=cs) fun c hc=>h c (List.mem_cons_of_mem _ hc);exact⟨z::l,rfl,fun y hy=>by
   rcases List.mem_cons.1 hy with rfl|hy
   · exact hw
   · exact hl y hy⟩
section
variable {H:Type} {enc:TypeId×Value→H} {W:World}
theorem J44{e:TypeId}{k:IntKind}{cs:List Value}{x:DataW H×List MemPlace}(ht:Tryz.prog.underlying t=some (.array n e))(he:Tryz.prog.underlying e=some (.int k))(hc:Tryz.prog.cellsOf e=1)(hn:Tryz.prog.cellsOf t=n)(h:DataW.trod enc Tryz.prog W 0 (fun _=>true) true fuel t cs=some x):∃l:List Int,cs=l.map (Value.int k)∧l.length=n∧∀y∈l,(Lit.int k y).wf=true:=by
 obtain⟨xs,m,_,_,hl,hxs,hel⟩:=DataW.trod_array ht h;rw [hn] at hl;obtain⟨l,rfl,hw⟩:=xr (k:=k) (cs:=cs) fun c hcs=>by
  obtain⟨i,hi,rfl⟩:=List.getElem_of_mem hcs;have hE:=hel i (by omega);rw [hc,Nat.mul_one,List.getElem?_eq_getElem (by omega)] at hE;obtain⟨z,e1,_,hw⟩:=DataW.trod_int he hE;rw [show (cs.drop i).take 1=[cs[i]] from by rw [List.drop_eq_getElem_cons hi];rfl] at e1;exact⟨z,by simpa using e1,hw⟩
 exact⟨l,rfl,by simpa using hl,hw⟩
theorem Jf0{base:Nat}{d:DataW H}{p:List MemPlace}(hv:Value.okWide Tryz.prog W .any base 43 v)(h:DataW.Trod enc Tryz.prog W 0 (fun _=>true) true 43 v d p):∃s:List Int,v=.agg (u8s s).toArray∧s.length=32∧∀x∈s,K7 x:=by
 simp only [Value.okWide,Tryz.underlying43] at hv;obtain⟨cs,rfl,hsz,_⟩:=hv;obtain⟨fuel,hf⟩:=h;obtain⟨l,e,hl,hw⟩:=J44 Tryz.underlying43 Tryz.underlying5 Jbt Jez hf;simp only [Value.cells] at e;refine⟨l,?_,⟨hl,fun x hx=>X8 (hw x hx)⟩⟩;rw [show u8s l=cs.toList from e.symm]
theorem Jhh{base:Nat}{d:DataW H}{p:List MemPlace}(hv:Value.okWide Tryz.prog W .any base 5 v)(h:DataW.Trod enc Tryz.prog W 0 (fun _=>true) true 5 v d p):∃n:Int,v=.int .u8 n∧K7 n:=by
 obtain⟨m,rfl⟩:=okWide_int Tryz.underlying5 hv;obtain⟨fuel,hf⟩:=h;obtain⟨m2,e,_,w⟩:=DataW.trod_int Tryz.underlying5 hf;have e2:m=m2:=by simpa [Value.cells] using e
 subst e2;exact⟨m,rfl,X8 w⟩
theorem Jbu{base:Nat}{d:DataW H}{p:List MemPlace}(hv:Value.okWide Tryz.prog W .any base 103 v)(h:DataW.Trod enc Tryz.prog W 0 (fun _=>true) true 103 v d p):∃l:List (Int×Int),J43 W v l∧(∀x∈l,K7 x.1∧K7 x.2)∧l.length≤9223372036854775807:=by
 obtain⟨a0,len0,cap0,rfl⟩:=okWide_slice Tryz.underlying103 hv;obtain⟨fuel,hf⟩:=h;rcases open_slice Tryz.underlying103 hf with ⟨hcs,_⟩|⟨a,len,cap,m,n,D,Pl,hcs,_,hl,hm,hmm,hbig,hi⟩
 · simp [Value.cells] at hcs;obtain⟨rfl,rfl,rfl⟩:=hcs;exact⟨[],⟨_,_,rfl,fun i x hx=>by simp at hx⟩,(fun x hx=>by cases hx),Nat.zero_le _⟩
 · simp [Value.cells] at hcs;obtain⟨rfl,rfl,rfl⟩:=hcs;simp only [if_true] at hmm;subst hmm;have each:∀i,i<len0→∃x:Int×Int,(K7 x.1∧K7 x.2)∧∃b o,a=⟨b,o,none⟩∧W.cell? ⟨b,o+i*2,none⟩=some (.int .u8 x.1)∧W.cell? ⟨b,o+i*2+1,none⟩=some (.int .u8 x.2):=fun i hil=>by
    obtain⟨cs',hc,ht⟩:=hi i (by omega);rw [km] at hc;obtain⟨_,hlen,hat⟩:=World.cells?_some hc;obtain⟨l,rfl,hl2,hw⟩:=J44 Tryz.underlying94 Tryz.underlying5 Jbt km ht;obtain⟨g,o,spot⟩:=a;have hspot:spot=none:=by
     obtain⟨cs0,hc0,_⟩:=hi 0 (by omega);rw [km] at hc0;obtain⟨_,hlen0,hat0⟩:=World.cells?_some hc0;have k:=hat0 0 (by decide);rw [List.getElem?_eq_getElem (by omega)] at k;simpa [Addr.add] using World.cell?_spot k
    subst hspot
    match l,hl2 with
    | [x,y],_ =>
     have k0:=hat 0 (by decide);have k1:=hat 1 (by decide);simp only [km,add_plain] at k0 k1;exact⟨(x,y),⟨X8 (hw x (by simp)),X8 (hw y (by simp))⟩,g,o,rfl,by simpa using k0,by simpa using k1⟩
   obtain⟨f,hfs⟩:∃f:Nat→Int×Int,∀i,i<len0→(K7 (f i).1∧K7 (f i).2)∧∃b o,a=⟨b,o,none⟩∧W.cell? ⟨b,o+i*2,none⟩=some (.int .u8 (f i).1)∧W.cell? ⟨b,o+i*2+1,none⟩=some (.int .u8 (f i).2) :=
    ⟨fun i=>if h:i<len0 then Classical.choose (each i h) else (0,0),fun i hil=>by
     simp only [hil,dif_pos]
     exact Classical.choose_spec (each i hil)⟩
   refine⟨(List.range len0).map f,⟨some a,m,by simp,fun i x hx=>?_⟩,fun x hx=>?_,?_⟩
   · have hil:i<len0:=by
      have:=(List.getElem?_eq_some_iff.1 hx).1;simpa using this
     have:x=f i:=by
      rw [List.getElem?_map,List.getElem?_range hil] at hx;exact (Option.some.inj hx).symm
     subst this;obtain⟨-,b,o,h3,h4,h5⟩:=hfs i hil;exact⟨b,o,by rw [h3],h4,h5⟩
   · obtain⟨i,hi2,rfl⟩:=List.mem_map.1 hx;exact (hfs i (List.mem_range.1 hi2)).1
   · have:maxLen=9223372036854775807:=rfl;simp;omega
end
theorem J70:([5,43,103].all fun t=>Tryz.prog.readableRec t&&decide (t<Tryz.prog.types.size))=true:=by kernel_rfl
theorem yr{ts:List TypeId}(h:∀t∈ts,t∈[5,43,103]):∀t∈ts,Tryz.prog.readableRec t=true∧t<Tryz.prog.types.size:=fun t ht=>by
 have:=List.all_eq_true.1 J70 t (h t ht);simpa using this
end Go.Proofs.YtdbfmikeaoaebaaGreatDoor
