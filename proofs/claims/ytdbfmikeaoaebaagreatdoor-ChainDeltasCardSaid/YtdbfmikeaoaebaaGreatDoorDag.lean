/- Steps. -/
import Derived.Test.YtdbfmikeaoaebaaGreatDoorDaf
set_option linter.unusedSimpArgs false
set_option linter.unusedVariables false
set_option maxRecDepth 100000
set_option maxHeartbeats 4000000
namespace Go.Proofs.YtdbfmikeaoaebaaGreatDoor
open Go.RowKit
open De (exec_load_at)
def wrs:De.D→Int→List (List Int)→De.D×Bool
 | d,_,[]=>(d,true)
 | d,i,x::r=>if d.writeE i=0 then wrs (d.write i (u8s x).toArray) (i+1) r else (d.write i (u8s x).toArray,false)
def Kw(d:De.D)(i:Int)(X:List (List Int)):De.D×Bool:=if (wrs d i X).2=true then ((wrs d i X).1.flush,decide ((wrs d i X).1.flushE=0)) else ((wrs d i X).1,false)
theorem YO(d:De.D)(i:Int)(s:Array Value):(d.write i s).S.length=d.S.length:=by
 unfold De.D.write;split
 · split <;> rfl
 · rfl
theorem write_T(d:De.D)(i:Int)(s:Array Value):(d.write i s).T≤d.T+1:=by
 unfold De.D.write;split
 · split <;> simp
 · simp
theorem write_L(d:De.D)(i:Int)(s:Array Value):(d.write i s).L.length≤d.L.length+1:=by
 unfold De.D.write;split
 · split <;> simp
 · simp
theorem Jcy(S:List (Array Value))(L:List (Nat×Array Value)):(De.app S L).length=S.length:=by
 unfold De.app
 induction L generalizing S with
 | nil=>rfl
 | cons p r ih=>rw [List.foldl_cons,ih];simp
theorem jj(d:De.D):d.flush.S.length=d.S.length:=by
 unfold De.D.flush;split
 · rfl
 · exact Jcy _ _
theorem writeE_or(d:De.D)(i:Int)(h:d.has i=true):d.writeE i=0∨d.writeE i=12:=by
 unfold De.D.writeE;rw [if_pos h];split
 · exact .inr rfl
 · exact .inl rfl
theorem flushE_or(d:De.D):d.flushE=0∨d.flushE=12:=by
 unfold De.D.flushE;split
 · exact .inr rfl
 · exact .inl rfl
theorem J1c{x:List Int}(h:Sc x):De.Sec (u8s x).toArray:=⟨by simp [h.length],fun v hv=>by
 simp at hv
 obtain⟨m,-,rfl⟩:=hv
 exact⟨m,rfl⟩⟩
theorem Only.then{F G:Nat→Prop}{a b c:World}(h:Only F a b)(k:Only G b c)(hG:∀j,G j→F j∨a.heap.size≤j):Only F a c :=
 ⟨k.os.trans h.os,k.tape.trans h.tape,k.output.trans h.output,Nat.le_trans h.size k.size,fun i hi hs=>(k.block i (Nat.lt_of_lt_of_le hi h.size) fun hg=>(hG i hg).elim hs fun h2=>by omega).trans (h.block i hi hs)⟩
theorem SecsAt.onlyF{F:Nat→Prop}{w w':World}{sv:Value}{X:List (List Int)}(h:SecsAt w sv X)(ho:Only F w w')(hn:∀b o n c,sv=.slice (some ⟨b,o,none⟩) n c→¬F b):SecsAt w' sv X:=by
 obtain⟨a,cap,e,hcap,hc⟩:=h;refine⟨a,cap,e,hcap,fun i x hx=>?_⟩;obtain⟨h1,g,o,h3,h4⟩:=hc i x hx;refine⟨h1,g,o,h3,fun j hj=>?_⟩;rw [←h4 j hj];simp only [World.cell?,ho.block g (block_lt_of_cell (h4 j hj)) (hn g o _ _ (by rw [e,h3]))]
structure Wst (W w wr:World) (jb b:Nat) (F Fk:Nat→Prop) (d dk:De.D) (g:Pl.Gm) (a:Ja) (fv sv:Value) (X:List (List Int)) (first:Int) (k:Nat):Prop where
 jn:Jn W wr jb b Fk dk g a fv
 sec:SecsAt wr sv X
 on:Only F w wr
 nw:∀j,Fk j→F j∨w.heap.size≤j
 S:dk.S.length=d.S.length
 T:dk.T≤d.T+k
 L:dk.L.length≤d.L.length+k
 eq:wrs d first X=wrs dk (first+k) (X.drop k)
section
variable {W w wr w':World} {jb b:Nat} {F Fk F':Nat→Prop} {d dk d':De.D} {g:Pl.Gm} {a:Ja} {fv sv:Value} {X:List (List Int)} {first:Int} {k:Nat}
theorem Wst.below(h:Wst W w wr jb b F Fk d dk g a fv sv X first k)(hb:Below wr.heap.size wr w'):Wst W w w' jb b F Fk d dk g a fv sv X first k :=
 ⟨h.jn.below hb,h.sec.below hb,h.on.then (Only.of_below (S:=fun _=>False) hb) (fun _ h=>h.elim),h.nw,h.S,h.T,h.L,h.eq⟩
theorem Wst.far(h:Wst W w wr jb b F Fk d dk g a fv sv X first k)(hap:∀b o n c,sv=.slice (some ⟨b,o,none⟩) n c→¬F b∧b<w.heap.size):∀b o n c,sv=.slice (some ⟨b,o,none⟩) n c→¬Fk b:=fun b' o n c e hF=>by
 obtain⟨h1,h2⟩:=hap b' o n c e;rcases h.nw b' hF with h3|h3
 · exact h1 h3
 · omega
theorem Wst.next(h:Wst W w wr jb b F Fk d dk g a fv sv X first k)(hap:∀b o n c,sv=.slice (some ⟨b,o,none⟩) n c→¬F b∧b<w.heap.size){x:List Int}(hx:X[k]? = some x)(he:dk.writeE (first+k)=0)(hd:De.Dv W w' b F' (dk.write (first+k) (u8s x).toArray))(ho:Only Fk wr w')(hn:∀j,F' j→Fk j∨wr.heap.size≤j):Wst W w w' jb b F F' d (dk.write (first+k) (u8s x).toArray) g a fv sv X first (k+1):=by
 refine⟨h.jn.dev hd ho hn (YO _ _ _),h.sec.onlyF ho (h.far hap),h.on.then ho h.nw,fun j hj=>?_,by rw [YO,h.S],?_,?_,?_⟩
 · rcases hn j hj with h1|h1
   · exact h.nw j h1
   · exact .inr (Nat.le_trans h.on.size h1)
 · have:=write_T dk (first+k) (u8s x).toArray;have:=h.T;omega
 · have:=write_L dk (first+k) (u8s x).toArray;have:=h.L;omega
 · rw [h.eq,List.drop_eq_getElem_cons (List.getElem?_eq_some_iff.1 hx).1,(List.getElem?_eq_some_iff.1 hx).2];simp only [wrs];rw [if_pos he,Int.add_assoc];rfl
end
def Jio(w:World)(ok:Bool)(v:Value):Prop:=(ok=true∧v=.nilIface)∨(ok=false∧Fault w 12 v)
section
variable {W w:World} {jb b:Nat} {F:Nat→Prop} {d:De.D} {g:Pl.Gm} {a:Ja} {fv:Value}
theorem J1d(h:Jn W w jb b F d g a fv)(hV:Vars W)(f:Nat)(X:List (List Int))(sv:Value)(hs:SecsAt w sv X)(hap:∀b o n c,sv=.slice (some ⟨b,o,none⟩) n c→¬F b∧b<w.heap.size)(hr:f+X.length≤d.S.length)(hS:d.S.length≤1024)(hT:d.T+X.length≤900000)(hL:d.L.length+X.length≤900000):Calls Tryz.prog 78 #[.pointer (some ⟨jb,0,none⟩),.int .i64 f,sv] w fun e w'=>∃v F',e=.returned v∧Jio w' (Kw d f X).2 v∧Jn W w' jb b F' (Kw d f X).1 g a fv∧Only F w w'∧∀k,F' k→F k∨w.heap.size≤k:=by
 have HV:=Zh hV;have HAP:=Zh hap;have HW0:Hid (Wst W w w jb b F F d d g a fv sv X f 0):=Zh ⟨h,hs,Only.refl _ _,fun j hj=>.inl hj,rfl,Nat.le_refl _,Nat.le_refl _,by simp⟩;have HC:=Zh hs;obtain⟨sa,sc,hsv,hcap,-⟩:=hs;obtain⟨m,hm⟩:∃m,X.length=m:=⟨_,rfl⟩
 rw [hm] at hsv hcap hr hT hL;subst hsv;have HM:=Zh hm;have HN:Hid (f+m≤d.S.length∧d.S.length≤1024∧d.T+m≤900000∧d.L.length+m≤900000):=Zh ⟨hr,hS,hT,hL⟩;have hm1:m≤1024:=by omega
 have HF1:Hid (f+m≤1024):=Zh (by omega);clear h hV hap hm hr hS hT hL;go_enter Tryz.func78,Tryz.ntmps78
 go_wp2_with fail
 go_loopg [12] m (fun q i wr=>∃k Fk dk,m-k≤q∧k≤m∧i=.int .i64 ((k:Nat):Int)∧Wst W w wr jb b F Fk d dk g a fv (.slice sa m sc) X f k)
 case atStart=>exact⟨0,F,d,by omega,by omega,rfl,HW0.out⟩
 case round =>
  obtain⟨k,Fk,dk,hq,hk,rfl,hst⟩:=hrel;have HW:=Zh hst;clear hst;have HH:Hid (k<m→dk.has ((f:Int)+(k:Int))=true):=Zh fun hkn=>by
   have:=HW.out.S;have:=HN.out;unfold De.D.has;simp only [Bool.and_eq_true,decide_eq_true_eq];omega
  have HTT:Hid (dk.T≤1000000):=Zh (by have:=HW.out.T;have:=HN.out;omega);have HLL:Hid (dk.L.length≤1000000):=Zh (by have:=HW.out.L;have:=HN.out;omega)
  by_cases hkn:k<m
  · have gk:decide ((k:Int)<(m:Int))=true:=decide_eq_true (by omega);have hk0:(k:Int)<(m:Int):=by omega
    have gw:Hid (IntKind.i64.wrap ((f:Int)+(k:Int))=(f:Int)+(k:Int)):=Zh (JB (by have:=HF1.out;omega) (by have:=HF1.out;omega));obtain⟨x,hx⟩:∃x,X[k]? = some x:=⟨_,List.getElem?_eq_getElem (by have:=HM.out;omega)⟩
    obtain⟨g0,o0,c0,hsa,-,-,hat⟩:=HW.sec.has (by have:=HM.out;omega);have hsa2:sa=some ⟨g0,o0,none⟩:=by injection hsa
    subst hsa2;obtain⟨hxs,hxa⟩:=hat k x hx;have HX:=Zh hx;have HXS:=Zh (J1c hxs);have HXL:=Zh hxs.length;have HXA:=Zh hxa;clear hx hxs hxa hat hsa;go_upto_region 3 with fail;refine Zl ?_;refine tk (.int .i64 k) ?_;refine tk (.pointer (some ⟨g0,o0+k*64,none⟩)) ?_;refine KX HXA.out (by rw [J2,HXL.out]) rfl rfl ?_;refine nm ?_;refine J4 JQ rfl ?_;intro wA hA hb hl;refine nm ?_;refine tk (.int .i64 k) ?_;refine J3 (cs:=(u8s x).toArray) hA (by simp [zeros,HXL.out]) (by rw [J2,HXL.out];exact info36) (Ji _) rfl rfl rfl ?_;intro wB hD hO hlD;refine nm ?_;have HW1:=Zh (HW.below (hb.trans (hO.below hb.size fun k hk=>Nat.le_of_eq hk.symm)));have HUB:Hid (Blk wB wr.heap.size (u8s x)):=Zh hD;have HUF:Hid (¬Fk wr.heap.size):=Zh fun hF=>by have:=(HW.jn.dv.lt _ hF).2;omega
    generalize wr.heap.size=u at *;clear hA hb hl hD hO hlD;rcases writeE_or dk _ (HH.out hkn) with he|he
    · have HE:=Zh he;go_upto_region 4 with fail;refine J9 (fun wq=>Only Fk wB wq) (by kernel_rfl) ?_;have HSd:Hid (Only Fk wB wB.drew):=Zh (Only.refl _ _).drew;refine th 0 17 (.pointer (some ⟨jb,0,none⟩)) HSd.out ?_;refine th 1 18 (.pointer (some ⟨jb,0,none⟩)) HSd.out ?_;refine th 2 19 (.pointer (some ⟨jb,0,none⟩)) HSd.out ?_;refine th 3 20 (.pointer (some ⟨b,0,none⟩)) HSd.out ?_ (hy:=fun wq hS=>by have q:=(HW1.jn.blk.only hS HW1.jn.nF).cell (i:=0) rfl;go_simp);refine th 4 21 (.int .i64 f) HSd.out ?_;refine th 5 22 (.int .i64 k) HSd.out ?_;refine th 6 23 (.int .i64 ((f:Int)+(k:Int))) HSd.out ?_ (hy:=fun wq hS=>by have q:=gw.out;go_simp);refine Jl 7 (some 24) (.agg ((u8s x).toArray)) rfl rfl (by kernel_rfl) (by kernel_rfl) (by kernel_rfl) (fun _ _ _ h=>h) rfl (fun wq hS=>exec_load_at wq _ _ 36 _ rfl (u) (0) rfl ((u8s x).toArray) _ Tryz.underlying36 rfl (by rw [J2,HXL.out];exact info36) (Blk.all (cs:=(u8s x).toArray) (HUB.only hS HUF.out) rfl)) HSd.out ?_;refine nm ?_;refine Zo 8 fun K hK=>?_;go_simp;refine (De.Qu (HW1.jn.dv.drew) HTT.out HLL.out ((f:Int)+(k:Int)) _ HXS.out).mono ?_;rintro e w4 ⟨F',rfl,hdv,hon,hnw⟩;rw [he];have HS4:Hid (Only Fk wB w4):=Zh (HSd.then hon (fun j hj=>.inl hj));have HW4:=Zh (HW1.below (Below.refl _ _).drew);have HW5:=Zh (HW4.next HAP.out HX.out HE.out hdv hon hnw);refine hK _ _ HS4.out ?_;clear hK K hdv hon hnw he;refine nm ?_;refine th 9 9 (.int .i64 0) HS4.out ?_;refine Zd ?_
      go_wp2_with fail
      go_roundg (m-(k+1))
      case measure=>omega
      case rel=>exact⟨k+1,F',_,by omega,by omega,by go_num,HW5.out⟩
    · have HE:=Zh he;go_upto_region 4 with fail;refine J9 (fun wq=>Only Fk wB wq) (by kernel_rfl) ?_;have HSd:Hid (Only Fk wB wB.drew):=Zh (Only.refl _ _).drew;refine th 0 17 (.pointer (some ⟨jb,0,none⟩)) HSd.out ?_;refine th 1 18 (.pointer (some ⟨jb,0,none⟩)) HSd.out ?_;refine th 2 19 (.pointer (some ⟨jb,0,none⟩)) HSd.out ?_;refine th 3 20 (.pointer (some ⟨b,0,none⟩)) HSd.out ?_ (hy:=fun wq hS=>by have q:=(HW1.jn.blk.only hS HW1.jn.nF).cell (i:=0) rfl;go_simp);refine th 4 21 (.int .i64 f) HSd.out ?_;refine th 5 22 (.int .i64 k) HSd.out ?_;refine th 6 23 (.int .i64 ((f:Int)+(k:Int))) HSd.out ?_ (hy:=fun wq hS=>by have q:=gw.out;go_simp);refine Jl 7 (some 24) (.agg ((u8s x).toArray)) rfl rfl (by kernel_rfl) (by kernel_rfl) (by kernel_rfl) (fun _ _ _ h=>h) rfl (fun wq hS=>exec_load_at wq _ _ 36 _ rfl (u) (0) rfl ((u8s x).toArray) _ Tryz.underlying36 rfl (by rw [J2,HXL.out];exact info36) (Blk.all (cs:=(u8s x).toArray) (HUB.only hS HUF.out) rfl)) HSd.out ?_;refine nm ?_;refine Zo 8 fun K hK=>?_;go_simp;refine (De.Qu (HW1.jn.dv.drew) HTT.out HLL.out ((f:Int)+(k:Int)) _ HXS.out).mono ?_;rintro e w4 ⟨F',rfl,hdv,hon,hnw⟩;rw [he];have HS4:Hid (Only Fk wB w4):=Zh (HSd.then hon (fun j hj=>.inl hj));have HW4:=Zh (HW1.below (Below.refl _ _).drew);have HJ4:=Zh (HW4.jn.dev hdv hon hnw (YO _ _ _));have HO4:=Zh (HW4.on.then hon HW4.nw);have HN4:Hid (∀j,F' j→F j∨w.heap.size≤j):=Zh fun j hj=>by
       rcases hnw j hj with h1|h1
       · exact HW4.nw j h1
       · exact .inr (Nat.le_trans HW4.on.size h1)
      have HRES:Hid (Kw d f X=(dk.write ((f:Int)+(k:Int)) (u8s x).toArray,false)):=Zh (by
       have e1:wrs d f X=(dk.write ((f:Int)+(k:Int)) (u8s x).toArray,false):=by
        rw [HW.eq,List.drop_eq_getElem_cons (List.getElem?_eq_some_iff.1 HX.out).1,(List.getElem?_eq_some_iff.1 HX.out).2]
        simp only [wrs]
        rw [if_neg (by rw [HE.out];decide)]
       unfold Kw
       rw [e1]
       rfl)
      refine hK _ _ HS4.out ?_;clear hK K hdv hon hnw he;refine nm ?_;refine th 9 9 (.int .i64 12) HS4.out ?_;refine Zd ?_;go_upto_region 6 with fail;refine Zl ?_;refine tk (.int .i64 12) ?_;refine J0 rfl fun K hK=>?_;go_simp;refine (QF 12 rfl _ _).mono ?_;rintro e w5 ⟨v,rfl,hf,hb⟩;have HJ5:=Zh (HJ4.below hb);have HO5:=Zh (HO4.then (Only.of_below (S:=fun _=>False) hb) (fun _ h=>h.elim));have HF5:=Zh hf;obtain⟨T,dd,hv⟩:=hf.shape;subst hv;clear hf hb;refine hK _ _ (nm ?_);clear hK K;refine tk (.int .i64 f) ?_;refine tk (.int .i64 k) ?_;refine tk (.int .i64 ((f+k:Nat):Int)) ?_ (hr:=by have q:=gw.out;go_simp);refine J0 rfl fun K hK=>?_;go_simp;refine (itoa_any (f+k) (by have:=HF1.out;omega) _ (Vars.below (Nat.le_refl _) HJ5.dv.2 HV.out)).mono ?_;rintro e w6 ⟨s,rfl,hs,hb⟩;have HJ6:=Zh (HJ5.below hb);have HO6:=Zh (HO5.then (Only.of_below (S:=fun _=>False) hb) (fun _ h=>h.elim));have HF6:=Zh (HF5.below hb);clear hb;refine hK _ _ (nm ?_);clear hK K;refine tk (.string (⟨#[115,101,99,116,111,114,32]⟩++s)) ?_ (hr:=by go_simp;omega);refine J0 rfl fun K hK=>?_;go_simp;refine (Xh 12 _ _ _ HF6.out).mono ?_;rintro e w7 ⟨v2,rfl,hf,hb⟩;have HJ7:=Zh (HJ6.below hb);have HO7:=Zh (HO6.then (Only.of_below (S:=fun _=>False) hb) (fun _ h=>h.elim));have HF7:=Zh hf;obtain⟨T2,dd2,hv⟩:=hf.shape;subst hv;clear hf hb;refine hK _ _ (nm ?_);clear hK K;refine tk (.iface T2 dd2) ?_;go_wp2_with fail
      go_ret;exact⟨_,F',rfl,.inr ⟨by rw [HRES.out],HF7.out⟩,by rw [HRES.out];exact HJ7.out,HO7.out,HN4.out⟩
  · have hkm:m=k:=by omega
    subst hkm;have gk:decide ((m:Int)<(m:Int))=false:=decide_eq_false (by omega);have gk2:¬(m:Int)<(m:Int):=by omega
    have HRES:Hid (Kw d f X=(dk.flush,decide (dk.flushE=0))):=Zh (by
     have e1:wrs d f X=(dk,true):=by
      rw [HW.eq,List.drop_eq_nil_of_le (Nat.le_of_eq HM.out)]
      rfl
     unfold Kw
     rw [e1]
     rfl)
    go_upto_region 8 with fail;refine Zl ?_;refine tk (.pointer (some ⟨jb,0,none⟩)) ?_;refine tk (.pointer (some ⟨jb,0,none⟩)) ?_;refine tk (.pointer (some ⟨jb,0,none⟩)) ?_;refine tk (.pointer (some ⟨b,0,none⟩)) ?_ (hr:=by have q:=HW.jn.blk.cell (i:=0) rfl;go_simp);rcases flushE_or dk with he|he
    · have HE:=Zh he;refine J0 rfl fun K hK=>?_;go_simp;refine (De.kO HW.jn.dv HTT.out HLL.out).mono ?_;rintro e w4 ⟨F',rfl,hdv,hon,hnw⟩;rw [he];have HJ4:=Zh (HW.jn.dev hdv hon hnw (jj _));have HO4:=Zh (HW.on.then hon HW.nw);have HN4:Hid (∀j,F' j→F j∨w.heap.size≤j):=Zh fun j hj=>by
       rcases hnw j hj with h1|h1
       · exact HW.nw j h1
       · exact .inr (Nat.le_trans HW.on.size h1)
      clear hdv hon hnw he;refine hK _ _ (nm ?_);clear hK K;refine J0 rfl fun K hK=>?_;go_simp;refine (Jfz _ _).mono ?_;rintro e w5 ⟨rfl,rfl⟩;refine hK _ _ (nm ?_);clear hK K;refine tk (.nilIface) ?_;go_wp2_with fail
      go_ret;exact⟨_,rfl,.inl ⟨by rw [HRES.out];exact decide_eq_true HE.out,rfl⟩,F',by rw [HRES.out];exact HJ4.out,HO4.out,HN4.out⟩
    · have HE:=Zh he;refine J0 rfl fun K hK=>?_;go_simp;refine (De.kO HW.jn.dv HTT.out HLL.out).mono ?_;rintro e w4 ⟨F',rfl,hdv,hon,hnw⟩;rw [he];have HJ4:=Zh (HW.jn.dev hdv hon hnw (jj _));have HO4:=Zh (HW.on.then hon HW.nw);have HN4:Hid (∀j,F' j→F j∨w.heap.size≤j):=Zh fun j hj=>by
       rcases hnw j hj with h1|h1
       · exact HW.nw j h1
       · exact .inr (Nat.le_trans HW.on.size h1)
      clear hdv hon hnw he;refine hK _ _ (nm ?_);clear hK K;refine J0 rfl fun K hK=>?_;go_simp;refine (QF 12 rfl _ _).mono ?_;rintro e w5 ⟨v,rfl,hf,hb⟩;have HJ5:=Zh (HJ4.below hb);have HO5:=Zh (HO4.then (Only.of_below (S:=fun _=>False) hb) (fun _ h=>h.elim));have HF5:=Zh hf;obtain⟨T,dd,hv⟩:=hf.shape;subst hv;clear hf hb;refine hK _ _ (nm ?_);clear hK K;refine tk (.iface T dd) ?_;go_wp2_with fail
      go_ret;exact⟨_,rfl,.inr ⟨by rw [HRES.out];exact decide_eq_false (by rw [HE.out];decide),HF5.out⟩,F',by rw [HRES.out];exact HJ5.out,HO5.out,HN4.out⟩
end
open Go.RowKit
def XF(f x:Int):Int:=if 0≤x then f+x else 0
def pls(f:Int)(l:List Int)(k:Nat):List Int:=(l.take k).map (XF f)++List.replicate (l.length-k) 0
theorem zf(f:Int)(l:List Int):pls f l 0=List.replicate l.length 0:=by simp [pls]
theorem J3d(f:Int)(l:List Int):pls f l l.length=l.map (XF f):=by simp [pls]
theorem ZM(f:Int)(l:List Int)(k:Nat)(hk:k≤l.length):(pls f l k).length=l.length:=by
 simp only [pls,List.length_append,List.length_map,List.length_take,List.length_replicate];omega
theorem kQ(f:Int)(l:List Int)(k:Nat)(hk:k<l.length):(pls f l k)[k]? = some 0:=by
 have e:((l.take k).map (XF f)).length=k:=by simp only [List.length_map,List.length_take];omega
 rw [pls,List.getElem?_append_right (by omega),e,Nat.sub_self,List.getElem?_replicate,if_pos (by omega)]
theorem xO(f:Int)(l:List Int)(k:Nat)(hk:k<l.length):(pls f l k).set k 0=pls f l k:=by
 refine List.ext_getElem? fun i=>?_;rw [List.getElem?_set];split
 · rename_i h
   subst h;rw [if_pos (by rw [ZM f l k (by omega)];exact hk),kQ f l k hk]
 · rfl
theorem kR(f:Int)(l:List Int)(k:Nat)(x:Int)(hx:l[k]? = some x):pls f l (k+1)=(pls f l k).set k (XF f x):=by
 obtain⟨hk,hx2⟩:=List.getElem?_eq_some_iff.1 hx;have e:((l.take k).map (XF f)).length=k:=by simp only [List.length_map,List.length_take];omega
 rw [pls,pls,List.set_append_right _ _ (by omega),e,Nat.sub_self,List.take_add_one,hx,show l.length-k=(l.length-(k+1))+1 by omega,List.replicate_succ];simp
theorem J3e(f:Int)(l:List Int)(k:Nat)(x:Int)(hx:l[k]? = some x)(h:¬0≤x):pls f l (k+1)=pls f l k:=by
 rw [kR f l k x hx,XF,if_neg h,xO f l k (List.getElem?_eq_some_iff.1 hx).1]
theorem J99(l:List Int)(k:Nat)(v:Int):(Js l).set k (.int .i64 v)=Js (l.set k v):=by simp [Js,List.map_set]
section
variable {W w:World}
structure Pst (w wr:World) (r:Nat) (l:List Int):Prop where
 blk:Blk wr r (Js l)
 own:OwnN wr w.heap.size (.slice (some ⟨r,0,none⟩) l.length l.length) l
 bel:Below w.heap.size w wr
theorem Pst.set{w wr:World}{r:Nat}{l:List Int}(h:Pst w wr r l)(hr:w.heap.size≤r)(k:Nat)(v:Int)(hk:k<l.length):Pst w (wr.setCell ⟨r,k,none⟩ (.int .i64 v)) r (l.set k v) :=
 ⟨by rw [←J99];exact h.blk.set k _,by have:=h.own.set k v hk;rwa [List.length_set],h.bel.trans (J31 (Below.refl _ _) hr h.bel.size)⟩
theorem J1e(f:Int)(l:List Int)(sv:Value)(w:World)(hi:IntsAt w sv l)(hl:l.length≤1000)(hf:0≤f∧f≤2000)(hx:∀x∈l,-1≤x∧x≤2000):Calls Tryz.prog 80 #[.int .i64 f,sv] w fun e w'=>∃v,e=.returned v∧OwnN w' w.heap.size v (l.map (XF f))∧Below w.heap.size w w':=by
 have HI:=Zh hi;have HX:=Zh hx;have HF:=Zh hf;obtain⟨sa,sc,hsv,-⟩:=hi;obtain⟨m,hm⟩:∃m,l.length=m:=⟨_,rfl⟩
 rw [hm] at hsv hl;subst hsv;have HM:=Zh hm;have HP0:Hid (Pst w (w.alloc (.cells (madeCells #[.int .i64 0] m) 3)) w.heap.size (pls f l 0)):=Zh (by
  have e:madeCells #[Value.int .i64 0] m=(Js (List.replicate m 0)).toArray:=by
   apply Array.ext'
   rw [toList_madeCells_one]
   simp [Js]
  rw [zf,hm,e]
  exact⟨Blk.new w _ 3,by have:=OwnN.lit w w.heap.size (Nat.le_refl _) (List.replicate m 0) (by simp;omega) _ rfl;exact this,(Below.refl _ _).alloc (Nat.le_refl _) _⟩)
 have mk:=De.J16 m (by omega);clear hx hf hm;go_enter Tryz.func80,Tryz.ntmps80
 go_wp2_with fail
 generalize w.alloc (.cells (madeCells #[.int .i64 0] m) 3)=w1 at *
 go_loopg [13] m (fun q i wr=>∃k:Nat,m-k≤q∧k≤m∧i=.int .i64 k∧Pst w wr w.heap.size (pls f l k))
 case atStart=>exact⟨0,by omega,by omega,rfl,HP0.out⟩
 case round =>
  obtain⟨k,hq,hk,rfl,hst⟩:=hrel;have HP:=Zh hst;clear hst
  by_cases hkm:k<m
  · have gk:decide ((k:Int)<(m:Int))=true:=decide_eq_true (by omega);have hk0:(k:Int)<(m:Int):=by omega
    obtain⟨x,hx⟩:∃x,l[k]? = some x:=⟨_,List.getElem?_eq_getElem (by have:=HM.out;omega)⟩
    have HXX:=Zh hx;have HXB:=Zh (HX.out x (List.mem_of_getElem? hx));obtain⟨g0,o0,c0,hsa,hat⟩:=HI.has (by have:=HM.out;omega);have hsa2:sa=some ⟨g0,o0,none⟩:=by injection hsa
    subst hsa2;have cx:=(HP.bel.cell (block_lt_of_cell (hat k x hx))).trans (hat k x hx);have HKL:Hid (k<l.length):=Zh (by have:=HM.out;omega);have HZ:Hid (wr.cell? ⟨w.heap.size,k,none⟩=some (.int .i64 0)):=Zh (HP.blk.cell (by rw [List.getElem?_map,kQ f l k HKL.out];rfl));have HP1:Hid (Pst w (wr.setCell ⟨w.heap.size,k,none⟩ (.int .i64 0)) w.heap.size (pls f l k)):=Zh (by
     have:=HP.set (Nat.le_refl _) k 0 (by rw [ZM f l k (Nat.le_of_lt HKL.out)];exact HKL.out)
     rwa [xO f l k HKL.out] at this)
    clear hx hat hsa;go_upto_region 5 with fail;refine Zl ?_;refine tk (.slice (some ⟨w.heap.size,0,none⟩) m m) ?_;refine tk (.int .i64 k) ?_;refine tk (.pointer (some ⟨w.heap.size,k,none⟩)) ?_;refine Xu (wr.setCell ⟨w.heap.size,k,none⟩ (.int .i64 0)) rfl (by have q:=HZ.out;have fz:=HP.blk.frozen k;go_simp) ?_;have HZ1:Hid ((wr.setCell ⟨w.heap.size,k,none⟩ (.int .i64 0)).cell? ⟨w.heap.size,k,none⟩=some (.int .i64 0)):=Zh (HP1.blk.cell (by rw [List.getElem?_map,kQ f l k HKL.out];rfl));generalize wr.setCell ⟨w.heap.size,k,none⟩ (.int .i64 0)=wS at *;refine nm ?_;refine Zn ?_
    by_cases hx0:0≤x
    · have gx:decide (0≤x)=true:=decide_eq_true hx0;have HP2:Hid (Pst w (wS.setCell ⟨w.heap.size,k,none⟩ (.int .i64 (f+x))) w.heap.size (pls f l (k+1))):=Zh (by
       have:=HP1.set (Nat.le_refl _) k (f+x) (by rw [ZM f l k (Nat.le_of_lt HKL.out)];exact HKL.out)
       rw [kR f l k x HXX.out,XF,if_pos hx0]
       exact this)
      have gw:Hid (IntKind.i64.wrap (f+x)=f+x):=Zh (JB (by have:=HF.out;omega) (by have:=HF.out;have:=HXB.out;omega));go_upto_region 7 with fail;refine Zl ?_;refine tk (.slice (some ⟨w.heap.size,0,none⟩) m m) ?_;refine tk (.int .i64 k) ?_;refine tk (.int .i64 f) ?_;refine tk (.int .i64 x) ?_;refine tk (.int .i64 (f+x)) ?_ (hr:=by have q:=gw.out;go_simp);refine tk (.pointer (some ⟨w.heap.size,k,none⟩)) ?_;refine Xu (wS.setCell ⟨w.heap.size,k,none⟩ (.int .i64 (f+x))) rfl (by have q:=HZ1.out;have fz:=HP1.blk.frozen k;go_simp) ?_;generalize wS.setCell ⟨w.heap.size,k,none⟩ (.int .i64 (f+x))=wT at *;refine nm ?_;go_wp2_with fail
      go_roundg (m-(k+1))
      case measure=>omega
      case rel=>exact⟨k+1,by omega,by omega,by go_num,HP2.out⟩
    · have gx:decide (0≤x)=false:=decide_eq_false hx0;have HP2:Hid (Pst w wS w.heap.size (pls f l (k+1))):=Zh (by
       rw [J3e f l k x HXX.out hx0]
       exact HP1.out)
      clear HXX HXB
      go_wp2_with fail
      go_roundg (m-(k+1))
      case measure=>omega
      case rel=>exact⟨k+1,by omega,by omega,by go_num,HP2.out⟩
  · have hk2:k=l.length:=by have:=HM.out;omega
    have gk:decide ((k:Int)<(m:Int))=false:=decide_eq_false (by omega);have HR:Hid (Pst w wr w.heap.size (l.map (XF f))):=Zh (by rw [←J3d f l,←hk2];exact HP.out);clear hk2
    go_wp2_with fail
    go_ret;refine⟨_,rfl,?_,HR.bel⟩;have:=HR.own;rw [List.length_map,HM.out] at this;exact this
end
open Go.RowKit
variable {F:Nat→Prop} {c i k n:Nat} {l:List Int} {sv:Value} {w w':World}
theorem Qv(n:Int)(l:List It):(Jf n l).2.length=l.length:=by
 rw [Jf,kz,List.take_of_length_le (kG _)]
theorem Jcz{p:List It}{x:It}(h:p[i]? = some x):∃v:Int,(XL c p)[i]? = some v∧(x.has=false→v=-1)∧(x.has=true→(c:Int)≤v∧v<c+JC (marks p)):=by
 induction p generalizing c i with
 | nil=>simp at h
 | cons y r ih =>
  have hb:JC (marks (y::r))=(if y.has then 1 else 0)+JC (marks r):=rfl;cases i with
  | zero =>
   simp only [List.getElem?_cons_zero,Option.some.injEq] at h;subst h;unfold XL;cases k:y.has
   · exact⟨-1,rfl,fun _=>rfl,fun h=>by cases h⟩
   · refine⟨c,rfl,fun h=>(by cases h),fun _=>⟨Int.le_refl _,?_⟩⟩;rw [hb,k];simp;omega
  | succ i =>
   simp only [List.getElem?_cons_succ] at h;unfold XL;cases k:y.has
   · obtain⟨v,h1,h2,h3⟩:=ih (c:=c) h;refine⟨v,by simpa using h1,h2,fun hh=>?_⟩;rw [hb,k];simpa using h3 hh
   · obtain⟨v,h1,h2,h3⟩:=ih (c:=c+1) h;refine⟨v,by simpa using h1,h2,fun hh=>?_⟩;have:=h3 hh;rw [hb,k];simp only [if_true];omega
theorem J5f{n:Int}{l:List It}{x:It}(h:(l.take (24*k))[i]? = some x):∃v:Int,(Ju n l k).2[i]? = some v∧(x.has=false→v=-1)∧(x.has=true→1≤v∧v<(Ju n l k).1.length):=by
 induction k with
 | zero=>simp at h
 | succ k ih =>
  have hl:=Q0 n l k;have h2:(Ju n l (k+1)).2=(Ju n l k).2++XL ((Ju n l k).1.length+1) (Qa l k):=by
   rw [Ju,Xc,Xd];simp
  rw [Xe] at h;have hlen:=kz n l k
  by_cases hi:i<(l.take (24*k)).length
  · rw [List.getElem?_append_left hi] at h;obtain⟨v,a,b,c⟩:=ih h;refine⟨v,by rw [h2,List.getElem?_append_left (by omega)];exact a,b,fun hh=>?_⟩;have:=c hh;rw [hl,List.length_append];omega
  · rw [List.getElem?_append_right (by omega)] at h;obtain⟨v,a,b,c⟩:=Jcz (c:=(Ju n l k).1.length+1) h;refine⟨v,by rw [h2,List.getElem?_append_right (by omega),hlen];exact a,b,fun hh=>?_⟩;have:=c hh;rw [hl,List.length_append,XE];omega
theorem J9a{n:Int}{l:List It}{x:It}(h:l[i]? = some x):∃v:Int,(Jf n l).2[i]? = some v∧(x.has=false→v=-1)∧(x.has=true→1≤v∧v<(Jf n l).1.length):=J5f (by rw [List.take_of_length_le (kG _)];exact h)
theorem zg{n:Int}{l:List It}{x:Int}(h:x∈(Jf n l).2):-1≤x∧x<(Jf n l).1.length:=by
 obtain⟨i,hi⟩:=List.getElem?_of_mem h;have hil:=(List.getElem?_eq_some_iff.1 hi).1;rw [Qv] at hil;obtain⟨v,h1,h2,h3⟩:=J9a (n:=n) (List.getElem?_eq_getElem hil);rw [hi] at h1;cases h1;cases hh:(l[i]).has
 · have:=h2 hh;omega
 · have:=h3 hh;omega
theorem J9b{l:List It}(h:JJ l=true)(n:Int):1≤(Jf n l).1.length:=by
 rw [QP];have:=Qk h;omega
theorem Yq{g:Pl.Gm}{seg f:Int}{r:List Int}(h:KV g seg (f::r)=true):Xx g f=true∧KV g f r=true:=by
 have h0:=QG h 0 (by simp);unfold okAt at h0;simp only [Bool.and_eq_true] at h0;have hstep:∀i,i+1<(f::r).length→(f::r).getD i 0<(f::r).getD (i+1) 0:=fun i hi=>by
  have h1:=QG h (i+1) hi;unfold okAt at h1;simp only [Bool.and_eq_true,Bool.or_eq_true,decide_eq_true_eq] at h1;have h2:=h1.2;rw [show i+1-1=i from rfl] at h2;omega
 have hlow:∀i,i<r.length→f<r.getD i 0:=fun i=>by
  induction i with
  | zero =>
   intro hi;have:=hstep 0 (by simp;omega);simpa using this
  | succ i ih =>
   intro hi;have h1:=ih (by omega);have h2:=hstep (i+1) (by simp;omega);simp only [List.getD_cons_succ] at h2;omega
 refine⟨by simpa using h0.1.1,kJ fun i hi=>?_⟩;have h1:=QG h (i+1) (by simp;omega);have h3:=hlow i hi;unfold okAt at h1 ⊢;simp only [List.getD_cons_succ,Bool.and_eq_true,Bool.or_eq_true,decide_eq_true_eq,Bool.not_eq_true',decide_eq_false_iff_not] at h1 ⊢;refine⟨⟨h1.1.1,by omega⟩,?_⟩;cases i with
 | zero=>exact .inl rfl
 | succ i =>
  have:=hstep (i+1) (by simp;omega);simp only [List.getD_cons_succ] at this;exact .inr (by simpa using this)
theorem J3f{g:Pl.Gm}{a:Ja}(h1:g.Ok)(h2:Xx g a.seg=true)(h3:0≤a.off)(h4:a.off≤g.l)(h5:KV g a.seg a.free=true):a.good g=true:=by
 unfold Ja.good;simp only [Bool.and_eq_true,decide_eq_true_eq];exact⟨⟨⟨⟨h1,h2⟩,h3⟩,h4⟩,h5⟩
structure Nx (g:Pl.Gm) (a a1:Ja) (n:Nat):Prop where
 seq:a1.seq=a.seq
 seg:0≤a1.seg∧a1.seg<g.s
 off:0≤a1.off∧a1.off+n≤g.l
 free:KV g a1.seg a1.free=true
 ok:g.Ok
theorem kS{g:Pl.Gm}{a a1:Ja}(h:a.good g=true)(hn:(n:Int)≤g.l)(e:QQ g a n=some a1):Nx g a a1 n:=by
 obtain⟨h1,h2,h3,h4,h5⟩:=Ja.good_parts h;unfold QQ at e;split at e
 · injection e with e
   subst e;exact⟨rfl,h2,⟨h3,by omega⟩,h5,h1⟩
 · split at e
   · cases e
   · rename_i f r hf
     injection e with e
     subst e;rw [hf] at h5;obtain⟨k1,k2⟩:=Yq h5;refine⟨rfl,?_,⟨Int.le_refl _,by simpa using hn⟩,k2,h1⟩;unfold Xx at k1;simpa using k1
theorem Nx.good{g:Pl.Gm}{a a1:Ja}(h:Nx g a a1 n)(s:Int):(⟨a1.seg,a1.off+n,s,a1.free⟩:Ja).good g=true :=
 J3f h.ok (by unfold Xx;simpa using h.seg) (by have:=h.off;show 0≤a1.off+(n:Int);omega) h.off.2 h.free
def J8(g:Pl.Gm)(a:Ja):Int:=4+a.seg*g.l+a.off
theorem Nx.first{g:Pl.Gm}{a a1:Ja}(h:Nx g a a1 n):∃f:Nat,J8 g a1=(f:Int)∧4≤f∧((f+n:Nat):Int)≤4+g.s*g.l:=by
 have h0:0≤a1.seg*g.l:=Int.mul_nonneg h.seg.1 (by have:=h.off;omega);have h1:a1.seg*g.l≤(g.s-1)*g.l:=Int.mul_le_mul_of_nonneg_right (by have:=h.seg;omega) (by have:=h.off;omega);rw [Int.sub_mul,Int.one_mul] at h1;have:=h.off;refine⟨(J8 g a1).toNat,?_,?_,?_⟩
 · unfold J8;omega
 · unfold J8;omega
 · unfold J8;push_cast;omega
theorem Jd0(d:De.D)(i:Int)(X:List (List Int)):(wrs d i X).1.S.length=d.S.length∧(wrs d i X).1.T≤d.T+X.length∧(wrs d i X).1.L.length≤d.L.length+X.length:=by
 induction X generalizing d i with
 | nil=>exact⟨rfl,Nat.le_refl _,Nat.le_refl _⟩
 | cons x r ih =>
  have h1:=YO d i (u8s x).toArray;have h2:=write_T d i (u8s x).toArray;have h3:=write_L d i (u8s x).toArray;unfold wrs;split
  · obtain⟨k1,k2,k3⟩:=ih (d.write i (u8s x).toArray) (i+1);simp only [List.length_cons];exact⟨k1.trans h1,by omega,by omega⟩
  · simp only [List.length_cons];exact⟨h1,by omega,by omega⟩
theorem Jd1(d:De.D):d.flush.T≤d.T+1∧d.flush.L.length≤d.L.length:=by
 unfold De.D.flush;split <;> simp
theorem J5g(d:De.D)(i:Int)(X:List (List Int)):(Kw d i X).1.S.length=d.S.length∧(Kw d i X).1.T≤d.T+X.length+1∧(Kw d i X).1.L.length≤d.L.length+X.length:=by
 obtain⟨h1,h2,h3⟩:=Jd0 d i X;unfold Kw;split
 · have:=jj (wrs d i X).1;have:=Jd1 (wrs d i X).1;simp only;omega
 · simp only;omega
structure Pr where
 e:Int
 pl:List Int
 a:Ja
 d:De.D
def KA(g:Pl.Gm)(a:Ja)(d:De.D)(L:List It):Pr :=
 if XX g a L then
  match QQ g a (Jf a.seq L).1.length with
  | none=>⟨14,[],a,d⟩
  | some a1 =>
   if (Kw d (J8 g a1) (Jf a.seq L).1).2 then ⟨0,(Jf a.seq L).2.map (XF (J8 g a1)),⟨a1.seg,a1.off+(Jf a.seq L).1.length,(a.seq+Kh L)%M32,a1.free⟩,(Kw d (J8 g a1) (Jf a.seq L).1).1⟩
   else ⟨12,[],a,(Kw d (J8 g a1) (Jf a.seq L).1).1⟩
 else ⟨1,[],a,d⟩
theorem J3g{g:Pl.Gm}{a:Ja}{d:De.D}{L:List It}(h:XX g a L=false):KA g a d L=⟨1,[],a,d⟩:=by unfold KA;rw [h];rfl
theorem qU{g:Pl.Gm}{a:Ja}{d:De.D}{L:List It}(h:XX g a L=true)(hn:QQ g a (Jf a.seq L).1.length=none):KA g a d L=⟨14,[],a,d⟩:=by unfold KA;rw [if_pos h,hn]
theorem qV{g:Pl.Gm}{a a1:Ja}{d:De.D}{L:List It}(h:XX g a L=true)(hn:QQ g a (Jf a.seq L).1.length=some a1)(hw:(Kw d (J8 g a1) (Jf a.seq L).1).2=false):KA g a d L=⟨12,[],a,(Kw d (J8 g a1) (Jf a.seq L).1).1⟩:=by
 unfold KA;rw [if_pos h,hn];simp only [hw];rfl
theorem xP{g:Pl.Gm}{a a1:Ja}{d:De.D}{L:List It}(h:XX g a L=true)(hn:QQ g a (Jf a.seq L).1.length=some a1)(hw:(Kw d (J8 g a1) (Jf a.seq L).1).2=true) :
 KA g a d L=⟨0,(Jf a.seq L).2.map (XF (J8 g a1)),⟨a1.seg,a1.off+(Jf a.seq L).1.length,(a.seq+Kh L)%M32,a1.free⟩,(Kw d (J8 g a1) (Jf a.seq L).1).1⟩:=by
 unfold KA;rw [if_pos h,hn];simp only [hw];rfl
theorem XY{g:Pl.Gm}{a:Ja}{L:List It}(h:XX g a L=true):JJ L=true∧((Jf a.seq L).1.length:Int)≤g.l:=by
 unfold XX at h;simpa using h
theorem BytesAt.onlyF(h:BytesAt w sv l)(ho:Only F w w')(hn:∀b o n c,sv=.slice (some ⟨b,o,none⟩) n c→¬F b):BytesAt w' sv l:=by
 obtain⟨a,cap,e,hc⟩:=h;refine⟨a,cap,e,fun i x hx=>?_⟩;obtain⟨b,o,e2,hx2⟩:=hc i x hx;refine⟨b,o,e2,?_⟩;rw [←hx2];simp only [World.cell?,ho.block b (block_lt_of_cell hx2) (hn b o _ _ (by rw [e,e2]))]
theorem IntsAt.onlyF(h:IntsAt w sv l)(ho:Only F w w')(hn:∀b o n c,sv=.slice (some ⟨b,o,none⟩) n c→¬F b):IntsAt w' sv l:=by
 obtain⟨a,cap,e,hc⟩:=h;refine⟨a,cap,e,fun i x hx=>?_⟩;obtain⟨b,o,e2,hx2⟩:=hc i x hx;refine⟨b,o,e2,?_⟩;rw [←hx2];simp only [World.cell?,ho.block b (block_lt_of_cell hx2) (hn b o _ _ (by rw [e,e2]))]
theorem ItemsAt.onlyF{l:List (It×Value)}(h:ItemsAt w sv l)(ho:Only F w w')(hn:∀b o n c,sv=.slice (some ⟨b,o,none⟩) n c→¬F b)(hx:∀x∈l,∀b o n c,x.2=.slice (some ⟨b,o,none⟩) n c→¬F b):ItemsAt w' sv l:=by
 obtain⟨a,cap,e,hcap,hc⟩:=h;refine⟨a,cap,e,hcap,fun i x hi=>?_⟩;obtain⟨h1,h2,g,o,h3,h4⟩:=hc i x hi;refine⟨h1,h2.onlyF ho (hx x (List.mem_of_getElem? hi)),g,o,h3,fun j hj=>?_⟩;rw [←h4 j hj];simp only [World.cell?,ho.block g (block_lt_of_cell (h4 j hj)) (hn g o _ _ (by rw [e,h3]))]
open Go.RowKit
def Jip(w:World)(n:Int)(v:Value):Prop:=(n=0∧v=.nilIface)∨((n == 0)=false∧Fault w n v)
section
variable {W w:World} {jb b:Nat} {F:Nat→Prop} {d:De.D} {g:Pl.Gm} {a:Ja} {fv:Value}
theorem J9c(h:Jn W w jb b F d g a fv)(n:Nat)(a1:Ja)(hx:QQ g a n=some a1):Calls Tryz.prog 76 #[.pointer (some ⟨jb,0,none⟩),.int .i64 n] w fun e w'=>∃fv',e=.returned (.tuple #[.agg #[.int .i64 a1.seg,.int .i64 a1.off,.int .u32 a1.seq,fv'],.nilIface])∧Room w' fv fv' a1∧Below w.heap.size w w':=by
 unfold QQ at hx;split at hx
 · rename_i hn
   injection hx with hx
   subst hx;exact (J5c h n hn).mono fun e w' ⟨h1,h2,h3⟩=>⟨fv,h1,h2,h3⟩
 · rename_i hn
   split at hx
   · cases hx
   · rename_i f r hf
     injection hx with hx
     subst hx;exact J5e h n hn f r hf
def Src(fv fv':Value):Prop:=∀b o n c,fv'=.slice (some ⟨b,o,none⟩) n c→∃o2 n2 c2,fv=.slice (some ⟨b,o2,none⟩) n2 c2
theorem Src.refl(fv:Value):Src fv fv:=fun b o n c e=>⟨o,n,c,e⟩
def PutOut(W w:World)(jb b:Nat)(F:Nat→Prop)(fv:Value)(g:Pl.Gm)(p:Pr)(pv ev:Value)(w':World):Prop :=
 ∃F' fv',Jip w' p.e ev∧OwnN w' w.heap.size pv p.pl∧Jn W w' jb b F' p.d g p.a fv'∧Only (fun k=>F k∨k=jb) w w'∧(∀k,F' k→F k∨w.heap.size≤k)∧(∀k,pv.ownBlock=some k→¬F' k∧k≠jb)∧Src fv fv'
theorem PutOut.same(h:Jn W w jb b F d g a fv){w':World}(hb:Below w.heap.size w w'){n:Int}(hn:(n == 0)=false){ev:Value}(hf:Fault w' n ev):PutOut W w jb b F fv g ⟨n,[],a,d⟩ (.slice none 0 0) ev w' :=
 ⟨F,fv,.inr ⟨hn,hf⟩,OwnN.nil _ _,h.below hb,Only.of_below hb,fun k hk=>.inl hk,(fun k hk=>by cases hk),Src.refl _⟩
theorem Jg8(h:Jn W w jb b F d g a fv)(l:List (It×Value))(L:List It)(hL:l.map (·.1)=L)(sv:Value)(hlen:l.length<100000)(hi:ItemsAt w sv l)(hno:XX g a L=false):Calls Tryz.prog 48 #[.pointer (some ⟨jb,0,none⟩),sv] w fun e w'=>∃pv ev,e=.returned (.tuple #[pv,ev])∧PutOut W w jb b F fv g (KA g a d L) pv ev w':=by
 have HLA:=Zh (Jcx h l L hL sv hlen hi hno);have HWF:=Zh fun v s w (h:Fault w 1 v)=>Xh 1 v s w h;have HJ:=Zh h;rw [J3g hno];obtain⟨sa,sc,hsv⟩:=Q7 hi;obtain⟨m,hm⟩:∃m,l.length=m:=⟨_,rfl⟩
 rw [hm] at hsv;subst hsv;clear h hL hlen hi hno hm;go_enter Tryz.func48,Tryz.ntmps48
 go_wp2_with fail
 refine HLA.mono ?_;rintro e w1 ⟨v,rfl,hf,hb⟩;have HB:=Zh hb;have HF:=Zh hf;obtain⟨T,dd,hv⟩:=hf.shape;subst hv;clear hf hb
 go_wp2_with fail
 refine (HWF.out _ _ _ HF.out).mono ?_;rintro e w2 ⟨v2,rfl,hf,hb⟩;have HB2:=Zh (Jr HB.out hb);have HF2:=Zh hf;obtain⟨T2,dd2,hv⟩:=hf.shape;subst hv;clear hf hb
 go_wp2_with fail
 first|go_ret2|go_ret
 exact⟨_,_,rfl,PutOut.same HJ.out HB2.out rfl HF2.out⟩
theorem J9d(h:Jn W w jb b F d g a fv)(l:List (It×Value))(L:List It)(hL:l.map (·.1)=L)(sv:Value)(hlen:l.length<100000)(hi:ItemsAt w sv l)(hyes:XX g a L=true)(hx:QQ g a (Jf a.seq L).1.length=none):Calls Tryz.prog 48 #[.pointer (some ⟨jb,0,none⟩),sv] w fun e w'=>∃pv ev,e=.returned (.tuple #[pv,ev])∧PutOut W w jb b F fv g (KA g a d L) pv ev w':=by
 have HLA:=Zh (ze h l L hL sv hlen hi hyes);have HWF:=Zh fun v s w (h:Fault w 14 v)=>Xh 14 v s w h;have HJ:=Zh h;rw [qU hyes hx];obtain⟨sa,sc,hsv⟩:=Q7 hi;obtain⟨m,hm⟩:∃m,l.length=m:=⟨_,rfl⟩
 rw [hm] at hsv;subst hsv;obtain⟨N,hN⟩:∃N,(Jf a.seq L).1.length=N:=⟨_,rfl⟩
 rw [hN] at hx;have HNN:=Zh hN;have hno:¬(N:Int)≤g.l-a.off∧a.free=[]:=by
  unfold QQ at hx;split at hx
  · cases hx
  · rename_i hn
    split at hx
    · rename_i hf
      exact⟨hn,hf⟩
    · cases hx
 have HRO:=Zh fun w (h:Jn W w jb b F d g a fv)=>J5d h N hno.1 hno.2;clear h hL hlen hi hyes hm hx hN hno;go_enter Tryz.func48,Tryz.ntmps48
 go_wp2_with fail
 refine HLA.mono ?_;rintro e w1 ⟨s7,s8,rfl,ht⟩;have HB:=Zh ht.b;obtain⟨a7,c7',hv7,-⟩:=ht.s.len;obtain⟨a8,c8',hv8⟩:=ht.a.ints.form;rw [HNN.out] at hv7;subst hv7;subst hv8;clear ht;go_upto_region 6 with fail;refine Zl ?_;refine tk (.pointer (some ⟨jb,0,none⟩)) ?_;refine tk (.slice a7 N c7') ?_;refine tk (.int .i64 N) ?_;refine J0 rfl fun K hK=>?_;go_simp;refine (HRO.out _ (HJ.below HB.out)).mono ?_;rintro e w2 ⟨v,rfl,hf,hb⟩;have HB2:=Zh (Jr HB.out hb);have HF2:=Zh hf;obtain⟨T,dd,hv⟩:=hf.shape;subst hv;clear hf hb;refine hK _ _ (nm ?_);clear hK K;refine tk (.tuple #[.agg #[.int .i64 0,.int .i64 0,.int .u32 0,.slice none 0 0],.iface T dd]) ?_;refine tk (.agg #[.int .i64 0,.int .i64 0,.int .u32 0,.slice none 0 0]) ?_;refine tk (.iface T dd) ?_;refine J4 Q2 rfl ?_;intro w3 hR hb hl;refine nm ?_;have HB3:=Zh (Jr HB2.out (hb.mono (Nat.le_refl _)));have HF3:=Zh (HF2.below hb);have HL3:=Zh HB2.size;refine J3 (cs:=#[.int .i64 0,.int .i64 0,.int .u32 0,.slice none 0 0]) hR rfl JG (Kj _ _ _ _ _ _) rfl rfl rfl ?_;intro w4 hD hO hlD;refine nm ?_;have HB4:=Zh (HB3.trans (hO.below HB3.size fun k hk=>by have:=HL3.out;omega));have HF4:=Zh (HF3.onlyZ hO hR);clear hR hb hl hD hO hlD;refine tk (.iface T dd) ?_;go_wp2_with fail
 refine (HWF.out _ _ _ HF4.out).mono ?_;rintro e w5 ⟨v2,rfl,hf,hb⟩;have HB5:=Zh (Jr HB4.out hb);have HF5:=Zh hf;obtain⟨T2,dd2,hv⟩:=hf.shape;subst hv;clear hf hb
 go_wp2_with fail
 first|go_ret2|go_ret
 exact⟨_,_,rfl,PutOut.same HJ.out HB5.out rfl HF5.out⟩
end
open Go.RowKit
theorem OwnS.far{w w':World}{B:Nat}{sv:Value}{l:List (List Int)}(h:OwnS w B sv l){F:Nat→Prop}(hF:∀k,F k→k<B):∀b o n c,sv=.slice (some ⟨b,o,none⟩) n c→¬F b∧b<w.heap.size:=fun b o n c e=>by
 have:=h.lt b (by rw [e];rfl);exact⟨fun hb=>by have:=hF b hb;omega,this.2⟩
section
variable {W w:World} {jb b:Nat} {F:Nat→Prop} {d:De.D} {g:Pl.Gm} {a:Ja} {fv:Value}
theorem Jn.turnS{w':World}{a':Ja}{fv':Value}{S:Nat→Prop}(h:Jn W w jb b F d g a fv)(ho:Only S w w')(hS:∀k,S k→W.heap.size≤k)(hF:∀k,F k→¬S k)(hb:Blk w' jb [.pointer (some ⟨b,0,none⟩),.int .i64 g.p,.int .i64 g.s,.int .i64 g.l,.int .i64 g.f,.int .i64 a'.seg,.int .i64 a'.off,.int .u32 a'.seq,fv'])(hf:IntsAt w' fv' a'.free)(hs:∀b' o n c,fv'=.slice (some ⟨b',o,none⟩) n c→W.heap.size≤b'∧b'≠jb∧¬F b'∧b'<w'.heap.size)(hg:a'.good g=true)(hq:Km a'.seq)(hc:∀q n c,fv'=.slice q n c→n≤c):Jn W w' jb b F d g a' fv' :=
 ⟨h.dv.go ho hS hF,hb,hf,h.lo,h.nF,hs,hg,hq,h.total,hc⟩
theorem Jg9(h:Jn W w jb b F d g a fv)(hV:Vars W)(l:List (It×Value))(L:List It)(hL:l.map (·.1)=L)(sv:Value)(hlen:l.length<100000)(hi:ItemsAt w sv l)(hit:∀w',Only F w w'→ItemsAt w' sv l)(hyes:XX g a L=true)(a1:Ja)(hx:QQ g a (Jf a.seq L).1.length=some a1)(hS:d.S.length≤1024)(hT:d.T≤800000)(hLn:d.L.length≤800000):Calls Tryz.prog 48 #[.pointer (some ⟨jb,0,none⟩),sv] w fun e w'=>∃pv ev,e=.returned (.tuple #[pv,ev])∧PutOut W w jb b F fv g (KA g a d L) pv ev w':=by
 obtain⟨hmb,hle⟩:=XY hyes;have hnx:=kS h.good hle hx;obtain⟨f,hf,hf4,hfn⟩:=hnx.first;have HLA:=Zh (ze h l L hL sv hlen hi hyes);have HRO:=Zh fun w (h:Jn W w jb b F d g a fv)=>J9c h _ a1 hx;have HWF:=Zh fun v s w (h:Fault w 12 v)=>Xh 12 v s w h;have HJ:=Zh h;have HV:=Zh hV;have HIT:=Zh hit;have HPG:=Zh fun w' (h:ItemsAt w' sv l)=>J0m l L hL sv hlen w' h;have hPN:Kh L=((parts L.length:Nat):Int):=by unfold Kh;rw [hmb];rfl
 have h64:=(JP.1 hmb).2.1;have hP3:=Qk hmb;have HNG:Hid (∀s,(⟨a1.seg,a1.off+((Jf a.seq L).1.length:Nat),s,a1.free⟩:Ja).good g=true):=Zh hnx.good;have HOK:=Zh fun hw=>xP (d:=d) hyes hx hw;have HNO:=Zh fun hw=>qV (d:=d) hyes hx hw;rw [hf] at HOK HNO;have HPM:Hid (∀x∈(Jf a.seq L).2,-1≤x∧x≤2000):=Zh fun x hx=>by
  have:=zg hx;have:=hnx.ok.2.2.1.2;omega
 have HPL:Hid ((Jf a.seq L).2.length≤1000):=Zh (by rw [Qv];omega);obtain⟨k,hk⟩:∃k,(Jf a.seq L).1.length=k:=⟨_,rfl⟩
 rw [hk] at hle hx hfn HRO HNG HOK hnx;have HK:=Zh hk;obtain⟨q,hq⟩:∃q,Kh L=q:=⟨_,rfl⟩
 rw [hq] at HOK HPG hPN;have hq3:1≤q∧q≤3:=by omega
 obtain⟨sa,sc,hsv⟩:=Q7 hi;obtain⟨m,hm⟩:∃m,l.length=m:=⟨_,rfl⟩
 rw [hm] at hsv;subst hsv;have hfS:f+k≤d.S.length:=by have:=h.total;omega
 have HFB:Hid (f+k≤d.S.length∧d.S.length≤1024∧d.T+k≤900000∧d.L.length+k≤900000):=Zh (by omega);have HGO:=Zh hnx.ok;have HSEG:Hid (0≤a1.seg∧a1.seg≤g.s-1):=Zh (by have:=hnx.seg;omega);have HSQ:Hid (a1.seq=a.seq):=Zh hnx.seq;have gw:Hid (IntKind.i64.wrap (4+a1.seg*g.l+a1.off)=(f:Int)):=Zh (by
  unfold J8 at hf
  rw [hf]
  exact JB (by omega) (by omega))
 have gw2:Hid (IntKind.i64.wrap (a1.off+(k:Int))=a1.off+(k:Int)):=Zh (JB (by have:=hnx.off;omega) (by have:=hnx.off;have:=hnx.ok.2.2.1.2;omega));have gw3:Hid (IntKind.u32.wrap q=q):=Zh (j7 (by omega) (by omega));have gw4:Hid (IntKind.u32.wrap (a.seq+q)=(a.seq+q)%M32):=Zh (by rw [IntKind.wrap_u32];rfl);have HSZ:=Zh fun k hk=>(h.dv.lt k hk).2;have HWZ:=Zh h.dv.2.size;have HJL:=Zh h.blk.lt;clear h hV hL hlen hi hit hyes hm hx hmb hle hnx hf hk hq h64 hP3 hPN hS hT hLn hfS hfn hf4;go_enter Tryz.func48,Tryz.ntmps48
 go_wp2_with fail
 refine HLA.mono ?_;rintro e w1 ⟨s7,s8,rfl,ht⟩;have HT:=Zh ht;obtain⟨a7,c7',hv7,-⟩:=ht.s.len;obtain⟨a8,c8',hv8⟩:=ht.a.ints.form;rw [HK.out] at hv7;obtain⟨n8,hn8⟩:∃n,(Jf a.seq L).2.length=n:=⟨_,rfl⟩
 rw [hn8] at hv8;have HN8:=Zh hn8;subst hv7;subst hv8;clear ht hn8;go_upto_region 6 with fail;refine Zl ?_;refine tk (.pointer (some ⟨jb,0,none⟩)) ?_;refine tk (.slice a7 k c7') ?_;refine tk (.int .i64 k) ?_;refine J0 rfl fun K hK=>?_;go_simp;refine (HRO.out _ (HJ.below HT.b)).mono ?_;rintro e w2 ⟨tv,rfl,hr,hb⟩;have HT2:=Zh (HT.below hb);have HR:=Zh hr;obtain⟨ta,tc,htv⟩:=hr.fr.form;obtain⟨n9,hn9⟩:∃n,a1.free.length=n:=⟨_,rfl⟩
 rw [hn9] at htv;subst htv;clear hr hb HT hn9;refine hK _ _ (nm ?_);clear hK K;refine tk (.tuple #[.agg #[.int .i64 a1.seg,.int .i64 a1.off,.int .u32 a1.seq,.slice ta n9 tc],.nilIface]) ?_;refine tk (.agg #[.int .i64 a1.seg,.int .i64 a1.off,.int .u32 a1.seq,.slice ta n9 tc]) ?_;refine tk (.nilIface) ?_;rw [HSQ.out];refine J4 Q2 rfl ?_;intro w3 hA hb hl;refine nm ?_;refine J3 (cs:=#[.int .i64 a1.seg,.int .i64 a1.off,.int .u32 a.seq,.slice ta n9 tc]) hA rfl JG (Kj _ _ _ _ _ _) rfl rfl rfl ?_;intro w4 hD hO hlD;refine nm ?_;have hbb:Below w2.heap.size w2 w4:=hb.trans (hO.below hb.size fun k hk=>Nat.le_of_eq hk.symm);have HV4:=Zh hD;have HT4:=Zh (HT2.below hbb);have HR4:=Zh (HR.fr.below hbb);have HJ4:=Zh (HJ.below HT4.b);have HVL:Hid (w.heap.size≤w2.heap.size):=Zh HT2.b.size;have HTV:Hid (∀b',Value.ownBlock (.slice a8 n8 c8')=some b'→w.heap.size≤b'∧b'<w2.heap.size):=Zh fun b' e=>HT2.a.lt b' e;clear HT2;generalize w2.heap.size=v at *;clear hA hb hl hD hO hlD hbb;refine tk (.nilIface) ?_;go_upto_region 9 with fail;refine J9 (fun wq=>Below w4.heap.size w4 wq) (by kernel_rfl) ?_;have HSd:Hid (Below w4.heap.size w4 w4.drew):=Zh (Below.refl _ _).drew;refine th 0 37 (.pointer (some ⟨jb,0,none⟩)) HSd.out ?_;refine th 1 38 (.pointer (some ⟨jb,0,none⟩)) HSd.out ?_;refine th 2 39 (.pointer (some ⟨jb,1,none⟩)) HSd.out ?_;refine th 3 40 (.agg #[.int .i64 g.p,.int .i64 g.s,.int .i64 g.l,.int .i64 g.f]) HSd.out ?_ (hy:=fun wq hS=>by obtain⟨c0,c1,c2,c3,c4,c5,c6,c7,c8⟩:=(HJ4.below hS).cells;go_simp);refine th 4 41 (.pointer (some ⟨v,0,none⟩)) HSd.out ?_;refine th 5 42 (.int .i64 a1.seg) HSd.out ?_ (hy:=fun wq hS=>by have q:=(HV4.below hS HV4.lt).cell (i:=0) rfl;go_simp);refine th 7 44 (.pointer (some ⟨v,1,none⟩)) HSd.out ?_;refine th 8 45 (.int .i64 a1.off) HSd.out ?_ (hy:=fun wq hS=>by have q:=(HV4.below hS HV4.lt).cell (i:=1) rfl;go_simp);refine Zo 6 fun K hK=>?_;go_simp;refine (Pl.J77 g HGO.out a1.seg HSEG.out _).mono ?_;rintro e w5 ⟨rfl,hb⟩;have HS5:=Zh (Jr HSd.out hb);refine hK _ _ HS5.out ?_;clear hK K hb;refine nm ?_;refine th 9 46 (.int .i64 (f:Int)) HS5.out ?_ (hy:=fun wq hS=>by have q:=gw.out;go_simp);refine th 10 10 (.int .i64 (f:Int)) HS5.out ?_;refine Zd ?_;have HV5:=Zh (HV4.below HS5.out HV4.lt);have HT5:=Zh (HT4.below HS5.out);have HR5:=Zh (HR4.below HS5.out);have HJ5:=Zh (HJ.below HT5.b);clear HV4 HT4 HR4 HJ4 HSd HS5;go_upto_region 10 with fail;refine Zl ?_;refine tk (.pointer (some ⟨jb,0,none⟩)) ?_;refine tk (.int .i64 (f:Int)) ?_;refine tk (.slice a7 k c7') ?_;refine J0 rfl fun K hK=>?_;go_simp;refine (J1d HJ5.out HV.out f (Jf a.seq L).1 _ HT5.s.secs (OwnS.far (w':=w5) HT5.s HSZ.out) (by rw [HK.out];exact HFB.out.1) HFB.out.2.1 (by rw [HK.out];exact HFB.out.2.2.1) (by rw [HK.out];exact HFB.out.2.2.2)).mono ?_;rintro e w6 ⟨wv,F',rfl,he,hj,ho,hn⟩;have HO6:Hid (Only F w w6):=Zh ((Only.of_below (S:=F) HT5.b).then ho (fun j hj=>.inl hj));have HN6:Hid (∀j,F' j→F j∨w.heap.size≤j):=Zh fun j hj=>(hn j hj).imp id fun h2=>Nat.le_trans HT5.b.size h2;have HVF:Hid (¬F v):=Zh fun hF=>by have:=HSZ.out v hF;have:=HVL.out;omega
 have HNV:Hid (¬F' v):=Zh fun hF=>by
  rcases hn v hF with h1|h1
  · exact HVF.out h1
  · have:=HV5.lt;omega
 have HJ6:=Zh hj;have HV6:=Zh (HV5.only ho HVF.out);have HR6:=Zh (HR5.onlyF ho fun b' o n c e=>by
  obtain⟨o2,n2,c2,e2⟩:=HR.src b' o n c e
  exact (HJ.sep b' o2 n2 c2 e2).2.2.1)
 have HA6:=Zh (HT5.a.ints.onlyF ho fun b' o n c e hF=>by
  have:=HT5.a.lt b' (by rw [e];rfl)
  have:=HSZ.out b' hF
  omega)
 have HFAR:Hid (∀b' o n c,Value.slice a8 n8 c8'=.slice (some ⟨b',o,none⟩) n c→w.heap.size≤b'∧¬b'=v):=Zh fun b' o n c e=>by
  have h1:=HTV.out b' (by rw [e];rfl);exact⟨h1.1,by omega⟩
 clear hj ho hn HV5 HR5 HT5 HJ5;rcases he with ⟨hw,rfl⟩|⟨hw,hf⟩
 · have HW:=Zh hw;clear hw;refine hK _ _ (nm ?_);clear hK K;refine tk (.nilIface) ?_;go_upto_region 13 with fail;refine Zl ?_;refine tk (.pointer (some ⟨v,1,none⟩)) ?_;refine tk (.int .i64 a1.off) ?_ (hr:=by have q:=HV6.cell (i:=1) rfl;go_simp);refine tk (.slice a7 k c7') ?_;refine tk (.int .i64 k) ?_;refine tk (.int .i64 (a1.off+(k:Int))) ?_ (hr:=by have q:=gw2.out;go_simp);refine tk (.pointer (some ⟨v,1,none⟩)) ?_;refine Xu (w6.setCell ⟨v,1,none⟩ (.int .i64 (a1.off+(k:Int)))) rfl (by have q:=HV6.cell (i:=1) rfl;have fz:=HV6.frozen 1;go_simp) ?_;have HV7:=Zh (HV6.set 1 (.int .i64 (a1.off+(k:Int))));have HO7:Hid (Only (fun k=>k=v) w6 (w6.setCell ⟨v,1,none⟩ (.int .i64 (a1.off+(k:Int))))):=Zh ((Only.refl (fun k=>k=v) w6).setCell (p:=⟨v,1,none⟩) (.inl rfl) _);generalize w6.setCell ⟨v,1,none⟩ (.int .i64 (a1.off+(k:Int)))=w7 at *;refine nm ?_;go_upto_region 14 with fail
   go_cut [67] from 61 to 67 (fun s wx=>s=.pointer (some ⟨v,2,none⟩)∧Blk wx v [.int .i64 a1.seg,.int .i64 (a1.off+(k:Int)),.int .u32 ((a.seq+q)%M32),.slice ta n9 tc]∧Only (fun k=>k=v) w7 wx)
   case first =>
    refine J9 (fun wq=>Only (fun k=>k=v) w7 wq) (by kernel_rfl) ?_;have HSd:Hid (Only (fun k=>k=v) w7 w7.drew):=Zh (Only.refl _ _).drew;have HVd:=Zh HV7.drew;have HIW:Hid (∀wq,Only (fun k=>k=v) w7 wq→ItemsAt wq (.slice sa m sc) l):=Zh fun wq hS=>HIT.out wq (HO6.then (HO7.trans hS) (fun j hj=>.inr (by rw [hj];exact HVL.out)));generalize w7.drew=wS at *;refine th 0 61 (.pointer (some ⟨v,2,none⟩)) HSd.out ?_;refine th 2 63 (.slice sa m sc) HSd.out ?_;refine Zu 1 3 (by kernel_rfl) rfl rfl rfl rfl (fun K hK=>?_) (fun K hK=>?_)
    · refine Jb (some 62) rfl (.int .u32 a.seq) wS (by have hq:=HVd.cell (i:=2) rfl;go_simp) ?_;refine hK _ _ HSd.out (nm ?_);clear hK K;refine Zo 3 fun K hK=>?_;go_simp;refine (HPG.out _ (HIW.out _ HSd.out)).mono ?_;rintro e wT ⟨rfl,hb⟩;have HST:Hid (Only (fun k=>k=v) w7 wT):=Zh (HSd.trans (Only.of_below hb));have HVT:=Zh (HVd.below hb HVd.lt);refine hK _ _ HST.out ?_;clear hK K hb;refine nm ?_;refine th 4 65 (.int .u32 q) HST.out ?_ (hy:=fun wq hS=>by have z:=gw3.out;go_simp);refine th 5 66 (.int .u32 ((a.seq+q)%M32)) HST.out ?_ (hy:=fun wq hS=>by have z:=gw4.out;go_simp);refine th 6 67 (.pointer (some ⟨v,2,none⟩)) HST.out ?_;refine Zo 7 fun K hK=>?_;refine JX none rfl (wT.setCell ⟨v,2,none⟩ (.int .u32 ((a.seq+q)%M32))) (by have hq:=HVT.cell (i:=2) rfl;have hf:=HVT.frozen 2;go_simp) ?_;have HSe:Hid (Only (fun k=>k=v) w7 (wT.setCell ⟨v,2,none⟩ (.int .u32 ((a.seq+q)%M32)))):=Zh (HST.setCell (p:=⟨v,2,none⟩) (.inl rfl) _);have HVe:=Zh (HVT.set 2 (.int .u32 ((a.seq+q)%M32)));refine hK _ _ HSe.out ?_;clear hK K;generalize wT.setCell ⟨v,2,none⟩ (.int .u32 ((a.seq+q)%M32))=wU at *;refine nm ?_;refine Zd ?_
      go_wp2_with fail
      go_meet
      exact⟨rfl,HVe.out,HSe.out⟩
    · go_simp;refine (HPG.out _ (HIW.out _ HSd.out)).mono ?_;rintro e wT ⟨rfl,hb⟩;have HST:Hid (Only (fun k=>k=v) w7 wT):=Zh (HSd.trans (Only.of_below hb));have HVT:=Zh (HVd.below hb HVd.lt);refine hK _ _ HST.out ?_;clear hK K hb;refine nm ?_;refine th 4 65 (.int .u32 q) HST.out ?_ (hy:=fun wq hS=>by have z:=gw3.out;go_simp);refine Zo 1 fun K hK=>?_;refine Jb (some 62) rfl (.int .u32 a.seq) wT (by have hq:=HVT.cell (i:=2) rfl;go_simp) ?_;refine hK _ _ HST.out (nm ?_);clear hK K;refine th 5 66 (.int .u32 ((a.seq+q)%M32)) HST.out ?_ (hy:=fun wq hS=>by have z:=gw4.out;go_simp);refine th 6 67 (.pointer (some ⟨v,2,none⟩)) HST.out ?_;refine Zo 7 fun K hK=>?_;refine JX none rfl (wT.setCell ⟨v,2,none⟩ (.int .u32 ((a.seq+q)%M32))) (by have hq:=HVT.cell (i:=2) rfl;have hf:=HVT.frozen 2;go_simp) ?_;have HSe:Hid (Only (fun k=>k=v) w7 (wT.setCell ⟨v,2,none⟩ (.int .u32 ((a.seq+q)%M32)))):=Zh (HST.setCell (p:=⟨v,2,none⟩) (.inl rfl) _);have HVe:=Zh (HVT.set 2 (.int .u32 ((a.seq+q)%M32)));refine hK _ _ HSe.out ?_;clear hK K;generalize wT.setCell ⟨v,2,none⟩ (.int .u32 ((a.seq+q)%M32))=wU at *;refine nm ?_;refine Zd ?_
      go_wp2_with fail
      go_meet
      exact⟨rfl,HVe.out,HSe.out⟩
   case rest =>
    obtain⟨rfl,hv,ho⟩:=hcut;have HV9:=Zh hv;have HO9:=Zh (HO7.trans ho);have HVJ:Hid (¬jb=v):=Zh (by have:=HJL.out;have:=HVL.out;omega);have HJB:=Zh (HJ6.blk.only HO9.out HVJ.out);clear hv ho HV6 HV7 HO7;go_upto_region 15 with fail;refine Zl ?_;refine tk (.pointer (some ⟨jb,0,none⟩)) ?_;refine tk (.agg #[.int .i64 a1.seg,.int .i64 (a1.off+(k:Int)),.int .u32 ((a.seq+q)%M32),.slice ta n9 tc]) ?_ (hr:=by have q0:=HV9.cell (i:=0) rfl;have q1:=HV9.cell (i:=1) rfl;have q2:=HV9.cell (i:=2) rfl;have q3:=HV9.cell (i:=3) rfl;go_simp);refine tk (.pointer (some ⟨jb,0,none⟩)) ?_;refine tk (.pointer (some ⟨jb,5,none⟩)) ?_;refine Zs (g:=jb) (off:=5) (cs:=#[.int .i64 a1.seg,.int .i64 (a1.off+(k:Int)),.int .u32 ((a.seq+q)%M32),.slice ta n9 tc]) HJB.out JG (by simp) (Kj _ _ _ _ _ _) rfl rfl rfl ?_;intro wB hD hO hlD;refine nm ?_;have HOB:Hid (Only (fun k=>k=v∨k=jb) w6 wB):=Zh ((HO9.more fun j _ hj=>.inl hj).trans (hO.more fun j _ hj=>.inr hj));have HSRC:Hid (∀b' o n c,Value.slice ta n9 tc=.slice (some ⟨b',o,none⟩) n c→W.heap.size≤b'∧b'≠jb∧¬F b'∧b'<w.heap.size):=Zh fun b' o n c e=>by
     obtain⟨o2,n2,c2,e2⟩:=HR.src b' o n c e;exact HJ.sep b' o2 n2 c2 e2
    have HTB:=Zh (HJ6.turnS (a':=⟨a1.seg,a1.off+(k:Int),(a.seq+q)%M32,a1.free⟩) HOB.out
     (fun j hj=>hj.elim (fun e=>by rw [e];exact Nat.le_trans HWZ.out HVL.out) fun e=>by rw [e];exact HJ.lo)
     (fun j hF hj=>hj.elim (fun e=>HNV.out (e ▸ hF)) fun e=>HJ6.nF (e ▸ hF))
     (by simpa [Jt] using hD)
     (HR6.onlyF HOB.out fun b' o n c e hj=>by
      obtain⟨h1,h2,h3,h4⟩:=HSRC.out b' o n c e
      rcases hj with hj|hj
      · have:=HVL.out;omega
      · exact h2 hj)
     (fun b' o n c e=>by
      obtain⟨h1,h2,h3,h4⟩:=HSRC.out b' o n c e
      refine⟨h1,h2,fun hF=>?_,?_⟩
      · rcases HN6.out b' hF with h5|h5
        · exact h3 h5
        · omega
      · have:=HO6.size;have:=HOB.size;omega)
     (HNG.out _) (YJ _) HR.cp)
    have HAB:=Zh (HA6.onlyF HOB.out fun b' o n c e hj=>by
     have h1:=HFAR.out b' o n c e
     rcases hj with hj|hj
     · exact h1.2 hj
     · have:=HJL.out;omega)
    clear hD hO hlD;go_upto_region 16 with fail;refine Zl ?_;refine tk (.int .i64 (f:Int)) ?_;refine tk (.slice a8 n8 c8') ?_;refine J0 rfl fun K hK=>?_;go_simp;refine (J1e f (Jf a.seq L).2 _ _ HAB.out HPL.out (by have:=HFB.out;omega) HPM.out).mono ?_;rintro e wC ⟨pv,rfl,hown,hb⟩;have HOW:=Zh (hown.mono (show w.heap.size≤wB.heap.size by have:=HO6.size;have:=HOB.size;omega));have HTC:=Zh (HTB.below hb);have HPA:Hid (∀k,pv.ownBlock=some k→¬F' k∧k≠jb):=Zh fun k hk=>by
     have h1:=(hown.lt k hk).1;have h2:=HOB.size;have h3:=HO6.size;have h4:=HJL.out;exact⟨fun hF=>by have:=(HJ6.dv.lt k hF).2;omega,by omega⟩
    have HOC:Hid (Only (fun k=>F k∨k=jb) w wC):=Zh ((((HO6.more fun j _ hj=>.inl hj).then HOB.out fun j hj=>by
     rcases hj with rfl|rfl
     · exact .inr HVL.out
     · exact .inl (.inr rfl))).trans (Only.of_below hb))
    obtain⟨pa,pc,hpv⟩:=hown.ints.form;obtain⟨pn,hpn⟩:∃n,((Jf a.seq L).2.map (XF f)).length=n:=⟨_,rfl⟩
    rw [hpn] at hpv;subst hpv;clear hown hb hpn;refine hK _ _ (nm ?_);clear hK K;refine tk (.slice pa pn pc) ?_;refine tk (.nilIface) ?_;go_wp2_with fail
    first|go_ret2|go_ret
    refine⟨_,_,rfl,?_⟩;rw [HOK.out HW.out];exact⟨F',_,.inl ⟨rfl,rfl⟩,HOW.out,HTC.out,HOC.out,HN6.out,HPA.out,HR.src⟩
 · have HW:=Zh hw;have HF6:=Zh hf;obtain⟨T,dd,hv⟩:=hf.shape;subst hv;clear hw hf;refine hK _ _ (nm ?_);clear hK K;refine tk (.iface T dd) ?_;go_wp2_with fail
   refine (HWF.out _ _ _ HF6.out).mono ?_;rintro e w8 ⟨v2,rfl,hf,hb⟩;have HJ8:=Zh (HJ6.below hb);have HO8:Hid (Only (fun k=>F k∨k=jb) w w8):=Zh ((HO6.more fun j _ hj=>.inl hj).trans (Only.of_below hb));have HF8:=Zh hf;obtain⟨T2,dd2,hv⟩:=hf.shape;subst hv;clear hf hb
   go_wp2_with fail
   first|go_ret2|go_ret
   refine⟨_,_,rfl,?_⟩;rw [HNO.out HW.out];exact⟨F',fv,.inr ⟨rfl,HF8.out⟩,OwnN.nil _ _,HJ8.out,HO8.out,HN6.out,(fun k hk=>by cases hk),Src.refl _⟩
end
open Go.RowKit
section
variable {W w:World} {jb b:Nat} {F:Nat→Prop} {d:De.D} {g:Pl.Gm} {a:Ja} {fv:Value}
theorem J9e(h:Jn W w jb b F d g a fv)(hV:Vars W)(l:List (It×Value))(L:List It)(hL:l.map (·.1)=L)(sv:Value)(hlen:l.length<100000)(hi:ItemsAt w sv l)(hit:∀w',Only F w w'→ItemsAt w' sv l)(hS:d.S.length≤1024)(hT:d.T≤800000)(hLn:d.L.length≤800000):Calls Tryz.prog 48 #[.pointer (some ⟨jb,0,none⟩),sv] w fun e w'=>∃pv ev,e=.returned (.tuple #[pv,ev])∧PutOut W w jb b F fv g (KA g a d L) pv ev w':=by
 cases hy:XX g a L
 · exact Jg8 h l L hL sv hlen hi hy
 · cases hx:QQ g a (Jf a.seq L).1.length with
   | none=>exact J9d h l L hL sv hlen hi hy hx
   | some a1=>exact Jg9 h hV l L hL sv hlen hi hit hy a1 hx hS hT hLn
def Jiq(W w:World)(jb b:Nat)(F:Nat→Prop)(fv:Value)(g:Pl.Gm)(p:Pr)(pv:Value)(w':World):Prop :=
 ∃F' fv',OwnN w' w.heap.size pv p.pl∧Jn W w' jb b F' p.d g p.a fv'∧Only (fun k=>F k∨k=jb) w w'∧(∀k,F' k→F k∨w.heap.size≤k)∧(∀k,pv.ownBlock=some k→¬F' k∧k≠jb)∧Src fv fv'
theorem Jd2(h:Jn W w jb b F d g a fv)(hV:Vars W)(l:List (It×Value))(L:List It)(hL:l.map (·.1)=L)(sv:Value)(hlen:l.length<100000)(hi:ItemsAt w sv l)(hit:∀w',Only F w w'→ItemsAt w' sv l)(hS:d.S.length≤1024)(hT:d.T≤800000)(hLn:d.L.length≤800000):Calls Tryz.prog 24 #[.pointer (some ⟨jb,0,none⟩),sv] w fun e w'=>∃pv,e=.returned (.tuple #[pv,.int .i64 (KA g a d L).e])∧Jiq W w jb b F fv g (KA g a d L) pv w':=by
 have HP:=Zh (J9e h hV l L hL sv hlen hi hit hS hT hLn);have HV:=Zh hV;obtain⟨sa,sc,hsv⟩:=Q7 hi;obtain⟨m,hm⟩:∃m,l.length=m:=⟨_,rfl⟩
 rw [hm] at hsv;subst hsv;obtain⟨p,hp⟩:∃p,KA g a d L=p:=⟨_,rfl⟩
 rw [hp] at HP ⊢;clear h hV hL hlen hi hit hS hT hLn hm hp;go_enter Tryz.func24,Tryz.ntmps24
 go_wp2_with fail
 refine HP.mono ?_;rintro e w1 ⟨pv,ev,rfl,F',fv',he,ho,hj,hon,hn,hpa,hsr⟩;have HO:=Zh ho;have HJ:=Zh hj;have HON:=Zh hon;have HN:=Zh hn;have HPA:=Zh hpa;have HSR:=Zh hsr;have HVA:=Zh (Vars.below (Nat.le_refl _) hj.dv.2 HV.out);obtain⟨pa,pc,hpv⟩:=ho.ints.form;obtain⟨pn,hpn⟩:∃n,p.pl.length=n:=⟨_,rfl⟩
 rw [hpn] at hpv;subst hpv;clear ho hj hon hn hpa hsr hpn HP;rcases he with ⟨h0,rfl⟩|⟨h0,hf⟩
 · have H0:=Zh h0;clear h0
   go_wp2_with fail
   refine (jg _).mono ?_;rintro e w2 ⟨rfl,rfl⟩
   go_wp2_with fail
   first|go_ret2|go_ret
   exact⟨.slice pa pn pc,by rw [H0.out];rfl,F',fv',HO.out,HJ.out,HON.out,HN.out,HPA.out,HSR.out⟩
 · have HF:=Zh hf;obtain⟨T,dd,hv⟩:=hf.shape;subst hv;clear hf h0
   go_wp2_with fail
   refine (J8y _ _ _ HVA.out HF.out).mono ?_;rintro e w2 ⟨rfl,hb⟩;have HB:=Zh hb;clear hb
   go_wp2_with fail
   first|go_ret2|go_ret
   exact⟨_,rfl,F',fv',HO.below HB.out,HJ.below HB.out,HON.trans (Only.of_below HB.out),HN.out,HPA.out,HSR.out⟩
end
open Go.RowKit
abbrev nb:Value:=.slice none 0 0
def Yr(k id:Int):It:=⟨(k,id),Bk.none⟩
theorem zh{k id:Int}(h:Jk k)(h2:Jk id):(Yr k id).Wf:=⟨h,h2,none_wf⟩
theorem Jd3{id v:Int}(h:0≤id∧id<64):(YW id v).ok=true:=by
 have h1:Ke (1,id)=true:=KO.2 ⟨by simp,by simp,h.1,h.2,by intro e;simp at e⟩;have h2:within id 0 63=true:=by simp [within];omega
 simp [It.ok,It.fits,It.has,YW,qw,h1,JD,Bk.good,Bk.plain,h2]
theorem J9f{k id:Int}(hk:k=4∨k=5)(h:0≤id∧id<64):(Yr k id).ok=true:=by
 have h1:Ke (k,id)=true:=KO.2 ⟨by simp only;omega,by simp only;omega,h.1,h.2,by intro e;simp only at e;omega⟩;have h3:JD k=false:=by simp [JD];omega
 simp [It.ok,It.fits,It.has,Yr,h1,h3,(by decide:Bk.none.isZ=true)]
theorem J3h(n:Nat)(h:n<256):K7 (n:Int):=⟨by omega,by omega⟩
theorem XZ(n:Nat)(h:n<1000):Jk (n:Int):=⟨by omega,by omega⟩
theorem Jd4(n:Nat)(h:n<1000):Km (n:Int):=⟨by omega,by simp only [M32];omega⟩
theorem J9g(W:World){x y:It}(hx:x.Wf)(hy:y.Wf):(Instr.buildSlice 74 2 #[(0,.agg (x.arr nb)),(1,.agg (y.arr nb))]).run Tryz.prog W=.ok (.slice (some ⟨W.heap.size,0,none⟩) 2 2) (W.alloc (.cells (Jj [(x,nb),(y,nb)]).toArray 84)):=J7l W [(x,nb),(y,nb)] (fun z hz=>by simp at hz;rcases hz with rfl|rfl;exact hx;exact hy) (by simp) (by simp)
theorem Jd5(W:World){l:List (It×Value)}(h:∀x∈l,x.1.Wf∧x.2=nb∧x.1.blk.bytes=[])(n:Nat)(hn:l.length=n)(hl:n≤1000){F:Nat→Prop}(hF:∀k,F k→k<W.heap.size) :
 ItemsAt (W.alloc (.cells (Jj l).toArray 84)) (.slice (some ⟨W.heap.size,0,none⟩) n n) l∧∀w',Only F (W.alloc (.cells (Jj l).toArray 84)) w'→ItemsAt w' (.slice (some ⟨W.heap.size,0,none⟩) n n) l:=by
 subst hn;have h1:=(OwnI.lit (w:=W) (fun x hx=>(h x hx).1) (fun x hx=>by obtain⟨-,h2,h3⟩:=h x hx;rw [h2,h3];exact BytesAt.nil _ _ _) hl).items;refine⟨h1,fun w' ho=>h1.onlyF ho (fun b o n c e hb=>?_) fun x hx b o n c e=>?_⟩
 · cases e;have:=hF _ hb;omega
 · rw [(h x hx).2.1] at e;cases e
theorem Jd6(d:De.D)(i:Int)(X:List (List Int))(h0:0≤i)(h1:i+(X.length:Nat)≤d.S.length)(hF:d.F<0∨((X.length:Nat):Int)≤d.F) :
 (wrs d i X).2=true∧(wrs d i X).1.S=d.S∧(wrs d i X).1.T=d.T+X.length∧(wrs d i X).1.F=(if d.F<0 then d.F else d.F-(X.length:Nat)):=by
 induction X generalizing d i with
 | nil =>
  refine⟨rfl,rfl,rfl,?_⟩;show d.F=_;split <;> simp
 | cons x r ih =>
  simp only [List.length_cons] at h1 hF;have hh:d.has i=true:=by
   unfold De.D.has;simp only [Bool.and_eq_true,decide_eq_true_eq];omega
  have hf:¬d.F=0:=by omega
  have he:d.writeE i=0:=by unfold De.D.writeE;rw [if_pos hh,if_neg hf]
  have hw:d.write i (u8s x).toArray={ d with F:=d.nextF,T:=d.T+1,L:=d.L++[(i.toNat,(u8s x).toArray)] }:=by unfold De.D.write;rw [if_pos hh,if_neg hf]
  have hn:d.nextF=if d.F<0 then d.F else d.F-1:=rfl
  unfold wrs;rw [if_pos he,hw];obtain⟨k1,k2,k3,k4⟩:=ih { d with F:=d.nextF,T:=d.T+1,L:=d.L++[(i.toNat,(u8s x).toArray)] } (i+1) (by omega) (by simp only;omega) (by simp only;rw [hn];split <;> omega);refine⟨k1,k2,?_,?_⟩
  · rw [k3,List.length_cons];simp only;omega
  · rw [k4];simp only;rw [hn,List.length_cons]
    by_cases h:d.F<0
    · simp only [if_pos h]
    · simp only [if_neg h];rw [if_neg (by omega)];omega
theorem J5h(d:De.D)(i:Int)(X:List (List Int))(h0:0≤i)(h1:i+(X.length:Nat)≤d.S.length)(hF:d.F<0∨((X.length+1:Nat):Int)≤d.F) :
 (Kw d i X).2=true∧(Kw d i X).1.L=[]∧(Kw d i X).1.T=d.T+X.length+1∧(Kw d i X).1.F=(if d.F<0 then d.F else d.F-((X.length+1:Nat):Int)):=by
 obtain⟨k1,k2,k3,k4⟩:=Jd6 d i X h0 h1 (by omega);have hf:¬(wrs d i X).1.F=0:=by rw [k4];split <;> omega
 unfold Kw;rw [if_pos k1];have e1:(wrs d i X).1.flushE=0:=by unfold De.D.flushE;rw [if_neg hf]
 have e2:(wrs d i X).1.flush={ (wrs d i X).1 with F:=(wrs d i X).1.nextF,T:=(wrs d i X).1.T+1,S:=De.app (wrs d i X).1.S (wrs d i X).1.L,L:=[] }:=by unfold De.D.flush;rw [if_neg hf]
 rw [e1,e2];refine⟨rfl,rfl,by simp only;omega,?_⟩;simp only;unfold De.D.nextF;rw [k4]
 by_cases h:d.F<0
 · simp only [if_pos h]
 · simp only [if_neg h];rw [if_neg (by omega)];omega
theorem J5i{g:Pl.Gm}{a a1:Ja}{d:De.D}{L:List It}(hg:a.good g=true)(hl:XX g a L=true)(hn:QQ g a (Jf a.seq L).1.length=some a1)(ht:4+g.s*g.l≤(d.S.length:Int))(hF:d.F<0∨(((Jf a.seq L).1.length+1:Nat):Int)≤d.F) :
 (KA g a d L).e=0∧(KA g a d L).pl=(Jf a.seq L).2.map (XF (J8 g a1))∧(KA g a d L).a=⟨a1.seg,a1.off+(Jf a.seq L).1.length,(a.seq+Kh L)%M32,a1.free⟩∧(KA g a d L).d.L=[]∧(KA g a d L).d.T=d.T+(Jf a.seq L).1.length+1∧(KA g a d L).d.S.length=d.S.length∧(KA g a d L).d.F=(if d.F<0 then d.F else d.F-(((Jf a.seq L).1.length+1:Nat):Int)):=by
 obtain⟨f,hf,hf4,hfn⟩:=(kS hg (XY hl).2 hn).first;obtain⟨k1,k2,k3,k4⟩:=J5h d (J8 g a1) (Jf a.seq L).1 (by omega) (by omega) hF;rw [xP hl hn k1];exact⟨rfl,rfl,rfl,k2,k3,(J5g d (J8 g a1) (Jf a.seq L).1).1,k4⟩
theorem J9h(n:Nat):(De.Xj n).S.length=n:=List.length_replicate
def WG:Pl.Gm:=⟨16,8,24,4⟩
open Go.RowKit
theorem Only.of_belowB{B:Nat}{a b:World}(h:Below B a b):Only (fun j=>B≤j) a b:=⟨h.os,h.tape,h.output,h.size,fun i hi hn=>h.block i (by omega)⟩
theorem JA{P:Program}{o:Oper}{a:Act}{w:World}{K:Act→World→Prop}{Q:Exit→Act→World→Prop}(ty:TypeId)(x y:Operand)(ho:o.op=.store ty x y)(g:Nat)(cs:Array Value)(hx:a.eval x=.pointer (some ⟨g,0,none⟩))(hy:a.eval y=.agg cs)(l:List Value)(hg:Blk w g l)(hl:l.length=cs.size)(hi:(P.info? ty).map (·.size)=some cs.size)(h1:∀v∈cs,v.oneCell'=true)(h:∀wX,Blk wX g cs.toList→Only (fun k=>k=g) w wX→K (a.put o.dst undef) wX):o.wp P a w K Q:=by
 refine Kk ty x y ho g 0 cs hx hy l hg hi (by omega) h1 ?_;rw [JV _ _ hl];exact h _ (hg.row cs) ((Only.refl (fun k=>k=g) w).setRow (g:=g) (.inl rfl) cs)
open Go.RowKit
variable {l:List Int} {n:Nat} {p q:Int}
theorem Xm{g:Pl.Gm}{seg:Int}(h:KV g seg l=true):seg ∉ l:=fun hm=>by
 obtain⟨i,hi⟩:=List.getElem?_of_mem hm;have hil:=(List.getElem?_eq_some_iff.1 hi).1;have:=QG h i hil;unfold okAt at this;simp only [Bool.and_eq_true,Bool.not_eq_true',decide_eq_false_iff_not] at this;exact this.1.2 (by rw [List.getD_eq_getElem?_getD,hi];rfl)
theorem Ys{l s c:Int}(hl:0<l)(h0:0≤c)(h1:c<l):(s*l+c)/l=s∧(s*l+c)%l=c:=by
 constructor
 · rw [Int.add_comm,Int.add_mul_ediv_right _ _ (by omega),Int.ediv_eq_zero_of_lt h0 h1];omega
 · rw [Int.add_comm,Int.add_mul_emod_self_right,Int.emod_eq_of_lt h0 h1]
def Xn(g:Pl.Gm)(a:Ja)(p:Int):Prop:=((p-4)/g.l=a.seg∧(p-4)%g.l<a.off)∨(¬(p-4)/g.l=a.seg∧(p-4)/g.l ∉ a.free)
def ZN(a a1:Ja):Prop:=a1=a∨∃f r,a.free=f::r∧a1=⟨f,0,a.seq,r⟩
theorem J1f{g:Pl.Gm}{a a1:Ja}(e:QQ g a n=some a1):ZN a a1:=by
 unfold QQ at e;split at e
 · injection e with e
   exact .inl e.symm
 · split at e
   · cases e
   · rename_i f r hf
     injection e with e
     exact .inr ⟨f,r,hf,e.symm⟩
theorem Yt{g:Pl.Gm}{a a1:Ja}(h:Nx g a a1 n){x:Int}(h0:0≤x)(h1:x<n):(J8 g a1+x-4)/g.l=a1.seg∧(J8 g a1+x-4)%g.l=a1.off+x:=by
 have:=h.off;have e:J8 g a1+x-4=a1.seg*g.l+(a1.off+x):=by unfold J8;omega
 rw [e];exact Ys (by omega) (by omega) (by omega)
theorem Jd7{g:Pl.Gm}{a a1:Ja}(hg:a.good g=true)(h:Nx g a a1 n)(hs:ZN a a1){x:Int}(h0:0≤x)(h1:x<n)(hm:Xn g a p):¬p=J8 g a1+x:=by
 rintro rfl;obtain⟨e1,e2⟩:=Yt h h0 h1;unfold Xn at hm;rw [e1,e2] at hm;rcases hs with rfl|⟨f,r,hf,rfl⟩
 · rcases hm with ⟨-,hm⟩|⟨hm,-⟩
   · omega
   · exact hm rfl
 · have hno:=Xm (Ja.good_parts hg).2.2.2.2;rw [hf] at hno hm;rcases hm with ⟨hm,-⟩|⟨-,hm⟩
   · exact hno (by rw [←show f=a.seg from hm];exact List.mem_cons_self)
   · exact hm List.mem_cons_self
theorem J3i{g:Pl.Gm}{a a1:Ja}(hg:a.good g=true)(h:Nx g a a1 n)(hs:ZN a a1)(hm:Xn g a p):Xn g ⟨a1.seg,a1.off+n,q,a1.free⟩ p:=by
 unfold Xn at hm ⊢;rcases hs with rfl|⟨f,r,hf,rfl⟩
 · rcases hm with ⟨h1,h2⟩|hm
   · exact .inl ⟨h1,by simp only;omega⟩
   · exact .inr hm
 · have hfo:=(Ja.good_parts hg).2.2.2.2;have hno:=Xm hfo;rw [hf] at hno hm hfo;have hfr:=Xm (Yq hfo).2;simp only;rcases hm with ⟨h1,h2⟩|⟨h1,h2⟩
   · rw [h1];exact .inr ⟨fun e=>hno (by rw [e];exact List.mem_cons_self),fun e=>hno (List.mem_cons_of_mem _ e)⟩
   · exact .inr ⟨fun e=>h2 (by rw [e];exact List.mem_cons_self),fun e=>h2 (List.mem_cons_of_mem _ e)⟩
theorem J3j{g:Pl.Gm}{a a1:Ja}(h:Nx g a a1 n){x:Int}(h0:0≤x)(h1:x<n):Xn g ⟨a1.seg,a1.off+n,q,a1.free⟩ (J8 g a1+x):=by
 obtain⟨e1,e2⟩:=Yt h h0 h1;unfold Xn;rw [e1,e2];exact .inl ⟨rfl,by simp only;omega⟩
open Go.RowKit
variable {X:List (List Int)} {i n:Nat} {q:Int}
structure Img (d:De.D) (X:List (List Int)):Prop where
 v:De.app d.S d.L=X.map fun y=>(u8s y).toArray
 sc:∀y∈X,Sc y
theorem Img.len{d:De.D}(h:Img d X):d.S.length=X.length:=by
 have:=congrArg List.length h.v;simpa using this
theorem J3k(t:Nat):Img (De.Xj t) (List.replicate t (zeros 64)):=by
 refine⟨?_,fun y hy=>?_⟩
 · show List.replicate t (De.JL 0)=_;rw [List.map_replicate];congr 1
 · rw [List.eq_of_mem_replicate hy];exact zeros_sc
theorem Img.read{d:De.D}(h:Img d X){y:List Int}(hi:X[i]? = some y):d.read (i:Int)=(u8s y).toArray∧d.readE (i:Int)=0:=by
 have hl:=h.len;have hx:=(List.getElem?_eq_some_iff.1 hi).1;have hh:d.has (i:Int)=true:=by
  unfold De.D.has;simp only [Bool.and_eq_true,decide_eq_true_eq];omega
 constructor
 · unfold De.D.read;rw [if_pos hh,h.v,Int.toNat_natCast,List.getD_eq_getElem?_getD,List.getElem?_map,hi];rfl
 · unfold De.D.readE;rw [if_pos hh]
theorem Img.write{d:De.D}(h:Img d X){x:List Int}(hx:Sc x)(he:d.writeE (i:Int)=0):Img (d.write (i:Int) (u8s x).toArray) (X.set i x):=by
 have hh:d.has (i:Int)=true:=by
  cases e:d.has (i:Int)
  · unfold De.D.writeE at he;rw [e] at he;cases he
  · rfl
 have hf:¬d.F=0:=fun e=>by
  unfold De.D.writeE at he;rw [if_pos hh,if_pos e] at he;cases he
 have hw:d.write (i:Int) (u8s x).toArray={ d with F:=d.nextF,T:=d.T+1,L:=d.L++[((i:Int).toNat,(u8s x).toArray)] }:=by unfold De.D.write;rw [if_pos hh,if_neg hf]
 rw [hw];refine⟨?_,fun y hy=>?_⟩
 · show De.app d.S (d.L++[((i:Int).toNat,(u8s x).toArray)])=_;rw [De.ZK,h.v,List.map_set];simp only [Int.toNat_natCast]
 · rcases List.mem_or_eq_of_mem_set hy with hy|rfl
   · exact h.sc y hy
   · exact hx
theorem Img.wrsX{d:De.D}(h:Img d X)(Y:List (List Int))(hY:∀y∈Y,Sc y)(f:Nat)(hf:f+Y.length≤X.length)(ht:(wrs d (f:Int) Y).2=true) :
 ∃X',Img (wrs d (f:Int) Y).1 X'∧X'.length=X.length∧(∀k y,Y[k]? = some y→X'[f+k]? = some y)∧∀p,(p<f∨f+Y.length≤p)→X'[p]? = X[p]? := by
 induction Y generalizing d X f with
 | nil=>exact⟨X,h,rfl,fun k y hk=>by simp at hk,fun p _=>rfl⟩
 | cons x r ih =>
  simp only [List.length_cons] at hf
  by_cases he:d.writeE (f:Int)=0
  · have e:wrs d (f:Int) (x::r)=wrs (d.write (f:Int) (u8s x).toArray) ((f+1:Nat):Int) r:=by
     show (if d.writeE (f:Int)=0 then _ else _)=_;rw [if_pos he];rfl
    rw [e] at ht ⊢;obtain⟨X',h1,h2,h3,h4⟩:=ih (h.write (hY x (by simp)) he) (fun y hy=>hY y (List.mem_cons_of_mem _ hy)) (f+1) (by rw [List.length_set];omega) ht;refine⟨X',h1,by rw [h2,List.length_set],fun k y hk=>?_,fun p hp=>?_⟩
    · cases k with
      | zero =>
       simp only [List.getElem?_cons_zero,Option.some.injEq] at hk;subst hk;rw [Nat.add_zero,h4 f (.inl (by omega)),List.getElem?_set_self (by omega)]
      | succ k =>
       have:=h3 k y (by simpa using hk);rw [show f+(k+1)=f+1+k by omega];exact this
    · simp only [List.length_cons] at hp;rw [h4 p (by omega),List.getElem?_set_ne (by omega)]
  · exfalso;have e:(wrs d (f:Int) (x::r)).2=false:=by
     show (if d.writeE (f:Int)=0 then _ else _:De.D×Bool).2=_;rw [if_neg he]
    rw [e] at ht;cases ht
theorem Img.flush{d:De.D}(h:Img d X):Img d.flush X:=by
 unfold De.D.flush;split
 · exact⟨h.v,h.sc⟩
 · exact⟨h.v,h.sc⟩
theorem Img.wrAllX{d:De.D}(h:Img d X)(Y:List (List Int))(hY:∀y∈Y,Sc y)(f:Nat)(hf:f+Y.length≤X.length)(ht:(Kw d (f:Int) Y).2=true) :
 (Kw d (f:Int) Y).1.L=[]∧∃X',Img (Kw d (f:Int) Y).1 X'∧X'.length=X.length∧(∀k y,Y[k]? = some y→X'[f+k]? = some y)∧∀p,(p<f∨f+Y.length≤p)→X'[p]? = X[p]? := by
 by_cases hw:(wrs d (f:Int) Y).2=true
 · have e:Kw d (f:Int) Y=((wrs d (f:Int) Y).1.flush,decide ((wrs d (f:Int) Y).1.flushE=0)):=by unfold Kw;rw [if_pos hw]
   rw [e] at ht ⊢;simp only at ht ⊢;obtain⟨X',h1,h2⟩:=h.wrsX Y hY f hf hw;refine⟨?_,X',h1.flush,h2⟩;have h0:¬(wrs d (f:Int) Y).1.F=0:=fun e0=>by
    unfold De.D.flushE at ht;rw [if_pos e0] at ht;exact absurd ht (by decide)
   unfold De.D.flush;rw [if_neg h0]
 · exfalso;have e:(Kw d (f:Int) Y).2=false:=by unfold Kw;rw [if_neg hw]
   rw [e] at ht;cases ht
def gAt(X:List (List Int))(g:Pl.Gm)(a:Ja):Option (List It):=X3 a.seq ((X.drop (J8 g a).toNat).take (g.l-a.off).toNat)
def aft(a b1:Ja)(l:List It):Ja:=⟨b1.seg,b1.off+(Jf a.seq l).1.length,(a.seq+Kh l)%M32,b1.free⟩
def pOf(g:Pl.Gm)(a b1:Ja)(l:List It):List Int:=(Jf a.seq l).2.map (XF (J8 g b1))
def nxt(X:List (List Int))(g:Pl.Gm)(a:Ja):Option (List It×Ja):=match gAt X g a with
 | some l=>some (l,a)
 | none=>match a.free with
  | []=>none
  | f::r=>(gAt X g ⟨f,0,a.seq,r⟩).map fun l=>(l,⟨f,0,a.seq,r⟩)
inductive Way (X:List (List Int)) (g:Pl.Gm) (a:Ja):List (List It×List Int)→Ja→Prop where
 | nil:Way X g a [] a
 | snoc {P:List (List It×List Int)} {b b1:Ja} {l:List It}:Way X g a P b→nxt X g b=some (l,b1)→Way X g a (P++[(l,pOf g b b1 l)]) (aft b b1 l)
def itr(X:List (List Int))(g:Pl.Gm)(a:Ja):Nat→Option (List (List It×List Int)×Ja)
 | 0=>some ([],a)
 | n+1=>match itr X g a n with
  | none=>none
  | some (P,b)=>match nxt X g b with
   | none=>none
   | some (l,b1)=>some (P++[(l,pOf g b b1 l)],aft b b1 l)
theorem Way.itrX{g:Pl.Gm}{a b:Ja}{P:List (List It×List Int)}(h:Way X g a P b):itr X g a P.length=some (P,b):=by
 induction h with
 | nil=>rfl
 | snoc h hn ih =>
  rw [List.length_append];show itr X g a (_+1)=_;rw [itr,ih];simp only [hn]
theorem xQ{g:Pl.Gm}{a b:Ja}{P:List (List It×List Int)}(h:itr X g a n=some (P,b))(hn:nxt X g b=none):∀k,itr X g a (n+1+k)=none
 | 0=>by
  rw [Nat.add_zero,itr,h];simp only [hn]
 | k+1=>by
  rw [←Nat.add_assoc,itr,xQ h hn k]
theorem Way.uniq{g:Pl.Gm}{a b b':Ja}{P P':List (List It×List Int)}(h:Way X g a P b)(hn:nxt X g b=none)(h':Way X g a P' b')(hn':nxt X g b'=none):P'=P∧b'=b:=by
 have e:=h.itrX;have e':=h'.itrX;rcases Nat.lt_trichotomy P.length P'.length with hl|hl|hl
 · have:=xQ e hn (P'.length-P.length-1);rw [show P.length+1+(P'.length-P.length-1)=P'.length by omega,e'] at this;cases this
 · rw [hl,e'] at e;injection e with e
   exact⟨congrArg Prod.fst e,congrArg Prod.snd e⟩
 · have:=xQ e' hn' (P.length-P'.length-1);rw [show P'.length+1+(P.length-P'.length-1)=P.length by omega,e] at this;cases this
theorem Jga{α:Type}{A B:List α}(h:A <+: B){x:α}(hi:A[i]? = some x):B[i]? = some x:=by
 obtain⟨r,rfl⟩:=h;rw [List.getElem?_append_left (List.getElem?_eq_some_iff.1 hi).1];exact hi
theorem zi{x:List Int}(h:KK x=true):x.getD 0 0=83:=by
 simp only [KK,Bool.and_eq_true,decide_eq_true_eq] at h;rw [←h.2];rfl
def NH(n:Int)(y:List Int):Prop:=KK y=true→(J7 y).seq≠n
theorem Jd8(n:Int):NH n (zeros 64):=fun h=>by
 have:=zi h;exact absurd this (by decide)
theorem J9i{l:List It}(h:JJ l=true)(w:∀x∈l,x.Wf)(n:Int)(hn:Km n):∃y,(Jf n l).1[0]? = some y∧KK y=true∧(J7 y).seq=n:=by
 obtain⟨more,e⟩:=J4z h n hn;obtain⟨s1,s2,-⟩:=yL (Za h (k:=0) (Qk h).1) (fun x hx=>w x (QD hx)) hn more;exact⟨_,e,s1,by rw [s2]⟩
theorem Jgb(hX:∀y∈X,Sc y)(f m:Nat):∀y∈(X.drop f).take m,Sc y:=fun y hy=>hX y (List.mem_of_mem_drop (List.mem_of_mem_take hy))
theorem zj(hX:∀y∈X,Sc y){g:Pl.Gm}{a:Ja}(hq:Km a.seq)(h:a.off<g.l→∀y,X[(J8 g a).toNat]? = some y→NH a.seq y):gAt X g a=none:=by
 cases e:gAt X g a with
 | none=>rfl
 | some l =>
  exfalso;obtain⟨h1,h2,h3⟩:=(J4v (Jgb hX _ _)).1 e;obtain⟨y,e1,e2,e3⟩:=J9i h1 h2 a.seq hq;have e4:=Jga h3 e1;rw [List.getElem?_take] at e4;split at e4
  · rw [List.getElem?_drop,Nat.add_zero] at e4;exact h (by omega) y e4 e2 e3
  · cases e4
theorem zk{g:Pl.Gm}{a:Ja}{l:List It}(h:JJ l=true)(w:∀x∈l,x.Wf)(hn:((Jf a.seq l).1.length:Int)≤g.l-a.off)(hat:∀k y,(Jf a.seq l).1[k]? = some y→X[(J8 g a).toNat+k]? = some y):gAt X g a=some l:=by
 refine yN h w (List.prefix_iff_getElem?.2 fun i hi=>?_);rw [List.getElem?_take,if_pos (by omega),List.getElem?_drop];exact hat i _ (List.getElem?_eq_getElem hi)
theorem xR{g:Pl.Gm}{b:Ja}(hg:b.good g=true){f:Int}{r:List Int}(hf:b.free=f::r):f≠b.seg:=fun e=>by
 have hno:=Xm (Ja.good_parts hg).2.2.2.2;rw [hf,e] at hno;exact hno List.mem_cons_self
theorem J9j{g:Pl.Gm}{b b1:Ja}{l:List It}(hnx:Nx g b b1 (Jf b.seq l).1.length)(hs:ZN b b1)(h:JJ l=true)(w:∀x∈l,x.Wf)(hat:∀k y,(Jf b.seq l).1[k]? = some y→X[(J8 g b1).toNat+k]? = some y)(hno:b1≠b→gAt X g b=none)(hg:b.good g=true):nxt X g b=some (l,b1):=by
 have hoff:=hnx.off;rcases hs with rfl|⟨f,r,hf,rfl⟩
 · unfold nxt;rw [zk h w (by omega) hat]
 · have hne:(⟨f,0,b.seq,r⟩:Ja)≠b:=fun e=>xR hg hf (by rw [←e]);unfold nxt;rw [hno hne];simp only [hf];rw [zk (a:=⟨f,0,b.seq,r⟩) h w (by simp only at hoff ⊢;omega) hat];rfl
inductive Rcd (X:List (List Int)) (g:Pl.Gm) (a:Ja):List (List It×List Int)→Ja→Prop where
 | nil:Rcd X g a [] a
 | snoc {P:List (List It×List Int)} {b b1:Ja} {l:List It}:Rcd X g a P b→b.good g=true→Nx g b b1 (Jf b.seq l).1.length→ZN b b1→JJ l=true→(∀x∈l,x.Wf)→(∀k y,(Jf b.seq l).1[k]? = some y→X[(J8 g b1).toNat+k]? = some y)→(b1≠b→gAt X g b=none)→Rcd X g a (P++[(l,pOf g b b1 l)]) (aft b b1 l)
theorem Rcd.chain{g:Pl.Gm}{a b:Ja}{P:List (List It×List Int)}(h:Rcd X g a P b):Way X g a P b:=by
 induction h with
 | nil=>exact .nil
 | snoc _ hg hnx hs hm w hat hno ih=>exact .snoc ih (J9j hnx hs hm w hat hno hg)
theorem zl{X':List (List Int)}{g:Pl.Gm}{a:Ja}(h:∀i,i<(g.l-a.off).toNat→X'[(J8 g a).toNat+i]? = X[(J8 g a).toNat+i]?):gAt X' g a=gAt X g a:=by
 unfold gAt;congr 1;refine List.ext_getElem? fun i=>?_;rw [List.getElem?_take,List.getElem?_take];split
 · rw [List.getElem?_drop,List.getElem?_drop];exact h i (by omega)
 · rfl
theorem QH{g:Pl.Gm}{a:Ja}(h:a.good g=true):(((J8 g a).toNat:Nat):Int)=4+a.seg*g.l+a.off∧4≤(J8 g a).toNat:=by
 obtain⟨h1,h2,h3,h4,-⟩:=Ja.good_parts h;have h0:0≤a.seg*g.l:=Int.mul_nonneg h2.1 (by omega);unfold J8;omega
theorem Rcd.keep{X':List (List Int)}{g:Pl.Gm}{a b:Ja}{P:List (List It×List Int)}(h:Rcd X g a P b)(hk:∀p:Nat,Xn g b (p:Int)→X'[p]? = X[p]?):Rcd X' g a P b:=by
 induction h with
 | nil=>exact .nil
 | @snoc P b b1 l _ hg hnx hs hm w hat hno ih =>
  refine .snoc (ih fun p hp=>hk p (J3i hg hnx hs hp)) hg hnx hs hm w (fun k y hy=>?_) fun hne=>?_
  · rw [←hat k y hy];refine hk _ ?_;obtain⟨f,e,-,-⟩:=hnx.first;have hkl:=(List.getElem?_eq_some_iff.1 hy).1;have:=J3j hnx (x:=(k:Int)) (q:=(b.seq+Kh l)%M32) (by omega) (by omega);rw [show (((J8 g b1).toNat+k:Nat):Int)=J8 g b1+(k:Int) by rw [e];simp];exact this
  · rw [←hno hne];refine zl fun i hi=>hk _ ?_;obtain⟨e1,-⟩:=QH hg;obtain⟨-,h2,h3,h4,h5⟩:=Ja.good_parts hg;have hpl:=Ys (l:=g.l) (s:=b.seg) (c:=b.off+i) (by omega) (by omega) (by omega);have e2:(((J8 g b).toNat+i:Nat):Int)-4=b.seg*g.l+(b.off+i):=by push_cast;omega
    unfold Xn aft;rw [e2,hpl.1,hpl.2];rcases hs with rfl|⟨f,r,hf,rfl⟩
    · exact absurd rfl hne
    · have hn:=Xm h5;rw [hf] at hn;exact .inr ⟨fun e=>hn (by rw [e];exact List.mem_cons_self),fun e=>hn (List.mem_cons_of_mem _ e)⟩
def qW(X:List (List Int))(g:Pl.Gm)(b:Ja)(Q:List Int→Prop):Prop:=∀p:Nat,4≤p→¬Xn g b (p:Int)→∀y,X[p]? = some y→Q y
theorem J1g{g:Pl.Gm}{b:Ja}(hg:b.good g=true)(ho:b.off<g.l):¬Xn g b (((J8 g b).toNat:Nat):Int):=by
 obtain⟨e1,-⟩:=QH hg;obtain⟨-,h2,h3,h4,h5⟩:=Ja.good_parts hg;have hpl:=Ys (l:=g.l) (s:=b.seg) (c:=b.off) (by omega) h3 ho;unfold Xn;rw [e1,show 4+b.seg*g.l+b.off-4=b.seg*g.l+b.off by omega,hpl.1,hpl.2];rintro (⟨-,h⟩|⟨h,-⟩)
 · omega
 · exact h rfl
theorem YP{g:Pl.Gm}{b:Ja}(hg:b.good g=true){f:Int}{r:List Int}(hf:b.free=f::r):(⟨f,0,b.seq,r⟩:Ja).good g=true:=by
 obtain⟨h1,h2,h3,h4,h5⟩:=Ja.good_parts hg;rw [hf] at h5;obtain⟨k1,k2⟩:=Yq h5;exact J3f h1 k1 (Int.le_refl _) (by show (0:Int)≤g.l;omega) k2
theorem J1h{g:Pl.Gm}{b:Ja}(hg:b.good g=true){f:Int}{r:List Int}(hf:b.free=f::r)(ho:0<g.l):¬Xn g b (((J8 g ⟨f,0,b.seq,r⟩).toNat:Nat):Int):=by
 obtain⟨e1,-⟩:=QH (YP hg hf);have hpl:=Ys (l:=g.l) (s:=f) (c:=0) ho (Int.le_refl _) ho;unfold Xn;simp only at e1;rw [e1,show 4+f*g.l+0-4=f*g.l+0 by omega,hpl.1,hpl.2,hf];rintro (⟨h,-⟩|⟨-,h⟩)
 · exact xR hg hf h
 · exact h List.mem_cons_self
theorem qX(hX:∀y∈X,Sc y){g:Pl.Gm}{b:Ja}{Q:List Int→Prop}(h:qW X g b Q)(hQ:∀y,Q y→NH b.seq y)(hg:b.good g=true)(hq:Km b.seq):gAt X g b=none :=
 zj hX hq fun ho y hy=>hQ y (h _ (QH hg).2 (J1g hg ho) y hy)
theorem J1i(hX:∀y∈X,Sc y){g:Pl.Gm}{b:Ja}{Q:List Int→Prop}(h:qW X g b Q)(hQ:∀y,Q y→NH b.seq y)(hg:b.good g=true)(hq:Km b.seq){f:Int}{r:List Int}(hf:b.free=f::r):gAt X g ⟨f,0,b.seq,r⟩=none :=
 zj hX hq fun ho y hy=>hQ y (h _ (QH (YP hg hf)).2 (J1h hg hf ho) y hy)
theorem J5j(hX:∀y∈X,Sc y){g:Pl.Gm}{b:Ja}{Q:List Int→Prop}(h:qW X g b Q)(hQ:∀y,Q y→NH b.seq y)(hg:b.good g=true)(hq:Km b.seq):nxt X g b=none:=by
 unfold nxt;rw [qX hX h hQ hg hq];simp only;cases hf:b.free with
 | nil=>rfl
 | cons f r =>
  simp only;rw [J1i hX h hQ hg hq hf];rfl
theorem J1j{X':List (List Int)}{g:Pl.Gm}{b b1:Ja}{Q:List Int→Prop}(h:qW X g b Q)(hg:b.good g=true)(hnx:Nx g b b1 n)(hs:ZN b b1)(hk:∀p:Nat,(p<(J8 g b1).toNat∨(J8 g b1).toNat+n≤p)→X'[p]? = X[p]?):qW X' g ⟨b1.seg,b1.off+n,q,b1.free⟩ Q:=fun p h4 hm y hy=>by
 obtain⟨f,e,-,-⟩:=hnx.first;rw [e,Int.toNat_natCast] at hk
 by_cases hr:p<f∨f+n≤p
 · rw [hk p hr] at hy;exact h p h4 (fun hm'=>hm (J3i hg hnx hs hm')) y hy
 · exfalso;have:=J3j hnx (x:=((p-f:Nat):Int)) (q:=q) (by omega) (by omega);rw [e,show (f:Int)+((p-f:Nat):Int)=(p:Int) by omega] at this;exact hm this
open Go.RowKit
variable {X:List (List Int)}
structure Puts (g:Pl.Gm) (b b1:Ja) (L:List It) (X X':List (List Int)):Prop where
 may:JJ L=true
 nx:Nx g b b1 (Jf b.seq L).1.length
 st:ZN b b1
 len:X'.length=X.length
 at_:∀k y,(Jf b.seq L).1[k]? = some y→X'[(J8 g b1).toNat+k]? = some y
 old:∀p:Nat,(p<(J8 g b1).toNat∨(J8 g b1).toNat+(Jf b.seq L).1.length≤p)→X'[p]? = X[p]?
theorem J3l{g:Pl.Gm}{b:Ja}{d:De.D}{L:List It}(hg:b.good g=true)(hd:Img d X)(ht:4+g.s*g.l≤(d.S.length:Int))(w:∀x∈L,x.Wf)(he:(KA g b d L).e=0) :
 ∃b1 X',Puts g b b1 L X X'∧(KA g b d L).a=aft b b1 L∧(KA g b d L).pl=pOf g b b1 L∧Img (KA g b d L).d X'∧(KA g b d L).d.L=[]:=by
 cases hl:XX g b L
 · rw [J3g hl] at he;exact absurd (show ((1:Int)=0) from he) (by decide)
 · cases hn:QQ g b (Jf b.seq L).1.length with
   | none =>
    rw [qU hl hn] at he;exact absurd (show ((14:Int)=0) from he) (by decide)
   | some b1 =>
    have hnx:=kS hg (XY hl).2 hn;obtain⟨f,hf,hf4,hfn⟩:=hnx.first;cases hw:(Kw d (J8 g b1) (Jf b.seq L).1).2
    · rw [qV hl hn hw] at he;exact absurd (show ((12:Int)=0) from he) (by decide)
    · rw [xP hl hn hw];rw [hf] at hw ⊢;have hlen:=hd.len;obtain⟨h1,X',h2,h3,h4,h5⟩:=hd.wrAllX (Jf b.seq L).1 (Jcj w b.seq) f (by omega) hw;refine⟨b1,X',⟨(XY hl).1,hnx,J1f hn,h3,?_,?_⟩,rfl,?_,h2,h1⟩
      · rw [hf,Int.toNat_natCast];exact h4
      · rw [hf,Int.toNat_natCast];exact h5
      · show _=pOf g b b1 L;unfold pOf;rw [hf]
structure Sn (d:De.D) (X:List (List Int)) (g:Pl.Gm) (a:Ja) (P:List (List It×List Int)) (b:Ja) (Q:List Int→Prop):Prop where
 img:Img d X
 rec_:Rcd X g a P b
 cl:qW X g b Q
 good:b.good g=true
 seq:Km b.seq
 tot:4+g.s*g.l≤(d.S.length:Int)
theorem Sn.new{d:De.D}{g:Pl.Gm}{a:Ja}{Q:List Int→Prop}(hd:Img d X)(hg:a.good g=true)(hq:Km a.seq)(ht:4+g.s*g.l≤(d.S.length:Int))(hQ:∀y∈X,Q y):Sn d X g a [] a Q :=
 ⟨hd,.nil,fun p _ _ y hy=>hQ y (List.mem_of_getElem? hy),hg,hq,ht⟩
theorem Puts.keep{g:Pl.Gm}{b b1:Ja}{L:List It}{X':List (List Int)}(h:Puts g b b1 L X X')(hg:b.good g=true)(p:Nat)(hp:Xn g b (p:Int)):X'[p]? = X[p]? := by
 obtain⟨f,e,-,-⟩:=h.nx.first;refine h.old p ?_;rw [e,Int.toNat_natCast]
 by_cases hr:p<f∨f+(Jf b.seq L).1.length≤p
 · exact hr
 · exact absurd (by rw [e];omega) (Jd7 hg h.nx h.st (x:=((p-f:Nat):Int)) (by omega) (by omega) hp)
theorem Sn.put{d:De.D}{g:Pl.Gm}{a b:Ja}{P:List (List It×List Int)}{Q:List Int→Prop}(h:Sn d X g a P b Q)(hQ:∀y,Q y→NH b.seq y)(L:List It)(w:∀x∈L,x.Wf)(he:(KA g b d L).e=0) :
 ∃X',Sn (KA g b d L).d X' g a (P++[(L,(KA g b d L).pl)]) (KA g b d L).a Q∧(KA g b d L).d.L=[]∧JJ L=true∧(KA g b d L).a.seq=(b.seq+Kh L)%M32:=by
 obtain⟨b1,X',hp,ha,hpl,hi,hL⟩:=J3l h.good h.img h.tot w he;rw [ha,hpl];have hgt:gAt X g b=none:=qX h.img.sc h.cl hQ h.good h.seq;refine⟨X',⟨hi,.snoc (h.rec_.keep fun p hm=>hp.keep h.good p hm) h.good hp.nx hp.st hp.may w hp.at_ fun hne=>?_,J1j h.cl h.good hp.nx hp.st hp.old,hp.nx.good _,YJ _,?_⟩,hL,hp.may,rfl⟩
 · rw [←hgt];refine zl fun i hi=>?_;obtain⟨e1,-⟩:=QH h.good;obtain⟨-,h2,h3,h4,h5⟩:=Ja.good_parts h.good;rcases hp.st with rfl|⟨f,r,hf,rfl⟩
   · exact absurd rfl hne
   · obtain⟨f1,e2,-,-⟩:=hp.nx.first;refine hp.old _ ?_
     by_cases hr:(J8 g b).toNat+i<(J8 g ⟨f,0,b.seq,r⟩).toNat∨(J8 g ⟨f,0,b.seq,r⟩).toNat+(Jf b.seq L).1.length≤(J8 g b).toNat+i
     · exact hr
     · exfalso;have hpl:=Ys (l:=g.l) (s:=b.seg) (c:=b.off+i) (by omega) (by omega) (by omega);have hfp:=Yt hp.nx (x:=(((J8 g b).toNat+i-(J8 g ⟨f,0,b.seq,r⟩).toNat:Nat):Int)) (by omega) (by omega);have e3:J8 g ⟨f,0,b.seq,r⟩+(((J8 g b).toNat+i-(J8 g ⟨f,0,b.seq,r⟩).toNat:Nat):Int)-4=b.seg*g.l+(b.off+i):=by
        rw [e2,Int.toNat_natCast] at hr ⊢;omega
       rw [e3,hpl.1] at hfp;exact xR h.good hf hfp.1.symm
 · have e1:=h.img.len;have e2:=hi.len;rw [e2,hp.len,←e1];exact h.tot
theorem Sn.read{d:De.D}{g:Pl.Gm}{a b:Ja}{P:List (List It×List Int)}{Q:List Int→Prop}(h:Sn d X g a P b Q)(hQ:∀y,Q y→NH b.seq y):Way X g a P b∧nxt X g b=none :=
 ⟨h.rec_.chain,J5j h.img.sc h.cl hQ h.good h.seq⟩
open Go.RowKit
variable {L:List Value} {X:List (List Int)} {cap g k n:Nat} {cs:Array Value} {w w':World}
structure Row1 (w:World) (g T cap:Nat) (X:List (List Int)):Prop where
 n:X.length=T
 cap:T≤cap
 sc:∀y∈X,Sc y
 row:∃L:List Value,Blk w g L∧T*64≤L.length∧∀i x,X[i]? = some x→∀(j:Nat) (v:Value),(u8s x)[j]? = some v→L[i*64+j]? = some v
theorem Row1.secs{T:Nat}(h:Row1 w g T cap X):SecsAt w (.slice (some ⟨g,0,none⟩) T cap) X:=by
 obtain⟨L,hb,hl,hc⟩:=h.row;refine⟨_,cap,by rw [h.n],by rw [h.n];exact h.cap,fun i x hx=>?_⟩;have hs:=h.sc x (List.mem_of_getElem? hx);refine⟨hs,g,0,rfl,fun j hj=>?_⟩;have:=hc i x hx j ((u8s x).toArray[j]) (by simp);rw [Nat.zero_add];exact hb.cell this
theorem Row1.below{T:Nat}(h:Row1 w g T cap X)(hb:Below w.heap.size w w'):Row1 w' g T cap X:=by
 obtain⟨L,h1,h2,h3⟩:=h.row;exact⟨h.n,h.cap,h.sc,L,h1.below hb h1.lt,h2,h3⟩
theorem J5k{o:Nat}(h:o+cs.size≤L.length)(p:Nat):(Jt L o cs).toList[p]? = if o≤p∧p<o+cs.size then cs.toList[p-o]? else L[p]? := by
 unfold Jt;have hl:(L.take o).length=o:=by rw [List.length_take];omega
 by_cases h1:p<o
 · rw [if_neg (by omega),List.append_assoc,List.getElem?_append_left (by omega),List.getElem?_take_of_lt h1]
 · by_cases h2:p<o+cs.size
   · rw [if_pos ⟨by omega,h2⟩,List.append_assoc,List.getElem?_append_right (by omega),hl,List.getElem?_append_left (by simp;omega)]
   · rw [if_neg (by omega),List.getElem?_append_right (by simp;omega),List.getElem?_drop];congr 1;simp;omega
theorem zm{o:Nat}(h:o+cs.size≤L.length):(Jt L o cs).toList.length=L.length:=by
 unfold Jt;simp;omega
theorem Jd9{T:Nat}{y:List Int}(hn:X.length=T)(hsc:∀y∈X,Sc y)(hl:T*64≤L.length)(hc:∀i x,X[i]? = some x→∀(j:Nat) (v:Value),(u8s x)[j]? = some v→L[i*64+j]? = some v)(hk:k<T)(hy:Sc y) :
 k*64+(u8s y).toArray.size≤L.length∧T*64≤(Jt L (k*64) (u8s y).toArray).toList.length∧∀i x,(X.set k y)[i]? = some x→∀(j:Nat) (v:Value),(u8s x)[j]? = some v→(Jt L (k*64) (u8s y).toArray).toList[i*64+j]? = some v:=by
 have hs:(u8s y).toArray.size=64:=hy.size;have hf:k*64+(u8s y).toArray.size≤L.length:=by rw [hs];omega
 refine⟨hf,by rw [zm hf];exact hl,fun i x hx j v hv=>?_⟩;rw [J5k hf,hs]
 by_cases hik:i=k
 · subst hik;rw [List.getElem?_set_self (by omega)] at hx;cases hx;have hj:=(List.getElem?_eq_some_iff.1 hv).1;rw [List.length_map,hy.length] at hj;rw [if_pos ⟨by omega,by omega⟩,show i*64+j-i*64=j by omega];exact hv
 · rw [List.getElem?_set_ne (fun e=>hik e.symm)] at hx;have hj:=(List.getElem?_eq_some_iff.1 hv).1;rw [List.length_map,(hsc x (List.mem_of_getElem? hx)).length] at hj;rw [if_neg (by
    intro h
    have:i<k∨k<i:=by omega
    omega)]
   exact hc i x hx j v hv
section
variable {ops:Array Oper} {rest:List Oper} {dst:Option Tmp} {x y:Operand} {t2:TypeId} {pos:String} {after:Array Edge} {guard:Option (Nat×Bool)} {a:Act} {w:World} {Q:Exit→Act→World→Prop}
theorem J5l{T:Nat}{s:List Int}(h:Row1 w g T cap X)(hk:k<T)(hs:Sc s)(hx:a.eval x=.pointer (some ⟨g,k*64,none⟩))(hy:a.eval y=.agg (u8s s).toArray)(hw:Region.wanted ⟨dst,.store 36 x y,t2,pos,after,guard⟩ (yielded ops a.tmps)=true)(hh:∀w',Row1 w' g T cap (X.set k s)→Only (fun k=>k=g) w w'→w'.heap.size=w.heap.size→wpList Tryz.prog ops Q rest (a.put dst undef) w'):wpList Tryz.prog ops Q (⟨dst,.store 36 x y,t2,pos,after,guard⟩::rest) a w:=by
 obtain⟨L,hb,hl,hc⟩:=h.row;obtain⟨h1,h2,h3⟩:=Jd9 h.n h.sc hl hc hk hs;refine Zs hb (by rw [hs.size];exact info36) h1 (Ji _) hx hy hw fun wX hX hO hS=>?_;refine hh wX ⟨by rw [List.length_set];exact h.n,h.cap,fun z hz=>?_,_,hX,h2,h3⟩ hO hS;rcases List.mem_or_eq_of_mem_set hz with hz|rfl
 · exact h.sc z hz
 · exact hs
end
theorem J5m(n:Nat):(madeCells (De.JL 0) (n*64)).toList=JK (List.replicate n (zeros 64)):=by
 rw [De.qT];unfold De.flat JK;rw [List.flatMap_replicate,List.flatMap_replicate];congr 1
theorem Jda(w w':World)(n:Nat)(hb:Blk w' w.heap.size (madeCells (De.JL 0) (n*64)).toList):Row1 w' w.heap.size n n (List.replicate n (zeros 64)):=by
 rw [J5m] at hb;have hsc:∀y∈List.replicate n (zeros 64),Sc y:=fun y hy=>by rw [List.eq_of_mem_replicate hy];exact zeros_sc
 refine⟨List.length_replicate,Nat.le_refl _,hsc,_,hb,?_,fun i x hx j v hv=>?_⟩
 · rw [QY hsc,List.length_replicate];exact Nat.le_refl _
 · have hj:=(List.getElem?_eq_some_iff.1 hv).1;rw [List.length_map,(hsc x (List.mem_of_getElem? hx)).length] at hj;rw [Yl hsc hj,hx];exact hv
def fst(Y:List (List Int))(n k:Nat):List (List Int):=Y.take k++List.replicate (n-k) (zeros 64)
theorem J9k(Y:List (List Int))(n:Nat):fst Y n 0=List.replicate n (zeros 64):=by simp [fst]
theorem Jdb{Y:List (List Int)}(h:Y.length=n):fst Y n n=Y:=by simp [fst,←h]
theorem J9l{Y:List (List Int)}{y:List Int}(h:Y.length=n)(hk:Y[k]? = some y):(fst Y n k).set k y=fst Y n (k+1):=by
 obtain⟨hl,he⟩:=List.getElem?_eq_some_iff.1 hk;have e:(Y.take k).length=k:=by rw [List.length_take];omega
 unfold fst;rw [List.set_append_right _ _ (by omega),e,Nat.sub_self,List.take_add_one,hk,show n-k=(n-(k+1))+1 by omega,List.replicate_succ];simp
section
variable {W w:World} {b:Nat} {F:Nat→Prop} {d:De.D}
theorem qy(h:De.Dv W w b F d)(hX:Img d X)(hLn:d.L.length≤1000000)(f n:Nat)(hn:n≤100)(hf:f+n≤X.length)(hbig:X.length≤2000) :
 Calls Tryz.prog 177 #[.pointer (some ⟨b,0,none⟩),.int .i64 f,.int .i64 n] w fun e w'=>∃sv,e=.returned sv∧SecsAt w' sv ((X.drop f).take n)∧Below w.heap.size w w':=by
 obtain⟨Y,hY⟩:∃Y,(X.drop f).take n=Y:=⟨_,rfl⟩
 have hYl:Y.length=n:=by rw [←hY,List.length_take,List.length_drop];omega
 have HYA:Hid (∀k,k<n→∃y,Y[k]? = some y∧X[f+k]? = some y∧Sc y):=Zh fun k hk=>by
  obtain⟨y,hy⟩:∃y,X[f+k]? = some y:=⟨_,List.getElem?_eq_getElem (by omega)⟩
  refine⟨y,?_,hy,hX.sc _ (List.mem_of_getElem? hy)⟩;rw [←hY,List.getElem?_take,if_pos hk,List.getElem?_drop];exact hy
 rw [hY];have HYL:=Zh hYl;have HD:=Zh h;have HX:=Zh hX;have HL:=Zh hLn;have HFN:Hid (f+n≤2000):=Zh (by omega);have mk:=De.J91 n (by omega);have HR0:Hid (∀w1,w1=w.alloc (.cells (madeCells (De.JL 0) (n*64)) 36)→Row1 w1 w.heap.size n n (fst Y n 0)∧Below w.heap.size w w1):=Zh (by
  rintro w1 rfl
  rw [J9k]
  exact⟨Jda w _ n (Blk.new w _ 36),(Below.refl _ _).alloc (Nat.le_refl _) _⟩)
 clear h hX hLn hf hbig hY hYl;go_enter Tryz.func177,Tryz.ntmps177
 go_wp2_with fail
 obtain⟨hr,hb⟩:=HR0.out _ rfl;generalize w.alloc (.cells (madeCells (De.JL 0) (n*64)) 36)=w1 at *;have HR:=Zh hr;have HB:=Zh hb;clear hr hb mk HR0
 go_loopg [13] n (fun q i wr=>∃k:Nat,n-k≤q∧k≤n∧i=.int .i64 k∧Row1 wr w.heap.size n n (fst Y n k)∧Below w.heap.size w wr)
 case atStart=>exact⟨0,by omega,by omega,rfl,HR.out,HB.out⟩
 case round =>
  obtain⟨k,hq,hk,rfl,hr,hb⟩:=hrel;have HRk:=Zh hr;have HBk:=Zh hb;clear hr hb HR HB
  by_cases hkn:k<n
  · have gk:decide ((k:Int)<(n:Int))=true:=decide_eq_true (by omega);have hk0:(k:Int)<(n:Int):=by omega
    obtain⟨y,hy1,hy2,hy3⟩:=HYA.out k hkn;have HY1:=Zh hy1;have HY3:=Zh hy3;obtain⟨r1,r2⟩:=HX.read hy2;have HRD:Hid (Calls Tryz.prog 34 #[.pointer (some ⟨b,0,none⟩),.int .i64 ((f:Int)+(k:Int))] wr fun e w'=>e=.returned (.tuple #[.agg (u8s y).toArray,.int .i64 0])∧Below wr.heap.size wr w'):=Zh (by
     have:=De.ke (HD.below HBk.out) HL.out ((f+k:Nat):Int)
     rw [r1,r2] at this
     exact this)
    have gw:Hid (IntKind.i64.wrap ((f:Int)+(k:Int))=(f:Int)+(k:Int)):=Zh (JB (by omega) (by have:=HFN.out;omega));clear hy1 hy2 hy3 r1 r2;go_upto_region 5 with fail;refine Zl ?_;refine tk (.slice (some ⟨w.heap.size,0,none⟩) n n) ?_;refine tk (.int .i64 k) ?_;refine tk (.pointer (some ⟨b,0,none⟩)) ?_;refine tk (.int .i64 f) ?_;refine tk (.int .i64 k) ?_;refine tk (.int .i64 ((f:Int)+(k:Int))) ?_ (hr:=by have q:=gw.out;go_simp);refine J0 rfl fun K hK=>?_;go_simp;refine (HRD.out).mono ?_;rintro e w2 ⟨rfl,hb2⟩;have HR2:=Zh (HRk.below (hb2.mono (Nat.le_refl _)));have HB2:=Zh (Jr HBk.out hb2);clear hb2;refine hK _ _ (nm ?_);clear hK K;refine tk (.tuple #[.agg (u8s y).toArray,.int .i64 0]) ?_;refine tk (.agg (u8s y).toArray) ?_;refine tk (.int .i64 0) ?_;refine tk (.pointer (some ⟨w.heap.size,k*64,none⟩)) ?_;refine J5l HR2.out hkn HY3.out rfl rfl rfl ?_;intro w3 hr3 ho3 hs3;refine nm ?_;have HR3:Hid (Row1 w3 w.heap.size n n (fst Y n (k+1))):=Zh (by rw [←J9l HYL.out HY1.out];exact hr3);have HB3:Hid (Below w.heap.size w w3):=Zh (HB2.trans (ho3.below HB2.size fun j hj=>Nat.le_of_eq hj.symm));clear hr3 ho3 hs3;go_wp2_with fail
    go_roundg (n-(k+1))
    case measure=>omega
    case rel=>exact⟨k+1,by omega,by omega,by go_num,HR3.out,HB3.out⟩
  · have hk2:k=n:=by omega
    subst hk2;have gk:decide ((k:Int)<(k:Int))=false:=decide_eq_false (by omega);have HRS:Hid (SecsAt wr (.slice (some ⟨w.heap.size,0,none⟩) k k) Y):=Zh (by
     have:=HRk.secs
     rw [Jdb HYL.out] at this
     exact this)
    go_wp2_with fail
    go_ret;exact⟨_,rfl,HRS.out,HBk.out⟩
end
section
variable {W w:World}
theorem zn(f:Int)(l:List Int)(sv:Value)(w:World)(hi:IntsAt w sv l)(hl:l.length≤1000)(hf:0≤f∧f≤2000)(hx:∀x∈l,-1≤x∧x≤2000):Calls Tryz.prog 178 #[.int .i64 f,sv] w fun e w'=>∃v,e=.returned v∧OwnN w' w.heap.size v (l.map (XF f))∧Below w.heap.size w w':=by
 have HI:=Zh hi;have HX:=Zh hx;have HF:=Zh hf;obtain⟨sa,sc,hsv,-⟩:=hi;obtain⟨m,hm⟩:∃m,l.length=m:=⟨_,rfl⟩
 rw [hm] at hsv hl;subst hsv;have HM:=Zh hm;have HP0:Hid (Pst w (w.alloc (.cells (madeCells #[.int .i64 0] m) 3)) w.heap.size (pls f l 0)):=Zh (by
  have e:madeCells #[Value.int .i64 0] m=(Js (List.replicate m 0)).toArray:=by
   apply Array.ext'
   rw [toList_madeCells_one]
   simp [Js]
  rw [zf,hm,e]
  exact⟨Blk.new w _ 3,by have:=OwnN.lit w w.heap.size (Nat.le_refl _) (List.replicate m 0) (by simp;omega) _ rfl;exact this,(Below.refl _ _).alloc (Nat.le_refl _) _⟩)
 have mk:=De.J16 m (by omega);clear hx hf hm;go_enter Tryz.func178,Tryz.ntmps178
 go_wp2_with fail
 generalize w.alloc (.cells (madeCells #[.int .i64 0] m) 3)=w1 at *
 go_loopg [13] m (fun q i wr=>∃k:Nat,m-k≤q∧k≤m∧i=.int .i64 k∧Pst w wr w.heap.size (pls f l k))
 case atStart=>exact⟨0,by omega,by omega,rfl,HP0.out⟩
 case round =>
  obtain⟨k,hq,hk,rfl,hst⟩:=hrel;have HP:=Zh hst;clear hst
  by_cases hkm:k<m
  · have gk:decide ((k:Int)<(m:Int))=true:=decide_eq_true (by omega);have hk0:(k:Int)<(m:Int):=by omega
    obtain⟨x,hx⟩:∃x,l[k]? = some x:=⟨_,List.getElem?_eq_getElem (by have:=HM.out;omega)⟩
    have HXX:=Zh hx;have HXB:=Zh (HX.out x (List.mem_of_getElem? hx));obtain⟨g0,o0,c0,hsa,hat⟩:=HI.has (by have:=HM.out;omega);have hsa2:sa=some ⟨g0,o0,none⟩:=by injection hsa
    subst hsa2;have cx:=(HP.bel.cell (block_lt_of_cell (hat k x hx))).trans (hat k x hx);have HKL:Hid (k<l.length):=Zh (by have:=HM.out;omega);have HZ:Hid (wr.cell? ⟨w.heap.size,k,none⟩=some (.int .i64 0)):=Zh (HP.blk.cell (by rw [List.getElem?_map,kQ f l k HKL.out];rfl));have HP1:Hid (Pst w (wr.setCell ⟨w.heap.size,k,none⟩ (.int .i64 0)) w.heap.size (pls f l k)):=Zh (by
     have:=HP.set (Nat.le_refl _) k 0 (by rw [ZM f l k (Nat.le_of_lt HKL.out)];exact HKL.out)
     rwa [xO f l k HKL.out] at this)
    clear hx hat hsa;go_upto_region 5 with fail;refine Zl ?_;refine tk (.slice (some ⟨w.heap.size,0,none⟩) m m) ?_;refine tk (.int .i64 k) ?_;refine tk (.pointer (some ⟨w.heap.size,k,none⟩)) ?_;refine Xu (wr.setCell ⟨w.heap.size,k,none⟩ (.int .i64 0)) rfl (by have q:=HZ.out;have fz:=HP.blk.frozen k;go_simp) ?_;have HZ1:Hid ((wr.setCell ⟨w.heap.size,k,none⟩ (.int .i64 0)).cell? ⟨w.heap.size,k,none⟩=some (.int .i64 0)):=Zh (HP1.blk.cell (by rw [List.getElem?_map,kQ f l k HKL.out];rfl));generalize wr.setCell ⟨w.heap.size,k,none⟩ (.int .i64 0)=wS at *;refine nm ?_;refine Zn ?_
    by_cases hx0:0≤x
    · have gx:decide (0≤x)=true:=decide_eq_true hx0;have HP2:Hid (Pst w (wS.setCell ⟨w.heap.size,k,none⟩ (.int .i64 (f+x))) w.heap.size (pls f l (k+1))):=Zh (by
       have:=HP1.set (Nat.le_refl _) k (f+x) (by rw [ZM f l k (Nat.le_of_lt HKL.out)];exact HKL.out)
       rw [kR f l k x HXX.out,XF,if_pos hx0]
       exact this)
      have gw:Hid (IntKind.i64.wrap (f+x)=f+x):=Zh (JB (by have:=HF.out;omega) (by have:=HF.out;have:=HXB.out;omega));go_upto_region 7 with fail;refine Zl ?_;refine tk (.slice (some ⟨w.heap.size,0,none⟩) m m) ?_;refine tk (.int .i64 k) ?_;refine tk (.int .i64 f) ?_;refine tk (.int .i64 x) ?_;refine tk (.int .i64 (f+x)) ?_ (hr:=by have q:=gw.out;go_simp);refine tk (.pointer (some ⟨w.heap.size,k,none⟩)) ?_;refine Xu (wS.setCell ⟨w.heap.size,k,none⟩ (.int .i64 (f+x))) rfl (by have q:=HZ1.out;have fz:=HP1.blk.frozen k;go_simp) ?_;generalize wS.setCell ⟨w.heap.size,k,none⟩ (.int .i64 (f+x))=wT at *;refine nm ?_;go_wp2_with fail
      go_roundg (m-(k+1))
      case measure=>omega
      case rel=>exact⟨k+1,by omega,by omega,by go_num,HP2.out⟩
    · have gx:decide (0≤x)=false:=decide_eq_false hx0;have HP2:Hid (Pst w wS w.heap.size (pls f l (k+1))):=Zh (by
       rw [J3e f l k x HXX.out hx0]
       exact HP1.out)
      clear HXX HXB
      go_wp2_with fail
      go_roundg (m-(k+1))
      case measure=>omega
      case rel=>exact⟨k+1,by omega,by omega,by go_num,HP2.out⟩
  · have hk2:k=l.length:=by have:=HM.out;omega
    have gk:decide ((k:Int)<(m:Int))=false:=decide_eq_false (by omega);have HR:Hid (Pst w wr w.heap.size (l.map (XF f))):=Zh (by rw [←J3d f l,←hk2];exact HP.out);clear hk2
    go_wp2_with fail
    go_ret;refine⟨_,rfl,?_,HR.bel⟩;have:=HR.own;rw [List.length_map,HM.out] at this;exact this
end
end Go.Proofs.YtdbfmikeaoaebaaGreatDoor
