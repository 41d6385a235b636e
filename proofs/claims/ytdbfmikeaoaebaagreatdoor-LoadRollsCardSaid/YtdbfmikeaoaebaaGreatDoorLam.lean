/- Steps. -/
import Derived.Test.YtdbfmikeaoaebaaGreatDoorLal
import Derived.BigQuiet
import Derived.Deep.DeepFit
import Derived.Deep.DeepMust
import Derived.Deep.LoopGhost
import Derived.Deep.QuietTactic
import Derived.Lib.Hide
import Derived.OrdersHeld
import Derived.WalkKit
import Derived.WalkLawsBesides
import Derived.WalkSpells
set_option linter.unusedSimpArgs false
set_option linter.unusedVariables false
set_option maxRecDepth 100000
set_option maxHeartbeats 4000000
namespace Go.Proofs.YtdbfmikeaoaebaaGreatDoor
open Go.RowKit Rn
variable {A A2:Nat→Prop} {B N c g gb gl k:Nat} {E F:World→Prop} {K:Act→World→Prop} {L:List Value} {P:Program} {Q:Exit→Act→World→Prop} {V V':List (Nat×List Value)} {W w w':World} {a:Act} {b:Prop} {bv p0 pv sv:Value} {l ps:List Int} {lb:List (Bk×Value)} {o:Oper} {x:Int}
theorem YZ{c a:Prop}[Decidable c](h:c)(k:a):if c then a else b:=by rw [if_pos h];exact k
theorem jH(dst:Option Tmp)(hd:o.dst=dst)(w':World)(hr:(execOp a.eval o).run P w=.ok .skip w')(h:K (a.put dst undef) w'):o.wp P a w K Q:=by
 subst hd;unfold Oper.wp;rw [hr];exact h
def RwA(pv bv:Value)(lb:List (Bk×Value))(k:Nat):Prop:=pv.ownBlock=some k∨bv.ownBlock=some k∨∃x∈lb,x.1.bytes≠[]∧x.2.ownBlock=some k
theorem xH(h:BytesAt w sv l)(h0:l≠[])(hk:sv.ownBlock=some k):k<w.heap.size:=by
 obtain⟨b,o,c,e,-⟩:=h.has (List.length_pos_iff.2 h0);have:=h.lt (List.length_pos_iff.2 h0) e;rw [e] at hk;cases hk;exact this
theorem Stays.rows:Stays N (RwA pv bv lb) fun u=>OwnN u B pv ps∧BkR u B bv lb:=by
 refine⟨fun u u' _ he hb=>⟨he.1.below hb,he.2.grow (J0f hb) (Apr.none _) fun x _ _=>Apr.none _⟩,fun g hg ha v v' hv _ ho=>⟨hv.1.grow (Yh ho) ?_,hv.2.grow (Yh ho) ?_ ?_⟩,fun u hu k hk=>?_⟩
 · intro k hk e;cases e;exact ha (.inl hk)
 · intro k hk e;cases e;exact ha (.inr (.inl hk))
 · intro x hx h0 k hk e;cases e;exact ha (.inr (.inr ⟨x,hx,h0,hk⟩))
 · rcases hk with hk|hk|⟨x,hx,h0,hk⟩
   · exact (hu.1.lt k hk).2
   · exact (hu.2.lt k hk).2
   · exact xH (hu.2.all x hx).2.2.1 h0 hk
theorem St.add(h:Rn.St N A E V w)(hF:F w)(hs:Stays N A2 F)(hd:∀p∈V,¬A2 p.1):Rn.St N (fun k=>A k∨A2 k) (fun u=>E u∧F u) V w :=
 ⟨h.sz,h.blk,h.ge,h.nd,⟨h.ex,hF⟩,h.st.both hs,fun i g L hi hk=>hk.elim (h.av i g L hi) (hd _ (List.mem_of_getElem? hi)),h.ns⟩
theorem Stays.own:Stays N (fun k=>sv.ownBlock=some k) fun u=>OwnN u B sv l :=
 ⟨fun u u' _ he hb=>he.below hb,fun g _ ha v v' hv _ ho=>hv.grow (Yh ho) fun k hk e=>by cases e;exact ha hk,fun u hu k hk=>(hu.lt k hk).2⟩
theorem St.owns(h:Rn.St N A E V w)(hb:Below w.heap.size w w')(hy:OwnN w' w.heap.size sv l):Rn.St N (fun k=>A k∨sv.ownBlock=some k) (fun u=>E u∧OwnN u w.heap.size sv l) V w':=by
 have k:=h.call hb;exact⟨k.sz,k.blk,k.ge,k.nd,⟨k.ex,hy⟩,h.st.both Stays.own,fun i g L hi ho=>ho.elim (h.av i g L hi) fun ho=>absurd (h.blk i g L hi).lt (Nat.not_lt.2 (hy.lt g ho).1),h.ns⟩
abbrev FB(W:World)(B:Nat)(u:World):Prop:=Below W.heap.size W u∧B≤u.heap.size
theorem Stays.fb(W:World)(B:Nat):Stays W.heap.size (fun _=>False) (FB W B):=(Stays.below W).and ⟨fun u u' _ he hb=>Nat.le_trans he hb.size,fun g _ _ v v' hv _ ho=>Nat.le_trans hv ho.size,fun _ _ _ h=>h.elim⟩
abbrev FE(W:World)(B:Nat)(pv bv:Value)(ps:List Int)(lb:List (Bk×Value))(u:World):Prop:=FB W B u∧OwnN u B pv ps∧BkR u B bv lb
abbrev FA(pv bv:Value)(lb:List (Bk×Value))(k:Nat):Prop:=False∨RwA pv bv lb k
structure FolR (W:World) (B:Nat) (pv bv:Value) (ps:List Int) (lb:List (Bk×Value)) (V:List (Nat×List Value)) (w:World):Prop where
 st:Rn.St W.heap.size (FA pv bv lb) (FE W B pv bv ps lb) V w
 ap:∀x∈lb,x.1.bytes≠[]→Apr pv.ownBlock x.2
 bw:W.heap.size≤B
theorem FolR.start(h:Rn.St W.heap.size (fun _=>False) (fun u=>Below W.heap.size W u) V w):FolR W w.heap.size (.slice none 0 0) (.slice none 0 0) [] [] V w:=by
 have h2:Rn.St W.heap.size (fun _=>False) (FB W w.heap.size) V w:=⟨h.sz,h.blk,h.ge,h.nd,⟨h.ex,Nat.le_refl _⟩,Stays.fb _ _,h.av,h.ns⟩
 refine⟨St.add h2 ⟨OwnN.nil _ _,BkR.nil _ _⟩ Stays.rows fun p _ hk=>?_,(fun x hx=>by cases hx),h.sz⟩;rcases hk with hk|hk|⟨x,hx,-⟩
 · cases hk
 · cases hk
 · cases hx
theorem FolR.again(h:FolR W B pv bv ps lb V w)(hs:Rn.St W.heap.size (FA pv bv lb) (FE W B pv bv ps lb) V' w'):FolR W B pv bv ps lb V' w':=⟨hs,h.ap,h.bw⟩
structure FolS (W:World) (B:Nat) (pv bv:Value) (ps:List Int) (lb:List (Bk×Value)) (b:Bk) (sv:Value) (V:List (Nat×List Value)) (w:World):Prop where
 st:Rn.St W.heap.size (fun k=>FA pv bv lb k∨(b.bytes≠[]∧sv.ownBlock=some k)) (fun u=>FE W B pv bv ps lb u∧BytesAt u sv b.bytes) V w
 ap:∀x∈lb,x.1.bytes≠[]→Apr pv.ownBlock x.2
 s1:b.bytes≠[]→Apr pv.ownBlock sv
 s2:b.bytes≠[]→Apr bv.ownBlock sv
 bw:W.heap.size≤B
theorem FolR.slice{b:Bk}(h:FolR W B pv bv ps lb V w)(hb:Below w.heap.size w w')(hy:BytesAt w' sv b.bytes)(hf:Fresh w.heap.size sv):FolS W B pv bv ps lb b sv V w':=by
 have hk:b.bytes≠[]→∀k,sv.ownBlock=some k→w.heap.size≤k:=fun h0 k hk=>by
  obtain⟨b',o,c,e,-⟩:=hy.has (List.length_pos_iff.2 h0);rw [e] at hk;cases hk;exact hf _ o _ c e
 exact⟨h.st.slice hb hy hf,h.ap,fun h0 k hs e=>by have:=(h.st.ex.2.1.lt k e).2;have:=hk h0 k hs;omega,fun h0 k hs e=>by have:=(h.st.ex.2.2.lt k e).2;have:=hk h0 k hs;omega,h.bw⟩
section
variable {W:World} {B:Nat} {pv bv:Value} {ps:List Int} {lb:List (Bk×Value)} {b:Bk} {sv:Value} {V:List (Nat×List Value)} {o:Oper} {a:Act} {w:World} {K:Act→World→Prop} {Q:Exit→Act→World→Prop}
theorem FolS.again(h:FolS W B pv bv ps lb b sv V w)(hs:Rn.St W.heap.size (fun k=>FA pv bv lb k∨(b.bytes≠[]∧sv.ownBlock=some k)) (fun u=>FE W B pv bv ps lb u∧BytesAt u sv b.bytes) V' w'):FolS W B pv bv ps lb b sv V' w':=⟨hs,h.ap,h.s1,h.s2,h.bw⟩
theorem FolS.new(h:FolS W B pv bv ps lb b sv V w)(hns:∀v∈L,∀t,v≠.string t)(hg:w.heap.size=g)(hA:Blk w' g L)(hb:Below w.heap.size w w'):FolS W B pv bv ps lb b sv (V++[(g,L)]) w':=by
 subst hg;exact h.again (h.st.new hns hA hb)
theorem FolS.app1(h:FolS W B pv bv ps lb b sv V w)(j:Nat)(hV:V[j]? = some (gl,[.int .i64 x]))(hlen:ps.length≤100)(p q:Operand)(d:Tmp)(hd:o.dst=some d)(ho:o.op=.call { callee:=.builtin .append,args:=#[p,q],argTypes:=#[41,41] })(hp:a.eval p=pv)(hq:a.eval q=.slice (some ⟨gl,0,none⟩) 1 c)(k:∀pv' w',FolS W B pv' bv (ps++[x]) lb b sv V w'→K (a.put (some d) pv') w'):o.wp Tryz.prog a w K Q:=by
 have hi:IntsAt w (.slice (some ⟨gl,0,none⟩) 1 c) [x]:=⟨_,c,rfl,fun i z hz=>by
  cases i with
  | zero =>
   simp at hz
   subst hz
   exact⟨gl,0,rfl,(h.st.blk j gl _ hV).cell rfl⟩
  | succ i=>simp at hz⟩
 obtain⟨pv',w',hr,hO,hg,hor⟩:=J4r h.st.ex.1.2.1 h.st.ex.1.1.2 hi (by simp;omega) o.type;refine Jf (some d) hd pv' w' (Qd a.eval o p q 41 41 ho pv _ pv' hp hq hr) (k pv' w' ?_);have hlt:=h.st.ex.1.2.1.lt;have hrw:=J0h h.st.ex.1.2.1 h.st.ex.1.2.2;have hin:∀k,pv'.ownBlock=some k→pv.ownBlock=some k∨k=w.heap.size:=fun k hk=>by
  rcases hor with e|e
  · exact .inl (e ▸ hk)
  · rw [e] at hk;cases hk;exact .inr rfl
 have hnew:∀{s:Value} {l:List Int},BytesAt w s l→(l≠[]→Apr pv.ownBlock s)→l≠[]→Apr pv'.ownBlock s:=fun hy hs h0 k hk e=>by
  rcases hin k e with e|e
  · exact hs h0 k hk e
  · have:=xH hy h0 hk;omega
 have hE:FE W B pv' bv (ps++[x]) lb w'∧BytesAt w' sv b.bytes :=
  ⟨⟨⟨h.st.ex.1.1.1.trans (Kq hg h.st.sz fun k hk=>by have:=(hlt k hk).1;have:=h.bw;omega),Nat.le_trans h.st.ex.1.1.2 hg.size⟩,hO,h.st.ex.1.2.2.grow hg hrw.1 h.ap⟩,BytesAt.grow h.st.ex.2 hg h.s1⟩
 refine⟨⟨Nat.le_trans h.st.sz hg.size,fun i g L hi=>(h.st.blk i g L hi).of_block (hg.block g (h.st.blk i g L hi).lt fun e=>h.st.av i g L hi (.inl (.inr (.inl e.symm)))),h.st.ge,h.st.nd,hE,((Stays.fb W B).both Stays.rows).both Stays.bytes,fun i g L hi hk=>?_,h.st.ns⟩,fun x hx h0=>hnew (h.st.ex.1.2.2.all x hx).2.2.1 (h.ap x hx) h0,hnew h.st.ex.2 h.s1,h.s2,h.bw⟩;have hav:=h.st.av i g L hi;rcases hk with (hk|hk|hk|hk)|hk
 · exact hk.elim
 · rcases hin g hk with e|e
   · exact hav (.inl (.inr (.inl e)))
   · have:=(h.st.blk i g L hi).lt;omega
 · exact hav (.inl (.inr (.inr (.inl hk))))
 · exact hav (.inl (.inr (.inr (.inr hk))))
 · exact hav (.inr hk)
theorem FolS.app2(h:FolS W B pv bv ps lb b sv V w)(hb:b.Wf)(hs:IsSl sv)(j:Nat)(hV:V[j]? = some (gb,b.cells sv))(hlen:lb.length≤100)(p q:Operand)(d:Tmp)(hd:o.dst=some d)(ho:o.op=.call { callee:=.builtin .append,args:=#[p,q],argTypes:=#[95,95] })(hp:a.eval p=bv)(hq:a.eval q=.slice (some ⟨gb,0,none⟩) 1 c)(k:∀bv' w',FolR W B pv bv' ps (lb++[(b,sv)]) V w'→K (a.put (some d) bv') w'):o.wp Tryz.prog a w K Q:=by
 obtain⟨bv',w',hr,hO,hg,hor⟩:=Jfc (c:=c) h.st.ex.1.2.2 h.st.ex.1.1.2 hb hs (h.st.blk j gb _ hV) h.st.ex.2 h.s2 hlen o.type;refine Jf (some d) hd bv' w' (Qd a.eval o p q 95 95 ho bv _ bv' hp hq hr) (k bv' w' ?_);have hlt:=h.st.ex.1.2.2.lt;have hrw:=J0h h.st.ex.1.2.1 h.st.ex.1.2.2;have hE:FE W B pv bv' ps (lb++[(b,sv)]) w' :=
  ⟨⟨h.st.ex.1.1.1.trans (Kq hg h.st.sz fun k hk=>by have:=(hlt k hk).1;have:=h.bw;omega),Nat.le_trans h.st.ex.1.1.2 hg.size⟩,h.st.ex.1.2.1.grow hg hrw.2,hO⟩
 refine⟨⟨Nat.le_trans h.st.sz hg.size,fun i g L hi=>(h.st.blk i g L hi).of_block (hg.block g (h.st.blk i g L hi).lt fun e=>h.st.av i g L hi (.inl (.inr (.inr (.inl e.symm))))),h.st.ge,h.st.nd,hE,(Stays.fb W B).both Stays.rows,fun i g L hi hk=>?_,h.st.ns⟩,fun x hx h0=>?_,h.bw⟩
 · have hav:=h.st.av i g L hi;rcases hk with hk|hk|hk|⟨x,hx,h0,hk⟩
   · exact hk.elim
   · exact hav (.inl (.inr (.inl hk)))
   · rcases hor with e|e
     · exact hav (.inl (.inr (.inr (.inl (e ▸ hk)))))
     · rw [e] at hk;cases hk;exact absurd (h.st.blk i _ L hi).lt (Nat.lt_irrefl _)
   · rcases List.mem_append.1 hx with hx|hx
     · exact hav (.inl (.inr (.inr (.inr ⟨x,hx,h0,hk⟩))))
     · obtain rfl:=List.mem_singleton.1 hx;exact hav (.inr ⟨h0,hk⟩)
 · rcases List.mem_append.1 hx with hx|hx
   · exact h.ap x hx h0
   · obtain rfl:=List.mem_singleton.1 hx;exact h.s1 h0
end
theorem YK(h:Rn.St N A E V w)(i:Nat)(hi:V[i]? = some (g,chC p0 l))(hs:IsSl pv)(hl:l.length=32)(hh:∀w',Rn.St N A E (V.set i (g,chC pv l)) w'→K (a.put none undef) w')(hd:o.dst=none:=by rfl)(r:w.cell? ⟨g,0,none⟩=some p0→w.frozen? ⟨g,0,none⟩=false→(execOp a.eval o).run Tryz.prog w=.ok .skip (w.setCell ⟨g,0,none⟩ pv):=by intro hq hf;go_simp):Oper.wp Tryz.prog o a w K Q :=
 have hb:=h.blk i _ _ hi
 jH none hd (w.setCell ⟨g,0,none⟩ pv) (r (hb.cell rfl) (hb.frozen 0)) (hh _ (h.put i hi (KE hs hl).ns (hb.set 0 pv) ((Only.refl (fun k=>k=g) w).setCell (p:=⟨g,0,none⟩) (.inl rfl) pv)))
def Jby(B:Nat)(q:Option (List (Int×Bk)))(e:Ending)(w':World):Prop:=match q with
 | some l=>∃sv,e=.returned (.tuple #[.agg (chC sv (Fo.Q5 (l.map (·.2)))).toArray,.nilIface])∧OwnN w' B sv (l.map (·.1))
 | none=>qF 13 chZ e w'
theorem Fol.small{X:List (List Int)}{g:Pl.Gm}{id head h:Int}{l:List (Int×Bk)}{b:Bk}(hb:b.Wf):Jh (qC b):=by
 unfold qC;split
 · exact⟨by decide,by decide⟩
 · exact hb.prev
theorem YL{L:List Bk}(w:∀b∈L,b.Wf):(Fo.kn L).length=32:=by
 unfold Fo.kn;split
 · exact (Fo.ja ‹_› w).length
 · exact J1 32
theorem qG{X:List (List Int)}{g:Pl.Gm}(hg:g.Ok)(id head:Int)(hh:Jh head)(w:World)(hv:Vars w){W0:World}{b:Nat}{F:Nat→Prop}{d:De.D}(hd:De.Dv W0 w b F d)(hLn:d.L.length≤1000000)(hX:Img d X)(ht:4+g.s*g.l≤(X.length:Int)):Calls Tryz.prog 58 #[.pointer (some ⟨b,0,none⟩),g.v,.int .i64 id,.int .i64 head] w fun e w'=>Jby w.heap.size (Jr X g id 3 head) e w'∧Below w.heap.size w w':=by
 have H:=Rn.St.start (Stays.below w) Zq;have HV:=Zh hv;have HB:Hid (∀p w',Jh p→Below w.heap.size w w'→Calls Tryz.prog 89 #[.pointer (some ⟨b,0,none⟩),g.v,.int .i64 p] w' fun e w2=>Jjj w'.heap.size (bAt X g p) e w2∧Below w'.heap.size w' w2):=Zh fun p w' hp hb=>J0e hg p (by have:=hp.1;omega) (by have:=hp.2;omega) w' (hv.below Zy hb) (hd.below hb) hLn hX ht;have HF0:=Zh (Fol.start X g id head);have HS0:=Zh hh;clear hg hd hLn hX ht hv hh;go_enter Tryz.func58,Tryz.ntmps58;go_upto_region 0 with fail;refine Zl ?_;refine bx H ?_ (hns:=(Je g).ns);clear H;intro g1 w1 H;refine al KA H ?_ (hns:=chz_ob.ns);clear H;intro g2 w2 H;refine tk (Value.nilIface) ?_;go_upto_region 1 with fail;refine Zl ?_;refine al KA H ?_ (hns:=chz_ob.ns);clear H;intro g3 w3 H;go_upto_region 2 with fail;refine Zl ?_;refine tk (.slice none 0 0) ?_;go_upto_region 3 with fail;refine Zl ?_;refine tk (.int .i64 head) ?_;refine tk (.int .i64 head) ?_;refine Zn ?_;have HR:=FolR.start H;obtain⟨B,hB⟩:∃B,w3.heap.size=B:=⟨_,rfl⟩
 rw [hB] at HR;clear H hB
 go_wp2_with fail
 go_loopg [11,12] 3 (fun q bl hd wr=>∃l lb h pv bv,3-l.length≤q∧Fol X g id head l h∧Jh h∧bv=bl∧hd=.int .i64 h∧lb.map (·.1)=l.map (·.2)∧FolR w B pv bv (l.map (·.1)) lb [(g1,[.int .i64 g.p,.int .i64 g.s,.int .i64 g.l,.int .i64 g.f]),(g2,chZ),(g3,chC pv (zeros 32))] wr)
 case atStart=>exact⟨[],[],head,_,_,by simp,HF0.out,HS0.out,rfl,rfl,rfl,HR⟩
 case round =>
  clear HR HF0 HS0;obtain⟨l,lb,h,pv,bv,hq,hf,hsm,rfl,rfl,hlb,HR⟩:=hrel;have HF:=Zh hf;have HSM:=Zh hsm;have HLB:=Zh hlb;obtain⟨n,hn⟩:∃n,l.length=n:=⟨_,rfl⟩
  have HN:=Zh hn;have hn3:n≤3:=by have:=hf.few;omega
  have HN3:=Zh hn3;have HQ:=Zh hq;have hsl:∃a c,bv=.slice a n c:=by
   obtain⟨a,c,e,-⟩:=HR.st.ex.2.2.blks;have e2:lb.length=n:=by have:=congrArg List.length hlb;simpa [hn] using this
   exact⟨a,c,by rw [e,e2]⟩
  obtain⟨ba,bc,rfl⟩:=hsl;have HPS:=Zh HR.st.ex.2.1.sl;clear hf hsm hlb hn hq hn3
  by_cases h1:h=1
  · have HC:=Zh (HF.stop h1);have H1:=Zh h1;obtain⟨hto,hco⟩:=XG HC.out;have HCD:=Zh hco;have HTO:=Zh hto;have HTL:Hid ((Fo.kn (l.map (·.2))).length=32):=Zh (YL (HLB.out ▸ HR.st.ex.2.2.blks.wf));have HBW:=Zh HR.bw;have H:=HR.st;clear HR h1 hto hco;go_upto_region 4 with fail;refine Zl ?_;refine tk (.int .i64 h) ?_;refine tk (.bool false) ?_ (hr:=by go_simp;simp [H1.out]);refine tk (.bool false) ?_;refine ps ?_;refine ps ?_;refine ps ?_;refine tk (.bool false) ?_;go_upto_region 12 with fail;refine Zl ?_;refine tk (.slice ba n bc) ?_;refine cl (by have:=Fo.J09 lb _ _ H.ex.2.2.blks (HV.below Zy H.ex.1.1).1;rw [HLB.out] at this;exact this) H ?_;clear H;intro w4 H;refine tk (.tuple #[.agg (u8s (Fo.kn (l.map (·.2)))).toArray,.int .i64 (Fo.jG (l.map (·.2)))]) ?_;refine tk (.agg (u8s (Fo.kn (l.map (·.2)))).toArray) ?_;refine tk (.int .i64 (Fo.jG (l.map (·.2)))) ?_;refine al Fo.QB H ?_ (hns:=(KD (J1 32)).ns);clear H;intro g5 w5 H;refine stO (KD HTL.out) (Ob.len (KD HTL.out) (KD (J1 32))) H 3 ?_;clear H;intro w5 H;refine tk (.int .i64 (Fo.jG (l.map (·.2)))) ?_;go_upto_region 13 with fail;refine Zl ?_;refine tk (.int .i64 (Fo.jG (l.map (·.2)))) ?_;refine tk (.bool false) ?_ (hr:=by go_simp;simp [HCD.out]);go_upto_region 15 with fail;refine Zl ?_;refine ldO (KD HTL.out) H 3 ?_;refine tk (.pointer (some ⟨g3,1,none⟩)) ?_;refine stP (KD HTL.out) (Ob.len (KD HTL.out) (KD rfl)) (KE HPS.out HTL.out).ns H 2 (jf _ _) (jf _ _) ?_;clear H;intro w5 H;go_upto_region 16 with fail;refine Zl ?_;refine ldO (KE HPS.out HTL.out) H 2 ?_;refine stO (KE HPS.out HTL.out) (Ob.len (KE HPS.out HTL.out) chz_ob) H 1 ?_;clear H;intro w5 H;refine tk (Value.nilIface) ?_;go_wp2_with fail
    refine Yf (KE HPS.out HTL.out) H 1 rfl ⟨?_,H.ex.1.1⟩;rw [HC.out];refine⟨pv,?_,H.ex.2.1.mono HBW.out⟩;rw [HTO.out];rfl
  have H1:=Zh h1
  by_cases hn3:n=3
  · obtain⟨hc,hno⟩:=HF.over h1 (by rw [HN.out];exact hn3);have HC:=Zh hc;have HCD:Hid (Fo.jG (l.map (·.2))=11):=Zh (if_neg (by rw [hno];decide));have HTL:Hid ((Fo.kn (l.map (·.2))).length=32):=Zh (YL (HLB.out ▸ HR.st.ex.2.2.blks.wf));have HN2:Hid (¬n<3):=Zh (by omega);have H:=HR.st;clear HR hn3 h1 hc hno;go_upto_region 4 with fail;refine Zl ?_;refine tk (.int .i64 h) ?_;refine tk (.bool true) ?_ (hr:=by go_simp;simp [H1.out]);refine tk (.bool true) ?_;refine tk (.slice ba n bc) ?_;refine tk (.int .i64 n) ?_;refine tk (.bool false) ?_ (hr:=by go_simp;have:=HN2.out;omega);refine tk (.bool false) ?_;go_upto_region 12 with fail;refine Zl ?_;refine tk (.slice ba n bc) ?_;refine cl (by have:=Fo.J09 lb _ _ H.ex.2.2.blks (HV.below Zy H.ex.1.1).1;rw [HLB.out] at this;exact this) H ?_;clear H;intro w4 H;refine tk (.tuple #[.agg (u8s (Fo.kn (l.map (·.2)))).toArray,.int .i64 (Fo.jG (l.map (·.2)))]) ?_;refine tk (.agg (u8s (Fo.kn (l.map (·.2)))).toArray) ?_;refine tk (.int .i64 (Fo.jG (l.map (·.2)))) ?_;refine al Fo.QB H ?_ (hns:=(KD (J1 32)).ns);clear H;intro g5 w5 H;refine stO (KD HTL.out) (Ob.len (KD HTL.out) (KD (J1 32))) H 3 ?_;clear H;intro w5 H;refine tk (.int .i64 (Fo.jG (l.map (·.2)))) ?_;go_upto_region 13 with fail;refine Zl ?_;refine tk (.int .i64 (Fo.jG (l.map (·.2)))) ?_;refine tk (.bool true) ?_ (hr:=by go_simp;simp [HCD.out]);go_upto_region 14 with fail;refine Zl ?_;refine Ji (X8 _) rfl ?_;refine nm ?_;refine J0 rfl fun K hK=>?_;go_simp;refine (new_err 13 rfl _ _).mono ?_;rintro e w6 ⟨T6,d6,t6,s6,rfl,hc,hb⟩;replace H:=(H.call hb).chain hc;clear hc hb;refine hK _ _ (nm ?_);clear hK K;refine stO chz_ob (Ob.len chz_ob chz_ob) H 1 ?_;clear H;intro w6 H;refine tk (.iface T6 d6) ?_;go_wp2_with fail
    refine Yf chz_ob H 1 rfl ⟨?_,H.ex.1.1.1⟩;rw [HC.out];exact⟨_,_,_,_,rfl,H.ex.2⟩
  have HN2:Hid (n<3):=Zh (by have:=HN3.out;omega);have H:=HR.st;have HRZ:=Zh HR;clear HR hn3 h1;go_upto_region 4 with fail;refine Zl ?_;refine tk (.int .i64 h) ?_;refine tk (.bool true) ?_ (hr:=by go_simp;simp [H1.out]);refine tk (.bool true) ?_;refine tk (.slice ba n bc) ?_;refine tk (.int .i64 n) ?_;refine tk (.bool true) ?_ (hr:=by go_simp;have:=HN2.out;omega);refine tk (.bool true) ?_;refine Zn ?_;cases hba:bAt X g h
  · have HBA:=Zh hba;go_upto_region 5 with fail;refine Zl ?_;refine tk (.pointer (some ⟨b,0,none⟩)) ?_;refine ldO (Je g) H 0 ?_;refine tk (.int .i64 h) ?_;refine J0 rfl fun K hK=>?_;go_simp;refine (HB.out h _ HSM.out H.ex.1.1).mono ?_;rw [HBA.out];rintro e w4 ⟨⟨T4,d4,t4,s4,rfl,hc⟩,hb⟩;replace H:=(H.call hb).chain hc;clear hc hb;refine hK _ _ (nm ?_);clear hK K;refine tk (.tuple #[.agg (Bk.none.cells (.slice none 0 0)).toArray,.iface T4 d4]) ?_;refine tk (.agg (Bk.none.cells (.slice none 0 0)).toArray) ?_;refine tk (.iface T4 d4) ?_;refine al Fo.zero82b H ?_ (hns:=(Jv none_wf Jm).ns);clear H;intro g5 w5 H;refine stO (Jv none_wf Jm) (Ob.len (Jv none_wf Jm) (Jv none_wf Jm)) H 3 ?_;clear H;intro w5 H;refine tk (.iface T4 d4) ?_;go_upto_region 6 with fail;refine Zl ?_;refine tk (.iface T4 d4) ?_;refine tk (.bool true) ?_;go_upto_region 7 with fail;refine Zl ?_;refine Ji (X8 _) rfl ?_;refine nm ?_;refine tk (.iface T4 d4) ?_;refine stO chz_ob (Ob.len chz_ob chz_ob) H 1 ?_;clear H;intro w5 H;refine tk (.iface T4 d4) ?_;go_wp2_with fail
    refine Yf chz_ob H 1 rfl ⟨?_,H.ex.1.1.1⟩;rw [HF.no H1.out (Jbs HBA.out)];exact⟨_,_,_,_,rfl,H.ex.2⟩
  rename_i b0
  have HBA:=Zh hba;clear hba;go_upto_region 5 with fail;refine Zl ?_;refine tk (.pointer (some ⟨b,0,none⟩)) ?_;refine ldO (Je g) H 0 ?_;refine tk (.int .i64 h) ?_;refine J0 rfl fun K hK=>?_;go_simp;refine (HB.out h _ HSM.out H.ex.1.1).mono ?_;rw [HBA.out];rintro e w4 ⟨⟨sv,rfl,hwf,hy,hfr⟩,hb⟩;have HWF:=Zh hwf;have HSV:=Zh (Bytes.sl hy);have HS:=HRZ.slice hb hy hfr;replace H:=HS.st;have HSZ:=Zh HS;clear hwf hy hfr hb HS;refine hK _ _ (nm ?_);clear hK K;refine tk (.tuple #[.agg (b0.cells sv).toArray,.nilIface]) ?_;refine tk (.agg (b0.cells sv).toArray) ?_;refine tk (.nilIface) ?_;refine al Fo.zero82b H ?_ (hns:=(Jv none_wf Jm).ns);clear H;intro g5 w5 H;refine stO (Jv HWF.out HSV.out) (Ob.len (Jv HWF.out HSV.out) (Jv none_wf Jm)) H 3 ?_;clear H;intro w5 H;refine tk (.nilIface) ?_;go_upto_region 6 with fail;refine Zl ?_;refine tk (.nilIface) ?_;refine tk (.bool false) ?_;refine Zn ?_
  by_cases hk3:b0.kind=3
  · have HK3:=Zh hk3;clear hk3;go_upto_region 8 with fail;refine Zl ?_;refine tk (.pointer (some ⟨g5,0,none⟩)) ?_;refine lc H 3 (0) ?_;refine tk (.bool true) ?_ (hr:=by go_simp;simp [HK3.out]);refine tk (.bool true) ?_;refine ps ?_;refine ps ?_;refine ps ?_;refine ps ?_;refine tk (.bool true) ?_;go_upto_region 9 with fail;refine Zl ?_;refine Ji (X8 _) rfl ?_;refine nm ?_;refine tk (.int .i64 h) ?_;refine J0 rfl fun K hK=>?_;go_simp;refine (Q8 h (by have:=HSM.out.1;omega) (by have:=HSM.out.2;omega) _ (HV.below Zy H.ex.1.1.1)).mono ?_;rintro e w6 ⟨sI,rfl,hsI,hb⟩;replace H:=H.call hb;clear hb;refine hK _ _ (nm ?_);clear hK K;refine tk (.string (⟨#[110,111,116,32,111,102,32,116,104,97,116,32,112,97,103,101,58,32,115,101,99,116,111,114,32]⟩++sI)) ?_ (hr:=by go_simp;omega);refine J0 rfl fun K hK=>?_;go_simp;refine (new_err 13 rfl _ _).mono ?_;rintro e w7 ⟨T7,d7,t7,s7,rfl,hc,hb⟩;replace H:=(H.call hb).chain hc;clear hc hb;refine hK _ _ (nm ?_);clear hK K;refine stO chz_ob (Ob.len chz_ob chz_ob) H 1 ?_;clear H;intro w7 H;refine tk (.iface T7 d7) ?_;go_wp2_with fail
    refine Yf chz_ob H 1 rfl ⟨?_,H.ex.1.1.1.1⟩;rw [HF.no H1.out (xG HBA.out fun c=>c.1 HK3.out)];exact⟨_,_,_,_,rfl,H.ex.2⟩
  have HK3:=Zh hk3;clear hk3
  by_cases hid:b0.id=id
  · have HID:=Zh hid;clear hid;go_upto_region 8 with fail;refine Zl ?_;refine tk (.pointer (some ⟨g5,0,none⟩)) ?_;refine lc H 3 (0) ?_;refine tk (.bool false) ?_ (hr:=by go_simp;simp [HK3.out]);refine tk (.bool false) ?_;refine tk (.pointer (some ⟨g5,1,none⟩)) ?_;refine lc H 3 (1) ?_;refine tk (.int .i64 id) ?_;refine tk (.bool false) ?_ (hr:=by go_simp;simp [HID.out]);refine tk (.bool false) ?_;refine Zn ?_;have HSX:=HSZ.again H;clear HSZ H;have HLL:Hid (lb.length≤3):=Zh (by have:=congrArg List.length HLB.out;have:=HN.out;have:=HN2.out;simp at *;omega);have HL1:Hid ((l.map (·.1)).length≤100):=Zh (by simp only [List.length_map];have:=HN.out;have:=HN2.out;omega);have HL2:Hid (lb.length≤100):=Zh (by have:=HLL.out;omega);go_upto_region 10 with fail
    go_cut [11] from 50 to 59 (fun s11 wx=>∃qa qn qc bv2,s11=bv2∧FolR w B (.slice qa qn qc) bv2 (l.map (·.1)++[h]) (lb++[(b0,sv)]) [(g1,[.int .i64 g.p,.int .i64 g.s,.int .i64 g.l,.int .i64 g.f]),(g2,chZ),(g3,chC (.slice qa qn qc) (zeros 32)),(g5,b0.cells sv)] wx)
    case first =>
     refine J9 (fun wq=>Blk wq g5 (b0.cells sv)) (by kernel_rfl) ?_;have HX:=HSX.again HSX.st.drew;clear HSX;refine th 0 50 (.pointer (some ⟨g3,0,none⟩)) (HX.st.blk 3 _ _ rfl) ?_;refine th 2 52 (.int .i64 h) (HX.st.blk 3 _ _ rfl) ?_;refine th 5 55 (.slice ba n bc) (HX.st.blk 3 _ _ rfl) ?_;refine th 6 56 (.agg (b0.cells sv).toArray) (HX.st.blk 3 _ _ rfl) ?_ (hy:=fun u hS=>Kj (Jv HWF.out HSV.out) hS _ _ _ rfl rfl);refine wpAnyH_all (rs:=[1,3,7]) (by kernel_rfl) (by simp) fun m hm=>?_;rcases (show m=1∨m=3∨m=7 by simpa using hm) with rfl|rfl|rfl
     · refine wpOp_step rfl fun K hK1=>YZ rfl ?_;have hK:=fun a w hS hA=>hK1 a w ⟨hS,hA⟩;clear hK1 hm;refine Jf (some 51) rfl pv _ (by have hq:=(HX.st.blk 2 _ _ rfl).cell (i:=0) (v:=pv) rfl;go_simp) (hK _ _ (HX.st.blk 3 _ _ rfl) ?_);clear hK K;refine nm ?_;refine wpAnyH_all (rs:=[3,7]) (by kernel_rfl) (by simp) fun m hm=>?_;rcases (show m=3∨m=7 by simpa using hm) with rfl|rfl
       · refine wpOp_step rfl fun K hK1=>YZ rfl ?_;have hK:=fun a w hS hA=>hK1 a w ⟨hS,hA⟩;clear hK1 hm;refine J34 _ h 53 rfl rfl rfl fun gl w6 hg hA hb hl=>?_;replace HX:=HX.new (fun v hv t e=>by subst e;simp at hv) hg hA hb;clear hg hA hb hl;refine hK _ _ (HX.st.blk 3 _ _ rfl) (nm ?_);clear hK K;refine wpAnyH_all (rs:=[4,7]) (by kernel_rfl) (by simp) fun m hm=>?_;rcases (show m=4∨m=7 by simpa using hm) with rfl|rfl
         · refine wpOp_step rfl fun K hK1=>YZ rfl ?_;have hK:=fun a w hS hA=>hK1 a w ⟨hS,hA⟩;clear hK1 hm;refine HX.app1 4 rfl HL1.out _ _ 54 rfl rfl rfl rfl fun pv2 w7 HY=>?_;replace HX:=HY;clear HY;refine hK _ _ (HX.st.blk 3 _ _ rfl) (nm ?_);clear hK K;refine th 9 59 (.pointer (some ⟨g3,0,none⟩)) (HX.st.blk 3 _ _ rfl) ?_;refine Zo 7 fun K hK=>?_;refine J35 HWF.out _ 57 rfl rfl rfl fun gb w8 hg hA hb hl=>?_;replace HX:=HX.new (Jv HWF.out HSV.out).ns hg hA hb;clear hg hA hb hl;refine hK _ _ (HX.st.blk 3 _ _ rfl) (nm ?_);clear hK K;refine Zo 8 fun K hK=>?_;refine HX.app2 HWF.out HSV.out 5 rfl HL2.out _ _ 58 rfl rfl rfl rfl fun bv2 w9 HY=>?_;replace HX:=HY;clear HY;refine hK _ _ (HX.st.blk 3 _ _ rfl) (nm ?_);clear hK K;refine Zo 10 fun K hK=>?_;obtain⟨qa,qn,qc,rfl⟩:=HX.st.ex.2.1.sl;refine YK HX.st 2 rfl HX.st.ex.2.1.sl rfl fun w10 HY=>?_;replace HX:=HX.again HY;clear HY;refine hK _ _ (HX.st.blk 3 _ _ rfl) (nm ?_);clear hK K;refine th 11 11 (bv2) (HX.st.blk 3 _ _ rfl) ?_;refine Zd ?_
           go_wp2_with fail
           go_meet
           exact⟨qa,qn,qc,bv2,rfl,HX.again (HX.st.cut 4)⟩
         · refine wpOp_step rfl fun K hK1=>YZ rfl ?_;have hK:=fun a w hS hA=>hK1 a w ⟨hS,hA⟩;clear hK1 hm;refine J35 HWF.out _ 57 rfl rfl rfl fun gb w7 hg hA hb hl=>?_;replace HX:=HX.new (Jv HWF.out HSV.out).ns hg hA hb;clear hg hA hb hl;refine hK _ _ (HX.st.blk 3 _ _ rfl) (nm ?_);clear hK K;refine Zo 4 fun K hK=>?_;refine HX.app1 4 rfl HL1.out _ _ 54 rfl rfl rfl rfl fun pv2 w8 HY=>?_;replace HX:=HY;clear HY;refine hK _ _ (HX.st.blk 3 _ _ rfl) (nm ?_);clear hK K;refine th 9 59 (.pointer (some ⟨g3,0,none⟩)) (HX.st.blk 3 _ _ rfl) ?_;refine Zo 8 fun K hK=>?_;refine HX.app2 HWF.out HSV.out 5 rfl HL2.out _ _ 58 rfl rfl rfl rfl fun bv2 w9 HY=>?_;replace HX:=HY;clear HY;refine hK _ _ (HX.st.blk 3 _ _ rfl) (nm ?_);clear hK K;refine Zo 10 fun K hK=>?_;obtain⟨qa,qn,qc,rfl⟩:=HX.st.ex.2.1.sl;refine YK HX.st 2 rfl HX.st.ex.2.1.sl rfl fun w10 HY=>?_;replace HX:=HX.again HY;clear HY;refine hK _ _ (HX.st.blk 3 _ _ rfl) (nm ?_);clear hK K;refine th 11 11 (bv2) (HX.st.blk 3 _ _ rfl) ?_;refine Zd ?_
           go_wp2_with fail
           go_meet
           exact⟨qa,qn,qc,bv2,rfl,HX.again (HX.st.cut 4)⟩
       · refine wpOp_step rfl fun K hK1=>YZ rfl ?_;have hK:=fun a w hS hA=>hK1 a w ⟨hS,hA⟩;clear hK1 hm;refine J35 HWF.out _ 57 rfl rfl rfl fun gb w6 hg hA hb hl=>?_;replace HX:=HX.new (Jv HWF.out HSV.out).ns hg hA hb;clear hg hA hb hl;refine hK _ _ (HX.st.blk 3 _ _ rfl) (nm ?_);clear hK K;refine Zo 3 fun K hK=>?_;refine J34 _ h 53 rfl rfl rfl fun gl w7 hg hA hb hl=>?_;replace HX:=HX.new (fun v hv t e=>by subst e;simp at hv) hg hA hb;clear hg hA hb hl;refine hK _ _ (HX.st.blk 3 _ _ rfl) (nm ?_);clear hK K;refine Zo 4 fun K hK=>?_;refine HX.app1 5 rfl HL1.out _ _ 54 rfl rfl rfl rfl fun pv2 w8 HY=>?_;replace HX:=HY;clear HY;refine hK _ _ (HX.st.blk 3 _ _ rfl) (nm ?_);clear hK K;refine th 9 59 (.pointer (some ⟨g3,0,none⟩)) (HX.st.blk 3 _ _ rfl) ?_;refine Zo 8 fun K hK=>?_;refine HX.app2 HWF.out HSV.out 4 rfl HL2.out _ _ 58 rfl rfl rfl rfl fun bv2 w9 HY=>?_;replace HX:=HY;clear HY;refine hK _ _ (HX.st.blk 3 _ _ rfl) (nm ?_);clear hK K;refine Zo 10 fun K hK=>?_;obtain⟨qa,qn,qc,rfl⟩:=HX.st.ex.2.1.sl;refine YK HX.st 2 rfl HX.st.ex.2.1.sl rfl fun w10 HY=>?_;replace HX:=HX.again HY;clear HY;refine hK _ _ (HX.st.blk 3 _ _ rfl) (nm ?_);clear hK K;refine th 11 11 (bv2) (HX.st.blk 3 _ _ rfl) ?_;refine Zd ?_
         go_wp2_with fail
         go_meet
         exact⟨qa,qn,qc,bv2,rfl,HX.again (HX.st.cut 4)⟩
     · refine wpOp_step rfl fun K hK1=>YZ rfl ?_;have hK:=fun a w hS hA=>hK1 a w ⟨hS,hA⟩;clear hK1 hm;refine J34 _ h 53 rfl rfl rfl fun gl w6 hg hA hb hl=>?_;replace HX:=HX.new (fun v hv t e=>by subst e;simp at hv) hg hA hb;clear hg hA hb hl;refine hK _ _ (HX.st.blk 3 _ _ rfl) (nm ?_);clear hK K;refine wpAnyH_all (rs:=[1,7]) (by kernel_rfl) (by simp) fun m hm=>?_;rcases (show m=1∨m=7 by simpa using hm) with rfl|rfl
       · refine wpOp_step rfl fun K hK1=>YZ rfl ?_;have hK:=fun a w hS hA=>hK1 a w ⟨hS,hA⟩;clear hK1 hm;refine Jf (some 51) rfl pv _ (by have hq:=(HX.st.blk 2 _ _ rfl).cell (i:=0) (v:=pv) rfl;go_simp) (hK _ _ (HX.st.blk 3 _ _ rfl) ?_);clear hK K;refine nm ?_;refine wpAnyH_all (rs:=[4,7]) (by kernel_rfl) (by simp) fun m hm=>?_;rcases (show m=4∨m=7 by simpa using hm) with rfl|rfl
         · refine wpOp_step rfl fun K hK1=>YZ rfl ?_;have hK:=fun a w hS hA=>hK1 a w ⟨hS,hA⟩;clear hK1 hm;refine HX.app1 4 rfl HL1.out _ _ 54 rfl rfl rfl rfl fun pv2 w7 HY=>?_;replace HX:=HY;clear HY;refine hK _ _ (HX.st.blk 3 _ _ rfl) (nm ?_);clear hK K;refine th 9 59 (.pointer (some ⟨g3,0,none⟩)) (HX.st.blk 3 _ _ rfl) ?_;refine Zo 7 fun K hK=>?_;refine J35 HWF.out _ 57 rfl rfl rfl fun gb w8 hg hA hb hl=>?_;replace HX:=HX.new (Jv HWF.out HSV.out).ns hg hA hb;clear hg hA hb hl;refine hK _ _ (HX.st.blk 3 _ _ rfl) (nm ?_);clear hK K;refine Zo 8 fun K hK=>?_;refine HX.app2 HWF.out HSV.out 5 rfl HL2.out _ _ 58 rfl rfl rfl rfl fun bv2 w9 HY=>?_;replace HX:=HY;clear HY;refine hK _ _ (HX.st.blk 3 _ _ rfl) (nm ?_);clear hK K;refine Zo 10 fun K hK=>?_;obtain⟨qa,qn,qc,rfl⟩:=HX.st.ex.2.1.sl;refine YK HX.st 2 rfl HX.st.ex.2.1.sl rfl fun w10 HY=>?_;replace HX:=HX.again HY;clear HY;refine hK _ _ (HX.st.blk 3 _ _ rfl) (nm ?_);clear hK K;refine th 11 11 (bv2) (HX.st.blk 3 _ _ rfl) ?_;refine Zd ?_
           go_wp2_with fail
           go_meet
           exact⟨qa,qn,qc,bv2,rfl,HX.again (HX.st.cut 4)⟩
         · refine wpOp_step rfl fun K hK1=>YZ rfl ?_;have hK:=fun a w hS hA=>hK1 a w ⟨hS,hA⟩;clear hK1 hm;refine J35 HWF.out _ 57 rfl rfl rfl fun gb w7 hg hA hb hl=>?_;replace HX:=HX.new (Jv HWF.out HSV.out).ns hg hA hb;clear hg hA hb hl;refine hK _ _ (HX.st.blk 3 _ _ rfl) (nm ?_);clear hK K;refine Zo 4 fun K hK=>?_;refine HX.app1 4 rfl HL1.out _ _ 54 rfl rfl rfl rfl fun pv2 w8 HY=>?_;replace HX:=HY;clear HY;refine hK _ _ (HX.st.blk 3 _ _ rfl) (nm ?_);clear hK K;refine th 9 59 (.pointer (some ⟨g3,0,none⟩)) (HX.st.blk 3 _ _ rfl) ?_;refine Zo 8 fun K hK=>?_;refine HX.app2 HWF.out HSV.out 5 rfl HL2.out _ _ 58 rfl rfl rfl rfl fun bv2 w9 HY=>?_;replace HX:=HY;clear HY;refine hK _ _ (HX.st.blk 3 _ _ rfl) (nm ?_);clear hK K;refine Zo 10 fun K hK=>?_;obtain⟨qa,qn,qc,rfl⟩:=HX.st.ex.2.1.sl;refine YK HX.st 2 rfl HX.st.ex.2.1.sl rfl fun w10 HY=>?_;replace HX:=HX.again HY;clear HY;refine hK _ _ (HX.st.blk 3 _ _ rfl) (nm ?_);clear hK K;refine th 11 11 (bv2) (HX.st.blk 3 _ _ rfl) ?_;refine Zd ?_
           go_wp2_with fail
           go_meet
           exact⟨qa,qn,qc,bv2,rfl,HX.again (HX.st.cut 4)⟩
       · refine wpOp_step rfl fun K hK1=>YZ rfl ?_;have hK:=fun a w hS hA=>hK1 a w ⟨hS,hA⟩;clear hK1 hm;refine J35 HWF.out _ 57 rfl rfl rfl fun gb w7 hg hA hb hl=>?_;replace HX:=HX.new (Jv HWF.out HSV.out).ns hg hA hb;clear hg hA hb hl;refine hK _ _ (HX.st.blk 3 _ _ rfl) (nm ?_);clear hK K;refine Zo 1 fun K hK=>?_;refine Jf (some 51) rfl pv _ (by have hq:=(HX.st.blk 2 _ _ rfl).cell (i:=0) (v:=pv) rfl;go_simp) (hK _ _ (HX.st.blk 3 _ _ rfl) ?_);clear hK K;refine nm ?_;refine Zo 4 fun K hK=>?_;refine HX.app1 4 rfl HL1.out _ _ 54 rfl rfl rfl rfl fun pv2 w8 HY=>?_;replace HX:=HY;clear HY;refine hK _ _ (HX.st.blk 3 _ _ rfl) (nm ?_);clear hK K;refine th 9 59 (.pointer (some ⟨g3,0,none⟩)) (HX.st.blk 3 _ _ rfl) ?_;refine Zo 8 fun K hK=>?_;refine HX.app2 HWF.out HSV.out 5 rfl HL2.out _ _ 58 rfl rfl rfl rfl fun bv2 w9 HY=>?_;replace HX:=HY;clear HY;refine hK _ _ (HX.st.blk 3 _ _ rfl) (nm ?_);clear hK K;refine Zo 10 fun K hK=>?_;obtain⟨qa,qn,qc,rfl⟩:=HX.st.ex.2.1.sl;refine YK HX.st 2 rfl HX.st.ex.2.1.sl rfl fun w10 HY=>?_;replace HX:=HX.again HY;clear HY;refine hK _ _ (HX.st.blk 3 _ _ rfl) (nm ?_);clear hK K;refine th 11 11 (bv2) (HX.st.blk 3 _ _ rfl) ?_;refine Zd ?_
         go_wp2_with fail
         go_meet
         exact⟨qa,qn,qc,bv2,rfl,HX.again (HX.st.cut 4)⟩
     · refine wpOp_step rfl fun K hK1=>YZ rfl ?_;have hK:=fun a w hS hA=>hK1 a w ⟨hS,hA⟩;clear hK1 hm;refine J35 HWF.out _ 57 rfl rfl rfl fun gb w6 hg hA hb hl=>?_;replace HX:=HX.new (Jv HWF.out HSV.out).ns hg hA hb;clear hg hA hb hl;refine hK _ _ (HX.st.blk 3 _ _ rfl) (nm ?_);clear hK K;refine wpAnyH_all (rs:=[1,3]) (by kernel_rfl) (by simp) fun m hm=>?_;rcases (show m=1∨m=3 by simpa using hm) with rfl|rfl
       · refine wpOp_step rfl fun K hK1=>YZ rfl ?_;have hK:=fun a w hS hA=>hK1 a w ⟨hS,hA⟩;clear hK1 hm;refine Jf (some 51) rfl pv _ (by have hq:=(HX.st.blk 2 _ _ rfl).cell (i:=0) (v:=pv) rfl;go_simp) (hK _ _ (HX.st.blk 3 _ _ rfl) ?_);clear hK K;refine nm ?_;refine Zo 3 fun K hK=>?_;refine J34 _ h 53 rfl rfl rfl fun gl w7 hg hA hb hl=>?_;replace HX:=HX.new (fun v hv t e=>by subst e;simp at hv) hg hA hb;clear hg hA hb hl;refine hK _ _ (HX.st.blk 3 _ _ rfl) (nm ?_);clear hK K;refine Zo 4 fun K hK=>?_;refine HX.app1 5 rfl HL1.out _ _ 54 rfl rfl rfl rfl fun pv2 w8 HY=>?_;replace HX:=HY;clear HY;refine hK _ _ (HX.st.blk 3 _ _ rfl) (nm ?_);clear hK K;refine th 9 59 (.pointer (some ⟨g3,0,none⟩)) (HX.st.blk 3 _ _ rfl) ?_;refine Zo 8 fun K hK=>?_;refine HX.app2 HWF.out HSV.out 4 rfl HL2.out _ _ 58 rfl rfl rfl rfl fun bv2 w9 HY=>?_;replace HX:=HY;clear HY;refine hK _ _ (HX.st.blk 3 _ _ rfl) (nm ?_);clear hK K;refine Zo 10 fun K hK=>?_;obtain⟨qa,qn,qc,rfl⟩:=HX.st.ex.2.1.sl;refine YK HX.st 2 rfl HX.st.ex.2.1.sl rfl fun w10 HY=>?_;replace HX:=HX.again HY;clear HY;refine hK _ _ (HX.st.blk 3 _ _ rfl) (nm ?_);clear hK K;refine th 11 11 (bv2) (HX.st.blk 3 _ _ rfl) ?_;refine Zd ?_
         go_wp2_with fail
         go_meet
         exact⟨qa,qn,qc,bv2,rfl,HX.again (HX.st.cut 4)⟩
       · refine wpOp_step rfl fun K hK1=>YZ rfl ?_;have hK:=fun a w hS hA=>hK1 a w ⟨hS,hA⟩;clear hK1 hm;refine J34 _ h 53 rfl rfl rfl fun gl w7 hg hA hb hl=>?_;replace HX:=HX.new (fun v hv t e=>by subst e;simp at hv) hg hA hb;clear hg hA hb hl;refine hK _ _ (HX.st.blk 3 _ _ rfl) (nm ?_);clear hK K;refine Zo 1 fun K hK=>?_;refine Jf (some 51) rfl pv _ (by have hq:=(HX.st.blk 2 _ _ rfl).cell (i:=0) (v:=pv) rfl;go_simp) (hK _ _ (HX.st.blk 3 _ _ rfl) ?_);clear hK K;refine nm ?_;refine Zo 4 fun K hK=>?_;refine HX.app1 5 rfl HL1.out _ _ 54 rfl rfl rfl rfl fun pv2 w8 HY=>?_;replace HX:=HY;clear HY;refine hK _ _ (HX.st.blk 3 _ _ rfl) (nm ?_);clear hK K;refine th 9 59 (.pointer (some ⟨g3,0,none⟩)) (HX.st.blk 3 _ _ rfl) ?_;refine Zo 8 fun K hK=>?_;refine HX.app2 HWF.out HSV.out 4 rfl HL2.out _ _ 58 rfl rfl rfl rfl fun bv2 w9 HY=>?_;replace HX:=HY;clear HY;refine hK _ _ (HX.st.blk 3 _ _ rfl) (nm ?_);clear hK K;refine Zo 10 fun K hK=>?_;obtain⟨qa,qn,qc,rfl⟩:=HX.st.ex.2.1.sl;refine YK HX.st 2 rfl HX.st.ex.2.1.sl rfl fun w10 HY=>?_;replace HX:=HX.again HY;clear HY;refine hK _ _ (HX.st.blk 3 _ _ rfl) (nm ?_);clear hK K;refine th 11 11 (bv2) (HX.st.blk 3 _ _ rfl) ?_;refine Zd ?_
         go_wp2_with fail
         go_meet
         exact⟨qa,qn,qc,bv2,rfl,HX.again (HX.st.cut 4)⟩
    case rest =>
     obtain⟨qa,qn,qc,bv2,rfl,HZ⟩:=hcut;have H:=HZ.st;have HQS:Hid (IsSl (.slice qa qn qc)):=Zh ⟨_,_,_,rfl⟩;go_upto_region 11 with fail;refine Zl ?_;refine ldO (Jv HWF.out HSV.out) H 3 ?_;refine cl (J33 HWF.out HSV.out _) H ?_;clear H;intro w6 H;refine tk (.int .i64 (qC b0)) ?_;go_wp2_with fail
     go_roundg (3-(l.length+1))
     case measure=>have:=HN.out;have:=HN2.out;have:=HQ.out;omega
     case rel =>
      refine⟨l++[(h,b0)],lb++[(b0,sv)],qC b0,Value.slice qa qn qc,_,by simp,HF.next H1.out (by rw [HN.out];exact HN2.out) (Jbt HBA.out HK3.out HID.out),Fol.small (X:=X) (g:=g) (id:=id) (head:=head) (h:=h) (l:=l) HWF.out,rfl,rfl,by simp [HLB.out],?_⟩;rw [List.map_append];exact HZ.again (H.cut 3)
  · have HID:=Zh hid;clear hid;go_upto_region 8 with fail;refine Zl ?_;refine tk (.pointer (some ⟨g5,0,none⟩)) ?_;refine lc H 3 (0) ?_;refine tk (.bool false) ?_ (hr:=by go_simp;simp [HK3.out]);refine tk (.bool false) ?_;refine tk (.pointer (some ⟨g5,1,none⟩)) ?_;refine lc H 3 (1) ?_;refine tk (.int .i64 id) ?_;refine tk (.bool true) ?_ (hr:=by go_simp;simp [HID.out]);refine tk (.bool true) ?_;go_upto_region 9 with fail;refine Zl ?_;refine Ji (X8 _) rfl ?_;refine nm ?_;refine tk (.int .i64 h) ?_;refine J0 rfl fun K hK=>?_;go_simp;refine (Q8 h (by have:=HSM.out.1;omega) (by have:=HSM.out.2;omega) _ (HV.below Zy H.ex.1.1.1)).mono ?_;rintro e w6 ⟨sI,rfl,hsI,hb⟩;replace H:=H.call hb;clear hb;refine hK _ _ (nm ?_);clear hK K;refine tk (.string (⟨#[110,111,116,32,111,102,32,116,104,97,116,32,112,97,103,101,58,32,115,101,99,116,111,114,32]⟩++sI)) ?_ (hr:=by go_simp;omega);refine J0 rfl fun K hK=>?_;go_simp;refine (new_err 13 rfl _ _).mono ?_;rintro e w7 ⟨T7,d7,t7,s7,rfl,hc,hb⟩;replace H:=(H.call hb).chain hc;clear hc hb;refine hK _ _ (nm ?_);clear hK K;refine stO chz_ob (Ob.len chz_ob chz_ob) H 1 ?_;clear H;intro w7 H;refine tk (.iface T7 d7) ?_;go_wp2_with fail
    refine Yf chz_ob H 1 rfl ⟨?_,H.ex.1.1.1.1⟩;rw [HF.no H1.out (xG HBA.out fun c=>HID.out c.2)];exact⟨_,_,_,_,rfl,H.ex.2⟩
variable {F:Nat→Prop} {W0:World} {X:List (List Int)} {b:Nat}
def chE(X:List (List Int))(n:Int)(g:Pl.Gm)(id head:Int):Int :=
 if ¬(g.Ok∧(0≤id∧id<g.p)∧4+g.s*g.l≤n) then 1 else if head=0 then 17 else if (Jr X g id 3 head).isNone then 13 else 0
theorem J0i(dq:Option Addr)(n:Nat)(g:Pl.Gm)(id head:Int)(w:World)(hv:Vars w)(HL:∀w',Below w.heap.size w w'→Calls Tryz.prog 33 #[.pointer dq] w' fun e w''=>e=.returned (.int .i64 n)∧w'=w'')(hg:¬g.Ok):Calls Tryz.prog 35 #[.pointer dq,g.v,.int .i64 id,.int .i64 head] w fun e w'=>qF 1 chZ e w'∧Below w.heap.size w w':=by
 have H:=Rn.St.start (Stays.below w) Zq;have HG:=Zh hg;clear hv HL hg;go_enter Tryz.func35,Tryz.ntmps35;go_upto_region 0 with fail;refine Zl ?_;refine bx H ?_ (hns:=(Je g).ns);clear H;intro g1 w1 H;refine al KA H ?_ (hns:=chz_ob.ns);clear H;intro g2 w2 H;refine tk (Value.nilIface) ?_;go_upto_region 1 with fail;refine Zl ?_;refine ldO (Je g) H 0 ?_;refine cl (Pl.ZG g HG.out _) H ?_;clear H;intro w3 H;refine tk (.bool true) ?_;refine tk (.bool true) ?_;go_upto_region 2 with fail;refine Zl ?_;refine Ji (X8 _) rfl ?_;refine nm ?_;refine J0 rfl fun K hK=>?_;go_simp;refine (new_err 1 rfl _ _).mono ?_;rintro e w4 ⟨T4,d4,t4,s4,rfl,hc,hb⟩;replace H:=(H.call hb).chain hc;clear hc hb;refine hK _ _ (nm ?_);clear hK K;refine stO chz_ob (Ob.len chz_ob chz_ob) H 1 ?_;clear H;intro w4 H;refine tk (.iface T4 d4) ?_;go_wp2_with fail
 exact Yf chz_ob H 1 rfl ⟨⟨_,_,_,_,rfl,H.ex.2⟩,H.ex.1⟩
theorem J0j(dq:Option Addr)(n:Nat)(g:Pl.Gm)(id head:Int)(w:World)(hv:Vars w)(HL:∀w',Below w.heap.size w w'→Calls Tryz.prog 33 #[.pointer dq] w' fun e w''=>e=.returned (.int .i64 n)∧w'=w'')(hg:g.Ok)(hid:id<0):Calls Tryz.prog 35 #[.pointer dq,g.v,.int .i64 id,.int .i64 head] w fun e w'=>qF 1 chZ e w'∧Below w.heap.size w w':=by
 have H:=Rn.St.start (Stays.below w) Zq;have HG:=Zh hg;have HID:=Zh hid;clear hv HL hg hid;go_enter Tryz.func35,Tryz.ntmps35;go_upto_region 0 with fail;refine Zl ?_;refine bx H ?_ (hns:=(Je g).ns);clear H;intro g1 w1 H;refine al KA H ?_ (hns:=chz_ob.ns);clear H;intro g2 w2 H;refine tk (Value.nilIface) ?_;go_upto_region 1 with fail;refine Zl ?_;refine ldO (Je g) H 0 ?_;refine cl (Pl.JX g HG.out _) H ?_;clear H;intro w3 H;refine tk (.bool false) ?_;refine tk (.bool false) ?_;go_upto_region 3 with fail;refine Zl ?_;refine tk (.int .i64 id) ?_;refine tk (.bool true) ?_ (hr:=by go_simp;have:=HID.out;omega);refine tk (.bool true) ?_;refine ps ?_;refine ps ?_;refine ps ?_;refine ps ?_;refine tk (.bool true) ?_;refine tk (.bool true) ?_;go_upto_region 4 with fail;refine Zl ?_;refine Ji (X8 _) rfl ?_;refine nm ?_;refine J0 rfl fun K hK=>?_;go_simp;refine (new_err 1 rfl _ _).mono ?_;rintro e w4 ⟨T4,d4,t4,s4,rfl,hc,hb⟩;replace H:=(H.call hb).chain hc;clear hc hb;refine hK _ _ (nm ?_);clear hK K;refine stO chz_ob (Ob.len chz_ob chz_ob) H 1 ?_;clear H;intro w4 H;refine tk (.iface T4 d4) ?_;go_wp2_with fail
 exact Yf chz_ob H 1 rfl ⟨⟨_,_,_,_,rfl,H.ex.2⟩,H.ex.1⟩
theorem yF(dq:Option Addr)(n:Nat)(g:Pl.Gm)(id head:Int)(w:World)(hv:Vars w)(HL:∀w',Below w.heap.size w w'→Calls Tryz.prog 33 #[.pointer dq] w' fun e w''=>e=.returned (.int .i64 n)∧w'=w'')(hg:g.Ok)(hid:0≤id∧g.p≤id):Calls Tryz.prog 35 #[.pointer dq,g.v,.int .i64 id,.int .i64 head] w fun e w'=>qF 1 chZ e w'∧Below w.heap.size w w':=by
 have H:=Rn.St.start (Stays.below w) Zq;have HG:=Zh hg;have HID:=Zh hid;clear hv HL hg hid;go_enter Tryz.func35,Tryz.ntmps35;go_upto_region 0 with fail;refine Zl ?_;refine bx H ?_ (hns:=(Je g).ns);clear H;intro g1 w1 H;refine al KA H ?_ (hns:=chz_ob.ns);clear H;intro g2 w2 H;refine tk (Value.nilIface) ?_;go_upto_region 1 with fail;refine Zl ?_;refine ldO (Je g) H 0 ?_;refine cl (Pl.JX g HG.out _) H ?_;clear H;intro w3 H;refine tk (.bool false) ?_;refine tk (.bool false) ?_;go_upto_region 3 with fail;refine Zl ?_;refine tk (.int .i64 id) ?_;refine tk (.bool false) ?_ (hr:=by go_simp;have:=HID.out;omega);refine tk (.bool false) ?_;refine tk (.int .i64 id) ?_;refine tk (.pointer (some ⟨g1,0,none⟩)) ?_;refine lc H 0 (0) ?_;refine tk (.bool true) ?_ (hr:=by go_simp;have:=HID.out;omega);refine tk (.bool true) ?_;refine tk (.bool true) ?_;go_upto_region 4 with fail;refine Zl ?_;refine Ji (X8 _) rfl ?_;refine nm ?_;refine J0 rfl fun K hK=>?_;go_simp;refine (new_err 1 rfl _ _).mono ?_;rintro e w4 ⟨T4,d4,t4,s4,rfl,hc,hb⟩;replace H:=(H.call hb).chain hc;clear hc hb;refine hK _ _ (nm ?_);clear hK K;refine stO chz_ob (Ob.len chz_ob chz_ob) H 1 ?_;clear H;intro w4 H;refine tk (.iface T4 d4) ?_;go_wp2_with fail
 exact Yf chz_ob H 1 rfl ⟨⟨_,_,_,_,rfl,H.ex.2⟩,H.ex.1⟩
theorem J0k(dq:Option Addr)(n:Nat)(g:Pl.Gm)(id head:Int)(w:World)(hv:Vars w)(HL:∀w',Below w.heap.size w w'→Calls Tryz.prog 33 #[.pointer dq] w' fun e w''=>e=.returned (.int .i64 n)∧w'=w'')(hg:g.Ok)(hid:0≤id∧id<g.p)(hto:(n:Int)<4+g.s*g.l):Calls Tryz.prog 35 #[.pointer dq,g.v,.int .i64 id,.int .i64 head] w fun e w'=>qF 1 chZ e w'∧Below w.heap.size w w':=by
 have H:=Rn.St.start (Stays.below w) Zq;have HG:=Zh hg;have HID:=Zh hid;have HLN:=Zh HL;have HTO:=Zh hto;clear hv HL hg hid hto;go_enter Tryz.func35,Tryz.ntmps35;go_upto_region 0 with fail;refine Zl ?_;refine bx H ?_ (hns:=(Je g).ns);clear H;intro g1 w1 H;refine al KA H ?_ (hns:=chz_ob.ns);clear H;intro g2 w2 H;refine tk (Value.nilIface) ?_;go_upto_region 1 with fail;refine Zl ?_;refine ldO (Je g) H 0 ?_;refine cl (Pl.JX g HG.out _) H ?_;clear H;intro w3 H;refine tk (.bool false) ?_;refine tk (.bool false) ?_;go_upto_region 3 with fail;refine Zl ?_;refine tk (.int .i64 id) ?_;refine tk (.bool false) ?_ (hr:=by go_simp;have:=HID.out;omega);refine tk (.bool false) ?_;refine tk (.int .i64 id) ?_;refine tk (.pointer (some ⟨g1,0,none⟩)) ?_;refine lc H 0 (0) ?_;refine tk (.bool false) ?_ (hr:=by go_simp;have:=HID.out;omega);refine tk (.bool false) ?_;refine tk (.bool false) ?_;go_upto_region 5 with fail;refine J9 (fun wq=>Blk wq g1 ([.int .i64 g.p,.int .i64 g.s,.int .i64 g.l,.int .i64 g.f])) (by kernel_rfl) ?_;replace H:=H.drew;refine th 0 30 (.pointer dq) (H.blk 0 _ _ rfl) ?_;refine th 2 32 (.agg ([.int .i64 g.p,.int .i64 g.s,.int .i64 g.l,.int .i64 g.f]).toArray) (H.blk 0 _ _ rfl) ?_ (hy:=fun u hS=>Kj (Je g) hS _ _ _ rfl rfl);refine Zo 1 fun K hK=>?_;go_simp;refine (HLN.out _ H.ex).mono ?_;rintro e w4 ⟨rfl,rfl⟩;refine hK _ _ (H.blk 0 _ _ rfl) (nm ?_);clear hK K;refine Zo 3 fun K hK=>?_;go_simp;refine (Pl.QH g HG.out _).mono ?_;rintro e w5 ⟨rfl,hb⟩;replace H:=H.call hb;clear hb;refine hK _ _ (H.blk 0 _ _ rfl) (nm ?_);clear hK K;refine th 4 34 (.bool true) (H.blk 0 _ _ rfl) ?_ (hy:=fun wq hS=>by go_simp;have:=HTO.out;omega);refine th 5 29 (.bool true) (H.blk 0 _ _ rfl) ?_;refine Zd ?_;go_upto_region 6 with fail;refine Zl ?_;refine Ji (X8 _) rfl ?_;refine nm ?_;refine J0 rfl fun K hK=>?_;go_simp;refine (new_err 1 rfl _ _).mono ?_;rintro e w6 ⟨T6,d6,t6,s6,rfl,hc,hb⟩;replace H:=(H.call hb).chain hc;clear hc hb;refine hK _ _ (nm ?_);clear hK K;refine stO chz_ob (Ob.len chz_ob chz_ob) H 1 ?_;clear H;intro w6 H;refine tk (.iface T6 d6) ?_;go_wp2_with fail
 exact Yf chz_ob H 1 rfl ⟨⟨_,_,_,_,rfl,H.ex.2⟩,H.ex.1⟩
theorem jg(dq:Option Addr)(n:Nat)(g:Pl.Gm)(id head:Int)(w:World)(hv:Vars w)(HL:∀w',Below w.heap.size w w'→Calls Tryz.prog 33 #[.pointer dq] w' fun e w''=>e=.returned (.int .i64 n)∧w'=w'')(hg:g.Ok)(hid:0≤id∧id<g.p)(hto:4+g.s*g.l≤(n:Int))(hh:head=0):Calls Tryz.prog 35 #[.pointer dq,g.v,.int .i64 id,.int .i64 head] w fun e w'=>qF 17 chZ e w'∧Below w.heap.size w w':=by
 have H:=Rn.St.start (Stays.below w) Zq;have HG:=Zh hg;have HID:=Zh hid;have HLN:=Zh HL;have HTO:=Zh hto;have HH:=Zh hh;clear hv HL hg hid hto hh;go_enter Tryz.func35,Tryz.ntmps35;go_upto_region 0 with fail;refine Zl ?_;refine bx H ?_ (hns:=(Je g).ns);clear H;intro g1 w1 H;refine al KA H ?_ (hns:=chz_ob.ns);clear H;intro g2 w2 H;refine tk (Value.nilIface) ?_;go_upto_region 1 with fail;refine Zl ?_;refine ldO (Je g) H 0 ?_;refine cl (Pl.JX g HG.out _) H ?_;clear H;intro w3 H;refine tk (.bool false) ?_;refine tk (.bool false) ?_;go_upto_region 3 with fail;refine Zl ?_;refine tk (.int .i64 id) ?_;refine tk (.bool false) ?_ (hr:=by go_simp;have:=HID.out;omega);refine tk (.bool false) ?_;refine tk (.int .i64 id) ?_;refine tk (.pointer (some ⟨g1,0,none⟩)) ?_;refine lc H 0 (0) ?_;refine tk (.bool false) ?_ (hr:=by go_simp;have:=HID.out;omega);refine tk (.bool false) ?_;refine tk (.bool false) ?_;go_upto_region 5 with fail;refine J9 (fun wq=>Blk wq g1 ([.int .i64 g.p,.int .i64 g.s,.int .i64 g.l,.int .i64 g.f])) (by kernel_rfl) ?_;replace H:=H.drew;refine th 0 30 (.pointer dq) (H.blk 0 _ _ rfl) ?_;refine th 2 32 (.agg ([.int .i64 g.p,.int .i64 g.s,.int .i64 g.l,.int .i64 g.f]).toArray) (H.blk 0 _ _ rfl) ?_ (hy:=fun u hS=>Kj (Je g) hS _ _ _ rfl rfl);refine Zo 1 fun K hK=>?_;go_simp;refine (HLN.out _ H.ex).mono ?_;rintro e w4 ⟨rfl,rfl⟩;refine hK _ _ (H.blk 0 _ _ rfl) (nm ?_);clear hK K;refine Zo 3 fun K hK=>?_;go_simp;refine (Pl.QH g HG.out _).mono ?_;rintro e w5 ⟨rfl,hb⟩;replace H:=H.call hb;clear hb;refine hK _ _ (H.blk 0 _ _ rfl) (nm ?_);clear hK K;refine th 4 34 (.bool false) (H.blk 0 _ _ rfl) ?_ (hy:=fun wq hS=>by go_simp;have:=HTO.out;omega);refine th 5 29 (.bool false) (H.blk 0 _ _ rfl) ?_;refine Zd ?_;go_upto_region 7 with fail;refine Zl ?_;refine tk (.int .i64 head) ?_;refine tk (.bool true) ?_ (hr:=by go_simp;simp [HH.out]);refine tk (.bool true) ?_;go_upto_region 8 with fail;refine Zl ?_;refine Ji (X8 _) rfl ?_;refine nm ?_;refine J0 rfl fun K hK=>?_;go_simp;refine (new_err 17 rfl _ _).mono ?_;rintro e w6 ⟨T6,d6,t6,s6,rfl,hc,hb⟩;replace H:=(H.call hb).chain hc;clear hc hb;refine hK _ _ (nm ?_);clear hK K;refine stO chz_ob (Ob.len chz_ob chz_ob) H 1 ?_;clear H;intro w6 H;refine tk (.iface T6 d6) ?_;go_wp2_with fail
 exact Yf chz_ob H 1 rfl ⟨⟨_,_,_,_,rfl,H.ex.2⟩,H.ex.1⟩
theorem ka{g:Pl.Gm}(hg:g.Ok)(id head:Int)(hid:0≤id∧id<g.p)(hh:head≠0)(hsm:Jh head)(w:World)(hv:Vars w){d:De.D}(hd:De.Dv W0 w b F d)(hLn:d.L.length≤1000000)(hX:Img d X)(ht:4+g.s*g.l≤(X.length:Int))(hc:Jr X g id 3 head=none):Calls Tryz.prog 35 #[.pointer (some ⟨b,0,none⟩),g.v,.int .i64 id,.int .i64 head] w fun e w'=>qF 13 chZ e w'∧Below w.heap.size w w':=by
 have H:=Rn.St.start (Stays.below w) Zq;have HV:=Zh hv;have HG:=Zh hg;have HID:=Zh hid;have HH:=Zh hh;obtain⟨n,hn⟩:∃n,d.S.length=n:=⟨_,rfl⟩
 have HTO:Hid (4+g.s*g.l≤(n:Int)):=Zh (by have:=hX.len;omega);have HLN:Hid (∀w',Below w.heap.size w w'→Calls Tryz.prog 33 #[.pointer (some ⟨b,0,none⟩)] w' fun e w''=>e=.returned (.int .i64 n)∧w'=w''):=Zh fun w' hb=>hn ▸ De.jy (hd.below hb);have HFO:Hid (∀w',Below w.heap.size w w'→Calls Tryz.prog 58 #[.pointer (some ⟨b,0,none⟩),g.v,.int .i64 id,.int .i64 head] w' fun e w2=>Jby w'.heap.size (Jr X g id 3 head) e w2∧Below w'.heap.size w' w2):=Zh fun w' hb=>qG hg id head hsm w' (hv.below Zy hb) (hd.below hb) hLn hX ht;have HC:=Zh hc;clear hg hid hh hsm hv hd hLn hX ht hc hn;go_enter Tryz.func35,Tryz.ntmps35;go_upto_region 0 with fail;refine Zl ?_;refine bx H ?_ (hns:=(Je g).ns);clear H;intro g1 w1 H;refine al KA H ?_ (hns:=chz_ob.ns);clear H;intro g2 w2 H;refine tk (Value.nilIface) ?_;go_upto_region 1 with fail;refine Zl ?_;refine ldO (Je g) H 0 ?_;refine cl (Pl.JX g HG.out _) H ?_;clear H;intro w3 H;refine tk (.bool false) ?_;refine tk (.bool false) ?_;go_upto_region 3 with fail;refine Zl ?_;refine tk (.int .i64 id) ?_;refine tk (.bool false) ?_ (hr:=by go_simp;have:=HID.out;omega);refine tk (.bool false) ?_;refine tk (.int .i64 id) ?_;refine tk (.pointer (some ⟨g1,0,none⟩)) ?_;refine lc H 0 (0) ?_;refine tk (.bool false) ?_ (hr:=by go_simp;have:=HID.out;omega);refine tk (.bool false) ?_;refine tk (.bool false) ?_;go_upto_region 5 with fail;refine J9 (fun wq=>Blk wq g1 ([.int .i64 g.p,.int .i64 g.s,.int .i64 g.l,.int .i64 g.f])) (by kernel_rfl) ?_;replace H:=H.drew;refine th 0 30 (.pointer (some ⟨b,0,none⟩)) (H.blk 0 _ _ rfl) ?_;refine th 2 32 (.agg ([.int .i64 g.p,.int .i64 g.s,.int .i64 g.l,.int .i64 g.f]).toArray) (H.blk 0 _ _ rfl) ?_ (hy:=fun u hS=>Kj (Je g) hS _ _ _ rfl rfl);refine Zo 1 fun K hK=>?_;go_simp;refine (HLN.out _ H.ex).mono ?_;rintro e w4 ⟨rfl,rfl⟩;refine hK _ _ (H.blk 0 _ _ rfl) (nm ?_);clear hK K;refine Zo 3 fun K hK=>?_;go_simp;refine (Pl.QH g HG.out _).mono ?_;rintro e w5 ⟨rfl,hb⟩;replace H:=H.call hb;clear hb;refine hK _ _ (H.blk 0 _ _ rfl) (nm ?_);clear hK K;refine th 4 34 (.bool false) (H.blk 0 _ _ rfl) ?_ (hy:=fun wq hS=>by go_simp;have:=HTO.out;omega);refine th 5 29 (.bool false) (H.blk 0 _ _ rfl) ?_;refine Zd ?_;go_upto_region 7 with fail;refine Zl ?_;refine tk (.int .i64 head) ?_;refine tk (.bool false) ?_ (hr:=by go_simp;simp [HH.out]);refine tk (.bool false) ?_;go_upto_region 9 with fail;refine Zl ?_;refine tk (.pointer (some ⟨b,0,none⟩)) ?_;refine ldO (Je g) H 0 ?_;refine tk (.int .i64 id) ?_;refine tk (.int .i64 head) ?_;refine J0 rfl fun K hK=>?_;go_simp;refine (HFO.out _ H.ex).mono ?_;rw [HC.out];rintro e w6 ⟨⟨T6,d6,t6,s6,rfl,hc⟩,hb⟩;replace H:=(H.call hb).chain hc;clear hc hb;refine hK _ _ (nm ?_);clear hK K;refine tk (.tuple #[.agg chZ.toArray,.iface T6 d6]) ?_;refine tk (.agg chZ.toArray) ?_;refine tk (.iface T6 d6) ?_;refine al KA H ?_ (hns:=chz_ob.ns);clear H;intro g7 w7 H;refine stO chz_ob (Ob.len chz_ob chz_ob) H 2 ?_;clear H;intro w7 H;refine tk (.iface T6 d6) ?_;go_upto_region 10 with fail;refine J9 (fun wq=>Blk wq g7 (chZ)) (by kernel_rfl) ?_;replace H:=H.drew;refine th 0 50 (.agg (chZ).toArray) (H.blk 2 _ _ rfl) ?_ (hy:=fun u hS=>Kj chz_ob hS _ _ _ rfl rfl);refine th 1 51 (.iface T6 d6) (H.blk 2 _ _ rfl) ?_;refine th 2 52 (.int .i64 id) (H.blk 2 _ _ rfl) ?_;refine Zo 3 fun K hK=>?_;go_simp;refine (Q8 id (by have:=HID.out;have:=HG.out.1;omega) (by have:=HID.out;have:=HG.out.1;omega) _ (HV.below Zy H.ex.1)).mono ?_;rintro e w8 ⟨sI,rfl,hsI,hb⟩
 replace H:=H.call hb;clear hb;refine hK _ _ (H.blk 2 _ _ rfl) (nm ?_);clear hK K;refine th 4 54 (.string (⟨#[112,97,103,101,32]⟩++sI)) (H.blk 2 _ _ rfl) ?_ (hy:=fun wq hS=>by go_simp;omega);refine Zo 5 fun K hK=>?_;go_simp;refine (wrap_err _ _ H.ex.2).mono ?_;rintro e w9 ⟨T9,d9,t9,s9,rfl,hc,hb⟩;replace H:=(H.call hb).chain hc;clear hc hb;refine hK _ _ (H.blk 2 _ _ rfl) (nm ?_);clear hK K;refine Zo 6 fun K hK=>?_;refine stH chz_ob (Ob.len chz_ob chz_ob) (H.blk 1 _ _ rfl) ?_;intro w10 hD hO;replace H:=St.via H 1 rfl chz_ob.ns hD hO;clear hD hO;refine hK _ _ (H.blk 2 _ _ rfl) (nm ?_);clear hK K;refine th 7 9 (.iface T9 d9) (H.blk 2 _ _ rfl) ?_;refine Zd ?_
 go_wp2_with fail
 exact Yf chz_ob H 1 rfl ⟨⟨_,_,_,_,rfl,H.ex.2⟩,H.ex.1.1⟩
theorem qH{g:Pl.Gm}(hg:g.Ok)(id head:Int)(hid:0≤id∧id<g.p)(hh:head≠0)(hsm:Jh head)(w:World)(hv:Vars w){d:De.D}(hd:De.Dv W0 w b F d)(hLn:d.L.length≤1000000)(hX:Img d X)(ht:4+g.s*g.l≤(X.length:Int)){l:List (Int×Bk)}(hc:Jr X g id 3 head=some l):Calls Tryz.prog 35 #[.pointer (some ⟨b,0,none⟩),g.v,.int .i64 id,.int .i64 head] w fun e w'=>(∃sv,e=.returned (.tuple #[.agg (chC sv (Fo.Q5 (l.map (·.2)))).toArray,.nilIface])∧OwnN w' w.heap.size sv (l.map (·.1)))∧Below w.heap.size w w':=by
 have H:=Rn.St.start (Stays.below w) Zq;have HV:=Zh hv;have HG:=Zh hg;have HID:=Zh hid;have HH:=Zh hh;obtain⟨n,hn⟩:∃n,d.S.length=n:=⟨_,rfl⟩
 have HTO:Hid (4+g.s*g.l≤(n:Int)):=Zh (by have:=hX.len;omega);have HLN:Hid (∀w',Below w.heap.size w w'→Calls Tryz.prog 33 #[.pointer (some ⟨b,0,none⟩)] w' fun e w''=>e=.returned (.int .i64 n)∧w'=w''):=Zh fun w' hb=>hn ▸ De.jy (hd.below hb);have HFO:Hid (∀w',Below w.heap.size w w'→Calls Tryz.prog 58 #[.pointer (some ⟨b,0,none⟩),g.v,.int .i64 id,.int .i64 head] w' fun e w2=>Jby w'.heap.size (Jr X g id 3 head) e w2∧Below w'.heap.size w' w2):=Zh fun w' hb=>qG hg id head hsm w' (hv.below Zy hb) (hd.below hb) hLn hX ht;have HC:=Zh hc;have HCL:Hid ((Fo.Q5 (l.map (·.2))).length=32):=Zh (by have:=XG hc;have h2:=YL (L:=l.map (·.2)) (YV hX.sc hc);rw [this.1] at h2;exact h2);clear hg hid hh hsm hv hd hLn hX ht hc hn;go_enter Tryz.func35,Tryz.ntmps35;go_upto_region 0 with fail;refine Zl ?_;refine bx H ?_ (hns:=(Je g).ns);clear H;intro g1 w1 H;refine al KA H ?_ (hns:=chz_ob.ns);clear H;intro g2 w2 H;refine tk (Value.nilIface) ?_;go_upto_region 1 with fail;refine Zl ?_;refine ldO (Je g) H 0 ?_;refine cl (Pl.JX g HG.out _) H ?_;clear H;intro w3 H;refine tk (.bool false) ?_;refine tk (.bool false) ?_;go_upto_region 3 with fail;refine Zl ?_;refine tk (.int .i64 id) ?_;refine tk (.bool false) ?_ (hr:=by go_simp;have:=HID.out;omega);refine tk (.bool false) ?_;refine tk (.int .i64 id) ?_;refine tk (.pointer (some ⟨g1,0,none⟩)) ?_;refine lc H 0 (0) ?_;refine tk (.bool false) ?_ (hr:=by go_simp;have:=HID.out;omega);refine tk (.bool false) ?_;refine tk (.bool false) ?_;go_upto_region 5 with fail;refine J9 (fun wq=>Blk wq g1 ([.int .i64 g.p,.int .i64 g.s,.int .i64 g.l,.int .i64 g.f])) (by kernel_rfl) ?_;replace H:=H.drew;refine th 0 30 (.pointer (some ⟨b,0,none⟩)) (H.blk 0 _ _ rfl) ?_;refine th 2 32 (.agg ([.int .i64 g.p,.int .i64 g.s,.int .i64 g.l,.int .i64 g.f]).toArray) (H.blk 0 _ _ rfl) ?_ (hy:=fun u hS=>Kj (Je g) hS _ _ _ rfl rfl);refine Zo 1 fun K hK=>?_;go_simp;refine (HLN.out _ H.ex).mono ?_;rintro e w4 ⟨rfl,rfl⟩;refine hK _ _ (H.blk 0 _ _ rfl) (nm ?_);clear hK K;refine Zo 3 fun K hK=>?_;go_simp;refine (Pl.QH g HG.out _).mono ?_;rintro e w5 ⟨rfl,hb⟩;replace H:=H.call hb;clear hb;refine hK _ _ (H.blk 0 _ _ rfl) (nm ?_);clear hK K;refine th 4 34 (.bool false) (H.blk 0 _ _ rfl) ?_ (hy:=fun wq hS=>by go_simp;have:=HTO.out;omega);refine th 5 29 (.bool false) (H.blk 0 _ _ rfl) ?_;refine Zd ?_;go_upto_region 7 with fail;refine Zl ?_;refine tk (.int .i64 head) ?_;refine tk (.bool false) ?_ (hr:=by go_simp;simp [HH.out]);refine tk (.bool false) ?_;go_upto_region 9 with fail;refine Zl ?_;refine tk (.pointer (some ⟨b,0,none⟩)) ?_;refine ldO (Je g) H 0 ?_;refine tk (.int .i64 id) ?_;refine tk (.int .i64 head) ?_;refine J0 rfl fun K hK=>?_;go_simp;refine (HFO.out _ H.ex).mono ?_;rw [HC.out];rintro e w6 ⟨⟨sv,rfl,ho⟩,hb⟩;have HSL:=Zh ho.sl;have HUP:=Zh (Nat.le_trans H.sz Zy);replace H:=St.owns H hb ho;clear ho hb;refine hK _ _ (nm ?_);clear hK K;refine tk (.tuple #[.agg (chC sv (Fo.Q5 (l.map (·.2)))).toArray,.nilIface]) ?_;refine tk (.agg (chC sv (Fo.Q5 (l.map (·.2)))).toArray) ?_;refine tk (.nilIface) ?_;refine al KA H ?_ (hns:=chz_ob.ns);clear H;intro g7 w7 H;refine stO (KE HSL.out HCL.out) (Ob.len (KE HSL.out HCL.out) chz_ob) H 2 ?_;clear H;intro w7 H;refine tk (.nilIface) ?_;go_upto_region 10 with fail;refine J9 (fun wq=>Blk wq g7 (chC sv (Fo.Q5 (l.map (·.2))))) (by kernel_rfl) ?_;replace H:=H.drew;refine th 0 50 (.agg (chC sv (Fo.Q5 (l.map (·.2)))).toArray) (H.blk 2 _ _ rfl) ?_ (hy:=fun u hS=>Kj (KE HSL.out HCL.out) hS _ _ _ rfl rfl)
 refine th 1 51 (.nilIface) (H.blk 2 _ _ rfl) ?_;refine th 2 52 (.int .i64 id) (H.blk 2 _ _ rfl) ?_;refine Zo 3 fun K hK=>?_;go_simp;refine (Q8 id (by have:=HID.out;have:=HG.out.1;omega) (by have:=HID.out;have:=HG.out.1;omega) _ (HV.below Zy H.ex.1)).mono ?_;rintro e w8 ⟨sI,rfl,hsI,hb⟩;replace H:=H.call hb;clear hb;refine hK _ _ (H.blk 2 _ _ rfl) (nm ?_);clear hK K;refine th 4 54 (.string (⟨#[112,97,103,101,32]⟩++sI)) (H.blk 2 _ _ rfl) ?_ (hy:=fun wq hS=>by go_simp;omega);refine Zo 5 fun K hK=>?_;go_simp;refine (J9m _ _).mono ?_;rintro e w9 ⟨rfl,rfl⟩;refine hK _ _ (H.blk 2 _ _ rfl) (nm ?_);clear hK K;refine Zo 6 fun K hK=>?_;refine stH (KE HSL.out HCL.out) (Ob.len (KE HSL.out HCL.out) chz_ob) (H.blk 1 _ _ rfl) ?_;intro w10 hD hO;replace H:=St.via H 1 rfl (KE HSL.out HCL.out).ns hD hO;clear hD hO;refine hK _ _ (H.blk 2 _ _ rfl) (nm ?_);clear hK K;refine th 7 9 (.nilIface) (H.blk 2 _ _ rfl) ?_;refine Zd ?_
 go_wp2_with fail
 refine Yf (KE HSL.out HCL.out) H 1 rfl ⟨?_,H.ex.1⟩;exact⟨sv,rfl,OwnN.mono H.ex.2 HUP.out⟩
theorem jI(n:Int)(dq:Option Addr)(g:Pl.Gm)(id head:Int)(w:World)(hv:Vars w)(hc:∀w',Below w.heap.size w w'→Calls Tryz.prog 35 #[.pointer dq,g.v,.int .i64 id,.int .i64 head] w' fun e w2=>qF n chZ e w2∧Below w'.heap.size w' w2):Calls Tryz.prog 13 #[.pointer dq,g.v,.int .i64 id,.int .i64 head] w (Zr w (.tuple #[.agg chZ.toArray,.int .i64 n])):=by
 have H:=Rn.St.start (Stays.below w) Zq;have HV:=Zh hv;have HC:=Zh hc;clear hv hc;go_enter Tryz.func13,Tryz.ntmps13;go_upto_region 0 with fail;refine Zl ?_;refine bx H ?_ (hns:=(Je g).ns);clear H;intro g1 w1 H;refine al KA H ?_ (hns:=chz_ob.ns);clear H;intro g2 w2 H;refine tk (.int .i64 0) ?_;go_upto_region 1 with fail;refine Zl ?_;refine tk (.pointer dq) ?_;refine ldO (Je g) H 0 ?_;refine tk (.int .i64 id) ?_;refine tk (.int .i64 head) ?_;refine J0 rfl fun K hK=>?_;go_simp;refine (HC.out _ H.ex).mono ?_;rintro e w3 ⟨⟨T3,d3,t3,s3,rfl,hc⟩,hb⟩;replace H:=(H.call hb).chain hc;clear hc hb;refine hK _ _ (nm ?_);clear hK K;refine tk (.tuple #[.agg chZ.toArray,.iface T3 d3]) ?_;refine tk (.agg chZ.toArray) ?_;refine tk (.iface T3 d3) ?_;refine al KA H ?_ (hns:=chz_ob.ns);clear H;intro g4 w4 H;refine stO chz_ob (Ob.len chz_ob chz_ob) H 2 ?_;clear H;intro w4 H;refine tk (.iface T3 d3) ?_;go_upto_region 2 with fail;refine J9 (fun wq=>Blk wq g4 (chZ)) (by kernel_rfl) ?_;replace H:=H.drew;refine th 0 20 (.agg (chZ).toArray) (H.blk 2 _ _ rfl) ?_ (hy:=fun u hS=>Kj chz_ob hS _ _ _ rfl rfl);refine th 1 21 (.iface T3 d3) (H.blk 2 _ _ rfl) ?_;refine Zo 2 fun K hK=>?_;go_simp;refine (J1x n _ _ _ _ (HV.below Zy H.ex.1).1 H.ex.2).mono ?_;rintro e w5 ⟨rfl,hb⟩;replace H:=H.call hb;clear hb;refine hK _ _ (H.blk 2 _ _ rfl) (nm ?_);clear hK K;refine Zo 3 fun K hK=>?_;refine stH chz_ob (Ob.len chz_ob chz_ob) (H.blk 1 _ _ rfl) ?_;intro w6 hD hO;replace H:=St.via H 1 rfl chz_ob.ns hD hO;clear hD hO;refine hK _ _ (H.blk 2 _ _ rfl) (nm ?_);clear hK K;refine th 4 9 (.int .i64 n) (H.blk 2 _ _ rfl) ?_;refine Zd ?_
 go_wp2_with fail
 exact Yf chz_ob H 1 rfl ⟨rfl,H.ex.1⟩
theorem Jbz(pg:List Int)(hpg:pg.length=32)(ps:List Int)(dq:Option Addr)(g:Pl.Gm)(id head:Int)(w:World)(hv:Vars w)(hc:∀w',Below w.heap.size w w'→Calls Tryz.prog 35 #[.pointer dq,g.v,.int .i64 id,.int .i64 head] w' fun e w2=>(∃sv,e=.returned (.tuple #[.agg (chC sv pg).toArray,.nilIface])∧OwnN w2 w'.heap.size sv ps)∧Below w'.heap.size w' w2):Calls Tryz.prog 13 #[.pointer dq,g.v,.int .i64 id,.int .i64 head] w fun e w'=>(∃sv,e=.returned (.tuple #[.agg (chC sv pg).toArray,.int .i64 0])∧OwnN w' w.heap.size sv ps)∧Below w.heap.size w w':=by
 have H:=Rn.St.start (Stays.below w) Zq;have HV:=Zh hv;have HC:=Zh hc;have HCL:=Zh hpg;clear hv hc hpg;go_enter Tryz.func13,Tryz.ntmps13;go_upto_region 0 with fail;refine Zl ?_;refine bx H ?_ (hns:=(Je g).ns);clear H;intro g1 w1 H;refine al KA H ?_ (hns:=chz_ob.ns);clear H;intro g2 w2 H;refine tk (.int .i64 0) ?_;go_upto_region 1 with fail;refine Zl ?_;refine tk (.pointer dq) ?_;refine ldO (Je g) H 0 ?_;refine tk (.int .i64 id) ?_;refine tk (.int .i64 head) ?_;refine J0 rfl fun K hK=>?_;go_simp;refine (HC.out _ H.ex).mono ?_;rintro e w3 ⟨⟨sv,rfl,ho⟩,hb⟩;have HSL:=Zh ho.sl;have HUP:=Zh H.sz;replace H:=St.owns H hb ho;clear ho hb;refine hK _ _ (nm ?_);clear hK K;refine tk (.tuple #[.agg (chC sv pg).toArray,.nilIface]) ?_;refine tk (.agg (chC sv pg).toArray) ?_;refine tk (.nilIface) ?_;refine al KA H ?_ (hns:=chz_ob.ns);clear H;intro g4 w4 H;refine stO (KE HSL.out HCL.out) (Ob.len (KE HSL.out HCL.out) chz_ob) H 2 ?_;clear H;intro w4 H;refine tk (.nilIface) ?_;go_upto_region 2 with fail;refine J9 (fun wq=>Blk wq g4 (chC sv pg)) (by kernel_rfl) ?_;replace H:=H.drew;refine th 0 20 (.agg (chC sv pg).toArray) (H.blk 2 _ _ rfl) ?_ (hy:=fun u hS=>Kj (KE HSL.out HCL.out) hS _ _ _ rfl rfl);refine th 1 21 (.nilIface) (H.blk 2 _ _ rfl) ?_;refine Zo 2 fun K hK=>?_;go_simp;refine (jw _).mono ?_;rintro e w5 ⟨rfl,rfl⟩;refine hK _ _ (H.blk 2 _ _ rfl) (nm ?_);clear hK K;refine Zo 3 fun K hK=>?_;refine stH (KE HSL.out HCL.out) (Ob.len (KE HSL.out HCL.out) chz_ob) (H.blk 1 _ _ rfl) ?_;intro w6 hD hO;replace H:=St.via H 1 rfl (KE HSL.out HCL.out).ns hD hO;clear hD hO;refine hK _ _ (H.blk 2 _ _ rfl) (nm ?_);clear hK K;refine th 4 9 (.int .i64 0) (H.blk 2 _ _ rfl) ?_;refine Zd ?_
 go_wp2_with fail
 refine Yf (KE HSL.out HCL.out) H 1 rfl ⟨?_,H.ex.1⟩;exact⟨sv,rfl,OwnN.mono H.ex.2 HUP.out⟩
def ChR(B:Nat)(n:Int)(q:Option (List (Int×Bk)))(e:Ending)(w':World):Prop:=match q with
 | some l=>if n=0 then ∃sv,e=.returned (.tuple #[.agg (chC sv (Fo.Q5 (l.map (·.2)))).toArray,.int .i64 0])∧OwnN w' B sv (l.map (·.1)) else e=.returned (.tuple #[.agg chZ.toArray,.int .i64 n])
 | none=>e=.returned (.tuple #[.agg chZ.toArray,.int .i64 n])
theorem J78(dq:Option Addr)(n:Nat)(g:Pl.Gm)(id head:Int)(w:World)(hv:Vars w)(HL:∀w',Below w.heap.size w w'→Calls Tryz.prog 33 #[.pointer dq] w' fun e w''=>e=.returned (.int .i64 n)∧w'=w'')(hn:¬(g.Ok∧(0≤id∧id<g.p)∧4+g.s*g.l≤(n:Int))):Calls Tryz.prog 13 #[.pointer dq,g.v,.int .i64 id,.int .i64 head] w (Zr w (.tuple #[.agg chZ.toArray,.int .i64 1])):=by
 refine jI 1 dq g id head w hv fun w' hb=>?_;have hv':=hv.below Zy hb;have HL':=fun w2 (hb2:Below w'.heap.size w' w2)=>HL w2 (Jk hb hb2)
 by_cases hg:g.Ok
 · by_cases h0:0≤id
   · by_cases h1:id<g.p
     · exact J0k dq n g id head w' hv' HL' hg ⟨h0,h1⟩ (Int.not_le.1 fun h=>hn ⟨hg,⟨h0,h1⟩,h⟩)
     · exact yF dq n g id head w' hv' HL' hg ⟨h0,by omega⟩
   · exact J0j dq n g id head w' hv' HL' hg (by omega)
 · exact J0i dq n g id head w' hv' HL' hg
theorem xI{X:List (List Int)}(g:Pl.Gm)(id head:Int)(hsm:Jh head)(w:World)(hv:Vars w){W0:World}{b:Nat}{F:Nat→Prop}{d:De.D}(hd:De.Dv W0 w b F d)(hLn:d.L.length≤1000000)(hX:Img d X):Calls Tryz.prog 13 #[.pointer (some ⟨b,0,none⟩),g.v,.int .i64 id,.int .i64 head] w fun e w'=>ChR w.heap.size (chE X X.length g id head) (Jr X g id 3 head) e w'∧Below w.heap.size w w':=by
 have hlen:=hX.len;have HL:∀w',Below w.heap.size w w'→Calls Tryz.prog 33 #[.pointer (some ⟨b,0,none⟩)] w' fun e w''=>e=.returned (.int .i64 X.length)∧w'=w'':=fun w' hb=>by rw [←hlen];exact De.jy (hd.below hb)
 unfold chE
 by_cases ha:g.Ok∧(0≤id∧id<g.p)∧4+g.s*g.l≤(X.length:Int)
 · rw [if_neg (not_not_intro ha)]
   by_cases h0:head=0
   · rw [if_pos h0];refine (jI 17 _ g id head w hv fun w' hb=>jg _ X.length g id head w' (hv.below Zy hb) (fun w2 hb2=>HL w2 (Jk hb hb2)) ha.1 ha.2.1 ha.2.2 h0).mono fun e w' h=>⟨?_,h.2⟩
     unfold ChR;split
     · rw [if_neg (by decide)];exact h.1
     · exact h.1
   · rw [if_neg h0];cases hc:Jr X g id 3 head with
     | none=>exact (jI 13 _ g id head w hv fun w' hb=>ka ha.1 id head ha.2.1 h0 hsm w' (hv.below Zy hb) (hd.below hb) hLn hX ha.2.2 hc).mono fun e w' h=>h
     | some l =>
      have hl:(Fo.Q5 (l.map (·.2))).length=32:=by
       have h1:=XG hc;have h2:=YL (L:=l.map (·.2)) (YV hX.sc hc);rw [h1.1] at h2;exact h2
      refine (Jbz _ hl _ _ g id head w hv fun w' hb=>qH ha.1 id head ha.2.1 h0 hsm w' (hv.below Zy hb) (hd.below hb) hLn hX ha.2.2 hc).mono fun e w' h=>⟨?_,h.2⟩
      unfold ChR;exact YZ rfl h.1
 · rw [if_pos ha];refine (J78 _ X.length g id head w hv HL ha).mono fun e w' h=>⟨?_,h.2⟩
   unfold ChR;split
   · rw [if_neg (by decide)];exact h.1
   · exact h.1
variable {A A3:Nat→Prop} {B N c g:Nat} {E E3:World→Prop} {L:List Value} {V:List (Nat×List Value)} {W w w':World} {a:Ja} {dv fv hv lv mv ov tv v:Value} {l m:List Int} {r:Rn.Rg} {x:Int}
def Jy(r:Rn.Rg)(hv ov:Value)(a:Ja)(fv:Value):List Value:=r.cells++[hv,ov,.int .i64 a.seg,.int .i64 a.off,.int .u32 a.seq,fv]
def JP(r:Rn.Rg)(hv ov:Value)(a:Ja)(fv dv mv:Value):List Value:=Jy r hv ov a fv++[dv,mv]
def atC(a:Ja)(fv:Value):List Value:=[.int .i64 a.seg,.int .i64 a.off,.int .u32 a.seq,fv]
theorem J0l(h:r.Wf)(hv ov:Value)(a:Ja)(fv:Value):(Jy r hv ov a fv).length=22:=by simp [Jy,h.cells]
theorem Jc0(h:r.Wf)(hv ov:Value)(a:Ja)(fv dv mv:Value):(JP r hv ov a fv dv mv).length=24:=by simp [JP,J0l h]
theorem Zu(h:r.Wf):Ob 56 r.cells:=⟨by rw [h.cells];kernel_rfl,.inl ⟨_,Tryz.underlying56⟩,Rn.Rg.cell_one r,Rn.Rg.noStr r⟩
theorem sta_mem(h:v∈Jy r hv ov a fv):v∈r.cells∨v=hv∨v=ov∨v=fv∨v=.int .i64 a.seg∨v=.int .i64 a.off∨v=.int .u32 a.seq:=by
 simp only [Jy,List.mem_append,List.mem_cons,List.not_mem_nil,or_false] at h;rcases h with h|h|h|h|h|h|h <;> simp [h]
theorem K9(h:r.Wf)(h1:IsSl hv)(h2:IsSl ov)(h3:IsSl fv):Ob 60 (Jy r hv ov a fv) :=
 ⟨by rw [J0l h];kernel_rfl,.inl ⟨_,Tryz.underlying60⟩,fun v hm=>by
  rcases sta_mem hm with hm|rfl|rfl|rfl|rfl|rfl|rfl
  · exact Rn.Rg.cell_one r v hm
  · exact h1.one
  · exact h2.one
  · exact h3.one
  · rfl
  · rfl
  · rfl,fun v hm=>by
  rcases sta_mem hm with hm|rfl|rfl|rfl|rfl|rfl|rfl
  · exact Rn.Rg.noStr r v hm
  · exact h1.ns
  · exact h2.ns
  · exact h3.ns
  · exact fun t e=>by cases e
  · exact fun t e=>by cases e
  · exact fun t e=>by cases e⟩
def Jjk(v:Value):Prop:=∃p,v=.pointer p
theorem YM(h:r.Wf)(h1:IsSl hv)(h2:IsSl ov)(h3:IsSl fv)(h4:Jjk dv)(h5:IsSl mv):Ob 168 (JP r hv ov a fv dv mv):=by
 have ho:=K9 h h1 h2 h3 (a:=a);obtain⟨p,rfl⟩:=h4;refine⟨by rw [Jc0 h];kernel_rfl,.inl ⟨_,Tryz.underlying168⟩,fun v hm=>?_,fun v hm=>?_⟩
 · simp only [JP,List.mem_append,List.mem_cons,List.not_mem_nil,or_false] at hm;rcases hm with hm|rfl|rfl
   · exact ho.one v hm
   · rfl
   · exact h5.one
 · simp only [JP,List.mem_append,List.mem_cons,List.not_mem_nil,or_false] at hm;rcases hm with hm|rfl|rfl
   · exact ho.ns v hm
   · exact fun t e=>by cases e
   · exact h5.ns
theorem Xu(a:Ja)(h:IsSl fv):Ob 58 (atC a fv):=by
 obtain⟨p,n,c,rfl⟩:=h;exact⟨by kernel_rfl,.inl ⟨_,Tryz.underlying58⟩,fun v hv=>by simp [atC] at hv;rcases hv with rfl|rfl|rfl|rfl <;> rfl,fun v hv t e=>by subst e;simp [atC] at hv⟩
theorem Ji5(h:l.length=8):Ob 54 (Jq l):=⟨by rw [List.length_map,h];kernel_rfl,.inr ⟨_,_,Tryz.underlying54⟩,fun v hv=>by obtain⟨z,_,rfl⟩:=List.mem_map.1 hv;rfl,fun v hv t e=>by obtain⟨z,_,rfl⟩:=List.mem_map.1 hv;cases e⟩
abbrev geC(r:Rn.Rg):List Value:=[.int .i64 r.p,.int .i64 r.s,.int .i64 r.l,.int .i64 r.f]
theorem yG(r:Rn.Rg)(hv ov:Value)(a:Ja)(fv:Value):Jy r hv ov a fv=[.int .u32 r.gen]++(geC r++([.int .i64 r.seg,.int .i64 r.off,.int .u32 r.seq]++Jq r.rs++[hv,ov,.int .i64 a.seg,.int .i64 a.off,.int .u32 a.seq,fv])):=by simp [Jy,Rn.Rg.cells,Rn.Rg.hd]
theorem Jfd(r:Rn.Rg)(hv ov:Value)(a:Ja)(fv:Value):Jy r hv ov a fv=r.hd++(Jq r.rs++[hv,ov,.int .i64 a.seg,.int .i64 a.off,.int .u32 a.seq,fv]):=by simp [Jy,Rn.Rg.cells]
theorem Jfe(r:Rn.Rg):r.cells=[.int .u32 r.gen]++(geC r++([.int .i64 r.seg,.int .i64 r.off,.int .u32 r.seq]++Jq r.rs)):=by simp [Rn.Rg.cells,Rn.Rg.hd]
theorem kA(r:Rn.Rg)(hv ov:Value)(a:Ja)(fv dv mv:Value):JP r hv ov a fv dv mv=[.int .u32 r.gen]++(geC r++([.int .i64 r.seg,.int .i64 r.off,.int .u32 r.seq]++Jq r.rs++[hv,ov,.int .i64 a.seg,.int .i64 a.off,.int .u32 a.seq,fv]++[dv,mv])):=by simp [JP,Jy,Rn.Rg.cells,Rn.Rg.hd]
theorem yH(r:Rn.Rg)(hv ov:Value)(a:Ja)(fv dv mv:Value):JP r hv ov a fv dv mv=[]++(Jy r hv ov a fv++[dv,mv]):=by simp [JP]
theorem Jff(r:Rn.Rg)(hv ov:Value)(a:Ja)(fv dv mv:Value):JP r hv ov a fv dv mv=[]++(r.cells++([hv,ov,.int .i64 a.seg,.int .i64 a.off,.int .u32 a.seq,fv]++[dv,mv])):=by simp [JP,Jy]
theorem qI(r:Rn.Rg)(hv ov:Value)(a:Ja)(fv dv mv:Value):JP r hv ov a fv dv mv=(r.cells++[hv,ov])++(atC a fv++[dv,mv]):=by simp [JP,Jy,atC]
theorem Xv(h:r.Wf)(hv ov:Value)(a:Ja)(fv dv mv:Value)(k:Nat):(JP r hv ov a fv dv mv)[16+k]? = ([hv,ov,.int .i64 a.seg,.int .i64 a.off,.int .u32 a.seq,fv]++[dv,mv])[k]? := by
 unfold JP Jy;rw [List.append_assoc,List.getElem?_append_right (by rw [h.cells];omega),h.cells,Nat.add_sub_cancel_left]
theorem kC(h:r.Wf)(hv ov:Value)(a:Ja)(fv dv mv:Value)(k:Nat)(v:Value):(JP r hv ov a fv dv mv).set (16+k) v=r.cells++(([hv,ov,.int .i64 a.seg,.int .i64 a.off,.int .u32 a.seq,fv]++[dv,mv]).set k v):=by
 unfold JP Jy;rw [List.append_assoc,List.set_append_right _ _ (by rw [h.cells];omega),h.cells,Nat.add_sub_cancel_left]
theorem J79(h:r.Wf)(hv ov:Value)(a:Ja)(fv dv mv v:Value):(JP r hv ov a fv dv mv).set 16 v=JP r v ov a fv dv mv:=by rw [show 16=16+0 from rfl,kC h];simp [JP,Jy]
theorem J7a(h:r.Wf)(hv ov:Value)(a:Ja)(fv dv mv v:Value):(JP r hv ov a fv dv mv).set 17 v=JP r hv v a fv dv mv:=by rw [show 17=16+1 from rfl,kC h];simp [JP,Jy]
theorem J7b(h:r.Wf)(hv ov:Value)(a:Ja)(fv dv mv v:Value):(JP r hv ov a fv dv mv).set 21 v=JP r hv ov a v dv mv:=by rw [show 21=16+5 from rfl,kC h];simp [JP,Jy]
theorem J7c(h:r.Wf)(hv ov:Value)(a:Ja)(fv dv mv v:Value):(JP r hv ov a fv dv mv).set 23 v=JP r hv ov a fv dv v:=by rw [show 23=16+7 from rfl,kC h];simp [JP,Jy]
theorem Jc1(h:r.Wf)(hv ov:Value)(a:Ja)(fv:Value)(k:Nat):(Jy r hv ov a fv)[16+k]? = [hv,ov,.int .i64 a.seg,.int .i64 a.off,.int .u32 a.seq,fv][k]? := by
 unfold Jy;rw [List.getElem?_append_right (by rw [h.cells];omega),h.cells,Nat.add_sub_cancel_left]
abbrev LE(W:World)(B:Nat)(lv:Value)(l:List Int)(u:World):Prop:=FB W B u∧OwnN u B lv l
abbrev LA(lv:Value)(k:Nat):Prop:=False∨lv.ownBlock=some k
theorem St.row0(h:Rn.St W.heap.size (fun _=>False) (fun u=>Below W.heap.size W u) V w):Rn.St W.heap.size (LA (.slice none 0 0)) (LE W w.heap.size (.slice none 0 0) []) V w:=by
 have h2:Rn.St W.heap.size (fun _=>False) (FB W w.heap.size) V w:=⟨h.sz,h.blk,h.ge,h.nd,⟨h.ex,Nat.le_refl _⟩,Stays.fb _ _,h.av,h.ns⟩
 exact St.add h2 (OwnN.nil _ _) Stays.own fun p _ hk=>by cases hk
theorem St.appL(h:Rn.St W.heap.size (LA lv) (LE W B lv l) V w)(hw:W.heap.size≤B)(k:IntsAt w tv m)(hlen:l.length+m.length≤1000000)(ty:TypeId) :
 ∃lv' w',(Builtin.append_ #[41,41] ty #[lv,tv]).run Tryz.prog w=.ok lv' w'∧Rn.St W.heap.size (LA lv') (LE W B lv' (l++m)) V w':=by
 obtain⟨lv',w',hr,hO,hg,hor⟩:=J4r h.ex.2 h.ex.1.2 k hlen ty;refine⟨lv',w',hr,Nat.le_trans h.sz hg.size,fun i g L hi=>(h.blk i g L hi).of_block (hg.block g (h.blk i g L hi).lt fun e=>h.av i g L hi (.inr e.symm)),h.ge,h.nd,⟨⟨h.ex.1.1.trans (Kq hg h.sz fun k hk=>by have:=(h.ex.2.lt k hk).1;omega),Nat.le_trans h.ex.1.2 hg.size⟩,hO⟩,(Stays.fb W B).both Stays.own,fun i g L hi hk=>?_,h.ns⟩;rcases hk with hk|hk
 · exact hk
 · rcases hor with e|e
   · exact h.av i g L hi (.inr (e ▸ hk))
   · rw [e] at hk;cases hk;exact absurd (h.blk i _ L hi).lt (Nat.lt_irrefl _)
theorem St.less2(h:Rn.St W.heap.size A3 (fun u=>LE W B lv l u∧E3 u) V w)(ha:∀k,LA lv k→A3 k:=by intro k hk;first|exact hk|exact .inl hk):Rn.St W.heap.size (LA lv) (LE W B lv l) V w :=
 ⟨h.sz,h.blk,h.ge,h.nd,h.ex.1,(Stays.fb W B).both Stays.own,fun i g L hi hk=>h.av i g L hi (ha _ hk),h.ns⟩
theorem St.appL2(h:Rn.St W.heap.size (fun k=>LA lv k∨A3 k) (fun u=>LE W B lv l u∧E3 u) V w)(hw:W.heap.size≤B)(k:IntsAt w tv m)(hlen:l.length+m.length≤1000000)(ty:TypeId) :
 ∃lv' w',(Builtin.append_ #[41,41] ty #[lv,tv]).run Tryz.prog w=.ok lv' w'∧Rn.St W.heap.size (LA lv') (LE W B lv' (l++m)) V w':=St.appL (St.less2 h) hw k hlen ty
theorem St.newg(h:Rn.St N A E V w)(hns:∀v∈L,∀t,v≠.string t)(hg:w.heap.size=g)(hA:Blk w' g L)(hb:Below w.heap.size w w'):Rn.St N A E (V++[(g,L)]) w':=by
 subst hg;exact h.new hns hA hb
theorem Jjl(h:Blk w g [.int .i64 x]):IntsAt w (.slice (some ⟨g,0,none⟩) 1 c) [x]:=⟨_,c,rfl,fun i z hz=>by
 cases i with
 | zero =>
  simp at hz
  subst hz
  exact⟨g,0,rfl,h.cell rfl⟩
 | succ i=>simp at hz⟩
theorem J7d(w:World)(ev:Operand→Value)(op:Oper)(x y:Operand)(ho:op.op=.index 54 x y)(hl:l.length=8)(j:Nat)(z:Int)(hz:l[j]? = some z)(hx:ev x=.agg (Jq l).toArray)(hy:ev y=.int .i64 j):(execOp ev op).run Tryz.prog w=.ok (.value (.int .i64 z)) w:=by
 unfold execOp;simp only [ho,hx,hy,Sem.run_bind,kr w l hl j z hz,Result.andThen_ok,Sem.run_pure]
def J7e(B:Nat)(q:Option (List Int))(e:Ending)(w':World):Prop:=match q with
 | some l=>∃sv,e=.returned (.tuple #[sv,.nilIface])∧OwnN w' B sv l
 | none=>∃T d t ts,e=.returned (.tuple #[.slice none 0 0,.iface T d])∧Chain w' 13 (t::ts) (.iface T d)
namespace Ca
open Pl
theorem maps_yes(g:Gm)(h:g.Ok)(w:World):Calls Tryz.prog 82 #[g.v] w (Zr w (.int .i64 g.maps)):=by
 have H:=Zh fun w=>JX g h w;obtain⟨⟨h1,h2⟩,_,_,_⟩:=h;go_enter Tryz.func82,Tryz.ntmps82
 go_wp2_with fail
 refine (H.out _).mono ?_;rintro e w1 ⟨rfl,hb⟩;have HB:=Zh (KY hb);clear hb;have c0:=HB.out.2.1.p
 go_wp2_with fail
 go_ret;exact⟨ks (by unfold Gm.maps;rw [Int.tdiv_eq_ediv_of_nonneg (by omega)];omega),HB.out.1⟩
theorem Ji6(a b:Int):(if b<a then b else a)=min a b:=by split <;> omega
theorem Ji7(a b:Int):(if a<b then b else a)=max a b:=by split <;> omega
theorem J4s(g:Gm)(h:g.Ok)(w:World):Calls Tryz.prog 126 #[g.v] w (Zr w (.int .i64 g.cap)):=by
 have H:=Zh fun w=>JX g h w;have HM:=Zh fun w=>maps_yes g h w;obtain⟨m0,m1,_⟩:=h.maps;obtain⟨⟨h1,h2⟩,⟨h3,h4⟩,_,_⟩:=h;have HC:Hid (max 0 (min g.p ((4*(g.s-4)-g.maps)/3))=g.cap):=Zh rfl;go_enter Tryz.func126,Tryz.ntmps126
 go_wp2_with fail
 refine (H.out _).mono ?_;rintro e w1 ⟨rfl,hb⟩;have HB:=Zh (KY hb);clear hb
 go_wp2_with fail
 refine J9 (fun wq=>Below w1.heap.size w1 wq) (by kernel_rfl) ?_;refine Jl 0 (some 6) (.pointer (some ⟨w.heap.size,0,none⟩)) rfl rfl (by kernel_rfl) (by kernel_rfl) (by kernel_rfl) (fun _ _ _ h=>h) rfl (fun w _=>by go_simp) Zq.drew ?_;refine nm ?_;refine Jl 1 (some 7) (.int .i64 g.p) rfl rfl (by kernel_rfl) (by kernel_rfl) (by kernel_rfl) (fun _ _ _ h=>h) rfl (fun w hS=>by obtain⟨c0,c1,c2,c3⟩:=HB.out.2.1.below hS HB.out.2.2;go_simp) Zq.drew ?_;refine nm ?_;refine Jl 2 (some 8) (.pointer (some ⟨w.heap.size,1,none⟩)) rfl rfl (by kernel_rfl) (by kernel_rfl) (by kernel_rfl) (fun _ _ _ h=>h) rfl (fun w _=>by go_simp) Zq.drew ?_;refine nm ?_;refine Jl 3 (some 9) (.int .i64 g.s) rfl rfl (by kernel_rfl) (by kernel_rfl) (by kernel_rfl) (fun _ _ _ h=>h) rfl (fun w hS=>by obtain⟨c0,c1,c2,c3⟩:=HB.out.2.1.below hS HB.out.2.2;go_simp) Zq.drew ?_;refine nm ?_;refine Jl 4 (some 10) (.int .i64 (g.s-4)) rfl rfl (by kernel_rfl) (by kernel_rfl) (by kernel_rfl) (fun _ _ _ h=>h) rfl (fun w _=>by go_simp <;> first|done|(go_ints;first|done|trivial)) Zq.drew ?_;refine nm ?_;refine Jl 5 (some 11) (.int .i64 (4*((g.s-4)))) rfl rfl (by kernel_rfl) (by kernel_rfl) (by kernel_rfl) (fun _ _ _ h=>h) rfl (fun w _=>by go_simp <;> first|done|(go_ints;first|done|trivial)) Zq.drew ?_;refine nm ?_;refine Jl 6 (some 12) (g.v) rfl rfl (by kernel_rfl) (by kernel_rfl) (by kernel_rfl) (fun _ _ _ h=>h) rfl (fun w hS=>by obtain⟨c0,c1,c2,c3⟩:=HB.out.2.1.below hS HB.out.2.2;go_simp) Zq.drew ?_;refine nm ?_;refine Zo 7 fun K hK=>?_;go_simp;refine (HM.out _).mono ?_;rintro e w1 ⟨rfl,hb⟩;have HS1:=Zh (Jk Zq.drew hb);refine hK _ _ HS1.out ?_;clear hK hb K;refine nm ?_;refine Jl 8 (some 14) (.int .i64 (((4*((g.s-4))))-g.maps)) rfl rfl (by kernel_rfl) (by kernel_rfl) (by kernel_rfl) (fun _ _ _ h=>h) rfl (fun w _=>by go_simp <;> first|done|(go_ints;first|done|trivial)) HS1.out ?_;refine nm ?_;refine Jl 9 (some 15) (.int .i64 (((((4*((g.s-4))))-g.maps))/3)) rfl rfl (by kernel_rfl) (by kernel_rfl) (by kernel_rfl) (fun _ _ _ h=>h) rfl (fun w _=>by go_simp <;> first|done|(go_ints;first|done|trivial)) HS1.out ?_;refine nm ?_;refine Jl 10 (some 16) (.int .i64 (min g.p (((((4*((g.s-4))))-g.maps))/3))) rfl rfl (by kernel_rfl) (by kernel_rfl) (by kernel_rfl) (fun _ _ _ h=>h) rfl (fun w _=>by go_simp <;> exact Ji6 _ _) HS1.out ?_;refine nm ?_;refine Jl 11 (some 17) (.int .i64 (max 0 (min g.p (((((4*((g.s-4))))-g.maps))/3)))) rfl rfl (by kernel_rfl) (by kernel_rfl) (by kernel_rfl) (fun _ _ _ h=>h) rfl (fun w _=>by go_simp <;> exact Ji7 _ _) HS1.out ?_;refine nm ?_;refine Jl 12 (some 2) (.int .i64 (max 0 (min g.p (((((4*((g.s-4))))-g.maps))/3)))) rfl rfl (by kernel_rfl) (by kernel_rfl) (by kernel_rfl) (fun _ _ _ h=>h) rfl (fun w _=>by go_simp) HS1.out ?_;refine nm ?_;refine Zd ?_
 go_wp2_with fail
 go_ret;exact⟨ks HC.out,HB.out.1.trans (HS1.mono HB.out.1.size)⟩
end Ca
variable {A:Nat→Prop} {E:World→Prop} {G:Prop} {L M p q:List Value} {N c g n:Nat} {V:List (Nat×List Value)} {l:List Int} {r:Rn.Rg} {sv v:Value} {u w w':World}
section
variable {ops:Array Oper} {rest:List Oper} {dst:Option Tmp} {x y:Operand} {t:TypeId} {t2:TypeId} {pos:String} {after:Array Edge} {guard:Option (Nat×Bool)} {a:Act} {w:World} {Q:Exit→Act→World→Prop}
theorem Jk1(o:Ob t L)(hB:Blk w g L)(k:G)(hx:a.eval x=.pointer (some ⟨g,0,none⟩):=by rfl)(hw:Region.wanted ⟨dst,.load t x,t2,pos,after,guard⟩ (yielded ops a.tmps)=true:=by rfl)(m:G→wpList Tryz.prog ops Q rest (a.put dst (.agg L.toArray)) w:=by intro h;(try simp only [Act.put,List.setIfInBounds_toArray,List.set_cons_succ,List.set_cons_zero]);exact h):wpList Tryz.prog ops Q (⟨dst,.load t x,t2,pos,after,guard⟩::rest) a w:=by
 rcases o.ag with ⟨f,hu⟩|⟨n,e,hu⟩
 · exact Jc hw t x rfl g 0 hx L.toArray _ hu rfl (by rw [List.size_toArray];exact o.sz) (Blk.all hB rfl) (m k)
 · exact Jc hw t x rfl g 0 hx L.toArray _ hu rfl (by rw [List.size_toArray];exact o.sz) (Blk.all hB rfl) (m k)
theorem kD(hm:M=p++(L++q))(hB:Blk w g M):∀j (hj:j<L.toArray.size),w.cell? ⟨g,p.length+j,none⟩=some L.toArray[j]:=fun j hj=>by
 subst hm;exact hB.cell (Jbu (by rw [List.getElem?_eq_getElem (by simpa using hj)];simp))
theorem Jk2(o:Ob t L)(hB:Blk w g M)(hm:M=p++(L++q))(k:G)(hc:p.length=c:=by rfl)(hx:a.eval x=.pointer (some ⟨g,c,none⟩):=by rfl)(hw:Region.wanted ⟨dst,.load t x,t2,pos,after,guard⟩ (yielded ops a.tmps)=true:=by rfl)(m:G→wpList Tryz.prog ops Q rest (a.put dst (.agg L.toArray)) w:=by intro h;(try simp only [Act.put,List.setIfInBounds_toArray,List.set_cons_succ,List.set_cons_zero]);exact h):wpList Tryz.prog ops Q (⟨dst,.load t x,t2,pos,after,guard⟩::rest) a w:=by
 subst hc;rcases o.ag with ⟨f,hu⟩|⟨n,e,hu⟩
 · exact Jc hw t x rfl g _ hx L.toArray _ hu rfl (by rw [List.size_toArray];exact o.sz) (kD hm hB) (m k)
 · exact Jc hw t x rfl g _ hx L.toArray _ hu rfl (by rw [List.size_toArray];exact o.sz) (kD hm hB) (m k)
theorem Q9(o:Ob t L)(hm:M=p++(L++q))(hB:Blk u g M)(hc:p.length=c)(ev:Operand→Value)(op:Oper)(x:Operand)(ho:op.op=.load t x)(hx:ev x=.pointer (some ⟨g,c,none⟩)):(execOp ev op).run Tryz.prog u=.ok (.value (.agg L.toArray)) u:=by
 subst hc;rcases o.ag with ⟨f,hu⟩|⟨n,e,hu⟩
 · exact exec_load_at u ev op t x ho g _ hx L.toArray _ hu rfl (by rw [List.size_toArray];exact o.sz) (kD hm hB)
 · exact exec_load_at u ev op t x ho g _ hx L.toArray _ hu rfl (by rw [List.size_toArray];exact o.sz) (kD hm hB)
theorem lcb(hB:Blk w g L)(c':Nat)(k:G)(hc:c=c':=by rfl)(hl:L[c]? = some v:=by rfl)(hx:a.eval x=.pointer (some ⟨g,c,none⟩):=by rfl)(hw:Region.wanted ⟨dst,.load t x,t2,pos,after,guard⟩ (yielded ops a.tmps)=true:=by rfl)(r:w.cell? ⟨g,c,none⟩=some v→(execOp a.eval ⟨dst,.load t x,t2,pos,after,guard⟩).run Tryz.prog w=.ok (.value v) w:=by intro hq;go_simp)(m:G→wpList Tryz.prog ops Q rest (a.put dst v) w:=by intro h;(try simp only [Act.put,List.setIfInBounds_toArray,List.set_cons_succ,List.set_cons_zero]);exact h):wpList Tryz.prog ops Q (⟨dst,.load t x,t2,pos,after,guard⟩::rest) a w :=
 J7x v hw (r (hB.cell hl)) (m k)
end
theorem xJ(h:r.Wf)(hv ov:Value)(a:Ja)(fv dv mv:Value):(JP r hv ov a fv dv mv)[16]? = some hv:=Xv h hv ov a fv dv mv 0
theorem Jgf(h:r.Wf)(hv ov:Value)(a:Ja)(fv dv mv:Value):(JP r hv ov a fv dv mv)[17]? = some ov:=Xv h hv ov a fv dv mv 1
theorem J4t(h:r.Wf)(hv ov:Value)(a:Ja)(fv dv mv:Value):(JP r hv ov a fv dv mv)[18]? = some (.int .i64 a.seg):=Xv h hv ov a fv dv mv 2
theorem Jgg(h:r.Wf)(hv ov:Value)(a:Ja)(fv dv mv:Value):(JP r hv ov a fv dv mv)[19]? = some (.int .i64 a.off):=Xv h hv ov a fv dv mv 3
theorem Jjm(h:r.Wf)(hv ov:Value)(a:Ja)(fv dv mv:Value):(JP r hv ov a fv dv mv)[21]? = some fv:=Xv h hv ov a fv dv mv 5
theorem J4u(h:r.Wf)(hv ov:Value)(a:Ja)(fv dv mv:Value):(JP r hv ov a fv dv mv)[22]? = some dv:=Xv h hv ov a fv dv mv 6
theorem Jgh(h:r.Wf)(hv ov:Value)(a:Ja)(fv dv mv:Value):(JP r hv ov a fv dv mv)[23]? = some mv:=Xv h hv ov a fv dv mv 7
def blL(l:List Bool):List Value:=l.map Value.bool
theorem Ji8(l:List Bool):∀v∈blL l,∀t,v≠.string t:=fun v hv t e=>by subst e;simp [blL] at hv
theorem Ji9:(Tryz.prog.info? 4).map (fun i=>(i.zero,i.size,i.bytes))=some (some (.bool false),1,1):=by kernel_rfl
theorem Jjn(n:Nat)(hn:n≤1024)(w:World):(Instr.makeSlice 245 (.int .i64 (n:Int)) (.int .i64 (n:Int))).run Tryz.prog w=.ok (.slice (some ⟨w.heap.size,0,none⟩) n n) (w.alloc (.cells (blL (List.replicate n false)).toArray 4)):=by
 obtain⟨i,hi,hz,hs,hb⟩:=info_parts Ji9;have:=run_makeSlice (P:=Tryz.prog) w 245 4 i _ Tryz.underlying245 hi hz .i64 .i64 n n (by omega) (Int.le_refl _) (by rw [hs];simp;omega) (by rw [hb];omega) (by omega);rw [hs] at this;have e:madeCells #[.bool false] n=(blL (List.replicate n false)).toArray:=by
  apply Array.ext_getElem?;intro j
  by_cases hj:j<n <;> simp [madeCells,blL,hj,Nat.mod_one]
 rw [←e];simpa [Value.cells] using this
theorem St.owns0(h:Rn.St N A E V w)(hb:Below w.heap.size w w')(hy:OwnN w' w.heap.size sv l):Rn.St N (fun k=>A k∨sv.ownBlock=some k) (fun u=>E u∧OwnN u N sv l) V w':=by
 have k:=h.call hb;exact⟨k.sz,k.blk,k.ge,k.nd,⟨k.ex,hy.mono h.sz⟩,h.st.both Stays.own,fun i g L hi ho=>ho.elim (h.av i g L hi) fun ho=>absurd (h.blk i g L hi).lt (Nat.not_lt.2 (hy.lt g ho).1),h.ns⟩
section
variable {ops:Array Oper} {rest:List Oper} {dst:Option Tmp} {x y:Operand} {t2:TypeId} {pos:String} {after:Array Edge} {guard:Option (Nat×Bool)} {a:Act} {w:World} {Q:Exit→Act→World→Prop}
theorem mkB(hn:n≤1024)(hx:a.eval x=.int .i64 n)(hy:a.eval y=.int .i64 n)(hw:Region.wanted ⟨dst,.makeSlice 245 x y,t2,pos,after,guard⟩ (yielded ops a.tmps)=true)(h:∀g w',w.heap.size=g→Blk w' g (blL (List.replicate n false))→Below w.heap.size w w'→wpList Tryz.prog ops Q rest (a.put dst (.slice (some ⟨g,0,none⟩) n n)) w'):wpList Tryz.prog ops Q (⟨dst,.makeSlice 245 x y,t2,pos,after,guard⟩::rest) a w :=
 by
 refine Jo _ _ hw ?_ (h _ _ rfl (Blk.new w (blL (List.replicate n false)).toArray 4) (Zq.alloc Zy (.cells (blL (List.replicate n false)).toArray 4)));unfold execOp;simp only [hx,hy,Sem.run_bind,Jjn n hn w,Result.andThen_ok,Sem.run_pure]
theorem mkR(hn:n≤64)(hx:a.eval x=.int .i64 n)(hy:a.eval y=.int .i64 n)(hw:Region.wanted ⟨dst,.makeSlice 95 x y,t2,pos,after,guard⟩ (yielded ops a.tmps)=true)(h:∀g w',w.heap.size=g→Blk w' g (Mp.row (fun _=>Bk.none) n)→Below w.heap.size w w'→wpList Tryz.prog ops Q rest (a.put dst (.slice (some ⟨g,0,none⟩) n n)) w'):wpList Tryz.prog ops Q (⟨dst,.makeSlice 95 x y,t2,pos,after,guard⟩::rest) a w:=by
 refine Jo _ _ hw ?_ (h _ _ rfl (Blk.new w (Mp.row (fun _=>Bk.none) n).toArray 82) (Zq.alloc Zy (.cells (Mp.row (fun _=>Bk.none) n).toArray 82)));unfold execOp;simp only [hx,hy,Sem.run_bind,Mp.Ji0 n hn w,Result.andThen_ok,Sem.run_pure]
end
theorem jh{X:List (List Int)}{r:Rn.Rg}(hwf:r.Wf)(hg:r.g.Ok){hv ov fv:Value}(a:Ja)(hs:List Int)(hH:(hs.length:Int)=r.p)(hsm:∀x∈hs,Jh x)(w:World)(hi:IntsAt w hv hs)(h2:IsSl ov)(h3:IsSl fv)(hvr:Vars w){W0:World}{b:Nat}{F:Nat→Prop}{d:De.D}(hd:De.Dv W0 w b F d)(hLn:d.L.length≤1000000)(hX:Img d X)(ht:4+r.s*r.l≤(X.length:Int)):Calls Tryz.prog 51 #[.pointer (some ⟨b,0,none⟩),.agg (Jy r hv ov a fv).toArray] w fun e w'=>J7e w.heap.size (Ye X r.g hs r.rs) e w'∧Below w.heap.size w w':=by
 have H:=Rn.St.start (Stays.below w) Zq;have HV:=Zh hvr;have HWF:=Zh hwf;have HSO:=Zh h2;have HSF:=Zh h3;have HSM:=Zh hsm;have hg':=hg;obtain⟨⟨(p1:1≤r.p),(p64:r.p≤64)⟩,-⟩:=hg';obtain⟨n,hn⟩:∃n,hs.length=n:=⟨_,rfl⟩
 have hn0:0<hs.length:=by omega
 have HSH:=Zh hi.sl;obtain⟨hb,ho,hc,rfl,hcell⟩:=hi.has hn0;generalize hn:hs.length=n at *;have HN:=Zh hn;have HNP:Hid ((n:Int)=r.p∧1≤n∧n≤64):=Zh (by omega);have HCE:=Zh hcell;have HHS:Hid (JU X r.g 0 hs=(JU X r.g 0 hs).map ([]++·)):=Zh (by simp);have HNO:Hid (∀(k:Nat) w',k<n→Below w.heap.size w w'→Calls Tryz.prog 35 #[.pointer (some ⟨b,0,none⟩),r.g.v,.int .i64 k,.int .i64 0] w' fun e w2=>qF 17 chZ e w2∧Below w'.heap.size w' w2):=Zh fun k w' hk hb=>jg _ X.length r.g k 0 w' (hvr.below Zy hb) (fun w2 hb2=>by rw [←hX.len];exact De.jy ((hd.below hb).below hb2)) hg ⟨by omega,by show (k:Int)<r.p;omega⟩ ht rfl;have HBD:Hid (∀(k:Nat) h w',k<n→h≠0→Jh h→Below w.heap.size w w'→Jr X r.g k 3 h=none→Calls Tryz.prog 35 #[.pointer (some ⟨b,0,none⟩),r.g.v,.int .i64 k,.int .i64 h] w' fun e w2=>qF 13 chZ e w2∧Below w'.heap.size w' w2):=Zh fun k h w' hk h0 hs hb hc=>ka hg k h ⟨by omega,by show (k:Int)<r.p;omega⟩ h0 hs w' (hvr.below Zy hb) (hd.below hb) hLn hX ht hc;have HOK:Hid (∀(k:Nat) h w' l,k<n→h≠0→Jh h→Below w.heap.size w w'→Jr X r.g k 3 h=some l→Calls Tryz.prog 35 #[.pointer (some ⟨b,0,none⟩),r.g.v,.int .i64 k,.int .i64 h] w' fun e w2=>(∃sv,e=.returned (.tuple #[.agg (chC sv (Fo.Q5 (l.map (·.2)))).toArray,.nilIface])∧OwnN w2 w'.heap.size sv (l.map (·.1)))∧Below w'.heap.size w' w2):=Zh fun k h w' l hk h0 hs hb hc=>qH hg k h ⟨by omega,by show (k:Int)<r.p;omega⟩ h0 hs w' (hvr.below Zy hb) (hd.below hb) hLn hX ht hc;have HPG:Hid (∀(k:Int) h l,Jr X r.g k 3 h=some l→(Fo.Q5 (l.map (·.2))).length=32):=Zh fun k h l hc=>by
  have h1:=XG hc;have h2:=YL (L:=l.map (·.2)) (YV hX.sc hc);rw [h1.1] at h2;exact h2
 clear hwf hg hH hsm hi h2 h3 hvr hd hLn hX ht hn hn0 hcell p1 p64;go_enter Tryz.func51,Tryz.ntmps51;go_upto_region 0 with fail;refine Zl ?_;refine bx H ?_ (hns:=(K9 HWF.out HSH.out HSO.out HSF.out).ns);clear H;intro g1 w1 H;refine tk (.slice none 0 0) ?_;refine tk (Value.nilIface) ?_;go_upto_region 1 with fail;refine Zl ?_;refine tk (.slice none 0 0) ?_;refine Zn ?_;have HB0:=Zh H.sz;obtain⟨B,hB⟩:∃B,w1.heap.size=B:=⟨_,rfl⟩
 have HR:=St.row0 H;rw [hB] at HR HB0;clear H hB;have H:=HR;clear HR;go_upto_region 2 with fail;refine Zl ?_;refine tk (.pointer (some ⟨g1,16,none⟩)) ?_;refine lc H 0 (16) ?_ (hl:=Jc1 HWF.out _ _ _ _ 0);refine tk (.int .i64 n) ?_;refine tk (.int .i64 0) ?_;go_wp2_with fail
 go_loopg [6,16] n (fun q s6 i wr=>∃(k:Nat) (acc:List Int) (lv:Value),n-k≤q∧k≤n∧i=.int .i64 k∧lv=s6∧acc.length≤3*k∧JU X r.g 0 hs=(JU X r.g k (hs.drop k)).map (acc++·)∧Rn.St w.heap.size (LA lv) (LE w B lv acc) [(g1,Jy r (.slice (some ⟨hb,ho,none⟩) n hc) ov a fv)] wr)
 case atStart=>exact⟨0,[],_,by omega,by omega,rfl,rfl,by simp,HHS.out,H⟩
 case round =>
  clear H HHS;obtain⟨k,acc,lv,hq,hk,rfl,rfl,hal,hpl,H⟩:=hrel;have HPL:=Zh hpl;have HAL:=Zh hal;have HQ:=Zh hq;clear hpl hal hq
  by_cases hlt:k<n
  · have hk1:(k:Int)<(n:Int):=by omega
    obtain⟨h,hh⟩:∃h,hs[k]? = some h:=⟨_,List.getElem?_eq_getElem (by have:=HN.out;omega)⟩
    have c0:=HCE.out k h hh;have c1:=(H.ex.1.1.cell (block_lt_of_cell c0)).trans c0;have HSMh:=Zh (HSM.out h (List.mem_of_getElem? hh));have HKN:=Zh hlt;have hdr:hs.drop k=h::hs.drop (k+1):=(List.drop_eq_getElem_cons (by have:=HN.out;omega)).trans (by rw [(Zg hh).2]);have HDR:=Zh hdr;clear c0 hh hdr hk hlt;go_upto_region 5 with fail;clear c1 hk1
    by_cases h0:h=0
    · subst h0;go_upto_region 5 with fail;refine Zl ?_;refine tk (.pointer (some ⟨b,0,none⟩)) ?_;refine tk (.pointer (some ⟨g1,0,none⟩)) ?_;refine tk (.pointer (some ⟨g1,1,none⟩)) ?_;refine ldP (Je r.g) H 0 (yG _ _ _ _ _) ?_;refine tk (.int .i64 k) ?_;refine tk (.int .i64 0) ?_;refine J0 rfl fun K hK=>?_;go_simp;refine (HNO.out k _ HKN.out H.ex.1.1).mono ?_;rintro e w2 ⟨⟨T2,d2,t2,s2,rfl,hc⟩,hb⟩;replace H:=(H.call hb).chain hc;clear hc hb;refine hK _ _ (nm ?_);clear hK K;refine tk (.tuple #[.agg chZ.toArray,.iface T2 d2]) ?_;refine tk (.agg chZ.toArray) ?_;refine tk (.iface T2 d2) ?_;refine al KA H ?_ (hns:=chz_ob.ns);clear H;intro g3 w3 H;refine stO chz_ob (Ob.len chz_ob chz_ob) H 1 ?_;clear H;intro w3 H;refine tk (.iface T2 d2) ?_;go_upto_region 6 with fail;refine Zl ?_;refine tk (.iface T2 d2) ?_;refine cl (YE 17 17 true rfl _ _ _ _ H.ex.2) H ?_;clear H;intro w4 H;refine Zn ?_;have hb1:=HKN.out;have hb2:=HNP.out.2.2
      go_wp2_with fail
      go_roundg (n-(k+1))
      case measure=>have:=HQ.out;have:=HKN.out;omega
      case rel=>exact⟨k+1,acc,lv,by omega,by have:=HKN.out;omega,by go_num,rfl,by have:=HAL.out;omega,by rw [HPL.out,HDR.out,Ko rfl];rfl,(St.less2 H).cut 1⟩
    have H0:=Zh h0;cases hc2:Jr X r.g k 3 h
    · have HC:=Zh hc2;clear hc2 h0;go_upto_region 5 with fail;refine Zl ?_;refine tk (.pointer (some ⟨b,0,none⟩)) ?_;refine tk (.pointer (some ⟨g1,0,none⟩)) ?_;refine tk (.pointer (some ⟨g1,1,none⟩)) ?_;refine ldP (Je r.g) H 0 (yG _ _ _ _ _) ?_;refine tk (.int .i64 k) ?_;refine tk (.int .i64 h) ?_;refine J0 rfl fun K hK=>?_;go_simp;refine (HBD.out k h _ HKN.out H0.out HSMh.out H.ex.1.1 HC.out).mono ?_;rintro e w2 ⟨⟨T2,d2,t2,s2,rfl,hc⟩,hb⟩;replace H:=(H.call hb).chain hc;clear hc hb;refine hK _ _ (nm ?_);clear hK K;refine tk (.tuple #[.agg chZ.toArray,.iface T2 d2]) ?_;refine tk (.agg chZ.toArray) ?_;refine tk (.iface T2 d2) ?_;refine al KA H ?_ (hns:=chz_ob.ns);clear H;intro g3 w3 H;refine stO chz_ob (Ob.len chz_ob chz_ob) H 1 ?_;clear H;intro w3 H;refine tk (.iface T2 d2) ?_;go_upto_region 6 with fail;refine Zl ?_;refine tk (.iface T2 d2) ?_;refine cl (YE 13 17 false rfl _ _ _ _ H.ex.2) H ?_;clear H;intro w4 H;go_upto_region 7 with fail;refine Zl ?_;refine tk (.iface T2 d2) ?_;refine tk (.bool true) ?_;go_upto_region 8 with fail;refine Zl ?_;refine tk (.iface T2 d2) ?_;refine J0 rfl fun K hK=>?_;go_simp;refine (wrap_err _ _ H.ex.2).mono ?_;rintro e w5 ⟨T5,d5,t5,s5,rfl,hc,hb⟩;replace H:=(H.call hb).chain hc;clear hc hb;refine hK _ _ (nm ?_);clear hK K;refine tk (.slice none 0 0) ?_;refine tk (.iface T5 d5) ?_;go_wp2_with fail
      go_ret2;refine⟨?_,H.ex.1.1.1.1⟩;unfold Ye;rw [HPL.out,HDR.out,qD H0.out HC.out];exact⟨_,_,_,_,rfl,H.ex.2⟩
    · rename_i l
      have HC:=Zh hc2;have HCL:=Zh (HPG.out k h l hc2);have HLN:=Zh (XO hc2).1;clear hc2 h0;go_upto_region 5 with fail;refine Zl ?_;refine tk (.pointer (some ⟨b,0,none⟩)) ?_;refine tk (.pointer (some ⟨g1,0,none⟩)) ?_;refine tk (.pointer (some ⟨g1,1,none⟩)) ?_;refine ldP (Je r.g) H 0 (yG _ _ _ _ _) ?_;refine tk (.int .i64 k) ?_;refine tk (.int .i64 h) ?_;refine J0 rfl fun K hK=>?_;go_simp;refine (HOK.out k h _ _ HKN.out H0.out HSMh.out H.ex.1.1 HC.out).mono ?_;rintro e w2 ⟨⟨sv,rfl,ho⟩,hb⟩;have HSL:=Zh ho.sl;replace H:=St.owns H hb ho;clear ho hb;refine hK _ _ (nm ?_);clear hK K;refine tk (.tuple #[.agg (chC sv (Fo.Q5 (l.map (·.2)))).toArray,.nilIface]) ?_;refine tk (.agg (chC sv (Fo.Q5 (l.map (·.2)))).toArray) ?_;refine tk (.nilIface) ?_;refine al KA H ?_ (hns:=chz_ob.ns);clear H;intro g3 w3 H;refine stO (KE HSL.out HCL.out) (Ob.len (KE HSL.out HCL.out) chz_ob) H 1 ?_;clear H;intro w3 H;refine tk (.nilIface) ?_;go_upto_region 6 with fail;refine Zl ?_;refine tk (.nilIface) ?_;refine cl (YD 17 false rfl _) H ?_;clear H;intro w4 H;go_upto_region 7 with fail;refine Zl ?_;refine tk (.nilIface) ?_;refine tk (.bool false) ?_;go_upto_region 9 with fail;refine Zl ?_;refine tk (lv) ?_;refine tk (.pointer (some ⟨g3,0,none⟩)) ?_;refine lc H 1 (0) ?_;obtain⟨lv2,w5,hr,H2⟩:=St.appL2 H HB0.out (OwnN.ints H.ex.2) (by have:=HAL.out;have:=HNP.out;have:=HLN.out;have:=HKN.out;simp only [List.length_map];omega) 41;refine Jo lv2 w5 rfl (Qd _ _ _ _ 41 41 rfl lv sv lv2 rfl rfl hr) ?_;clear hr H;have H:=H2;clear H2;refine nm ?_;refine tk (lv2) ?_;refine Zn ?_;have hb1:=HKN.out;have hb2:=HNP.out.2.2
      go_wp2_with fail
      go_roundg (n-(k+1))
      case measure=>have:=HQ.out;have:=HKN.out;omega
      case rel=>exact⟨k+1,acc++l.map (·.1),lv2,by omega,by have:=HKN.out;omega,by go_num,rfl,by have:=HAL.out;have:=HLN.out;simp only [List.length_append,List.length_map];omega,by rw [HPL.out,HDR.out,Qs H0.out HC.out,Option.map_map];congr 1;funext z;simp,H.cut 1⟩
  · obtain rfl:k=n:=by omega
    have HPN:Hid (Ye X r.g hs r.rs=some (acc++KO r.rs)):=Zh (by
     unfold Ye
     rw [HPL.out,List.drop_of_length_le (by have:=HN.out;omega)]
     simp [JU])
    have HA2:Hid (acc.length≤192):=Zh (by have:=HAL.out;have:=HNP.out;omega);have hk1:¬(k:Int)<(k:Int):=by omega
    clear HPL HAL HQ hk hlt;go_upto_region 11 with fail;clear hk1;go_upto_region 11 with fail;refine Zl ?_;refine tk (.pointer (some ⟨g1,0,none⟩)) ?_;refine tk (.pointer (some ⟨g1,8,none⟩)) ?_;refine ldP (Ji5 HWF.len) H 0 (Jfd _ _ _ _ _) ?_;refine tk (.int .i64 0) ?_;go_wp2_with fail
    go_loopg [6,45] 8 (fun q s6 i wr=>∃(j:Nat) (ac2:List Int) (lv:Value),8-j≤q∧j≤8∧i=.int .i64 j∧lv=s6∧ac2.length≤192+j∧acc++KO r.rs=ac2++KO (r.rs.drop j)∧Rn.St w.heap.size (LA lv) (LE w B lv ac2) [(g1,Jy r (.slice (some ⟨hb,ho,none⟩) k hc) ov a fv)] wr)
    case atStart=>exact⟨0,acc,_,by omega,by omega,rfl,rfl,by have:=HA2.out;omega,rfl,H⟩
    case round =>
     clear H;obtain⟨j,ac2,lv2,hq,hj,rfl,rfl,hal,hpl,H⟩:=hrel;have HPL:=Zh hpl;have HAL:=Zh hal;have HQ:=Zh hq;clear hpl hal hq
     by_cases hlt:j<8
     · obtain⟨h,hh⟩:∃h,r.rs[j]? = some h:=⟨_,List.getElem?_eq_getElem (by rw [HWF.len];exact hlt)⟩
       have HX:=Zh hh;have HKN:=Zh hlt;have hdr:r.rs.drop j=h::r.rs.drop (j+1):=(List.drop_eq_getElem_cons (by rw [HWF.len];exact hlt)).trans (by rw [(Zg hh).2]);have HDR:=Zh hdr;have hk1:(j:Int)<8:=by omega
       clear hh hdr hj hlt;go_upto_region 13 with fail;clear hk1;go_upto_region 13 with fail;refine Zl ?_;refine tk (.int .i64 h) ?_ (hr:=by exact J7d _ _ _ _ _ rfl HWF.len j h HX.out rfl rfl);refine tk (.int .i64 h) ?_;refine Zn ?_
       by_cases hh0:h=0
       · have HH0:=Zh hh0;clear hh0;go_upto_region 14 with fail;refine Zl ?_;refine tk (.int .i64 h) ?_;refine tk (.bool false) ?_ (hr:=by go_simp;simp [HH0.out]);refine Zn ?_;have hb1:=HKN.out
         go_wp2_with fail
         go_roundg (8-(j+1))
         case measure=>have:=HQ.out;have:=HKN.out;omega
         case rel=>exact⟨j+1,ac2,lv2,by omega,by have:=HKN.out;omega,by go_num,rfl,by have:=HAL.out;omega,by rw [HPL.out,HDR.out];simp [KO,HH0.out],H.cut 1⟩
       · have HH0:=Zh hh0;clear hh0;go_upto_region 14 with fail;refine Zl ?_;refine tk (.int .i64 h) ?_;refine tk (.bool true) ?_ (hr:=by go_simp;simp [HH0.out]);go_upto_region 15 with fail;refine Zl ?_;refine tk (lv2) ?_;refine tk (.int .i64 h) ?_;refine J0 rfl fun K hK=>?_;refine J34 _ h 52 rfl rfl rfl fun gl w2 hg hA hb hl=>hK _ _ ?_;clear hK K;replace H:=St.newg H (fun v hv t e=>by subst e;simp at hv) hg hA hb;clear hA hb hl hg;refine nm ?_;have HI1:=Jjl (c:=1) (H.blk 1 _ _ rfl);obtain⟨lv3,w3,hr,H2⟩:=St.appL H HB0.out HI1 (by have:=HAL.out;have:=HKN.out;simp;omega) 41;refine Jo lv3 w3 rfl (Qd _ _ _ _ 41 41 rfl lv2 (.slice (some ⟨gl,0,none⟩) 1 1) lv3 rfl rfl hr) ?_;clear hr H HI1;have H:=H2;clear H2;refine nm ?_;refine tk (lv3) ?_;refine Zn ?_;have hb1:=HKN.out
         go_wp2_with fail
         go_roundg (8-(j+1))
         case measure=>have:=HQ.out;have:=HKN.out;omega
         case rel=>exact⟨j+1,ac2++[h],lv3,by omega,by have:=HKN.out;omega,by go_num,rfl,by have:=HAL.out;simp;omega,by rw [HPL.out,HDR.out];simp [KO,HH0.out],H.cut 1⟩
     · obtain rfl:j=8:=by omega
       have hf:ac2=acc++KO r.rs:=by
        rw [HPL.out,List.drop_of_length_le (by rw [HWF.len];omega)];simp [KO]
       have HF:=Zh hf;have hk1:¬((8:Nat):Int)<8:=by omega
       clear HPL HAL HQ hj hlt hf;go_upto_region 17 with fail;clear hk1;go_upto_region 17 with fail;refine Zl ?_;refine tk (lv2) ?_;refine tk (lv2) ?_;refine tk (Value.nilIface) ?_;go_wp2_with fail
       go_ret2;refine⟨?_,H.ex.1.1⟩;rw [HPN.out,←HF.out];exact⟨lv2,rfl,OwnN.mono H.ex.2 HB0.out⟩
end Go.Proofs.YtdbfmikeaoaebaaGreatDoor
