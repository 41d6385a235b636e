/- Steps. -/
import Derived.Test.YtdbfmikeaoaebaaGreatDoorLab
import Derived.BigQuiet
import Derived.Deep.QuietTactic
import Derived.RegionTactic
import Derived.Test.YtdbfmikeaoaebaaGreatDoorLaa
import Derived.Deep.Cut
import Derived.Deep.CutRange
set_option linter.unusedSimpArgs false
set_option linter.unusedVariables false
set_option maxRecDepth 100000
set_option maxHeartbeats 4000000
namespace Go.Proofs.YtdbfmikeaoaebaaGreatDoor
open Go.RowKit
variable {g k n:Nat} {sv:Value} {w:World}
theorem kT(m:Mk)(h:Kf m=true)(w:World):Calls Tryz.prog 134 #[.agg #[.int .i64 m.1,.int .i64 m.2]] w (Zr w (.tuple #[.int .i64 (Kt m),.bool (JE m.1)])):=by
 obtain⟨k,i⟩:=m;obtain⟨h1,h2,h3,h4,h5⟩:=KQ.1 h;simp only at h1 h2 h3 h4 h5;have HB:=Zh fun (o:Obj)=>(Below.refl w.heap.size w).alloc Zy o;rcases (show k=1∨k=2∨k=3∨k=4∨k=5 by omega) with rfl|rfl|rfl|rfl|rfl
 all_goals
  clear h h1 h2;go_enter Tryz.func134,Tryz.ntmps134
  go_wp2_with fail
  go_ret2;exact⟨by simp [Kt,JE],HB.out _⟩
theorem J5g(m:Mk):Sm.good ⟨0,false,[m]⟩=Kf m:=by simp [Sm.good,Ju]
theorem J5h(a:Option Addr)(k c:Nat):Tryz.prog.built 300 [(2,.slice a k c)]=some #[.int .u32 0,.bool false,.slice a k c]:=by kernel_rfl
theorem Jgu(W:World)(m:Mk):MarksAt (W.alloc (.cells #[.int .i64 m.1,.int .i64 m.2] 79)) (.slice (some ⟨W.heap.size,0,none⟩) 1 1) [m]:=(OwnM.lit W W.heap.size Zy [m] (by simp) _ rfl).marks
theorem Jd3(m:Mk)(h1:Jh m.1)(h2:Jh m.2):∃(x:List Int) (e0:Int),x.length=64∧(e0 == 0)=Kf m∧∀sv w,MarksAt w sv [m]→Calls Tryz.prog 160 #[.agg #[.int .u32 0,.bool false,sv]] w fun e w'=>e=.returned (.tuple #[.agg (u8s x).toArray,.int .i64 e0])∧Below w.heap.size w w' :=
 ⟨Sm.sec ⟨0,false,[m]⟩,Sm.err ⟨0,false,[m]⟩,Yr _,by unfold Sm.err;rw [J5g];cases Kf m <;> rfl,fun sv w h=>Ys ⟨0,false,[m]⟩ sv (by simp) ⟨⟨Int.le_refl 0,by show (0:Int)<4294967296;decide⟩,fun q hq=>by obtain rfl:=List.mem_singleton.1 hq;exact⟨h1,h2⟩⟩ w h⟩
theorem J18(m:Mk)(h1:Jh m.1)(h2:Jh m.2)(w:World):Calls Tryz.prog 136 #[.agg #[.int .i64 m.1,.int .i64 m.2]] w (Zr w (.bool (Kf m))):=by
 obtain⟨x,e0,hs,hg,he⟩:=Jd3 m h1 h2;have HS:=Zh hs;have HG:=Zh hg;have HE:=Zh he;have HM:Hid (MarksAt ((w.alloc (.cells #[.int .i64 m.1,.int .i64 m.2] 79)).alloc (.cells #[.int .i64 m.1,.int .i64 m.2] 79)) (.slice (some ⟨w.heap.size+1,0,none⟩) 1 1) [m]):=Zh (by
  have:=Jgu (w.alloc (.cells #[.int .i64 m.1,.int .i64 m.2] 79)) m
  simpa using this)
 clear hs hg he;obtain⟨k,i⟩:=m;clear h1 h2;go_enter Tryz.func136,Tryz.ntmps136;go_upto_region 1 with fail;refine Zl ?_;refine tk (.agg #[.int .i64 k,.int .i64 i]) ?_;refine Jo (.slice (some ⟨w.heap.size+1,0,none⟩) 1 1) ((w.alloc (.cells #[.int .i64 k,.int .i64 i] 79)).alloc (.cells #[.int .i64 k,.int .i64 i] 79)) rfl (by go_simp) ?_;refine nm ?_;have HB1:Hid (Below w.heap.size w ((w.alloc (.cells #[.int .i64 k,.int .i64 i] 79)).alloc (.cells #[.int .i64 k,.int .i64 i] 79))):=Zh (((Below.refl w.heap.size w).alloc Zy _).alloc (by simp) _);generalize (w.alloc (.cells #[.int .i64 k,.int .i64 i] 79)).alloc (.cells #[.int .i64 k,.int .i64 i] 79)=w1 at *;refine tk (.agg #[.int .u32 0,.bool false,.slice (some ⟨w.heap.size+1,0,none⟩) 1 1]) ?_ (hr:=(J8 _ _ _ _ 300 _ rfl #[(2,.slice (some ⟨w.heap.size+1,0,none⟩) 1 1)] (by simp only [List.map_toArray,List.map_cons,List.map_nil];rfl) _ (run_build w1 300 _ _ (J5h _ _ _))));refine J0 rfl fun K hK=>?_;go_simp;refine (HE.out _ _ HM.out).mono ?_;rintro e w2 ⟨rfl,hb⟩;have HB2:=Zh (Jk HB1.out hb);clear hb HB1 HM HE;refine hK _ _ (nm ?_);clear hK K;refine tk (.tuple #[.agg (u8s x).toArray,.int .i64 e0]) ?_;refine tk (.agg (u8s x).toArray) ?_;refine tk (.int .i64 e0) ?_;refine J4 Kd rfl ?_;intro w3 hA hb hl;refine nm ?_;refine J3 (cs:=(u8s x).toArray) hA (by rw [J2,HS.out];rfl) (by rw [J2,HS.out];exact info36) (Jj _) rfl rfl rfl ?_;intro w4 hD hO hlD;refine nm ?_;have HB4:=Zh (HB2.trans ((hb.trans (hO.below hb.size fun k hk=>Nat.le_of_eq hk.symm)).mono HB2.size));clear hA hb hl hD hO hlD HB2;refine tk (.int .i64 e0) ?_;refine Zn ?_;have hg:=HG.out
 go_wp2_with fail
 go_ret;exact⟨rfl,HB4.out⟩
theorem J19(b:Bk)(sv:Value)(hw:b.Wf)(hs:Len sv b.bytes.length)(w:World):Calls Tryz.prog 162 #[.agg (b.arr sv)] w (Zr w (.bool b.isZ)):=by
 have HA:=Zh (BAt.box hw sv w);have HB:=Zh (box_below b sv w);have HHS:Hid ((Jq b.heads).toArray.size=8):=Zh (by simpa using hw.heads);have HPS:Hid ((u8s b.page).toArray.size=32):=Zh (by simpa using hw.page);have HE:=Zh fun w=>Jg6 w b.heads (zeros 8) hw.heads (J1 8);have HP:=Zh fun w=>J7z w b.page (zeros 32) hw.page (J1 32);obtain⟨a,cap,hs⟩:=hs;have c0:=HA.c0;have c1:=HA.c1;have c34:=HA.c34;have c35:=HA.c35.trans (congrArg some hs);have c36:=HA.c36;clear hs hw;refine (Decidable.em (b.kind=0)).symm.elim (fun h0=>?_) (fun h0=>?_)
 · skip
   go_enter Tryz.func162,Tryz.ntmps162
   go_wp2_with fail
   go_ret;exact⟨Jb (by simp [Bk.isZ,h0]),HB.out⟩
 refine (Decidable.em (b.id=0)).symm.elim (fun h1=>?_) (fun h1=>?_)
 · skip
   go_enter Tryz.func162,Tryz.ntmps162
   go_wp2_with fail
   go_ret;exact⟨Jb (by simp [Bk.isZ,h0,h1]),HB.out⟩
 refine (Decidable.em (b.page=zeros 32)).symm.elim (fun h2=>?_) (fun h2=>?_)
 · skip
   simp only [h2,decide_false] at HP;go_enter Tryz.func162,Tryz.ntmps162;go_upto_region 1 with fail;refine Zl ?_;refine tk (.pointer (some ⟨w.heap.size,0,none⟩)) ?_;refine tk (.int .i64 b.kind) ?_;refine tk (.bool true) ?_;refine tk (.bool true) ?_;refine tk (.pointer (some ⟨w.heap.size,1,none⟩)) ?_;refine tk (.int .i64 b.id) ?_;refine tk (.bool true) ?_;refine tk (.bool true) ?_;refine tk (.bool true) ?_;refine tk (.pointer (some ⟨w.heap.size,2,none⟩)) ?_;refine KX HA.page HPS.out rfl rfl ?_;refine nm ?_;refine Ji (QS _) rfl ?_;refine nm ?_;refine tk (.bool false) ?_ (hr:=by have hq:=HP.out;go_simp)
   go_wp2_with fail
   go_ret;exact⟨Jb (by simp [Bk.isZ,h0,h1,h2]),HB.out⟩
 refine (Decidable.em (b.off=0)).symm.elim (fun h3=>?_) (fun h3=>?_)
 · skip
   simp only [h2,decide_true] at HP;go_enter Tryz.func162,Tryz.ntmps162;go_upto_region 1 with fail;refine Zl ?_;refine tk (.pointer (some ⟨w.heap.size,0,none⟩)) ?_;refine tk (.int .i64 b.kind) ?_;refine tk (.bool true) ?_;refine tk (.bool true) ?_;refine tk (.pointer (some ⟨w.heap.size,1,none⟩)) ?_;refine tk (.int .i64 b.id) ?_;refine tk (.bool true) ?_;refine tk (.bool true) ?_;refine tk (.bool true) ?_;refine tk (.pointer (some ⟨w.heap.size,2,none⟩)) ?_;refine KX HA.page HPS.out rfl rfl ?_;refine nm ?_;refine Ji (QS _) rfl ?_;refine nm ?_;refine tk (.bool true) ?_ (hr:=by have hq:=HP.out;go_simp);refine tk (.bool true) ?_;refine tk (.bool true) ?_;refine tk (.pointer (some ⟨w.heap.size,34,none⟩)) ?_;refine tk (.int .i64 b.off) ?_;refine tk (.bool false) ?_
   go_wp2_with fail
   go_ret;exact⟨Jb (by simp [Bk.isZ,h0,h1,h2,h3]),HB.out⟩
 refine (Decidable.em (b.bytes.length=0)).symm.elim (fun h4=>?_) (fun h4=>?_)
 · skip
   simp only [h2,decide_true] at HP;go_enter Tryz.func162,Tryz.ntmps162;go_upto_region 1 with fail;refine Zl ?_;refine tk (.pointer (some ⟨w.heap.size,0,none⟩)) ?_;refine tk (.int .i64 b.kind) ?_;refine tk (.bool true) ?_;refine tk (.bool true) ?_;refine tk (.pointer (some ⟨w.heap.size,1,none⟩)) ?_;refine tk (.int .i64 b.id) ?_;refine tk (.bool true) ?_;refine tk (.bool true) ?_;refine tk (.bool true) ?_;refine tk (.pointer (some ⟨w.heap.size,2,none⟩)) ?_;refine KX HA.page HPS.out rfl rfl ?_;refine nm ?_;refine Ji (QS _) rfl ?_;refine nm ?_;refine tk (.bool true) ?_ (hr:=by have hq:=HP.out;go_simp);refine tk (.bool true) ?_;refine tk (.bool true) ?_;refine tk (.pointer (some ⟨w.heap.size,34,none⟩)) ?_;refine tk (.int .i64 b.off) ?_;refine tk (.bool true) ?_;refine tk (.bool true) ?_;refine tk (.bool true) ?_;refine tk (.pointer (some ⟨w.heap.size,35,none⟩)) ?_;refine tk (.slice a b.bytes.length cap) ?_;refine tk (.int .i64 b.bytes.length) ?_;refine tk (.bool false) ?_
   go_wp2_with fail
   go_ret;exact⟨Jb (by simp [Bk.isZ,h0,h1,h2,h3,h4]),HB.out⟩
 refine (Decidable.em (b.prev=0)).symm.elim (fun h5=>?_) (fun h5=>?_)
 · skip
   simp only [h2,decide_true] at HP;go_enter Tryz.func162,Tryz.ntmps162;go_upto_region 1 with fail;refine Zl ?_;refine tk (.pointer (some ⟨w.heap.size,0,none⟩)) ?_;refine tk (.int .i64 b.kind) ?_;refine tk (.bool true) ?_;refine tk (.bool true) ?_;refine tk (.pointer (some ⟨w.heap.size,1,none⟩)) ?_;refine tk (.int .i64 b.id) ?_;refine tk (.bool true) ?_;refine tk (.bool true) ?_;refine tk (.bool true) ?_;refine tk (.pointer (some ⟨w.heap.size,2,none⟩)) ?_;refine KX HA.page HPS.out rfl rfl ?_;refine nm ?_;refine Ji (QS _) rfl ?_;refine nm ?_;refine tk (.bool true) ?_ (hr:=by have hq:=HP.out;go_simp);refine tk (.bool true) ?_;refine tk (.bool true) ?_;refine tk (.pointer (some ⟨w.heap.size,34,none⟩)) ?_;refine tk (.int .i64 b.off) ?_;refine tk (.bool true) ?_;refine tk (.bool true) ?_;refine tk (.bool true) ?_;refine tk (.pointer (some ⟨w.heap.size,35,none⟩)) ?_;refine tk (.slice a b.bytes.length cap) ?_;refine tk (.int .i64 b.bytes.length) ?_;refine tk (.bool true) ?_;refine tk (.bool true) ?_;refine tk (.bool true) ?_;refine tk (.pointer (some ⟨w.heap.size,36,none⟩)) ?_;refine tk (.int .i64 b.prev) ?_;refine tk (.bool false) ?_
   go_wp2_with fail
   go_ret;exact⟨Jb (by simp [Bk.isZ,h0,h1,h2,h3,h4,h5]),HB.out⟩
 refine (Decidable.em (b.heads=zeros 8)).symm.elim (fun h6=>?_) (fun h6=>?_)
 · skip
   simp only [h2,decide_true] at HP;simp only [h6,decide_false] at HE;go_enter Tryz.func162,Tryz.ntmps162;go_upto_region 1 with fail;refine Zl ?_;refine tk (.pointer (some ⟨w.heap.size,0,none⟩)) ?_;refine tk (.int .i64 b.kind) ?_;refine tk (.bool true) ?_;refine tk (.bool true) ?_;refine tk (.pointer (some ⟨w.heap.size,1,none⟩)) ?_;refine tk (.int .i64 b.id) ?_;refine tk (.bool true) ?_;refine tk (.bool true) ?_;refine tk (.bool true) ?_;refine tk (.pointer (some ⟨w.heap.size,2,none⟩)) ?_;refine KX HA.page HPS.out rfl rfl ?_;refine nm ?_;refine Ji (QS _) rfl ?_;refine nm ?_;refine tk (.bool true) ?_ (hr:=by have hq:=HP.out;go_simp);refine tk (.bool true) ?_;refine tk (.bool true) ?_;refine tk (.pointer (some ⟨w.heap.size,34,none⟩)) ?_;refine tk (.int .i64 b.off) ?_;refine tk (.bool true) ?_;refine tk (.bool true) ?_;refine tk (.bool true) ?_;refine tk (.pointer (some ⟨w.heap.size,35,none⟩)) ?_;refine tk (.slice a b.bytes.length cap) ?_;refine tk (.int .i64 b.bytes.length) ?_;refine tk (.bool true) ?_;refine tk (.bool true) ?_;refine tk (.bool true) ?_;refine tk (.pointer (some ⟨w.heap.size,36,none⟩)) ?_;refine tk (.int .i64 b.prev) ?_;refine tk (.bool true) ?_;refine tk (.bool true) ?_;refine tk (.bool true) ?_;refine tk (.pointer (some ⟨w.heap.size,37,none⟩)) ?_;refine XI HA.heads HHS.out rfl rfl ?_;refine nm ?_;refine Ji (kq _) rfl ?_;refine nm ?_;refine tk (.bool false) ?_ (hr:=by have hq:=HE.out;go_simp)
   go_wp2_with fail
   go_ret;exact⟨Jb (by simp [Bk.isZ,h0,h1,h2,h3,h4,h5,h6]),HB.out⟩
 simp only [h2,h6,decide_true] at HP HE;go_enter Tryz.func162,Tryz.ntmps162;go_upto_region 1 with fail;refine Zl ?_;refine tk (.pointer (some ⟨w.heap.size,0,none⟩)) ?_;refine tk (.int .i64 b.kind) ?_;refine tk (.bool true) ?_;refine tk (.bool true) ?_;refine tk (.pointer (some ⟨w.heap.size,1,none⟩)) ?_;refine tk (.int .i64 b.id) ?_;refine tk (.bool true) ?_;refine tk (.bool true) ?_;refine tk (.bool true) ?_;refine tk (.pointer (some ⟨w.heap.size,2,none⟩)) ?_;refine KX HA.page HPS.out rfl rfl ?_;refine nm ?_;refine Ji (QS _) rfl ?_;refine nm ?_;refine tk (.bool true) ?_ (hr:=by have hq:=HP.out;go_simp);refine tk (.bool true) ?_;refine tk (.bool true) ?_;refine tk (.pointer (some ⟨w.heap.size,34,none⟩)) ?_;refine tk (.int .i64 b.off) ?_;refine tk (.bool true) ?_;refine tk (.bool true) ?_;refine tk (.bool true) ?_;refine tk (.pointer (some ⟨w.heap.size,35,none⟩)) ?_;refine tk (.slice a b.bytes.length cap) ?_;refine tk (.int .i64 b.bytes.length) ?_;refine tk (.bool true) ?_;refine tk (.bool true) ?_;refine tk (.bool true) ?_;refine tk (.pointer (some ⟨w.heap.size,36,none⟩)) ?_;refine tk (.int .i64 b.prev) ?_;refine tk (.bool true) ?_;refine tk (.bool true) ?_;refine tk (.bool true) ?_;refine tk (.pointer (some ⟨w.heap.size,37,none⟩)) ?_;refine XI HA.heads HHS.out rfl rfl ?_;refine nm ?_;refine Ji (kq _) rfl ?_;refine nm ?_;refine tk (.bool true) ?_ (hr:=by have hq:=HE.out;go_simp);refine tk (.bool true) ?_
 go_wp2_with fail
 go_ret;exact⟨Jb (by simp [Bk.isZ,h0,h1,h2,h3,h4,h5,h6]),HB.out⟩
abbrev It.box(x:It)(sv:Value)(w:World):World:=w.alloc (.cells (x.arr sv) 84)
theorem ItAt.box{x:It}(h:x.Wf)(sv:Value)(w:World):ItAt (x.box sv w) w.heap.size 0 x sv:=ItAt.of (by
 have hb:=Blk.new w (x.arr sv) 84
 exact hb.all rfl)
theorem Z9(x:It)(sv:Value)(w:World):Below w.heap.size w (x.box sv w):=Zq.alloc Zy _
theorem ItAt.c2{off:Nat}{x:It}(h:ItAt w g off x sv):w.cell? ⟨g,off+2,none⟩=some (.int .i64 x.blk.kind):=by
 have:=h.blk 0 (by simp [Bk.arr,Bk.cells]);simpa [Bk.arr,Bk.cells] using this
theorem ItAt.c3{off:Nat}{x:It}(h:ItAt w g off x sv):w.cell? ⟨g,off+3,none⟩=some (.int .i64 x.blk.id):=by
 have:=h.blk 1 (by simp [Bk.arr,Bk.cells]);simpa [Bk.arr,Bk.cells] using this
def It.suits(x:It)(v:Bool):Bool:=if v then decide (x.blk.kind=x.mark.1)&&decide (x.blk.id=x.mark.2)&&x.blk.good else x.blk.isZ
theorem qR(x:It)(sv:Value)(v:Bool)(hw:x.Wf)(hs:Len sv x.blk.bytes.length)(w:World):Calls Tryz.prog 137 #[.agg (x.arr sv),.bool v] w (Zr w (.bool (x.suits v))):=by
 have HA:=Zh (ItAt.box hw sv w);have HB:=Zh (Z9 x sv w);have HZ:=Zh fun w=>J19 x.blk sv hw.b hs w;have HG:=Zh fun w=>QT x.blk sv hs hw.b w;have HS:=Zh (x.blk.arr_size hw.b sv);have c0:(x.box sv w).cell? ⟨w.heap.size,0,none⟩=some (.int .i64 x.mark.1):=HA.c0;have c1:(x.box sv w).cell? ⟨w.heap.size,1,none⟩=some (.int .i64 x.mark.2):=HA.c1;have c2:(x.box sv w).cell? ⟨w.heap.size,2,none⟩=some (.int .i64 x.blk.kind):=HA.c2;have c3:(x.box sv w).cell? ⟨w.heap.size,3,none⟩=some (.int .i64 x.blk.id):=HA.c3;clear hw hs;cases v
 · have HX:Hid (x.suits false=x.blk.isZ):=Zh rfl;rw [HX.out];clear c0 c1 c2 c3 HG;go_enter Tryz.func137,Tryz.ntmps137;go_upto_region 2 with fail;refine Zl ?_;refine tk (.pointer (some ⟨w.heap.size,2,none⟩)) ?_;refine JJ HA.blk HS.out rfl rfl ?_;refine nm ?_;refine J0 rfl fun K hK=>?_;go_simp;refine (HZ.out _).mono ?_;rintro e w2 ⟨rfl,hb⟩;have HB2:=Zh (Jk HB.out hb);clear hb;refine hK _ _ (nm ?_);clear hK K;refine tk (.bool x.blk.isZ) ?_;go_wp2_with fail
   go_ret;exact⟨rfl,HB2.out⟩
 refine (Decidable.em (x.blk.kind=x.mark.1)).symm.elim (fun h0=>?_) (fun h0=>?_)
 · go_enter Tryz.func137,Tryz.ntmps137
   go_wp2_with fail
   go_ret;exact⟨Jb (by simp [It.suits,h0]),HB.out⟩
 refine (Decidable.em (x.blk.id=x.mark.2)).symm.elim (fun h1=>?_) (fun h1=>?_)
 · go_enter Tryz.func137,Tryz.ntmps137
   go_wp2_with fail
   go_ret;exact⟨Jb (by simp [It.suits,h1]),HB.out⟩
 have HX:Hid (x.suits true=x.blk.good):=Zh (by simp [It.suits,h0,h1]);rw [HX.out];rw [h0] at c2;rw [h1] at c3;clear h0 h1 HX;go_enter Tryz.func137,Tryz.ntmps137;go_upto_region 3 with fail;refine Zl ?_;refine tk (.pointer (some ⟨w.heap.size,2,none⟩)) ?_;refine tk (.pointer (some ⟨w.heap.size,2,none⟩)) ?_;refine tk (.int .i64 x.mark.1) ?_;refine tk (.pointer (some ⟨w.heap.size,0,none⟩)) ?_;refine tk (.pointer (some ⟨w.heap.size,0,none⟩)) ?_;refine tk (.int .i64 x.mark.1) ?_;refine tk (.bool true) ?_;refine tk (.bool true) ?_;refine tk (.pointer (some ⟨w.heap.size,2,none⟩)) ?_;refine tk (.pointer (some ⟨w.heap.size,3,none⟩)) ?_;refine tk (.int .i64 x.mark.2) ?_;refine tk (.pointer (some ⟨w.heap.size,0,none⟩)) ?_;refine tk (.pointer (some ⟨w.heap.size,1,none⟩)) ?_;refine tk (.int .i64 x.mark.2) ?_;refine tk (.bool true) ?_;refine tk (.bool true) ?_;refine tk (.bool true) ?_;refine tk (.pointer (some ⟨w.heap.size,2,none⟩)) ?_;refine JJ HA.blk HS.out rfl rfl ?_;refine nm ?_;clear c0 c1 c2 c3;refine J0 rfl fun K hK=>?_;go_simp;refine (HG.out _).mono ?_;rintro e w2 ⟨rfl,hb⟩;have HB2:=Zh (Jk HB.out hb);clear hb;refine hK _ _ (nm ?_);clear hK K;refine tk (.bool x.blk.good) ?_;refine tk (.bool x.blk.good) ?_;go_wp2_with fail
 go_ret;exact⟨rfl,HB2.out⟩
theorem Yv(sv:Value)(n:Nat)(hs:Len sv n)(hn:n≤1000000)(w:World):Calls Tryz.prog 111 #[sv] w fun e w'=>e=.returned (.int .i64 (parts n))∧w=w':=by
 obtain⟨a,c,rfl⟩:=hs;have e:Hid (((parts n:Nat):Int)=((n:Int)+24-1)/24):=Zh (by unfold parts;omega);rw [e.out];go_enter Tryz.func111,Tryz.ntmps111
 go_wp2_with fail
 go_ret;exact⟨rfl,rfl⟩
def tkn(l:List It):List Bool:=(List.range 72).map fun (s:Nat)=>l.any fun x=>decide (Kt x.mark=s)
abbrev bls(l:List Bool):List Value:=l.map Value.bool
theorem J1a(p:List It):(tkn p).length=72:=by simp [tkn]
theorem xV(p:List It){s:Nat}(h:s<72):(tkn p)[s]? = some (p.any fun x=>decide (Kt x.mark=s)):=by simp [tkn,h]
theorem J8o(p:List It)(x:It)(s:Nat)(hs:Kt x.mark=s)(h:s<72):(tkn p).set s true=tkn (p++[x]):=by
 apply List.ext_getElem?;intro i
 by_cases hi:i<72
 · rw [xV _ hi,List.getElem?_set,J1a,xV _ hi]
   by_cases e:s=i
   · subst e;simp [h,hs]
   · have:¬((s:Int)=(i:Int)):=by omega
     simp [e,hs,this]
 · rw [List.getElem?_eq_none (by simp [tkn];omega),List.getElem?_eq_none (by simp [tkn];omega)]
theorem Jd4:tkn []=List.replicate 72 false:=by decide
def J1b(l:List It)(k:Nat):Prop:=(∀x∈l.take k,x.ok=true)∧(Xd (l.take k)).Nodup
theorem J5i(l:List It):J1b l 0:=⟨fun x hx=>by simp at hx,by simp [Xd]⟩
theorem take_snoc{l:List It}{x:It}(hx:l[k]? = some x):l.take (k+1)=l.take k++[x]:=by rw [List.take_add_one,hx];rfl
theorem J5j{l:List It}{x:It}(h:J1b l k)(hx:l[k]? = some x)(ho:x.ok=true)(hn:((l.take k).any fun y=>decide (Kt y.mark=Kt x.mark))=false):J1b l (k+1):=by
 unfold J1b;rw [take_snoc hx];refine⟨fun y hy=>?_,?_⟩
 · rcases List.mem_append.1 hy with hy|hy
   · exact h.1 y hy
   · obtain rfl:=List.mem_singleton.1 hy;exact ho
 · rw [Xd,List.map_append,List.nodup_append];refine⟨h.2,by simp,fun a ha b hb=>?_⟩;obtain⟨y,hy,rfl⟩:=List.mem_map.1 ha;simp at hb;subst hb;intro e;have:((l.take k).any fun y=>decide (Kt y.mark=Kt x.mark))=true:=List.any_eq_true.2 ⟨y,hy,decide_eq_true e⟩;rw [hn] at this;cases this
theorem Jg9{l:List It}{x:It}(hx:l[k]? = some x)(ho:x.ok=false):JH l=false:=by
 rw [←Bool.not_eq_true,JK];rintro ⟨-,-,h,-⟩;have:=h x (List.mem_of_getElem? hx);rw [ho] at this;cases this
theorem J8p{l:List It}{x:It}(hx:l[k]? = some x)(hn:((l.take k).any fun y=>decide (Kt y.mark=Kt x.mark))=true):JH l=false:=by
 rw [←Bool.not_eq_true,JK];rintro ⟨-,-,-,h⟩;have h2:(Xd (l.take (k+1))).Nodup:=by
  have:Xd (l.take (k+1))=(Xd l).take (k+1):=by simp [Xd,List.map_take]
  rw [this];exact h.sublist (List.take_sublist _ _)
 rw [take_snoc hx,Xd,List.map_append,List.nodup_append] at h2;obtain⟨y,hy,e⟩:=List.any_eq_true.1 hn;exact h2.2.2 _ (List.mem_map.2 ⟨y,hy,rfl⟩) (Kt x.mark) (by simp) (of_decide_eq_true e)
theorem Jd5{l:List It}(h1:1≤l.length)(h2:l.length≤64)(h:J1b l l.length):JH l=true:=by
 unfold J1b at h;rw [List.take_length] at h;exact JK.2 ⟨h1,h2,h⟩
theorem Jd6:(Tryz.prog.info? 262).bind (·.zero)=some (.agg (bls (List.replicate 72 false)).toArray):=by kernel_rfl
theorem jo(l:List (It×Value))(n:Nat)(hn:l.length=n)(sv:Value)(hlen:n≤1000000)(w:World)(h:ItemsAt w sv l):Calls Tryz.prog 110 #[sv] w fun e w'=>e=.returned (.bool (JH (l.map (·.1))))∧Below w.heap.size w w':=by
 obtain⟨L,hL⟩:∃L,l.map (·.1)=L:=⟨_,rfl⟩
 have hLn:L.length=n:=by rw [←hL,List.length_map,hn]
 rw [hL]
 by_cases h1:n<1
 · obtain⟨a,cap,rfl,-⟩:=h;have HX:Hid (JH L=false):=Zh (by rw [←Bool.not_eq_true,JK];omega);rw [HX.out,hn];have d1:decide ((n:Int)<1)=true:=decide_eq_true (by omega);clear hn hL hLn h1;go_enter Tryz.func110,Tryz.ntmps110
   go_wp2_with fail
   go_ret;exact⟨rfl,Below.refl _ _⟩
 by_cases h2:64<n
 · obtain⟨a,cap,rfl,-⟩:=h;have HX:Hid (JH L=false):=Zh (by rw [←Bool.not_eq_true,JK];omega);rw [HX.out,hn];have d1:decide ((n:Int)<1)=false:=decide_eq_false (by omega);have d2:decide (64<(n:Int))=true:=decide_eq_true (by omega);clear hn hL hLn h1 h2;go_enter Tryz.func110,Tryz.ntmps110
   go_wp2_with fail
   go_ret;exact⟨rfl,Below.refl _ _⟩
 obtain⟨g,o,cap,rfl,hcap,hg,hc⟩:=h.has (by omega);rw [hn];have d1:decide ((n:Int)<1)=false:=decide_eq_false (by omega);have d2:decide (64<(n:Int))=false:=decide_eq_false (by omega);have HC:=Zh hc;have HG:=Zh hg;have HL:=Zh hL;have HLN:=Zh hLn;have HN:=Zh hn;have hn64:(n:Int)≤64:=by omega
 have HN1:Hid (1≤n):=Zh (by omega);clear hc hg hL hLn hn h1 h2 h hcap hlen;go_enter Tryz.func110,Tryz.ntmps110;go_upto_region 3 with fail;refine Zl ?_;refine J4 Jd6 rfl ?_;intro w0 hT hb0 hl0;refine nm ?_;have HT0:=Zh hT;have HB0:=Zh hb0;have HL0:=Zh hl0;clear hT hb0 hl0;go_wp2_with fail
 go_loopg [18] n (fun q i wr=>∃k:Nat,n-k≤q∧k≤n∧i=.int .i64 k∧J1b L k∧Blk wr w.heap.size (bls (tkn (L.take k)))∧Below w.heap.size w wr)
 case atStart=>exact⟨0,by omega,by omega,rfl,J5i L,by rw [List.take_zero,Jd4];exact HT0.out,HB0.out⟩
 case round =>
  obtain⟨k,hq,hk,rfl,hok,hblk,hb⟩:=hrel;have HOK:=Zh hok;have HBK:=Zh hblk;have HB:=Zh hb;clear hok hblk hb HT0 HB0 HL0
  by_cases hlt:k<n
  · obtain⟨xv,hx⟩:∃x,l[k]? = some x:=⟨_,List.getElem?_eq_getElem (by have:=HN.out;omega)⟩
    obtain⟨x,bv⟩:=xv;obtain⟨x1,x2,x3⟩:=HC.out k _ hx;have HLX:Hid (L[k]? = some x):=Zh (by rw [←HL.out,List.getElem?_map,hx];rfl);have HW:=Zh x1;have HLE:=Zh x2.len;have HX:=Zh (x3.below HB.out HG.out);have HM:=Zh fun w=>J18 x.mark x1.k x1.i w;have HF:=Zh fun v w=>qR x bv v x1 x2.len w;have gk:decide ((k:Int)<(n:Int))=true:=decide_eq_true (by omega);have hk0:(k:Int)<(n:Int):=by omega
    clear x1 x2 x3 hx;go_upto_region 6 with fail;refine Zl ?_;refine tk (.pointer (some ⟨g,o+k*47,none⟩)) ?_;refine kS HX.out (x.arr_size HW.out bv) rfl rfl ?_;refine nm ?_;refine J4 ZK rfl ?_;intro w1 hA hb hl;refine nm ?_;refine J3 (cs:=x.arr bv) hA (xR It.none_wf HW.out _ _) (ZL HW.out _) (It.arr_one (Qp HLE.out)) rfl rfl rfl ?_;intro w2 hD hO hlD;refine nm ?_;have hbb:Below wr.heap.size wr w2:=hb.trans (hO.below hb.size fun k hk=>Nat.le_of_eq hk.symm);have HB2:=Zh (Jk HB.out hbb);have HK2:=Zh (HBK.below hbb HBK.lt);have HA2:=Zh (ItAt.of (x:=x) (sv:=bv) (w:=w2) (g:=wr.heap.size) (off:=0) (hD.all rfl));have HLT:Hid (wr.heap.size<w2.heap.size):=Zh (by omega);have HNE:Hid (w.heap.size≠wr.heap.size):=Zh (by have:=HBK.lt;omega);generalize wr.heap.size=t at *;clear hA hb hl hD hO hlD hbb HX HB HBK;refine Zn ?_;have c0:w2.cell? ⟨t,0,none⟩=some (.int .i64 x.mark.1):=HA2.c0;have c1:w2.cell? ⟨t,1,none⟩=some (.int .i64 x.mark.2):=HA2.c1
    go_wp2_with fail
    refine (HM.out _).mono ?_;rintro e w3 ⟨rfl,hb⟩;have HB3:=Zh (Jk HB2.out hb);have HK3:=Zh (HK2.below hb HK2.lt);have HA3:=Zh (HA2.below hb HLT.out);have HLT3:Hid (t<w3.heap.size):=Zh (Nat.lt_of_lt_of_le HLT.out hb.size);clear hb HB2 HK2 HA2 HLT c0 c1 HM;cases hm:Kf x.mark
    · have HX:Hid (JH L=false):=Zh (Jg9 HLX.out (by unfold It.ok;rw [hm];rfl))
      go_wp2_with fail
      go_ret;exact⟨Jb HX.symm,HB3.out⟩
    have HTE:=Zh fun w=>kT x.mark hm w;obtain⟨hs1,hs2⟩:=J15 hm;have HMK:=Zh hm;obtain⟨s,hs⟩:∃s:Nat,Kt x.mark=s:=⟨(Kt x.mark).toNat,by omega⟩
    have HSL:=Zh hs;rw [hs] at HTE hs1 hs2;have c0:w3.cell? ⟨t,0,none⟩=some (.int .i64 x.mark.1):=HA3.c0;have c1:w3.cell? ⟨t,1,none⟩=some (.int .i64 x.mark.2):=HA3.c1;clear hm hs
    go_wp2_with fail
    refine (HTE.out _).mono ?_;rintro e w4 ⟨rfl,hb⟩;have HB4:=Zh (Jk HB3.out hb);have HK4:=Zh (HK3.below hb HK3.lt);have HA4:=Zh (HA3.below hb HLT3.out);have HLT4:Hid (t<w4.heap.size):=Zh (Nat.lt_of_lt_of_le HLT3.out hb.size);clear hb HB3 HK3 HA3 HLT3 c0 c1 HTE;have ct:w4.cell? ⟨w.heap.size,s,none⟩=some (.bool ((L.take k).any fun x=>decide (Kt x.mark=s))):=HK4.cell (by rw [List.getElem?_map,xV _ (by omega)];rfl);obtain⟨tk,htk⟩:∃v,((L.take k).any fun x=>decide (Kt x.mark=s))=v:=⟨_,rfl⟩
    rw [htk] at ct;have HTK:=Zh htk;clear htk;cases tk
    case true =>
     have HX:Hid (JH L=false):=Zh (J8p HLX.out (by rw [HSL.out];exact HTK.out))
     go_wp2_with fail
     go_ret;exact⟨Jb HX.symm,HB4.out⟩
    have cf:w4.frozen? ⟨w.heap.size,s,none⟩=false:=HK4.frozen s;go_upto_region 10 with fail;refine Zl ?_;refine tk (.int .i64 s) ?_;refine tk (.pointer (some ⟨w.heap.size,s,none⟩)) ?_;refine tk (.bool false) ?_;refine tk (.bool false) ?_;refine kS HA4.all (x.arr_size HW.out bv) rfl rfl ?_;refine nm ?_;refine tk (.bool (JE x.mark.1)) ?_;refine J0 rfl fun K hK=>?_;go_simp;refine (HF.out _ _).mono ?_;rintro e w5 ⟨rfl,hb⟩;have HB5:=Zh (Jk HB4.out hb);have HK5:=Zh (HK4.below hb HK4.lt);clear hb HB4 HK4 HA4 HLT4 ct cf HF;have HSU:Hid (x.suits (JE x.mark.1)=x.fits):=Zh rfl;refine hK _ _ (nm ?_);clear hK K;rw [HSU.out];cases hf:x.fits
    · have HX:Hid (JH L=false):=Zh (Jg9 HLX.out (by unfold It.ok;rw [hf,Bool.and_false]));refine tk (.bool true) ?_;refine tk (.bool true) ?_;go_wp2_with fail
      go_ret;exact⟨Jb HX.symm,HB5.out⟩
    have HOKX:Hid (x.ok=true):=Zh (by unfold It.ok;rw [hf,HMK.out];rfl);have HST:=Zh (J5j HOK.out HLX.out HOKX.out (by rw [HSL.out];exact HTK.out));have HK6:Hid (Blk (w5.setCell ⟨w.heap.size,s,none⟩ (.bool true)) w.heap.size (bls (tkn (L.take (k+1))))):=Zh (by
     have:=HK5.set s (.bool true)
     rw [take_snoc HLX.out,←J8o _ x s HSL.out (by omega)]
     simpa [bls,List.map_set] using this)
    have HB6:Hid (Below w.heap.size w (w5.setCell ⟨w.heap.size,s,none⟩ (.bool true))):=Zh ⟨HB5.os,HB5.tape,HB5.output,by simpa using HB5.size,fun i hi=>(heap_setCell_other w5 ⟨w.heap.size,s,none⟩ i _ (by simp;omega)).trans (HB5.block i hi)⟩;have ct:w5.cell? ⟨w.heap.size,s,none⟩=some (.bool false):=HK5.cell (by rw [List.getElem?_map,xV _ (by omega),HTK.out];rfl);have cf:w5.frozen? ⟨w.heap.size,s,none⟩=false:=HK5.frozen s;clear hf;refine tk (.bool false) ?_;refine tk (.bool false) ?_;go_wp2_with fail
    go_roundg (n-(k+1))
    case measure=>omega
    case rel=>exact⟨k+1,by omega,by omega,by go_num,HST.out,HK6.out,HB6.out⟩
  · obtain rfl:k=n:=by omega
    have HX:Hid (JH L=true):=Zh (Jd5 (by have:=HLN.out;have:=HN1.out;omega) (by have:=HLN.out;omega) (by have:=HLN.out;rw [this];exact HOK.out));have gk:decide ((k:Int)<(k:Int))=false:=decide_eq_false (by omega)
    go_wp2_with fail
    go_ret;exact⟨Jb HX.symm,HB.out⟩
theorem J5k{ms:List Mk}{m:Mk}(hk:k<n)(hm:ms.length=k):((flat ms++zeros ((n-k)*2)).set (k*2) m.1).set (k*2+1) m.2=flat (ms++[m])++zeros ((n-(k+1))*2):=by
 have hz:zeros ((n-k)*2)=0::0::zeros ((n-(k+1))*2):=by
  rw [show (n-k)*2=(n-(k+1))*2+1+1 by omega];rfl
 have hf:(flat ms).length=k*2:=by rw [Ka,hm];omega
 rw [hz,Yq,List.set_append_right _ _ (by omega),List.set_append_right _ _ (by omega),hf,Nat.sub_self,show k*2+1-k*2=1 by omega];simp [flat]
theorem Jgv(n:Nat)(hn:n<100000)(w:World):(Instr.makeSlice 297 (.int .i64 n) (.int .i64 n)).run Tryz.prog w=.ok (.slice (some ⟨w.heap.size,0,none⟩) n n) (w.alloc (.cells (madeCells #[.int .i64 0,.int .i64 0] (n*2)) 79)):=by
 obtain⟨i,hi,hz,hs,hb⟩:=Jix;have hr:=run_makeSlice (P:=Tryz.prog) w 297 79 i (.agg #[.int .i64 0,.int .i64 0]) Tryz.underlying297 hi hz .i64 .i64 n n (by omega) (Int.le_refl _) (by rw [hs];omega) (by rw [hb];omega) (by omega);simpa [hs,Value.cells] using hr
theorem J1c{L:List It}{x:It}(hx:L[k]? = some x):marks (L.take (k+1))=marks (L.take k)++[x.mark]:=by rw [take_snoc hx];simp [marks]
theorem J1d(l:List (It×Value))(L:List It)(hL:l.map (·.1)=L)(n:Nat)(hn:l.length=n)(sv:Value)(hlen:n<100000)(w:World)(h:ItemsAt w sv l):Calls Tryz.prog 161 #[sv] w fun e w'=>∃cap,e=.returned (.slice (some ⟨w.heap.size,0,none⟩) n cap)∧MarksAt w' (.slice (some ⟨w.heap.size,0,none⟩) n cap) (marks L)∧Below w.heap.size w w':=by
 have hLn:L.length=n:=by rw [←hL,List.length_map,hn]
 obtain⟨a,cap,rfl,hcap,hc⟩:=h;rw [hn];have HC:=Zh hc;have HL:=Zh hL;have HLN:=Zh hLn;have HN:=Zh hn;have hmk:=Jgv n hlen w;clear hc hL hLn hn hcap;go_enter Tryz.func161,Tryz.ntmps161;go_upto_region 1 with fail
 go_wp2_with fail
 have HT0:Hid (Blk (w.alloc (.cells (madeCells #[.int .i64 0,.int .i64 0] (n*2)) 79)) w.heap.size (Jq (zeros (n*2)))):=Zh (by
  have:=Blk.new w (madeCells #[.int .i64 0,.int .i64 0] (n*2)) 79
  rwa [Xc] at this)
 have HB0:Hid (Below w.heap.size w (w.alloc (.cells (madeCells #[.int .i64 0,.int .i64 0] (n*2)) 79))):=Zh (Zq.alloc Zy _)
 go_loopg [11] n (fun q i wr=>∃k:Nat,n-k≤q∧k≤n∧i=.int .i64 k∧Blk wr w.heap.size (Jq (flat (marks (L.take k))++zeros ((n-k)*2)))∧Below w.heap.size w wr)
 case atStart=>exact⟨0,by omega,by omega,rfl,HT0.out,HB0.out⟩
 case round =>
  obtain⟨k,hq,hk,rfl,hblk,hb⟩:=hrel;have HBK:=Zh hblk;have HB:=Zh hb;clear hblk hb HT0 HB0 hmk
  by_cases hlt:k<n
  · obtain⟨xv,hx⟩:∃x,l[k]? = some x:=⟨_,List.getElem?_eq_getElem (by have:=HN.out;omega)⟩
    obtain⟨x,bv⟩:=xv;obtain⟨x1,x2,g,o,rfl,x3⟩:=HC.out k _ hx;have HLX:Hid (L[k]? = some x):=Zh (by rw [←HL.out,List.getElem?_map,hx];rfl);have HW:=Zh x1;have HLE:=Zh x2.len;have HX:=Zh (x3.below HB.out (x3.lt (by rw [It.arr_size x1];decide)));have gk:decide ((k:Int)<(n:Int))=true:=decide_eq_true (by omega);have hk0:(k:Int)<(n:Int):=by omega
    clear x1 x2 x3 hx;go_upto_region 4 with fail;refine Zl ?_;refine tk (.int .i64 k) ?_;refine tk (.pointer (some ⟨g,o+k*47,none⟩)) ?_;refine kS HX.out (x.arr_size HW.out bv) rfl rfl ?_;refine nm ?_;refine J4 ZK rfl ?_;intro w1 hA hb hl;refine nm ?_;refine tk (.int .i64 k) ?_;refine J3 (cs:=x.arr bv) hA (xR It.none_wf HW.out _ _) (ZL HW.out _) (It.arr_one (Qp HLE.out)) rfl rfl rfl ?_;intro w2 hD hO hlD;refine nm ?_;have hbb:Below wr.heap.size wr w2:=hb.trans (hO.below hb.size fun k hk=>Nat.le_of_eq hk.symm);have HB2:=Zh (Jk HB.out hbb);have HK2:=Zh (HBK.below hbb HBK.lt);have HA2:=Zh (ItAt.of (x:=x) (sv:=bv) (w:=w2) (g:=wr.heap.size) (off:=0) (hD.all rfl));have HNE:Hid (w.heap.size≠wr.heap.size):=Zh (by have:=HBK.lt;omega);generalize wr.heap.size=t at *;clear hA hb hl hD hO hlD hbb HX HB HBK;refine Zn ?_;have c0:w2.cell? ⟨t,0,none⟩=some (.int .i64 x.mark.1):=HA2.c0;have c1:w2.cell? ⟨t,1,none⟩=some (.int .i64 x.mark.2):=HA2.c1;have hz:(flat (marks (L.take k))++zeros ((n-k)*2)).length=n*2:=by
     rw [List.length_append,Ka,J1,List.length_map,List.length_take,HLN.out];omega
    have hd0:∃v,(Jq (flat (marks (L.take k))++zeros ((n-k)*2)))[k*2]? = some v:=⟨_,List.getElem?_eq_getElem (by rw [List.length_map,hz];omega)⟩
    have hd1:∃v,(Jq (flat (marks (L.take k))++zeros ((n-k)*2)))[k*2+1]? = some v:=⟨_,List.getElem?_eq_getElem (by rw [List.length_map,hz];omega)⟩
    obtain⟨v0,hd0⟩:=hd0;obtain⟨v1,hd1⟩:=hd1;have p0:w2.cell? ⟨w.heap.size,k*2,none⟩=some v0:=HK2.cell hd0;have p1:w2.cell? ⟨w.heap.size,k*2+1,none⟩=some v1:=HK2.cell hd1;have f0:w2.frozen? ⟨w.heap.size,k*2,none⟩=false:=HK2.frozen _;have f1:w2.frozen? ⟨w.heap.size,k*2+1,none⟩=false:=HK2.frozen _;have HK6:Hid (Blk ((w2.setCell ⟨w.heap.size,k*2,none⟩ (.int .i64 x.mark.1)).setCell ⟨w.heap.size,k*2+1,none⟩ (.int .i64 x.mark.2)) w.heap.size (Jq (flat (marks (L.take (k+1)))++zeros ((n-(k+1))*2)))):=Zh (by
     have:=(HK2.set (k*2) (.int .i64 x.mark.1)).set (k*2+1) (.int .i64 x.mark.2)
     rw [J1c HLX.out,←J5k hlt (m:=x.mark) (by rw [List.length_map,List.length_take,HLN.out];omega)]
     simpa [Jq,List.map_set] using this)
    have HB6:Hid (Below w.heap.size w ((w2.setCell ⟨w.heap.size,k*2,none⟩ (.int .i64 x.mark.1)).setCell ⟨w.heap.size,k*2+1,none⟩ (.int .i64 x.mark.2))):=Zh ⟨HB2.os,HB2.tape,HB2.output,by simpa using HB2.size,fun i hi=>((heap_setCell_other _ ⟨w.heap.size,k*2+1,none⟩ i _ (by simp;omega)).trans (heap_setCell_other w2 ⟨w.heap.size,k*2,none⟩ i _ (by simp;omega))).trans (HB2.block i hi)⟩;clear hd0 hd1 hz
    go_wp2_with fail
    go_roundg (n-(k+1))
    case measure=>omega
    case rel=>exact⟨k+1,by omega,by omega,by go_num,HK6.out,HB6.out⟩
  · obtain rfl:k=n:=by omega
    have HM:Hid (MarksAt wr (.slice (some ⟨w.heap.size,0,none⟩) k k) (marks L)):=Zh (by
     have:=HBK.out
     rw [Nat.sub_self,Nat.zero_mul,List.take_of_length_le (by have:=HLN.out;omega)] at this
     exact MarksAt.of_row (by simpa [zeros] using this) (by rw [List.length_map];exact HLN.out))
    have gk:decide ((k:Int)<(k:Int))=false:=decide_eq_false (by omega)
    go_wp2_with fail
    go_ret;exact⟨_,rfl,HM.out,HB.out⟩
theorem J5l(n:Int)(b:Bool)(a:Option Addr)(k c:Nat):Tryz.prog.built 300 [(0,.int .u32 n),(1,.bool b),(2,.slice a k c)]=some #[.int .u32 n,.bool b,.slice a k c]:=by kernel_rfl
theorem z7{l:List (It×Value)}(h:ItemsAt w sv l):∀m∈marks (l.map (·.1)),Jh m.1∧Jh m.2:=fun m hm=>by
 obtain⟨x,hx,rfl⟩:=List.mem_map.1 hm;exact⟨(h.wf x hx).k,(h.wf x hx).i⟩
theorem z8(l:List (It×Value))(L:List It)(hL:l.map (·.1)=L)(sv:Value)(hlen:l.length<100000)(n:Int)(hn:Kh n)(m:Bool)(w:World)(h:ItemsAt w sv l):Calls Tryz.prog 133 #[.int .u32 n,.bool m,sv] w (Zr w (.agg (u8s (JN n m L)).toArray)):=by
 have HI:=Zh h;have HM:=Zh fun w h=>J1d l L hL l.length rfl sv hlen w h;have HE:=Zh fun tv w h=>Ys ⟨n,m,marks L⟩ tv (by simp only [List.length_map];rw [←hL,List.length_map];omega) ⟨hn,by rw [←hL];exact z7 HI.out⟩ w h;have HS:=Zh (Yr ⟨n,m,marks L⟩);obtain⟨e0,he0⟩:∃e0,Sm.err ⟨n,m,marks L⟩=e0:=⟨_,rfl⟩
 have hh:JN n m L=Sm.sec ⟨n,m,marks L⟩:=rfl;rw [hh];generalize Sm.sec ⟨n,m,marks L⟩=x at *;rw [he0] at HE;clear hh he0 hL;obtain⟨a,cap,rfl,-⟩:=h;go_enter Tryz.func133,Tryz.ntmps133;go_upto_region 0 with fail;refine Zl ?_;refine J4 Kd rfl ?_;intro w0 hR hb0 hl0;refine nm ?_;have HR:=Zh hR;have HB:=Zh hb0;have HI0:=Zh (HI.below hb0);have HL0:=Zh hl0;clear hR hb0 hl0;go_upto_region 1 with fail;refine Zl ?_;refine tk (.int .u32 n) ?_;refine tk (.bool m) ?_;refine tk (.slice a l.length cap) ?_;refine J0 rfl fun K hK=>?_;go_simp;refine (HM.out _ HI0.out).mono ?_;rintro e w1 ⟨cap1,rfl,hm1,hb⟩;have HB1:=Zh (Jk HB.out hb);have HR1:=Zh (HR.below hb HL0.out);have HM1:=Zh hm1;have HL1:Hid (w.heap.size<w1.heap.size):=Zh (Nat.lt_of_lt_of_le HL0.out hb.size);clear hm1 hb HB HR HI0 HM;refine hK _ _ (nm ?_);clear hK K;refine tk (.agg #[.int .u32 n,.bool m,.slice (some ⟨w0.heap.size,0,none⟩) l.length cap1]) ?_ (hr:=(J8 _ _ _ _ 300 _ rfl #[(0,.int .u32 n),(1,.bool m),(2,.slice (some ⟨w0.heap.size,0,none⟩) l.length cap1)] (by simp only [List.map_toArray,List.map_cons,List.map_nil];rfl) _ (run_build w1 300 _ _ (J5l _ _ _ _ _))));refine J0 rfl fun K hK=>?_;go_simp;refine (HE.out _ _ HM1.out).mono ?_;rintro e w2 ⟨rfl,hb⟩;have HB2:=Zh (Jk HB1.out hb);have HR2:=Zh (HR1.below hb HL1.out);have HL2:Hid (w.heap.size<w2.heap.size):=Zh (Nat.lt_of_lt_of_le HL1.out hb.size);clear hb HB1 HR1 HM1 HE;refine hK _ _ (nm ?_);clear hK K;refine tk (.tuple #[.agg (u8s x).toArray,.int .i64 e0]) ?_;refine tk (.agg (u8s x).toArray) ?_;refine tk (.int .i64 e0) ?_;refine J4 Kd rfl ?_;intro w3 hA hb hl;refine nm ?_;refine J3 (cs:=(u8s x).toArray) hA (by rw [J2,HS.out];rfl) (by rw [J2,HS.out];exact info36) (Jj _) rfl rfl rfl ?_;intro w4 hD hO hlD;refine nm ?_;have hbb:Below w2.heap.size w2 w4:=hb.trans (hO.below hb.size fun k hk=>Nat.le_of_eq hk.symm);have HB4:=Zh (Jk HB2.out hbb);have HR4:=Zh (HR2.below hbb HL2.out);have HD4:=Zh hD;clear hA hb hl hD hO hlD HB2 HR2 hbb;refine tk (.int .i64 e0) ?_;go_upto_region 2 with fail;refine Zl ?_;refine Qc (cs:=(u8s x).toArray) (Blk.all HD4.out rfl) (by rw [J2,HS.out]) rfl rfl ?_;refine nm ?_;refine J3 (cs:=(u8s x).toArray) HR4.out (by rw [J2,HS.out];rfl) (by rw [J2,HS.out];exact info36) (Jj _) rfl rfl rfl ?_;intro w5 hZ hO hlZ;refine nm ?_;have HB5:=Zh (HB4.trans (hO.below HB4.size fun k hk=>Nat.le_of_eq hk.symm));go_wp2_with fail
 refine bodyPost_ret (v:=.agg (u8s x).toArray) (Jp rfl _ _ w.heap.size 0 _ _ rfl Tryz.underlying36 rfl (by rw [J2,HS.out];exact info36) (Blk.all hZ rfl)) rfl ⟨rfl,HB5.out⟩
theorem J1e(x:It)(bv:Value)(hw:x.Wf)(n:Int)(hn:Kh n)(w:World)(hb:BytesAt w bv x.blk.bytes):Calls Tryz.prog 135 #[.int .u32 n,.agg (x.arr bv)] w (Zr w (.agg (u8s (x.blk.sec n)).toArray)):=by
 have HE:=Zh fun w h=>kN x.blk bv n w h hw.b hn;have HS:=Zh (xQ hw.b n).length;have HA0:=Zh (ItAt.box hw bv w);have HB0:=Zh (Z9 x bv w);have HBY0:=Zh (hb.below (Z9 x bv w));have HAS:=Zh (x.blk.arr_size hw.b bv);have HLT0:Hid (w.heap.size<(x.box bv w).heap.size):=Zh (by simp);generalize x.blk.sec n=y at *;obtain⟨e0,he0⟩:∃e0,x.blk.err=e0:=⟨_,rfl⟩
 rw [he0] at HE;clear he0 hw hb;go_enter Tryz.func135,Tryz.ntmps135;go_upto_region 0 with fail;refine Zl ?_;refine Jo (.pointer (some ⟨w.heap.size,0,none⟩)) (x.box bv w) rfl (by go_simp <;> rfl) ?_;refine nm ?_;generalize x.box bv w=w9 at *;refine J4 Kd rfl ?_;intro w0 hR hb0 hl0;refine nm ?_;have HR:=Zh hR;have HB:=Zh (Jk HB0.out hb0);have HA:=Zh (HA0.below hb0 HLT0.out);have HBY:=Zh (HBY0.below hb0);have HL0:=Zh hl0;have HLT:Hid (w.heap.size<w0.heap.size):=Zh (Nat.lt_trans HLT0.out hl0);have HG9:Hid (w.heap.size≤w9.heap.size):=Zh HB0.size;generalize w9.heap.size=r at *;clear hR hb0 hl0 HA0 HB0 HBY0 HLT0;go_upto_region 1 with fail;refine Zl ?_;refine tk (.pointer (some ⟨w.heap.size,2,none⟩)) ?_;refine JJ HA.blk HAS.out rfl rfl ?_;refine nm ?_;refine tk (.int .u32 n) ?_;refine J0 rfl fun K hK=>?_;go_simp;refine (HE.out _ HBY.out).mono ?_;rintro e w2 ⟨rfl,hb⟩;have HB2:=Zh (Jk HB.out hb);have HR2:=Zh (HR.below hb HL0.out);have HL2:Hid (r<w2.heap.size):=Zh (Nat.lt_of_lt_of_le HL0.out hb.size);clear hb HB HR HA HBY HE;refine hK _ _ (nm ?_);clear hK K;refine tk (.tuple #[.agg (u8s y).toArray,.int .i64 e0]) ?_;refine tk (.agg (u8s y).toArray) ?_;refine tk (.int .i64 e0) ?_;refine J4 Kd rfl ?_;intro w3 hA hb hl;refine nm ?_;refine J3 (cs:=(u8s y).toArray) hA (by rw [J2,HS.out];rfl) (by rw [J2,HS.out];exact info36) (Jj _) rfl rfl rfl ?_;intro w4 hD hO hlD;refine nm ?_;have hbb:Below w2.heap.size w2 w4:=hb.trans (hO.below hb.size fun k hk=>Nat.le_of_eq hk.symm);have HB4:=Zh (Jk HB2.out hbb);have HR4:=Zh (HR2.below hbb HL2.out);have HD4:=Zh hD;clear hA hb hl hD hO hlD HB2 HR2 hbb;refine tk (.int .i64 e0) ?_;go_upto_region 2 with fail;refine Zl ?_;refine Qc (cs:=(u8s y).toArray) (Blk.all HD4.out rfl) (by rw [J2,HS.out]) rfl rfl ?_;refine nm ?_;refine J3 (cs:=(u8s y).toArray) HR4.out (by rw [J2,HS.out];rfl) (by rw [J2,HS.out];exact info36) (Jj _) rfl rfl rfl ?_;intro w5 hZ hO hlZ;refine nm ?_;have HB5:=Zh (HB4.trans (hO.below HB4.size fun k hk=>by have:=HG9.out;omega));go_wp2_with fail
 refine bodyPost_ret (v:=.agg (u8s y).toArray) (Jp rfl _ _ r 0 _ _ rfl Tryz.underlying36 rfl (by rw [J2,HS.out];exact info36) (Blk.all hZ rfl)) rfl ⟨rfl,HB5.out⟩
theorem ItemsAt.len{l:List (It×Value)}(h:ItemsAt w sv l):Len sv l.length:=let ⟨a,cap,h,_⟩:=h;⟨a,cap,h⟩
def Km(L:List It):Int:=if JH L then ((parts L.length:Nat):Int) else 0
theorem J1f(l:List (It×Value))(L:List It)(hL:l.map (·.1)=L)(sv:Value)(hlen:l.length<100000)(w:World)(h:ItemsAt w sv l):Calls Tryz.prog 79 #[sv] w (Zr w (.int .i64 (Km L))):=by
 have HM:=Zh (hL ▸ jo l l.length rfl sv (by omega) w h);have HP:=Zh fun w=>Yv sv l.length h.len (by omega) w;have HLN:Hid (L.length=l.length):=Zh (by rw [←hL,List.length_map]);obtain⟨a,cap,rfl,-⟩:=h;clear hL;go_enter Tryz.func79,Tryz.ntmps79
 go_wp2_with fail
 refine HM.mono ?_;rintro e w1 ⟨rfl,hb⟩;have HB:=Zh hb;clear hb HM;cases hm:JH L
 · have HX:Hid (Km L=0):=Zh (by unfold Km;rw [hm];rfl)
   go_wp2_with fail
   go_ret;exact⟨by rw [HX.out];rfl,HB.out⟩
 · have HX:Hid (Km L=((parts l.length:Nat):Int)):=Zh (by unfold Km;rw [hm,HLN.out];rfl)
   go_wp2_with fail
   refine (HP.out _).mono ?_;rintro e w2 ⟨rfl,rfl⟩
   go_wp2_with fail
   go_ret;exact⟨by rw [HX.out];rfl,HB.out⟩
variable {cap g j n:Nat} {l:List Int} {sv:Value} {w w' w2:World}
theorem Jgw:Tryz.prog.underlying 74=some (.slice (Tryz.prog.elem 74))∧Tryz.prog.elem 74=84:=⟨by kernel_rfl,by kernel_rfl⟩
def K5(a:Option Addr)(f cap s:Nat):Option Addr:=if cap=f then a else a.map (·.add (f*s))
theorem Jgx(w:World):(Go.sizeOf 84).run Tryz.prog w=.ok 47 w:=by
 obtain⟨i,hi,hs⟩:=KV J17;simp [Go.sizeOf,typeInfo,hi,hs]
theorem J5m(w:World)(a:Option Addr)(n cap f e:Nat)(h1:f≤e)(h2:e≤cap):(Instr.sliceAt 74 (.slice a n cap) (some (.int .i64 f)) (some (.int .i64 e)) none).run Tryz.prog w=.ok (.slice (K5 a f cap 47) (e-f) (cap-f)) w:=by
 rw [run_sliceAt_slice w 74 _ _ _ _ Jgw.1,run_slice_lh w 74 a n cap Jgw.1 .i64 .i64 f e (by omega) (by omega) (by omega),Jgw.2,Jgx];rfl
theorem J1g(w:World)(ev:Operand→Value)(op:Oper)(x y z:Operand)(ho:op.op=.slice 74 x (some y) (some z) none)(a:Option Addr)(n cap f e:Nat)(hx:ev x=.slice a n cap)(hy:ev y=.int .i64 f)(hz:ev z=.int .i64 e)(h1:f≤e)(h2:e≤cap):(execOp ev op).run Tryz.prog w=.ok (.value (.slice (K5 a f cap 47) (e-f) (cap-f))) w:=by
 unfold execOp;simp only [ho,hx,hy,hz,Option.map_some,Option.map_none,Sem.run_bind,J5m w a n cap f e h1 h2,Result.andThen_ok,Sem.run_pure]
theorem ItemsAt.cut{a:Option Addr}{l:List (It×Value)}(h:ItemsAt w (.slice a n cap) l)(f e:Nat)(h1:f≤e)(h2:e≤n)(m:List (It×Value))(hm:m=(l.drop f).take (e-f)):ItemsAt w (.slice (K5 a f cap 47) (e-f) (cap-f)) m:=by
 subst hm;obtain⟨a',cap',e',hcap,hc⟩:=h;cases e';have hlen:((l.drop f).take (e-f)).length=e-f:=by simp;omega
 refine⟨_,_,by rw [hlen],by rw [hlen];omega,fun i x hx=>?_⟩;have hik:i<e-f:=by have:=(Zg hx).1;omega
 have hx2:l[f+i]? = some x:=by
  rw [List.getElem?_take,if_pos hik,List.getElem?_drop] at hx;exact hx
 obtain⟨k1,k2,g',o',rfl,k4⟩:=hc _ x hx2;refine⟨k1,k2,g',o'+f*47,?_,?_⟩
 · unfold K5;rw [if_neg (by omega)];simp [Addr.add]
 rw [show o'+f*47+i*47=o'+(f+i)*47 by omega];exact k4
theorem SecsAt.cut{a:Option Addr}{l:List (List Int)}(h:SecsAt w (.slice a n cap) l)(f e:Nat)(h1:f≤e)(h2:e≤n)(m:List (List Int))(hm:m=(l.drop f).take (e-f)):SecsAt w (.slice (K5 a f cap 64) (e-f) (cap-f)) m:=by
 subst hm;obtain⟨a',cap',e',hcap,hc⟩:=h;cases e';have hlen:((l.drop f).take (e-f)).length=e-f:=by simp;omega
 refine⟨_,_,by rw [hlen],by rw [hlen];omega,fun i x hx=>?_⟩;have hik:i<e-f:=by have:=(Zg hx).1;omega
 have hx2:l[f+i]? = some x:=by
  rw [List.getElem?_take,if_pos hik,List.getElem?_drop] at hx;exact hx
 obtain⟨k1,g',o',rfl,k4⟩:=hc _ x hx2;refine⟨k1,g',o'+f*64,?_,?_⟩
 · unfold K5;rw [if_neg (by omega)];simp [Addr.add]
 rw [show o'+f*64+i*64=o'+(f+i)*64 by omega];exact k4
theorem jM(w:World)(ev:Operand→Value)(op:Oper)(x y z:Operand)(ho:op.op=.slice 74 x (some y) (some z) none)(a:Option Addr)(n cap f e c g o:Nat)(hx:ev x=.slice a n cap)(hy:ev y=.int .i64 f)(hz:ev z=.int .i64 e)(h1:e=f+c)(h2:e≤cap)(ha:K5 a f cap 47=some ⟨g,o,none⟩):(execOp ev op).run Tryz.prog w=.ok (.value (.slice (some ⟨g,o,none⟩) c (cap-f))) w:=by
 have:=J1g w ev op x y z ho a n cap f e hx hy hz (by omega) h2;rw [ha,show e-f=c by omega] at this;exact this
theorem J8q(l:List (It×Value))(L:List It)(hL:l.map (·.1)=L)(hm:JH L=false)(n:Int)(sv:Value)(hlen:l.length<100000)(w:World)(h:ItemsAt w sv l):Calls Tryz.prog 109 #[.int .u32 n,sv] w (Zr w (.tuple #[.slice none 0 0,.slice none 0 0,.int .i64 1])):=by
 have HM:=Zh (hL ▸ jo l l.length rfl sv (by omega) w h);rw [hm] at HM;obtain⟨a,cap,rfl,-⟩:=h;clear hL;go_enter Tryz.func109,Tryz.ntmps109
 go_wp2_with fail
 refine HM.mono ?_;rintro e w1 ⟨rfl,hb⟩;have HB:=Zh hb;clear hb HM
 go_wp2_with fail
 first|go_ret3|go_ret2|go_ret
 exact⟨rfl,HB.out⟩
theorem za{n:Int}{p:List It}{x:It}(hx:p[j]? = some x)(st:St):(p.take (j+1)).foldl (KZ n) st=KZ n ((p.take j).foldl (KZ n) st) x:=by rw [take_snoc hx,List.foldl_append];rfl
theorem zb(W:World)(x:Int):IntsAt (W.alloc (.cells #[.int .i64 x] 3)) (.slice (some ⟨W.heap.size,0,none⟩) 1 1) [x]:=(OwnN.lit W W.heap.size Zy [x] (by simp) _ rfl).ints
structure Two (w wr:World) (s7 s8:Value) (st:St):Prop where
 s:OwnS wr w.heap.size s7 st.1
 a:OwnN wr w.heap.size s8 st.2
 b:Below w.heap.size w wr
theorem Two.below{wr:World}{s7 s8:Value}{st:St}(h:Two w wr s7 s8 st)(hb:Below wr.heap.size wr w2):Two w w2 s7 s8 st:=⟨h.s.below hb,h.a.below hb,Jk h.b hb⟩
theorem Two.secs{wr:World}{s7 s8 t7:Value}{st:St}{l:List (List Int)}(h:Two w wr s7 s8 st)(ho:OwnS w2 w.heap.size t7 l)(hg:wr.grownBy w2 s7.ownBlock):Two w w2 t7 s8 (l,st.2) :=
 ⟨ho,h.a.keep hg (X4 h.s.row) (by decide),h.b.trans (Kq hg h.b.size fun k hk=>(h.s.lt k hk).1)⟩
theorem Two.ats{wr:World}{s7 s8 t8:Value}{st:St}(h:Two w wr s7 s8 st)(ho:OwnN w2 w.heap.size t8 l)(hg:wr.grownBy w2 s8.ownBlock):Two w w2 s7 t8 (st.1,l) :=
 ⟨h.s.keep hg (X4 h.a) (by decide),ho,h.b.trans (Kq hg h.b.size fun k hk=>(h.a.lt k hk).1)⟩
theorem ItemsAt.below'{l:List (It×Value)}(h:ItemsAt w sv l)(hb:Below w.heap.size w w'):ItemsAt w' sv l:=h.below hb
theorem ItAt.grown{off:Nat}{x:It}{row:Option Nat}(h:ItAt w g off x sv)(hg:w.grownBy w' row)(hlt:g<w.heap.size)(hne:∀k,row=some k→k≠g):ItAt w' g off x sv:=ItAt.of fun j hj=>by
 have hb:=hg.block g hlt fun e=>hne g e.symm rfl;rw [←h.all j hj];simp only [World.cell?,hb]
theorem J3v(l:List (It×Value))(L:List It)(hL:l.map (·.1)=L)(hm:JH L=true)(n:Int)(hn:Kh n)(sv:Value)(w:World)(h:ItemsAt w sv l):Calls Tryz.prog 109 #[.int .u32 n,sv] w fun e w'=>∃s7 s8,e=.returned (.tuple #[s7,s8,.int .i64 0])∧Two w w' s7 s8 (Jd n L):=by
 have hln:l.length≤64:=by have:=(JK.1 hm).2.1;rw [←hL,List.length_map] at this;exact this
 have HM:=Zh (hL ▸ jo l l.length rfl sv (by omega) w h);have HP:=Zh fun w=>Yv sv l.length h.len (by omega) w;have HH:=Zh fun q (hq:Kh q) m (f e:Nat) (he:f≤e) (he2:e≤l.length) tv w k=>z8 ((l.drop f).take (e-f)) ((L.drop f).take (e-f)) (by rw [←hL,List.map_take,List.map_drop]) tv (by simp;omega) q hq m w k;rw [hm] at HM;have hLn:L.length=l.length:=by rw [←hL,List.length_map]
 have HLN:=Zh hLn;have hp3:=(Qo hm).2;rw [hLn] at hp3;have HOK:=Zh (JK.1 hm).2.2.1;have HL:=Zh hL;have HI:=Zh h;have HSEQ:=Zh hn;have HPN:Hid (∀k,k<parts l.length→24*k<l.length∧(24*k+24<l.length→k+1<parts l.length)):=Zh (fun k hk=>by unfold parts at hk ⊢;omega);have HPP:Hid (parts L.length=parts l.length):=Zh (by rw [hLn]);obtain⟨P,hP⟩:∃P,parts l.length=P:=⟨_,rfl⟩
 rw [hP] at HP hp3 HPN HPP;obtain⟨N,hN⟩:∃N,l.length=N:=⟨_,rfl⟩
 obtain⟨a,cap,rfl,hcap,hc⟩:=h;have HC:=Zh hc;have HNN:=Zh hN;rw [hN] at hln HPN HH HI HLN HM HP hcap ⊢;have HCAP:=Zh hcap;clear hL hm hLn hc hP hN hcap hn;go_enter Tryz.func109,Tryz.ntmps109
 go_wp2_with fail
 refine HM.mono ?_;rintro e w1 ⟨rfl,hb⟩;have HB:=Zh hb;clear hb HM
 go_wp2_with fail
 refine (HP.out _).mono ?_;rintro e w2 ⟨rfl,rfl⟩;clear HP
 go_wp2_with fail
 have HT1:Hid (Two w w1 (.slice none 0 0) (.slice none 0 0) (Js n L 0)):=Zh ⟨OwnS.nil _ _,OwnN.nil _ _,HB.out⟩
 go_loopg [7,8,22] P (fun q u7 u8 i wr=>∃(k:Nat) (s7 s8:Value),s7=u7∧s8=u8∧P-k≤q∧k≤P∧i=.int .i64 k∧Two w wr s7 s8 (Js n L k))
 case atStart=>exact⟨0,_,_,rfl,rfl,by omega,by omega,rfl,HT1.out⟩
 case round =>
  obtain⟨k,s7,s8,rfl,rfl,hq,hk,rfl,ht⟩:=hrel;have HT:=Zh ht;clear ht HT1 HB
  by_cases hlt:k<P
  · obtain⟨hp1,hp2⟩:=HPN.out k hlt;obtain⟨e,he⟩:∃e,(if 24*k+24<N then 24*k+24 else N)=e:=⟨_,rfl⟩
    have he1:24*k<e∧e≤N∧e≤24*k+24:=by split at he <;> omega
    obtain⟨mo,hmo⟩:∃v,decide (24*k+24<N)=v:=⟨_,rfl⟩
    have gm:Hid (decide (e<N)=mo):=Zh (by rw [←hmo];split at he <;> (congr 1;apply propext;omega));have gmin2:Hid (24*k+24<N→e=24*k+24):=Zh (by split at he <;> omega);have gmin3:Hid (¬24*k+24<N→e=N):=Zh (by split at he <;> omega);have HCH:Hid (Qe L k=(L.drop (24*k)).take (e-24*k)):=Zh (by
     split at he
     · rw [show e-24*k=24 by omega]
     · unfold Qe
       rw [List.take_of_length_le (by rw [List.length_drop,HLN.out];omega),List.take_of_length_le (by rw [List.length_drop,HLN.out];omega)])
    obtain⟨q1,hq1⟩:∃q,(n+(k:Int))%M32=q:=⟨_,rfl⟩
    have HQ:Hid (Kh q1):=Zh (by rw [←hq1];exact YN _);have HSU:Hid (Js n L (k+1)=Xe q1 mo (Qe L k) (Js n L k)):=Zh (by rw [Js,hq1,HLN.out,hmo]);have gq:Hid (IntKind.u32.wrap (n+(k:Int))=q1):=Zh (by rw [IntKind.wrap_u32,←hq1];rfl);obtain⟨f,hf⟩:∃f,24*k=f:=⟨_,rfl⟩
    have gw:Hid (IntKind.i64.wrap ((k:Int)*24)=(f:Int)):=Zh (by rw [IntKind.wrap_i64];omega);have gw2:Hid (IntKind.i64.wrap ((f:Int)+24)=(f:Int)+24):=Zh (by rw [IntKind.wrap_i64];omega);obtain⟨c,hc⟩:∃c,e=f+c:=⟨e-f,by omega⟩
    rw [hf,show e-f=c by omega] at HCH;have HSC:=Zh (J86 ⟨q1,mo,marks ((L.drop f).take c)⟩);have HIC:=Zh (HI.cut f e (by omega) (by omega) ((l.drop f).take c) (by rw [show e-f=c by omega]));rw [show e-f=c by omega] at HIC;have HCL:Hid (((l.drop f).take c).length=c):=Zh (by rw [List.length_take,List.length_drop,HNN.out];omega);have HCM:Hid (((l.drop f).take c).map (·.1)=(L.drop f).take c):=Zh (by rw [List.map_take,List.map_drop,HL.out]);obtain⟨g,o,cap2,hcut,hcap2,hgw,hcc⟩:=HIC.has (by rw [HCL.out];omega);rw [HCL.out] at hcut;have hcut:K5 a f cap 47=some ⟨g,o,none⟩:=by injection hcut
    rw [hcut] at HIC;have HCU:=Zh hcut;have HGW:=Zh hgw;have HCC:=Zh hcc;have HHC:Hid (∀w,ItemsAt w (.slice (some ⟨g,o,none⟩) c (cap-f)) ((l.drop f).take c)→Calls Tryz.prog 133 #[.int .u32 q1,.bool mo,.slice (some ⟨g,o,none⟩) c (cap-f)] w fun e_1 w'=>e_1=.returned (.agg (u8s (JN q1 mo ((L.drop f).take c))).toArray)∧Below w.heap.size w w'):=Zh (by
     intro w h
     have:=HH.out q1 HQ.out mo f e (by omega) (by omega) (.slice (some ⟨g,o,none⟩) c (cap-f)) w
     rw [show e-f=c by omega] at this
     exact this h)
    have HMEM:Hid (∀x∈(L.drop f).take c,x.ok=true):=Zh fun x hx=>HOK.out x (List.mem_of_mem_drop (List.mem_of_mem_take hx));generalize (l.drop f).take c=Cl at *;generalize (L.drop f).take c=C at *;have hy0:JN q1 mo C=Sm.sec ⟨q1,mo,marks C⟩:=rfl;rw [←hy0] at HSC;obtain⟨y0,hy⟩:∃y,JN q1 mo C=y:=⟨_,rfl⟩
    rw [hy] at HSC HHC;have HSU2:Hid (Js n L (k+1)=C.foldl (KZ q1) ((Js n L k).1++[y0],(Js n L k).2)):=Zh (by rw [HSU.out,HCH.out,Xe,hy]);have HLT7:Hid ((Js n L k).1.length≤100):=Zh (by
     rw [ZI]
     have h1:=QI (marks (L.take (24*k)))
     rw [List.length_map,List.length_take] at h1
     omega)
    have HLT8:Hid ((Js n L k).2.length≤100):=Zh (by rw [ZJ,List.length_take];omega);have gk:decide ((k:Int)<(P:Int))=true:=decide_eq_true (by omega);have gce:(e:Int)=(f:Int)+(c:Int):=by omega
    have gc24:c≤24:=by omega
    have gcapf:Hid (e≤cap∧e=f+c):=Zh ⟨by have:=HCAP.out;omega,hc⟩;have gce2:=Zh gce;have gf1:f≤64:=by omega
    have gk1:Hid (24*k=f):=Zh hf;have ge1:e≤64:=by omega
    clear gce he hmo hq1 hp2 hf hc hcut hcap2 hgw hcc hy0 hy HSU HCH HOK he1 hp1;go_upto_region 7 with fail;refine Zl ?_;refine tk (.int .i64 k) ?_;refine tk (.int .i64 k) ?_;go_upto_region 8 with fail;refine Zl ?_;refine tk (.int .u32 n) ?_;refine tk (.int .i64 k) ?_;refine tk (.int .u32 k) ?_ (hr:=by go_simp <;> exact kL (by omega) (by omega));refine tk (.int .u32 q1) ?_ (hr:=by have g:=gq.out;go_simp);refine tk (.int .u32 q1) ?_;go_upto_region 9 with fail;refine Zl ?_;refine tk (.int .i64 k) ?_;refine tk (.int .i64 f) ?_ (hr:=by have g:=gw.out;go_simp);refine tk (.int .i64 f) ?_;go_upto_region 10 with fail;refine Zl ?_;refine tk (.int .i64 f) ?_;refine tk (.int .i64 ((f:Int)+24)) ?_ (hr:=by have g:=gw2.out;go_simp);refine tk (.slice a N cap) ?_;refine tk (.int .i64 N) ?_;refine tk (.int .i64 e) ?_ (hr:=by have g1:=gk1.out;have g2:=gmin2.out;have g3:=gmin3.out;go_simp <;> (split <;> omega));refine tk (.int .i64 e) ?_;refine Zn ?_;clear gmin2 gmin3 gw gw2 gq;go_upto_region 11 with fail;refine Zl ?_;refine tk (s7) ?_;refine tk (.int .u32 q1) ?_;refine tk (.int .i64 e) ?_;refine tk (.slice a N cap) ?_;refine tk (.int .i64 N) ?_;refine tk (.bool mo) ?_ (hr:=by have g:=gm.out;go_simp);refine tk (.slice a N cap) ?_;refine tk (.int .i64 f) ?_;refine tk (.int .i64 e) ?_;refine tk (.slice (some ⟨g,o,none⟩) c (cap-f)) ?_ (hr:=(jM _ _ _ _ _ _ rfl a N cap f e c g o rfl rfl rfl gcapf.out.2 gcapf.out.1 HCU.out));refine J0 rfl fun K hK=>?_;go_simp;refine (HHC.out _ (HIC.below' HT.b)).mono ?_;rintro e1 w3 ⟨rfl,hb⟩;have HT3:=Zh (HT.below hb);clear hb HT HHC;refine hK _ _ (nm ?_);clear hK K;refine J8n HSC.out rfl rfl ?_;intro w4 hs4 hb4;refine nm ?_;have HT4:=Zh (HT3.below hb4);clear HT3;refine J8m HT4.s HT4.b.size hs4 (by have:=HLT7.out;simp only [List.length_cons,List.length_nil];omega) rfl rfl rfl ?_;intro t7 w5 ho5 hg5;refine nm ?_;have HT5:=Zh (HT4.secs ho5 hg5);clear HT4 hs4 hb4 ho5 hg5;refine tk (t7) ?_;go_upto_region 12 with fail;refine Zl ?_;refine tk (.slice a N cap) ?_;refine tk (.int .i64 f) ?_;refine tk (.int .i64 e) ?_;refine tk (.slice (some ⟨g,o,none⟩) c (cap-f)) ?_ (hr:=(jM _ _ _ _ _ _ rfl a N cap f e c g o rfl rfl rfl gcapf.out.2 gcapf.out.1 HCU.out));refine tk (.int .i64 c) ?_;refine tk (.int .i64 0) ?_;go_wp2_with fail
    have HF0:Hid (((C.take 0).foldl (KZ q1) ((Js n L k).1++[y0],(Js n L k).2))=((Js n L k).1++[y0],(Js n L k).2)):=Zh rfl;have HFL:Hid (∀j,j≤c→((C.take j).foldl (KZ q1) ((Js n L k).1++[y0],(Js n L k).2)).1.length≤200∧((C.take j).foldl (KZ q1) ((Js n L k).1++[y0],(Js n L k).2)).2.length≤200):=Zh (by
     intro j hj
     rw [Xf]
     have h1:=QI (marks (C.take j))
     have h2:=HLT7.out
     have h3:=HLT8.out
     rw [List.length_map] at h1
     simp only [List.length_append,Z1,Yt,List.length_cons,List.length_nil,List.length_take] at h1 ⊢
     omega)
    generalize ((Js n L k).1++[y0],(Js n L k).2)=st1 at *
    go_loopg [7,8,54] c (fun q u7 u8 i wr=>∃(j:Nat) (s7 s8:Value),s7=u7∧s8=u8∧c-j≤q∧j≤c∧i=.int .i64 j∧Two w wr s7 s8 ((C.take j).foldl (KZ q1) st1))
    case atStart=>exact⟨0,_,_,rfl,rfl,by omega,by omega,rfl,by rw [HF0.out];exact HT5.out⟩
    case round =>
     obtain⟨j,v7,v8,rfl,rfl,hq2,hj,rfl,ht⟩:=hrel;have HT:=Zh ht;clear ht HT5 HF0
     by_cases hlj:j<c
     · obtain⟨xv,hx⟩:∃x,Cl[j]? = some x:=⟨_,List.getElem?_eq_getElem (by have:=HCL.out;omega)⟩
       obtain⟨x,bv⟩:=xv;obtain⟨x1,x2,x3⟩:=HCC.out j _ hx;have HLX:Hid (C[j]? = some x):=Zh (by rw [←HCM.out,List.getElem?_map,hx];rfl);have hxok:=HMEM.out x (List.mem_of_getElem? HLX.out);have HTE:=Zh fun w=>kT x.mark (J3t hxok) w;have HW:=Zh x1;have HLE:=Zh x2.len;have HX:=Zh (x3.below HT.b HGW.out);have HY:=Zh x2;have HK7:=Zh fun k hk=>(HT.s.lt k hk).2;have HK8:=Zh fun k hk=>(HT.a.lt k hk).2;have HBO:=Zh fun w h=>J1e x bv x1 q1 HQ.out w h;have HBS:=Zh (xQ x1.b q1);have HSTEP:=Zh (za (n:=q1) HLX.out st1);have gj:decide ((j:Int)<(c:Int))=true:=decide_eq_true (by omega);have hj0:(j:Int)<(c:Int):=by omega
       obtain⟨hl7,hl8⟩:=HFL.out j (by omega);have HL7:=Zh hl7;have HL8:=Zh hl8;clear x1 x2 x3 hx hxok hl7 hl8;generalize (C.take j).foldl (KZ q1) st1=st at *;go_upto_region 14 with fail;refine Zl ?_;refine tk (.pointer (some ⟨g,o+j*47,none⟩)) ?_;refine kS HX.out (x.arr_size HW.out bv) rfl rfl ?_;refine nm ?_;refine J4 ZK rfl ?_;intro w6 hA hb hl;refine nm ?_;refine J3 (cs:=x.arr bv) hA (xR It.none_wf HW.out _ _) (ZL HW.out _) (It.arr_one (Qp HLE.out)) rfl rfl rfl ?_;intro w7 hD hO hlD;refine nm ?_;have hbb:Below wr.heap.size wr w7:=hb.trans (hO.below hb.size fun k hk=>Nat.le_of_eq hk.symm);have HT7:=Zh (HT.below hbb);have HA7:=Zh (ItAt.of (x:=x) (sv:=bv) (w:=w7) (g:=wr.heap.size) (off:=0) (hD.all rfl));have HLT:Hid (wr.heap.size<w7.heap.size):=Zh (by omega);generalize wr.heap.size=t at *;clear hA hb hl hD hO hlD hbb HX HT;refine Zn ?_;have c0:w7.cell? ⟨t,0,none⟩=some (.int .i64 x.mark.1):=HA7.c0;have c1:w7.cell? ⟨t,1,none⟩=some (.int .i64 x.mark.2):=HA7.c1
       go_wp2_with fail
       refine (HTE.out _).mono ?_;rintro e3 w8 ⟨rfl,hb⟩;have HT8:=Zh (HT7.below hb);have HA8:=Zh (HA7.below hb HLT.out);have HLT8:Hid (t<w8.heap.size):=Zh (Nat.lt_of_lt_of_le HLT.out hb.size);clear hb HT7 HA7 HLT c0 c1 HTE;cases hh:JE x.mark.1
       · have HSX:Hid (KZ q1 st x=(st.1,st.2++[-1])):=Zh (by unfold KZ;rw [show x.has=false from hh];rfl);rw [HSX.out] at HSTEP;clear hh HSX;go_upto_region 17 with fail;refine Zl ?_;refine tk (v8) ?_;refine Jo (.slice (some ⟨w8.heap.size,0,none⟩) 1 1) (w8.alloc (.cells #[.int .i64 (-1)] 3)) rfl (by go_simp) ?_;refine nm ?_;have hbl:Below w8.heap.size w8 (w8.alloc (.cells #[.int .i64 (-1)] 3)):=Zq.alloc Zy _;have HT9:=Zh (HT8.below hbl);refine xU HT9.a HT9.b.size (zb w8 (-1)) (by have:=HL8.out;simp only [List.length_cons,List.length_nil];omega) rfl rfl rfl ?_;intro t8 w9 ho9 hg9;refine nm ?_;have HT10:=Zh (HT9.ats ho9 hg9);clear hbl HT8 HT9 ho9 hg9;refine tk (t8) ?_;go_wp2_with fail
         go_roundg (c-(j+1))
         case measure=>omega
         case rel=>exact⟨j+1,_,_,rfl,rfl,by omega,by omega,by go_num,by rw [HSTEP.out];exact HT10.out⟩
       · have HSX:Hid (KZ q1 st x=(st.1++[x.blk.sec q1],st.2++[(st.1.length:Int)])):=Zh (by unfold KZ;rw [show x.has=true from hh];rfl);rw [HSX.out] at HSTEP;obtain⟨a7,c7,hv7,-⟩:=HT8.s.len;subst hv7;clear hh HSX;obtain⟨m7,hm7⟩:∃m,st.1.length=m:=⟨_,rfl⟩
         rw [hm7] at HL7 HSTEP HT8;have HM7:=Zh hm7;rw [hm7];clear hm7;go_upto_region 18 with fail;refine Zl ?_;refine tk (v8) ?_;refine tk (.slice a7 m7 c7) ?_;refine tk (.int .i64 m7) ?_;refine Jo (.slice (some ⟨w8.heap.size,0,none⟩) 1 1) (w8.alloc (.cells #[.int .i64 m7] 3)) rfl (by go_simp) ?_;refine nm ?_;have hbl:Below w8.heap.size w8 (w8.alloc (.cells #[.int .i64 m7] 3)):=Zq.alloc Zy _;have HT9:=Zh (HT8.below hbl);have HA9:=Zh (HA8.below hbl HLT8.out);have HLT9:Hid (t<(w8.alloc (.cells #[.int .i64 m7] 3)).heap.size):=Zh (Nat.lt_of_lt_of_le HLT8.out hbl.size);refine xU HT9.a HT9.b.size (zb w8 m7) (by have:=HL8.out;simp only [List.length_cons,List.length_nil];omega) rfl rfl rfl ?_;intro t8 w9 ho9 hg9;refine nm ?_;have HA10:=Zh (HA9.grown hg9 HLT9.out fun k hk=>Nat.ne_of_lt (HK8.out k hk));have HT10:=Zh (HT9.ats ho9 hg9);clear hbl HT8 HT9 ho9 hg9 HA8 HA9 HLT8 HLT9;refine tk (t8) ?_;go_upto_region 19 with fail;refine Zl ?_;refine tk (.slice a7 m7 c7) ?_;refine tk (.int .u32 q1) ?_;refine kS HA10.all (x.arr_size HW.out bv) rfl rfl ?_;refine nm ?_;refine J0 rfl fun K hK=>?_;go_simp;refine (HBO.out _ (HY.below HT10.b)).mono ?_;rintro e4 w10 ⟨rfl,hb⟩;have HT11:=Zh (HT10.below hb);clear hb HT10 HA10 HBO;refine hK _ _ (nm ?_);clear hK K;refine J8n HBS.out rfl rfl ?_;intro w11 hs11 hb11;refine nm ?_;have HT12:=Zh (HT11.below hb11);clear HT11;refine J8m HT12.s HT12.b.size hs11 (by have:=HL7.out;have:=HM7.out;simp only [List.length_cons,List.length_nil];omega) rfl rfl rfl ?_;intro t7' w12 ho12 hg12;refine nm ?_;have HT13:=Zh (HT12.secs ho12 hg12);clear HT12 hs11 hb11 ho12 hg12;refine tk (t7') ?_;go_wp2_with fail
         go_roundg (c-(j+1))
         case measure=>omega
         case rel=>exact⟨j+1,_,_,rfl,rfl,by omega,by omega,by go_num,by rw [HSTEP.out];exact HT13.out⟩
     · obtain rfl:j=c:=by omega
       have HFIN:Hid ((C.take j).foldl (KZ q1) st1=Js n L (k+1)):=Zh (by
        rw [HSU2.out,List.take_of_length_le (by have:=HCL.out;rw [←HCM.out,List.length_map];omega)])
       rw [HFIN.out] at HT;have gj:decide ((j:Int)<(j:Int))=false:=decide_eq_false (by omega);clear hlj
       go_wp2_with fail
       go_roundg (P-(k+1))
       case measure=>omega
       case rel=>exact⟨k+1,_,_,rfl,rfl,by omega,by omega,by go_num,HT.out⟩
  · obtain rfl:k=P:=by omega
    have HFIN:Hid (Jd n L=Js n L k):=Zh (by unfold Jd;rw [HPP.out]);have gk:decide ((k:Int)<(k:Int))=false:=decide_eq_false (by omega)
    go_wp2_with fail
    first|go_ret3|go_ret2|go_ret
    exact⟨_,_,rfl,by rw [HFIN.out];exact HT.out⟩
variable {B b cap g i n:Nat} {L:List Value} {sv v:Value} {w w':World}
theorem zc(l m:List Int)(hl:l.length≤1000)(hm:m.length≤1000)(sv tv:Value)(w:World)(h:IntsAt w sv l)(k:IntsAt w tv m):Calls Tryz.prog 15 #[sv,tv] w (Zr w (.bool (decide (l=m)))):=by
 obtain⟨a,cap,rfl,hc⟩:=h;obtain⟨a',cap',rfl,hc'⟩:=k;have HC:=Zh hc;have HC':=Zh hc';clear hc hc'
 by_cases hlen:l.length=m.length
 · obtain⟨n,hn⟩:∃n,m.length=n:=⟨_,rfl⟩
   have hln:=hlen.trans hn;rw [hn] at hm;rw [hln,hn];have HN:=Zh hn;have HLN:=Zh hln;clear hln hl hlen hn;go_enter Tryz.func15,Tryz.ntmps15
   go_wp2_with fail
   go_loopg [5] n (fun q i wr=>∃k:Nat,n-k≤q∧k≤n∧i=.int .i64 k∧(∀j,j<k→l[j]? = m[j]?)∧Below w.heap.size w wr)
   case atStart=>exact⟨0,by omega,by omega,rfl,fun j hj=>by omega,Below.refl _ _⟩
   case round =>
    obtain⟨k,hg,hk,rfl,heq,hbel⟩:=hrel;have HE:=Zh heq;have HB:=Zh hbel;clear heq hbel
    by_cases hlt:k<n
    · have h1:=HLN.out;have h2:=HN.out;obtain⟨x,hx⟩:∃x,l[k]? = some x:=⟨_,List.getElem?_eq_getElem (by omega)⟩
      obtain⟨y,hy⟩:∃y,m[k]? = some y:=⟨_,List.getElem?_eq_getElem (by omega)⟩
      obtain⟨b,o,rfl,c1⟩:=HC.out k x hx;obtain⟨b',o',rfl,c2⟩:=HC'.out k y hy;have d1:=(HB.cell (block_lt_of_cell c1)).trans c1;have d2:=(HB.cell (block_lt_of_cell c2)).trans c2;have HX:=Zh hx;have HY:=Zh hy;clear hx hy c1 c2 h1 h2;have hk1:(k:Int)<(n:Int):=by omega
      have hg1:decide ((k:Int)<(n:Int))=true:=decide_eq_true hk1
      by_cases hxy:x=y
      · subst hxy;have e1:(x != x)=false:=by simp
        go_wp2_with fail
        go_quiet (fail)
        go_wp2_with fail
        go_roundg (n-(k+1))
        case measure=>omega
        case rel=>exact⟨k+1,by omega,by omega,by go_num,fun j hj=>by
         by_cases hj2:j<k
         · exact HE.out j hj2
         · obtain rfl:j=k:=by omega
           rw [HX.out,HY.out],Qn HB.out _⟩
      · have e1:(x != y)=true:=by simpa using hxy
        have HXY:=Zh hxy;clear hxy
        go_wp2_with fail
        go_quiet (fail)
        go_wp2_with fail
        go_ret;exact⟨Jb (by
         symm
         refine decide_eq_false fun e=>HXY.out ?_
         have:=HX.out
         rw [e,HY.out] at this
         exact (Option.some.inj this).symm),Qn HB.out _⟩
    · obtain rfl:k=n:=by omega
      have hk1:¬(k:Int)<(k:Int):=by omega
      have hg1:decide ((k:Int)<(k:Int))=false:=decide_eq_false hk1
      go_wp2_with fail
      go_ret;exact⟨Jb (by
       symm
       refine decide_eq_true (List.ext_getElem? fun j=>?_)
       rcases Nat.lt_or_ge j k with h1|h1
       · exact HE.out j h1
       · have h2:=HLN.out
         have h3:=HN.out
         rw [List.getElem?_eq_none (by omega),List.getElem?_eq_none (by omega)]),HB.out⟩
 · have HL:Hid (l≠m):=Zh fun e=>hlen (by rw [e]);have e1:((l.length:Int) != (m.length:Int))=true:=by simp;omega
   have hne:¬(l.length:Int)=(m.length:Int):=by omega
   clear hlen;go_enter Tryz.func15,Tryz.ntmps15
   go_wp2_with fail
   go_ret;exact⟨Jb (by symm;exact decide_eq_false HL.out),Below.refl _ _⟩
theorem ItemsAt.of_row{l:List (It×Value)}(h:Blk w g (Jg l))(hn:l.length=n)(hc:n≤cap)(hw:∀x∈l,x.1.Wf∧BytesAt w x.2 x.1.blk.bytes):ItemsAt w (.slice (some ⟨g,0,none⟩) n cap) l:=by
 subst hn;refine⟨_,cap,rfl,hc,fun i x hx=>?_⟩;obtain⟨h1,h2⟩:=hw x (List.mem_of_getElem? hx);refine⟨h1,h2,g,0,rfl,fun j hj=>h.cell ?_⟩;rw [It.arr_size h1] at hj;rw [Nat.zero_add,Xh (fun y hy=>(hw y hy).1) hj,hx];show (x.1.cells x.2)[j]? = _;rw [List.getElem?_eq_getElem (by rw [It.cells_length h1];exact hj)];rfl
theorem Blk.grown{l:List Value}{row:Option Nat}(h:Blk w b l)(hg:w.grownBy w' row)(hr:∀k,row=some k→k≠b):Blk w' b l:=h.of_block (hg.block b h.lt fun e=>hr b e.symm rfl)
theorem MarksAt.grown{l:List Mk}{row:Option Nat}(h:MarksAt w sv l)(hg:w.grownBy w' row)(hf:Fresh B sv)(hr:∀k,row=some k→k<B):MarksAt w' sv l:=by
 obtain⟨a,cap,e,hc⟩:=h;refine⟨a,cap,e,fun i x hx=>?_⟩;obtain⟨b,o,e2,h1,h2⟩:=hc i x hx;have hb:=hg.block b (block_lt_of_cell h1) fun e3=>by
  have h3:=hr b e3.symm;have h4:=hf b o _ _ (by rw [e,e2]);omega
 exact⟨b,o,e2,by rw [←h1];simp only [World.cell?,hb],by rw [←h2];simp only [World.cell?,hb]⟩
structure NoIt (L:List Value):Prop where
 few:L.length≤46
 byte:∀x,(Value.int .u8 x) ∉ L
theorem Blk.has_cell(h:Blk w g L)(hc:w.cell? ⟨g,i,none⟩=some v):L[i]? = some v:=by
 obtain⟨t,ht⟩:=h;rw [cell_of_row w g i _ t _ ht] at hc;simpa using hc
theorem ItemsAt.only{l:List (It×Value)}(h:ItemsAt w sv l)(hb:Blk w g L)(hL:NoIt L)(ho:Only (fun k=>k=g) w w'):ItemsAt w' sv l:=by
 obtain⟨a,cap,e,hcap,hc⟩:=h;refine⟨a,cap,e,hcap,fun i x hx=>?_⟩;obtain⟨h1,h2,b,o,h3,h4⟩:=hc i x hx;have hne:b≠g:=by
  rintro rfl;have:=hb.has_cell (h4 46 (by rw [It.arr_size h1];decide));have:=(Zg this).1;have:=hL.few;omega
 have hbb:=ho.block b (h4.lt (by rw [It.arr_size h1];decide)) hne;refine⟨h1,?_,b,o,h3,fun j hj=>?_⟩
 · by_cases h0:x.1.blk.bytes.length=0
   · obtain⟨a,cap,e,_⟩:=h2;exact⟨a,cap,e,fun i z hz=>by rw [List.eq_nil_of_length_eq_zero h0] at hz;simp at hz⟩
   · refine h2.only ho fun b2 o2 n2 c2 e2=>?_;rintro rfl;obtain⟨b3,o3,c3,e3,hc3⟩:=h2.has (by omega);rw [e2] at e3;cases e3;have:=hb.has_cell (hc3 0 x.1.blk.bytes[0] (by simp));exact hL.byte _ (List.mem_of_getElem? this)
 · rw [←h4 j hj];simp only [World.cell?,hbb]
def rp(n:Nat)(v:Int):List Int:=List.replicate n v
theorem J8r:Jh 1:=⟨by decide,by decide⟩
theorem J3w:(Tryz.prog.info? 43).bind (·.zero)=some (.agg (u8s (zeros 32)).toArray):=by kernel_rfl
theorem xW(v:Int)(k:Nat)(h:k<32):(List.replicate k v++zeros (32-k)).set k v=List.replicate (k+1) v++zeros (32-(k+1)):=by
 unfold zeros;rw [List.set_append_right _ _ (by simp),show 32-k=(32-(k+1))+1 by omega,List.replicate_succ];simp only [List.length_replicate,Nat.sub_self,List.set_cons_zero];rw [List.replicate_succ',List.append_assoc];rfl
theorem zd(v:Int)(k:Nat)(h:k<32):(u8s (List.replicate k v++zeros (32-k)))[k]? = some (.int .u8 0):=by
 rw [List.getElem?_map];unfold zeros;rw [List.getElem?_append_right (by simp)];simp only [List.length_replicate,Nat.sub_self];rw [List.getElem?_replicate,if_pos (by omega)];rfl
theorem kU(v:Int)(w:World):Calls Tryz.prog 23 #[.int .u8 v] w (Zr w (.agg (u8s (rp 32 v)).toArray)):=by
 go_enter Tryz.func23,Tryz.ntmps23;go_upto_region 0 with fail;refine Zl ?_;refine J4 J3w rfl ?_;intro w1 hA hb hl;refine nm ?_;have HA:=Zh hA;have HB:=Zh hb;have HL:=Zh hl;clear hA hb hl;go_upto_region 1 with fail;refine Zl ?_;refine J4 J3w rfl ?_;intro w2 hA hb hl;refine nm ?_;have HA2:=Zh (HA.below hb HL.out);have HC:=Zh hA;have HB2:=Zh (Jk HB.out hb);obtain⟨t,ht⟩:∃t,w1.heap.size=t:=⟨_,rfl⟩
 rw [ht] at HC HL ⊢;clear hA hb hl HA HB ht;go_wp2_with fail
 go_loopg [4] 32 (fun q i wr=>∃k:Nat,32-k≤q∧k≤32∧i=.int .i64 k∧Blk wr w.heap.size (u8s (zeros 32))∧Blk wr t (u8s (List.replicate k v++zeros (32-k)))∧Below w.heap.size w wr)
 case atStart=>exact⟨0,by omega,by omega,rfl,HA2.out,HC.out,HB2.out⟩
 case round =>
  obtain⟨k,hq,hk,rfl,h1,h2,h3⟩:=hrel;have H1:=Zh h1;have H2:=Zh h2;have H3:=Zh h3;clear h1 h2 h3 HA2 HC HB2
  by_cases hlt:k<32
  · have c0:=H2.cell (zd v k hlt);have f0:=H2.frozen k;have gk:decide ((k:Int)<32)=true:=decide_eq_true (by omega);have HR:Hid (Blk (wr.setCell ⟨t,k,none⟩ (.int .u8 v)) t (u8s (List.replicate (k+1) v++zeros (32-(k+1))))):=Zh (by
     have:=H2.set k (.int .u8 v)
     rw [show (u8s (List.replicate k v++zeros (32-k))).set k (.int .u8 v)=u8s ((List.replicate k v++zeros (32-k)).set k v) by simp [List.map_set],xW v k hlt] at this
     exact this)
    have HR1:Hid (Blk (wr.setCell ⟨t,k,none⟩ (.int .u8 v)) w.heap.size (u8s (zeros 32))):=Zh (H1.setOther (by have:=HL.out;simp only;omega) _);have HR3:Hid (Below w.heap.size w (wr.setCell ⟨t,k,none⟩ (.int .u8 v))):=Zh (H3.setCell (by have:=HL.out;simp only;omega) _)
    go_wp2_with fail
    go_roundg (32-(k+1))
    case measure=>omega
    case rel=>exact⟨k+1,by omega,by omega,by go_num,HR1.out,HR.out,HR3.out⟩
  · obtain rfl:k=32:=by omega
    rw [Nat.sub_self,show zeros 0=[] from rfl,List.append_nil] at H2;have HLN:Hid ((rp 32 v).length=32):=Zh (by simp [rp]);have HZ:Hid ((zeros 32).length=32):=Zh (J1 32);have hrp:List.replicate 32 v=rp 32 v:=rfl;rw [hrp] at H2;obtain⟨p,hp⟩:∃p,rp 32 v=p:=⟨_,rfl⟩
    rw [hp] at H2 HLN;have HP:=Zh hp;clear hp hlt hrp;go_upto_region 6 with fail;refine Zl ?_;refine KX (cs:=(u8s p).toArray) (Blk.all H2.out rfl) (by rw [J2,HLN.out]) rfl rfl ?_;refine nm ?_;refine J3 (cs:=(u8s p).toArray) H1.out (by rw [J2,HLN.out,List.length_map,HZ.out]) (by rw [J2,HLN.out];exact Kl) (Jj _) rfl rfl rfl ?_;intro w9 hD hO hlD;refine nm ?_;have HD:=Zh hD;have HR:=Zh (H3.trans (hO.below H3.size fun k hk=>Nat.le_of_eq hk.symm));clear hD hO hlD;go_wp2_with fail
    refine bodyPost_ret (v:=.agg (u8s p).toArray) (Jp rfl _ _ w.heap.size 0 _ _ rfl Tryz.underlying43 rfl (by rw [J2,HLN.out];exact Kl) (Blk.all HD.out rfl)) rfl ⟨by rw [HP.out],HR.out⟩
def Za(id v:Int):Bk:=⟨1,id,rp 32 v,0,[],0,zeros 8⟩
def X5(id v:Int):It:=⟨(1,id),Za id v⟩
theorem J8s(id v:Int):Tryz.prog.built 82 [(0,.int .i64 1),(1,.int .i64 id),(2,.agg (u8s (rp 32 v)).toArray)]=some ((Za id v).arr (.slice none 0 0)):=by kernel_rfl
theorem J8t(id v:Int):Tryz.prog.built 84 [(0,.agg #[.int .i64 1,.int .i64 id]),(1,.agg ((Za id v).arr (.slice none 0 0)))]=some ((X5 id v).arr (.slice none 0 0)):=by kernel_rfl
theorem xX(k i:Int):Tryz.prog.built 79 [(0,.int .i64 k),(1,.int .i64 i)]=some #[.int .i64 k,.int .i64 i]:=by kernel_rfl
theorem Yw(n:Nat):∀x∈zeros n,Jh x:=fun x hx=>by
 rw [List.eq_of_mem_replicate hx];exact K7
theorem Y6{id v:Int}(h:Jh id)(hv:Ks v):(X5 id v).Wf:=⟨J8r,h,⟨J8r,h,K7,K7,by simp [X5,Za,rp],(fun x hx=>by rw [List.eq_of_mem_replicate (show x∈List.replicate 32 v from hx)];exact hv),Nat.zero_le _,(fun x hx=>by cases hx),J1 8,Yw 8⟩⟩
theorem xc(id v:Int)(h:Jh id)(hv:Ks v)(w:World):Calls Tryz.prog 22 #[.int .i64 id,.int .u8 v] w (Zr w (.agg ((X5 id v).arr (.slice none 0 0)))):=by
 have HL:=Zh fun w=>kU v w;have HW:=Zh (Y6 h hv);clear h hv;go_enter Tryz.func22,Tryz.ntmps22;go_upto_region 0 with fail;refine Zl ?_;refine J4 ZK rfl ?_;intro w1 hA hb hl;refine nm ?_;have HA:=Zh hA;have HB:=Zh hb;have HLT:=Zh hl;clear hA hb hl;go_upto_region 1 with fail;refine Zl ?_;refine tk (.int .i64 id) ?_;refine tk (.agg #[.int .i64 1,.int .i64 id]) ?_ (hr:=(J8 _ _ _ _ 79 _ rfl #[(0,.int .i64 1),(1,.int .i64 id)] (by simp only [List.map_toArray,List.map_cons,List.map_nil];rfl) _ (run_build w1 79 _ _ (xX _ _))));refine tk (.int .i64 id) ?_;refine tk (.int .u8 v) ?_;refine J0 rfl fun K hK=>?_;go_simp;refine (HL.out _).mono ?_;rintro e w2 ⟨rfl,hb⟩;have HB2:=Zh (Jk HB.out hb);have HA2:=Zh (HA.below hb HLT.out);clear hb HA HB HL;refine hK _ _ (nm ?_);clear hK K;refine tk (.agg ((Za id v).arr (.slice none 0 0))) ?_ (hr:=(J8 _ _ _ _ 82 _ rfl #[(0,.int .i64 1),(1,.int .i64 id),(2,.agg (u8s (rp 32 v)).toArray)] (by simp only [List.map_toArray,List.map_cons,List.map_nil];rfl) _ (run_build w2 82 _ _ (J8s _ _))));refine tk (.agg ((X5 id v).arr (.slice none 0 0))) ?_ (hr:=(J8 _ _ _ _ 84 _ rfl #[(0,.agg #[.int .i64 1,.int .i64 id]),(1,.agg ((Za id v).arr (.slice none 0 0)))] (by simp only [List.map_toArray,List.map_cons,List.map_nil];rfl) _ (run_build w2 84 _ _ (J8t _ _))));refine J3 (cs:=(X5 id v).arr (.slice none 0 0)) HA2.out (xR It.none_wf HW.out _ _) (ZL HW.out _) (It.arr_one rfl) rfl rfl rfl ?_;intro w3 hD hO hlD;refine nm ?_;have HB3:=Zh (HB2.trans (hO.below HB2.size fun k hk=>Nat.le_of_eq hk.symm));go_wp2_with fail
 refine bodyPost_ret (v:=.agg ((X5 id v).arr (.slice none 0 0))) (Jp rfl _ _ w.heap.size 0 _ _ rfl Tryz.underlying84 rfl (ZL HW.out _) (hD.all rfl)) rfl ⟨rfl,HB3.out⟩
theorem Qa{iv:Value}{pl:List (It×Value)}(h:ItemsAt w iv pl):∃a c,iv=.slice a pl.length c:=by
 obtain⟨a,c,e,-⟩:=h;exact⟨a,c,e⟩
theorem jp(W:World)(o:Obj):Below W.heap.size W (W.alloc o):=Zq.alloc Zy _
theorem same82{b c:Bk}(h:b.Wf)(k:c.Wf)(sv cv:Value):(b.cells sv).length=(c.arr cv).size:=by rw [Bk.cells_length h,Bk.arr_size k]
theorem JZ{P:Program}{o:Oper}{a:Act}{w:World}{K:Act→World→Prop}{Q:Exit→Act→World→Prop}(dst:Option Tmp)(hd:o.dst=dst)(w':World)(hr:(execOp a.eval o).run P w=.ok .skip w')(h:K (a.put dst undef) w'):o.wp P a w K Q:=by
 subst hd;unfold Oper.wp;rw [hr];exact h
variable {B b i n:Nat} {l:List Int} {sv v:Value} {w w':World}
def J1h(n:Int)(L:List It):St:=if JH L then Jd n L else ([],[])
theorem J3x(h:Below B w w')(hb:B≤b)(hB:B≤w.heap.size):Below B w (w'.setCell ⟨b,i,none⟩ v):=h.trans (((Only.refl (fun k=>k=b) w').setCell (p:=⟨b,i,none⟩) (.inl rfl) v).below (Nat.le_trans hB h.size) fun k hk=>by omega)
theorem xY{e s t:Nat}{xs:List Value}(h:w.ownsRow B e s sv n xs)(ho:Only (fun k=>k=t) w w')(ht:t<B):w'.ownsRow B e s sv n xs:=by
 refine⟨h.1,?_⟩;rcases h.2 with hn|⟨g,cap,cur,e,hB,hg,r⟩
 · exact .inl hn
 · exact .inr ⟨g,cap,cur,e,hB,(ho.block g (Array.getElem?_eq_some_iff.1 hg).1 (by omega)).trans hg,r⟩
theorem OwnN.onlyN{t:Nat}(h:OwnN w B sv l)(ho:Only (fun k=>k=t) w w')(ht:t<B):OwnN w' B sv l:=xY h ho ht
theorem xd(l:List (It×Value))(L:List It)(hL:l.map (·.1)=L)(n:Int)(hn:Kh n)(sv:Value)(hlen:l.length<100000)(w:World)(h:ItemsAt w sv l):Calls Tryz.prog 109 #[.int .u32 n,sv] w fun e w'=>∃s7 s8,e=.returned (.tuple #[s7,s8,.int .i64 (if JH L then 0 else 1)])∧Two w w' s7 s8 (J1h n L):=by
 cases hm:JH L
 · refine (J8q l L hL hm n sv hlen w h).mono ?_;rintro e w' ⟨rfl,hb⟩;refine⟨_,_,rfl,?_⟩;unfold J1h;rw [hm];exact⟨OwnS.nil _ _,OwnN.nil _ _,hb⟩
 · refine (J3v l L hL hm n hn sv w h).mono ?_;rintro e w' ⟨s7,s8,rfl,ht⟩;refine⟨_,_,rfl,?_⟩;unfold J1h;rw [hm];exact ht
end Go.Proofs.YtdbfmikeaoaebaaGreatDoor
