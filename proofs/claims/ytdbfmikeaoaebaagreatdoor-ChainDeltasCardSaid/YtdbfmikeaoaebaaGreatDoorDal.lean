/- Steps. -/
import Derived.Test.YtdbfmikeaoaebaaGreatDoorDak
import Derived.BigQuiet
import Derived.Deep.DeepFit
import Derived.Deep.DeepMust
import Derived.Deep.LoopGhost
import Derived.Deep.QuietTactic
import Derived.Lib.Hide
import Derived.OrdersHeld
import Derived.WalkKit
import Derived.WalkLawsBesides
import Derived.WalkSpells
import Derived.Test.YtdbfmikeaoaebaaGreatDoorDaj
import Derived.Deep.AppendLies
import Derived.Deep.Cut
import Derived.Deep.CutRange
import Derived.Deep.Upon
import Derived.Laws.CopyRow
import Derived.Laws.Rows
import Derived.Laws.StructEq
import Derived.Lib.AppendZeros
import Derived.Lib.EndianBits
import Derived.RegionTactic
set_option linter.unusedSimpArgs false
set_option linter.unusedVariables false
set_option maxRecDepth 100000
set_option maxHeartbeats 4000000
namespace Go.Proofs.YtdbfmikeaoaebaaGreatDoor
open Go.RowKit Rn
variable {F:Nat→Prop} {W0:World} {X:List (List Int)} {b:Nat}
def chE(X:List (List Int))(n:Int)(g:Pl.Gm)(id head:Int):Int :=
 if ¬(g.Ok∧(0≤id∧id<g.p)∧4+g.s*g.l≤n) then 1 else if head=0 then 17 else if (Jm X g id 3 head).isNone then 13 else 0
theorem zP(dq:Option Addr)(n:Nat)(g:Pl.Gm)(id head:Int)(w:World)(hv:Vars w)(HL:∀w',Below w.heap.size w w'→Calls Tryz.prog 33 #[.pointer dq] w' fun e w''=>e=.returned (.int .i64 n)∧w'=w'')(hg:¬g.Ok):Calls Tryz.prog 35 #[.pointer dq,g.v,.int .i64 id,.int .i64 head] w fun e w'=>qj 1 chZ e w'∧Below w.heap.size w w':=by
 have H:=Rn.St.start (Stays.below w) (Below.refl _ _);have HG:=Zh hg;clear hv HL hg;go_enter Tryz.func35,Tryz.ntmps35;go_upto_region 0 with fail;refine Zl ?_;refine bx H ?_ (hns:=(Jg g).ns);clear H;intro g1 w1 H;refine al Kc H ?_ (hns:=chz_ob.ns);clear H;intro g2 w2 H;refine tk (Value.nilIface) ?_;go_upto_region 1 with fail;refine Zl ?_;refine ldO (Jg g) H 0 ?_;refine cl (Pl.Zv g HG.out _) H ?_;clear H;intro w3 H;refine tk (.bool true) ?_;refine tk (.bool true) ?_;go_upto_region 2 with fail;refine Zl ?_;refine Jh (X7 _) rfl ?_;refine nm ?_;refine J0 rfl fun K hK=>?_;go_simp;refine (new_err 1 rfl _ _).mono ?_;rintro e w4 ⟨T4,d4,t4,s4,rfl,hc,hb⟩;replace H:=(H.call hb).chain hc;clear hc hb;refine hK _ _ (nm ?_);clear hK K;refine stO chz_ob (Ob.len chz_ob chz_ob) H 1 ?_;clear H;intro w4 H;refine tk (.iface T4 d4) ?_;go_wp2_with fail
 exact Y6 chz_ob H 1 rfl ⟨⟨_,_,_,_,rfl,H.ex.2⟩,H.ex.1⟩
theorem zQ(dq:Option Addr)(n:Nat)(g:Pl.Gm)(id head:Int)(w:World)(hv:Vars w)(HL:∀w',Below w.heap.size w w'→Calls Tryz.prog 33 #[.pointer dq] w' fun e w''=>e=.returned (.int .i64 n)∧w'=w'')(hg:g.Ok)(hid:id<0):Calls Tryz.prog 35 #[.pointer dq,g.v,.int .i64 id,.int .i64 head] w fun e w'=>qj 1 chZ e w'∧Below w.heap.size w w':=by
 have H:=Rn.St.start (Stays.below w) (Below.refl _ _);have HG:=Zh hg;have HID:=Zh hid;clear hv HL hg hid;go_enter Tryz.func35,Tryz.ntmps35;go_upto_region 0 with fail;refine Zl ?_;refine bx H ?_ (hns:=(Jg g).ns);clear H;intro g1 w1 H;refine al Kc H ?_ (hns:=chz_ob.ns);clear H;intro g2 w2 H;refine tk (Value.nilIface) ?_;go_upto_region 1 with fail;refine Zl ?_;refine ldO (Jg g) H 0 ?_;refine cl (Pl.JW g HG.out _) H ?_;clear H;intro w3 H;refine tk (.bool false) ?_;refine tk (.bool false) ?_;go_upto_region 3 with fail;refine Zl ?_;refine tk (.int .i64 id) ?_;refine tk (.bool true) ?_ (hr:=by go_simp;have:=HID.out;omega);refine tk (.bool true) ?_;refine ps ?_;refine ps ?_;refine ps ?_;refine ps ?_;refine tk (.bool true) ?_;refine tk (.bool true) ?_;go_upto_region 4 with fail;refine Zl ?_;refine Jh (X7 _) rfl ?_;refine nm ?_;refine J0 rfl fun K hK=>?_;go_simp;refine (new_err 1 rfl _ _).mono ?_;rintro e w4 ⟨T4,d4,t4,s4,rfl,hc,hb⟩;replace H:=(H.call hb).chain hc;clear hc hb;refine hK _ _ (nm ?_);clear hK K;refine stO chz_ob (Ob.len chz_ob chz_ob) H 1 ?_;clear H;intro w4 H;refine tk (.iface T4 d4) ?_;go_wp2_with fail
 exact Y6 chz_ob H 1 rfl ⟨⟨_,_,_,_,rfl,H.ex.2⟩,H.ex.1⟩
theorem yh(dq:Option Addr)(n:Nat)(g:Pl.Gm)(id head:Int)(w:World)(hv:Vars w)(HL:∀w',Below w.heap.size w w'→Calls Tryz.prog 33 #[.pointer dq] w' fun e w''=>e=.returned (.int .i64 n)∧w'=w'')(hg:g.Ok)(hid:0≤id∧g.p≤id):Calls Tryz.prog 35 #[.pointer dq,g.v,.int .i64 id,.int .i64 head] w fun e w'=>qj 1 chZ e w'∧Below w.heap.size w w':=by
 have H:=Rn.St.start (Stays.below w) (Below.refl _ _);have HG:=Zh hg;have HID:=Zh hid;clear hv HL hg hid;go_enter Tryz.func35,Tryz.ntmps35;go_upto_region 0 with fail;refine Zl ?_;refine bx H ?_ (hns:=(Jg g).ns);clear H;intro g1 w1 H;refine al Kc H ?_ (hns:=chz_ob.ns);clear H;intro g2 w2 H;refine tk (Value.nilIface) ?_;go_upto_region 1 with fail;refine Zl ?_;refine ldO (Jg g) H 0 ?_;refine cl (Pl.JW g HG.out _) H ?_;clear H;intro w3 H;refine tk (.bool false) ?_;refine tk (.bool false) ?_;go_upto_region 3 with fail;refine Zl ?_;refine tk (.int .i64 id) ?_;refine tk (.bool false) ?_ (hr:=by go_simp;have:=HID.out;omega);refine tk (.bool false) ?_;refine tk (.int .i64 id) ?_;refine tk (.pointer (some ⟨g1,0,none⟩)) ?_;refine lc H 0 (0) ?_;refine tk (.bool true) ?_ (hr:=by go_simp;have:=HID.out;omega);refine tk (.bool true) ?_;refine tk (.bool true) ?_;go_upto_region 4 with fail;refine Zl ?_;refine Jh (X7 _) rfl ?_;refine nm ?_;refine J0 rfl fun K hK=>?_;go_simp;refine (new_err 1 rfl _ _).mono ?_;rintro e w4 ⟨T4,d4,t4,s4,rfl,hc,hb⟩;replace H:=(H.call hb).chain hc;clear hc hb;refine hK _ _ (nm ?_);clear hK K;refine stO chz_ob (Ob.len chz_ob chz_ob) H 1 ?_;clear H;intro w4 H;refine tk (.iface T4 d4) ?_;go_wp2_with fail
 exact Y6 chz_ob H 1 rfl ⟨⟨_,_,_,_,rfl,H.ex.2⟩,H.ex.1⟩
theorem zR(dq:Option Addr)(n:Nat)(g:Pl.Gm)(id head:Int)(w:World)(hv:Vars w)(HL:∀w',Below w.heap.size w w'→Calls Tryz.prog 33 #[.pointer dq] w' fun e w''=>e=.returned (.int .i64 n)∧w'=w'')(hg:g.Ok)(hid:0≤id∧id<g.p)(hto:(n:Int)<4+g.s*g.l):Calls Tryz.prog 35 #[.pointer dq,g.v,.int .i64 id,.int .i64 head] w fun e w'=>qj 1 chZ e w'∧Below w.heap.size w w':=by
 have H:=Rn.St.start (Stays.below w) (Below.refl _ _);have HG:=Zh hg;have HID:=Zh hid;have HLN:=Zh HL;have HTO:=Zh hto;clear hv HL hg hid hto;go_enter Tryz.func35,Tryz.ntmps35;go_upto_region 0 with fail;refine Zl ?_;refine bx H ?_ (hns:=(Jg g).ns);clear H;intro g1 w1 H;refine al Kc H ?_ (hns:=chz_ob.ns);clear H;intro g2 w2 H;refine tk (Value.nilIface) ?_;go_upto_region 1 with fail;refine Zl ?_;refine ldO (Jg g) H 0 ?_;refine cl (Pl.JW g HG.out _) H ?_;clear H;intro w3 H;refine tk (.bool false) ?_;refine tk (.bool false) ?_;go_upto_region 3 with fail;refine Zl ?_;refine tk (.int .i64 id) ?_;refine tk (.bool false) ?_ (hr:=by go_simp;have:=HID.out;omega);refine tk (.bool false) ?_;refine tk (.int .i64 id) ?_;refine tk (.pointer (some ⟨g1,0,none⟩)) ?_;refine lc H 0 (0) ?_;refine tk (.bool false) ?_ (hr:=by go_simp;have:=HID.out;omega);refine tk (.bool false) ?_;refine tk (.bool false) ?_;go_upto_region 5 with fail;refine J9 (fun wq=>Blk wq g1 ([.int .i64 g.p,.int .i64 g.s,.int .i64 g.l,.int .i64 g.f])) (by kernel_rfl) ?_;replace H:=H.drew;refine th 0 30 (.pointer dq) (H.blk 0 _ _ rfl) ?_;refine th 2 32 (.agg ([.int .i64 g.p,.int .i64 g.s,.int .i64 g.l,.int .i64 g.f]).toArray) (H.blk 0 _ _ rfl) ?_ (hy:=fun u hS=>Kf (Jg g) hS _ _ _ rfl rfl);refine Zo 1 fun K hK=>?_;go_simp;refine (HLN.out _ H.ex).mono ?_;rintro e w4 ⟨rfl,rfl⟩;refine hK _ _ (H.blk 0 _ _ rfl) (nm ?_);clear hK K;refine Zo 3 fun K hK=>?_;go_simp;refine (Pl.QB g HG.out _).mono ?_;rintro e w5 ⟨rfl,hb⟩;replace H:=H.call hb;clear hb;refine hK _ _ (H.blk 0 _ _ rfl) (nm ?_);clear hK K;refine th 4 34 (.bool true) (H.blk 0 _ _ rfl) ?_ (hy:=fun wq hS=>by go_simp;have:=HTO.out;omega);refine th 5 29 (.bool true) (H.blk 0 _ _ rfl) ?_;refine Zd ?_;go_upto_region 6 with fail;refine Zl ?_;refine Jh (X7 _) rfl ?_;refine nm ?_;refine J0 rfl fun K hK=>?_;go_simp;refine (new_err 1 rfl _ _).mono ?_;rintro e w6 ⟨T6,d6,t6,s6,rfl,hc,hb⟩;replace H:=(H.call hb).chain hc;clear hc hb;refine hK _ _ (nm ?_);clear hK K;refine stO chz_ob (Ob.len chz_ob chz_ob) H 1 ?_;clear H;intro w6 H;refine tk (.iface T6 d6) ?_;go_wp2_with fail
 exact Y6 chz_ob H 1 rfl ⟨⟨_,_,_,_,rfl,H.ex.2⟩,H.ex.1⟩
theorem ZY(dq:Option Addr)(n:Nat)(g:Pl.Gm)(id head:Int)(w:World)(hv:Vars w)(HL:∀w',Below w.heap.size w w'→Calls Tryz.prog 33 #[.pointer dq] w' fun e w''=>e=.returned (.int .i64 n)∧w'=w'')(hg:g.Ok)(hid:0≤id∧id<g.p)(hto:4+g.s*g.l≤(n:Int))(hh:head=0):Calls Tryz.prog 35 #[.pointer dq,g.v,.int .i64 id,.int .i64 head] w fun e w'=>qj 17 chZ e w'∧Below w.heap.size w w':=by
 have H:=Rn.St.start (Stays.below w) (Below.refl _ _);have HG:=Zh hg;have HID:=Zh hid;have HLN:=Zh HL;have HTO:=Zh hto;have HH:=Zh hh;clear hv HL hg hid hto hh;go_enter Tryz.func35,Tryz.ntmps35;go_upto_region 0 with fail;refine Zl ?_;refine bx H ?_ (hns:=(Jg g).ns);clear H;intro g1 w1 H;refine al Kc H ?_ (hns:=chz_ob.ns);clear H;intro g2 w2 H;refine tk (Value.nilIface) ?_;go_upto_region 1 with fail;refine Zl ?_;refine ldO (Jg g) H 0 ?_;refine cl (Pl.JW g HG.out _) H ?_;clear H;intro w3 H;refine tk (.bool false) ?_;refine tk (.bool false) ?_;go_upto_region 3 with fail;refine Zl ?_;refine tk (.int .i64 id) ?_;refine tk (.bool false) ?_ (hr:=by go_simp;have:=HID.out;omega);refine tk (.bool false) ?_;refine tk (.int .i64 id) ?_;refine tk (.pointer (some ⟨g1,0,none⟩)) ?_;refine lc H 0 (0) ?_;refine tk (.bool false) ?_ (hr:=by go_simp;have:=HID.out;omega);refine tk (.bool false) ?_;refine tk (.bool false) ?_;go_upto_region 5 with fail;refine J9 (fun wq=>Blk wq g1 ([.int .i64 g.p,.int .i64 g.s,.int .i64 g.l,.int .i64 g.f])) (by kernel_rfl) ?_;replace H:=H.drew;refine th 0 30 (.pointer dq) (H.blk 0 _ _ rfl) ?_;refine th 2 32 (.agg ([.int .i64 g.p,.int .i64 g.s,.int .i64 g.l,.int .i64 g.f]).toArray) (H.blk 0 _ _ rfl) ?_ (hy:=fun u hS=>Kf (Jg g) hS _ _ _ rfl rfl);refine Zo 1 fun K hK=>?_;go_simp;refine (HLN.out _ H.ex).mono ?_;rintro e w4 ⟨rfl,rfl⟩;refine hK _ _ (H.blk 0 _ _ rfl) (nm ?_);clear hK K;refine Zo 3 fun K hK=>?_;go_simp;refine (Pl.QB g HG.out _).mono ?_;rintro e w5 ⟨rfl,hb⟩;replace H:=H.call hb;clear hb;refine hK _ _ (H.blk 0 _ _ rfl) (nm ?_);clear hK K;refine th 4 34 (.bool false) (H.blk 0 _ _ rfl) ?_ (hy:=fun wq hS=>by go_simp;have:=HTO.out;omega);refine th 5 29 (.bool false) (H.blk 0 _ _ rfl) ?_;refine Zd ?_;go_upto_region 7 with fail;refine Zl ?_;refine tk (.int .i64 head) ?_;refine tk (.bool true) ?_ (hr:=by go_simp;simp [HH.out]);refine tk (.bool true) ?_;go_upto_region 8 with fail;refine Zl ?_;refine Jh (X7 _) rfl ?_;refine nm ?_;refine J0 rfl fun K hK=>?_;go_simp;refine (new_err 17 rfl _ _).mono ?_;rintro e w6 ⟨T6,d6,t6,s6,rfl,hc,hb⟩;replace H:=(H.call hb).chain hc;clear hc hb;refine hK _ _ (nm ?_);clear hK K;refine stO chz_ob (Ob.len chz_ob chz_ob) H 1 ?_;clear H;intro w6 H;refine tk (.iface T6 d6) ?_;go_wp2_with fail
 exact Y6 chz_ob H 1 rfl ⟨⟨_,_,_,_,rfl,H.ex.2⟩,H.ex.1⟩
theorem jN{g:Pl.Gm}(hg:g.Ok)(id head:Int)(hid:0≤id∧id<g.p)(hh:head≠0)(hsm:Jk head)(w:World)(hv:Vars w){d:De.D}(hd:De.Dv W0 w b F d)(hLn:d.L.length≤1000000)(hX:Img d X)(ht:4+g.s*g.l≤(X.length:Int))(hc:Jm X g id 3 head=none):Calls Tryz.prog 35 #[.pointer (some ⟨b,0,none⟩),g.v,.int .i64 id,.int .i64 head] w fun e w'=>qj 13 chZ e w'∧Below w.heap.size w w':=by
 have H:=Rn.St.start (Stays.below w) (Below.refl _ _);have HV:=Zh hv;have HG:=Zh hg;have HID:=Zh hid;have HH:=Zh hh;obtain⟨n,hn⟩:∃n,d.S.length=n:=⟨_,rfl⟩
 have HTO:Hid (4+g.s*g.l≤(n:Int)):=Zh (by have:=hX.len;omega);have HLN:Hid (∀w',Below w.heap.size w w'→Calls Tryz.prog 33 #[.pointer (some ⟨b,0,none⟩)] w' fun e w''=>e=.returned (.int .i64 n)∧w'=w''):=Zh fun w' hb=>hn ▸ De.ji (hd.below hb);have HFO:Hid (∀w',Below w.heap.size w w'→Calls Tryz.prog 58 #[.pointer (some ⟨b,0,none⟩),g.v,.int .i64 id,.int .i64 head] w' fun e w2=>Jay w'.heap.size (Jm X g id 3 head) e w2∧Below w'.heap.size w' w2):=Zh fun w' hb=>qk hg id head hsm w' (hv.below (Nat.le_refl _) hb) (hd.below hb) hLn hX ht;have HC:=Zh hc;clear hg hid hh hsm hv hd hLn hX ht hc hn;go_enter Tryz.func35,Tryz.ntmps35;go_upto_region 0 with fail;refine Zl ?_;refine bx H ?_ (hns:=(Jg g).ns);clear H;intro g1 w1 H;refine al Kc H ?_ (hns:=chz_ob.ns);clear H;intro g2 w2 H;refine tk (Value.nilIface) ?_;go_upto_region 1 with fail;refine Zl ?_;refine ldO (Jg g) H 0 ?_;refine cl (Pl.JW g HG.out _) H ?_;clear H;intro w3 H;refine tk (.bool false) ?_;refine tk (.bool false) ?_;go_upto_region 3 with fail;refine Zl ?_;refine tk (.int .i64 id) ?_;refine tk (.bool false) ?_ (hr:=by go_simp;have:=HID.out;omega);refine tk (.bool false) ?_;refine tk (.int .i64 id) ?_;refine tk (.pointer (some ⟨g1,0,none⟩)) ?_;refine lc H 0 (0) ?_;refine tk (.bool false) ?_ (hr:=by go_simp;have:=HID.out;omega);refine tk (.bool false) ?_;refine tk (.bool false) ?_;go_upto_region 5 with fail;refine J9 (fun wq=>Blk wq g1 ([.int .i64 g.p,.int .i64 g.s,.int .i64 g.l,.int .i64 g.f])) (by kernel_rfl) ?_;replace H:=H.drew;refine th 0 30 (.pointer (some ⟨b,0,none⟩)) (H.blk 0 _ _ rfl) ?_;refine th 2 32 (.agg ([.int .i64 g.p,.int .i64 g.s,.int .i64 g.l,.int .i64 g.f]).toArray) (H.blk 0 _ _ rfl) ?_ (hy:=fun u hS=>Kf (Jg g) hS _ _ _ rfl rfl);refine Zo 1 fun K hK=>?_;go_simp;refine (HLN.out _ H.ex).mono ?_;rintro e w4 ⟨rfl,rfl⟩;refine hK _ _ (H.blk 0 _ _ rfl) (nm ?_);clear hK K;refine Zo 3 fun K hK=>?_;go_simp;refine (Pl.QB g HG.out _).mono ?_;rintro e w5 ⟨rfl,hb⟩;replace H:=H.call hb;clear hb;refine hK _ _ (H.blk 0 _ _ rfl) (nm ?_);clear hK K;refine th 4 34 (.bool false) (H.blk 0 _ _ rfl) ?_ (hy:=fun wq hS=>by go_simp;have:=HTO.out;omega);refine th 5 29 (.bool false) (H.blk 0 _ _ rfl) ?_;refine Zd ?_;go_upto_region 7 with fail;refine Zl ?_;refine tk (.int .i64 head) ?_;refine tk (.bool false) ?_ (hr:=by go_simp;simp [HH.out]);refine tk (.bool false) ?_;go_upto_region 9 with fail;refine Zl ?_;refine tk (.pointer (some ⟨b,0,none⟩)) ?_;refine ldO (Jg g) H 0 ?_;refine tk (.int .i64 id) ?_;refine tk (.int .i64 head) ?_;refine J0 rfl fun K hK=>?_;go_simp;refine (HFO.out _ H.ex).mono ?_;rw [HC.out];rintro e w6 ⟨⟨T6,d6,t6,s6,rfl,hc⟩,hb⟩;replace H:=(H.call hb).chain hc;clear hc hb;refine hK _ _ (nm ?_);clear hK K;refine tk (.tuple #[.agg chZ.toArray,.iface T6 d6]) ?_;refine tk (.agg chZ.toArray) ?_;refine tk (.iface T6 d6) ?_;refine al Kc H ?_ (hns:=chz_ob.ns);clear H;intro g7 w7 H;refine stO chz_ob (Ob.len chz_ob chz_ob) H 2 ?_;clear H;intro w7 H;refine tk (.iface T6 d6) ?_;go_upto_region 10 with fail;refine J9 (fun wq=>Blk wq g7 (chZ)) (by kernel_rfl) ?_;replace H:=H.drew;refine th 0 50 (.agg (chZ).toArray) (H.blk 2 _ _ rfl) ?_ (hy:=fun u hS=>Kf chz_ob hS _ _ _ rfl rfl);refine th 1 51 (.iface T6 d6) (H.blk 2 _ _ rfl) ?_;refine th 2 52 (.int .i64 id) (H.blk 2 _ _ rfl) ?_;refine Zo 3 fun K hK=>?_;go_simp;refine (Q5 id (by have:=HID.out;have:=HG.out.1;omega) (by have:=HID.out;have:=HG.out.1;omega) _ (HV.below (Nat.le_refl _) H.ex.1)).mono ?_;rintro e w8 ⟨sI,rfl,hsI,hb⟩
 replace H:=H.call hb;clear hb;refine hK _ _ (H.blk 2 _ _ rfl) (nm ?_);clear hK K;refine th 4 54 (.string (⟨#[112,97,103,101,32]⟩++sI)) (H.blk 2 _ _ rfl) ?_ (hy:=fun wq hS=>by go_simp;omega);refine Zo 5 fun K hK=>?_;go_simp;refine (wrap_err _ _ H.ex.2).mono ?_;rintro e w9 ⟨T9,d9,t9,s9,rfl,hc,hb⟩;replace H:=(H.call hb).chain hc;clear hc hb;refine hK _ _ (H.blk 2 _ _ rfl) (nm ?_);clear hK K;refine Zo 6 fun K hK=>?_;refine stH chz_ob (Ob.len chz_ob chz_ob) (H.blk 1 _ _ rfl) ?_;intro w10 hD hO;replace H:=St.via H 1 rfl chz_ob.ns hD hO;clear hD hO;refine hK _ _ (H.blk 2 _ _ rfl) (nm ?_);clear hK K;refine th 7 9 (.iface T9 d9) (H.blk 2 _ _ rfl) ?_;refine Zd ?_
 go_wp2_with fail
 exact Y6 chz_ob H 1 rfl ⟨⟨_,_,_,_,rfl,H.ex.2⟩,H.ex.1.1⟩
theorem ql{g:Pl.Gm}(hg:g.Ok)(id head:Int)(hid:0≤id∧id<g.p)(hh:head≠0)(hsm:Jk head)(w:World)(hv:Vars w){d:De.D}(hd:De.Dv W0 w b F d)(hLn:d.L.length≤1000000)(hX:Img d X)(ht:4+g.s*g.l≤(X.length:Int)){l:List (Int×Bk)}(hc:Jm X g id 3 head=some l):Calls Tryz.prog 35 #[.pointer (some ⟨b,0,none⟩),g.v,.int .i64 id,.int .i64 head] w fun e w'=>(∃sv,e=.returned (.tuple #[.agg (chC sv (Fo.comes (l.map (·.2)))).toArray,.nilIface])∧OwnN w' w.heap.size sv (l.map (·.1)))∧Below w.heap.size w w':=by
 have H:=Rn.St.start (Stays.below w) (Below.refl _ _);have HV:=Zh hv;have HG:=Zh hg;have HID:=Zh hid;have HH:=Zh hh;obtain⟨n,hn⟩:∃n,d.S.length=n:=⟨_,rfl⟩
 have HTO:Hid (4+g.s*g.l≤(n:Int)):=Zh (by have:=hX.len;omega);have HLN:Hid (∀w',Below w.heap.size w w'→Calls Tryz.prog 33 #[.pointer (some ⟨b,0,none⟩)] w' fun e w''=>e=.returned (.int .i64 n)∧w'=w''):=Zh fun w' hb=>hn ▸ De.ji (hd.below hb);have HFO:Hid (∀w',Below w.heap.size w w'→Calls Tryz.prog 58 #[.pointer (some ⟨b,0,none⟩),g.v,.int .i64 id,.int .i64 head] w' fun e w2=>Jay w'.heap.size (Jm X g id 3 head) e w2∧Below w'.heap.size w' w2):=Zh fun w' hb=>qk hg id head hsm w' (hv.below (Nat.le_refl _) hb) (hd.below hb) hLn hX ht;have HC:=Zh hc;have HCL:Hid ((Fo.comes (l.map (·.2))).length=32):=Zh (by have:=XA hc;have h2:=YE (L:=l.map (·.2)) (YT hX.sc hc);rw [this.1] at h2;exact h2);clear hg hid hh hsm hv hd hLn hX ht hc hn;go_enter Tryz.func35,Tryz.ntmps35;go_upto_region 0 with fail;refine Zl ?_;refine bx H ?_ (hns:=(Jg g).ns);clear H;intro g1 w1 H;refine al Kc H ?_ (hns:=chz_ob.ns);clear H;intro g2 w2 H;refine tk (Value.nilIface) ?_;go_upto_region 1 with fail;refine Zl ?_;refine ldO (Jg g) H 0 ?_;refine cl (Pl.JW g HG.out _) H ?_;clear H;intro w3 H;refine tk (.bool false) ?_;refine tk (.bool false) ?_;go_upto_region 3 with fail;refine Zl ?_;refine tk (.int .i64 id) ?_;refine tk (.bool false) ?_ (hr:=by go_simp;have:=HID.out;omega);refine tk (.bool false) ?_;refine tk (.int .i64 id) ?_;refine tk (.pointer (some ⟨g1,0,none⟩)) ?_;refine lc H 0 (0) ?_;refine tk (.bool false) ?_ (hr:=by go_simp;have:=HID.out;omega);refine tk (.bool false) ?_;refine tk (.bool false) ?_;go_upto_region 5 with fail;refine J9 (fun wq=>Blk wq g1 ([.int .i64 g.p,.int .i64 g.s,.int .i64 g.l,.int .i64 g.f])) (by kernel_rfl) ?_;replace H:=H.drew;refine th 0 30 (.pointer (some ⟨b,0,none⟩)) (H.blk 0 _ _ rfl) ?_;refine th 2 32 (.agg ([.int .i64 g.p,.int .i64 g.s,.int .i64 g.l,.int .i64 g.f]).toArray) (H.blk 0 _ _ rfl) ?_ (hy:=fun u hS=>Kf (Jg g) hS _ _ _ rfl rfl);refine Zo 1 fun K hK=>?_;go_simp;refine (HLN.out _ H.ex).mono ?_;rintro e w4 ⟨rfl,rfl⟩;refine hK _ _ (H.blk 0 _ _ rfl) (nm ?_);clear hK K;refine Zo 3 fun K hK=>?_;go_simp;refine (Pl.QB g HG.out _).mono ?_;rintro e w5 ⟨rfl,hb⟩;replace H:=H.call hb;clear hb;refine hK _ _ (H.blk 0 _ _ rfl) (nm ?_);clear hK K;refine th 4 34 (.bool false) (H.blk 0 _ _ rfl) ?_ (hy:=fun wq hS=>by go_simp;have:=HTO.out;omega);refine th 5 29 (.bool false) (H.blk 0 _ _ rfl) ?_;refine Zd ?_;go_upto_region 7 with fail;refine Zl ?_;refine tk (.int .i64 head) ?_;refine tk (.bool false) ?_ (hr:=by go_simp;simp [HH.out]);refine tk (.bool false) ?_;go_upto_region 9 with fail;refine Zl ?_;refine tk (.pointer (some ⟨b,0,none⟩)) ?_;refine ldO (Jg g) H 0 ?_;refine tk (.int .i64 id) ?_;refine tk (.int .i64 head) ?_;refine J0 rfl fun K hK=>?_;go_simp;refine (HFO.out _ H.ex).mono ?_;rw [HC.out];rintro e w6 ⟨⟨sv,rfl,ho⟩,hb⟩;have HSL:=Zh ho.sl;have HUP:=Zh (Nat.le_trans H.sz (Nat.le_refl _));replace H:=St.owns H hb ho;clear ho hb;refine hK _ _ (nm ?_);clear hK K;refine tk (.tuple #[.agg (chC sv (Fo.comes (l.map (·.2)))).toArray,.nilIface]) ?_;refine tk (.agg (chC sv (Fo.comes (l.map (·.2)))).toArray) ?_;refine tk (.nilIface) ?_;refine al Kc H ?_ (hns:=chz_ob.ns);clear H;intro g7 w7 H;refine stO (Ks HSL.out HCL.out) (Ob.len (Ks HSL.out HCL.out) chz_ob) H 2 ?_;clear H;intro w7 H;refine tk (.nilIface) ?_;go_upto_region 10 with fail;refine J9 (fun wq=>Blk wq g7 (chC sv (Fo.comes (l.map (·.2))))) (by kernel_rfl) ?_;replace H:=H.drew;refine th 0 50 (.agg (chC sv (Fo.comes (l.map (·.2)))).toArray) (H.blk 2 _ _ rfl) ?_ (hy:=fun u hS=>Kf (Ks HSL.out HCL.out) hS _ _ _ rfl rfl)
 refine th 1 51 (.nilIface) (H.blk 2 _ _ rfl) ?_;refine th 2 52 (.int .i64 id) (H.blk 2 _ _ rfl) ?_;refine Zo 3 fun K hK=>?_;go_simp;refine (Q5 id (by have:=HID.out;have:=HG.out.1;omega) (by have:=HID.out;have:=HG.out.1;omega) _ (HV.below (Nat.le_refl _) H.ex.1)).mono ?_;rintro e w8 ⟨sI,rfl,hsI,hb⟩;replace H:=H.call hb;clear hb;refine hK _ _ (H.blk 2 _ _ rfl) (nm ?_);clear hK K;refine th 4 54 (.string (⟨#[112,97,103,101,32]⟩++sI)) (H.blk 2 _ _ rfl) ?_ (hy:=fun wq hS=>by go_simp;omega);refine Zo 5 fun K hK=>?_;go_simp;refine (J8q _ _).mono ?_;rintro e w9 ⟨rfl,rfl⟩;refine hK _ _ (H.blk 2 _ _ rfl) (nm ?_);clear hK K;refine Zo 6 fun K hK=>?_;refine stH (Ks HSL.out HCL.out) (Ob.len (Ks HSL.out HCL.out) chz_ob) (H.blk 1 _ _ rfl) ?_;intro w10 hD hO;replace H:=St.via H 1 rfl (Ks HSL.out HCL.out).ns hD hO;clear hD hO;refine hK _ _ (H.blk 2 _ _ rfl) (nm ?_);clear hK K;refine th 7 9 (.nilIface) (H.blk 2 _ _ rfl) ?_;refine Zd ?_
 go_wp2_with fail
 refine Y6 (Ks HSL.out HCL.out) H 1 rfl ⟨?_,H.ex.1⟩;exact⟨sv,rfl,OwnN.mono H.ex.2 HUP.out⟩
open Go.RowKit Rn
theorem jw(n:Int)(dq:Option Addr)(g:Pl.Gm)(id head:Int)(w:World)(hv:Vars w)(hc:∀w',Below w.heap.size w w'→Calls Tryz.prog 35 #[.pointer dq,g.v,.int .i64 id,.int .i64 head] w' fun e w2=>qj n chZ e w2∧Below w'.heap.size w' w2):Calls Tryz.prog 13 #[.pointer dq,g.v,.int .i64 id,.int .i64 head] w (Zr w (.tuple #[.agg chZ.toArray,.int .i64 n])):=by
 have H:=Rn.St.start (Stays.below w) (Below.refl _ _);have HV:=Zh hv;have HC:=Zh hc;clear hv hc;go_enter Tryz.func13,Tryz.ntmps13;go_upto_region 0 with fail;refine Zl ?_;refine bx H ?_ (hns:=(Jg g).ns);clear H;intro g1 w1 H;refine al Kc H ?_ (hns:=chz_ob.ns);clear H;intro g2 w2 H;refine tk (.int .i64 0) ?_;go_upto_region 1 with fail;refine Zl ?_;refine tk (.pointer dq) ?_;refine ldO (Jg g) H 0 ?_;refine tk (.int .i64 id) ?_;refine tk (.int .i64 head) ?_;refine J0 rfl fun K hK=>?_;go_simp;refine (HC.out _ H.ex).mono ?_;rintro e w3 ⟨⟨T3,d3,t3,s3,rfl,hc⟩,hb⟩;replace H:=(H.call hb).chain hc;clear hc hb;refine hK _ _ (nm ?_);clear hK K;refine tk (.tuple #[.agg chZ.toArray,.iface T3 d3]) ?_;refine tk (.agg chZ.toArray) ?_;refine tk (.iface T3 d3) ?_;refine al Kc H ?_ (hns:=chz_ob.ns);clear H;intro g4 w4 H;refine stO chz_ob (Ob.len chz_ob chz_ob) H 2 ?_;clear H;intro w4 H;refine tk (.iface T3 d3) ?_;go_upto_region 2 with fail;refine J9 (fun wq=>Blk wq g4 (chZ)) (by kernel_rfl) ?_;replace H:=H.drew;refine th 0 20 (.agg (chZ).toArray) (H.blk 2 _ _ rfl) ?_ (hy:=fun u hS=>Kf chz_ob hS _ _ _ rfl rfl);refine th 1 21 (.iface T3 d3) (H.blk 2 _ _ rfl) ?_;refine Zo 2 fun K hK=>?_;go_simp;refine (J14 n _ _ _ _ (HV.below (Nat.le_refl _) H.ex.1).1 H.ex.2).mono ?_;rintro e w5 ⟨rfl,hb⟩;replace H:=H.call hb;clear hb;refine hK _ _ (H.blk 2 _ _ rfl) (nm ?_);clear hK K;refine Zo 3 fun K hK=>?_;refine stH chz_ob (Ob.len chz_ob chz_ob) (H.blk 1 _ _ rfl) ?_;intro w6 hD hO;replace H:=St.via H 1 rfl chz_ob.ns hD hO;clear hD hO;refine hK _ _ (H.blk 2 _ _ rfl) (nm ?_);clear hK K;refine th 4 9 (.int .i64 n) (H.blk 2 _ _ rfl) ?_;refine Zd ?_
 go_wp2_with fail
 exact Y6 chz_ob H 1 rfl ⟨rfl,H.ex.1⟩
theorem Jaz(pg:List Int)(hpg:pg.length=32)(ps:List Int)(dq:Option Addr)(g:Pl.Gm)(id head:Int)(w:World)(hv:Vars w)(hc:∀w',Below w.heap.size w w'→Calls Tryz.prog 35 #[.pointer dq,g.v,.int .i64 id,.int .i64 head] w' fun e w2=>(∃sv,e=.returned (.tuple #[.agg (chC sv pg).toArray,.nilIface])∧OwnN w2 w'.heap.size sv ps)∧Below w'.heap.size w' w2):Calls Tryz.prog 13 #[.pointer dq,g.v,.int .i64 id,.int .i64 head] w fun e w'=>(∃sv,e=.returned (.tuple #[.agg (chC sv pg).toArray,.int .i64 0])∧OwnN w' w.heap.size sv ps)∧Below w.heap.size w w':=by
 have H:=Rn.St.start (Stays.below w) (Below.refl _ _);have HV:=Zh hv;have HC:=Zh hc;have HCL:=Zh hpg;clear hv hc hpg;go_enter Tryz.func13,Tryz.ntmps13;go_upto_region 0 with fail;refine Zl ?_;refine bx H ?_ (hns:=(Jg g).ns);clear H;intro g1 w1 H;refine al Kc H ?_ (hns:=chz_ob.ns);clear H;intro g2 w2 H;refine tk (.int .i64 0) ?_;go_upto_region 1 with fail;refine Zl ?_;refine tk (.pointer dq) ?_;refine ldO (Jg g) H 0 ?_;refine tk (.int .i64 id) ?_;refine tk (.int .i64 head) ?_;refine J0 rfl fun K hK=>?_;go_simp;refine (HC.out _ H.ex).mono ?_;rintro e w3 ⟨⟨sv,rfl,ho⟩,hb⟩;have HSL:=Zh ho.sl;have HUP:=Zh H.sz;replace H:=St.owns H hb ho;clear ho hb;refine hK _ _ (nm ?_);clear hK K;refine tk (.tuple #[.agg (chC sv pg).toArray,.nilIface]) ?_;refine tk (.agg (chC sv pg).toArray) ?_;refine tk (.nilIface) ?_;refine al Kc H ?_ (hns:=chz_ob.ns);clear H;intro g4 w4 H;refine stO (Ks HSL.out HCL.out) (Ob.len (Ks HSL.out HCL.out) chz_ob) H 2 ?_;clear H;intro w4 H;refine tk (.nilIface) ?_;go_upto_region 2 with fail;refine J9 (fun wq=>Blk wq g4 (chC sv pg)) (by kernel_rfl) ?_;replace H:=H.drew;refine th 0 20 (.agg (chC sv pg).toArray) (H.blk 2 _ _ rfl) ?_ (hy:=fun u hS=>Kf (Ks HSL.out HCL.out) hS _ _ _ rfl rfl);refine th 1 21 (.nilIface) (H.blk 2 _ _ rfl) ?_;refine Zo 2 fun K hK=>?_;go_simp;refine (jg _).mono ?_;rintro e w5 ⟨rfl,rfl⟩;refine hK _ _ (H.blk 2 _ _ rfl) (nm ?_);clear hK K;refine Zo 3 fun K hK=>?_;refine stH (Ks HSL.out HCL.out) (Ob.len (Ks HSL.out HCL.out) chz_ob) (H.blk 1 _ _ rfl) ?_;intro w6 hD hO;replace H:=St.via H 1 rfl (Ks HSL.out HCL.out).ns hD hO;clear hD hO;refine hK _ _ (H.blk 2 _ _ rfl) (nm ?_);clear hK K;refine th 4 9 (.int .i64 0) (H.blk 2 _ _ rfl) ?_;refine Zd ?_
 go_wp2_with fail
 refine Y6 (Ks HSL.out HCL.out) H 1 rfl ⟨?_,H.ex.1⟩;exact⟨sv,rfl,OwnN.mono H.ex.2 HUP.out⟩
def ChR(B:Nat)(n:Int)(q:Option (List (Int×Bk)))(e:Ending)(w':World):Prop:=match q with
 | some l=>if n=0 then ∃sv,e=.returned (.tuple #[.agg (chC sv (Fo.comes (l.map (·.2)))).toArray,.int .i64 0])∧OwnN w' B sv (l.map (·.1)) else e=.returned (.tuple #[.agg chZ.toArray,.int .i64 n])
 | none=>e=.returned (.tuple #[.agg chZ.toArray,.int .i64 n])
theorem J6e(dq:Option Addr)(n:Nat)(g:Pl.Gm)(id head:Int)(w:World)(hv:Vars w)(HL:∀w',Below w.heap.size w w'→Calls Tryz.prog 33 #[.pointer dq] w' fun e w''=>e=.returned (.int .i64 n)∧w'=w'')(hn:¬(g.Ok∧(0≤id∧id<g.p)∧4+g.s*g.l≤(n:Int))):Calls Tryz.prog 13 #[.pointer dq,g.v,.int .i64 id,.int .i64 head] w (Zr w (.tuple #[.agg chZ.toArray,.int .i64 1])):=by
 refine jw 1 dq g id head w hv fun w' hb=>?_;have hv':=hv.below (Nat.le_refl _) hb;have HL':=fun w2 (hb2:Below w'.heap.size w' w2)=>HL w2 (Jr hb hb2)
 by_cases hg:g.Ok
 · by_cases h0:0≤id
   · by_cases h1:id<g.p
     · exact zR dq n g id head w' hv' HL' hg ⟨h0,h1⟩ (Int.not_le.1 fun h=>hn ⟨hg,⟨h0,h1⟩,h⟩)
     · exact yh dq n g id head w' hv' HL' hg ⟨h0,by omega⟩
   · exact zQ dq n g id head w' hv' HL' hg (by omega)
 · exact zP dq n g id head w' hv' HL' hg
theorem jx{X:List (List Int)}(g:Pl.Gm)(id head:Int)(hsm:Jk head)(w:World)(hv:Vars w){W0:World}{b:Nat}{F:Nat→Prop}{d:De.D}(hd:De.Dv W0 w b F d)(hLn:d.L.length≤1000000)(hX:Img d X):Calls Tryz.prog 13 #[.pointer (some ⟨b,0,none⟩),g.v,.int .i64 id,.int .i64 head] w fun e w'=>ChR w.heap.size (chE X X.length g id head) (Jm X g id 3 head) e w'∧Below w.heap.size w w':=by
 have hlen:=hX.len;have HL:∀w',Below w.heap.size w w'→Calls Tryz.prog 33 #[.pointer (some ⟨b,0,none⟩)] w' fun e w''=>e=.returned (.int .i64 X.length)∧w'=w'':=fun w' hb=>by rw [←hlen];exact De.ji (hd.below hb)
 unfold chE
 by_cases ha:g.Ok∧(0≤id∧id<g.p)∧4+g.s*g.l≤(X.length:Int)
 · rw [if_neg (not_not_intro ha)]
   by_cases h0:head=0
   · rw [if_pos h0];refine (jw 17 _ g id head w hv fun w' hb=>ZY _ X.length g id head w' (hv.below (Nat.le_refl _) hb) (fun w2 hb2=>HL w2 (Jr hb hb2)) ha.1 ha.2.1 ha.2.2 h0).mono fun e w' h=>⟨?_,h.2⟩
     unfold ChR;split
     · rw [if_neg (by decide)];exact h.1
     · exact h.1
   · rw [if_neg h0];cases hc:Jm X g id 3 head with
     | none=>exact (jw 13 _ g id head w hv fun w' hb=>jN ha.1 id head ha.2.1 h0 hsm w' (hv.below (Nat.le_refl _) hb) (hd.below hb) hLn hX ha.2.2 hc).mono fun e w' h=>h
     | some l =>
      have hl:(Fo.comes (l.map (·.2))).length=32:=by
       have h1:=XA hc;have h2:=YE (L:=l.map (·.2)) (YT hX.sc hc);rw [h1.1] at h2;exact h2
      refine (Jaz _ hl _ _ g id head w hv fun w' hb=>ql ha.1 id head ha.2.1 h0 hsm w' (hv.below (Nat.le_refl _) hb) (hd.below hb) hLn hX ha.2.2 hc).mono fun e w' h=>⟨?_,h.2⟩
      unfold ChR;exact YY rfl h.1
 · rw [if_pos ha];refine (J6e _ X.length g id head w hv HL ha).mono fun e w' h=>⟨?_,h.2⟩
   unfold ChR;split
   · rw [if_neg (by decide)];exact h.1
   · exact h.1
open Go.RowKit Rn
variable {A:Nat→Prop} {B N c g:Nat} {E:World→Prop} {L:List Value} {V:List (Nat×List Value)} {W w w':World} {fv hv ov tv v:Value} {l:List Int}
def K3(r:Rn.Rg)(hv ov:Value)(a:Ja)(fv:Value):List Value:=r.cells++[hv,ov,.int .i64 a.seg,.int .i64 a.off,.int .u32 a.seq,fv]
def JO(r:Rn.Rg)(hv ov:Value)(a:Ja)(fv dv mv:Value):List Value:=K3 r hv ov a fv++[dv,mv]
def atC(a:Ja)(fv:Value):List Value:=[.int .i64 a.seg,.int .i64 a.off,.int .u32 a.seq,fv]
theorem zS{r:Rn.Rg}(h:r.Wf)(hv ov:Value)(a:Ja)(fv:Value):(K3 r hv ov a fv).length=22:=by simp [K3,h.cells]
theorem Jb0{r:Rn.Rg}(h:r.Wf)(hv ov:Value)(a:Ja)(fv dv mv:Value):(JO r hv ov a fv dv mv).length=24:=by simp [JO,zS h]
theorem Zm{r:Rn.Rg}(h:r.Wf):Ob 56 r.cells:=⟨by rw [h.cells];kernel_rfl,.inl ⟨_,Tryz.underlying56⟩,Rn.Rg.cell_one r,Rn.Rg.noStr r⟩
theorem sta_mem{r:Rn.Rg}{a:Ja}(h:v∈K3 r hv ov a fv):v∈r.cells∨v=hv∨v=ov∨v=fv∨v=.int .i64 a.seg∨v=.int .i64 a.off∨v=.int .u32 a.seq:=by
 simp only [K3,List.mem_append,List.mem_cons,List.not_mem_nil,or_false] at h;rcases h with h|h|h|h|h|h|h <;> simp [h]
theorem Kt{r:Rn.Rg}(h:r.Wf){a:Ja}(h1:IsSl hv)(h2:IsSl ov)(h3:IsSl fv):Ob 60 (K3 r hv ov a fv) :=
 ⟨by rw [zS h];kernel_rfl,.inl ⟨_,Tryz.underlying60⟩,fun v hm=>by
  rcases sta_mem hm with hm|rfl|rfl|rfl|rfl|rfl|rfl
  · exact Rn.Rg.cell_one r v hm
  · exact h1.one
  · exact h2.one
  · exact h3.one
  · rfl
  · rfl
  · rfl,fun v hm=>by
  rcases sta_mem hm with hm|rfl|rfl|rfl|rfl|rfl|rfl
  · exact Rn.Rg.noStr r v hm
  · exact h1.ns
  · exact h2.ns
  · exact h3.ns
  · exact fun t e=>by cases e
  · exact fun t e=>by cases e
  · exact fun t e=>by cases e⟩
def Ji9(v:Value):Prop:=∃p,v=.pointer p
theorem YF{r:Rn.Rg}(h:r.Wf){dv mv:Value}{a:Ja}(h1:IsSl hv)(h2:IsSl ov)(h3:IsSl fv)(h4:Ji9 dv)(h5:IsSl mv):Ob 168 (JO r hv ov a fv dv mv):=by
 have ho:=Kt h h1 h2 h3 (a:=a);obtain⟨p,rfl⟩:=h4;refine⟨by rw [Jb0 h];kernel_rfl,.inl ⟨_,Tryz.underlying168⟩,fun v hm=>?_,fun v hm=>?_⟩
 · simp only [JO,List.mem_append,List.mem_cons,List.not_mem_nil,or_false] at hm;rcases hm with hm|rfl|rfl
   · exact ho.one v hm
   · rfl
   · exact h5.one
 · simp only [JO,List.mem_append,List.mem_cons,List.not_mem_nil,or_false] at hm;rcases hm with hm|rfl|rfl
   · exact ho.ns v hm
   · exact fun t e=>by cases e
   · exact h5.ns
theorem XR(a:Ja)(h:IsSl fv):Ob 58 (atC a fv):=by
 obtain⟨p,n,c,rfl⟩:=h;exact⟨by kernel_rfl,.inl ⟨_,Tryz.underlying58⟩,fun v hv=>by simp [atC] at hv;rcases hv with rfl|rfl|rfl|rfl <;> rfl,fun v hv t e=>by subst e;simp [atC] at hv⟩
theorem Jgw(h:l.length=8):Ob 54 (Js l):=⟨by rw [List.length_map,h];kernel_rfl,.inr ⟨_,_,Tryz.underlying54⟩,fun v hv=>by obtain⟨z,_,rfl⟩:=List.mem_map.1 hv;rfl,fun v hv t e=>by obtain⟨z,_,rfl⟩:=List.mem_map.1 hv;cases e⟩
abbrev geC(r:Rn.Rg):List Value:=[.int .i64 r.p,.int .i64 r.s,.int .i64 r.l,.int .i64 r.f]
theorem yi(r:Rn.Rg)(hv ov:Value)(a:Ja)(fv:Value):K3 r hv ov a fv=[.int .u32 r.gen]++(geC r++([.int .i64 r.seg,.int .i64 r.off,.int .u32 r.seq]++Js r.rs++[hv,ov,.int .i64 a.seg,.int .i64 a.off,.int .u32 a.seq,fv])):=by simp [K3,Rn.Rg.cells,Rn.Rg.hd]
theorem Jef(r:Rn.Rg)(hv ov:Value)(a:Ja)(fv:Value):K3 r hv ov a fv=r.hd++(Js r.rs++[hv,ov,.int .i64 a.seg,.int .i64 a.off,.int .u32 a.seq,fv]):=by simp [K3,Rn.Rg.cells]
theorem Jeg(r:Rn.Rg):r.cells=[.int .u32 r.gen]++(geC r++([.int .i64 r.seg,.int .i64 r.off,.int .u32 r.seq]++Js r.rs)):=by simp [Rn.Rg.cells,Rn.Rg.hd]
theorem ki(r:Rn.Rg)(hv ov:Value)(a:Ja)(fv dv mv:Value):JO r hv ov a fv dv mv=[.int .u32 r.gen]++(geC r++([.int .i64 r.seg,.int .i64 r.off,.int .u32 r.seq]++Js r.rs++[hv,ov,.int .i64 a.seg,.int .i64 a.off,.int .u32 a.seq,fv]++[dv,mv])):=by simp [JO,K3,Rn.Rg.cells,Rn.Rg.hd]
theorem yj(r:Rn.Rg)(hv ov:Value)(a:Ja)(fv dv mv:Value):JO r hv ov a fv dv mv=[]++(K3 r hv ov a fv++[dv,mv]):=by simp [JO]
theorem Jeh(r:Rn.Rg)(hv ov:Value)(a:Ja)(fv dv mv:Value):JO r hv ov a fv dv mv=[]++(r.cells++([hv,ov,.int .i64 a.seg,.int .i64 a.off,.int .u32 a.seq,fv]++[dv,mv])):=by simp [JO,K3]
theorem qm(r:Rn.Rg)(hv ov:Value)(a:Ja)(fv dv mv:Value):JO r hv ov a fv dv mv=(r.cells++[hv,ov])++(atC a fv++[dv,mv]):=by simp [JO,K3,atC]
theorem Xr{r:Rn.Rg}(h:r.Wf)(hv ov:Value)(a:Ja)(fv dv mv:Value)(k:Nat):(JO r hv ov a fv dv mv)[16+k]? = ([hv,ov,.int .i64 a.seg,.int .i64 a.off,.int .u32 a.seq,fv]++[dv,mv])[k]? := by
 unfold JO K3;rw [List.append_assoc,List.getElem?_append_right (by rw [h.cells];omega),h.cells,Nat.add_sub_cancel_left]
theorem kj{r:Rn.Rg}(h:r.Wf)(hv ov:Value)(a:Ja)(fv dv mv:Value)(k:Nat)(v:Value):(JO r hv ov a fv dv mv).set (16+k) v=r.cells++(([hv,ov,.int .i64 a.seg,.int .i64 a.off,.int .u32 a.seq,fv]++[dv,mv]).set k v):=by
 unfold JO K3;rw [List.append_assoc,List.set_append_right _ _ (by rw [h.cells];omega),h.cells,Nat.add_sub_cancel_left]
theorem J6f{r:Rn.Rg}(h:r.Wf)(hv ov:Value)(a:Ja)(fv dv mv v:Value):(JO r hv ov a fv dv mv).set 16 v=JO r v ov a fv dv mv:=by rw [show 16=16+0 from rfl,kj h];simp [JO,K3]
theorem J6g{r:Rn.Rg}(h:r.Wf)(hv ov:Value)(a:Ja)(fv dv mv v:Value):(JO r hv ov a fv dv mv).set 17 v=JO r hv v a fv dv mv:=by rw [show 17=16+1 from rfl,kj h];simp [JO,K3]
theorem J6h{r:Rn.Rg}(h:r.Wf)(hv ov:Value)(a:Ja)(fv dv mv v:Value):(JO r hv ov a fv dv mv).set 21 v=JO r hv ov a v dv mv:=by rw [show 21=16+5 from rfl,kj h];simp [JO,K3]
theorem J6i{r:Rn.Rg}(h:r.Wf)(hv ov:Value)(a:Ja)(fv dv mv v:Value):(JO r hv ov a fv dv mv).set 23 v=JO r hv ov a fv dv v:=by rw [show 23=16+7 from rfl,kj h];simp [JO,K3]
theorem Jb1{r:Rn.Rg}(h:r.Wf)(hv ov:Value)(a:Ja)(fv:Value)(k:Nat):(K3 r hv ov a fv)[16+k]? = [hv,ov,.int .i64 a.seg,.int .i64 a.off,.int .u32 a.seq,fv][k]? := by
 unfold K3;rw [List.getElem?_append_right (by rw [h.cells];omega),h.cells,Nat.add_sub_cancel_left]
abbrev LE(W:World)(B:Nat)(lv:Value)(l:List Int)(u:World):Prop:=FB W B u∧OwnN u B lv l
abbrev LA(lv:Value)(k:Nat):Prop:=False∨lv.ownBlock=some k
theorem St.row0(h:Rn.St W.heap.size (fun _=>False) (fun u=>Below W.heap.size W u) V w):Rn.St W.heap.size (LA (.slice none 0 0)) (LE W w.heap.size (.slice none 0 0) []) V w:=by
 have h2:Rn.St W.heap.size (fun _=>False) (FB W w.heap.size) V w:=⟨h.sz,h.blk,h.ge,h.nd,⟨h.ex,Nat.le_refl _⟩,Stays.fb _ _,h.av,h.ns⟩
 exact St.add h2 (OwnN.nil _ _) Stays.own fun p _ hk=>by cases hk
theorem St.appL{lv:Value}(h:Rn.St W.heap.size (LA lv) (LE W B lv l) V w)(hw:W.heap.size≤B){m:List Int}(k:IntsAt w tv m)(hlen:l.length+m.length≤1000000)(ty:TypeId) :
 ∃lv' w',(Builtin.append_ #[41,41] ty #[lv,tv]).run Tryz.prog w=.ok lv' w'∧Rn.St W.heap.size (LA lv') (LE W B lv' (l++m)) V w':=by
 obtain⟨lv',w',hr,hO,hg,hor⟩:=J3v h.ex.2 h.ex.1.2 k hlen ty;refine⟨lv',w',hr,Nat.le_trans h.sz hg.size,fun i g L hi=>(h.blk i g L hi).of_block (hg.block g (h.blk i g L hi).lt fun e=>h.av i g L hi (.inr e.symm)),h.ge,h.nd,⟨⟨h.ex.1.1.trans (K4 hg h.sz fun k hk=>by have:=(h.ex.2.lt k hk).1;omega),Nat.le_trans h.ex.1.2 hg.size⟩,hO⟩,(Stays.fb W B).both Stays.own,fun i g L hi hk=>?_,h.ns⟩;rcases hk with hk|hk
 · exact hk
 · rcases hor with e|e
   · exact h.av i g L hi (.inr (e ▸ hk))
   · rw [e] at hk;cases hk;exact absurd (h.blk i _ L hi).lt (Nat.lt_irrefl _)
theorem St.less2{lv:Value}{A3:Nat→Prop}{E3:World→Prop}(h:Rn.St W.heap.size A3 (fun u=>LE W B lv l u∧E3 u) V w)(ha:∀k,LA lv k→A3 k:=by intro k hk;first|exact hk|exact .inl hk):Rn.St W.heap.size (LA lv) (LE W B lv l) V w :=
 ⟨h.sz,h.blk,h.ge,h.nd,h.ex.1,(Stays.fb W B).both Stays.own,fun i g L hi hk=>h.av i g L hi (ha _ hk),h.ns⟩
theorem St.appL2{lv:Value}{A3:Nat→Prop}{E3:World→Prop}(h:Rn.St W.heap.size (fun k=>LA lv k∨A3 k) (fun u=>LE W B lv l u∧E3 u) V w)(hw:W.heap.size≤B){m:List Int}(k:IntsAt w tv m)(hlen:l.length+m.length≤1000000)(ty:TypeId) :
 ∃lv' w',(Builtin.append_ #[41,41] ty #[lv,tv]).run Tryz.prog w=.ok lv' w'∧Rn.St W.heap.size (LA lv') (LE W B lv' (l++m)) V w':=St.appL (St.less2 h) hw k hlen ty
theorem St.newg(h:Rn.St N A E V w)(hns:∀v∈L,∀t,v≠.string t)(hg:w.heap.size=g)(hA:Blk w' g L)(hb:Below w.heap.size w w'):Rn.St N A E (V++[(g,L)]) w':=by
 subst hg;exact h.new hns hA hb
theorem Jia{x:Int}(h:Blk w g [.int .i64 x]):IntsAt w (.slice (some ⟨g,0,none⟩) 1 c) [x]:=⟨_,c,rfl,fun i z hz=>by
 cases i with
 | zero =>
  simp at hz
  subst hz
  exact⟨g,0,rfl,h.cell rfl⟩
 | succ i=>simp at hz⟩
theorem J6j(w:World)(ev:Operand→Value)(op:Oper)(x y:Operand)(ho:op.op=.index 54 x y)(hl:l.length=8)(j:Nat)(z:Int)(hz:l[j]? = some z)(hx:ev x=.agg (Js l).toArray)(hy:ev y=.int .i64 j):(execOp ev op).run Tryz.prog w=.ok (.value (.int .i64 z)) w:=by
 unfold execOp;simp only [ho,hx,hy,Sem.run_bind,jZ w l hl j z hz,Result.andThen_ok,Sem.run_pure]
def J6k(B:Nat)(q:Option (List Int))(e:Ending)(w':World):Prop:=match q with
 | some l=>∃sv,e=.returned (.tuple #[sv,.nilIface])∧OwnN w' B sv l
 | none=>∃T d t ts,e=.returned (.tuple #[.slice none 0 0,.iface T d])∧Chain w' 13 (t::ts) (.iface T d)
open Go.RowKit
namespace Ca
open Go.RowKit Pl
open Go.RowKit
open Go.RowKit
open Go.RowKit
theorem maps_yes(g:Gm)(h:g.Ok)(w:World):Calls Tryz.prog 82 #[g.v] w (Zr w (.int .i64 g.maps)):=by
 have H:=Zh fun w=>JW g h w;obtain⟨⟨h1,h2⟩,_,_,_⟩:=h;go_enter Tryz.func82,Tryz.ntmps82
 go_wp2_with fail
 refine (H.out _).mono ?_;rintro e w1 ⟨rfl,hb⟩;have HB:=Zh (KY hb);clear hb;have c0:=HB.out.2.1.p
 go_wp2_with fail
 go_ret;exact⟨k8 (by unfold Gm.maps;rw [Int.tdiv_eq_ediv_of_nonneg (by omega)];omega),HB.out.1⟩
open Go.RowKit
theorem Jgx(a b:Int):(if b<a then b else a)=min a b:=by split <;> omega
theorem Jgy(a b:Int):(if a<b then b else a)=max a b:=by split <;> omega
theorem J3w(g:Gm)(h:g.Ok)(w:World):Calls Tryz.prog 126 #[g.v] w (Zr w (.int .i64 g.cap)):=by
 have H:=Zh fun w=>JW g h w;have HM:=Zh fun w=>maps_yes g h w;obtain⟨m0,m1,_⟩:=h.maps;obtain⟨⟨h1,h2⟩,⟨h3,h4⟩,_,_⟩:=h;have HC:Hid (max 0 (min g.p ((4*(g.s-4)-g.maps)/3))=g.cap):=Zh rfl;go_enter Tryz.func126,Tryz.ntmps126
 go_wp2_with fail
 refine (H.out _).mono ?_;rintro e w1 ⟨rfl,hb⟩;have HB:=Zh (KY hb);clear hb
 go_wp2_with fail
 refine J9 (fun wq=>Below w1.heap.size w1 wq) (by kernel_rfl) ?_;refine Jl 0 (some 6) (.pointer (some ⟨w.heap.size,0,none⟩)) rfl rfl (by kernel_rfl) (by kernel_rfl) (by kernel_rfl) (fun _ _ _ h=>h) rfl (fun w _=>by go_simp) (Below.refl _ _).drew ?_;refine nm ?_;refine Jl 1 (some 7) (.int .i64 g.p) rfl rfl (by kernel_rfl) (by kernel_rfl) (by kernel_rfl) (fun _ _ _ h=>h) rfl (fun w hS=>by obtain⟨c0,c1,c2,c3⟩:=HB.out.2.1.below hS HB.out.2.2;go_simp) (Below.refl _ _).drew ?_;refine nm ?_;refine Jl 2 (some 8) (.pointer (some ⟨w.heap.size,1,none⟩)) rfl rfl (by kernel_rfl) (by kernel_rfl) (by kernel_rfl) (fun _ _ _ h=>h) rfl (fun w _=>by go_simp) (Below.refl _ _).drew ?_;refine nm ?_;refine Jl 3 (some 9) (.int .i64 g.s) rfl rfl (by kernel_rfl) (by kernel_rfl) (by kernel_rfl) (fun _ _ _ h=>h) rfl (fun w hS=>by obtain⟨c0,c1,c2,c3⟩:=HB.out.2.1.below hS HB.out.2.2;go_simp) (Below.refl _ _).drew ?_;refine nm ?_;refine Jl 4 (some 10) (.int .i64 (g.s-4)) rfl rfl (by kernel_rfl) (by kernel_rfl) (by kernel_rfl) (fun _ _ _ h=>h) rfl (fun w _=>by go_simp <;> first|done|(go_ints;first|done|trivial)) (Below.refl _ _).drew ?_;refine nm ?_;refine Jl 5 (some 11) (.int .i64 (4*((g.s-4)))) rfl rfl (by kernel_rfl) (by kernel_rfl) (by kernel_rfl) (fun _ _ _ h=>h) rfl (fun w _=>by go_simp <;> first|done|(go_ints;first|done|trivial)) (Below.refl _ _).drew ?_;refine nm ?_;refine Jl 6 (some 12) (g.v) rfl rfl (by kernel_rfl) (by kernel_rfl) (by kernel_rfl) (fun _ _ _ h=>h) rfl (fun w hS=>by obtain⟨c0,c1,c2,c3⟩:=HB.out.2.1.below hS HB.out.2.2;go_simp) (Below.refl _ _).drew ?_;refine nm ?_;refine Zo 7 fun K hK=>?_;go_simp;refine (HM.out _).mono ?_;rintro e w1 ⟨rfl,hb⟩;have HS1:=Zh (Jr (Below.refl _ _).drew hb);refine hK _ _ HS1.out ?_;clear hK hb K;refine nm ?_;refine Jl 8 (some 14) (.int .i64 (((4*((g.s-4))))-g.maps)) rfl rfl (by kernel_rfl) (by kernel_rfl) (by kernel_rfl) (fun _ _ _ h=>h) rfl (fun w _=>by go_simp <;> first|done|(go_ints;first|done|trivial)) HS1.out ?_;refine nm ?_;refine Jl 9 (some 15) (.int .i64 (((((4*((g.s-4))))-g.maps))/3)) rfl rfl (by kernel_rfl) (by kernel_rfl) (by kernel_rfl) (fun _ _ _ h=>h) rfl (fun w _=>by go_simp <;> first|done|(go_ints;first|done|trivial)) HS1.out ?_;refine nm ?_;refine Jl 10 (some 16) (.int .i64 (min g.p (((((4*((g.s-4))))-g.maps))/3))) rfl rfl (by kernel_rfl) (by kernel_rfl) (by kernel_rfl) (fun _ _ _ h=>h) rfl (fun w _=>by go_simp <;> exact Jgx _ _) HS1.out ?_;refine nm ?_;refine Jl 11 (some 17) (.int .i64 (max 0 (min g.p (((((4*((g.s-4))))-g.maps))/3)))) rfl rfl (by kernel_rfl) (by kernel_rfl) (by kernel_rfl) (fun _ _ _ h=>h) rfl (fun w _=>by go_simp <;> exact Jgy _ _) HS1.out ?_;refine nm ?_;refine Jl 12 (some 2) (.int .i64 (max 0 (min g.p (((((4*((g.s-4))))-g.maps))/3)))) rfl rfl (by kernel_rfl) (by kernel_rfl) (by kernel_rfl) (fun _ _ _ h=>h) rfl (fun w _=>by go_simp) HS1.out ?_;refine nm ?_;refine Zd ?_
 go_wp2_with fail
 go_ret;exact⟨k8 HC.out,HB.out.1.trans (HS1.mono HB.out.1.size)⟩
end Ca
open Go.RowKit Rn
variable {A:Nat→Prop} {E:World→Prop} {L M:List Value} {N c g n:Nat} {V:List (Nat×List Value)} {l:List Int} {sv v:Value} {w w':World}
section
variable {ops:Array Oper} {rest:List Oper} {dst:Option Tmp} {x y:Operand} {t:TypeId} {t2:TypeId} {pos:String} {after:Array Edge} {guard:Option (Nat×Bool)} {a:Act} {w:World} {Q:Exit→Act→World→Prop}
theorem Jis(o:Ob t L)(hB:Blk w g L){G:Prop}(k:G)(hx:a.eval x=.pointer (some ⟨g,0,none⟩):=by rfl)(hw:Region.wanted ⟨dst,.load t x,t2,pos,after,guard⟩ (yielded ops a.tmps)=true:=by rfl)(m:G→wpList Tryz.prog ops Q rest (a.put dst (.agg L.toArray)) w:=by intro h;(try simp only [Act.put,List.setIfInBounds_toArray,List.set_cons_succ,List.set_cons_zero]);exact h):wpList Tryz.prog ops Q (⟨dst,.load t x,t2,pos,after,guard⟩::rest) a w:=by
 rcases o.ag with ⟨f,hu⟩|⟨n,e,hu⟩
 · exact Jd hw t x rfl g 0 hx L.toArray _ hu rfl (by rw [List.size_toArray];exact o.sz) (Blk.all hB rfl) (m k)
 · exact Jd hw t x rfl g 0 hx L.toArray _ hu rfl (by rw [List.size_toArray];exact o.sz) (Blk.all hB rfl) (m k)
theorem kk{p q:List Value}(hm:M=p++(L++q))(hB:Blk w g M):∀j (hj:j<L.toArray.size),w.cell? ⟨g,p.length+j,none⟩=some L.toArray[j]:=fun j hj=>by
 subst hm;exact hB.cell (Jau (by rw [List.getElem?_eq_getElem (by simpa using hj)];simp))
theorem Jit{p q:List Value}(o:Ob t L)(hB:Blk w g M)(hm:M=p++(L++q)){G:Prop}(k:G)(hc:p.length=c:=by rfl)(hx:a.eval x=.pointer (some ⟨g,c,none⟩):=by rfl)(hw:Region.wanted ⟨dst,.load t x,t2,pos,after,guard⟩ (yielded ops a.tmps)=true:=by rfl)(m:G→wpList Tryz.prog ops Q rest (a.put dst (.agg L.toArray)) w:=by intro h;(try simp only [Act.put,List.setIfInBounds_toArray,List.set_cons_succ,List.set_cons_zero]);exact h):wpList Tryz.prog ops Q (⟨dst,.load t x,t2,pos,after,guard⟩::rest) a w:=by
 subst hc;rcases o.ag with ⟨f,hu⟩|⟨n,e,hu⟩
 · exact Jd hw t x rfl g _ hx L.toArray _ hu rfl (by rw [List.size_toArray];exact o.sz) (kk hm hB) (m k)
 · exact Jd hw t x rfl g _ hx L.toArray _ hu rfl (by rw [List.size_toArray];exact o.sz) (kk hm hB) (m k)
theorem QU{p q:List Value}(o:Ob t L)(hm:M=p++(L++q)){u:World}(hB:Blk u g M)(hc:p.length=c)(ev:Operand→Value)(op:Oper)(x:Operand)(ho:op.op=.load t x)(hx:ev x=.pointer (some ⟨g,c,none⟩)):(execOp ev op).run Tryz.prog u=.ok (.value (.agg L.toArray)) u:=by
 subst hc;rcases o.ag with ⟨f,hu⟩|⟨n,e,hu⟩
 · exact exec_load_at u ev op t x ho g _ hx L.toArray _ hu rfl (by rw [List.size_toArray];exact o.sz) (kk hm hB)
 · exact exec_load_at u ev op t x ho g _ hx L.toArray _ hu rfl (by rw [List.size_toArray];exact o.sz) (kk hm hB)
theorem lcb(hB:Blk w g L)(c':Nat){G:Prop}(k:G)(hc:c=c':=by rfl)(hl:L[c]? = some v:=by rfl)(hx:a.eval x=.pointer (some ⟨g,c,none⟩):=by rfl)(hw:Region.wanted ⟨dst,.load t x,t2,pos,after,guard⟩ (yielded ops a.tmps)=true:=by rfl)(r:w.cell? ⟨g,c,none⟩=some v→(execOp a.eval ⟨dst,.load t x,t2,pos,after,guard⟩).run Tryz.prog w=.ok (.value v) w:=by intro hq;go_simp)(m:G→wpList Tryz.prog ops Q rest (a.put dst v) w:=by intro h;(try simp only [Act.put,List.setIfInBounds_toArray,List.set_cons_succ,List.set_cons_zero]);exact h):wpList Tryz.prog ops Q (⟨dst,.load t x,t2,pos,after,guard⟩::rest) a w :=
 Qn v hw (r (hB.cell hl)) (m k)
end
theorem xk{r:Rn.Rg}(h:r.Wf)(hv ov:Value)(a:Ja)(fv dv mv:Value):(JO r hv ov a fv dv mv)[16]? = some hv:=Xr h hv ov a fv dv mv 0
theorem Jfa{r:Rn.Rg}(h:r.Wf)(hv ov:Value)(a:Ja)(fv dv mv:Value):(JO r hv ov a fv dv mv)[17]? = some ov:=Xr h hv ov a fv dv mv 1
theorem J3x{r:Rn.Rg}(h:r.Wf)(hv ov:Value)(a:Ja)(fv dv mv:Value):(JO r hv ov a fv dv mv)[18]? = some (.int .i64 a.seg):=Xr h hv ov a fv dv mv 2
theorem Jfb{r:Rn.Rg}(h:r.Wf)(hv ov:Value)(a:Ja)(fv dv mv:Value):(JO r hv ov a fv dv mv)[19]? = some (.int .i64 a.off):=Xr h hv ov a fv dv mv 3
theorem Jib{r:Rn.Rg}(h:r.Wf)(hv ov:Value)(a:Ja)(fv dv mv:Value):(JO r hv ov a fv dv mv)[21]? = some fv:=Xr h hv ov a fv dv mv 5
theorem J3y{r:Rn.Rg}(h:r.Wf)(hv ov:Value)(a:Ja)(fv dv mv:Value):(JO r hv ov a fv dv mv)[22]? = some dv:=Xr h hv ov a fv dv mv 6
theorem Jfc{r:Rn.Rg}(h:r.Wf)(hv ov:Value)(a:Ja)(fv dv mv:Value):(JO r hv ov a fv dv mv)[23]? = some mv:=Xr h hv ov a fv dv mv 7
def blL(l:List Bool):List Value:=l.map Value.bool
theorem Jgz(l:List Bool):∀v∈blL l,∀t,v≠.string t:=fun v hv t e=>by subst e;simp [blL] at hv
theorem Jh0:(Tryz.prog.info? 4).map (fun i=>(i.zero,i.size,i.bytes))=some (some (.bool false),1,1):=by kernel_rfl
theorem Jic(n:Nat)(hn:n≤1024)(w:World):(Instr.makeSlice 245 (.int .i64 (n:Int)) (.int .i64 (n:Int))).run Tryz.prog w=.ok (.slice (some ⟨w.heap.size,0,none⟩) n n) (w.alloc (.cells (blL (List.replicate n false)).toArray 4)):=by
 obtain⟨i,hi,hz,hs,hb⟩:=info_parts Jh0;have:=run_makeSlice (P:=Tryz.prog) w 245 4 i _ Tryz.underlying245 hi hz .i64 .i64 n n (by omega) (Int.le_refl _) (by rw [hs];simp;omega) (by rw [hb];omega) (by omega);rw [hs] at this;have e:madeCells #[.bool false] n=(blL (List.replicate n false)).toArray:=by
  apply Array.ext_getElem?;intro j
  by_cases hj:j<n <;> simp [madeCells,blL,hj,Nat.mod_one]
 rw [←e];simpa [Value.cells] using this
theorem St.owns0(h:Rn.St N A E V w)(hb:Below w.heap.size w w')(hy:OwnN w' w.heap.size sv l):Rn.St N (fun k=>A k∨sv.ownBlock=some k) (fun u=>E u∧OwnN u N sv l) V w':=by
 have k:=h.call hb;exact⟨k.sz,k.blk,k.ge,k.nd,⟨k.ex,hy.mono h.sz⟩,h.st.both Stays.own,fun i g L hi ho=>ho.elim (h.av i g L hi) fun ho=>absurd (h.blk i g L hi).lt (Nat.not_lt.2 (hy.lt g ho).1),h.ns⟩
section
variable {ops:Array Oper} {rest:List Oper} {dst:Option Tmp} {x y:Operand} {t2:TypeId} {pos:String} {after:Array Edge} {guard:Option (Nat×Bool)} {a:Act} {w:World} {Q:Exit→Act→World→Prop}
theorem mkB(hn:n≤1024)(hx:a.eval x=.int .i64 n)(hy:a.eval y=.int .i64 n)(hw:Region.wanted ⟨dst,.makeSlice 245 x y,t2,pos,after,guard⟩ (yielded ops a.tmps)=true)(h:∀g w',w.heap.size=g→Blk w' g (blL (List.replicate n false))→Below w.heap.size w w'→wpList Tryz.prog ops Q rest (a.put dst (.slice (some ⟨g,0,none⟩) n n)) w'):wpList Tryz.prog ops Q (⟨dst,.makeSlice 245 x y,t2,pos,after,guard⟩::rest) a w :=
 by
 refine Je _ _ hw ?_ (h _ _ rfl (Blk.new w (blL (List.replicate n false)).toArray 4) ((Below.refl _ _).alloc (Nat.le_refl _) (.cells (blL (List.replicate n false)).toArray 4)));unfold execOp;simp only [hx,hy,Sem.run_bind,Jic n hn w,Result.andThen_ok,Sem.run_pure]
theorem mkR(hn:n≤64)(hx:a.eval x=.int .i64 n)(hy:a.eval y=.int .i64 n)(hw:Region.wanted ⟨dst,.makeSlice 95 x y,t2,pos,after,guard⟩ (yielded ops a.tmps)=true)(h:∀g w',w.heap.size=g→Blk w' g (Mp.row (fun _=>Bk.none) n)→Below w.heap.size w w'→wpList Tryz.prog ops Q rest (a.put dst (.slice (some ⟨g,0,none⟩) n n)) w'):wpList Tryz.prog ops Q (⟨dst,.makeSlice 95 x y,t2,pos,after,guard⟩::rest) a w:=by
 refine Je _ _ hw ?_ (h _ _ rfl (Blk.new w (Mp.row (fun _=>Bk.none) n).toArray 82) ((Below.refl _ _).alloc (Nat.le_refl _) (.cells (Mp.row (fun _=>Bk.none) n).toArray 82)));unfold execOp;simp only [hx,hy,Sem.run_bind,Mp.Jgq n hn w,Result.andThen_ok,Sem.run_pure]
end
open Go.RowKit Rn
theorem ZZ{X:List (List Int)}{r:Rn.Rg}(hwf:r.Wf)(hg:r.g.Ok){hv ov fv:Value}(a:Ja)(hs:List Int)(hH:(hs.length:Int)=r.p)(hsm:∀x∈hs,Jk x)(w:World)(hi:IntsAt w hv hs)(h2:IsSl ov)(h3:IsSl fv)(hvr:Vars w){W0:World}{b:Nat}{F:Nat→Prop}{d:De.D}(hd:De.Dv W0 w b F d)(hLn:d.L.length≤1000000)(hX:Img d X)(ht:4+r.s*r.l≤(X.length:Int)):Calls Tryz.prog 51 #[.pointer (some ⟨b,0,none⟩),.agg (K3 r hv ov a fv).toArray] w fun e w'=>J6k w.heap.size (Ye X r.g hs r.rs) e w'∧Below w.heap.size w w':=by
 have H:=Rn.St.start (Stays.below w) (Below.refl _ _);have HV:=Zh hvr;have HWF:=Zh hwf;have HSO:=Zh h2;have HSF:=Zh h3;have HSM:=Zh hsm;have hg':=hg;obtain⟨⟨(p1:1≤r.p),(p64:r.p≤64)⟩,-⟩:=hg';obtain⟨n,hn⟩:∃n,hs.length=n:=⟨_,rfl⟩
 have hn0:0<hs.length:=by omega
 have HSH:=Zh hi.sl;obtain⟨hb,ho,hc,rfl,hcell⟩:=hi.has hn0;generalize hn:hs.length=n at *;have HN:=Zh hn;have HNP:Hid ((n:Int)=r.p∧1≤n∧n≤64):=Zh (by omega);have HCE:=Zh hcell;have HHS:Hid (JY X r.g 0 hs=(JY X r.g 0 hs).map ([]++·)):=Zh (by simp);have HNO:Hid (∀(k:Nat) w',k<n→Below w.heap.size w w'→Calls Tryz.prog 35 #[.pointer (some ⟨b,0,none⟩),r.g.v,.int .i64 k,.int .i64 0] w' fun e w2=>qj 17 chZ e w2∧Below w'.heap.size w' w2):=Zh fun k w' hk hb=>ZY _ X.length r.g k 0 w' (hvr.below (Nat.le_refl _) hb) (fun w2 hb2=>by rw [←hX.len];exact De.ji ((hd.below hb).below hb2)) hg ⟨by omega,by show (k:Int)<r.p;omega⟩ ht rfl;have HBD:Hid (∀(k:Nat) h w',k<n→h≠0→Jk h→Below w.heap.size w w'→Jm X r.g k 3 h=none→Calls Tryz.prog 35 #[.pointer (some ⟨b,0,none⟩),r.g.v,.int .i64 k,.int .i64 h] w' fun e w2=>qj 13 chZ e w2∧Below w'.heap.size w' w2):=Zh fun k h w' hk h0 hs hb hc=>jN hg k h ⟨by omega,by show (k:Int)<r.p;omega⟩ h0 hs w' (hvr.below (Nat.le_refl _) hb) (hd.below hb) hLn hX ht hc;have HOK:Hid (∀(k:Nat) h w' l,k<n→h≠0→Jk h→Below w.heap.size w w'→Jm X r.g k 3 h=some l→Calls Tryz.prog 35 #[.pointer (some ⟨b,0,none⟩),r.g.v,.int .i64 k,.int .i64 h] w' fun e w2=>(∃sv,e=.returned (.tuple #[.agg (chC sv (Fo.comes (l.map (·.2)))).toArray,.nilIface])∧OwnN w2 w'.heap.size sv (l.map (·.1)))∧Below w'.heap.size w' w2):=Zh fun k h w' l hk h0 hs hb hc=>ql hg k h ⟨by omega,by show (k:Int)<r.p;omega⟩ h0 hs w' (hvr.below (Nat.le_refl _) hb) (hd.below hb) hLn hX ht hc;have HPG:Hid (∀(k:Int) h l,Jm X r.g k 3 h=some l→(Fo.comes (l.map (·.2))).length=32):=Zh fun k h l hc=>by
  have h1:=XA hc;have h2:=YE (L:=l.map (·.2)) (YT hX.sc hc);rw [h1.1] at h2;exact h2
 clear hwf hg hH hsm hi h2 h3 hvr hd hLn hX ht hn hn0 hcell p1 p64;go_enter Tryz.func51,Tryz.ntmps51;go_upto_region 0 with fail;refine Zl ?_;refine bx H ?_ (hns:=(Kt HWF.out HSH.out HSO.out HSF.out).ns);clear H;intro g1 w1 H;refine tk (.slice none 0 0) ?_;refine tk (Value.nilIface) ?_;go_upto_region 1 with fail;refine Zl ?_;refine tk (.slice none 0 0) ?_;refine Zn ?_;have HB0:=Zh H.sz;obtain⟨B,hB⟩:∃B,w1.heap.size=B:=⟨_,rfl⟩
 have HR:=St.row0 H;rw [hB] at HR HB0;clear H hB;have H:=HR;clear HR;go_upto_region 2 with fail;refine Zl ?_;refine tk (.pointer (some ⟨g1,16,none⟩)) ?_;refine lc H 0 (16) ?_ (hl:=Jb1 HWF.out _ _ _ _ 0);refine tk (.int .i64 n) ?_;refine tk (.int .i64 0) ?_;go_wp2_with fail
 go_loopg [6,16] n (fun q s6 i wr=>∃(k:Nat) (acc:List Int) (lv:Value),n-k≤q∧k≤n∧i=.int .i64 k∧lv=s6∧acc.length≤3*k∧JY X r.g 0 hs=(JY X r.g k (hs.drop k)).map (acc++·)∧Rn.St w.heap.size (LA lv) (LE w B lv acc) [(g1,K3 r (.slice (some ⟨hb,ho,none⟩) n hc) ov a fv)] wr)
 case atStart=>exact⟨0,[],_,by omega,by omega,rfl,rfl,by simp,HHS.out,H⟩
 case round =>
  clear H HHS;obtain⟨k,acc,lv,hq,hk,rfl,rfl,hal,hpl,H⟩:=hrel;have HPL:=Zh hpl;have HAL:=Zh hal;have HQ:=Zh hq;clear hpl hal hq
  by_cases hlt:k<n
  · have hk1:(k:Int)<(n:Int):=by omega
    obtain⟨h,hh⟩:∃h,hs[k]? = some h:=⟨_,List.getElem?_eq_getElem (by have:=HN.out;omega)⟩
    have c0:=HCE.out k h hh;have c1:=(H.ex.1.1.cell (block_lt_of_cell c0)).trans c0;have HSMh:=Zh (HSM.out h (List.mem_of_getElem? hh));have HKN:=Zh hlt;have hdr:hs.drop k=h::hs.drop (k+1):=(List.drop_eq_getElem_cons (by have:=HN.out;omega)).trans (by rw [(List.getElem?_eq_some_iff.1 hh).2]);have HDR:=Zh hdr;clear c0 hh hdr hk hlt;go_upto_region 5 with fail;clear c1 hk1
    by_cases h0:h=0
    · subst h0;go_upto_region 5 with fail;refine Zl ?_;refine tk (.pointer (some ⟨b,0,none⟩)) ?_;refine tk (.pointer (some ⟨g1,0,none⟩)) ?_;refine tk (.pointer (some ⟨g1,1,none⟩)) ?_;refine ldP (Jg r.g) H 0 (yi _ _ _ _ _) ?_;refine tk (.int .i64 k) ?_;refine tk (.int .i64 0) ?_;refine J0 rfl fun K hK=>?_;go_simp;refine (HNO.out k _ HKN.out H.ex.1.1).mono ?_;rintro e w2 ⟨⟨T2,d2,t2,s2,rfl,hc⟩,hb⟩;replace H:=(H.call hb).chain hc;clear hc hb;refine hK _ _ (nm ?_);clear hK K;refine tk (.tuple #[.agg chZ.toArray,.iface T2 d2]) ?_;refine tk (.agg chZ.toArray) ?_;refine tk (.iface T2 d2) ?_;refine al Kc H ?_ (hns:=chz_ob.ns);clear H;intro g3 w3 H;refine stO chz_ob (Ob.len chz_ob chz_ob) H 1 ?_;clear H;intro w3 H;refine tk (.iface T2 d2) ?_;go_upto_region 6 with fail;refine Zl ?_;refine tk (.iface T2 d2) ?_;refine cl (Yv 17 17 true rfl _ _ _ _ H.ex.2) H ?_;clear H;intro w4 H;refine Zn ?_;have hb1:=HKN.out;have hb2:=HNP.out.2.2
      go_wp2_with fail
      go_roundg (n-(k+1))
      case measure=>have:=HQ.out;have:=HKN.out;omega
      case rel=>exact⟨k+1,acc,lv,by omega,by have:=HKN.out;omega,by go_num,rfl,by have:=HAL.out;omega,by rw [HPL.out,HDR.out,Ky rfl];rfl,(St.less2 H).cut 1⟩
    have H0:=Zh h0;cases hc2:Jm X r.g k 3 h
    · have HC:=Zh hc2;clear hc2 h0;go_upto_region 5 with fail;refine Zl ?_;refine tk (.pointer (some ⟨b,0,none⟩)) ?_;refine tk (.pointer (some ⟨g1,0,none⟩)) ?_;refine tk (.pointer (some ⟨g1,1,none⟩)) ?_;refine ldP (Jg r.g) H 0 (yi _ _ _ _ _) ?_;refine tk (.int .i64 k) ?_;refine tk (.int .i64 h) ?_;refine J0 rfl fun K hK=>?_;go_simp;refine (HBD.out k h _ HKN.out H0.out HSMh.out H.ex.1.1 HC.out).mono ?_;rintro e w2 ⟨⟨T2,d2,t2,s2,rfl,hc⟩,hb⟩;replace H:=(H.call hb).chain hc;clear hc hb;refine hK _ _ (nm ?_);clear hK K;refine tk (.tuple #[.agg chZ.toArray,.iface T2 d2]) ?_;refine tk (.agg chZ.toArray) ?_;refine tk (.iface T2 d2) ?_;refine al Kc H ?_ (hns:=chz_ob.ns);clear H;intro g3 w3 H;refine stO chz_ob (Ob.len chz_ob chz_ob) H 1 ?_;clear H;intro w3 H;refine tk (.iface T2 d2) ?_;go_upto_region 6 with fail;refine Zl ?_;refine tk (.iface T2 d2) ?_;refine cl (Yv 13 17 false rfl _ _ _ _ H.ex.2) H ?_;clear H;intro w4 H;go_upto_region 7 with fail;refine Zl ?_;refine tk (.iface T2 d2) ?_;refine tk (.bool true) ?_;go_upto_region 8 with fail;refine Zl ?_;refine tk (.iface T2 d2) ?_;refine J0 rfl fun K hK=>?_;go_simp;refine (wrap_err _ _ H.ex.2).mono ?_;rintro e w5 ⟨T5,d5,t5,s5,rfl,hc,hb⟩;replace H:=(H.call hb).chain hc;clear hc hb;refine hK _ _ (nm ?_);clear hK K;refine tk (.slice none 0 0) ?_;refine tk (.iface T5 d5) ?_;go_wp2_with fail
      go_ret2;refine⟨?_,H.ex.1.1.1.1⟩;unfold Ye;rw [HPL.out,HDR.out,qh H0.out HC.out];exact⟨_,_,_,_,rfl,H.ex.2⟩
    · rename_i l
      have HC:=Zh hc2;have HCL:=Zh (HPG.out k h l hc2);have HLN:=Zh (XI hc2).1;clear hc2 h0;go_upto_region 5 with fail;refine Zl ?_;refine tk (.pointer (some ⟨b,0,none⟩)) ?_;refine tk (.pointer (some ⟨g1,0,none⟩)) ?_;refine tk (.pointer (some ⟨g1,1,none⟩)) ?_;refine ldP (Jg r.g) H 0 (yi _ _ _ _ _) ?_;refine tk (.int .i64 k) ?_;refine tk (.int .i64 h) ?_;refine J0 rfl fun K hK=>?_;go_simp;refine (HOK.out k h _ _ HKN.out H0.out HSMh.out H.ex.1.1 HC.out).mono ?_;rintro e w2 ⟨⟨sv,rfl,ho⟩,hb⟩;have HSL:=Zh ho.sl;replace H:=St.owns H hb ho;clear ho hb;refine hK _ _ (nm ?_);clear hK K;refine tk (.tuple #[.agg (chC sv (Fo.comes (l.map (·.2)))).toArray,.nilIface]) ?_;refine tk (.agg (chC sv (Fo.comes (l.map (·.2)))).toArray) ?_;refine tk (.nilIface) ?_;refine al Kc H ?_ (hns:=chz_ob.ns);clear H;intro g3 w3 H;refine stO (Ks HSL.out HCL.out) (Ob.len (Ks HSL.out HCL.out) chz_ob) H 1 ?_;clear H;intro w3 H;refine tk (.nilIface) ?_;go_upto_region 6 with fail;refine Zl ?_;refine tk (.nilIface) ?_;refine cl (Yu 17 false rfl _) H ?_;clear H;intro w4 H;go_upto_region 7 with fail;refine Zl ?_;refine tk (.nilIface) ?_;refine tk (.bool false) ?_;go_upto_region 9 with fail;refine Zl ?_;refine tk (lv) ?_;refine tk (.pointer (some ⟨g3,0,none⟩)) ?_;refine lc H 1 (0) ?_;obtain⟨lv2,w5,hr,H2⟩:=St.appL2 H HB0.out (OwnN.ints H.ex.2) (by have:=HAL.out;have:=HNP.out;have:=HLN.out;have:=HKN.out;simp only [List.length_map];omega) 41;refine Je lv2 w5 rfl (KR _ _ _ _ 41 41 rfl lv sv lv2 rfl rfl hr) ?_;clear hr H;have H:=H2;clear H2;refine nm ?_;refine tk (lv2) ?_;refine Zn ?_;have hb1:=HKN.out;have hb2:=HNP.out.2.2
      go_wp2_with fail
      go_roundg (n-(k+1))
      case measure=>have:=HQ.out;have:=HKN.out;omega
      case rel=>exact⟨k+1,acc++l.map (·.1),lv2,by omega,by have:=HKN.out;omega,by go_num,rfl,by have:=HAL.out;have:=HLN.out;simp only [List.length_append,List.length_map];omega,by rw [HPL.out,HDR.out,XB H0.out HC.out,Option.map_map];congr 1;funext z;simp,H.cut 1⟩
  · obtain rfl:k=n:=by omega
    have HPN:Hid (Ye X r.g hs r.rs=some (acc++Q9 r.rs)):=Zh (by
     unfold Ye
     rw [HPL.out,List.drop_of_length_le (by have:=HN.out;omega)]
     simp [JY])
    have HA2:Hid (acc.length≤192):=Zh (by have:=HAL.out;have:=HNP.out;omega);have hk1:¬(k:Int)<(k:Int):=by omega
    clear HPL HAL HQ hk hlt;go_upto_region 11 with fail;clear hk1;go_upto_region 11 with fail;refine Zl ?_;refine tk (.pointer (some ⟨g1,0,none⟩)) ?_;refine tk (.pointer (some ⟨g1,8,none⟩)) ?_;refine ldP (Jgw HWF.len) H 0 (Jef _ _ _ _ _) ?_;refine tk (.int .i64 0) ?_;go_wp2_with fail
    go_loopg [6,45] 8 (fun q s6 i wr=>∃(j:Nat) (ac2:List Int) (lv:Value),8-j≤q∧j≤8∧i=.int .i64 j∧lv=s6∧ac2.length≤192+j∧acc++Q9 r.rs=ac2++Q9 (r.rs.drop j)∧Rn.St w.heap.size (LA lv) (LE w B lv ac2) [(g1,K3 r (.slice (some ⟨hb,ho,none⟩) k hc) ov a fv)] wr)
    case atStart=>exact⟨0,acc,_,by omega,by omega,rfl,rfl,by have:=HA2.out;omega,rfl,H⟩
    case round =>
     clear H;obtain⟨j,ac2,lv2,hq,hj,rfl,rfl,hal,hpl,H⟩:=hrel;have HPL:=Zh hpl;have HAL:=Zh hal;have HQ:=Zh hq;clear hpl hal hq
     by_cases hlt:j<8
     · obtain⟨h,hh⟩:∃h,r.rs[j]? = some h:=⟨_,List.getElem?_eq_getElem (by rw [HWF.len];exact hlt)⟩
       have HX:=Zh hh;have HKN:=Zh hlt;have hdr:r.rs.drop j=h::r.rs.drop (j+1):=(List.drop_eq_getElem_cons (by rw [HWF.len];exact hlt)).trans (by rw [(List.getElem?_eq_some_iff.1 hh).2]);have HDR:=Zh hdr;have hk1:(j:Int)<8:=by omega
       clear hh hdr hj hlt;go_upto_region 13 with fail;clear hk1;go_upto_region 13 with fail;refine Zl ?_;refine tk (.int .i64 h) ?_ (hr:=by exact J6j _ _ _ _ _ rfl HWF.len j h HX.out rfl rfl);refine tk (.int .i64 h) ?_;refine Zn ?_
       by_cases hh0:h=0
       · have HH0:=Zh hh0;clear hh0;go_upto_region 14 with fail;refine Zl ?_;refine tk (.int .i64 h) ?_;refine tk (.bool false) ?_ (hr:=by go_simp;simp [HH0.out]);refine Zn ?_;have hb1:=HKN.out
         go_wp2_with fail
         go_roundg (8-(j+1))
         case measure=>have:=HQ.out;have:=HKN.out;omega
         case rel=>exact⟨j+1,ac2,lv2,by omega,by have:=HKN.out;omega,by go_num,rfl,by have:=HAL.out;omega,by rw [HPL.out,HDR.out];simp [Q9,HH0.out],H.cut 1⟩
       · have HH0:=Zh hh0;clear hh0;go_upto_region 14 with fail;refine Zl ?_;refine tk (.int .i64 h) ?_;refine tk (.bool true) ?_ (hr:=by go_simp;simp [HH0.out]);go_upto_region 15 with fail;refine Zl ?_;refine tk (lv2) ?_;refine tk (.int .i64 h) ?_;refine J0 rfl fun K hK=>?_;refine J2d _ h 52 rfl rfl rfl fun gl w2 hg hA hb hl=>hK _ _ ?_;clear hK K;replace H:=St.newg H (fun v hv t e=>by subst e;simp at hv) hg hA hb;clear hA hb hl hg;refine nm ?_;have HI1:=Jia (c:=1) (H.blk 1 _ _ rfl);obtain⟨lv3,w3,hr,H2⟩:=St.appL H HB0.out HI1 (by have:=HAL.out;have:=HKN.out;simp;omega) 41;refine Je lv3 w3 rfl (KR _ _ _ _ 41 41 rfl lv2 (.slice (some ⟨gl,0,none⟩) 1 1) lv3 rfl rfl hr) ?_;clear hr H HI1;have H:=H2;clear H2;refine nm ?_;refine tk (lv3) ?_;refine Zn ?_;have hb1:=HKN.out
         go_wp2_with fail
         go_roundg (8-(j+1))
         case measure=>have:=HQ.out;have:=HKN.out;omega
         case rel=>exact⟨j+1,ac2++[h],lv3,by omega,by have:=HKN.out;omega,by go_num,rfl,by have:=HAL.out;simp;omega,by rw [HPL.out,HDR.out];simp [Q9,HH0.out],H.cut 1⟩
     · obtain rfl:j=8:=by omega
       have hf:ac2=acc++Q9 r.rs:=by
        rw [HPL.out,List.drop_of_length_le (by rw [HWF.len];omega)];simp [Q9]
       have HF:=Zh hf;have hk1:¬((8:Nat):Int)<8:=by omega
       clear HPL HAL HQ hj hlt hf;go_upto_region 17 with fail;clear hk1;go_upto_region 17 with fail;refine Zl ?_;refine tk (lv2) ?_;refine tk (lv2) ?_;refine tk (Value.nilIface) ?_;go_wp2_with fail
       go_ret2;refine⟨?_,H.ex.1.1⟩;rw [HPN.out,←HF.out];exact⟨lv2,rfl,OwnN.mono H.ex.2 HB0.out⟩
open Go.RowKit
namespace Mp
open Go.RowKit Pl
def J2f(w w':World)(sv:Value)(l:List Int):Prop:=IntsAt w' sv l∧∀k,sv.ownBlock=some k→w.heap.size≤k
theorem J2g(g:Gm)(h:g.Ok)(l:List Int)(hl:(l.length:Int)=g.p)(n:Nat)(hn:g.maps=n)(r:Nat)(w:World)(hr:Blk w r (row (mk l) n)) :
 Calls Tryz.prog 158 #[g.v,.slice (some ⟨r,0,none⟩) n n] w fun e w'=>∃sv,e=.returned sv∧J2f w w' sv l∧Below w.heap.size w w':=by
 obtain⟨n',p,e1,e2,n1,n8,p1,p64,p8,-⟩:=h.nat;obtain rfl:n'=n:=by omega
 have hlp:l.length=p:=by omega
 have HL:=Zh hlp;have HRB:=Zh hr;have HG0:Hid (GAt (g.box w) w.heap.size g):=Zh (GAt.box g w);have MK:=fun w=>make24 p p64 w;have HB0:=Zh (gbox_below g w);have hgp:=e2;clear h hl hn e1 hlp hr e2;have c0:(g.box w).cell? ⟨w.heap.size,0,none⟩=some (.int .i64 p):=by rw [←hgp];exact HG0.p
 clear hgp;go_enter Tryz.func158,Tryz.ntmps158
 go_wp2_with fail
 have HK0:Hid (Blk ((g.box w).alloc (.cells (Js (zeros p)).toArray 3)) (w.heap.size+1) (Js (zeros p))):=Zh (by have:=Blk.new (g.box w) (Js (zeros p)).toArray 3;simpa using this);have HW0:=Zh (HB0.alloc (by simp) (.cells (Js (zeros p)).toArray 3));obtain⟨q,hq⟩:∃q,w.heap.size+1=q:=⟨_,rfl⟩
 have HQ:Hid (w.heap.size<q):=Zh (by omega);rw [hq] at HK0 ⊢;clear hq c0 HG0 MK
 go_loopg [14] p (fun z i wr=>∃m:Nat,p-m≤z∧m≤p∧i=.int .i64 m∧Blk wr q (Js (fill l p m))∧Below w.heap.size w wr)
 case atStart=>exact⟨0,by omega,by omega,rfl,by rw [J67];exact HK0.out,HW0.out⟩
 case round =>
  obtain⟨m,hz,hm,rfl,hk1,hb⟩:=hrel;have HK:=Zh hk1;have HW:=Zh hb;clear hk1 hb HK0 HW0
  by_cases hlt:m<p
  · have hk1:(m:Int)<(p:Int):=by omega
    have hx:l[m]? = some (l.getD m 0):=by
     have:=HL.out;rw [List.getD_eq_getElem?_getD,List.getElem?_eq_getElem (by omega)];rfl
    have HO:=Zh fun w=>Jgr m (by omega) w;have HC:=HRB.cell (Je4 (l:=l) (n:=n') (p:=m) (by omega));have HC:=(HW.cell (block_lt_of_cell HC)).trans HC;obtain⟨x,hxe⟩:∃x,l.getD m 0=x:=⟨_,rfl⟩
    rw [hxe] at HC hx;have HF:=Zh (Jan HL.out hx);have d3:=HK.cell (Je8 HL.out hlt);have f3:=HK.frozen m;clear hx hxe;obtain⟨u,hu⟩:∃u,m/8=u:=⟨_,rfl⟩
    obtain⟨v,hv⟩:∃v,m%8=v:=⟨_,rfl⟩
    have hu1:u<n':=by omega
    have hv1:v<8:=by omega
    rw [hu,hv] at HO HC;have d2:wr.cell? ⟨r,u*45+37+v,none⟩=some (.int .i64 x):=by rw [Nat.add_assoc];exact HC
    clear HC hu hv;have hu2:(u:Int)<(n':Int):=by omega
    have hv2:(v:Int)<8:=by omega
    go_wp2_with fail
    refine (HO.out _).mono ?_;rintro e w3 ⟨rfl,rfl⟩
    go_wp2_with fail
    go_roundg (p-(m+1))
    case measure=>omega
    case rel =>
     have hset:=HK.set m (.int .i64 x);rw [HF.out] at hset;exact⟨m+1,by omega,by omega,by go_num,hset,HW.setCell (Nat.le_of_lt HQ.out) _⟩
  · obtain rfl:p=m:=by omega
    have hk1:¬(p:Int)<(p:Int):=by omega
    go_wp2_with fail
    go_ret;have hI:=IntsAt.of_blk (cap:=p) HK.out;rw [Jam HL.out,HL.out] at hI;exact⟨_,rfl,⟨hI,fun k hk=>by cases hk;exact Nat.le_of_lt HQ.out⟩,HW.out⟩
theorem Jb2(g:Gm)(l:List Int)(h:J3u g l)(hsm:∀x∈l,Jk x)(n:Nat)(hn:g.maps=n)(r:Nat)(w:World)(hr:Blk w r (row (mk l) n)) :
 Calls Tryz.prog 124 #[g.v,.slice (some ⟨r,0,none⟩) n n] w fun e w'=>∃sv,e=.returned (.tuple #[sv,.int .i64 0])∧J2f w w' sv l∧Below w.heap.size w w':=by
 have HP:=Zh fun w hs=>Je7 g l h hsm n hn r w hs;have HL:=Zh fun w hs=>J2g g h.1 l h.2.1 n hn r w hs;have HI:=Zh hr;have HI0:=Zh (HI.below (gbox_below g w) HI.lt);clear hn h hr;go_enter Tryz.func124,Tryz.ntmps124
 go_wp2_with fail
 refine (HP.out _ HI0.out).mono ?_;rintro e w1 ⟨rfl,hb⟩;have HB:=Zh (KY hb);clear hb;obtain⟨c0,c1,c2,c3⟩:=HB.out.2.1;have HI1:=Zh (HI.below HB.out.1 HI.lt)
 go_wp2_with fail
 refine (HL.out _ HI1.out).mono ?_;rintro e w2 ⟨sv,rfl,hk,hb⟩;have HK:=Zh hk;have HB2:=Zh (HB.out.1.trans (hb.mono HB.out.1.size));clear hk hb
 go_wp2_with fail
 go_ret2;exact⟨sv,rfl,⟨HK.out.1,fun k hk=>Nat.le_trans HB.out.1.size (HK.out.2 k hk)⟩,HB2.out⟩
end Mp
open Go.RowKit Rn
variable {F:Nat→Prop} {W0:World} {X:List (List Int)} {b j k:Nat} {fv hv ov:Value} {l:List Int}
theorem zT{g:Pl.Gm}{hs R:List Int}{seg off cap:Int}(h:cap<(Hs.cnt hs:Int)):QK X g hs R seg off cap=none:=if_pos h
theorem zU{g:Pl.Gm}{hs R:List Int}{seg off cap:Int}(hp:Ye X g hs R=none):QK X g hs R seg off cap=none:=by
 unfold QK
 by_cases hc:cap<((hs.filter fun x=>x != 0).length:Int)
 · rw [if_pos hc]
 · rw [if_neg hc,hp]
theorem qq{g:Pl.Gm}{hs R:List Int}{seg off cap:Int}(h:¬cap<(Hs.cnt hs:Int))(hp:Ye X g hs R=some l)(h2:l.Nodup∧∀p∈l,J6d g seg off p):QK X g hs R seg off cap=some l:=by
 have h':¬cap<((hs.filter fun x=>x != 0).length:Int):=h;unfold QK;rw [if_neg h',hp];exact if_pos h2
theorem qr{g:Pl.Gm}{hs R:List Int}{seg off cap:Int}(hp:Ye X g hs R=some l)(h2:¬(l.Nodup∧∀p∈l,J6d g seg off p)):QK X g hs R seg off cap=none:=by
 unfold QK
 by_cases hc:cap<((hs.filter fun x=>x != 0).length:Int)
 · rw [if_pos hc]
 · rw [if_neg hc,hp];exact if_neg h2
theorem Jei{g:Pl.Gm}{hs R:List Int}(h:Ye X g hs R=some l)(hR:∀x∈R,x≠0→4≤x∧x≤4+g.s*g.l-1):l.length≤3*hs.length+R.length∧∀p∈l,4≤p∧p≤4+g.s*g.l-1:=by
 unfold Ye at h;cases hp:JY X g 0 hs with
 | none=>rw [hp] at h;cases h
 | some q =>
  rw [hp] at h;cases h;obtain⟨h1,h2⟩:=Zk hp;refine⟨?_,fun p hp=>?_⟩
  · rw [List.length_append];have:(Q9 R).length≤R.length:=List.length_filter_le _ _;omega
  · rcases List.mem_append.1 hp with hp|hp
    · exact h2 p hp
    · have:=List.mem_filter.1 hp;exact hR p this.1 (by simpa using this.2)
structure Tkn (l:List Int) (k:Nat) (tk:List Bool):Prop where
 iff:∀j:Nat,tk[j]? = some true↔j<tk.length∧(j:Int)∈l.take k
 nd:(l.take k).Nodup
theorem Tkn.start(l:List Int)(T:Nat):Tkn l 0 (List.replicate T false):=⟨fun j=>by simp [List.getElem?_replicate],by simp⟩
theorem Xs{x:Int}(h:l[k]? = some x):l.take (k+1)=l.take k++[x]:=by rw [List.take_add_one,h];rfl
theorem Tkn.next{tk:List Bool}(h:Tkn l k tk){P:Nat}(hP:l[k]? = some (P:Int))(hl:tk[P]? = some false):Tkn l (k+1) (tk.set P true):=by
 have hlt:=(List.getElem?_eq_some_iff.1 hl).1;have hno:¬(P:Int)∈l.take k:=fun hm=>by
  have:=(h.iff P).2 ⟨hlt,hm⟩;rw [hl] at this;cases this
 refine⟨fun j=>?_,?_⟩
 · rw [Xs hP,List.length_set]
   by_cases e:j=P
   · subst e;simp [hlt]
   · rw [List.getElem?_set_ne (Ne.symm e),h.iff j];simp only [List.mem_append,List.mem_singleton];constructor
     · exact fun ⟨a,b⟩=>⟨a,.inl b⟩
     · rintro ⟨a,b|b⟩
       · exact⟨a,b⟩
       · exact absurd (by omega) e
 · rw [Xs hP,List.nodup_append];exact⟨h.nd,by simp,fun a ha b hb e=>hno (by simp at hb;rw [←hb,←e];exact ha)⟩
theorem Tkn.twice{tk:List Bool}(h:Tkn l k tk){P:Nat}(hP:l[k]? = some (P:Int))(hl:tk[P]? = some true):¬l.Nodup:=fun hn=>by
 have hm:=((h.iff P).1 hl).2;have h2:(l.take (k+1)).Nodup:=hn.sublist (List.take_sublist _ _);rw [Xs hP,List.nodup_append] at h2;exact h2.2.2 _ hm _ (by simp) rfl
theorem Jb3{l:List Bool}{v:Bool}(h:l[j]? = some v):(blL l)[j]? = some (.bool v):=by simp [blL,h]
theorem Jej(l:List Bool)(j:Nat)(v:Bool):(blL l).set j (.bool v)=blL (l.set j v):=by simp [blL,List.map_set]
theorem xn{r:Rn.Rg}(hwf:r.Wf)(hg:r.g.Ok){mv:Value}(a:Ja)(hs:List Int)(hH:(hs.length:Int)=r.p)(hsm:∀x∈hs,Jk x)(hrs:∀x∈r.rs,x≠0→4≤x∧x≤4+r.s*r.l-1)(w:World)(hi:IntsAt w hv hs)(h2:IsSl ov)(h3:IsSl fv)(h4:IsSl mv){xb:Nat}(hx:Blk w xb (JO r hv ov a fv (.pointer (some ⟨b,0,none⟩)) mv))(hvr:Vars w){d:De.D}(hd:De.Dv W0 w b F d)(hLn:d.L.length≤1000000)(hX:Img d X)(ht:4+r.s*r.l≤(X.length:Int)):Calls Tryz.prog 99 #[.pointer (some ⟨xb,0,none⟩)] w fun e w'=>J6k w.heap.size (QK X r.g hs r.rs a.seg a.off r.g.cap) e w'∧Below w.heap.size w w':=by
 have H:=Rn.St.start (Stays.below w) (Below.refl _ _);have HV:=Zh hvr;have HWF:=Zh hwf;have HG:=Zh hg;have HSH:=Zh hi.sl;have HSO:=Zh h2;have HSF:=Zh h3;have HSV:=Zh h4;have HXB:=Zh hx;have HI:=Zh hi;have hp64:r.p≤64:=hg.1.2;have HLN:=Zh (show hs.length≤64 by omega);have HPL:Hid (∀w',Below w.heap.size w w'→Calls Tryz.prog 51 #[.pointer (some ⟨b,0,none⟩),.agg (K3 r hv ov a fv).toArray] w' fun e w2=>J6k w'.heap.size (Ye X r.g hs r.rs) e w2∧Below w'.heap.size w' w2):=Zh fun w' hb=>ZZ hwf hg a hs hH hsm w' (hi.below hb) h2 h3 (hvr.below (Nat.le_refl _) hb) (hd.below hb) hLn hX ht;have HIN:Hid (∀l,Ye X r.g hs r.rs=some l→l.length≤200∧∀p∈l,4≤p∧p≤4+r.s*r.l-1):=Zh fun l hl=>by
  have h:=Jei hl hrs;rw [hwf.len] at h;exact⟨by omega,h.2⟩
 have har:=Pl.Gm.Ok.area0 hg;obtain⟨T,hT⟩:∃T:Nat,4+r.s*r.l=(T:Int):=⟨(4+r.s*r.l).toNat,by have:0≤r.s*r.l:=har.1;omega⟩
 have HT:=Zh hT;have HTO:Hid (∀w',Calls Tryz.prog 57 #[r.g.v] w' fun e w2=>e=.returned (.int .i64 T)∧Below w'.heap.size w' w2):=Zh fun w'=>by
  have:=Pl.QB r.g hg w';rw [show (4+r.g.s*r.g.l:Int)=(T:Int) from hT] at this;exact this
 have HT2:Hid (T≤1024):=Zh (by have:r.s*r.l≤512:=har.2;omega);clear hwf hg hH hsm hrs hi h2 h3 h4 hx hvr hd hLn hX ht hp64 har hT;go_enter Tryz.func99,Tryz.ntmps99;go_upto_region 0 with fail;refine Zl ?_;refine tk (.slice none 0 0) ?_;refine tk (Value.nilIface) ?_;go_upto_region 1 with fail;refine Zl ?_;refine tk (.pointer (some ⟨xb,0,none⟩)) ?_;refine tk (.pointer (some ⟨xb,0,none⟩)) ?_;refine tk (.pointer (some ⟨xb,0,none⟩)) ?_;refine tk (.pointer (some ⟨xb,0,none⟩)) ?_;refine tk (.pointer (some ⟨xb,1,none⟩)) ?_;refine Jit (Jg r.g) (HXB.below H.ex HXB.lt) (ki _ _ _ _ _ _ _) ?_;refine al J1n H ?_ (hns:=(Jg ⟨0,0,0,0⟩).ns);clear H;intro g1 w1 H;refine stO (Jg r.g) (Ob.len (Jg r.g) (Jg ⟨0,0,0,0⟩)) H 0 ?_;clear H;intro w1 H;refine Zn ?_
 by_cases hcn:r.g.cap<(Hs.cnt hs:Int)
 · have HCN:=Zh hcn;clear hcn;go_upto_region 2 with fail;refine J9 (fun wq=>Below w.heap.size w wq∧Blk wq g1 (geC r)) (by kernel_rfl) ?_;replace H:=H.drew;refine th 0 19 (.pointer (some ⟨xb,0,none⟩)) ⟨H.ex,H.blk 0 _ _ rfl⟩ ?_;refine th 1 20 (.pointer (some ⟨xb,0,none⟩)) ⟨H.ex,H.blk 0 _ _ rfl⟩ ?_;refine th 2 21 (.pointer (some ⟨xb,0,none⟩)) ⟨H.ex,H.blk 0 _ _ rfl⟩ ?_;refine th 3 22 (.pointer (some ⟨xb,16,none⟩)) ⟨H.ex,H.blk 0 _ _ rfl⟩ ?_;refine th 4 23 (hv) ⟨H.ex,H.blk 0 _ _ rfl⟩ ?_ (hy:=fun u hS=>by have hq:=(HXB.below hS.1 HXB.lt).cell (i:=16) (v:=hv) ((xk HWF.out hv ov a fv (.pointer (some ⟨b,0,none⟩)) mv));go_simp);refine th 6 25 (.agg (geC r).toArray) ⟨H.ex,H.blk 0 _ _ rfl⟩ ?_ (hy:=fun u hS=>Kf (Jg r.g) hS.2 _ _ _ rfl rfl);refine Zo 5 fun K hK=>?_;go_simp;refine (Hs.count_any hs (by have:=HLN.out;omega) hv _ (HI.below H.ex)).mono ?_;rintro e w2 ⟨rfl,rfl⟩;refine hK _ _ ⟨H.ex,H.blk 0 _ _ rfl⟩ (nm ?_);clear hK K;refine Zo 7 fun K hK=>?_;go_simp;refine (Ca.J3w r.g HG.out _).mono ?_;rintro e w3 ⟨rfl,hb⟩;replace H:=H.call hb;clear hb;refine hK _ _ ⟨H.ex,H.blk 0 _ _ rfl⟩ (nm ?_);clear hK K;refine th 8 27 (.bool true) ⟨H.ex,H.blk 0 _ _ rfl⟩ ?_ (hy:=fun wq hS=>by go_simp;have:=HCN.out;omega);refine Zd ?_;go_upto_region 3 with fail;refine Zl ?_;refine J0 rfl fun K hK=>?_;go_simp;refine (new_err 13 rfl _ _).mono ?_;rintro e w4 ⟨T4,d4,t4,s4,rfl,hc,hb⟩;replace H:=(H.call hb).chain hc;clear hc hb;refine hK _ _ (nm ?_);clear hK K;refine tk (.slice none 0 0) ?_;refine tk (.iface T4 d4) ?_;go_wp2_with fail
   go_ret2;refine⟨?_,H.ex.1⟩;rw [zT HCN.out];exact⟨_,_,_,_,rfl,H.ex.2⟩
 have HCN:=Zh hcn;clear hcn;go_upto_region 2 with fail;refine J9 (fun wq=>Below w.heap.size w wq∧Blk wq g1 (geC r)) (by kernel_rfl) ?_;replace H:=H.drew;refine th 0 19 (.pointer (some ⟨xb,0,none⟩)) ⟨H.ex,H.blk 0 _ _ rfl⟩ ?_;refine th 1 20 (.pointer (some ⟨xb,0,none⟩)) ⟨H.ex,H.blk 0 _ _ rfl⟩ ?_;refine th 2 21 (.pointer (some ⟨xb,0,none⟩)) ⟨H.ex,H.blk 0 _ _ rfl⟩ ?_;refine th 3 22 (.pointer (some ⟨xb,16,none⟩)) ⟨H.ex,H.blk 0 _ _ rfl⟩ ?_;refine th 4 23 (hv) ⟨H.ex,H.blk 0 _ _ rfl⟩ ?_ (hy:=fun u hS=>by have hq:=(HXB.below hS.1 HXB.lt).cell (i:=16) (v:=hv) ((xk HWF.out hv ov a fv (.pointer (some ⟨b,0,none⟩)) mv));go_simp);refine th 6 25 (.agg (geC r).toArray) ⟨H.ex,H.blk 0 _ _ rfl⟩ ?_ (hy:=fun u hS=>Kf (Jg r.g) hS.2 _ _ _ rfl rfl);refine Zo 5 fun K hK=>?_;go_simp;refine (Hs.count_any hs (by have:=HLN.out;omega) hv _ (HI.below H.ex)).mono ?_;rintro e w2 ⟨rfl,rfl⟩;refine hK _ _ ⟨H.ex,H.blk 0 _ _ rfl⟩ (nm ?_);clear hK K;refine Zo 7 fun K hK=>?_;go_simp;refine (Ca.J3w r.g HG.out _).mono ?_;rintro e w3 ⟨rfl,hb⟩;replace H:=H.call hb;clear hb;refine hK _ _ ⟨H.ex,H.blk 0 _ _ rfl⟩ (nm ?_);clear hK K;refine th 8 27 (.bool false) ⟨H.ex,H.blk 0 _ _ rfl⟩ ?_ (hy:=fun wq hS=>by go_simp;have:=HCN.out;omega);refine Zd ?_;cases hc:Ye X r.g hs r.rs
 · have HC:=Zh hc;clear hc;go_upto_region 4 with fail;refine J9 (fun wq=>Below w.heap.size w wq) (by kernel_rfl) ?_;replace H:=H.drew;refine th 0 30 (.pointer (some ⟨xb,0,none⟩)) (H.ex) ?_;refine th 1 31 (.pointer (some ⟨xb,0,none⟩)) (H.ex) ?_;refine th 2 32 (.pointer (some ⟨xb,22,none⟩)) (H.ex) ?_;refine th 3 33 ((.pointer (some ⟨b,0,none⟩))) (H.ex) ?_ (hy:=fun u hS=>by have hq:=(HXB.below hS HXB.lt).cell (i:=22) (v:=(.pointer (some ⟨b,0,none⟩))) ((J3y HWF.out hv ov a fv (.pointer (some ⟨b,0,none⟩)) mv));go_simp);refine th 4 34 (.pointer (some ⟨xb,0,none⟩)) (H.ex) ?_;refine th 5 35 (.pointer (some ⟨xb,0,none⟩)) (H.ex) ?_;refine th 6 36 (.pointer (some ⟨xb,0,none⟩)) (H.ex) ?_;refine th 7 37 (.agg (K3 r hv ov a fv).toArray) (H.ex) ?_ (hy:=fun u hS=>QU (Kt HWF.out HSH.out HSO.out HSF.out) (yj _ _ _ _ _ _ _) (HXB.below hS HXB.lt) rfl _ _ _ rfl rfl);refine Zo 8 fun K hK=>?_;go_simp;refine (HPL.out _ H.ex).mono ?_;rw [HC.out];rintro e w4 ⟨⟨T4,d4,t4,s4,rfl,hc⟩,hb⟩;replace H:=(H.call hb).chain hc;clear hc hb;refine hK _ _ (H.ex.1) (nm ?_);clear hK K;refine th 9 29 (.tuple #[.slice none 0 0,.iface T4 d4]) (H.ex.1) ?_;refine th 10 39 (.slice none 0 0) (H.ex.1) ?_;refine th 11 40 (.iface T4 d4) (H.ex.1) ?_;refine th 12 5 (.slice none 0 0) (H.ex.1) ?_;refine th 13 6 (.iface T4 d4) (H.ex.1) ?_;refine Zd ?_;go_upto_region 5 with fail;refine Zl ?_;refine tk (.iface T4 d4) ?_;refine tk (.bool true) ?_;go_upto_region 6 with fail;refine Zl ?_;refine tk (.iface T4 d4) ?_;refine tk (.slice none 0 0) ?_;refine tk (.iface T4 d4) ?_;go_wp2_with fail
   go_ret2;refine⟨?_,H.ex.1⟩;rw [zU HC.out];exact⟨_,_,_,_,rfl,H.ex.2⟩
 rename_i l
 have HC:=Zh hc;have HLL:=Zh (HIN.out l hc).1;have HPI:=Zh (HIN.out l hc).2;clear hc;go_upto_region 4 with fail;refine J9 (fun wq=>Below w.heap.size w wq) (by kernel_rfl) ?_;replace H:=H.drew;refine th 0 30 (.pointer (some ⟨xb,0,none⟩)) (H.ex) ?_;refine th 1 31 (.pointer (some ⟨xb,0,none⟩)) (H.ex) ?_;refine th 2 32 (.pointer (some ⟨xb,22,none⟩)) (H.ex) ?_;refine th 3 33 ((.pointer (some ⟨b,0,none⟩))) (H.ex) ?_ (hy:=fun u hS=>by have hq:=(HXB.below hS HXB.lt).cell (i:=22) (v:=(.pointer (some ⟨b,0,none⟩))) ((J3y HWF.out hv ov a fv (.pointer (some ⟨b,0,none⟩)) mv));go_simp);refine th 4 34 (.pointer (some ⟨xb,0,none⟩)) (H.ex) ?_;refine th 5 35 (.pointer (some ⟨xb,0,none⟩)) (H.ex) ?_;refine th 6 36 (.pointer (some ⟨xb,0,none⟩)) (H.ex) ?_;refine th 7 37 (.agg (K3 r hv ov a fv).toArray) (H.ex) ?_ (hy:=fun u hS=>QU (Kt HWF.out HSH.out HSO.out HSF.out) (yj _ _ _ _ _ _ _) (HXB.below hS HXB.lt) rfl _ _ _ rfl rfl);refine Zo 8 fun K hK=>?_;go_simp;refine (HPL.out _ H.ex).mono ?_;rw [HC.out];rintro e w4 ⟨⟨lv,rfl,ho⟩,hb⟩;replace H:=St.owns0 H hb ho;clear ho hb;refine hK _ _ (H.ex.1) (nm ?_);clear hK K;refine th 9 29 (.tuple #[lv,.nilIface]) (H.ex.1) ?_;refine th 10 39 (lv) (H.ex.1) ?_;refine th 11 40 (.nilIface) (H.ex.1) ?_;refine th 12 5 (lv) (H.ex.1) ?_;refine th 13 6 (.nilIface) (H.ex.1) ?_;refine Zd ?_;go_upto_region 5 with fail;refine Zl ?_;refine tk (.nilIface) ?_;refine tk (.bool false) ?_;go_upto_region 7 with fail;refine Zl ?_;refine ldO (Jg r.g) H 0 ?_;refine cl (HTO.out _) H ?_;clear H;intro w5 H;refine mkB HT2.out rfl rfl rfl fun gt w6 hg hA hb=>?_;replace H:=St.newg H (Jgz _) hg hA hb;clear hA hb hg;refine nm ?_;refine tk (.slice (some ⟨gt,0,none⟩) T T) ?_;refine Zn ?_;obtain⟨la,lc,hlv⟩:=H.ex.2.ints.form;generalize hn:l.length=n at hlv;have HN:=Zh hn;subst hlv;have HT0:Hid (Tkn l 0 (List.replicate T false)):=Zh (Tkn.start l T);clear hn
 go_wp2_with fail
 go_loopg [49] n (fun q i wr=>∃(k:Nat) (tb:List Bool),n-k≤q∧k≤n∧i=.int .i64 k∧tb.length=T∧Tkn l k tb∧(∀p∈l.take k,J6d r.g a.seg a.off p)∧Rn.St w.heap.size (fun z=>False∨(Value.slice la n lc).ownBlock=some z) (fun u=>Below w.heap.size w u∧OwnN u w.heap.size (.slice la n lc) l) [(g1,geC r),(gt,blL tb)] wr)
 case atStart=>exact⟨0,_,by omega,by omega,rfl,by simp,HT0.out,by simp,H⟩
 case round =>
  clear H HT0;obtain⟨k,tb,hq,hk,rfl,htl,htk,hof,H⟩:=hrel;have HQ:=Zh hq;have HTL:=Zh htl;have HTK:=Zh htk;have HO:=Zh hof;clear hq htl htk hof
  by_cases hlt:k<n
  · have hk1:(k:Int)<(n:Int):=by omega
    obtain⟨p,hp⟩:∃p,l[k]? = some p:=⟨_,List.getElem?_eq_getElem (by have:=HN.out;omega)⟩
    obtain⟨p4,pT⟩:=HPI.out p (List.mem_of_getElem? hp);obtain⟨P,rfl⟩:∃P:Nat,p=(P:Int):=⟨p.toNat,by omega⟩
    have hPT:P<T:=by have:=HT.out;omega
    obtain⟨a2,c2,e2,hcell⟩:=H.ex.2.ints;obtain⟨lb,lo,e3,c1⟩:=hcell k _ hp;injection e2 with e4 e5 e6
    subst e4;subst e3;clear e5 e6;have HP:=Zh hp;have HP4:=Zh (And.intro p4 pT);have HPT:=Zh hPT;have HKN:=Zh hlt;obtain⟨tv,htv⟩:∃v,tb[P]? = some v:=⟨_,List.getElem?_eq_getElem (by have:=HTL.out;omega)⟩
    have HTV:=Zh htv;have HOO:Hid (∀w',Calls Tryz.prog 115 #[r.g.v,.int .i64 (P:Int)] w' fun e w2=>e=.returned (.tuple #[.int .i64 (((P:Int)-4)/r.l),.int .i64 (((P:Int)-4)%r.l),.bool true])∧Below w'.heap.size w' w2):=Zh fun w'=>Rn.of_in r.g HG.out P HP4.out w';have hk2:(P:Int)<(T:Int):=by omega
    have c3:=(H.blk 1 gt _ rfl).cell (Jb3 htv);clear hcell hp p4 pT hPT hk hlt htv;cases tv
    · go_upto_region 13 with fail;clear c1 c3 hk1;refine Zl ?_;refine tk (.slice (some ⟨gt,0,none⟩) T T) ?_;refine tk (.int .i64 P) ?_;refine tk (.pointer (some ⟨gt,P,none⟩)) ?_;refine sc (v:=.bool true) H 1 P (fun t e=>by cases e) ?_ (hl:=Jb3 HTV.out);clear H;intro ws H;rw [Jej] at H;refine Zn ?_;clear hk2;go_upto_region 14 with fail;refine Zl ?_;refine ldO (Jg r.g) H 0 ?_;refine tk (.int .i64 P) ?_;refine cl (HOO.out _) H ?_;clear H;intro w7 H;refine tk (.tuple #[.int .i64 (((P:Int)-4)/r.l),.int .i64 (((P:Int)-4)%r.l),.bool true]) ?_;refine tk (.int .i64 (((P:Int)-4)/r.l)) ?_;refine tk (.int .i64 (((P:Int)-4)%r.l)) ?_;refine tk (.bool true) ?_;refine tk (.int .i64 (((P:Int)-4)/r.l)) ?_;refine tk (.int .i64 (((P:Int)-4)%r.l)) ?_;refine tk (.bool true) ?_;refine Zn ?_
      by_cases hsg:((P:Int)-4)/r.l=a.seg
      · have HSG:=Zh hsg;clear hsg
        by_cases hof:a.off≤((P:Int)-4)%r.l
        · have HOF:=Zh hof;clear hof;go_upto_region 15 with fail;refine Zl ?_;refine tk (.int .i64 (((P:Int)-4)/r.l)) ?_;refine tk (.pointer (some ⟨xb,0,none⟩)) ?_;refine tk (.pointer (some ⟨xb,0,none⟩)) ?_;refine tk (.pointer (some ⟨xb,0,none⟩)) ?_;refine tk (.pointer (some ⟨xb,18,none⟩)) ?_;refine tk (.pointer (some ⟨xb,18,none⟩)) ?_;refine lcb (HXB.below H.ex.1 HXB.lt) (18) ?_ (hl:=(J3x HWF.out hv ov a fv (.pointer (some ⟨b,0,none⟩)) mv));refine tk (.bool true) ?_ (hr:=by go_simp;simp [HSG.out]);refine tk (.bool true) ?_;refine tk (.int .i64 (((P:Int)-4)%r.l)) ?_;refine tk (.pointer (some ⟨xb,0,none⟩)) ?_;refine tk (.pointer (some ⟨xb,0,none⟩)) ?_;refine tk (.pointer (some ⟨xb,0,none⟩)) ?_;refine tk (.pointer (some ⟨xb,18,none⟩)) ?_;refine tk (.pointer (some ⟨xb,19,none⟩)) ?_;refine lcb (HXB.below H.ex.1 HXB.lt) (19) ?_ (hl:=(Jfb HWF.out hv ov a fv (.pointer (some ⟨b,0,none⟩)) mv));refine tk (.bool true) ?_ (hr:=by go_simp;have:=HOF.out;omega);refine tk (.bool true) ?_;go_upto_region 16 with fail;refine Zl ?_;refine tk (.int .i64 P) ?_;refine J0 rfl fun K hK=>?_;go_simp;refine (Q5 P (by omega) (by have:=HPT.out;have:=HT2.out;omega) _ (HV.below (Nat.le_refl _) H.ex.1)).mono ?_;rintro e w8 ⟨sI,rfl,hsI,hb⟩;replace H:=H.call hb;clear hb;refine hK _ _ (nm ?_);clear hK K;refine tk (.string (⟨#[119,104,101,114,101,32,116,104,101,32,106,111,117,114,110,97,108,32,103,111,101,115,32,111,110,58,32,115,101,99,116,111,114,32]⟩++sI)) ?_ (hr:=by go_simp;omega);refine J0 rfl fun K hK=>?_;go_simp;refine (new_err 13 rfl _ _).mono ?_;rintro e w9 ⟨T9,d9,t9,s9,rfl,hc,hb⟩;replace H:=(H.call hb).chain hc;clear hc hb;refine hK _ _ (nm ?_);clear hK K;refine tk (.slice none 0 0) ?_;refine tk (.iface T9 d9) ?_;go_wp2_with fail
          go_ret2;refine⟨?_,H.ex.1.1⟩;rw [qr HC.out (fun h=>h.2 _ (List.mem_of_getElem? HP.out) ⟨HSG.out,HOF.out⟩)];exact⟨_,_,_,_,rfl,H.ex.2⟩
        · have HOF:=Zh hof;clear hof;go_upto_region 15 with fail;refine Zl ?_;refine tk (.int .i64 (((P:Int)-4)/r.l)) ?_;refine tk (.pointer (some ⟨xb,0,none⟩)) ?_;refine tk (.pointer (some ⟨xb,0,none⟩)) ?_;refine tk (.pointer (some ⟨xb,0,none⟩)) ?_;refine tk (.pointer (some ⟨xb,18,none⟩)) ?_;refine tk (.pointer (some ⟨xb,18,none⟩)) ?_;refine lcb (HXB.below H.ex.1 HXB.lt) (18) ?_ (hl:=(J3x HWF.out hv ov a fv (.pointer (some ⟨b,0,none⟩)) mv));refine tk (.bool true) ?_ (hr:=by go_simp;simp [HSG.out]);refine tk (.bool true) ?_;refine tk (.int .i64 (((P:Int)-4)%r.l)) ?_;refine tk (.pointer (some ⟨xb,0,none⟩)) ?_;refine tk (.pointer (some ⟨xb,0,none⟩)) ?_;refine tk (.pointer (some ⟨xb,0,none⟩)) ?_;refine tk (.pointer (some ⟨xb,18,none⟩)) ?_;refine tk (.pointer (some ⟨xb,19,none⟩)) ?_;refine lcb (HXB.below H.ex.1 HXB.lt) (19) ?_ (hl:=(Jfb HWF.out hv ov a fv (.pointer (some ⟨b,0,none⟩)) mv));refine tk (.bool false) ?_ (hr:=by go_simp;have:=HOF.out;omega);refine tk (.bool false) ?_;refine Zn ?_;have hb1:=HKN.out;have hb2:=HLL.out;have hb3:=HN.out;rw [hb3] at hb2;clear hb3
          go_wp2_with fail
          go_roundg (n-(k+1))
          case measure=>have:=HQ.out;have:=HKN.out;omega
          case rel=>exact⟨k+1,_,by omega,by have:=HKN.out;omega,by go_num,by rw [List.length_set];exact HTL.out,HTK.next HP.out HTV.out,fun p hp=>by
           rw [Xs HP.out] at hp
           rcases List.mem_append.1 hp with hp|hp
           · exact HO.out p hp
           · obtain rfl:=List.mem_singleton.1 hp
             exact fun c=>absurd (show a.off≤((P:Int)-4)%r.l from c.2) (by have:=HOF.out;omega),H⟩
      · have HSG:=Zh hsg;clear hsg;go_upto_region 15 with fail;refine Zl ?_;refine tk (.int .i64 (((P:Int)-4)/r.l)) ?_;refine tk (.pointer (some ⟨xb,0,none⟩)) ?_;refine tk (.pointer (some ⟨xb,0,none⟩)) ?_;refine tk (.pointer (some ⟨xb,0,none⟩)) ?_;refine tk (.pointer (some ⟨xb,18,none⟩)) ?_;refine tk (.pointer (some ⟨xb,18,none⟩)) ?_;refine lcb (HXB.below H.ex.1 HXB.lt) (18) ?_ (hl:=(J3x HWF.out hv ov a fv (.pointer (some ⟨b,0,none⟩)) mv));refine tk (.bool false) ?_ (hr:=by go_simp;simp [HSG.out]);have hb1:=HKN.out;have hb2:=HLL.out;have hb3:=HN.out;rw [hb3] at hb2;clear hb3
        go_wp2_with fail
        go_roundg (n-(k+1))
        case measure=>have:=HQ.out;have:=HKN.out;omega
        case rel=>exact⟨k+1,_,by omega,by have:=HKN.out;omega,by go_num,by rw [List.length_set];exact HTL.out,HTK.next HP.out HTV.out,fun p hp=>by
         rw [Xs HP.out] at hp
         rcases List.mem_append.1 hp with hp|hp
         · exact HO.out p hp
         · obtain rfl:=List.mem_singleton.1 hp
           exact fun c=>HSG.out c.1,H⟩
    · go_upto_region 12 with fail;clear c1 c3 hk1 hk2;go_upto_region 12 with fail;refine Zl ?_;refine tk (.int .i64 P) ?_;refine J0 rfl fun K hK=>?_;go_simp;refine (Q5 P (by omega) (by have:=HPT.out;have:=HT2.out;omega) _ (HV.below (Nat.le_refl _) H.ex.1)).mono ?_;rintro e w7 ⟨sI,rfl,hsI,hb⟩;replace H:=H.call hb;clear hb;refine hK _ _ (nm ?_);clear hK K;refine tk (.string (⟨#[116,119,105,99,101,58,32,115,101,99,116,111,114,32]⟩++sI)) ?_ (hr:=by go_simp;omega);refine J0 rfl fun K hK=>?_;go_simp;refine (new_err 13 rfl _ _).mono ?_;rintro e w8 ⟨T8,d8,t8,s8,rfl,hc,hb⟩;replace H:=(H.call hb).chain hc;clear hc hb;refine hK _ _ (nm ?_);clear hK K;refine tk (.slice none 0 0) ?_;refine tk (.iface T8 d8) ?_;go_wp2_with fail
      go_ret2;refine⟨?_,H.ex.1.1⟩;rw [qr HC.out (fun h=>HTK.twice HP.out HTV.out h.1)];exact⟨_,_,_,_,rfl,H.ex.2⟩
  · obtain rfl:k=n:=by omega
    have hta:l.take k=l:=List.take_of_length_le (Nat.le_of_eq HN.out);have HR:=Zh (qq (cap:=r.g.cap) (seg:=a.seg) (off:=a.off) (by have:=HCN.out;omega) HC.out ⟨hta ▸ HTK.nd,fun p hp=>HO.out p (by rw [hta];exact hp)⟩);have hk1:¬(k:Int)<(k:Int):=Int.lt_irrefl _;clear HTK HO hta hk hlt;go_upto_region 18 with fail;clear hk1;go_upto_region 18 with fail;refine Zl ?_;refine tk (.slice la k lc) ?_;refine tk (.slice la k lc) ?_;refine tk (Value.nilIface) ?_;go_wp2_with fail
    go_ret2;refine⟨?_,H.ex.1⟩;rw [HR.out];exact⟨_,rfl,H.ex.2⟩
open Go.RowKit Rn
variable {A:Nat→Prop} {E:World→Prop} {N k n:Nat} {V:List (Nat×List Value)} {fv hv ov sv:Value} {l:List Int} {w w':World}
theorem St.intsF(h:Rn.St N A E V w)(hb:Below w.heap.size w w')(hy:IntsAt w' sv l)(hf:∀k,sv.ownBlock=some k→w.heap.size≤k):Rn.St N (fun k=>A k∨(l≠[]∧sv.ownBlock=some k)) (fun u=>E u∧IntsAt u sv l) V w':=by
 have k:=h.call hb;exact⟨k.sz,k.blk,k.ge,k.nd,⟨k.ex,hy⟩,h.st.both Stays.ints,fun i g L hi ho=>ho.elim (h.av i g L hi) fun ho=>absurd (h.blk i g L hi).lt (Nat.not_lt.2 (hf g ho.2)),h.ns⟩
def yk(p k n:Nat):List Value:=Mp.row (Mp.mk (zeros p)) k++(List.replicate (n-k) (Bk.none.cells Mp.KD)).flatten
theorem Jb4(p k:Nat):Mp.hds (zeros p) k=zeros 8:=by
 have e:∀i,(zeros p).getD i 0=0:=fun i=>by
  rw [List.getD_eq_getElem?_getD];cases h:(zeros p)[i]? with
  | none=>rfl
  | some x=>rw [List.eq_of_mem_replicate (List.mem_of_getElem? h)];rfl
 unfold Mp.hds;simp only [e];rfl
theorem Jek(p k:Nat):Mp.mk (zeros p) k=⟨3,k,zeros 32,0,[],0,zeros 8⟩:=by unfold Mp.mk;rw [Jb4]
theorem Jb5(n:Nat):Mp.row (fun _=>Bk.none) n=(List.replicate n (Bk.none.cells Mp.KD)).flatten:=by
 unfold Mp.row
 induction n with
 | zero=>rfl
 | succ n ih=>rw [List.range_succ,List.flatMap_append,ih,List.replicate_succ'];simp
theorem J6l(p n:Nat):Mp.row (fun _=>Bk.none) n=yk p 0 n:=by rw [Jb5];rfl
theorem zV(p n:Nat):yk p n n=Mp.row (Mp.mk (zeros p)) n:=by simp [yk]
theorem Jb6{p:Nat}(h:k<n):yk p k n=Mp.row (Mp.mk (zeros p)) k++(Bk.none.cells Mp.KD++(List.replicate (n-(k+1)) (Bk.none.cells Mp.KD)).flatten):=by
 unfold yk;rw [show n-k=(n-(k+1))+1 by omega,List.replicate_succ,List.flatten_cons]
theorem Jb7{p:Nat}:yk p (k+1) n=Mp.row (Mp.mk (zeros p)) k++((Mp.mk (zeros p) k).cells Mp.KD++(List.replicate (n-(k+1)) (Bk.none.cells Mp.KD)).flatten):=by
 unfold yk;rw [Mp.q9,List.append_assoc]
theorem J2h(p:Nat)(h:k<1000):(Mp.mk (zeros p) k).Wf:=Mp.Jah (fun x hx=>by rw [List.eq_of_mem_replicate hx];exact Kd) h
theorem yl(p k n:Nat)(hk:k<1000):∀v∈yk p k n,∀t,v≠.string t:=fun v hv=>by
 rcases List.mem_append.1 hv with hv|hv
 · obtain⟨i,hi,hv⟩:=List.mem_flatMap.1 hv;have:=List.mem_range.1 hi;exact (Jv (J2h p (by omega)) Jq).ns v hv
 · obtain⟨l,hl,hv⟩:=List.mem_flatten.1 hv;rw [List.eq_of_mem_replicate hl] at hv;exact (Jv none_wf Jq).ns v hv
theorem Jel(p k:Nat):(Mp.row (Mp.mk (zeros p)) k).length=k*45:=Mp.Zj (fun i=>⟨rfl,Mp.Y5 _ _⟩) k
theorem zW{r:Rn.Rg}(hwf:r.Wf)(hg:r.g.Ok)(hz:r.rs=zeros 8)(p n:Nat)(hn:r.g.maps=n)(dq:Option Addr)(w:World):Calls Tryz.prog 97 #[.pointer dq,.agg r.cells.toArray] w fun e w'=>∃q,e=.returned (.tuple #[.slice (some ⟨q,0,none⟩) n n,.nilIface])∧Blk w' q (Mp.row (Mp.mk (zeros p)) n)∧w.heap.size≤q∧Below w.heap.size w w':=by
 have H:=Rn.St.start (Stays.below w) (Below.refl _ _);have HWF:=Zh hwf;have HG:=Zh hg;have hm:=hg.maps;have HN8:Hid (n≤8):=Zh (by omega);have HMA:Hid (∀w',Calls Tryz.prog 82 #[r.g.v] w' fun e w2=>e=.returned (.int .i64 n)∧Below w'.heap.size w' w2):=Zh fun w'=>hn ▸ Rn.maps_yes r.g hg w';have HRT:Hid (∀k:Nat,k<8→r.cells[8+k]? = some (.int .i64 0)):=Zh fun k hk=>Rn.Rg.root_cell (by rw [hz];show (List.replicate 8 (0:Int))[k]? = _;rw [List.getElem?_replicate,if_pos hk]);clear hwf hg hz hn hm;go_enter Tryz.func97,Tryz.ntmps97;go_upto_region 0 with fail;refine Zl ?_;refine bx H ?_ (hns:=(Zm HWF.out).ns);clear H;intro g1 w1 H;refine tk (.slice none 0 0) ?_;refine tk (Value.nilIface) ?_;go_upto_region 1 with fail;refine Zl ?_;refine tk (.pointer (some ⟨g1,1,none⟩)) ?_;refine ldP (Jg r.g) H 0 (Jeg _) ?_;refine cl (HMA.out _) H ?_;clear H;intro w2 H;refine mkR (by have:=HN8.out;omega) rfl rfl rfl fun gm w3 hg hA hb=>?_;rw [J6l p] at hA;replace H:=St.newg H (yl p 0 n (by omega)) hg hA hb;have HGE:=Zh (Nat.le_of_eq hg);clear hA hb hg;refine nm ?_;refine tk (.slice (some ⟨gm,0,none⟩) n n) ?_;go_wp2_with fail
 go_loopg [16] n (fun q i wr=>∃k:Nat,n-k≤q∧k≤n∧i=.int .i64 k∧Rn.St w.heap.size (fun _=>False) (fun u=>Below w.heap.size w u) [(g1,r.cells),(gm,yk p k n)] wr)
 case atStart=>exact⟨0,by omega,by omega,rfl,H⟩
 case round =>
  clear H;obtain⟨k,hq,hk,rfl,H⟩:=hrel;have HQ:=Zh hq;clear hq
  by_cases hlt:k<n
  · have hk1:(k:Int)<(n:Int):=by omega
    have HKN:=Zh hlt;have hk8:(k:Int)<8:=by have:=HN8.out;omega
    have hkn8:k<8:=by have:=HN8.out;omega
    have c1:=(H.blk 0 g1 _ rfl).cell (HRT.out k hkn8);clear hk hlt;go_upto_region 6 with fail;clear c1 hk8 hkn8;go_upto_region 6 with fail;refine Zl ?_;refine tk (.slice (some ⟨gm,0,none⟩) n n) ?_;refine tk (.int .i64 k) ?_;refine tk (.int .i64 k) ?_;refine tk (.agg ((Mp.mk (zeros p) k).cells (.slice none 0 0)).toArray) ?_ (hr:=by rw [Jek];exact Jc _ _ _ _ 82 _ rfl #[(0,.int .i64 3),(1,.int .i64 k)] (by simp [go_sem]) _ (Yo 3 k _));refine tk (.pointer (some ⟨gm,k*45,none⟩)) ?_;refine stP (Jv (J2h p (by have:=HKN.out;have:=HN8.out;omega)) Jq) (Ob.len (Jv (J2h p (by have:=HKN.out;have:=HN8.out;omega)) Jq) (Jv none_wf Jq)) (yl p (k+1) n (by have:=HKN.out;have:=HN8.out;omega)) H 1 (Jb6 HKN.out) Jb7 ?_ (hc:=Jel p k);clear H;intro w4 H;refine Zn ?_;have hb1:=HKN.out;have hb2:=HN8.out
    go_wp2_with fail
    go_roundg (n-(k+1))
    case measure=>have:=HQ.out;have:=HKN.out;omega
    case rel=>exact⟨k+1,by omega,by have:=HKN.out;omega,by go_num,H⟩
  · obtain rfl:k=n:=by omega
    have hk1:¬(k:Int)<(k:Int):=Int.lt_irrefl _;clear hk hlt;go_upto_region 12 with fail;clear hk1;go_upto_region 12 with fail;refine Zl ?_;refine tk (.slice (some ⟨gm,0,none⟩) k k) ?_;refine tk (.slice (some ⟨gm,0,none⟩) k k) ?_;refine tk (Value.nilIface) ?_;go_wp2_with fail
    go_ret2;exact⟨gm,rfl,(zV p k) ▸ H.blk 1 gm _ rfl,H.ge 1 gm _ rfl,H.ex⟩
theorem J6m{r:Rn.Rg}(hwf:r.Wf){dv:Value}(a:Ja)(h1:IsSl hv)(h2:IsSl ov)(h3:IsSl fv)(h4:Ji9 dv)(l:List Int)(hl:Mp.J3u r.g l)(hsm:∀x∈l,Jk x)(n:Nat)(hn:r.g.maps=n)(xb gm:Nat)(hne:gm≠xb)(w:World)(hx:Blk w xb (JO r hv ov a fv dv (.slice (some ⟨gm,0,none⟩) n n)))(hm:Blk w gm (Mp.row (Mp.mk l) n)):Calls Tryz.prog 98 #[.pointer (some ⟨xb,0,none⟩)] w fun e w'=>∃sv,e=.returned .nilIface∧Blk w' xb (JO r hv sv a fv dv (.slice (some ⟨gm,0,none⟩) n n))∧Only (fun k=>k=xb) w w'∧IntsAt w' sv l∧(∀k,sv.ownBlock=some k→w.heap.size≤k):=by
 have HSM:Hid (IsSl (.slice (some ⟨gm,0,none⟩) n n)):=Zh ⟨_,_,_,rfl⟩;have HWF:=Zh hwf;have HSH:=Zh h1;have HSO:=Zh h2;have HSF:=Zh h3;have HPT:=Zh h4;have H:=St.own hx (YF hwf h1 h2 h3 h4 HSM.out).ns;have HJN:Hid (∀w',Only (fun k=>k=xb) w w'→Calls Tryz.prog 124 #[r.g.v,.slice (some ⟨gm,0,none⟩) n n] w' fun e w2=>∃sv,e=.returned (.tuple #[sv,.int .i64 0])∧Mp.J2f w' w2 sv l∧Below w'.heap.size w' w2):=Zh fun w' ho=>Mp.Jb2 r.g l hl hsm n hn gm w' (hm.only ho hne);clear hwf h1 h2 h3 h4 hl hsm hn hx hm;go_enter Tryz.func98,Tryz.ntmps98;go_upto_region 0 with fail;refine Zl ?_;refine tk (Value.nilIface) ?_;go_upto_region 1 with fail;refine J9 (fun wq=>Blk wq xb (JO r hv ov a fv dv (.slice (some ⟨gm,0,none⟩) n n))) (by kernel_rfl) ?_;replace H:=H.drew;refine th 0 6 (.pointer (some ⟨xb,0,none⟩)) (H.blk 0 _ _ rfl) ?_;refine th 1 7 (.pointer (some ⟨xb,0,none⟩)) (H.blk 0 _ _ rfl) ?_;refine th 2 8 (.pointer (some ⟨xb,0,none⟩)) (H.blk 0 _ _ rfl) ?_;refine th 3 9 (.pointer (some ⟨xb,0,none⟩)) (H.blk 0 _ _ rfl) ?_;refine th 4 10 (.pointer (some ⟨xb,1,none⟩)) (H.blk 0 _ _ rfl) ?_;refine th 5 11 (.agg (geC r).toArray) (H.blk 0 _ _ rfl) ?_ (hy:=fun u hS=>QU (Jg r.g) (ki _ _ _ _ _ _ _) hS rfl _ _ _ rfl rfl);refine th 6 12 (.pointer (some ⟨xb,0,none⟩)) (H.blk 0 _ _ rfl) ?_;refine th 7 13 (.pointer (some ⟨xb,0,none⟩)) (H.blk 0 _ _ rfl) ?_;refine th 8 14 (.pointer (some ⟨xb,23,none⟩)) (H.blk 0 _ _ rfl) ?_;refine th 9 15 ((.slice (some ⟨gm,0,none⟩) n n)) (H.blk 0 _ _ rfl) ?_ (hy:=fun u hS=>by have hq:=(hS).cell (i:=23) (v:=(.slice (some ⟨gm,0,none⟩) n n)) ((Jfc HWF.out hv ov a fv dv (.slice (some ⟨gm,0,none⟩) n n)));go_simp);refine Zo 10 fun K hK=>?_;go_simp;refine (HJN.out _ H.ex).mono ?_;rintro e w1 ⟨sv,rfl,hf,hb⟩;obtain⟨sa,sn,scp,rfl⟩:=hf.1.sl;have HSV:=Zh hf.1.sl;have HFR:=Zh fun k hk=>Nat.le_trans (H.ex.size) (hf.2 k hk);replace H:=St.intsF H hb hf.1 hf.2;clear hf hb;refine hK _ _ (H.blk 0 _ _ rfl) (nm ?_);clear hK K;refine th 11 5 (.tuple #[(.slice sa sn scp),.int .i64 0]) (H.blk 0 _ _ rfl) ?_;refine th 12 17 ((.slice sa sn scp)) (H.blk 0 _ _ rfl) ?_;refine th 13 18 (.int .i64 0) (H.blk 0 _ _ rfl) ?_;refine th 14 3 ((.slice sa sn scp)) (H.blk 0 _ _ rfl) ?_;refine th 15 4 (.int .i64 0) (H.blk 0 _ _ rfl) ?_;refine Zd ?_;go_upto_region 2 with fail;refine Zl ?_;refine tk (.int .i64 0) ?_;refine tk (.bool false) ?_;go_upto_region 4 with fail;refine Zl ?_;refine tk (.pointer (some ⟨xb,0,none⟩)) ?_;refine tk ((.slice sa sn scp)) ?_;refine tk (.pointer (some ⟨xb,0,none⟩)) ?_;refine tk (.pointer (some ⟨xb,0,none⟩)) ?_;refine tk (.pointer (some ⟨xb,17,none⟩)) ?_;refine sc H 0 (17) HSV.ns ?_ (hl:=(Jfa HWF.out hv ov a fv dv (.slice (some ⟨gm,0,none⟩) n n)));clear H;intro w2 H;rw [J6g HWF.out] at H;go_upto_region 5 with fail;refine Zl ?_;refine tk (Value.nilIface) ?_;go_wp2_with fail
 go_ret;exact⟨_,rfl,H.blk 0 _ _ rfl,H.ex.1,H.ex.2,HFR.out⟩
open Go.RowKit Rn
variable {A:Nat→Prop} {B N c cap g j n:Nat} {E:World→Prop} {K:Act→World→Prop} {L M:List Value} {Q:Exit→Act→World→Prop} {V:List (Nat×List Value)} {X:List (List Int)} {a:Act} {l:List Int} {o:Oper} {sv:Value} {t:TypeId} {w w':World} {y:Operand}
theorem St.newc{q:Nat}(h:Rn.St N A E V w)(hns:∀v∈L,∀t,v≠.string t)(hq:w.heap.size≤q)(hA:Blk w' q L)(hb:Below w.heap.size w w'):Rn.St N A E (V++[(q,L)]) w':=by
 have hc:=h.call hb;refine⟨hc.sz,fun i g M hi=>?_,fun i g M hi=>?_,fun i j g M M' hi hj=>?_,hc.ex,h.st,fun i g M hi=>?_,fun i g M hi=>?_⟩
 · rcases Rn.snoc_at hi with hi|⟨-,e⟩
   · exact hc.blk i g M hi
   · cases e;exact hA
 · rcases Rn.snoc_at hi with hi|⟨-,e⟩
   · exact h.ge i g M hi
   · cases e;exact Nat.le_trans h.sz hq
 · rcases Rn.snoc_at hi with hi|⟨ei,e⟩ <;> rcases Rn.snoc_at hj with hj|⟨ej,e'⟩
   · exact h.nd i j g M M' hi hj
   · cases e';have:=(h.blk i _ M hi).lt;omega
   · cases e;have:=(h.blk j _ M' hj).lt;omega
   · rw [ei,ej]
 · rcases Rn.snoc_at hi with hi|⟨-,e⟩
   · exact h.av i g M hi
   · cases e;exact fun hk=>by have:=h.st.lt w h.ex _ hk;omega
 · rcases Rn.snoc_at hi with hi|⟨-,e⟩
   · exact h.ns i g M hi
   · cases e;exact hns
theorem St.viaI(h:Rn.St N A E V w)(i:Nat)(hi:V[i]? = some (g,L))(hns:∀v∈M,∀t,v≠.string t)(hD:Blk w' g M)(hO:Only (fun k=>k=g) w w')(hy:IntsAt w' sv l)(hf:∀k,sv.ownBlock=some k→w.heap.size≤k):Rn.St N (fun k=>A k∨(l≠[]∧sv.ownBlock=some k)) (fun u=>E u∧IntsAt u sv l) (V.set i (g,M)) w' :=
 St.add (h.put i hi hns hD hO) hy Stays.ints fun p hp hk=>by
  have hlt:p.1<w.heap.size:=by
   rcases List.mem_or_eq_of_mem_set hp with hp|rfl
   · obtain⟨j,hj⟩:=List.getElem?_of_mem hp;exact (h.blk j p.1 p.2 hj).lt
   · exact (h.blk i g L hi).lt
  have:=hf p.1 hk.2;omega
theorem St.ownsB(B:Nat)(h:Rn.St N A E V w)(hB:B≤w.heap.size)(hb:Below w.heap.size w w')(hy:OwnN w' w.heap.size sv l):Rn.St N (fun k=>A k∨sv.ownBlock=some k) (fun u=>E u∧OwnN u B sv l) V w':=by
 have k:=h.call hb;exact⟨k.sz,k.blk,k.ge,k.nd,⟨k.ex,hy.mono hB⟩,h.st.both Stays.own,fun i g L hi ho=>ho.elim (h.av i g L hi) fun ho=>absurd (h.blk i g L hi).lt (Nat.not_lt.2 (hy.lt g ho).1),h.ns⟩
theorem qs(h:OwnN w B (.slice (some ⟨g,0,none⟩) n cap) l)(hj:j<l.length):(∃v,w.cell? ⟨g,j,none⟩=some (.int .i64 v))∧w.frozen? ⟨g,j,none⟩=false:=by
 constructor
 · obtain⟨a,c,e,hc⟩:=h.ints;obtain⟨b,o,e2,h2⟩:=hc j l[j] (List.getElem?_eq_getElem hj);injection e with e3
   rw [e2] at e3;cases e3;rw [Nat.zero_add] at h2;exact⟨_,h2⟩
 · rcases h.2 with ⟨e,_⟩|⟨g',cap',cur,e,hb,hg,hn,hm,hs,ht⟩
   · cases e
   · cases e;exact frozen_of_row w g j _ 3 hg
theorem scH{old:Value}(v:Value)(hq:w.cell? ⟨g,c,none⟩=some old)(hz:w.frozen? ⟨g,c,none⟩=false)(h:K (a.put o.dst undef) (w.setCell ⟨g,c,none⟩ v))(r:w.cell? ⟨g,c,none⟩=some old→w.frozen? ⟨g,c,none⟩=false→(execOp a.eval o).run Tryz.prog w=.ok .skip (w.setCell ⟨g,c,none⟩ v):=by intro hq hf;go_simp):o.wp Tryz.prog a w K Q :=
 ju o.dst rfl _ (r hq hz) h
theorem JN(a:Option Addr)(n c:Nat):IsSl (.slice a n c):=⟨_,_,_,rfl⟩
theorem Jem(p n:Nat)(h:n<1000):∀v∈Mp.row (Mp.mk (zeros p)) n,∀t,v≠.string t:=zV p n ▸ yl p n n h
theorem J6n(s o q:Int):Tryz.prog.built 58 [(0,.int .i64 s),(1,.int .i64 o),(2,.int .u32 q)]=some (atC ⟨s,o,q,[]⟩ (.slice none 0 0)).toArray:=by kernel_rfl
theorem Jid{M' p L' q:List Value}{x:Operand}(ob:Ob t L')(hl:L.length=L'.length)(hm:M=p++(L++q))(hm':M'=p++(L'++q))(hg:Blk w g M)(hc:p.length=c)(h:∀wX,Blk wX g M'→Only (fun k=>k=g) w wX→K (a.put o.dst undef) wX)(ho:o.op=.store t x y:=by rfl)(hx:a.eval x=.pointer (some ⟨g,c,none⟩):=by rfl)(hy:a.eval y=.agg L'.toArray:=by rfl):o.wp Tryz.prog a w K Q:=by
 subst hm hm' hc;refine Kk t x y ho g p.length L'.toArray hx hy _ hg (by rw [List.size_toArray];exact ob.sz) (by simp;omega) (by simpa using ob.one) ?_;have e:(Jt (p++(L++q)) p.length L'.toArray).toList=p++(L'++q):=by
  simp [Jt,←hl]
 refine h _ ?_ ((Only.refl (fun k=>k=g) w).setRow (g:=g) (.inl rfl) _);have:=hg.row (Jt (p++(L++q)) p.length L'.toArray);rw [e] at this;exact this
theorem jO{g:Pl.Gm}(p:Nat)(seg off:Int)(hg:g.Ok):QK X g (zeros p) (zeros 8) seg off g.cap=some []:=by
 have hp:∀(k:Int) (n:Nat),JY X g k (zeros n)=some []:=fun k n=>by
  induction n generalizing k with
  | zero=>rfl
  | succ n ih =>
   show JY X g k (0::zeros n)=some [];rw [Ky rfl];exact ih _
 refine qq ?_ (l:=[]) ?_ ⟨List.nodup_nil,fun p hp=>by cases hp⟩
 · have e:Hs.cnt (zeros p)=0:=by
    unfold Hs.cnt;rw [List.length_eq_zero_iff,List.filter_eq_nil_iff];intro a ha;rw [List.eq_of_mem_replicate ha];decide
   rw [e];unfold Pl.Gm.cap;omega
 · unfold Ye;rw [hp];rfl
end Go.Proofs.YtdbfmikeaoaebaaGreatDoor
