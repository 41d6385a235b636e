/- Steps. -/
import Derived.Test.YtdbfmikeaoaebaaGreatDoorMai
import Derived.Test.YtdbfmikeaoaebaaGreatDoorMab
set_option linter.unusedSimpArgs false
set_option linter.unusedVariables false
set_option maxRecDepth 100000
set_option maxHeartbeats 4000000
namespace Go.Proofs.YtdbfmikeaoaebaaGreatDoor
open Go.RowKit
variable {S:Nat→Prop} {b i j k:Nat} {cs:Array Value} {w w':World}
namespace De
open Go.RowKit
structure Sec (cs:Array Value):Prop where
 size:cs.size=64
 byte:∀v∈cs,∃m,v=.int .u8 m
theorem Sec.one(h:Sec cs):∀v∈cs,v.oneCell'=true:=fun v hv=>by obtain⟨m,rfl⟩:=h.byte v hv; rfl
def JH(v:Int):Array Value:=Array.replicate 64 (.int .u8 v)
theorem qA(v:Int):Sec (JH v):=⟨by simp [JH],fun x hx=>⟨v,by simp [JH] at hx; exact hx⟩⟩
def I64(n:Int):Prop:=-9223372036854775808≤n∧n≤9223372036854775807
structure D where
 S:List (Array Value)
 L:List (Nat×Array Value)
 F:Int
 T:Nat
def app(S:List (Array Value))(L:List (Nat×Array Value)):List (Array Value):=L.foldl (fun S p=>S.set p.1 p.2) S
@[simp] theorem ks(S:List (Array Value))(L:List (Nat×Array Value)):(app S L).length=S.length:=by
 unfold app
 induction L generalizing S with
 | nil=>rfl
 | cons p L ih=>simp [ih]
theorem ZB(S:List (Array Value))(L:List (Nat×Array Value))(p:Nat×Array Value):app S (L++[p])=(app S L).set p.1 p.2:=by simp [app]
theorem J82(S:List (Array Value))(L:List (Nat×Array Value))(i:Nat)(h:∀p∈L,p.1≠i):(app S L)[i]? = S[i]? := by
 unfold app
 induction L generalizing S with
 | nil=>rfl
 | cons p L ih =>
  simp only [List.foldl_cons];rw [ih _ fun q hq=>h q (by simp [hq])];exact List.getElem?_set_ne (h p (by simp))
theorem xp{S:List (Array Value)}{L:List (Nat×Array Value)}(hS:∀s∈S,Sec s)(hL:∀p∈L,Sec p.2):∀s∈app S L,Sec s:=by
 unfold app
 induction L generalizing S with
 | nil=>exact hS
 | cons p L ih =>
  simp only [List.foldl_cons];refine ih (fun s hs=>?_) fun q hq=>hL q (by simp [hq]);rcases List.mem_or_eq_of_mem_set hs with h | rfl
  · exact hS s h
  · exact hL p (by simp)
def K0(L:List (Nat×Array Value))(kp:Nat→Bool):Nat→List (Nat×Array Value)
 | 0=>[]
 | k+1=>match L[k]? with
  | some p=>if kp k then K0 L kp k++[p] else K0 L kp k
  | none=>K0 L kp k
theorem kt{L:List (Nat×Array Value)}{kp:Nat→Bool}{p:Nat×Array Value}(h:L[k]? = some p)(hk:kp k=true):K0 L kp (k+1)=K0 L kp k++[p]:=by simp [K0,h,hk]
theorem J47{L:List (Nat×Array Value)}{kp:Nat→Bool}(hk:kp k=false):K0 L kp (k+1)=K0 L kp k:=by
 simp only [K0,hk];split <;> rfl
theorem ku(L:List (Nat×Array Value)):∀k,k≤L.length→K0 L (fun _=>true) k=L.take k
 | 0,_=>by simp [K0]
 | k+1,h=>by
  have hk:L[k]? = some L[k]:=List.getElem?_eq_getElem (by omega);rw [kt hk rfl,ku L k (by omega),List.take_succ_eq_append_getElem (by omega)]
theorem Xe{L:List (Nat×Array Value)}{kp:Nat→Bool}:∀{k:Nat} {p:Nat×Array Value},p∈K0 L kp k→p∈L
 | k+1,p,h=>by
  simp only [K0] at h;split at h
  · rename_i q hq
    split at h
    · simp only [List.mem_append,List.mem_singleton] at h;rcases h with h | rfl
      · exact Xe h
      · exact List.mem_of_getElem? hq
    · exact Xe h
  · exact Xe h
def D.has(d:D)(i:Int):Bool:=decide (0≤i)&&decide (i<d.S.length)
def D.nextF(d:D):Int:=if d.F<0 then d.F else d.F-1
def D.write(d:D)(i:Int)(s:Array Value):D:=if d.has i then (if d.F=0 then { d with F:=-1 } else { d with F:=d.nextF,T:=d.T+1,L:=d.L++[(i.toNat,s)] }) else d
def D.writeE(d:D)(i:Int):Int:=if d.has i then (if d.F=0 then 12 else 0) else 1
def D.flush(d:D):D:=if d.F=0 then { d with F:=-1 } else { d with F:=d.nextF,T:=d.T+1,S:=app d.S d.L,L:=[] }
def D.flushE(d:D):Int:=if d.F=0 then 12 else 0
def D.read(d:D)(i:Int):Array Value:=if d.has i then (app d.S d.L).getD i.toNat (JH 0) else JH 0
def D.readE(d:D)(i:Int):Int:=if d.has i then 0 else 1
def XD(n:Nat):D:=⟨List.replicate n (JH 0),[],-1,0⟩
def flat(S:List (Array Value)):List Value:=S.flatMap (·.toList)
def Xf(L:List (Nat×Array Value)):List Value:=L.flatMap fun p=>.int .i64 p.1::p.2.toList
theorem flat_length{S:List (Array Value)}(h:∀s∈S,Sec s):(flat S).length=S.length*64:=by
 induction S with
 | nil=>rfl
 | cons s S ih =>
  have:=ih fun t ht=>h t (by simp [ht]);have h1:=(h s (by simp)).size;simp only [flat,List.flatMap_cons,List.length_append,List.length_cons] at this ⊢;simp only [Array.length_toList];omega
theorem Jbk{S:List (Array Value)}(h:∀s∈S,Sec s){s:Array Value}(hi:S[i]? = some s)(hj:j<64):(flat S)[i*64+j]? = s[j]? := by
 induction S generalizing i with
 | nil=>simp at hi
 | cons t S ih =>
  have h1:=(h t (by simp)).size;cases i with
  | zero =>
   simp only [List.getElem?_cons_zero,Option.some.injEq] at hi;subst hi;simp only [flat,List.flatMap_cons,Nat.zero_mul,Nat.zero_add];rw [List.getElem?_append_left (by simp; omega)];simp
  | succ i =>
   simp only [List.getElem?_cons_succ] at hi;have:=ih (fun t ht=>h t (by simp [ht])) hi;simp only [flat,List.flatMap_cons] at this ⊢;rw [List.getElem?_append_right (by simp; omega),←this];congr 1;simp;omega
theorem yC{S:List (Array Value)}(h:∀s∈S,Sec s)(hi:i<S.length){s:Array Value}(hs:Sec s):(Js (flat S) (i*64) s).toList=flat (S.set i s):=by
 induction S generalizing i with
 | nil=>simp at hi
 | cons t S ih =>
  have h1:=(h t (by simp)).size;have h2:=hs.size;cases i with
  | zero =>
   simp only [Js,flat,List.flatMap_cons,List.set_cons_zero,Nat.zero_mul,List.take_zero,List.nil_append,Nat.zero_add];rw [List.drop_append_of_le_length (by simp; omega),List.drop_of_length_le (by simp; omega)];simp
  | succ i =>
   have:=ih (fun t ht=>h t (by simp [ht])) (by simpa using hi);simp only [Js,flat,List.flatMap_cons,List.set_cons_succ] at this ⊢;rw [←this];have e1:(t.toList++List.flatMap (fun x=>x.toList) S).take ((i+1)*64)=t.toList++(List.flatMap (fun x=>x.toList) S).take (i*64):=by
    rw [List.take_append];rw [List.take_of_length_le (by simp; omega)];congr 2;simp;omega
   have e2:(t.toList++List.flatMap (fun x=>x.toList) S).drop ((i+1)*64+s.size)=(List.flatMap (fun x=>x.toList) S).drop (i*64+s.size):=by
    rw [List.drop_append];rw [List.drop_of_length_le (by simp; omega)];simp only [List.nil_append];congr 1;simp;omega
   simp [e1,e2]
theorem yD{L:List (Nat×Array Value)}(h:∀p∈L,Sec p.2){p:Nat×Array Value}(hi:L[i]? = some p)(hj:j<65):(Xf L)[i*65+j]? = (Value.int .i64 p.1::p.2.toList)[j]? := by
 induction L generalizing i with
 | nil=>simp at hi
 | cons t S ih =>
  have h1:=(h t (by simp)).size;cases i with
  | zero =>
   simp only [List.getElem?_cons_zero,Option.some.injEq] at hi;subst hi;simp only [Xf,List.flatMap_cons,Nat.zero_mul,Nat.zero_add];rw [List.getElem?_append_left (by simp; omega)]
  | succ i =>
   simp only [List.getElem?_cons_succ] at hi;have:=ih (fun t ht=>h t (by simp [ht])) hi;simp only [Xf,List.flatMap_cons] at this ⊢;rw [List.getElem?_append_right (by simp; omega),←this];congr 1;simp;omega
theorem J0n(L:List (Nat×Array Value))(p:Nat×Array Value):Xf (L++[p])=Xf L++(.int .i64 p.1::p.2.toList):=by simp [Xf]
structure Addrs where
 b:Nat
 sb:Nat
 nb:Nat
 lv:Value
def Addrs.foot(A:Addrs)(k:Nat):Prop:=k=A.b∨k=A.sb∨k=A.nb∨A.lv.ownBlock=some k
def LastOk(L:List (Nat×Array Value))(N:List Nat):Prop :=
 ∀i n,N[i]? = some n→(n=0∧∀p∈L,p.1≠i)∨(0<n∧∃s,L[n-1]? = some (i,s)∧∀S:List (Array Value),i<S.length→(app S L)[i]? = some s)
structure DevIs (w:World) (base:Nat) (A:Addrs) (d:D) (N:List Nat):Prop where
 blk:Blk w A.b [.slice (some ⟨A.sb,0,none⟩) d.S.length d.S.length,A.lv,.slice (some ⟨A.nb,0,none⟩) d.S.length d.S.length,.int .i64 d.F,.int .i64 d.T]
 sec:Blk w A.sb (flat d.S)
 last:Blk w A.nb (N.map fun (n:Nat)=>Value.int .i64 (n:Int))
 own:w.ownsRow base 113 65 A.lv d.L.length (Xf d.L)
 hS:∀s∈d.S,Sec s
 hL:∀p∈d.L,Sec p.2∧p.1<d.S.length
 hN:N.length=d.S.length
 ok:LastOk d.L N
 n1:A.b≠A.sb
 n2:A.b≠A.nb
 n3:A.sb≠A.nb
 o1:A.lv.ownBlock≠some A.b
 o2:A.lv.ownBlock≠some A.sb
 o3:A.lv.ownBlock≠some A.nb
 b1:base≤A.b
 b2:base≤A.sb
 b3:base≤A.nb
 len:d.S.length≤1024
 f:I64 d.F
def DevAt(w:World)(base:Nat)(A:Addrs)(d:D):Prop:=∃N,DevIs w base A d N
theorem DevIs.lvShape{base:Nat}{A:Addrs}{d:D}{N:List Nat}(h:DevIs w base A d N):∃a cap,A.lv=.slice a d.L.length cap:=by
 rcases h.own.2 with ⟨e,e2⟩ | ⟨g,cap,cur,e,_⟩
 · exact⟨none,0,by rw [e,e2]⟩
 · exact⟨_,_,e⟩
theorem DevIs.c0{base:Nat}{A:Addrs}{d:D}{N:List Nat}(h:DevIs w base A d N):w.cell? ⟨A.b,0,none⟩=some (.slice (some ⟨A.sb,0,none⟩) d.S.length d.S.length):=h.blk.cell rfl
theorem DevIs.c1{base:Nat}{A:Addrs}{d:D}{N:List Nat}(h:DevIs w base A d N):w.cell? ⟨A.b,1,none⟩=some A.lv:=h.blk.cell rfl
theorem DevIs.c2{base:Nat}{A:Addrs}{d:D}{N:List Nat}(h:DevIs w base A d N):w.cell? ⟨A.b,2,none⟩=some (.slice (some ⟨A.nb,0,none⟩) d.S.length d.S.length):=h.blk.cell rfl
theorem DevIs.c3{base:Nat}{A:Addrs}{d:D}{N:List Nat}(h:DevIs w base A d N):w.cell? ⟨A.b,3,none⟩=some (.int .i64 d.F):=h.blk.cell rfl
theorem DevIs.c4{base:Nat}{A:Addrs}{d:D}{N:List Nat}(h:DevIs w base A d N):w.cell? ⟨A.b,4,none⟩=some (.int .i64 d.T):=h.blk.cell rfl
theorem DevIs.only{base:Nat}{A:Addrs}{d:D}{N:List Nat}(h:DevIs w base A d N)(ho:Only S w w')(hS:∀k,A.foot k→¬S k):DevIs w' base A d N :=
  { h with
    blk:=h.blk.only ho (hS _ (.inl rfl)),sec:=h.sec.only ho (hS _ (.inr (.inl rfl))),last:=h.last.only ho (hS _ (.inr (.inr (.inl rfl))))
    own:=by
      refine⟨h.own.1,?_⟩
      rcases h.own.2 with hn | ⟨g,cap,cur,e,hb,hg,r⟩
      · exact .inl hn
      · exact .inr ⟨g,cap,cur,e,hb,(ho.block g (Array.getElem?_eq_some_iff.1 hg).1 (hS g (.inr (.inr (.inr (by rw [e]; rfl)))))).trans hg,r⟩ }
theorem DevAt.only{base:Nat}{A:Addrs}{d:D}(h:DevAt w base A d)(ho:Only S w w')(hS:∀k,A.foot k→¬S k):DevAt w' base A d :=
 let ⟨N,h⟩:=h
 ⟨N,h.only ho hS⟩
theorem DevIs.foot_lt{base:Nat}{A:Addrs}{d:D}{N:List Nat}(h:DevIs w base A d N):∀k,A.foot k→base≤k∧k<w.heap.size:=by
 rintro k (rfl | rfl | rfl | hk)
 · exact⟨h.b1,h.blk.lt⟩
 · exact⟨h.b2,h.sec.lt⟩
 · exact⟨h.b3,h.last.lt⟩
 · exact h.own.lt k hk
theorem DevAt.foot_lt{base:Nat}{A:Addrs}{d:D}(h:DevAt w base A d):∀k,A.foot k→base≤k∧k<w.heap.size:=let ⟨_,h⟩:=h; h.foot_lt
theorem DevIs.setF{base:Nat}{A:Addrs}{d:D}{N:List Nat}(h:DevIs w base A d N){f:Int}(hf:I64 f):DevIs (w.setCell ⟨A.b,3,none⟩ (.int .i64 f)) base A { d with F:=f } N :=
  { h with
    blk:=h.blk.set 3 (.int .i64 f),sec:=h.sec.setOther h.n1.symm _,last:=h.last.setOther h.n2.symm _,f:=hf
    own:=by
      refine⟨h.own.1,?_⟩
      rcases h.own.2 with hn | ⟨g,cap,cur,e,hb,hg,r⟩
      · exact .inl hn
      · have hne:g≠A.b:=fun hgb=>h.o1 (by rw [e,←hgb]; rfl)
        exact .inr ⟨g,cap,cur,e,hb,(heap_setCell_other w ⟨A.b,3,none⟩ g _ hne).trans hg,r⟩ }
theorem DevIs.setT{base:Nat}{A:Addrs}{d:D}{N:List Nat}(h:DevIs w base A d N)(t:Nat):DevIs (w.setCell ⟨A.b,4,none⟩ (.int .i64 t)) base A { d with T:=t } N :=
  { h with
    blk:=h.blk.set 4 (.int .i64 t),sec:=h.sec.setOther h.n1.symm _,last:=h.last.setOther h.n2.symm _
    own:=by
      refine⟨h.own.1,?_⟩
      rcases h.own.2 with hn | ⟨g,cap,cur,e,hb,hg,r⟩
      · exact .inl hn
      · have hne:g≠A.b:=fun hgb=>h.o1 (by rw [e,←hgb]; rfl)
        exact .inr ⟨g,cap,cur,e,hb,(heap_setCell_other w ⟨A.b,4,none⟩ g _ hne).trans hg,r⟩ }
theorem has_any(w:World)(base:Nat)(A:Addrs)(d:D)(h:DevAt w base A d)(i:Int):Calls Tryz.prog 53 #[.pointer (some ⟨A.b,0,none⟩),.int .i64 i] w fun e w'=>e=.returned (.bool (d.has i))∧w=w':=by
 obtain⟨N,h⟩:=h;have c0:=h.c0;have hl:=h.len;unfold D.has;clear h;generalize d.S.length=n at *
 by_cases h0:0≤i
 · by_cases h1:i<n
   · rw [show (decide (0≤i)&&decide (i<n))=true by simp [h0,h1]];go_enter Tryz.func53,Tryz.ntmps53
     go_wp2
     go_ret;exact⟨rfl,rfl⟩
   · rw [show (decide (0≤i)&&decide (i<n))=false by simp [h1]];go_enter Tryz.func53,Tryz.ntmps53
     go_wp2
     go_ret;exact⟨rfl,rfl⟩
 · rw [show (decide (0≤i)&&decide (i<n))=false by simp [h0]];go_enter Tryz.func53,Tryz.ntmps53
   go_wp2
   go_ret;exact⟨rfl,rfl⟩
theorem yE(w:World)(base:Nat)(A:Addrs)(d:D)(h:DevAt w base A d)(hf:d.F<0):Calls Tryz.prog 54 #[.pointer (some ⟨A.b,0,none⟩)] w fun e w'=>e=.returned (.bool false)∧w=w':=by
 obtain⟨N,h⟩:=h;have c3:=h.c3;clear h;generalize d.F=f at *;go_enter Tryz.func54,Tryz.ntmps54
 go_wp2
 go_ret;exact⟨rfl,rfl⟩
theorem kv(w:World)(base:Nat)(A:Addrs)(d:D)(h:DevAt w base A d)(hf:0≤d.F):Calls Tryz.prog 54 #[.pointer (some ⟨A.b,0,none⟩)] w fun e w'=>e=.returned (.bool (decide (d.F=0)))∧DevAt w' base A { d with F:=d.F-1 }∧Only A.foot w w':=by
 obtain⟨N,h⟩:=h;have c3:=h.c3;have hz:=h.blk.frozen 3;have hd:DevAt (w.setCell ⟨A.b,3,none⟩ (.int .i64 (d.F-1))) base A { d with F:=d.F-1 }:=⟨N,h.setF ⟨by omega,by have:=h.f.2; omega⟩⟩
 have ho:Only A.foot w (w.setCell ⟨A.b,3,none⟩ (.int .i64 (d.F-1))):=(Only.refl _ _).setCell (.inl (.inl rfl)) _;have hf2:=h.f.2;have HD:=Zh hd;have HO:=Zh ho;clear hd ho h;generalize d.F=f at *
 by_cases h0:f=0
 · subst h0;rw [show decide ((0:Int)=0)=true from rfl];go_enter Tryz.func54,Tryz.ntmps54
   go_wp2
   go_ret;exact⟨rfl,HD.out,HO.out⟩
 · rw [show decide (f=0)=false by simp [h0]];have e1:(f-1 == -1)=false:=beq_eq_false_iff_ne.2 (by omega);go_enter Tryz.func54,Tryz.ntmps54
   go_wp2
   go_ret;exact⟨rfl,HD.out,HO.out⟩
def Did(w:World)(base:Nat)(A:Addrs)(r:Value)(d:D)(e:Ending)(w':World):Prop :=
 ∃lv,e=.returned r∧DevAt w' base { A with lv:=lv } d∧Only A.foot w w'∧∀k,lv.ownBlock=some k→A.lv.ownBlock=some k∨w.heap.size≤k
theorem Did.same{base:Nat}{A:Addrs}{r:Value}{d:D}(h:DevAt w' base A d)(ho:Only A.foot w w'):Did w base A r d (.returned r) w':=⟨A.lv,rfl,h,ho,fun _ h=>.inl h⟩
theorem yF(d:D)(h:¬d.F<0):d.nextF=d.F-1:=by unfold D.nextF; rw [if_neg h]
theorem qB(d:D)(h:d.F<0):d.nextF=d.F:=by unfold D.nextF; rw [if_pos h]
def D.askE(d:D):Int:=if d.F=0 then 12 else 0
def D.ask(d:D):D:=if d.F=0 then { d with F:=-1 } else { d with F:=d.nextF,T:=d.T+1 }
theorem yG(w:World)(base:Nat)(A:Addrs)(d:D)(h:DevAt w base A d)(i:Int):Calls Tryz.prog 32 #[.pointer (some ⟨A.b,0,none⟩),.int .i64 0,.int .i64 i] w fun e w'=>e=.returned (.int .i64 (d.readE i))∧w=w':=by
 have H:=Zh (has_any w base A d h i);clear h;unfold D.readE;cases hh:d.has i
 all_goals
  rw [hh] at H;clear hh;go_enter Tryz.func32,Tryz.ntmps32
  go_wp2_with fail
  refine H.mono ?_;rintro e w' ⟨rfl,rfl⟩
  go_wp2_with fail
  go_ret;exact⟨rfl,rfl⟩
theorem qC(w:World)(base:Nat)(A:Addrs)(d:D)(h:DevAt w base A d)(hT:d.T≤1000000)(i:Int):Calls Tryz.prog 32 #[.pointer (some ⟨A.b,0,none⟩),.int .i64 2,.int .i64 i] w fun e w'=>e=.returned (.int .i64 d.askE)∧DevAt w' base A d.ask∧Only A.foot w w':=by
 unfold D.askE D.ask
 by_cases hn:d.F<0
 · have H:=Zh (yE w base A d h hn);obtain⟨N,h⟩:=h;have c4:=h.c4;have hz:=h.blk.frozen 4;have HD:=Zh (show DevAt (w.setCell ⟨A.b,4,none⟩ (.int .i64 ((d.T+1:Nat):Int))) base A { d with T:=d.T+1 } from ⟨N,h.setT (d.T+1)⟩);have HO:=Zh (show Only A.foot w (w.setCell ⟨A.b,4,none⟩ (.int .i64 ((d.T+1:Nat):Int))) from (Only.refl _ _).setCell (.inl (.inl rfl)) _);rw [if_neg (by omega),if_neg (by omega),qB d hn];clear h hn;go_enter Tryz.func32,Tryz.ntmps32
   go_wp2_with fail
   refine H.mono ?_;rintro e w' ⟨rfl,rfl⟩
   go_wp2_with fail
   go_ret;exact⟨rfl,HD.out,HO.out⟩
 · have H:=Zh (kv w base A d h (by omega));rw [yF d hn]
   by_cases h0:d.F=0
   · rw [if_pos h0,if_pos h0];rw [h0] at H;rw [show decide ((0:Int)=0)=true from rfl] at H;clear h h0 hn;go_enter Tryz.func32,Tryz.ntmps32
     go_wp2_with fail
     refine H.mono ?_;rintro e w' ⟨rfl,hd,ho⟩;have HD:=Zh hd;have HO:=Zh ho;clear hd ho
     go_wp2_with fail
     go_ret;exact⟨rfl,HD.out,HO.out⟩
   · rw [if_neg h0,if_neg h0];rw [show decide (d.F=0)=false by simp [h0]] at H;clear h h0 hn;go_enter Tryz.func32,Tryz.ntmps32
     go_wp2_with fail
     refine H.mono ?_;rintro e w' ⟨rfl,hd,ho⟩;obtain⟨N,h⟩:=hd;have c4:=h.c4;have hz:=h.blk.frozen 4;simp only at c4;have HD:=Zh (show DevAt (w'.setCell ⟨A.b,4,none⟩ (.int .i64 ((d.T+1:Nat):Int))) base A { d with F:=d.F-1,T:=d.T+1 } from ⟨N,h.setT (d.T+1)⟩);have HO:=Zh (show Only A.foot w (w'.setCell ⟨A.b,4,none⟩ (.int .i64 ((d.T+1:Nat):Int))) from ho.setCell (.inl (.inl rfl)) _);clear h ho
     go_wp2_with fail
     go_ret;exact⟨rfl,HD.out,HO.out⟩
theorem J48(w:World)(base:Nat)(A:Addrs)(d:D)(h:DevAt w base A d)(hT:d.T≤1000000)(i:Int)(hi:d.has i=true):Calls Tryz.prog 32 #[.pointer (some ⟨A.b,0,none⟩),.int .i64 1,.int .i64 i] w fun e w'=>e=.returned (.int .i64 d.askE)∧DevAt w' base A d.ask∧Only A.foot w w':=by
 have HH:=Zh (has_any w base A d h i);rw [hi] at HH;clear hi;unfold D.askE D.ask
 by_cases hn:d.F<0
 · have H:=Zh (yE w base A d h hn);obtain⟨N,h⟩:=h;have c4:=h.c4;have hz:=h.blk.frozen 4;have HD:=Zh (show DevAt (w.setCell ⟨A.b,4,none⟩ (.int .i64 ((d.T+1:Nat):Int))) base A { d with T:=d.T+1 } from ⟨N,h.setT (d.T+1)⟩);have HO:=Zh (show Only A.foot w (w.setCell ⟨A.b,4,none⟩ (.int .i64 ((d.T+1:Nat):Int))) from (Only.refl _ _).setCell (.inl (.inl rfl)) _);rw [if_neg (by omega),if_neg (by omega),qB d hn];clear h hn;go_enter Tryz.func32,Tryz.ntmps32
   go_wp2_with fail
   refine HH.mono ?_;rintro e w' ⟨rfl,rfl⟩
   go_wp2_with fail
   refine H.mono ?_;rintro e w' ⟨rfl,rfl⟩
   go_wp2_with fail
   go_ret;exact⟨rfl,HD.out,HO.out⟩
 · have H:=Zh (kv w base A d h (by omega));rw [yF d hn]
   by_cases h0:d.F=0
   · rw [if_pos h0,if_pos h0];rw [h0] at H;rw [show decide ((0:Int)=0)=true from rfl] at H;clear h h0 hn;go_enter Tryz.func32,Tryz.ntmps32
     go_wp2_with fail
     refine HH.mono ?_;rintro e w' ⟨rfl,rfl⟩
     go_wp2_with fail
     refine H.mono ?_;rintro e w' ⟨rfl,hd,ho⟩;have HD:=Zh hd;have HO:=Zh ho;clear hd ho
     go_wp2_with fail
     go_ret;exact⟨rfl,HD.out,HO.out⟩
   · rw [if_neg h0,if_neg h0];rw [show decide (d.F=0)=false by simp [h0]] at H;clear h h0 hn;go_enter Tryz.func32,Tryz.ntmps32
     go_wp2_with fail
     refine HH.mono ?_;rintro e w' ⟨rfl,rfl⟩
     go_wp2_with fail
     refine H.mono ?_;rintro e w' ⟨rfl,hd,ho⟩;obtain⟨N,h⟩:=hd;have c4:=h.c4;have hz:=h.blk.frozen 4;simp only at c4;have HD:=Zh (show DevAt (w'.setCell ⟨A.b,4,none⟩ (.int .i64 ((d.T+1:Nat):Int))) base A { d with F:=d.F-1,T:=d.T+1 } from ⟨N,h.setT (d.T+1)⟩);have HO:=Zh (show Only A.foot w (w'.setCell ⟨A.b,4,none⟩ (.int .i64 ((d.T+1:Nat):Int))) from ho.setCell (.inl (.inl rfl)) _);clear h ho
     go_wp2_with fail
     go_ret;exact⟨rfl,HD.out,HO.out⟩
theorem yH(w:World)(base:Nat)(A:Addrs)(d:D)(h:DevAt w base A d)(i:Int)(hi:d.has i=false):Calls Tryz.prog 32 #[.pointer (some ⟨A.b,0,none⟩),.int .i64 1,.int .i64 i] w fun e w'=>e=.returned (.int .i64 1)∧w=w':=by
 have HH:=Zh (has_any w base A d h i);rw [hi] at HH;clear hi h;go_enter Tryz.func32,Tryz.ntmps32
 go_wp2_with fail
 refine HH.mono ?_;rintro e w' ⟨rfl,rfl⟩
 go_wp2_with fail
 go_ret;exact⟨rfl,rfl⟩
theorem Jbl(w:World)(base:Nat)(A:Addrs)(d:D)(h:DevAt w base A d):Calls Tryz.prog 33 #[.pointer (some ⟨A.b,0,none⟩)] w fun e w'=>e=.returned (.int .i64 d.S.length)∧w=w':=by
 obtain⟨N,h⟩:=h;have c0:=h.c0;clear h;go_enter Tryz.func33,Tryz.ntmps33
 go_wp2_with fail
 go_ret;exact⟨rfl,rfl⟩
theorem len_nil(w:World):Calls Tryz.prog 33 #[.pointer none] w fun e w'=>e=.returned (.int .i64 0)∧w=w':=by
 go_enter Tryz.func33,Tryz.ntmps33
 go_wp2_with fail
 go_ret;exact⟨rfl,rfl⟩
theorem info36:(Tryz.prog.info? 36).map (·.size)=some 64:=by kernel_rfl
theorem J2k:(Tryz.prog.info? 113).map (·.size)=some 65:=by kernel_rfl
theorem _root_.Go.Proofs.YtdbfmikeaoaebaaGreatDoor.Blk.cells{l:List Value}(h:Blk w b l)(cs:Array Value)(e:l=cs.toList):∀j (hj:j<cs.size),w.cell? ⟨b,0+j,none⟩=some cs[j]:=fun j hj=>by
 subst e;exact h.cell (by simp [hj])
end De
end Go.Proofs.YtdbfmikeaoaebaaGreatDoor
