/-
  Steps.
-/
import Derived.Test.YtdgladhfibfdlaaGreatDoorQPSs29
namespace Go.Proofs.YtdgladhfibfdlaaGreatDoor
open Go Go.RowKit Go.Proofs.Tryz
set_option maxRecDepth 100000
abbrev ROT:TypeId:=58
abbrev BLT:TypeId:=4
def ov (L U:Value)(d:Int)(b:Bool):Array Value:= #[L,U,.int .i64 d,.bool b]
theorem Zq (L U:Value)(d:Int)(b:Bool):(ov L U d b).size=4:=rfl
def uv (g n:Nat):Value:=.slice (some ⟨g,0,none⟩) n n
def IsS (v:Value):Prop:=∃a n c,v=.slice a n c
theorem Jj {L:Value}(h:IsS L)(g n:Nat)(d:Int)(b:Bool):(ov L (uv g n) d b).all (·.oneCell')=true:=by
 obtain⟨a,m,c,rfl⟩:=h;simp[ov,uv,Value.oneCell']
theorem Zk:z72 ROT 4:=⟨⟨_,underlying58,rfl⟩,by kernel_rfl⟩
theorem Vx:x0q ROT (ov Z0 Z0 0 false):=fun w=>by kernel_rfl
def yl (n:Nat)(u:Nat→Bool):Array Value:=((List.range n).map fun k=>Value.bool (u k)).toArray
theorem XR (n:Nat)(u:Nat→Bool):(yl n u).size=n:=by simp[yl]
theorem y2h (n:Nat)(u:Nat→Bool)(k:Nat)(h:k<n):(yl n u)[k]? =some (.bool (u k)):=by simp[yl,h]
theorem y7n (n:Nat)(u:Nat→Bool)(k:Nat)(h:k<n):(yl n u).setIfInBounds k (.bool true)=yl n (Jz u k):=by
 apply Array.ext_getElem?;intro i;rw[Array.getElem?_setIfInBounds,XR]
 by_cases h1:i<n
 ·rw[y2h n _ i h1,y2h n _ i h1];unfold Jz
  by_cases h2:k=i
  ·subst h2;rw[if_pos rfl,if_pos h,if_pos rfl]
  ·rw[if_neg h2,if_neg (fun e=>h2 e.symm)]
 ·have h2:¬k=i:=by omega
  rw[if_neg h2,Array.getElem?_eq_none (by rw[XR];omega),Array.getElem?_eq_none (by rw[XR];omega)]
theorem Blk.o0 {w:World}{b:Nat}{t:TypeId}{L U:Value}{d:Int}{x:Bool}(h:Blk w b t (ov L U d x)):w.cell? ⟨b,0,none⟩=some L:=by rw[h.cell];rfl
theorem Blk.o1 {w:World}{b:Nat}{t:TypeId}{L U:Value}{d:Int}{x:Bool}(h:Blk w b t (ov L U d x)):w.cell? ⟨b,1,none⟩=some U:=by rw[h.cell];rfl
theorem Blk.o2 {w:World}{b:Nat}{t:TypeId}{L U:Value}{d:Int}{x:Bool}(h:Blk w b t (ov L U d x)):w.cell? ⟨b,2,none⟩=some (.int .i64 d):=by rw[h.cell];rfl
theorem Blk.o3 {w:World}{b:Nat}{t:TypeId}{L U:Value}{d:Int}{x:Bool}(h:Blk w b t (ov L U d x)):w.cell? ⟨b,3,none⟩=some (.bool x):=by rw[h.cell];rfl
theorem Blk.yn {w:World}{b:Nat}{t:TypeId}{n:Nat}{u:Nat→Bool}(h:Blk w b t (yl n u))(k:Nat)(hk:k<n):w.cell? ⟨b,k,none⟩=some (.bool (u k)):=by rw[h.cell,y2h n u k hk]
theorem Blk.ne {w:World}{b g:Nat}{t t':TypeId}{cs ds:Array Value}(h:Blk w b t cs)(hr:Blk w g t' ds)(ht:t≠t'):b≠g:=fun e=>by
 subst e;have h1:w.heap[b]? =some (.cells cs t (0,0)):=h;have h2:w.heap[b]? =some (.cells ds t' (0,0)):=hr;rw[h1] at h2
 cases h2
 exact ht rfl
def x0r (w:World)(a:Option Addr)(P:List (List Nat)):Prop:=∀i,i<P.length→∃g o v,a=some ⟨g,o,none⟩∧w.cell? ⟨g,o+i,none⟩=some v∧BA w v (P.getD i [])
def Dw (t:TypeId)(v:Value):Prop:=∀(w:World) (g k:Nat) (u:Value),w.cell? ⟨g,k,none⟩=some u→w.frozen? ⟨g,k,none⟩=false→(storeVar t ⟨g,k,none⟩ v).run prog w=.ok () (w.setCell ⟨g,k,none⟩ v)
theorem Yu (b:Bool):Dw BLT (.bool b):=fun w g k u hc hf=>by go_simp
theorem y50 (x:Int):Dw 3 (.int .i64 x):=fun w g k u hc hf=>by go_simp
section
variable {ops:Array Oper} {rest:List Oper} {o:Oper} {a:Act} {w:World} {K:Act→World→Prop} {Q:Exit→Act→World→Prop}
theorem Ux (t:TypeId)(x y:Operand)(ho:o.op=.store t x y)(g k:Nat)(v:Value)(cs:Array Value)(T:TypeId)(hS:Dw t v)(hx:a.eval x=.pointer (some ⟨g,k,none⟩))(hy:a.eval y=v)(hg:Blk w g T cs)(hk:k<cs.size)
  (h:∀w',Blk w' g T (cs.setIfInBounds k v)→Zx (fun i=>i=g) w w'→K (a.put o.dst undef) w'):o.wp prog a w K Q:=by
 have hc:=hg.cell k;rw[Array.getElem?_eq_getElem hk] at hc;have hf:=hg.fz k;have hj:=h (w.setCell ⟨g,k,none⟩ v) (hg.set k _) ((Zx.refl _ _).setCell _ (fun _=>rfl));unfold Oper.wp execOp;simp only[ho,hx,hy,Instr.storeAt,Instr.sureAddr,Sem.run_bind,Sem.run_pure,Result.andThen_ok,hS w g k _ hc hf];exact hj
theorem Zu (hgd:o.guard=none)(t:TypeId)(x y:Operand)(ho:o.op=.store t x y)(g k:Nat)(v:Value)(cs:Array Value)(T:TypeId)(hS:Dw t v)(hx:a.eval x=.pointer (some ⟨g,k,none⟩))(hy:a.eval y=v)(hg:Blk w g T cs)(hk:k<cs.size)
  (h:∀w',Blk w' g T (cs.setIfInBounds k v)→Zx (fun i=>i=g) w w'→wpList prog ops Q rest (a.put o.dst undef) w'):wpList prog ops Q (o::rest) a w:=
 wpList_plain hgd fun _ hK=>Ux t x y ho g k v cs T hS hx hy hg hk fun w' h1 h2=>hK _ _ (h w' h1 h2)
end
theorem y2i {P:List (List Nat)}{o:RO}{i:Int}(h:T9 P o i=none):i<2∨(2≤i∧(P.length:Int)≤i)∨(2≤i∧i<P.length∧o.u i.toNat=true)∨(2≤i∧i<P.length∧o.u i.toNat=false∧(opS (P.getD i.toNat [])).2.2≠0):=by
 unfold T9 at h;split at h
 ·rename_i h1
  by_cases h2:i<2
  ·exact .inl h2
  ·by_cases h3:(P.length:Int)≤i
   ·exact .inr (.inl ⟨by omega,h3⟩)
   ·rcases h1 with h1|h1|h1
    ·exact absurd h1 h2
    ·exact absurd h1 h3
    ·exact .inr (.inr (.inl ⟨by omega,by omega,h1⟩))
 ·rename_i h1
  split at h
  ·cases h
  ·rename_i h2
   refine .inr (.inr (.inr ⟨by omega,by omega,?_,h2⟩))
   cases hu:o.u i.toNat with
   | false=>rfl
   | true=>exact absurd (.inr (.inr hu)) h1
theorem Qq {w:World}{b:Nat}{t:TypeId}{L U:Value}{d:Int}{x:Bool}(h:Blk w b t (ov L U d x))(hL:IsS L)(hU:IsS U):JD w b:=fun j y hy=>by
 obtain⟨a,m,c,rfl⟩:=hL;obtain⟨a2,m2,c2,rfl⟩:=hU;rw[h.cell] at hy;unfold ov at hy
 rcases j with _|_|_|_|j<;>simp at hy
set_option maxHeartbeats 2000000 in
theorem Ov (P:List (List Nat))(a:Option Addr)(c:Nat)(o:RO)(L:Value)(hL:IsS L)(gu:Nat)(i:Int)(w0 w:World)(hb0:zB w0 w)(hpg:x0r w0 a P)(hU:Blk w gu BLT (yl P.length o.u))(hgu:w0.heap.size≤gu)(hno:T9 P o i=none):
  Calls prog 83 #[.agg (ov L (uv gu P.length) o.d false),.slice a P.length c,.int .i64 i] w fun e w'=>e=.returned (.tuple #[.agg (ov L (uv gu P.length) o.d true),.int .u8 0,Z0])∧Zx (fun x=>x=gu) w w':=by
 obtain⟨n,hn⟩:∃n,P.length=n:=⟨_,rfl⟩
 have hw:=y2i hno;clear hno;rw[hn] at hU hw⊢
 have HU:=zh hU;have HB0:=zh hb0;have HPg:=zh hpg;have Hgu:=zh hgu;have Hn:=zh hn;have oT:=fun d b=>Jj hL gu n d b
 replace hL:=zh hL;obtain⟨U,hUv⟩:∃U,uv gu n=U:=⟨_,rfl⟩
 have HUv:=zh hUv;rw[hUv] at oT⊢
 clear hb0 hpg hU hgu hn hUv
 rcases hw with h2|⟨h2,h3⟩|⟨h2,h3,hu⟩|⟨h2,h3,hu,h5⟩
 ·have d1:decide (i<2)=true:=zdt h2;clear h2
  go_enter func83,ntmps83
  go_wp2_with (first
   | (refine Zw rfl ROT (.tmp 0) rfl (ov L U o.d false) (by rfl) ?_;intro g3 w1 hg3 hk3 hb3)
   | (refine Zv rfl ROT rfl Vx ?_;intro g6 w2 hg6 hk6 hb6;have K3:=zh (hk3.ext hb6);have K6:=zh hk6;have KU:=zh (HU.out.ext (hb3.trans (hb6.mono hb3.size)));have T1:Hid (Zx (fun x=>x=gu) w w2):=(x3x hb3).trans (x3x (hb6.mono (zlr _)));have N36:Hid (g6≠g3):=(by show _≠_;have:=hk3.lt;omega);have Z3:Hid (w.heap.size≤g3):=hg3;have Z6:Hid (w.heap.size≤g6):=(by show _≤_;have:=hb3.size;omega);clear hg3 hk3 hb3 hg6 hk6 hb6)
   | (refine Zu rfl BLT (.tmp 27) (.const (.bool true)) rfl g3 3 (.bool true) (ov L U o.d false) ROT (Yu _) (by rfl) (by rfl) K3.out (by show 3<4;decide) ?_;intro w5 hk3 ht3;have J3:Hid (Blk w5 g3 ROT (ov L U o.d true)):=hk3;have J6:=zh (K6.out.turn ht3 N36.out);have T5:Hid (Zx (fun x=>x=gu) w w5):=T1.out.step ht3 (fun i hi hlt=>by subst hi;have:=Z3.out;omega);clear hk3 ht3)
   | (refine Zj rfl ROT (.tmp 3) rfl g3 0 (ov L U o.d true) (by rfl) Zk J3.out.at (Zq _ _ _ _) ?_)
   | (refine Zz rfl ROT (.tmp 6) (.tmp 28) rfl g6 (ov L U o.d true) _ ROT (by rfl) (by rfl) Zk J6.out (Zq _ _ _ _) (Zq _ _ _ _) (oT _ _) ?_;intro w8 hk8 ht8 hs8))
  refine bodyPost_ret (v:=.tuple #[.agg (ov L U o.d true),.int .u8 0,Z0]) ?_ rfl ?_
  ·exact R0 Zk rfl _ _ g6 _ _ _ (by rfl) (by rfl) (by rfl) hk8 (Zq _ _ _ _)
  ·exact⟨rfl,T5.out.step ht8 (fun i hi hlt=>by subst hi;have:=Z6.out;omega)⟩
 ·have d1:decide (i<2)=false:=zdf (by omega);have d2:decide ((n:Int)≤i)=true:=zdt h3;clear h2 h3
  go_enter func83,ntmps83
  go_wp2_with (first
   | (refine Zw rfl ROT (.tmp 0) rfl (ov L U o.d false) (by rfl) ?_;intro g3 w1 hg3 hk3 hb3)
   | (refine Zv rfl ROT rfl Vx ?_;intro g6 w2 hg6 hk6 hb6;have K3:=zh (hk3.ext hb6);have K6:=zh hk6;have KU:=zh (HU.out.ext (hb3.trans (hb6.mono hb3.size)));have T1:Hid (Zx (fun x=>x=gu) w w2):=(x3x hb3).trans (x3x (hb6.mono (zlr _)));have N36:Hid (g6≠g3):=(by show _≠_;have:=hk3.lt;omega);have Z3:Hid (w.heap.size≤g3):=hg3;have Z6:Hid (w.heap.size≤g6):=(by show _≤_;have:=hb3.size;omega);clear hg3 hk3 hb3 hg6 hk6 hb6)
   | (refine Zu rfl BLT (.tmp 27) (.const (.bool true)) rfl g3 3 (.bool true) (ov L U o.d false) ROT (Yu _) (by rfl) (by rfl) K3.out (by show 3<4;decide) ?_;intro w5 hk3 ht3;have J3:Hid (Blk w5 g3 ROT (ov L U o.d true)):=hk3;have J6:=zh (K6.out.turn ht3 N36.out);have T5:Hid (Zx (fun x=>x=gu) w w5):=T1.out.step ht3 (fun i hi hlt=>by subst hi;have:=Z3.out;omega);clear hk3 ht3)
   | (refine Zj rfl ROT (.tmp 3) rfl g3 0 (ov L U o.d true) (by rfl) Zk J3.out.at (Zq _ _ _ _) ?_)
   | (refine Zz rfl ROT (.tmp 6) (.tmp 28) rfl g6 (ov L U o.d true) _ ROT (by rfl) (by rfl) Zk J6.out (Zq _ _ _ _) (Zq _ _ _ _) (oT _ _) ?_;intro w8 hk8 ht8 hs8))
  refine bodyPost_ret (v:=.tuple #[.agg (ov L U o.d true),.int .u8 0,Z0]) ?_ rfl ?_
  ·exact R0 Zk rfl _ _ g6 _ _ _ (by rfl) (by rfl) (by rfl) hk8 (Zq _ _ _ _)
  ·exact⟨rfl,T5.out.step ht8 (fun i hi hlt=>by subst hi;have:=Z6.out;omega)⟩
 ·skip
  have d1:decide (i<2)=false:=zdf (by omega);have d2:decide ((n:Int)≤i)=false:=zdf (by omega);obtain⟨I,hI⟩:∃I:Nat,i=(I:Int):=⟨i.toNat,by omega⟩
  subst hI;rw[Int.toNat_natCast] at hu;have hlt:I<n:=by omega
  have i1:(0:Int)≤(I:Int):=by omega
  have i2:(I:Int)<(n:Int):=by omega
  clear h2 h3
  go_enter func83,ntmps83
  go_wp2_with (first
   | (refine Zw rfl ROT (.tmp 0) rfl (ov L U o.d false) (by rfl) ?_;intro g3 w1 hg3 hk3 hb3)
   | (refine Zv rfl ROT rfl Vx ?_;intro g6 w2 hg6 hk6 hb6;have K3:=zh (hk3.ext hb6);have K6:=zh hk6;have KU:=zh (HU.out.ext (hb3.trans (hb6.mono hb3.size)));have T1:Hid (Zx (fun x=>x=gu) w w2):=(x3x hb3).trans (x3x (hb6.mono (zlr _)));have N36:Hid (g6≠g3):=(by show _≠_;have:=hk3.lt;omega);have Z3:Hid (w.heap.size≤g3):=hg3;have Z6:Hid (w.heap.size≤g6):=(by show _≤_;have:=hb3.size;omega);have q1:=K3.out.o1;rw[←HUv.out] at q1;unfold uv at q1;have qI:=KU.out.yn I hlt;rw[hu] at qI;clear hg3 hk3 hb3 hg6 hk6 hb6)
   | (refine Zu rfl BLT (.tmp 27) (.const (.bool true)) rfl g3 3 (.bool true) (ov L U o.d false) ROT (Yu _) (by rfl) (by rfl) K3.out (by show 3<4;decide) ?_;intro w5 hk3 ht3;have J3:Hid (Blk w5 g3 ROT (ov L U o.d true)):=hk3;have J6:=zh (K6.out.turn ht3 N36.out);have T5:Hid (Zx (fun x=>x=gu) w w5):=T1.out.step ht3 (fun i hi hlt=>by subst hi;have:=Z3.out;omega);clear hk3 ht3)
   | (refine Zj rfl ROT (.tmp 3) rfl g3 0 (ov L U o.d true) (by rfl) Zk J3.out.at (Zq _ _ _ _) ?_)
   | (refine Zz rfl ROT (.tmp 6) (.tmp 28) rfl g6 (ov L U o.d true) _ ROT (by rfl) (by rfl) Zk J6.out (Zq _ _ _ _) (Zq _ _ _ _) (oT _ _) ?_;intro w8 hk8 ht8 hs8))
  refine bodyPost_ret (v:=.tuple #[.agg (ov L U o.d true),.int .u8 0,Z0]) ?_ rfl ?_
  ·exact R0 Zk rfl _ _ g6 _ _ _ (by rfl) (by rfl) (by rfl) hk8 (Zq _ _ _ _)
  ·exact⟨rfl,T5.out.step ht8 (fun i hi hlt=>by subst hi;have:=Z6.out;omega)⟩
 ·skip
  have d1:decide (i<2)=false:=zdf (by omega);have d2:decide ((n:Int)≤i)=false:=zdf (by omega);obtain⟨I,hI⟩:∃I:Nat,i=(I:Int):=⟨i.toNat,by omega⟩
  subst hI;rw[Int.toNat_natCast] at hu h5;have hlt:I<n:=by omega
  have i1:(0:Int)≤(I:Int):=by omega
  have i2:(I:Int)<(n:Int):=by omega
  clear h2 h3;obtain⟨g,q,v,rfl,hcp,hv⟩:=HPg.out I (by rw[Hn.out];exact hlt);obtain⟨av,cv,rfl,hsv,hv1,hv2⟩:=hv.ex;have hv8:=hv.b8;have H80:=zh hv8;obtain⟨pb,hb⟩:∃b,P.getD I []=b:=⟨_,rfl⟩
  rw[hb] at hcp hsv hv1 hv8 H80 h5;obtain⟨m,hm⟩:∃m,pb.length=m:=⟨_,rfl⟩
  rw[hm] at hcp hv1;have HCp:=zh hcp;have HO:=zh (fun(w1:World) (h1:zB w0 w1)=>JJ av m cv pb hm w1 hv8 hv1 hv2 (hsv.below h1 (zlr _)));clear hv hsv hv1 hv2 hv8 hcp hb hm;obtain⟨E,hE⟩:∃E,(opS pb).2.2=E:=⟨_,rfl⟩
  rw[hE] at HO h5;have d5:((E:Int) !=0)=true:=by simp;omega
  clear hE h5
  go_enter func83,ntmps83
  go_wp2_with (first
   | (refine Zw rfl ROT (.tmp 0) rfl (ov L U o.d false) (by rfl) ?_;intro g3 w1 hg3 hk3 hb3)
   | (refine Zv rfl ROT rfl Vx ?_;intro g6 w2 hg6 hk6 hb6;have K3:=zh (hk3.ext hb6);have K6:=zh hk6;have KU:=zh (HU.out.ext (hb3.trans (hb6.mono hb3.size)));have T1:Hid (Zx (fun x=>x=gu) w w2):=(x3x hb3).trans (x3x (hb6.mono (zlr _)));have N36:Hid (g6≠g3):=(by show _≠_;have:=hk3.lt;omega);have Z3:Hid (w.heap.size≤g3):=hg3;have Z6:Hid (w.heap.size≤g6):=(by show _≤_;have:=hb3.size;omega);have q1:=K3.out.o1;rw[←HUv.out] at q1;unfold uv at q1;have qI:=KU.out.yn I hlt;rw[hu] at qI;clear hg3 hk3 hb3 hg6 hk6 hb6)
   | (refine Zu rfl BLT (.tmp 32) (.const (.bool true)) rfl gu I (.bool true) (yl n o.u) BLT (Yu _) (by rfl) (by rfl) KU.out (by rw[XR];exact hlt) ?_;intro w3 hku htu;have e3:g3≠gu:=(K3.out.ne KU.out (by decide));have e6:g6≠gu:=(K6.out.ne KU.out (by decide));have L3:=zh (K3.out.turn htu e3);have L6:=zh (K6.out.turn htu e6);rw[y7n n o.u I hlt] at hku;have LU:=zh hku;have T3:Hid (Zx (fun x=>x=gu) w w3):=T1.out.step htu (fun i hi hlt=>hi);have B3:Hid (zB w0 w3):=HB0.out.trans (T3.out.below HB0.out.size (fun i hi=>by subst hi;exact Hgu.out));clear hku htu e3 e6 q1 qI;have qp:w3.cell? ⟨g,q+I,none⟩=some (.slice av m cv):=(by rw[B3.out.cell (p:=⟨g,q+I,none⟩) (block_lt_of_cell HCp.out)];exact HCp.out)))
  refine(HO.out w3 B3.out).mono ?_;rintro e w4 ⟨u,rfl,hsu,hb4⟩;have M3:=zh (L3.out.ext hb4);have M6:=zh (L6.out.ext hb4);have MU:=zh (LU.out.ext hb4);have T4:Hid (Zx (fun x=>x=gu) w w4):=T3.out.trans (x3x hb4);have HSu:=zh hsu;clear qp hb4 hsu L3 L6 LU T3 B3 HO
  go_wp2_with (first
   | (refine Zu rfl BLT (.tmp 44) (.const (.bool true)) rfl g3 3 (.bool true) (ov L U o.d false) ROT (Yu _) (by rfl) (by rfl) M3.out (by show 3<4;decide) ?_;intro w5 hk3 ht3;have J3:Hid (Blk w5 g3 ROT (ov L U o.d true)):=hk3;have J6:=zh (M6.out.turn ht3 N36.out);have T5:Hid (Zx (fun x=>x=gu) w w5):=T4.out.step ht3 (fun i hi hlt=>by subst hi;have:=Z3.out;omega);clear hk3 ht3)
   | (refine Zj rfl ROT (.tmp 3) rfl g3 0 (ov L U o.d true) (by rfl) Zk J3.out.at (Zq _ _ _ _) ?_)
   | (refine Zz rfl ROT (.tmp 6) (.tmp 45) rfl g6 (ov L U o.d true) _ ROT (by rfl) (by rfl) Zk J6.out (Zq _ _ _ _) (Zq _ _ _ _) (oT _ _) ?_;intro w8 hk8 ht8 hs8))
  refine bodyPost_ret (v:=.tuple #[.agg (ov L U o.d true),.int .u8 0,Z0]) ?_ rfl ?_
  ·exact R0 Zk rfl _ _ g6 _ _ _ (by rfl) (by rfl) (by rfl) hk8 (Zq _ _ _ _)
  ·exact⟨rfl,T5.out.step ht8 (fun i hi hlt=>by subst hi;have:=Z6.out;omega)⟩
set_option maxHeartbeats 2000000 in
theorem Qx (P:List (List Nat))(a:Option Addr)(c:Nat)(o:RO)(L:Value)(hL:IsS L)(gu:Nat)(i:Int)(w0 w:World)(hb0:zB w0 w)(hpg:x0r w0 a P)(hU:Blk w gu BLT (yl P.length o.u))(hgu:w0.heap.size≤gu)(o1:RO)(k:Nat)(b:List Nat)(hyes:T9 P o i=some (o1,k,b)):
  Calls prog 83 #[.agg (ov L (uv gu P.length) o.d false),.slice a P.length c,.int .i64 i] w fun e w'=>∃v,e=.returned (.tuple #[.agg (ov L (uv gu P.length) o.d false),.int .u8 (k:Nat),v])∧Sl w' v b∧B8 b∧Blk w' gu BLT (yl P.length o1.u)∧Zx (fun x=>x=gu) w w':=by
 obtain⟨n,hn⟩:∃n,P.length=n:=⟨_,rfl⟩
 obtain⟨h2,h3,hu,h5,e1,e2,e3⟩:=Rk P hyes;clear hyes;rw[hn] at hU h3⊢
 have HU:=zh hU;have HB0:=zh hb0;have HPg:=zh hpg;have Hgu:=zh hgu;have Hn:=zh hn;have oT:=fun d b=>Jj hL gu n d b
 replace hL:=zh hL;obtain⟨U,hUv⟩:∃U,uv gu n=U:=⟨_,rfl⟩
 have HUv:=zh hUv;rw[hUv] at oT⊢
 clear hb0 hpg hU hgu hn hUv;have d1:decide (i<2)=false:=zdf (by omega);have d2:decide ((n:Int)≤i)=false:=zdf (by omega);obtain⟨I,hI⟩:∃I:Nat,i=(I:Int):=⟨i.toNat,by omega⟩
 subst hI;rw[Int.toNat_natCast] at hu h5 e1 e2 e3;have hlt:I<n:=by omega
 have i1:(0:Int)≤(I:Int):=by omega
 have i2:(I:Int)<(n:Int):=by omega
 clear h2 h3;obtain⟨g,q,v,rfl,hcp,hv⟩:=HPg.out I (by rw[Hn.out];exact hlt);obtain⟨av,cv,rfl,hsv,hv1,hv2⟩:=hv.ex;have hv8:=hv.b8;have H80:=zh hv8;obtain⟨pb,hb⟩:∃b,P.getD I []=b:=⟨_,rfl⟩
 rw[hb] at hcp hsv hv1 hv8 H80 h5 e2 e3;obtain⟨m,hm⟩:∃m,pb.length=m:=⟨_,rfl⟩
 rw[hm] at hcp hv1;have HCp:=zh hcp;have HO:=zh (fun(w1:World) (h1:zB w0 w1)=>JJ av m cv pb hm w1 hv8 hv1 hv2 (hsv.below h1 (zlr _)));clear hv hsv hv1 hv2 hv8 hcp hb hm;have H8:Hid (B8 b):=by show B8 b;rw[e3];exact(x07 H80.out).2.1
 rw[h5,←e2,←e3] at HO;subst e1;dsimp only;clear h5 e2 e3 H80
 go_enter func83,ntmps83
 go_wp2_with (first
  | (refine Zw rfl ROT (.tmp 0) rfl (ov L U o.d false) (by rfl) ?_;intro g3 w1 hg3 hk3 hb3)
  | (refine Zv rfl ROT rfl Vx ?_;intro g6 w2 hg6 hk6 hb6;have K3:=zh (hk3.ext hb6);have K6:=zh hk6;have KU:=zh (HU.out.ext (hb3.trans (hb6.mono hb3.size)));have T1:Hid (Zx (fun x=>x=gu) w w2):=(x3x hb3).trans (x3x (hb6.mono (zlr _)));have N36:Hid (g6≠g3):=(by show _≠_;have:=hk3.lt;omega);have Z3:Hid (w.heap.size≤g3):=hg3;have Z6:Hid (w.heap.size≤g6):=(by show _≤_;have:=hb3.size;omega);have q1:=K3.out.o1;rw[←HUv.out] at q1;unfold uv at q1;have qI:=KU.out.yn I hlt;rw[hu] at qI;clear hg3 hk3 hb3 hg6 hk6 hb6)
  | (refine Zu rfl BLT (.tmp 32) (.const (.bool true)) rfl gu I (.bool true) (yl n o.u) BLT (Yu _) (by rfl) (by rfl) KU.out (by rw[XR];exact hlt) ?_;intro w3 hku htu;have e3:g3≠gu:=(K3.out.ne KU.out (by decide));have e6:g6≠gu:=(K6.out.ne KU.out (by decide));have L3:=zh (K3.out.turn htu e3);have L6:=zh (K6.out.turn htu e6);rw[y7n n o.u I hlt] at hku;have LU:=zh hku;have T3:Hid (Zx (fun x=>x=gu) w w3):=T1.out.step htu (fun i hi hlt=>hi);have B3:Hid (zB w0 w3):=HB0.out.trans (T3.out.below HB0.out.size (fun i hi=>by subst hi;exact Hgu.out));clear hku htu e3 e6 q1 qI;have qp:w3.cell? ⟨g,q+I,none⟩=some (.slice av m cv):=(by rw[B3.out.cell (p:=⟨g,q+I,none⟩) (block_lt_of_cell HCp.out)];exact HCp.out)))
 refine(HO.out w3 B3.out).mono ?_;rintro e w4 ⟨u,rfl,hsu,hb4⟩;have M3:=zh (L3.out.ext hb4);have M6:=zh (L6.out.ext hb4);have MU:=zh (LU.out.ext hb4);have T4:Hid (Zx (fun x=>x=gu) w w4):=T3.out.trans (x3x hb4);have HSu:=zh hsu;clear qp hb4 hsu L3 L6 LU T3 B3 HO
 go_wp2_with (first
  | (refine Zj rfl ROT (.tmp 3) rfl g3 0 (ov L U o.d false) (by rfl) Zk M3.out.at (Zq _ _ _ _) ?_)
  | (refine Zz rfl ROT (.tmp 6) (.tmp 46) rfl g6 (ov L U o.d false) _ ROT (by rfl) (by rfl) Zk M6.out (Zq _ _ _ _) (Zq _ _ _ _) (oT _ _) ?_;intro w8 hk8 ht8 hs8))
 refine bodyPost_ret (v:=.tuple #[.agg (ov L U o.d false),.int .u8 (k:Nat),u]) ?_ rfl ?_
 ·exact R0 Zk rfl _ _ g6 _ _ _ (by rfl) (by rfl) (by rfl) hk8 (Zq _ _ _ _)
 ·exact⟨u,rfl,HSu.out.turn ht8 (Qq M6.out ⟨_,_,_,rfl⟩ ⟨_,_,_,rfl⟩),H8.out,MU.out.turn ht8 (fun e=>(M6.out.ne MU.out (by decide)) e.symm),T4.out.step ht8 (fun i hi hlt=>by subst hi;have:=Z6.out;omega)⟩
theorem y2j {l:List Nat}{ks:List ByteArray}{is:List Int}{S:RS}(h:StF l ks is S)(hw:S.wr=true):S9 l=none:=by
 rcases h with ⟨h1,_⟩|⟨_,_,h2⟩
 ·rw[hw] at h1;cases h1
 ·exact h2
theorem y51 {l:List Nat}{ks:List ByteArray}{is:List Int}{L:List Nat}(h:StF l ks is ⟨L,false⟩)(h0:L≠[]):
  ((Z9 ⟨L,false⟩ 40).2.wr=true→S9 l=none)∧((Z9 ⟨L,false⟩ 40).2.l.length<2→S9 l=none)∧
  (2≤(Z9 ⟨L,false⟩ 40).2.l.length→StF l (ks++[Pj (Z9 ⟨L,false⟩ 40).1]) (is++[(((Z9 ⟨L,false⟩ 40).2.l.getD 0 0*256+(Z9 ⟨L,false⟩ 40).2.l.getD 1 0:Nat):Int)]) ⟨(Z9 ⟨L,false⟩ 40).2.l.drop 2,false⟩∧((Z9 ⟨L,false⟩ 40).2.l.drop 2).length<L.length):=by
 obtain⟨hn,hlt⟩:=y5p h h0;have hsh:=QI (S:=⟨L,false⟩) h0;refine⟨fun hw=>y2j hn ?_,fun hs=>y2j hn ?_,fun h2=> ?_⟩
 ·rw[Gk hw,y7j]
 ·have:=XJ (Z9 ⟨L,false⟩ 40).2.wr hs;rw[show(⟨(Z9 ⟨L,false⟩ 40).2.l,(Z9 ⟨L,false⟩ 40).2.wr⟩:RS)=(Z9 ⟨L,false⟩ 40).2 from rfl] at this;rw[this]
 ·have:=z5f (Z9 ⟨L,false⟩ 40).2.wr h2;rw[show(⟨(Z9 ⟨L,false⟩ 40).2.l,(Z9 ⟨L,false⟩ 40).2.wr⟩:RS)=(Z9 ⟨L,false⟩ 40).2 from rfl] at this;rw[this] at hn hlt;exact⟨hn,hlt⟩
structure RfI (w wr:World) (rb p:Nat) (ks:List ByteArray) (is:List Int) (rv u v:Value):Prop where
 sb:RSB wr rb RFT rv false
 fk:PB wr p RFK u v
 ku:wr.ownsRow w.heap.size STY 1 u ks.length (sv ks)
 kv:wr.ownsRow w.heap.size ITY 1 v is.length (iv is)
 res:PB wr w.heap.size RFK zF zF
 below:zB w wr
 hp:w.heap.size<p
 hrb:w.heap.size≤rb
theorem RfI.ext {w wr w':World}{rb p:Nat}{ks:List ByteArray}{is:List Int}{rv u v:Value}(h:RfI w wr rb p ks is rv u v)(hb:zB wr w'):RfI w w' rb p ks is rv u v:=
 ⟨h.sb.below hb h.sb.lt,h.fk.ext hb,Y4 h.ku hb (zlr _),Y4 h.kv hb (zlr _),h.res.ext hb,h.below.trans (hb.mono h.below.size),h.hp,h.hrb⟩
theorem y2k {w:World}{b p:Nat}{T T2:TypeId}{x u v:Value}{y:Bool}(h:RSB w b T x y)(k:PB w p T2 u v)(hT:T≠T2):b≠p:=fun e=>by
 subst e;have h':w.heap[b]? =_:=h;have k':w.heap[b]? =_:=k;rw[h'] at k';exact hT (by cases k';rfl)
theorem RfI.keys {w wr w5:World}{rb p:Nat}{ks:List ByteArray}{is:List Int}{rv u v u':Value}{y:ByteArray}(h:RfI w wr rb p ks is rv u v)(hg:wr.grownBy w5 u.ownBlock)(ho:w5.ownsRow w.heap.size STY 1 u' (ks++[y]).length (sv (ks++[y]))):
  RfI w (w5.setCell ⟨p,0,none⟩ u') rb p (ks++[y]) is rv u' v∧PB w5 p RFK u v∧Zx (fun i=>w.heap.size≤i) wr (w5.setCell ⟨p,0,none⟩ u')∧
  (∀b2 x z,RSB wr b2 RFT x z→RSB (w5.setCell ⟨p,0,none⟩ u') b2 RFT x z):=by
 have t5:=Rv hg;have ts:=Px w5 p 0 u';have k5:PB w5 p RFK u v:=h.fk.turn t5 (fun e=>Xz h.ku h.fk (by decide) p e rfl);have v5:w5.ownsRow w.heap.size ITY 1 v is.length (iv is):=V3 h.kv t5 (fun i hi e=>z03 h.ku h.kv (by decide) i e hi);have z5:PB w5 w.heap.size RFK zF zF:=h.res.turn t5 (fun e=>Xz h.ku h.res (by decide) _ e rfl);have sb5:∀b2 x z,RSB wr b2 RFT x z→RSB w5 b2 RFT x z:=fun b2 x z hs=>hs.turn t5 (fun e=>Xz h.ku hs (by decide) _ e rfl)
 have sb6:∀b2 x z,RSB wr b2 RFT x z→RSB (w5.setCell ⟨p,0,none⟩ u') b2 RFT x z:=fun b2 x z hs=>(sb5 b2 x z hs).turn ts (y2k (sb5 b2 x z hs) k5 (by decide))
 have b5:zB w w5:=h.below.grown hg h.below.size (fun i hi=>JK h.ku i hi);have hp:=h.hp;refine⟨⟨sb6 _ _ _ h.sb,k5.set0 u',V3 ho ts (fun i hi e=>Xz ho k5 (by decide) i hi e),V3 v5 ts (fun i hi e=>Xz v5 k5 (by decide) i hi e),z5.turn ts (fun e=>by omega),b5.setCell (p:=⟨p,0,none⟩) (by show w.heap.size≤p;omega) u',h.hp,h.hrb⟩,k5,?_,sb6⟩;exact(t5.mono (fun i hi _=>JK h.ku i hi)).trans (ts.mono (fun i hi _=>by subst hi;omega))
theorem RfI.pages {w wr w5:World}{rb p:Nat}{ks:List ByteArray}{is:List Int}{rv u v v':Value}{y:Int}(h:RfI w wr rb p ks is rv u v)(hg:wr.grownBy w5 v.ownBlock)(ho:w5.ownsRow w.heap.size ITY 1 v' (is++[y]).length (iv (is++[y]))):
  RfI w (w5.setCell ⟨p,1,none⟩ v') rb p ks (is++[y]) rv u v'∧PB w5 p RFK u v∧Zx (fun i=>w.heap.size≤i) wr (w5.setCell ⟨p,1,none⟩ v')∧
  (∀b2 x z,RSB wr b2 RFT x z→RSB (w5.setCell ⟨p,1,none⟩ v') b2 RFT x z):=by
 have t5:=Rv hg;have ts:=Px w5 p 1 v';have k5:PB w5 p RFK u v:=h.fk.turn t5 (fun e=>Xz h.kv h.fk (by decide) p e rfl);have u5:w5.ownsRow w.heap.size STY 1 u ks.length (sv ks):=V3 h.ku t5 (fun i hi e=>z03 h.kv h.ku (by decide) i e hi);have z5:PB w5 w.heap.size RFK zF zF:=h.res.turn t5 (fun e=>Xz h.kv h.res (by decide) _ e rfl);have sb5:∀b2 x z,RSB wr b2 RFT x z→RSB w5 b2 RFT x z:=fun b2 x z hs=>hs.turn t5 (fun e=>Xz h.kv hs (by decide) _ e rfl)
 have sb6:∀b2 x z,RSB wr b2 RFT x z→RSB (w5.setCell ⟨p,1,none⟩ v') b2 RFT x z:=fun b2 x z hs=>(sb5 b2 x z hs).turn ts (y2k (sb5 b2 x z hs) k5 (by decide))
 have b5:zB w w5:=h.below.grown hg h.below.size (fun i hi=>JK h.kv i hi);have hp:=h.hp;refine⟨⟨sb6 _ _ _ h.sb,k5.set1 v',V3 u5 ts (fun i hi e=>Xz u5 k5 (by decide) i hi e),V3 ho ts (fun i hi e=>Xz ho k5 (by decide) i hi e),z5.turn ts (fun e=>by omega),b5.setCell (p:=⟨p,1,none⟩) (by show w.heap.size≤p;omega) v',h.hp,h.hrb⟩,k5,?_,sb6⟩;exact(t5.mono (fun i hi _=>JK h.kv i hi)).trans (ts.mono (fun i hi _=>by subst hi;omega))
theorem RfI.reader {w wr:World}{rb p:Nat}{ks:List ByteArray}{is:List Int}{rv u v:Value}(h:RfI w wr rb p ks is rv u v)(rv':Value):
  RfI w ((wr.setCell ⟨rb,0,none⟩ rv').setCell ⟨rb,1,none⟩ (.bool false)) rb p ks is rv' u v∧Zx (fun i=>w.heap.size≤i) wr ((wr.setCell ⟨rb,0,none⟩ rv').setCell ⟨rb,1,none⟩ (.bool false)):=by
 have ts:=Y2 wr rb rv' (.bool false);have hrb:=h.hrb;have tw:Zx (fun i=>w.heap.size≤i) wr ((wr.setCell ⟨rb,0,none⟩ rv').setCell ⟨rb,1,none⟩ (.bool false)):=ts.mono (fun i hi _=>by subst hi;omega);refine⟨⟨(h.sb.set0 rv').set1 false,h.fk.turn ts (fun e=>y2k h.sb h.fk (by decide) e.symm),V3 h.ku ts (fun i hi e=>Xz h.ku h.sb (by decide) i hi e),V3 h.kv ts (fun i hi e=>Xz h.kv h.sb (by decide) i hi e),h.res.turn ts (fun e=>y2k h.sb h.res (by decide) e.symm),h.below.trans (tw.below h.below.size (fun i hi=>hi)),h.hp,h.hrb⟩,tw⟩
theorem y7o {w:World}{g o n c B:Nat}{L:List Nat}(hc:Cs w g o L)(hn:L.length=n)(h2:2≤n)(hnc:n≤c)(hcm:c≤maxLen)(hg:g<B):
  (2<c→Sl w (.slice (some ⟨g,o+2,none⟩) (n-2) (c-2)) (L.drop 2)∧Lo (.slice (some ⟨g,o+2,none⟩) (n-2) (c-2)) B)∧(c=2→Sl w (.slice (some ⟨g,o,none⟩) 0 0) (L.drop 2)∧n=2∧Lo (.slice (some ⟨g,o,none⟩) 0 0) B):=by
 refine⟨fun h=>⟨yI hc hn h2 hnc hcm,fun g' o' n' c' e h0=> ?_⟩,fun h=> ?_⟩
 ·cases e;exact hg
 ·have e2:n=2:=by omega
  exact⟨z49 (by omega) (zlr 2),e2,Lo.empty _ _ _⟩
end Go.Proofs.YtdgladhfibfdlaaGreatDoor
