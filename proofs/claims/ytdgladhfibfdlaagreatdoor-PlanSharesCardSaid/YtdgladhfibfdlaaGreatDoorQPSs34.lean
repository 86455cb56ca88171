/-
  Steps.
-/
import Derived.Test.YtdgladhfibfdlaaGreatDoorQPSs33
namespace Go.Proofs.YtdgladhfibfdlaaGreatDoor
open Go Go.RowKit Go.Proofs.Tryz
set_option maxRecDepth 100000
def spc (s:Sp):Array Value:= #[.string s.lo,.string s.hi,.bool s.op]
structure NIn (P:List (List Nat)) (a:Option Addr) (w0 w:World) (B gu:Nat) (o:RO) (L:Value):Prop where
 hb0:zB w0 w
 pg:x0r w0 a P
 use:Blk w gu BLT (yl P.length o.u)
 own:w.ownsRow B RET 2 L o.l.length (Y9.row o.l)
 gu0:w0.heap.size≤gu
 B0:w0.heap.size≤B
 Bw:B≤w.heap.size
 few:o.l.length+504*Vj o.u P.length≤900000
def L0 (P:List (List Nat))(B gu:Nat)(w:World)(R:Option RO)(e:Ending)(w':World):Prop:=
 (
  (R=none∧∃(L1:Value) (d1:Int),IsS L1∧e=.returned (.agg (ov L1 (uv gu P.length) d1 true)))∨
  (∃(o1:RO) (L1:Value),R=some o1∧e=.returned (.agg (ov L1 (uv gu P.length) o1.d false))∧w'.ownsRow B RET 2 L1 o1.l.length (Y9.row o1.l)∧Blk w' gu BLT (yl P.length o1.u)))∧KT B gu w w'
theorem y6d {P:List (List Nat)}{f:Nat}{o:RO}{page:Int}{s:Sp}{deep:Int}(h:T9 P o page=none):Xy P f o page s deep=none:=by
 cases f<;>unfold Xy
 ·rfl
 ·rw[h]
theorem z7q {P:List (List Nat)}{f:Nat}{o o1:RO}{page:Int}{s:Sp}{deep:Int}{k:Nat}{b:List Nat}(h:T9 P o page=some (o1,k,b))(ht:1<deep∧b.length<126):Xy P f o page s deep=none:=by
 cases f<;>unfold Xy
 ·rfl
 ·rw[h];simp only;rw[if_pos ht]
theorem z7r {P:List (List Nat)}{f:Nat}{o o1:RO}{page:Int}{s:Sp}{deep:Int}{k:Nat}{b:List Nat}(h:T9 P o page=some (o1,k,b))(h1:k≠1)(h2:k≠2):Xy P f o page s deep=none:=by
 cases f<;>unfold Xy
 ·rfl
 ·rw[h];simp only;rw[if_neg h1,if_neg h2];split<;>rfl
set_option maxHeartbeats 2000000 in
theorem z5r (P:List (List Nat))(a:Option Addr)(c:Nat)(o:RO)(L:Value)(B gu:Nat)(page:Int)(s:Sp)(deep:Int)(f:Nat)(w0 w:World)(hI:NIn P a w0 w B gu o L)(ho:T9 P o page=none):
  Calls prog 55 #[.agg (ov L (uv gu P.length) o.d false),.slice a P.length c,.int .i64 page,.agg (spc s),.int .i64 deep] w fun e w'=>L0 P B gu w (Xy P f o page s deep) e w':=by
 obtain⟨R,hR⟩:∃R,Xy P f o page s deep=R:=⟨_,rfl⟩
 have HN:Hid (R=none):=by show R=none;rw[←hR];exact y6d ho
 rw[hR];have HO:=zh ho;clear ho hR;unfold L0;obtain⟨n,hn⟩:∃n,P.length=n:=⟨_,rfl⟩
 have HI:=zh hI;have Hn:=zh hn;have oT:=fun(M:Value) (hM:IsS M) (d:Int) b=>Jj hM gu n d b
 have HLs:Hid (IsS L):=Xk hI.own;have C0:=zh (fun(wx:World) (h1:zB w0 wx) (h2:Blk wx gu BLT (yl P.length o.u)) h3=>Ov P a c o L (Xk hI.own) gu page w0 wx h1 hI.pg h2 hI.gu0 h3);have C1:=zh (fun(wx:World) (h1:zB w0 wx) (h2:Blk wx gu BLT (yl P.length o.u)) o1 k b h3=>Qx P a c o L (Xk hI.own) gu page w0 wx h1 hI.pg h2 hI.gu0 o1 k b h3);have HU0:=zh hI.use;rw[hn] at C0 C1 HU0⊢
 obtain⟨U,hUv⟩:∃U,uv gu n=U:=⟨_,rfl⟩
 rw[hUv] at oT C0 C1⊢
 have HUv:=zh hUv;have HUs:Hid (IsS U):=by show IsS U;rw[←hUv];exact⟨_,_,_,rfl⟩
 obtain⟨D,hD⟩:∃D,o.d=D:=⟨_,rfl⟩
 rw[hD] at C0 C1⊢
 have HD:=zh hD;clear hI hn hUv hD
 go_enter func55,ntmps55
 go_wp2_with (first
  | (refine Zw rfl ROT (.tmp 0) rfl (ov L U D false) (by rfl) ?_;intro g5 w1 hg5 hk5 hb5)
  | (refine Zw rfl RSP (.tmp 3) rfl (spc s) (by rfl) ?_;intro g8 w2 hg8 hk8 hb8)
  | (show wpList _ _ _ (⟨some 10,_,_,_,_,_⟩::_) _ _;refine Zv rfl ROT rfl Vx ?_;intro g10 w3 hg10 hk10 hb10;have bx:Ext w w3:=hb5.trans ((hb8.mono hb5.size).trans (hb10.mono (znt hb5.size hb8.size)));have K5:=zh ((hk5.ext hb8).ext hb10);have K8:=zh (hk8.ext hb10);have K10:=zh hk10;have KU:=zh (HU0.out.ext bx);have KL:=zh (X3 HI.out.own bx);have KW:Hid (KT B gu w w3):=x3y bx;have B3:Hid (zB w0 w3):=HI.out.hb0.trans (Below.mono bx HI.out.hb0.size);have N58:Hid (g8≠g5):=(by show _≠_;have:=hk5.lt;omega);have N510:Hid (g10≠g5):=(by show _≠_;have h1:=hk5.lt;have h2:=hb8.size;omega);have Z5:Hid (w.heap.size≤g5):=hg5;have Z10:Hid (w.heap.size≤g10):=(by show _≤_;have h1:=hb5.size;have h2:=hb8.size;omega);clear hg5 hk5 hb5 hg8 hk8 hb8 hg10 hk10 hb10 bx)
  | (show wpList _ _ _ (⟨some 24,_,_,_,_,_⟩::_) _ _;refine Zj rfl ROT (.tmp 5) rfl g5 0 (ov L U D false) (by rfl) Zk K5.out.at (Zq _ _ _ _) ?_))
 refine(C0.out w3 B3.out KU.out HO.out).mono ?_;rintro e w4 ⟨rfl,ht⟩;have M5:=zh (K5.out.turn ht (K5.out.ne KU.out (by decide)));have M10:=zh (K10.out.turn ht (K10.out.ne KU.out (by decide)));have MT:=zh (KW.out.gu ht);clear ht C0 C1 K5 K8 K10 KU KL KW B3
 go_wp2_with (first
  | (refine Zz rfl ROT (.tmp 5) (.tmp 28) rfl g5 (ov L U D true) _ ROT (by rfl) (by rfl) Zk M5.out (Zq _ _ _ _) (Zq _ _ _ _) (oT L HLs.out _ _) ?_;intro w5 hk ht5 hs5;have P5:=zh hk;have P10:=zh (M10.out.turn ht5 N510.out);have PT:=zh (MT.out.mine ht5 Z5.out);have q3:=hk.o3;clear hk ht5 hs5 M5 M10 MT)
  | (refine Zu rfl BLT (.tmp 42) (.const (.bool true)) rfl g5 3 (.bool true) (ov L U D true) ROT (Yu _) (by rfl) (by rfl) P5.out (by show 3<4;decide) ?_;intro wb hkb htb;have J5:Hid (Blk wb g5 ROT (ov L U D true)):=hkb;have J10:=zh (P10.out.turn htb N510.out);have JT:=zh (PT.out.mine htb Z5.out);clear hkb htb)
  | (show wpList _ _ _ (⟨some 43,_,_,_,_,_⟩::_) _ _;refine Zj rfl ROT (.tmp 5) rfl g5 0 (ov L U D true) (by rfl) Zk J5.out.at (Zq _ _ _ _) ?_)
  | (refine Zz rfl ROT (.tmp 10) (.tmp 43) rfl g10 (ov L U D true) _ ROT (by rfl) (by rfl) Zk J10.out (Zq _ _ _ _) (Zq _ _ _ _) (oT L HLs.out _ _) ?_;intro w9 hk9 ht9 hs9))
 refine bodyPost_ret (v:=.agg (ov L U D true)) ?_ rfl ?_
 ·exact Xj Zk rfl _ _ g10 _ (by rfl) hk9 (Zq _ _ _ _)
 ·exact⟨.inl ⟨HN.out,L,D,HLs.out,rfl⟩,JT.out.mine ht9 Z10.out⟩
set_option maxHeartbeats 2000000 in
theorem z7s (P:List (List Nat))(a:Option Addr)(c:Nat)(o:RO)(L:Value)(B gu:Nat)(page:Int)(s:Sp)(deep:Int)(f:Nat)(w0 w:World)(hI:NIn P a w0 w B gu o L)(o1:RO)(k:Nat)(b:List Nat)(ho:T9 P o page=some (o1,k,b))(hth:1<deep∧b.length<126):
  Calls prog 55 #[.agg (ov L (uv gu P.length) o.d false),.slice a P.length c,.int .i64 page,.agg (spc s),.int .i64 deep] w fun e w'=>L0 P B gu w (Xy P f o page s deep) e w':=by
 obtain⟨R,hR⟩:∃R,Xy P f o page s deep=R:=⟨_,rfl⟩
 have HN:Hid (R=none):=by show R=none;rw[←hR];exact z7q ho hth
 rw[hR];have HO:=zh ho;clear ho hR;unfold L0;obtain⟨n,hn⟩:∃n,P.length=n:=⟨_,rfl⟩
 have HI:=zh hI;have Hn:=zh hn;have oT:=fun(M:Value) (hM:IsS M) (d:Int) b=>Jj hM gu n d b
 have HLs:Hid (IsS L):=Xk hI.own;have C0:=zh (fun(wx:World) (h1:zB w0 wx) (h2:Blk wx gu BLT (yl P.length o.u)) h3=>Ov P a c o L (Xk hI.own) gu page w0 wx h1 hI.pg h2 hI.gu0 h3);have C1:=zh (fun(wx:World) (h1:zB w0 wx) (h2:Blk wx gu BLT (yl P.length o.u)) o1 k b h3=>Qx P a c o L (Xk hI.own) gu page w0 wx h1 hI.pg h2 hI.gu0 o1 k b h3);have HU0:=zh hI.use;rw[hn] at C0 C1 HU0⊢
 obtain⟨U,hUv⟩:∃U,uv gu n=U:=⟨_,rfl⟩
 rw[hUv] at oT C0 C1⊢
 have HUv:=zh hUv;have HUs:Hid (IsS U):=by show IsS U;rw[←hUv];exact⟨_,_,_,rfl⟩
 obtain⟨D,hD⟩:∃D,o.d=D:=⟨_,rfl⟩
 rw[hD] at C0 C1⊢
 have HD:=zh hD;clear hI hn hUv hD
 go_enter func55,ntmps55
 go_wp2_with (first
  | (refine Zw rfl ROT (.tmp 0) rfl (ov L U D false) (by rfl) ?_;intro g5 w1 hg5 hk5 hb5)
  | (refine Zw rfl RSP (.tmp 3) rfl (spc s) (by rfl) ?_;intro g8 w2 hg8 hk8 hb8)
  | (show wpList _ _ _ (⟨some 10,_,_,_,_,_⟩::_) _ _;refine Zv rfl ROT rfl Vx ?_;intro g10 w3 hg10 hk10 hb10;have bx:Ext w w3:=hb5.trans ((hb8.mono hb5.size).trans (hb10.mono (znt hb5.size hb8.size)));have K5:=zh ((hk5.ext hb8).ext hb10);have K8:=zh (hk8.ext hb10);have K10:=zh hk10;have KU:=zh (HU0.out.ext bx);have KL:=zh (X3 HI.out.own bx);have KW:Hid (KT B gu w w3):=x3y bx;have B3:Hid (zB w0 w3):=HI.out.hb0.trans (Below.mono bx HI.out.hb0.size);have N58:Hid (g8≠g5):=(by show _≠_;have:=hk5.lt;omega);have N510:Hid (g10≠g5):=(by show _≠_;have h1:=hk5.lt;have h2:=hb8.size;omega);have Z5:Hid (w.heap.size≤g5):=hg5;have Z10:Hid (w.heap.size≤g10):=(by show _≤_;have h1:=hb5.size;have h2:=hb8.size;omega);clear hg5 hk5 hb5 hg8 hk8 hb8 hg10 hk10 hb10 bx)
  | (show wpList _ _ _ (⟨some 24,_,_,_,_,_⟩::_) _ _;refine Zj rfl ROT (.tmp 5) rfl g5 0 (ov L U D false) (by rfl) Zk K5.out.at (Zq _ _ _ _) ?_))
 refine(C1.out w3 B3.out KU.out _ _ _ HO.out).mono ?_;rintro e w4 ⟨vl,rfl,hsv,hb8',hku,ht⟩;have M5:=zh (K5.out.turn ht (K5.out.ne KU.out (by decide)));have M8:=zh (K8.out.turn ht (K8.out.ne KU.out (by decide)));have M10:=zh (K10.out.turn ht (K10.out.ne KU.out (by decide)));have ML:=zh (Yw KL.out ht KU.out (by decide));have MU:=zh hku;have MS:=zh hsv;have HB8:=zh hb8';have MT:=zh (KW.out.gu ht);clear ht hku hsv hb8' C0 C1 K5 K8 K10 KU KL KW B3;obtain⟨av,cv,rfl,hsl⟩:∃av cv,vl=.slice av b.length cv∧True:=by obtain⟨x,y,hx,_⟩:=MS.out.arg;exact⟨x,y,hx,trivial⟩
 obtain⟨m,hm⟩:∃m,b.length=m:=⟨_,rfl⟩
 rw[hm] at hth MS⊢
 have d1:decide ((1:Int)<deep)=true:=zdt hth.1;have d2:decide ((m:Int)<126)=true:=zdt (by omega);have d3:decide (m<126)=true:=zdt hth.2;clear hth hm hsl
 go_wp2_with (first
  | (refine Zz rfl ROT (.tmp 5) (.tmp 28) rfl g5 (ov L U D false) _ ROT (by rfl) (by rfl) Zk M5.out (Zq _ _ _ _) (Zq _ _ _ _) (oT L HLs.out _ _) ?_;intro w5 hk ht5 hs5;have P5:=zh hk;have P8:=zh (M8.out.turn ht5 N58.out);have P10:=zh (M10.out.turn ht5 N510.out);have PU:=zh (MU.out.turn ht5 (fun e=>(M5.out.ne MU.out (by decide)) e.symm));have PL:=zh (Yw ML.out ht5 M5.out (by decide));have PT:=zh (MT.out.mine ht5 Z5.out);have PS:=zh (MS.out.turn ht5 (Qq M5.out HLs.out HUs.out));have q3:=hk.o3;have q2:=hk.o2;clear hk ht5 hs5 M5 M8 M10 MU ML MT MS)
  | (refine Zu rfl BLT (.tmp 42) (.const (.bool true)) rfl g5 3 (.bool true) (ov L U D false) ROT (Yu _) (by rfl) (by rfl) P5.out (by show 3<4;decide) ?_;intro wb hkb htb;have J5:Hid (Blk wb g5 ROT (ov L U D true)):=hkb;have J10:=zh (P10.out.turn htb N510.out);have JT:=zh (PT.out.mine htb Z5.out);clear hkb htb)
  | (show wpList _ _ _ (⟨some 43,_,_,_,_,_⟩::_) _ _;refine Zj rfl ROT (.tmp 5) rfl g5 0 (ov L U D true) (by rfl) Zk J5.out.at (Zq _ _ _ _) ?_)
  | (refine Zz rfl ROT (.tmp 10) (.tmp 43) rfl g10 (ov L U D true) _ ROT (by rfl) (by rfl) Zk J10.out (Zq _ _ _ _) (Zq _ _ _ _) (oT L HLs.out _ _) ?_;intro w9 hk9 ht9 hs9))
 refine bodyPost_ret (v:=.agg (ov L U D true)) ?_ rfl ?_
 ·exact Xj Zk rfl _ _ g10 _ (by rfl) hk9 (Zq _ _ _ _)
 ·exact⟨.inl ⟨HN.out,L,D,HLs.out,rfl⟩,JT.out.mine ht9 Z10.out⟩
set_option maxHeartbeats 2000000 in
theorem z7t (P:List (List Nat))(a:Option Addr)(c:Nat)(o:RO)(L:Value)(B gu:Nat)(page:Int)(s:Sp)(deep:Int)(f:Nat)(w0 w:World)(hI:NIn P a w0 w B gu o L)(o1:RO)(k:Nat)(b:List Nat)(ho:T9 P o page=some (o1,k,b))(hth:¬(1<deep∧b.length<126))(hk1:k≠1)(hk2:k≠2):
  Calls prog 55 #[.agg (ov L (uv gu P.length) o.d false),.slice a P.length c,.int .i64 page,.agg (spc s),.int .i64 deep] w fun e w'=>L0 P B gu w (Xy P f o page s deep) e w':=by
 obtain⟨R,hR⟩:∃R,Xy P f o page s deep=R:=⟨_,rfl⟩
 have HN:Hid (R=none):=by show R=none;rw[←hR];exact z7r ho hk1 hk2
 rw[hR];have HO:=zh ho;have e1:((k:Int)==1)=false:=by rw[beq_eq_false_iff_ne];omega
 have e2:((k:Int)==2)=false:=by rw[beq_eq_false_iff_ne];omega
 clear ho hR hk1 hk2;unfold L0;obtain⟨n,hn⟩:∃n,P.length=n:=⟨_,rfl⟩
 have HI:=zh hI;have Hn:=zh hn;have oT:=fun(M:Value) (hM:IsS M) (d:Int) b=>Jj hM gu n d b
 have HLs:Hid (IsS L):=Xk hI.own;have C0:=zh (fun(wx:World) (h1:zB w0 wx) (h2:Blk wx gu BLT (yl P.length o.u)) h3=>Ov P a c o L (Xk hI.own) gu page w0 wx h1 hI.pg h2 hI.gu0 h3);have C1:=zh (fun(wx:World) (h1:zB w0 wx) (h2:Blk wx gu BLT (yl P.length o.u)) o1 k b h3=>Qx P a c o L (Xk hI.own) gu page w0 wx h1 hI.pg h2 hI.gu0 o1 k b h3);have HU0:=zh hI.use;rw[hn] at C0 C1 HU0⊢
 obtain⟨U,hUv⟩:∃U,uv gu n=U:=⟨_,rfl⟩
 rw[hUv] at oT C0 C1⊢
 have HUv:=zh hUv;have HUs:Hid (IsS U):=by show IsS U;rw[←hUv];exact⟨_,_,_,rfl⟩
 obtain⟨D,hD⟩:∃D,o.d=D:=⟨_,rfl⟩
 rw[hD] at C0 C1⊢
 have HD:=zh hD;clear hI hn hUv hD
 go_enter func55,ntmps55
 go_wp2_with (first
  | (refine Zw rfl ROT (.tmp 0) rfl (ov L U D false) (by rfl) ?_;intro g5 w1 hg5 hk5 hb5)
  | (refine Zw rfl RSP (.tmp 3) rfl (spc s) (by rfl) ?_;intro g8 w2 hg8 hk8 hb8)
  | (show wpList _ _ _ (⟨some 10,_,_,_,_,_⟩::_) _ _;refine Zv rfl ROT rfl Vx ?_;intro g10 w3 hg10 hk10 hb10;have bx:Ext w w3:=hb5.trans ((hb8.mono hb5.size).trans (hb10.mono (znt hb5.size hb8.size)));have K5:=zh ((hk5.ext hb8).ext hb10);have K8:=zh (hk8.ext hb10);have K10:=zh hk10;have KU:=zh (HU0.out.ext bx);have KL:=zh (X3 HI.out.own bx);have KW:Hid (KT B gu w w3):=x3y bx;have B3:Hid (zB w0 w3):=HI.out.hb0.trans (Below.mono bx HI.out.hb0.size);have N58:Hid (g8≠g5):=(by show _≠_;have:=hk5.lt;omega);have N510:Hid (g10≠g5):=(by show _≠_;have h1:=hk5.lt;have h2:=hb8.size;omega);have Z5:Hid (w.heap.size≤g5):=hg5;have Z10:Hid (w.heap.size≤g10):=(by show _≤_;have h1:=hb5.size;have h2:=hb8.size;omega);clear hg5 hk5 hb5 hg8 hk8 hb8 hg10 hk10 hb10 bx)
  | (show wpList _ _ _ (⟨some 24,_,_,_,_,_⟩::_) _ _;refine Zj rfl ROT (.tmp 5) rfl g5 0 (ov L U D false) (by rfl) Zk K5.out.at (Zq _ _ _ _) ?_))
 refine(C1.out w3 B3.out KU.out _ _ _ HO.out).mono ?_;rintro e w4 ⟨vl,rfl,hsv,hb8',hku,ht⟩;have M5:=zh (K5.out.turn ht (K5.out.ne KU.out (by decide)));have M8:=zh (K8.out.turn ht (K8.out.ne KU.out (by decide)));have M10:=zh (K10.out.turn ht (K10.out.ne KU.out (by decide)));have ML:=zh (Yw KL.out ht KU.out (by decide));have MU:=zh hku;have MS:=zh hsv;have HB8:=zh hb8';have MT:=zh (KW.out.gu ht);clear ht hku hsv hb8' C0 C1 K5 K8 K10 KU KL KW B3
 go_upto_region 2 with (first
  | (refine Zz rfl ROT (.tmp 5) (.tmp 28) rfl g5 (ov L U D false) _ ROT (by rfl) (by rfl) Zk M5.out (Zq _ _ _ _) (Zq _ _ _ _) (oT L HLs.out _ _) ?_;intro w5 hk ht5 hs5;have P5:=zh hk;have P8:=zh (M8.out.turn ht5 N58.out);have P10:=zh (M10.out.turn ht5 N510.out);have PU:=zh (MU.out.turn ht5 (fun e=>(M5.out.ne MU.out (by decide)) e.symm));have PL:=zh (Yw ML.out ht5 M5.out (by decide));have PT:=zh (MT.out.mine ht5 Z5.out);have PS:=zh (MS.out.turn ht5 (Qq M5.out HLs.out HUs.out));have q3:=hk.o3;have q2:=hk.o2;clear hk ht5 hs5 M5 M8 M10 MU ML MT MS))
 obtain⟨av,cv,rfl,hsl⟩:∃av cv,vl=.slice av b.length cv∧True:=by obtain⟨x,y,hx,_⟩:=PS.out.arg;exact⟨x,y,hx,trivial⟩
 obtain⟨m,hm⟩:∃m,b.length=m:=⟨_,rfl⟩
 rw[hm] at hth;have Hm:=zh hm;have Pv:=PS;rw[hm] at Pv⊢
 clear hsl hm
 go_cut [41] (fun s41 wx=>s41=.bool false∧w5=wx)
 case first=>
  by_cases hd1:1<deep
  ·have d1:decide ((1:Int)<deep)=true:=zdt hd1;have d2:decide ((m:Int)<126)=false:=zdf (by omega);have d3:decide (m<126)=false:=zdf (by omega);clear hth hd1;go_wp2;go_meet;exact⟨rfl,by first|trivial|rfl⟩
  ·have d1:decide ((1:Int)<deep)=false:=zdf hd1;clear hth hd1;go_wp2;go_meet;exact⟨rfl,by first|trivial|rfl⟩
 case rest=>
  obtain⟨rfl,rfl⟩:=hcut;clear hth
  go_wp2_with (first
   | (refine Zu rfl BLT (.tmp 45) (.const (.bool true)) rfl g5 3 (.bool true) (ov L U D false) ROT (Yu _) (by rfl) (by rfl) P5.out (by show 3<4;decide) ?_;intro wb hkb htb;have J5:Hid (Blk wb g5 ROT (ov L U D true)):=hkb;have J10:=zh (P10.out.turn htb N510.out);have JT:=zh (PT.out.mine htb Z5.out);clear hkb htb)
   | (show wpList _ _ _ (⟨some 213,_,_,_,_,_⟩::_) _ _;refine Zj rfl ROT (.tmp 5) rfl g5 0 (ov L U D true) (by rfl) Zk J5.out.at (Zq _ _ _ _) ?_)
   | (refine Zz rfl ROT (.tmp 10) (.tmp 213) rfl g10 (ov L U D true) _ ROT (by rfl) (by rfl) Zk J10.out (Zq _ _ _ _) (Zq _ _ _ _) (oT L HLs.out _ _) ?_;intro w9 hk9 ht9 hs9))
  refine bodyPost_ret (v:=.agg (ov L U D true)) ?_ rfl ?_
  ·exact Xj Zk rfl _ _ g10 _ (by rfl) hk9 (Zq _ _ _ _)
  ·exact⟨.inl ⟨HN.out,L,D,HLs.out,rfl⟩,JT.out.mine ht9 Z10.out⟩
theorem y6e {l:List Nat}{cs:List Ce}(h:L9 l=some cs)(i:Nat)(hi:i<cs.length):Nk (ca cs i)=true:=by
 unfold L9 at h;split at h
 ·cases h
 ·split at h
  ·cases h
  ·split at h
   ·cases h
   ·rename_i cs1 r h1
    split at h
    ·cases h
     exact y39 h1 _ (x1j _ i hi)
    ·cases h
theorem Du (v:Value)(b:List Nat)(w:World)(hv:Sl w v b)(h8:B8 b)(hl:b.length≤504):
  Calls prog 84 #[v] w fun e w'=>∃u,e=.returned (.tuple #[u,.int .i64 (y90 b:Nat)])∧w'.ownsRow w.heap.size RCT 4 u (y5i b).length (cvs (y5i b))∧zB w w':=by
 obtain⟨a,c,rfl,hs,hz,h1,h2⟩:=hv.arg;exact yU a _ c b w rfl hs hz h1 h2 (by omega) h8
theorem JP {P:List (List Nat)}{f:Nat}{o o1:RO}{page:Int}{s:Sp}{deep:Int}{b:List Nat}{cs:List Ce}(h:T9 P o page=some (o1,1,b))(ht:¬(1<deep∧b.length<126))(hc:L9 b=some cs):
  Xy P (f+1) o page s deep=if cs=[]∨(0<o1.d∧o1.d≠deep) then none else Ku P f s cs ⟨o1.l,o1.u,deep⟩:=by
 unfold Xy;rw[h];simp only;rw[if_neg ht,if_pos trivial,hc]
theorem xG {P:List (List Nat)}{f:Nat}{o o1:RO}{page:Int}{s:Sp}{deep:Int}{b:List Nat}(h:T9 P o page=some (o1,1,b))(ht:¬(1<deep∧b.length<126))(hc:L9 b=none):Xy P f o page s deep=none:=by
 cases f<;>unfold Xy
 ·rfl
 ·rw[h];simp only;rw[if_neg ht,if_pos trivial,hc]
theorem z7u (P:List (List Nat))(f:Nat)(s:Sp)(cs:List Ce)(k:Nat)(x:RO)(hk:k<cs.length):
  Ku P f s (cs.drop k) x=match (if 64<(ca cs k).n then Ix P f x ByteArray.empty (ca cs k).p (ca cs k).n else some (x,(ca cs k).v)) with
   | none=>none
   | some (o1,v)=>if xR s (ca cs k).k=true then Ku P f s (cs.drop (k+1)) ⟨o1.l++[⟨(ca cs k).k,v,[]⟩],o1.u,o1.d⟩ else none:=by
 rw[z9w cs k hk];rfl
theorem Xw {w w':World}{B T sz n g:Nat}{v:Value}{xs:List Value}{t:TypeId}{cs:Array Value}(h:w.ownsRow B T sz v n xs)(k:Zx (fun x=>x=g) w w')(hb:Blk w g t cs)(ht:t≠T):w'.ownsRow B T sz v n xs:=by
 refine⟨h.1,?_⟩
 rcases h.2 with h1|⟨g1,cap,cur,rfl,hB,hg,r⟩
 ·exact .inl h1
 ·refine .inr ⟨g1,cap,cur,rfl,hB,k.hg hg (fun e=> ?_),r⟩;subst e;have h1:w.heap[g1]? =some (.cells cs t (0,0)):=hb;rw[h1] at hg
  cases hg
  exact ht rfl
structure LfI (B gu n:Nat) (w wr:World) (g5 g8 g10 C:Nat) (s:Sp) (deep:Int) (U L:Value) (x:RO) (bd:Bool) (cs:List Ce) (u:Value):Prop where
 b5:Blk wr g5 ROT (ov L U deep bd)
 b8:Blk wr g8 RSP (spc s)
 b10:Blk wr g10 ROT (ov Z0 Z0 0 false)
 bu:bd=false→Blk wr gu BLT (yl n x.u)
 ow:wr.ownsRow B RET 2 L x.l.length (Y9.row x.l)
 oc:wr.ownsRow C RCT 4 u cs.length (cvs cs)
 kt:KT B gu w wr
 dp:x.d=deep
theorem LfI.gu {B gu n:Nat}{w a b:World}{g5 g8 g10 C:Nat}{s:Sp}{deep:Int}{U L:Value}{x x1:RO}{cs:List Ce}{u:Value}(h:LfI B gu n w a g5 g8 g10 C s deep U L x false cs u)(t:Zx (fun y=>y=gu) a b)(hu:Blk b gu BLT (yl n x1.u))(hl:x1.l=x.l)(hd:x1.d=x.d):LfI B gu n w b g5 g8 g10 C s deep U L x1 false cs u:=
 ⟨h.b5.turn t (h.b5.ne (h.bu rfl) (by decide)),h.b8.turn t (h.b8.ne (h.bu rfl) (by decide)),h.b10.turn t (h.b10.ne (h.bu rfl) (by decide)),fun _=>hu,by rw[hl];exact Yw h.ow t (h.bu rfl) (by decide),Xw h.oc t (h.bu rfl) (by decide),h.kt.gu t,hd.trans h.dp⟩
theorem LfI.guNo {B gu n:Nat}{w a b:World}{g5 g8 g10 C:Nat}{s:Sp}{deep:Int}{U L:Value}{x:RO}{cs:List Ce}{u:Value}(h:LfI B gu n w a g5 g8 g10 C s deep U L x false cs u)(t:Zx (fun y=>y=gu) a b):Blk b g5 ROT (ov L U deep false)∧Blk b g8 RSP (spc s)∧Blk b g10 ROT (ov Z0 Z0 0 false)∧b.ownsRow B RET 2 L x.l.length (Y9.row x.l)∧b.ownsRow C RCT 4 u cs.length (cvs cs)∧KT B gu w b:=
 ⟨h.b5.turn t (h.b5.ne (h.bu rfl) (by decide)),h.b8.turn t (h.b8.ne (h.bu rfl) (by decide)),h.b10.turn t (h.b10.ne (h.bu rfl) (by decide)),Yw h.ow t (h.bu rfl) (by decide),Xw h.oc t (h.bu rfl) (by decide),h.kt.gu t⟩
theorem LfI.ext {B gu n:Nat}{w a b:World}{g5 g8 g10 C:Nat}{s:Sp}{deep:Int}{U L:Value}{x:RO}{bd:Bool}{cs:List Ce}{u:Value}(h:LfI B gu n w a g5 g8 g10 C s deep U L x bd cs u)(e:Ext a b):LfI B gu n w b g5 g8 g10 C s deep U L x bd cs u:=
 ⟨h.b5.ext e,h.b8.ext e,h.b10.ext e,fun hb=>(h.bu hb).ext e,X3 h.ow e,X3 h.oc e,h.kt.ext e,h.dp⟩
theorem LfI.put {B gu n:Nat}{w a b:World}{g5 g8 g10 C:Nat}{s:Sp}{deep:Int}{U L L1:Value}{x x1:RO}{bd bd1:Bool}{cs:List Ce}{u:Value}(h:LfI B gu n w a g5 g8 g10 C s deep U L x bd cs u)(t:Zx (fun y=>y=g5) a b)(h5:Blk b g5 ROT (ov L1 U deep bd1))(hbu:bd1=false→Blk b gu BLT (yl n x1.u))
  (how:b.ownsRow B RET 2 L1 x1.l.length (Y9.row x1.l)) (n8:g8≠g5) (n10:g10≠g5) (hz:w.heap.size≤g5) (hd:x1.d=deep):LfI B gu n w b g5 g8 g10 C s deep U L1 x1 bd1 cs u:=
 ⟨h5,h.b8.turn t n8,h.b10.turn t n10,hbu,how,Xw h.oc t h.b5 (by decide),h.kt.mine t hz,hd⟩
set_option maxHeartbeats 2000000 in
theorem F4 (P:List (List Nat))(a:Option Addr)(c:Nat)(o:RO)(L:Value)(B gu:Nat)(page:Int)(s:Sp)(deep:Int)(f:Nat)(w0 w:World)(hI:NIn P a w0 w B gu o L)(o1:RO)(b:List Nat)(ho:T9 P o page=some (o1,1,b))(hth:¬(1<deep∧b.length<126))(hno:L9 b=none∨∃cs,L9 b=some cs∧(cs=[]∨(0<o.d∧o.d≠deep))):
  Calls prog 55 #[.agg (ov L (uv gu P.length) o.d false),.slice a P.length c,.int .i64 page,.agg (spc s),.int .i64 deep] w fun e w'=>L0 P B gu w (Xy P f o page s deep) e w':=by
 obtain⟨R,hR⟩:∃R,Xy P f o page s deep=R:=⟨_,rfl⟩
 have HN:Hid (R=none):=by
  show R=none;rw[←hR]
  rcases hno with h|⟨cs,h,h2⟩
  ·exact xG ho hth h
  ·cases f with
   | zero=>unfold Xy;rfl
   | succ f=>
    rw[JP ho hth h,if_pos];have:=(Sz P ho).2.2;rw[this];exact h2
 have hbl:b.length≤504:=by obtain⟨_,_,_,_,_,_,rfl⟩:=Rk P ho;exact XE _
 have Hbl:=zh hbl;have HNo:=zh hno;rw[hR];have HO:=zh ho;clear ho hR hno hbl;unfold L0;obtain⟨n,hn⟩:∃n,P.length=n:=⟨_,rfl⟩
 have HI:=zh hI;have Hn:=zh hn;have oT:=fun(M:Value) (hM:IsS M) (d:Int) b=>Jj hM gu n d b
 have HLs:Hid (IsS L):=Xk hI.own;have C0:=zh (fun(wx:World) (h1:zB w0 wx) (h2:Blk wx gu BLT (yl P.length o.u)) h3=>Ov P a c o L (Xk hI.own) gu page w0 wx h1 hI.pg h2 hI.gu0 h3);have C1:=zh (fun(wx:World) (h1:zB w0 wx) (h2:Blk wx gu BLT (yl P.length o.u)) o1 k b h3=>Qx P a c o L (Xk hI.own) gu page w0 wx h1 hI.pg h2 hI.gu0 o1 k b h3);have HU0:=zh hI.use;rw[hn] at C0 C1 HU0⊢
 obtain⟨U,hUv⟩:∃U,uv gu n=U:=⟨_,rfl⟩
 rw[hUv] at oT C0 C1⊢
 have HUv:=zh hUv;have HUs:Hid (IsS U):=by show IsS U;rw[←hUv];exact⟨_,_,_,rfl⟩
 obtain⟨D,hD⟩:∃D,o.d=D:=⟨_,rfl⟩
 rw[hD] at C0 C1⊢
 have HD:=zh hD;clear hI hn hUv hD
 go_enter func55,ntmps55
 go_wp2_with (first
  | (refine Zw rfl ROT (.tmp 0) rfl (ov L U D false) (by rfl) ?_;intro g5 w1 hg5 hk5 hb5)
  | (refine Zw rfl RSP (.tmp 3) rfl (spc s) (by rfl) ?_;intro g8 w2 hg8 hk8 hb8)
  | (show wpList _ _ _ (⟨some 10,_,_,_,_,_⟩::_) _ _;refine Zv rfl ROT rfl Vx ?_;intro g10 w3 hg10 hk10 hb10;have bx:Ext w w3:=hb5.trans ((hb8.mono hb5.size).trans (hb10.mono (znt hb5.size hb8.size)));have K5:=zh ((hk5.ext hb8).ext hb10);have K8:=zh (hk8.ext hb10);have K10:=zh hk10;have KU:=zh (HU0.out.ext bx);have KL:=zh (X3 HI.out.own bx);have KW:Hid (KT B gu w w3):=x3y bx;have B3:Hid (zB w0 w3):=HI.out.hb0.trans (Below.mono bx HI.out.hb0.size);have N58:Hid (g8≠g5):=(by show _≠_;have:=hk5.lt;omega);have N510:Hid (g10≠g5):=(by show _≠_;have h1:=hk5.lt;have h2:=hb8.size;omega);have Z5:Hid (w.heap.size≤g5):=hg5;have Z10:Hid (w.heap.size≤g10):=(by show _≤_;have h1:=hb5.size;have h2:=hb8.size;omega);clear hg5 hk5 hb5 hg8 hk8 hb8 hg10 hk10 hb10 bx)
  | (show wpList _ _ _ (⟨some 24,_,_,_,_,_⟩::_) _ _;refine Zj rfl ROT (.tmp 5) rfl g5 0 (ov L U D false) (by rfl) Zk K5.out.at (Zq _ _ _ _) ?_))
 refine(C1.out w3 B3.out KU.out _ _ _ HO.out).mono ?_;rintro e w4 ⟨vl,rfl,hsv,hb8',hku,ht⟩;have M5:=zh (K5.out.turn ht (K5.out.ne KU.out (by decide)));have M8:=zh (K8.out.turn ht (K8.out.ne KU.out (by decide)));have M10:=zh (K10.out.turn ht (K10.out.ne KU.out (by decide)));have ML:=zh (Yw KL.out ht KU.out (by decide));have MU:=zh hku;have MS:=zh hsv;have HB8:=zh hb8';have MT:=zh (KW.out.gu ht);clear ht hku hsv hb8' C0 C1 K5 K8 K10 KU KL KW B3
 go_upto_region 2 with (first
  | (refine Zz rfl ROT (.tmp 5) (.tmp 28) rfl g5 (ov L U D false) _ ROT (by rfl) (by rfl) Zk M5.out (Zq _ _ _ _) (Zq _ _ _ _) (oT L HLs.out _ _) ?_;intro w5 hk ht5 hs5;have P5:=zh hk;have P8:=zh (M8.out.turn ht5 N58.out);have P10:=zh (M10.out.turn ht5 N510.out);have PU:=zh (MU.out.turn ht5 (fun e=>(M5.out.ne MU.out (by decide)) e.symm));have PL:=zh (Yw ML.out ht5 M5.out (by decide));have PT:=zh (MT.out.mine ht5 Z5.out);have PS:=zh (MS.out.turn ht5 (Qq M5.out HLs.out HUs.out));have q3:=hk.o3;have q2:=hk.o2;clear hk ht5 hs5 M5 M8 M10 MU ML MT MS))
 obtain⟨av,cv,rfl,hsl⟩:∃av cv,vl=.slice av b.length cv∧True:=by obtain⟨x,y,hx,_⟩:=PS.out.arg;exact⟨x,y,hx,trivial⟩
 obtain⟨m,hm⟩:∃m,b.length=m:=⟨_,rfl⟩
 rw[hm] at hth;have Hm:=zh hm;have Pv:=PS;rw[hm] at Pv⊢
 clear hsl hm
 go_cut [41] (fun s41 wx=>s41=.bool false∧w5=wx)
 case first=>
  by_cases hd1:1<deep
  ·have d1:decide ((1:Int)<deep)=true:=zdt hd1;have d2:decide ((m:Int)<126)=false:=zdf (by omega);have d3:decide (m<126)=false:=zdf (by omega);clear hth hd1;go_wp2;go_meet;exact⟨rfl,by first|trivial|rfl⟩
  ·have d1:decide ((1:Int)<deep)=false:=zdf hd1;clear hth hd1;go_wp2;go_meet;exact⟨rfl,by first|trivial|rfl⟩
 case rest=>
  obtain⟨rfl,rfl⟩:=hcut;clear hth
  rcases HNo.out with hc|⟨cs,hc,h2⟩
  ·obtain⟨e1,e2⟩:=N9 hc;have CL:=Du _ b w5 Pv.out HB8.out Hbl.out;rw[e2] at CL;go_wp2_with fail;refine CL.mono ?_;rintro e w6 ⟨u,rfl,hoc,hb⟩;replace P5:=zh (P5.out.ext hb);replace P8:=zh (P8.out.ext hb);replace P10:=zh (P10.out.ext hb);replace PU:=zh (PU.out.ext hb);replace PL:=zh (X3 PL.out hb);replace PT:=zh (PT.out.ext hb);have OC:=zh hoc;clear hb hoc q2 q3 PS Pv CL;clear e1 e2 hc
   go_upto_region 10 with fail
   go_wp2_with (first
    | (refine Zu rfl BLT (.tmp 71) (.const (.bool true)) rfl g5 3 (.bool true) (ov L U D false) ROT (Yu _) (by rfl) (by rfl) P5.out (by show 3<4;decide) ?_;intro wb hkb htb;have J5:Hid (Blk wb g5 ROT (ov L U D true)):=hkb;have J10:=zh (P10.out.turn htb N510.out);have JT:=zh (PT.out.mine htb Z5.out);clear hkb htb)
    | (show wpList _ _ _ (⟨some 72,_,_,_,_,_⟩::_) _ _;refine Zj rfl ROT (.tmp 5) rfl g5 0 (ov L U D true) (by rfl) Zk J5.out.at (Zq _ _ _ _) ?_)
    | (refine Zz rfl ROT (.tmp 10) (.tmp 72) rfl g10 (ov L U D true) _ ROT (by rfl) (by rfl) Zk J10.out (Zq _ _ _ _) (Zq _ _ _ _) (oT L HLs.out _ _) ?_;intro w9 hk9 ht9 hs9))
   refine bodyPost_ret (v:=.agg (ov L U D true)) ?_ rfl ?_
   ·exact Xj Zk rfl _ _ g10 _ (by rfl) hk9 (Zq _ _ _ _)
   ·exact⟨.inl ⟨HN.out,L,D,HLs.out,rfl⟩,JT.out.mine ht9 Z10.out⟩
  ·obtain⟨e1,e2⟩:=yM hc;have CL:=Du _ b w5 Pv.out HB8.out Hbl.out;rw[e2,e1] at CL;go_wp2_with fail;refine CL.mono ?_;rintro e w6 ⟨u,rfl,hoc,hb⟩;replace P5:=zh (P5.out.ext hb);replace P8:=zh (P8.out.ext hb);replace P10:=zh (P10.out.ext hb);replace PU:=zh (PU.out.ext hb);replace PL:=zh (X3 PL.out hb);replace PT:=zh (PT.out.ext hb);have OC:=zh hoc;clear hb hoc q2 q3 PS Pv CL;obtain⟨au,cu,rfl,_⟩:=O9 OC.out;clear e1 e2 hc
   by_cases h0:cs=[]
   ·subst h0;rw[show([]:List Ce).length=0 from rfl];clear h2
    go_upto_region 10 with fail
    go_wp2_with (first
     | (refine Zu rfl BLT (.tmp 71) (.const (.bool true)) rfl g5 3 (.bool true) (ov L U D false) ROT (Yu _) (by rfl) (by rfl) P5.out (by show 3<4;decide) ?_;intro wb hkb htb;have J5:Hid (Blk wb g5 ROT (ov L U D true)):=hkb;have J10:=zh (P10.out.turn htb N510.out);have JT:=zh (PT.out.mine htb Z5.out);clear hkb htb)
     | (show wpList _ _ _ (⟨some 72,_,_,_,_,_⟩::_) _ _;refine Zj rfl ROT (.tmp 5) rfl g5 0 (ov L U D true) (by rfl) Zk J5.out.at (Zq _ _ _ _) ?_)
     | (refine Zz rfl ROT (.tmp 10) (.tmp 72) rfl g10 (ov L U D true) _ ROT (by rfl) (by rfl) Zk J10.out (Zq _ _ _ _) (Zq _ _ _ _) (oT L HLs.out _ _) ?_;intro w9 hk9 ht9 hs9))
    refine bodyPost_ret (v:=.agg (ov L U D true)) ?_ rfl ?_
    ·exact Xj Zk rfl _ _ g10 _ (by rfl) hk9 (Zq _ _ _ _)
    ·exact⟨.inl ⟨HN.out,L,D,HLs.out,rfl⟩,JT.out.mine ht9 Z10.out⟩
   ·obtain⟨h3,h4⟩:=h2.resolve_left h0;obtain⟨nc,hnc⟩:∃nc,cs.length=nc:=⟨_,rfl⟩
    have hnc0:nc≠0:=by rw[←hnc];intro e;exact h0 (List.eq_nil_of_length_eq_zero e)
    have f1:((nc:Int)==0)=false:=by rw[beq_eq_false_iff_ne];omega
    have f2:(nc==0)=false:=by rw[beq_eq_false_iff_ne];exact hnc0
    rw[hnc];rw[HD.out] at h3 h4;have f3:decide (0<D)=true:=zdt h3;have f4:(D !=deep)=true:=by simp;exact h4
    have q2:=P5.out.o2;clear h0 h2 h3 h4 hnc hnc0
    go_upto_region 10 with fail
    go_wp2_with (first
     | (refine Zu rfl BLT (.tmp 71) (.const (.bool true)) rfl g5 3 (.bool true) (ov L U D false) ROT (Yu _) (by rfl) (by rfl) P5.out (by show 3<4;decide) ?_;intro wb hkb htb;have J5:Hid (Blk wb g5 ROT (ov L U D true)):=hkb;have J10:=zh (P10.out.turn htb N510.out);have JT:=zh (PT.out.mine htb Z5.out);clear hkb htb)
     | (show wpList _ _ _ (⟨some 72,_,_,_,_,_⟩::_) _ _;refine Zj rfl ROT (.tmp 5) rfl g5 0 (ov L U D true) (by rfl) Zk J5.out.at (Zq _ _ _ _) ?_)
     | (refine Zz rfl ROT (.tmp 10) (.tmp 72) rfl g10 (ov L U D true) _ ROT (by rfl) (by rfl) Zk J10.out (Zq _ _ _ _) (Zq _ _ _ _) (oT L HLs.out _ _) ?_;intro w9 hk9 ht9 hs9))
    refine bodyPost_ret (v:=.agg (ov L U D true)) ?_ rfl ?_
    ·exact Xj Zk rfl _ _ g10 _ (by rfl) hk9 (Zq _ _ _ _)
    ·exact⟨.inl ⟨HN.out,L,D,HLs.out,rfl⟩,JT.out.mine ht9 Z10.out⟩
end Go.Proofs.YtdgladhfibfdlaaGreatDoor
