/-
  Steps.
-/
import Derived.Test.YtdgladhfibfdlaaGreatDoorQPSs35
namespace Go.Proofs.YtdgladhfibfdlaaGreatDoor
open Go Go.RowKit Go.Proofs.Tryz
set_option maxRecDepth 100000
theorem y2o:z72 RFK 2:=⟨⟨_,underlying170,rfl⟩,by kernel_rfl⟩
theorem z5t:x0q RFK #[zF,zF]:=fun w=>by kernel_rfl
theorem y7q (a a2:Option Addr)(n c n2 c2:Nat):(#[.slice a n c,.slice a2 n2 c2]:Array Value).all (·.oneCell')=true:=by kernel_rfl
theorem JQ (v:Value)(b:List Nat)(w:World)(hv:Sl w v b)(h8:B8 b)(hl:b.length≤504):
  Calls prog 87 #[v] w fun e w'=>∃u v,e=.returned (.tuple #[.agg #[u,v],.int .i64 (z15 b:Nat)])∧w'.ownsRow w.heap.size STY 1 u (jI b).length (sv (jI b))∧w'.ownsRow w.heap.size ITY 1 v (jJ b).length (iv (jJ b))∧zB w w':=by
 obtain⟨a,c,rfl,hs,hz,h1,h2⟩:=hv.arg;exact QK a _ c b w rfl hs h1 h2 (by omega) h8
theorem y6g {P:List (List Nat)}{f:Nat}{o o1:RO}{page:Int}{s:Sp}{deep:Int}{b:List Nat}{ks:List ByteArray}{ps:List Int}(h:T9 P o page=some (o1,2,b))(ht:¬(1<deep∧b.length<126))(hc:S9 b=some (ks,ps)):
  Xy P (f+1) o page s deep=Ij (Xy P f) ks ps s deep ps.length o1:=by
 rw[Xy,h];simp only;rw[if_neg ht,if_neg (by decide),if_pos trivial,hc]
theorem z3l {P:List (List Nat)}{f:Nat}{o o1:RO}{page:Int}{s:Sp}{deep:Int}{b:List Nat}(h:T9 P o page=some (o1,2,b))(ht:¬(1<deep∧b.length<126))(hc:S9 b=none):Xy P f o page s deep=none:=by
 cases f with
 | zero=>rw[Xy]
 | succ f=>rw[Xy,h];simp only;rw[if_neg ht,if_neg (by decide),if_pos trivial,hc]
theorem JR (rec:RO→Int→Sp→Int→Option RO)(ks:List ByteArray)(ps:List Int)(s:Sp)(deep:Int)(k:Nat)(y:RO)(hk:k<ps.length):
  Ij rec ks ps s deep (ps.length-k) y=if 0<k∧xR s (sa ks (k-1))=false then none else match rec y (ia ps k) (Iz s ks k) (deep+1) with
   | none=>none
   | some o1=>Ij rec ks ps s deep (ps.length-(k+1)) o1:=by
 obtain⟨t,ht⟩:∃t,ps.length-k=t+1:=⟨ps.length-k-1,by omega⟩
 have e:ps.length-(t+1)=k:=by omega
 have e2:ps.length-(k+1)=t:=by omega
 rw[ht,Ij,e,e2]
 rfl
set_option maxHeartbeats 4000000 in
theorem z3m (P:List (List Nat))(a:Option Addr)(c:Nat)(o:RO)(L:Value)(B gu:Nat)(page:Int)(s:Sp)(deep:Int)(f:Nat)(w0 w:World)(hI:NIn P a w0 w B gu o L)(o1:RO)(b:List Nat)(ho:T9 P o page=some (o1,2,b))(hth:¬(1<deep∧b.length<126))(hc:S9 b=none):
  Calls prog 55 #[.agg (ov L (uv gu P.length) o.d false),.slice a P.length c,.int .i64 page,.agg (spc s),.int .i64 deep] w fun e w'=>L0 P B gu w (Xy P f o page s deep) e w':=by
 obtain⟨R,hR⟩:∃R,Xy P f o page s deep=R:=⟨_,rfl⟩
 have HN:Hid (R=none):=by show R=none;rw[←hR];exact z3l ho hth hc
 have hbl:b.length≤504:=by obtain⟨_,_,_,_,_,_,rfl⟩:=Rk P ho;exact XE _
 have Hbl:=zh hbl;have HFE:Hid (z15 b=3):=(YS hc).2.2;rw[hR];have HO:=zh ho;clear ho hR hc hbl;unfold L0;obtain⟨n,hn⟩:∃n,P.length=n:=⟨_,rfl⟩
 have HI:=zh hI;have Hn:=zh hn;have oT:=fun(M:Value) (hM:IsS M) (d:Int) b=>Jj hM gu n d b
 have HLs:Hid (IsS L):=Xk hI.own;have C0:=zh (fun(wx:World) (h1:zB w0 wx) (h2:Blk wx gu BLT (yl P.length o.u)) h3=>Ov P a c o L (Xk hI.own) gu page w0 wx h1 hI.pg h2 hI.gu0 h3);have C1:=zh (fun(wx:World) (h1:zB w0 wx) (h2:Blk wx gu BLT (yl P.length o.u)) o1 k b h3=>Qx P a c o L (Xk hI.own) gu page w0 wx h1 hI.pg h2 hI.gu0 o1 k b h3);have HU0:=zh hI.use;rw[hn] at C0 C1 HU0⊢
 obtain⟨U,hUv⟩:∃U,uv gu n=U:=⟨_,rfl⟩
 rw[hUv] at oT C0 C1⊢
 have HUv:=zh hUv;have HUs:Hid (IsS U):=by show IsS U;rw[←hUv];exact⟨_,_,_,rfl⟩
 obtain⟨D,hD⟩:∃D,o.d=D:=⟨_,rfl⟩
 rw[hD] at C0 C1⊢
 have HD:=zh hD;clear hI hn hUv hD
 go_enter func55,ntmps55
 go_wp2_with (first
  | (refine Zw rfl ROT (.tmp 0) rfl (ov L U D false) (by rfl) ?_;intro g5 w1 hg5 hk5 hb5)
  | (refine Zw rfl RSP (.tmp 3) rfl (spc s) (by rfl) ?_;intro g8 w2 hg8 hk8 hb8)
  | (show wpList _ _ _ (⟨some 10,_,_,_,_,_⟩::_) _ _;refine Zv rfl ROT rfl Vx ?_;intro g10 w3 hg10 hk10 hb10;have bx:Ext w w3:=hb5.trans ((hb8.mono hb5.size).trans (hb10.mono (znt hb5.size hb8.size)));have K5:=zh ((hk5.ext hb8).ext hb10);have K8:=zh (hk8.ext hb10);have K10:=zh hk10;have KU:=zh (HU0.out.ext bx);have KL:=zh (X3 HI.out.own bx);have KW:Hid (KT B gu w w3):=x3y bx;have B3:Hid (zB w0 w3):=HI.out.hb0.trans (Below.mono bx HI.out.hb0.size);have N58:Hid (g8≠g5):=(by show _≠_;have:=hk5.lt;omega);have N510:Hid (g10≠g5):=(by show _≠_;have h1:=hk5.lt;have h2:=hb8.size;omega);have Z5:Hid (w.heap.size≤g5):=hg5;have Z10:Hid (w.heap.size≤g10):=(by show _≤_;have h1:=hb5.size;have h2:=hb8.size;omega);clear hg5 hk5 hb5 hg8 hk8 hb8 hg10 hk10 hb10 bx)
  | (show wpList _ _ _ (⟨some 24,_,_,_,_,_⟩::_) _ _;refine Zj rfl ROT (.tmp 5) rfl g5 0 (ov L U D false) (by rfl) Zk K5.out.at (Zq _ _ _ _) ?_))
 refine(C1.out w3 B3.out KU.out _ _ _ HO.out).mono ?_;rintro e w4 ⟨vl,rfl,hsv,hb8',hku,ht⟩;have M5:=zh (K5.out.turn ht (K5.out.ne KU.out (by decide)));have M8:=zh (K8.out.turn ht (K8.out.ne KU.out (by decide)));have M10:=zh (K10.out.turn ht (K10.out.ne KU.out (by decide)));have ML:=zh (Yw KL.out ht KU.out (by decide));have MU:=zh hku;have MS:=zh hsv;have HB8:=zh hb8';have MT:=zh (KW.out.gu ht);clear ht hku hsv hb8' C0 C1 K5 K8 K10 KU KL KW B3
 go_upto_region 2 with (first
  | (refine Zz rfl ROT (.tmp 5) (.tmp 28) rfl g5 (ov L U D false) _ ROT (by rfl) (by rfl) Zk M5.out (Zq _ _ _ _) (Zq _ _ _ _) (oT L HLs.out _ _) ?_;intro w5 hk ht5 hs5;have P5:=zh hk;have P8:=zh (M8.out.turn ht5 N58.out);have P10:=zh (M10.out.turn ht5 N510.out);have PU:=zh (MU.out.turn ht5 (fun e=>(M5.out.ne MU.out (by decide)) e.symm));have PL:=zh (Yw ML.out ht5 M5.out (by decide));have PT:=zh (MT.out.mine ht5 Z5.out);have PS:=zh (MS.out.turn ht5 (Qq M5.out HLs.out HUs.out));have q3:=hk.o3;have q2:=hk.o2;clear hk ht5 hs5 M5 M8 M10 MU ML MT MS))
 obtain⟨av,cv,rfl,hsl⟩:∃av cv,vl=.slice av b.length cv∧True:=by obtain⟨x,y,hx,_⟩:=PS.out.arg;exact⟨x,y,hx,trivial⟩
 obtain⟨m,hm⟩:∃m,b.length=m:=⟨_,rfl⟩
 rw[hm] at hth;have Hm:=zh hm;have Pv:=PS;rw[hm] at Pv⊢
 clear hsl hm
 go_cut [41] (fun s41 wx=>s41=.bool false∧w5=wx)
 case first=>
  by_cases hd1:1<deep
  ·have d1:decide ((1:Int)<deep)=true:=zdt hd1;have d2:decide ((m:Int)<126)=false:=zdf (by omega);have d3:decide (m<126)=false:=zdf (by omega);clear hth hd1;go_wp2;go_meet;exact⟨rfl,by first|trivial|rfl⟩
  ·have d1:decide ((1:Int)<deep)=false:=zdf hd1;clear hth hd1;go_wp2;go_meet;exact⟨rfl,by first|trivial|rfl⟩
 case rest=>
  obtain⟨rfl,rfl⟩:=hcut;clear hth;have CL:=JQ _ b w5 Pv.out HB8.out Hbl.out;rw[HFE.out] at CL;go_wp2_with fail;refine CL.mono ?_;rintro e w6 ⟨u,v,rfl,hou,hoi,hb⟩;replace P5:=zh (P5.out.ext hb);replace P8:=zh (P8.out.ext hb);replace P10:=zh (P10.out.ext hb);replace PU:=zh (PU.out.ext hb);replace PL:=zh (X3 PL.out hb);replace PT:=zh (PT.out.ext hb);obtain⟨au,nu,cu,rfl⟩:=Xk hou;obtain⟨av2,nv,cv2,rfl⟩:=Xk hoi;have OU:=zh hou;have OI:=zh hoi;clear hb hou hoi q2 q3 PS Pv CL
  go_upto_region 25 with (first
   | (show wpList _ _ _ (⟨some 19,_,_,_,_,_⟩::_) _ _;refine Zv rfl RFK rfl z5t ?_;intro g19 w7 hg19 hk19 hb19;have Z19:Hid (w.heap.size≤g19):=znt PT.out.size hg19;have K19:=zh hk19;replace P5:=zh (P5.out.ext hb19);replace P8:=zh (P8.out.ext hb19);replace P10:=zh (P10.out.ext hb19);replace PU:=zh (PU.out.ext hb19);replace PL:=zh (X3 PL.out hb19);replace PT:=zh (PT.out.ext hb19);replace OU:=zh (X3 OU.out hb19);replace OI:=zh (X3 OI.out hb19);clear hg19 hk19 hb19)
   | (refine Zz rfl RFK (.tmp 19) (.tmp 145) rfl g19 #[.slice au nu cu,.slice av2 nv cv2] _ RFK (by rfl) (by rfl) y2o K19.out (by rfl) (by rfl) (y7q _ _ _ _ _ _) ?_;intro w8 hk8 ht8 hs8;replace P5:=zh (P5.out.turn ht8 (P5.out.ne K19.out (by decide)));replace P8:=zh (P8.out.turn ht8 (P8.out.ne K19.out (by decide)));replace P10:=zh (P10.out.turn ht8 (P10.out.ne K19.out (by decide)));replace PU:=zh (PU.out.turn ht8 (fun e=>(K19.out.ne PU.out (by decide)) e.symm));replace PL:=zh (Yw PL.out ht8 K19.out (by decide));replace PT:=zh (PT.out.mine ht8 Z19.out);replace OU:=zh (Xw OU.out ht8 K19.out (by decide));replace OI:=zh (Xw OI.out ht8 K19.out (by decide));replace K19:=zh hk8;clear hk8 ht8 hs8))
  go_wp2_with (first
   | (refine Zu rfl BLT (.tmp 149) (.const (.bool true)) rfl g5 3 (.bool true) (ov L U D false) ROT (Yu _) (by rfl) (by rfl) P5.out (by show 3<4;decide) ?_;intro wb hkb htb;have J5:Hid (Blk wb g5 ROT (ov L U D true)):=hkb;have J10:=zh (P10.out.turn htb N510.out);have JT:=zh (PT.out.mine htb Z5.out);clear hkb htb)
   | (show wpList _ _ _ (⟨some 150,_,_,_,_,_⟩::_) _ _;refine Zj rfl ROT (.tmp 5) rfl g5 0 (ov L U D true) (by rfl) Zk J5.out.at (Zq _ _ _ _) ?_)
   | (refine Zz rfl ROT (.tmp 10) (.tmp 150) rfl g10 (ov L U D true) _ ROT (by rfl) (by rfl) Zk J10.out (Zq _ _ _ _) (Zq _ _ _ _) (oT L HLs.out _ _) ?_;intro w9 hk9 ht9 hs9))
  refine bodyPost_ret (v:=.agg (ov L U D true)) ?_ rfl ?_
  ·exact Xj Zk rfl _ _ g10 _ (by rfl) hk9 (Zq _ _ _ _)
  ·exact⟨.inl ⟨HN.out,L,D,HLs.out,rfl⟩,JT.out.mine ht9 Z10.out⟩
structure BrI (B gu n:Nat) (w wr:World) (g5 g8 g10 g19 C:Nat) (s:Sp) (U L:Value) (d:Int) (x:RO) (bd:Bool) (ks:List ByteArray) (ps:List Int) (u v:Value):Prop where
 b5:Blk wr g5 ROT (ov L U d bd)
 b8:Blk wr g8 RSP (spc s)
 b10:Blk wr g10 ROT (ov Z0 Z0 0 false)
 b19:Blk wr g19 RFK #[u,v]
 ok:wr.ownsRow C STY 1 u ks.length (sv ks)
 oi:wr.ownsRow C ITY 1 v ps.length (iv ps)
 kt:KT B gu w wr
 is:IsS L
 bu:bd=false→Blk wr gu BLT (yl n x.u)
 ow:bd=false→wr.ownsRow B RET 2 L x.l.length (Y9.row x.l)
 dp:bd=false→x.d=d
structure BrR (P:List (List Nat)) (n f:Nat) (ks:List ByteArray) (ps:List Int) (s:Sp) (deep:Int) (R:Option RO) (k:Nat) (x:RO) (bd:Bool):Prop where
 go:bd=false→Ij (Xy P f) ks ps s deep (ps.length-k) x=R∧Vj x.u n≤f
 no:bd=true→R=none
 few:bd=false→x.l.length+504*Vj x.u n≤900000
structure BrK (P:List (List Nat)) (n f:Nat) (ks:List ByteArray) (ps:List Int) (s:Sp) (deep:Int) (R:Option RO) (k:Nat) (x:RO) (bd:Bool):Prop where
 go:bd=false→(match Xy P f x (ia ps k) (Iz s ks k) (deep+1) with
  | none=>none
  | some o1=>Ij (Xy P f) ks ps s deep (ps.length-(k+1)) o1)=R∧Vj x.u n≤f
 no:bd=true→R=none
 few:bd=false→x.l.length+504*Vj x.u n≤900000
section
variable {B gu n:Nat} {w a b:World} {g5 g8 g10 g19 g22 C:Nat} {s:Sp} {d d1:Int} {U L L1:Value} {x x1:RO} {bd b1:Bool} {ks:List ByteArray} {ps:List Int} {u v:Value}
theorem BrI.ext (h:BrI B gu n w a g5 g8 g10 g19 C s U L d x bd ks ps u v)(e:Ext a b):BrI B gu n w b g5 g8 g10 g19 C s U L d x bd ks ps u v:=
 ⟨h.b5.ext e,h.b8.ext e,h.b10.ext e,h.b19.ext e,X3 h.ok e,X3 h.oi e,h.kt.ext e,h.is,fun hb=>(h.bu hb).ext e,fun hb=>X3 (h.ow hb) e,h.dp⟩
theorem BrI.span (h:BrI B gu n w a g5 g8 g10 g19 C s U L d x bd ks ps u v){cs:Array Value}(t:Zx (fun y=>y=g22) a b)(hx:Blk a g22 RSP cs)(hz:w.heap.size≤g22)(n8:g8≠g22):BrI B gu n w b g5 g8 g10 g19 C s U L d x bd ks ps u v:=
 ⟨h.b5.turn t (h.b5.ne hx (by decide)),h.b8.turn t n8,h.b10.turn t (h.b10.ne hx (by decide)),h.b19.turn t (h.b19.ne hx (by decide)),Xw h.ok t hx (by decide),Xw h.oi t hx (by decide),h.kt.mine t hz,h.is,
  fun hb=>(h.bu hb).turn t (fun e=>(hx.ne (h.bu hb) (by decide)) e.symm),fun hb=>Yw (h.ow hb) t hx (by decide),h.dp⟩
theorem BrI.flag (h:BrI B gu n w a g5 g8 g10 g19 C s U L d x bd ks ps u v)(t:Zx (fun y=>y=g5) a b)(hk:Blk b g5 ROT (ov L U d b1))(hi:b1=false→bd=false)(n10:g10≠g5)(hz:w.heap.size≤g5):BrI B gu n w b g5 g8 g10 g19 C s U L d x b1 ks ps u v:=
 ⟨hk,h.b8.turn t (h.b8.ne h.b5 (by decide)),h.b10.turn t n10,h.b19.turn t (h.b19.ne h.b5 (by decide)),Xw h.ok t h.b5 (by decide),Xw h.oi t h.b5 (by decide),h.kt.mine t hz,h.is,
  fun hb=>(h.bu (hi hb)).turn t (fun e=>(h.b5.ne (h.bu (hi hb)) (by decide)) e.symm),fun hb=>Yw (h.ow (hi hb)) t h.b5 (by decide),fun hb=>h.dp (hi hb)⟩
theorem BrI.kid (h:BrI B gu n w a g5 g8 g10 g19 C s U L d x false ks ps u v)(k:KT B gu a b):Blk b g5 ROT (ov L U d false)∧Blk b g8 RSP (spc s)∧Blk b g10 ROT (ov Z0 Z0 0 false)∧Blk b g19 RFK #[u,v]∧b.ownsRow C STY 1 u ks.length (sv ks)∧b.ownsRow C ITY 1 v ps.length (iv ps)∧KT B gu w b:=by
 have hu:=h.bu rfl;refine⟨k.blk h.b5 (by decide) (h.b5.ne hu (by decide)),k.blk h.b8 (by decide) (h.b8.ne hu (by decide)),k.blk h.b10 (by decide) (h.b10.ne hu (by decide)),k.blk h.b19 (by decide) (h.b19.ne hu (by decide)),k.own h.ok (by decide) (fun cs hb=>(hb.ne hu (by decide)) rfl),k.own h.oi (by decide) (fun cs hb=>(hb.ne hu (by decide)) rfl),h.kt.trans k⟩
theorem BrI.take {b2:World}(h:BrI B gu n w a g5 g8 g10 g19 C s U L d x false ks ps u v)(k:KT B gu a b)(t:Zx (fun y=>y=g5) b b2)(hk:Blk b2 g5 ROT (ov L1 U d1 b1))(hl:IsS L1)(hu:b1=false→Blk b gu BLT (yl n x1.u))(ho:b1=false→b.ownsRow B RET 2 L1 x1.l.length (Y9.row x1.l))(hd:b1=false→x1.d=d1)(n10:g10≠g5)(hz:w.heap.size≤g5):
  BrI B gu n w b2 g5 g8 g10 g19 C s U L1 d1 x1 b1 ks ps u v:=by
 obtain⟨h5,h8,h10,h19,hok,hoi,hkt⟩:=h.kid k;exact⟨hk,h8.turn t (h8.ne h5 (by decide)),h10.turn t n10,h19.turn t (h19.ne h5 (by decide)),Xw hok t h5 (by decide),Xw hoi t h5 (by decide),hkt.mine t hz,hl,
  fun e=>(hu e).turn t (fun e2=>(h5.ne (hu e) (by decide)) e2.symm),fun e=>Yw (ho e) t h5 (by decide),hd⟩
end
section
variable {P:List (List Nat)} {n f:Nat} {ks:List ByteArray} {ps:List Int} {s:Sp} {deep:Int} {R:Option RO} {k:Nat} {x x1:RO} {bd:Bool}
theorem BrR.key (h:BrR P n f ks ps s deep R k x false)(hk:k<ps.length)(hs:0<k→xR s (sa ks (k-1))=true):BrK P n f ks ps s deep R k x false:=
 ⟨fun _=>by
  obtain⟨h1,h2⟩:=h.go rfl;rw[JR _ _ _ _ _ _ _ hk,if_neg (fun e=>by rw[hs e.1] at e;exact absurd e.2 (by decide))] at h1;exact⟨h1,h2⟩,(fun e=>by cases e),h.few⟩
theorem BrR.keyNo (h:BrR P n f ks ps s deep R k x false)(hk:k<ps.length)(h0:0<k)(hs:xR s (sa ks (k-1))=false):BrK P n f ks ps s deep R k x true:=
 ⟨(
  fun e=>by cases e),fun _=>by
  obtain⟨h1,h2⟩:=h.go rfl;rw[JR _ _ _ _ _ _ _ hk,if_pos ⟨h0,hs⟩] at h1;exact h1.symm,(fun e=>by cases e)⟩
theorem BrK.yes (h:BrK P n f ks ps s deep R k x false)(hP:P.length=n)(hn:Xy P f x (ia ps k) (Iz s ks k) (deep+1)=some x1):BrR P n f ks ps s deep R (k+1) x1 false:=by
 obtain⟨h1,h2⟩:=h.go rfl;rw[hn] at h1;have h3:=z44 P _ _ _ _ _ _ hn;have h4:=h.few rfl;obtain⟨h5,h6⟩:=h3;rw[hP] at h5 h6;exact⟨fun _=>⟨h1,by omega⟩,(fun e=>by cases e),fun _=>by omega⟩
theorem BrK.not (h:BrK P n f ks ps s deep R k x false)(hn:Xy P f x (ia ps k) (Iz s ks k) (deep+1)=none):BrR P n f ks ps s deep R (k+1) x1 true:=by
 obtain⟨h1,_⟩:=h.go rfl;rw[hn] at h1;exact⟨(fun e=>by cases e),fun _=>h1.symm,(fun e=>by cases e)⟩
theorem BrK.none (h:BrK P n f ks ps s deep R k x true):BrR P n f ks ps s deep R (k+1) x true:=
 ⟨(fun e=>by cases e),h.no,(fun e=>by cases e)⟩
end
end Go.Proofs.YtdgladhfibfdlaaGreatDoor
