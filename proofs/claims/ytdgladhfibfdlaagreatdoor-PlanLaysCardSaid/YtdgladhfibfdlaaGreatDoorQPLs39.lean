/-
  Steps.
-/
import Derived.Test.YtdgladhfibfdlaaGreatDoorQPLs38
namespace Go.Proofs.YtdgladhfibfdlaaGreatDoor
open Go Go.RowKit
theorem x9n {l:List Nat}{cs:List Ce}(h:decS l=some cs)(i:Nat)(hi:i<cs.length):mayB (ca cs i)=true:=by
 unfold decS at h;split at h
 ·cases h
 ·split at h
  ·cases h
  ·split at h
   ·cases h
   ·rename_i cs1 r h1
    split at h
    ·cases h
     exact x7m h1 _ (q4n _ i hi)
    ·cases h
theorem z7n (v:Value)(b:List Nat)(w:World)(hv:Sl w v b)(h8:B8 b)(hl:b.length≤504):
  Calls Tryz.prog 84 #[v] w fun e w'=>∃u,e=.returned (.tuple #[u,.int .i64 (decE b:Nat)])∧w'.ownsRow w.heap.size RCT 4 u (decC b).length (cvs (decC b))∧Below w.heap.size w w':=by
 obtain⟨a,c,rfl,hs,hz,h1,h2⟩:=hv.arg;exact y23 a _ c b w rfl hs hz h1 h2 (by omega) h8
theorem y07 {P:List (List Nat)}{f:Nat}{o o1:RO}{page:Int}{s:Sp}{deep:Int}{b:List Nat}{cs:List Ce}(h:z2f P o page=some (o1,1,b))(ht:¬(1<deep∧b.length<126))(hc:decS b=some cs):
  z1c P (f+1) o page s deep=if cs=[]∨(0<o1.d∧o1.d≠deep) then none else z5g P f s cs ⟨o1.l,o1.u,deep⟩:=by
 unfold z1c;rw[h];simp only;rw[if_neg ht,if_pos trivial,hc]
theorem y3e {P:List (List Nat)}{f:Nat}{o o1:RO}{page:Int}{s:Sp}{deep:Int}{b:List Nat}(h:z2f P o page=some (o1,1,b))(ht:¬(1<deep∧b.length<126))(hc:decS b=none):z1c P f o page s deep=none:=by
 cases f<;>unfold z1c
 ·rfl
 ·rw[h];simp only;rw[if_neg ht,if_pos trivial,hc]
theorem x1u (P:List (List Nat))(f:Nat)(s:Sp)(cs:List Ce)(k:Nat)(x:RO)(hk:k<cs.length):
  z5g P f s (cs.drop k) x=match (if 64<(ca cs k).n then valF P f x ByteArray.empty (ca cs k).p (ca cs k).n else some (x,(ca cs k).v)) with
   | none=>none
   | some (o1,v)=>if hasS s (ca cs k).k=true then z5g P f s (cs.drop (k+1)) ⟨o1.l++[⟨(ca cs k).k,v,[]⟩],o1.u,o1.d⟩ else none:=by
 rw[x3m cs k hk];rfl
theorem z1b {w w':World}{B T sz n g:Nat}{v:Value}{xs:List Value}{t:TypeId}{cs:Array Value}(h:w.ownsRow B T sz v n xs)(k:Turn (fun x=>x=g) w w')(hb:Blk w g t cs)(ht:t≠T):w'.ownsRow B T sz v n xs:=by
 refine⟨h.1,?_⟩
 rcases h.2 with h1|⟨g1,cap,cur,rfl,hB,hg,r⟩
 ·exact .inl h1
 ·refine .inr ⟨g1,cap,cur,rfl,hB,k.hg hg (fun e=> ?_),r⟩;subst e;have h1:w.heap[g1]? =some (.cells cs t (0,0)):=hb;rw[h1] at hg
  cases hg
  exact ht rfl
structure LfI (B gu n:Nat) (w wr:World) (g5 g8 g10 C:Nat) (s:Sp) (deep:Int) (U L:Value) (x:RO) (bd:Bool) (cs:List Ce) (u:Value):Prop where
 b5:Blk wr g5 ROT (ov L U deep bd)
 b8:Blk wr g8 RSP (spc s)
 b10:Blk wr g10 ROT (ov nilS nilS 0 false)
 bu:bd=false→Blk wr gu BLT (yl n x.u)
 ow:wr.ownsRow B RET 2 L x.l.length (entE.row x.l)
 oc:wr.ownsRow C RCT 4 u cs.length (cvs cs)
 kt:KT B gu w wr
 dp:x.d=deep
theorem LfI.gu {B gu n:Nat}{w a b:World}{g5 g8 g10 C:Nat}{s:Sp}{deep:Int}{U L:Value}{x x1:RO}{cs:List Ce}{u:Value}(h:LfI B gu n w a g5 g8 g10 C s deep U L x false cs u)(t:Turn (fun y=>y=gu) a b)(hu:Blk b gu BLT (yl n x1.u))(hl:x1.l=x.l)(hd:x1.d=x.d):LfI B gu n w b g5 g8 g10 C s deep U L x1 false cs u:=
 ⟨h.b5.turn t (h.b5.ne (h.bu rfl) (by decide)),h.b8.turn t (h.b8.ne (h.bu rfl) (by decide)),h.b10.turn t (h.b10.ne (h.bu rfl) (by decide)),fun _=>hu,by rw[hl];exact z0q h.ow t (h.bu rfl) (by decide),z1b h.oc t (h.bu rfl) (by decide),h.kt.gu t,hd.trans h.dp⟩
theorem LfI.guNo {B gu n:Nat}{w a b:World}{g5 g8 g10 C:Nat}{s:Sp}{deep:Int}{U L:Value}{x:RO}{cs:List Ce}{u:Value}(h:LfI B gu n w a g5 g8 g10 C s deep U L x false cs u)(t:Turn (fun y=>y=gu) a b):Blk b g5 ROT (ov L U deep false)∧Blk b g8 RSP (spc s)∧Blk b g10 ROT (ov nilS nilS 0 false)∧b.ownsRow B RET 2 L x.l.length (entE.row x.l)∧b.ownsRow C RCT 4 u cs.length (cvs cs)∧KT B gu w b:=
 ⟨h.b5.turn t (h.b5.ne (h.bu rfl) (by decide)),h.b8.turn t (h.b8.ne (h.bu rfl) (by decide)),h.b10.turn t (h.b10.ne (h.bu rfl) (by decide)),z0q h.ow t (h.bu rfl) (by decide),z1b h.oc t (h.bu rfl) (by decide),h.kt.gu t⟩
theorem LfI.ext {B gu n:Nat}{w a b:World}{g5 g8 g10 C:Nat}{s:Sp}{deep:Int}{U L:Value}{x:RO}{bd:Bool}{cs:List Ce}{u:Value}(h:LfI B gu n w a g5 g8 g10 C s deep U L x bd cs u)(e:Ext a b):LfI B gu n w b g5 g8 g10 C s deep U L x bd cs u:=
 ⟨h.b5.ext e,h.b8.ext e,h.b10.ext e,fun hb=>(h.bu hb).ext e,z1g h.ow e,z1g h.oc e,h.kt.ext e,h.dp⟩
theorem LfI.put {B gu n:Nat}{w a b:World}{g5 g8 g10 C:Nat}{s:Sp}{deep:Int}{U L L1:Value}{x x1:RO}{bd bd1:Bool}{cs:List Ce}{u:Value}(h:LfI B gu n w a g5 g8 g10 C s deep U L x bd cs u)(t:Turn (fun y=>y=g5) a b)(h5:Blk b g5 ROT (ov L1 U deep bd1))(hbu:bd1=false→Blk b gu BLT (yl n x1.u))
  (how:b.ownsRow B RET 2 L1 x1.l.length (entE.row x1.l)) (n8:g8≠g5) (n10:g10≠g5) (hz:w.heap.size≤g5) (hd:x1.d=deep):LfI B gu n w b g5 g8 g10 C s deep U L1 x1 bd1 cs u:=
 ⟨h5,h.b8.turn t n8,h.b10.turn t n10,hbu,how,z1b h.oc t h.b5 (by decide),h.kt.mine t hz,hd⟩
set_option maxRecDepth 100000 in
set_option maxHeartbeats 2000000 in
theorem z6z (P:List (List Nat))(a:Option Addr)(c:Nat)(o:RO)(L:Value)(B gu:Nat)(page:Int)(s:Sp)(deep:Int)(f:Nat)(w0 w:World)(hI:NIn P a w0 w B gu o L)(o1:RO)(b:List Nat)(ho:z2f P o page=some (o1,1,b))(hth:¬(1<deep∧b.length<126))(hno:decS b=none∨∃cs,decS b=some cs∧(cs=[]∨(0<o.d∧o.d≠deep))):
  Calls Tryz.prog 55 #[.agg (ov L (uv gu P.length) o.d false),.slice a P.length c,.int .i64 page,.agg (spc s),.int .i64 deep] w fun e w'=>z44 P B gu w (z1c P f o page s deep) e w':=by
 obtain⟨R,hR⟩:∃R,z1c P f o page s deep=R:=⟨_,rfl⟩
 have HN:Hid (R=none):=by
  show R=none;rw[←hR]
  rcases hno with h|⟨cs,h,h2⟩
  ·exact y3e ho hth h
  ·cases f with
   | zero=>unfold z1c;rfl
   | succ f=>
    rw[y07 ho hth h,if_pos];have:=(z2j P ho).2.2;rw[this];exact h2
 have hbl:b.length≤504:=by obtain⟨_,_,_,_,_,_,rfl⟩:=z20 P ho;exact z9o _
 have Hbl:=zh hbl;have HNo:=zh hno;rw[hR];have HO:=zh ho;clear ho hR hno hbl;unfold z44;obtain⟨n,hn⟩:∃n,P.length=n:=⟨_,rfl⟩
 have HI:=zh hI;have Hn:=zh hn;have oT:=fun(M:Value) (hM:IsS M) (d:Int) b=>z5l hM gu n d b
 have HLs:Hid (IsS L):=z06 hI.own;have C0:=zh (fun(wx:World) (h1:Below w0.heap.size w0 wx) (h2:Blk wx gu BLT (yl P.length o.u)) h3=>z3w P a c o L (z06 hI.own) gu page w0 wx h1 hI.pg h2 hI.gu0 h3);have C1:=zh (fun(wx:World) (h1:Below w0.heap.size w0 wx) (h2:Blk wx gu BLT (yl P.length o.u)) o1 k b h3=>z26 P a c o L (z06 hI.own) gu page w0 wx h1 hI.pg h2 hI.gu0 o1 k b h3);have HU0:=zh hI.use;rw[hn] at C0 C1 HU0⊢
 obtain⟨U,hUv⟩:∃U,uv gu n=U:=⟨_,rfl⟩
 rw[hUv] at oT C0 C1⊢
 have HUv:=zh hUv;have HUs:Hid (IsS U):=by show IsS U;rw[←hUv];exact⟨_,_,_,rfl⟩
 obtain⟨D,hD⟩:∃D,o.d=D:=⟨_,rfl⟩
 rw[hD] at C0 C1⊢
 have HD:=zh hD;clear hI hn hUv hD
 go_enter Tryz.func55,Tryz.ntmps55
 go_wp2_with (first
  | (refine z0e rfl ROT (.tmp 0) rfl (ov L U D false) (by rfl) ?_;intro g5 w1 hg5 hk5 hb5)
  | (refine z0e rfl RSP (.tmp 3) rfl (spc s) (by rfl) ?_;intro g8 w2 hg8 hk8 hb8)
  | (show wpList _ _ _ (⟨some 10,_,_,_,_,_⟩::_) _ _;refine wpList_alloc_arr rfl ROT rfl z1l ?_;intro g10 w3 hg10 hk10 hb10;have bx:Ext w w3:=hb5.trans ((hb8.mono hb5.size).trans (hb10.mono (znt hb5.size hb8.size)));have K5:=zh ((hk5.ext hb8).ext hb10);have K8:=zh (hk8.ext hb10);have K10:=zh hk10;have KU:=zh (HU0.out.ext bx);have KL:=zh (z1g HI.out.own bx);have KW:Hid (KT B gu w w3):=q51 bx;have B3:Hid (Below w0.heap.size w0 w3):=HI.out.hb0.trans (Below.mono bx HI.out.hb0.size);have N58:Hid (g8≠g5):=(by show _≠_;have:=hk5.lt;omega);have N510:Hid (g10≠g5):=(by show _≠_;have h1:=hk5.lt;have h2:=hb8.size;omega);have Z5:Hid (w.heap.size≤g5):=hg5;have Z10:Hid (w.heap.size≤g10):=(by show _≤_;have h1:=hb5.size;have h2:=hb8.size;omega);clear hg5 hk5 hb5 hg8 hk8 hb8 hg10 hk10 hb10 bx)
  | (show wpList _ _ _ (⟨some 24,_,_,_,_,_⟩::_) _ _;refine z0c rfl ROT (.tmp 5) rfl g5 0 (ov L U D false) (by rfl) z0d K5.out.at (z0a _ _ _ _) ?_))
 refine(C1.out w3 B3.out KU.out _ _ _ HO.out).mono ?_;rintro e w4 ⟨vl,rfl,hsv,hb8',hku,ht⟩;have M5:=zh (K5.out.turn ht (K5.out.ne KU.out (by decide)));have M8:=zh (K8.out.turn ht (K8.out.ne KU.out (by decide)));have M10:=zh (K10.out.turn ht (K10.out.ne KU.out (by decide)));have ML:=zh (z0q KL.out ht KU.out (by decide));have MU:=zh hku;have MS:=zh hsv;have HB8:=zh hb8';have MT:=zh (KW.out.gu ht);clear ht hku hsv hb8' C0 C1 K5 K8 K10 KU KL KW B3
 go_upto_region 2 with (first
  | (refine z0b rfl ROT (.tmp 5) (.tmp 28) rfl g5 (ov L U D false) _ ROT (by rfl) (by rfl) z0d M5.out (z0a _ _ _ _) (z0a _ _ _ _) (oT L HLs.out _ _) ?_;intro w5 hk ht5 hs5;have P5:=zh hk;have P8:=zh (M8.out.turn ht5 N58.out);have P10:=zh (M10.out.turn ht5 N510.out);have PU:=zh (MU.out.turn ht5 (fun e=>(M5.out.ne MU.out (by decide)) e.symm));have PL:=zh (z0q ML.out ht5 M5.out (by decide));have PT:=zh (MT.out.mine ht5 Z5.out);have PS:=zh (MS.out.turn ht5 (z25 M5.out HLs.out HUs.out));have q3:=hk.o3;have q2:=hk.o2;clear hk ht5 hs5 M5 M8 M10 MU ML MT MS))
 obtain⟨av,cv,rfl,hsl⟩:∃av cv,vl=.slice av b.length cv∧True:=by obtain⟨x,y,hx,_⟩:=PS.out.arg;exact⟨x,y,hx,trivial⟩
 obtain⟨m,hm⟩:∃m,b.length=m:=⟨_,rfl⟩
 rw[hm] at hth;have Hm:=zh hm;have Pv:=PS;rw[hm] at Pv⊢
 clear hsl hm
 go_cut [41] (fun s41 wx=>s41=.bool false∧w5=wx)
 case first=>
  by_cases hd1:1<deep
  ·have d1:decide ((1:Int)<deep)=true:=zdt hd1;have d2:decide ((m:Int)<126)=false:=zdf (by omega);have d3:decide (m<126)=false:=zdf (by omega);clear hth hd1;go_wp2;go_meet;exact⟨rfl,by first|trivial|rfl⟩
  ·have d1:decide ((1:Int)<deep)=false:=zdf hd1;clear hth hd1;go_wp2;go_meet;exact⟨rfl,by first|trivial|rfl⟩
 case rest=>
  obtain⟨rfl,rfl⟩:=hcut;clear hth
  rcases HNo.out with hc|⟨cs,hc,h2⟩
  ·obtain⟨e1,e2⟩:=z4l hc;have CL:=z7n _ b w5 Pv.out HB8.out Hbl.out;rw[e2] at CL;go_wp2_with fail;refine CL.mono ?_;rintro e w6 ⟨u,rfl,hoc,hb⟩;replace P5:=zh (P5.out.ext hb);replace P8:=zh (P8.out.ext hb);replace P10:=zh (P10.out.ext hb);replace PU:=zh (PU.out.ext hb);replace PL:=zh (z1g PL.out hb);replace PT:=zh (PT.out.ext hb);have OC:=zh hoc;clear hb hoc q2 q3 PS Pv CL;clear e1 e2 hc
   go_upto_region 10 with fail
   go_wp2_with (first
    | (refine z0g rfl BLT (.tmp 71) (.const (.bool true)) rfl g5 3 (.bool true) (ov L U D false) ROT (z0r _) (by rfl) (by rfl) P5.out (by show 3<4;decide) ?_;intro wb hkb htb;have J5:Hid (Blk wb g5 ROT (ov L U D true)):=hkb;have J10:=zh (P10.out.turn htb N510.out);have JT:=zh (PT.out.mine htb Z5.out);clear hkb htb)
    | (show wpList _ _ _ (⟨some 72,_,_,_,_,_⟩::_) _ _;refine z0c rfl ROT (.tmp 5) rfl g5 0 (ov L U D true) (by rfl) z0d J5.out.at (z0a _ _ _ _) ?_)
    | (refine z0b rfl ROT (.tmp 10) (.tmp 72) rfl g10 (ov L U D true) _ ROT (by rfl) (by rfl) z0d J10.out (z0a _ _ _ _) (z0a _ _ _ _) (oT L HLs.out _ _) ?_;intro w9 hk9 ht9 hs9))
   refine bodyPost_ret (v:=.agg (ov L U D true)) ?_ rfl ?_
   ·exact z05 z0d rfl _ _ g10 _ (by rfl) hk9 (z0a _ _ _ _)
   ·exact⟨.inl ⟨HN.out,L,D,HLs.out,rfl⟩,JT.out.mine ht9 Z10.out⟩
  ·obtain⟨e1,e2⟩:=y2v hc;have CL:=z7n _ b w5 Pv.out HB8.out Hbl.out;rw[e2,e1] at CL;go_wp2_with fail;refine CL.mono ?_;rintro e w6 ⟨u,rfl,hoc,hb⟩;replace P5:=zh (P5.out.ext hb);replace P8:=zh (P8.out.ext hb);replace P10:=zh (P10.out.ext hb);replace PU:=zh (PU.out.ext hb);replace PL:=zh (z1g PL.out hb);replace PT:=zh (PT.out.ext hb);have OC:=zh hoc;clear hb hoc q2 q3 PS Pv CL;obtain⟨au,cu,rfl,_⟩:=z36 OC.out;clear e1 e2 hc
   by_cases h0:cs=[]
   ·subst h0;rw[show([]:List Ce).length=0 from rfl];clear h2
    go_upto_region 10 with fail
    go_wp2_with (first
     | (refine z0g rfl BLT (.tmp 71) (.const (.bool true)) rfl g5 3 (.bool true) (ov L U D false) ROT (z0r _) (by rfl) (by rfl) P5.out (by show 3<4;decide) ?_;intro wb hkb htb;have J5:Hid (Blk wb g5 ROT (ov L U D true)):=hkb;have J10:=zh (P10.out.turn htb N510.out);have JT:=zh (PT.out.mine htb Z5.out);clear hkb htb)
     | (show wpList _ _ _ (⟨some 72,_,_,_,_,_⟩::_) _ _;refine z0c rfl ROT (.tmp 5) rfl g5 0 (ov L U D true) (by rfl) z0d J5.out.at (z0a _ _ _ _) ?_)
     | (refine z0b rfl ROT (.tmp 10) (.tmp 72) rfl g10 (ov L U D true) _ ROT (by rfl) (by rfl) z0d J10.out (z0a _ _ _ _) (z0a _ _ _ _) (oT L HLs.out _ _) ?_;intro w9 hk9 ht9 hs9))
    refine bodyPost_ret (v:=.agg (ov L U D true)) ?_ rfl ?_
    ·exact z05 z0d rfl _ _ g10 _ (by rfl) hk9 (z0a _ _ _ _)
    ·exact⟨.inl ⟨HN.out,L,D,HLs.out,rfl⟩,JT.out.mine ht9 Z10.out⟩
   ·obtain⟨h3,h4⟩:=h2.resolve_left h0;obtain⟨nc,hnc⟩:∃nc,cs.length=nc:=⟨_,rfl⟩
    have hnc0:nc≠0:=by rw[←hnc];intro e;exact h0 (List.eq_nil_of_length_eq_zero e)
    have f1:((nc:Int)==0)=false:=by rw[beq_eq_false_iff_ne];omega
    have f2:(nc==0)=false:=by rw[beq_eq_false_iff_ne];exact hnc0
    rw[hnc];rw[HD.out] at h3 h4;have f3:decide (0<D)=true:=zdt h3;have f4:(D !=deep)=true:=by simp;exact h4
    have q2:=P5.out.o2;clear h0 h2 h3 h4 hnc hnc0
    go_upto_region 10 with fail
    go_wp2_with (first
     | (refine z0g rfl BLT (.tmp 71) (.const (.bool true)) rfl g5 3 (.bool true) (ov L U D false) ROT (z0r _) (by rfl) (by rfl) P5.out (by show 3<4;decide) ?_;intro wb hkb htb;have J5:Hid (Blk wb g5 ROT (ov L U D true)):=hkb;have J10:=zh (P10.out.turn htb N510.out);have JT:=zh (PT.out.mine htb Z5.out);clear hkb htb)
     | (show wpList _ _ _ (⟨some 72,_,_,_,_,_⟩::_) _ _;refine z0c rfl ROT (.tmp 5) rfl g5 0 (ov L U D true) (by rfl) z0d J5.out.at (z0a _ _ _ _) ?_)
     | (refine z0b rfl ROT (.tmp 10) (.tmp 72) rfl g10 (ov L U D true) _ ROT (by rfl) (by rfl) z0d J10.out (z0a _ _ _ _) (z0a _ _ _ _) (oT L HLs.out _ _) ?_;intro w9 hk9 ht9 hs9))
    refine bodyPost_ret (v:=.agg (ov L U D true)) ?_ rfl ?_
    ·exact z05 z0d rfl _ _ g10 _ (by rfl) hk9 (z0a _ _ _ _)
    ·exact⟨.inl ⟨HN.out,L,D,HLs.out,rfl⟩,JT.out.mine ht9 Z10.out⟩
end Go.Proofs.YtdgladhfibfdlaaGreatDoor
