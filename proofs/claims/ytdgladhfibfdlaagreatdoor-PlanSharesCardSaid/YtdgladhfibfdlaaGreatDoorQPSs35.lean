/-
  Steps.
-/
import Derived.Test.YtdgladhfibfdlaaGreatDoorQPSs34
namespace Go.Proofs.YtdgladhfibfdlaaGreatDoor
open Go Go.RowKit Go.Proofs.Tryz
set_option maxRecDepth 100000
theorem I0:z72 RSP 3:=⟨⟨_,underlying119,rfl⟩,by kernel_rfl⟩
theorem z5s (s:Sp)(k:ByteArray)(w:World)(hk:k.size≤1000000):Calls prog 86 #[.agg (spc s),.string k] w fun e w'=>e=.returned (.bool (xR s k))∧zB w w':=z59 s k w hk
theorem Kw {w:World}{C nc cu gc oc:Nat}{cs:List Ce}(h:w.ownsRow C RCT 4 (.slice (some ⟨gc,oc,none⟩) nc cu) cs.length (cvs cs))(k:Nat)(hk:k<cs.length):CAt w gc (oc+k*4) (ca cs k):=by
 obtain⟨a,c,e,hs,_⟩:=O9 h;obtain⟨g,o,rfl,hc⟩:=hs (by omega);injection e with e1 e2 e3
 injection e1 with e1
 injection e1 with e1 e4 e5
 subst e1 e4;exact hc k hk
structure LfR (P:List (List Nat)) (n f nc:Nat) (s:Sp) (cs:List Ce) (R:Option RO) (k:Nat) (x:RO) (bd:Bool):Prop where
 go:bd=false→Ku P f s (cs.drop k) x=R∧Vj x.u n≤f
 no:bd=true→R=none
 few:x.l.length≤990000+k
structure LfV (P:List (List Nat)) (n f:Nat) (s:Sp) (cs:List Ce) (R:Option RO) (k:Nat) (x:RO) (bd:Bool) (vs:ByteArray):Prop where
 yes:bd=false→xR s (ca cs k).k=true→Ku P f s (cs.drop (k+1)) ⟨x.l++[⟨(ca cs k).k,vs,[]⟩],x.u,x.d⟩=R
 not:bd=false→xR s (ca cs k).k=false→R=none
 fr:bd=false→Vj x.u n≤f
 no:bd=true→R=none
 few:x.l.length≤990000+k
theorem z7v {w:World}{g gu j n:Nat}{u:Nat→Bool}{s:ByteArray}(h:w.cell? ⟨g,j,none⟩=some (.string s))(hb:Blk w gu BLT (yl n u)):g≠gu:=fun e=>by
 subst e;rw[hb.cell] at h;unfold yl at h;simp at h
structure LfM (B gu n:Nat) (w wr:World) (g5 g8 g10 C:Nat) (s:Sp) (deep:Int) (U L:Value) (x:RO) (b1:Bool) (cs:List Ce) (u:Value):Prop where
 b5:Blk wr g5 ROT (ov L U deep false)
 b8:Blk wr g8 RSP (spc s)
 b10:Blk wr g10 ROT (ov Z0 Z0 0 false)
 bu:b1=false→Blk wr gu BLT (yl n x.u)
 ow:wr.ownsRow B RET 2 L x.l.length (Y9.row x.l)
 oc:wr.ownsRow C RCT 4 u cs.length (cvs cs)
 kt:KT B gu w wr
 dp:x.d=deep
section
variable {B gu n:Nat} {w a b:World} {g5 g8 g10 gx C:Nat} {s:Sp} {deep:Int} {U L:Value} {x x1:RO} {b1:Bool} {cs:List Ce} {u:Value}
theorem LfI.midNo (h:LfI B gu n w a g5 g8 g10 C s deep U L x false cs u)(t:Zx (fun y=>y=gu) a b):LfM B gu n w b g5 g8 g10 C s deep U L x true cs u:=by
 obtain⟨h1,h2,h3,h4,h5,h6⟩:=h.guNo t;exact⟨h1,h2,h3,(fun e=>by cases e),h4,h5,h6,h.dp⟩
theorem LfI.midYes (h:LfI B gu n w a g5 g8 g10 C s deep U L x false cs u)(t:Zx (fun y=>y=gu) a b)(hu:Blk b gu BLT (yl n x1.u))(hl:x1.l=x.l)(hd:x1.d=x.d):LfM B gu n w b g5 g8 g10 C s deep U L x1 false cs u:=by
 have k:=h.gu t hu hl hd;exact⟨k.b5,k.b8,k.b10,k.bu,k.ow,k.oc,k.kt,k.dp⟩
theorem LfM.ext (h:LfM B gu n w a g5 g8 g10 C s deep U L x b1 cs u)(e:Ext a b):LfM B gu n w b g5 g8 g10 C s deep U L x b1 cs u:=
 ⟨h.b5.ext e,h.b8.ext e,h.b10.ext e,fun hb=>(h.bu hb).ext e,X3 h.ow e,X3 h.oc e,h.kt.ext e,h.dp⟩
theorem LfM.own17 (h:LfM B gu n w a g5 g8 g10 C s deep U L x b1 cs u){ds:Array Value}(t:Zx (fun y=>y=gx) a b)(hx:Blk a gx ROT ds)(hz:w.heap.size≤gx)(n5:g5≠gx)(n10:g10≠gx):LfM B gu n w b g5 g8 g10 C s deep U L x b1 cs u:=
 ⟨h.b5.turn t n5,h.b8.turn t (h.b8.ne hx (by decide)),h.b10.turn t n10,fun hb=>(h.bu hb).turn t (fun e=>(hx.ne (h.bu hb) (by decide)) e.symm),Yw h.ow t hx (by decide),Xw h.oc t hx (by decide),h.kt.mine t hz,h.dp⟩
theorem LfM.put (h:LfM B gu n w a g5 g8 g10 C s deep U L x b1 cs u)(t:Zx (fun y=>y=g5) a b)(hk:Blk b g5 ROT (ov L U deep b1))(n8:g8≠g5)(n10:g10≠g5)(hz:w.heap.size≤g5):LfI B gu n w b g5 g8 g10 C s deep U L x b1 cs u:=
 ⟨hk,h.b8.turn t n8,h.b10.turn t n10,fun hb=>(h.bu hb).turn t (fun e=>(h.b5.ne (h.bu hb) (by decide)) e.symm),Yw h.ow t h.b5 (by decide),Xw h.oc t h.b5 (by decide),h.kt.mine t hz,h.dp⟩
end
theorem I1 {w:World}{B T sz n g o m c b:Nat}{xs:List Value}{t:TypeId}{cs:Array Value}(h:w.ownsRow B T sz (.slice (some ⟨g,o,none⟩) m c) n xs)(hb:Blk w b t cs)(ht:t≠T):g≠b:=fun e=>by
 subst e
 rcases h.2 with ⟨h1,_⟩|⟨g2,cap,cur,e,_,hg,_⟩
 ·cases h1
 ·cases e
  have h1:w.heap[g]? =some (.cells cs t (0,0)):=hb;rw[h1] at hg
  cases hg
  exact ht rfl
theorem LfI.flag {B gu n:Nat}{w a b:World}{g5 g8 g10 C:Nat}{s:Sp}{deep:Int}{U L:Value}{x:RO}{bd bd1:Bool}{cs:List Ce}{u:Value}(h:LfI B gu n w a g5 g8 g10 C s deep U L x bd cs u)(t:Zx (fun y=>y=g5) a b)(hk:Blk b g5 ROT (ov L U deep bd1))(hi:bd1=false→bd=false)(n8:g8≠g5)(n10:g10≠g5)(hz:w.heap.size≤g5):LfI B gu n w b g5 g8 g10 C s deep U L x bd1 cs u:=
 h.put t hk (fun e=>(h.bu (hi e)).turn t (fun e2=>(h.b5.ne (h.bu (hi e)) (by decide)) e2.symm)) (Yw h.ow t h.b5 (by decide)) n8 n10 hz h.dp
theorem x0c {w:World}{B C T T2 sz sz2 n n2 g o m c:Nat}{xs ys:List Value}{v:Value}(h:w.ownsRow C T sz (.slice (some ⟨g,o,none⟩) m c) n xs)(k:w.ownsRow B T2 sz2 v n2 ys)(ht:T≠T2):v.ownBlock≠some g:=fun e=>by
 rcases h.2 with ⟨h1,_⟩|⟨g2,cap,cur,e1,_,hg,_⟩
 ·cases h1
 ·cases e1
  rcases k.2 with ⟨rfl,_⟩|⟨g3,cap3,cur3,rfl,_,hg3,_⟩
  ·cases e
  ·cases e
   rw[hg3] at hg
   cases hg
   exact ht rfl
theorem D0 {w:World}{B T sz n b:Nat}{xs:List Value}{v:Value}{t:TypeId}{cs:Array Value}(h:w.ownsRow B T sz v n xs)(hb:Blk w b t cs)(ht:t≠T):v.ownBlock≠some b:=fun e=>by
 rcases h.2 with ⟨rfl,_⟩|⟨g2,cap,cur,rfl,_,hg,_⟩
 ·cases e
 ·cases e
  have h1:w.heap[g2]? =some (.cells cs t (0,0)):=hb;rw[h1] at hg
  cases hg
  exact ht rfl
theorem y2n {w w':World}{B T sz n:Nat}{v:Value}{xs:List Value}{F:Nat→Prop}(h:w.ownsRow B T sz v n xs)(t:Zx F w w')(hF:∀x cs fz,w.heap[x]? =some (.cells cs T fz)→¬F x):w'.ownsRow B T sz v n xs:=by
 refine⟨h.1,?_⟩
 rcases h.2 with h1|⟨g,cap,cur,rfl,hB,hg,r⟩
 ·exact .inl h1
 ·exact .inr ⟨g,cap,cur,rfl,hB,t.hg hg (hF g _ _ hg),r⟩
theorem LfI.grow {B gu n:Nat}{w a b c:World}{g5 g8 g10 C:Nat}{s:Sp}{deep:Int}{U L L1:Value}{x x1:RO}{bd:Bool}{cs:List Ce}{u:Value}(h:LfI B gu n w a g5 g8 g10 C s deep U L x bd cs u)(t1:Zx (fun z=>L.ownBlock=some z) a b)(t2:Zx (fun y=>y=g5) b c)(h5:Blk c g5 ROT (ov L1 U deep bd))
  (how:b.ownsRow B RET 2 L1 x1.l.length (Y9.row x1.l)) (hu:x1.u=x.u) (hd:x1.d=x.d) (n8:g8≠g5) (n10:g10≠g5) (hz:w.heap.size≤g5):LfI B gu n w c g5 g8 g10 C s deep U L1 x1 bd cs u:=by
 have k5:Blk b g5 ROT (ov L U deep bd):=h.b5.turn t1 (D0 h.ow h.b5 (by decide));have koc:=y2n h.oc t1 (fun x ds fz hx e=>by
  rcases h.ow.2 with ⟨rfl,_⟩|⟨g3,cap3,cur3,rfl,_,hg3,_⟩
  ·cases e
  ·cases e
   rw[hg3] at hx
   cases hx)
 exact⟨h5,(h.b8.turn t1 (D0 h.ow h.b8 (by decide))).turn t2 n8,(h.b10.turn t1 (D0 h.ow h.b10 (by decide))).turn t2 n10,
  fun e=>by rw[hu];exact((h.bu e).turn t1 (D0 h.ow (h.bu e) (by decide))).turn t2 (fun e2=>(h.b5.ne (h.bu e) (by decide)) e2.symm),
  Yw how t2 k5 (by decide),Xw koc t2 k5 (by decide),(h.kt.row h.ow t1).mine t2 hz,hd.trans h.dp⟩
theorem z7w (k v:ByteArray)(w:World):(Instr.build RET #[(0,.string k),(1,.string v)]).run prog w=.ok (.agg #[.string k,.string v]) w:=by kernel_rfl
theorem z7x (k v:ByteArray)(w:World):(Instr.buildSlice My 1 #[(0,.agg #[.string k,.string v])]).run prog w=.ok (.slice (some ⟨w.heap.size,0,none⟩) 1 1) (w.alloc (.cells #[.string k,.string v] RET)):=by kernel_rfl
theorem y6f (k v:ByteArray)(w:World):ES Y9 (w.alloc (.cells #[.string k,.string v] RET)) (some ⟨w.heap.size,0,none⟩) [⟨k,v,[]⟩]:=ES.lit (E:=Y9) (l:=[⟨k,v,[]⟩]) (heap_alloc_new w (.cells #[.string k,.string v] RET)) rfl
theorem z1f (a:Option Addr)(n c:Nat):Dw My (.slice a n c):=fun w g k u hc hf=>by go_simp
section
variable {o:Oper} {a:Act} {w:World} {K:Act→World→Prop} {Q:Exit→Act→World→Prop}
theorem z1g (x y:Operand)(ho:o.op=.build RET #[(0,x),(1,y)])(k v:ByteArray)(hx:a.eval x=.string k)(hy:a.eval y=.string v):(execOp a.eval o).run prog w=.ok (.value (.agg #[.string k,.string v])) w:=by
 unfold execOp;simp only[ho,List.map_toArray,List.map_cons,List.map_nil,hx,hy,Sem.run_bind,Sem.run_pure,Result.andThen_ok,z7w]
theorem ZA (x:Operand)(ho:o.op=.buildSlice My 1 #[(0,x)])(k v:ByteArray)(hx:a.eval x=.agg #[.string k,.string v])
  (h:∀g w',g=w.heap.size→ES Y9 w' (some ⟨g,0,none⟩) [⟨k,v,[]⟩]→Ext w w'→K (a.put o.dst (.slice (some ⟨g,0,none⟩) 1 1)) w'):o.wp prog a w K Q:=by
 have hk:=h _ _ rfl (y6f k v w) ((zbr _ _).alloc (zlr _) _);unfold Oper.wp execOp;simp only[ho,List.map_toArray,List.map_cons,List.map_nil,hx,Sem.run_bind,Sem.run_pure,Result.andThen_ok,z7x];exact hk
end
structure LfX (P:List (List Nat)) (n f:Nat) (s:Sp) (cs:List Ce) (R:Option RO) (k:Nat) (x:RO) (bd:Bool) (vs:ByteArray):Prop where
 yes:bd=false→Ku P f s (cs.drop (k+1)) ⟨x.l++[⟨(ca cs k).k,vs,[]⟩],x.u,x.d⟩=R∧Vj x.u n≤f
 no:bd=true→R=none
 few:x.l.length≤990000+k
theorem x4e {P:List (List Nat)}{n f:Nat}{s:Sp}{cs:List Ce}{R:Option RO}{k:Nat}{y:RO}{vs:ByteArray}(hR:R=none)(hf:y.l.length≤990000+k):LfV P n f s cs R k y true vs:=
 ⟨(fun e=>by cases e),(fun e=>by cases e),(fun e=>by cases e),fun _=>hR,hf⟩
theorem x34 {P:List (List Nat)}{n f:Nat}{s:Sp}{cs:List Ce}{R:Option RO}{k:Nat}{y:RO}{vs:ByteArray}(h:(if xR s (ca cs k).k=true then Ku P f s (cs.drop (k+1)) ⟨y.l++[⟨(ca cs k).k,vs,[]⟩],y.u,y.d⟩ else none)=R)(hr:Vj y.u n≤f)(hf:y.l.length≤990000+k):LfV P n f s cs R k y false vs:=
 ⟨(fun _ e=>by rw[if_pos e] at h;exact h),(fun _ e=>by rw[if_neg (by rw[e];decide)] at h;exact h.symm),fun _=>hr,(fun e=>by cases e),hf⟩
set_option maxHeartbeats 8000000 in
theorem z7y (P:List (List Nat))(a:Option Addr)(c:Nat)(o:RO)(L:Value)(B gu:Nat)(page:Int)(s:Sp)(deep:Int)(f:Nat)(w0 w:World)(hI:NIn P a w0 w B gu o L)(o1:RO)(b:List Nat)(cs:List Ce)(ho:T9 P o page=some (o1,1,b))(hth:¬(1<deep∧b.length<126))(hc:L9 b=some cs)(hcs:cs≠[])(hdd:¬(0<o.d∧o.d≠deep))(hfr:Vj o.u P.length≤f+1):
  Calls prog 55 #[.agg (ov L (uv gu P.length) o.d false),.slice a P.length c,.int .i64 page,.agg (spc s),.int .i64 deep] w fun e w'=>L0 P B gu w (Xy P (f+1) o page s deep) e w':=by
 obtain⟨R,hR⟩:∃R,Xy P (f+1) o page s deep=R:=⟨_,rfl⟩
 obtain⟨hf1,hl1,hd1⟩:=Sz P ho;have hR1:Ku P f s cs ⟨o1.l,o1.u,deep⟩=R:=by
  rw[←hR,JP ho hth hc,if_neg];rw[hd1];intro h
  rcases h with h|h
  ·exact hcs h
  ·exact hdd h
 have HR1:=zh hR1;have hbl:b.length≤504:=by obtain⟨_,_,_,_,_,_,rfl⟩:=Rk P ho;exact XE _
 have Hbl:=zh hbl;have hncs:=z42 hc;have Hmay:=zh (fun i hi=>y6e hc i hi);obtain⟨e1,e2⟩:=yM hc;have HDd:=zh hdd;have Hl1:=zh hl1;have Hf1:Hid (Vj o1.u P.length≤f):=by show _≤_;omega
 have Hfew0:=zh hI.few;have Hcs:Hid (0<cs.length):=List.length_pos_iff.2 hcs;have HPg:=zh hI.pg;have Hgu0:=zh hI.gu0;rw[hR];have HO:=zh ho;clear ho hR hbl hR1 hf1 hl1 hd1 hc hcs hdd hfr;unfold L0;obtain⟨n,hn⟩:∃n,P.length=n:=⟨_,rfl⟩
 have HI:=zh hI;have Hn:=zh hn;have oT:=fun(M:Value) (hM:IsS M) (d:Int) b=>Jj hM gu n d b
 have HLs:Hid (IsS L):=Xk hI.own;have C0:=zh (fun(wx:World) (h1:zB w0 wx) (h2:Blk wx gu BLT (yl P.length o.u)) h3=>Ov P a c o L (Xk hI.own) gu page w0 wx h1 hI.pg h2 hI.gu0 h3);have C1:=zh (fun(wx:World) (h1:zB w0 wx) (h2:Blk wx gu BLT (yl P.length o.u)) o1 k b h3=>Qx P a c o L (Xk hI.own) gu page w0 wx h1 hI.pg h2 hI.gu0 o1 k b h3);have HU0:=zh hI.use;rw[hn] at C0 C1 HU0⊢
 obtain⟨U,hUv⟩:∃U,uv gu n=U:=⟨_,rfl⟩
 rw[hUv] at oT C0 C1⊢
 have HUv:=zh hUv;have HUs:Hid (IsS U):=by show IsS U;rw[←hUv];exact⟨_,_,_,rfl⟩
 obtain⟨D,hD⟩:∃D,o.d=D:=⟨_,rfl⟩
 rw[hD] at C0 C1⊢
 have HD:=zh hD;clear hI hn hUv hD;rw[Hn.out] at Hf1;have CV:Hid (∀(y:RO) (M:Value) (q lg:Int) (wx:World),IsS M→zB w0 wx→Blk wx gu BLT (yl n y.u)→Vj y.u n≤f→lg≤100000→y.d=deep→
   Calls prog 85 #[.agg (ov M U deep false),.slice a n c,.int .i64 q,.int .i64 lg] wx fun e w'=>
    (
     (Ix P f y ByteArray.empty q lg=none∧∃sv,e=.returned (.tuple #[.agg (ov M U deep true),.string sv]))∨
     (∃y1 v,Ix P f y ByteArray.empty q lg=some (y1,v)∧e=.returned (.tuple #[.agg (ov M U deep false),.string v])∧Blk w' gu BLT (yl n y1.u)))∧Zx (fun z=>z=gu) wx w'):=fun y M q lg wx hM hb hu hfr hlg hyd=>by
  have h:=z7p P a c y M hM gu q lg f w0 wx hb HPg.out (by rw[Hn.out];exact hu) Hgu0.out (by rw[Hn.out];exact hfr) hlg;rw[Hn.out,HUv.out,hyd] at h;exact h
 go_enter func55,ntmps55
 go_wp2_with (first
  | (refine Zw rfl ROT (.tmp 0) rfl (ov L U D false) (by rfl) ?_;intro g5 w1 hg5 hk5 hb5)
  | (refine Zw rfl RSP (.tmp 3) rfl (spc s) (by rfl) ?_;intro g8 w2 hg8 hk8 hb8)
  | (show wpList _ _ _ (⟨some 10,_,_,_,_,_⟩::_) _ _;refine Zv rfl ROT rfl Vx ?_;intro g10 w3 hg10 hk10 hb10;have bx:Ext w w3:=hb5.trans ((hb8.mono hb5.size).trans (hb10.mono (znt hb5.size hb8.size)));have K5:=zh ((hk5.ext hb8).ext hb10);have K8:=zh (hk8.ext hb10);have K10:=zh hk10;have KU:=zh (HU0.out.ext bx);have KL:=zh (X3 HI.out.own bx);have KW:Hid (KT B gu w w3):=x3y bx;have B3:Hid (zB w0 w3):=HI.out.hb0.trans (Below.mono bx HI.out.hb0.size);have N58:Hid (g8≠g5):=(by show _≠_;have:=hk5.lt;omega);have N510:Hid (g10≠g5):=(by show _≠_;have h1:=hk5.lt;have h2:=hb8.size;omega);have Z5:Hid (w.heap.size≤g5):=hg5;have Z10:Hid (w.heap.size≤g10):=(by show _≤_;have h1:=hb5.size;have h2:=hb8.size;omega);clear hg5 hk5 hb5 hg8 hk8 hb8 hg10 hk10 hb10 bx)
  | (show wpList _ _ _ (⟨some 24,_,_,_,_,_⟩::_) _ _;refine Zj rfl ROT (.tmp 5) rfl g5 0 (ov L U D false) (by rfl) Zk K5.out.at (Zq _ _ _ _) ?_))
 refine(C1.out w3 B3.out KU.out _ _ _ HO.out).mono ?_;rintro e w4 ⟨vl,rfl,hsv,hb8',hku,ht⟩;have M5:=zh (K5.out.turn ht (K5.out.ne KU.out (by decide)));have M8:=zh (K8.out.turn ht (K8.out.ne KU.out (by decide)));have M10:=zh (K10.out.turn ht (K10.out.ne KU.out (by decide)));have ML:=zh (Yw KL.out ht KU.out (by decide));have MU:=zh hku;have MS:=zh hsv;have HB8:=zh hb8';have MT:=zh (KW.out.gu ht);clear ht hku hsv hb8' C0 C1 K5 K8 K10 KU KL KW B3
 go_upto_region 2 with (first
  | (refine Zz rfl ROT (.tmp 5) (.tmp 28) rfl g5 (ov L U D false) _ ROT (by rfl) (by rfl) Zk M5.out (Zq _ _ _ _) (Zq _ _ _ _) (oT L HLs.out _ _) ?_;intro w5 hk ht5 hs5;have P5:=zh hk;have P8:=zh (M8.out.turn ht5 N58.out);have P10:=zh (M10.out.turn ht5 N510.out);have PU:=zh (MU.out.turn ht5 (fun e=>(M5.out.ne MU.out (by decide)) e.symm));have PL:=zh (Yw ML.out ht5 M5.out (by decide));have PT:=zh (MT.out.mine ht5 Z5.out);have PS:=zh (MS.out.turn ht5 (Qq M5.out HLs.out HUs.out));have q3:=hk.o3;have q2:=hk.o2;clear hk ht5 hs5 M5 M8 M10 MU ML MT MS))
 obtain⟨av,cv,rfl,hsl⟩:∃av cv,vl=.slice av b.length cv∧True:=by obtain⟨x,y,hx,_⟩:=PS.out.arg;exact⟨x,y,hx,trivial⟩
 obtain⟨m,hm⟩:∃m,b.length=m:=⟨_,rfl⟩
 rw[hm] at hth;have Hm:=zh hm;have Pv:=PS;rw[hm] at Pv⊢
 clear hsl hm
 go_cut [41] (fun s41 wx=>s41=.bool false∧w5=wx)
 case first=>
  by_cases hd1:1<deep
  ·have d1:decide ((1:Int)<deep)=true:=zdt hd1;have d2:decide ((m:Int)<126)=false:=zdf (by omega);have d3:decide (m<126)=false:=zdf (by omega);clear hth hd1;go_wp2;go_meet;exact⟨rfl,by first|trivial|rfl⟩
  ·have d1:decide ((1:Int)<deep)=false:=zdf hd1;clear hth hd1;go_wp2;go_meet;exact⟨rfl,by first|trivial|rfl⟩
 case rest=>
  obtain⟨rfl,rfl⟩:=hcut;clear hth;have CL:=Du _ b w5 Pv.out HB8.out Hbl.out;rw[e2,e1] at CL;go_wp2_with fail;refine CL.mono ?_;rintro e w6 ⟨u,rfl,hoc,hb⟩;replace P5:=zh (P5.out.ext hb);replace P8:=zh (P8.out.ext hb);replace P10:=zh (P10.out.ext hb);replace PU:=zh (PU.out.ext hb);replace PL:=zh (X3 PL.out hb);replace PT:=zh (PT.out.ext hb);obtain⟨au,cu,rfl,hsrc,_⟩:=O9 hoc;obtain⟨gc,oc,rfl,_⟩:=hsrc Hcs.out;obtain⟨nc,hnc⟩:∃nc,cs.length=nc:=⟨_,rfl⟩
  have Hnc:=zh hnc;have hnc0:0<nc:=by have:=Hcs.out;omega
  rw[hnc] at hncs;have OC:Hid (w6.ownsRow w5.heap.size RCT 4 (.slice (some ⟨gc,oc,none⟩) nc cu) cs.length (cvs cs)):=by rw[←hnc];exact hoc
  rw[hnc];obtain⟨C,hC⟩:∃C,w5.heap.size=C:=⟨_,rfl⟩
  rw[hC] at OC;clear hb hoc q2 q3 PS Pv CL hsrc hnc hC e1 e2;have q2:=P5.out.o2
  go_upto_region 9 with fail
  go_cut [70] (fun s70 wx=>s70=.bool false∧w6=wx)
  case first=>as_aux_lemma=>
   have f1:((nc:Int)==0)=false:=by rw[beq_eq_false_iff_ne];omega
   have f2:(nc==0)=false:=by rw[beq_eq_false_iff_ne];omega
   by_cases h0:0<D
   ·have f3:decide (0<D)=true:=zdt h0;have f4:(D !=deep)=false:=by
     have:=HDd.out;rw[HD.out] at this;have:D=deep:=Classical.byContradiction fun h=>this ⟨h0,h⟩
     rw[this];simp
    clear h0;go_wp2;go_meet;exact⟨rfl,by first|trivial|rfl⟩
   ·have f3:decide (0<D)=false:=zdf h0;clear h0;go_wp2;go_meet;exact⟨rfl,by first|trivial|rfl⟩
  case rest=>
   obtain⟨rfl,rfl⟩:=hcut;clear q2
   go_upto_region 12 with fail
   go_wp2_with (refine Zu rfl 3 (.tmp 74) (.tmp 73) rfl g5 2 (.int .i64 deep) (ov L U D false) ROT (y50 _) (by rfl) (by rfl) P5.out (by show 2<4;decide) ?_;intro w7 hk7 ht7)
   have HI0:Hid (LfI B gu n w w7 g5 g8 g10 C s deep U L ⟨o1.l,o1.u,deep⟩ false cs (.slice (some ⟨gc,oc,none⟩) nc cu)):=
    ⟨hk7,P8.out.turn ht7 N58.out,P10.out.turn ht7 N510.out,fun _=>PU.out.turn ht7 (fun e=>(P5.out.ne PU.out (by decide)) e.symm),by show w7.ownsRow B RET 2 L o1.l.length (Y9.row o1.l);rw[Hl1.out];exact Yw PL.out ht7 P5.out (by decide),Xw OC.out ht7 P5.out (by decide),PT.out.mine ht7 Z5.out,rfl⟩
   have HR0:Hid (LfR P n f nc s cs R 0 ⟨o1.l,o1.u,deep⟩ false):=⟨fun _=>⟨by rw[List.drop_zero];exact HR1.out,Hf1.out⟩,(fun h=>by cases h),by show o1.l.length≤_;rw[Hl1.out];have:=Hfew0.out;omega⟩
   clear hk7 ht7 P5 P8 P10 PU PL PT OC
   go_loopw [15,16,17,18] (fun i _ _ _ wr=>∃(k:Nat) (M:Value) (y:RO) (bd:Bool),i=.int .i64 k∧k≤nc∧Hid (LfI B gu n w wr g5 g8 g10 C s deep U M y bd cs (.slice (some ⟨gc,oc,none⟩) nc cu))∧Hid (LfR P n f nc s cs R k y bd)) (fun i _ _ _ _=>nc-(intOf i).toNat)
   case atStart=>exact⟨0,L,⟨o1.l,o1.u,deep⟩,false,rfl,by omega,HI0,HR0⟩
   case round=>
    clear HI0 HR0;obtain⟨k,M,y,bd,rfl,hk,HLf,HRf⟩:=hrel;have q3:=HLf.out.b5.o3;have HMs:Hid (IsS M):=Xk HLf.out.ow
    cases bd with
    | true=>
     have HN:Hid (R=none):=HRf.out.no rfl
     by_cases hlt:k<nc
     ·have i1:decide ((k:Int)<(nc:Int))=true:=zdt (by omega);have i2:decide (k<nc)=true:=zdt (by omega);have K5:=zh HLf.out.b5;have K10:=zh HLf.out.b10;clear hlt
      go_upto_region 39 with fail
      go_wp2_with (first
       | (show wpList _ _ _ (⟨some 213,_,_,_,_,_⟩::_) _ _;refine Zj rfl ROT (.tmp 5) rfl g5 0 (ov M U deep true) (by rfl) Zk K5.out.at (Zq _ _ _ _) ?_)
       | (refine Zz rfl ROT (.tmp 10) (.tmp 213) rfl g10 (ov M U deep true) _ ROT (by rfl) (by rfl) Zk K10.out (Zq _ _ _ _) (Zq _ _ _ _) (oT M HMs.out _ _) ?_;intro w9 hk9 ht9 hs9))
      refine bodyPost_ret (v:=.agg (ov M U deep true)) ?_ rfl ?_
      ·exact Xj Zk rfl _ _ g10 _ (by rfl) hk9 (Zq _ _ _ _)
      ·exact⟨.inl ⟨HN.out,M,deep,HMs.out,rfl⟩,HLf.out.kt.mine ht9 Z10.out⟩
     ·have i1:decide ((k:Int)<(nc:Int))=false:=zdf (by omega);have i2:decide (k<nc)=false:=zdf (by omega);have K5:=zh HLf.out.b5;have K10:=zh HLf.out.b10;clear hlt
      go_upto_region 39 with fail
      go_wp2_with (first
       | (show wpList _ _ _ (⟨some 213,_,_,_,_,_⟩::_) _ _;refine Zj rfl ROT (.tmp 5) rfl g5 0 (ov M U deep true) (by rfl) Zk K5.out.at (Zq _ _ _ _) ?_)
       | (refine Zz rfl ROT (.tmp 10) (.tmp 213) rfl g10 (ov M U deep true) _ ROT (by rfl) (by rfl) Zk K10.out (Zq _ _ _ _) (Zq _ _ _ _) (oT M HMs.out _ _) ?_;intro w9 hk9 ht9 hs9))
      refine bodyPost_ret (v:=.agg (ov M U deep true)) ?_ rfl ?_
      ·exact Xj Zk rfl _ _ g10 _ (by rfl) hk9 (Zq _ _ _ _)
      ·exact⟨.inl ⟨HN.out,M,deep,HMs.out,rfl⟩,HLf.out.kt.mine ht9 Z10.out⟩
    | false=>
     by_cases hlt:k<nc
     ·have i1:(k:Int)<(nc:Int):=by omega
      have hk2:k<cs.length:=by rw[Hnc.out];exact hlt
      have hcat:=Kw HLf.out.oc k hk2;have hmay:=Hmay.out k hk2;have hst:=z7u P f s cs k y hk2;rw[(HRf.out.go rfl).1] at hst;have hyf:=(HRf.out.go rfl).2;have hfw:=HRf.out.few;obtain⟨cc,hcc⟩:∃cc,ca cs k=cc:=⟨_,rfl⟩
      have Hcc:=zh hcc;rw[hcc] at hcat hmay hst;have q0:=hcat.c0;have q1:=hcat.c1;have q2:=hcat.c2;have q4:=hcat.c3;have hky:=z9i hmay;have hn48:=z9h hmay;obtain⟨KY,VL,LN,PG⟩:=cc;dsimp only at q0 q1 q2 q4 hst hky hn48;have Hst:=zh hst;have Hyf:=zh hyf;have Hfw:=zh hfw;clear hcat hmay hst hyf hfw hcc
      go_upto_if 96 with fail
      go_cut [16,17,18] (fun s16 _ _ wx=>∃(vs:ByteArray) (y1:RO) (b1:Bool),s16=.string vs∧Hid (LfI B gu n w wx g5 g8 g10 C s deep U M y1 b1 cs (.slice (some ⟨gc,oc,none⟩) nc cu))∧Hid (LfV P n f s cs R k y1 b1 vs))
      case first=>as_aux_lemma=>
       by_cases hln:64<LN
       ·have e1:decide (64<LN)=true:=zdt hln;rw[if_pos hln] at Hst;rw[e1];clear hln q3;have q1:True:=trivial;go_wp2_with fail;refine rgs (F:=fun z=>z=gu∨wr.heap.size≤z) (.rd 0 (.rd 1 (.rd 2 (.rd 3 (.rd 4 (.rd 5 (.rd 6 (.rd 7 (.rd 8 (.rd 9 (.rd 10 (.rd 11 (.two 12 (.rd 13 (.rd 14 (.rd 15 (.call 16 (.call 17 (.rd 18 .done)))))) 16 (.call 12 (.rd 13 (.rd 14 (.rd 15 (.call 17 (.rd 18 .done))))))))))))))))))) (h:= ?_);have HLd:=zh (HLf.out.ext (Ext.drew wr));have hcat:=Kw HLd.out.oc k hk2;rw[Hcc.out] at hcat;have hsz:wr.heap.size=wr.drew.heap.size:=rfl;rw[hsz];generalize wr.drew=ud at*;clear hsz;have n5:¬(g5=gu∨ud.heap.size≤g5):=fun h=>by
         rcases h with h|h
         ·exact(HLd.out.b5.ne (HLd.out.bu rfl) (by decide)) h
         ·have:=HLd.out.b5.lt;omega
        have nC:¬(gc=gu∨ud.heap.size≤gc):=fun h=>by
         rcases h with h|h
         ·exact z7v hcat.c0 (HLd.out.bu rfl) h
         ·have:=hcat.lt;omega
        have r5:∀w',Zx (fun z=>z=gu∨ud.heap.size≤z) ud w'→Blk w' g5 ROT (ov M U deep false):=fun w' ht=>HLd.out.b5.turn ht n5
        have r2:∀w',Zx (fun z=>z=gu∨ud.heap.size≤z) ud w'→w'.cell? ⟨gc,oc+k*4+2,none⟩=some (.int .i64 LN):=fun w' ht=>by rw[ht.cell (p:=⟨gc,oc+k*4+2,none⟩) hcat.lt nC];exact hcat.c2
        have r3:∀w',Zx (fun z=>z=gu∨ud.heap.size≤z) ud w'→w'.cell? ⟨gc,oc+k*4+3,none⟩=some (.int .i64 PG):=fun w' ht=>by rw[ht.cell (p:=⟨gc,oc+k*4+3,none⟩) hcat.lt nC];exact hcat.c3
        refine gsr (v:=.agg (ov M U deep false)) rfl (by rfl) (fun w' hw'=>T0 ROT (.tmp 5) rfl g5 0 (ov M U deep false) (by rfl) Zk (r5 w' hw').at (Zq _ _ _ _)) ?_;simp only[Act.put,zs0,zs1,zs2];iterate 11 (refine gsr (v:= ?_) rfl (by rfl) ?_ ?_;rotate_left;(intro w' hw';go_simp;with_reducible rfl);simp only[Act.put,zs0,zs1,zs2])
        clear r5 r2 r3 q0 q2 q4;have hB:=HLd.out.kt.below (C:=w0.heap.size) HI.out.hb0.size HI.out.B0 HI.out.gu0;have HBd:=zh (HI.out.hb0.trans hB);clear hB;have HV:=zh (fun(wx:World) (e:Ext ud wx)=>CV.out y M PG LN wx HMs.out (HBd.out.trans (Below.mono e HBd.out.size)) ((HLd.out.bu rfl).ext e) Hyf.out (by omega) HLd.out.dp);refine⟨?_,?_⟩
        ·skip
         refine gsc rfl (by rfl) (fun K hK=> ?_);try go_simp
         refine(HV.out ud (Ext.refl _)).mono ?_;rintro e u1 ⟨hres,ht1⟩
         rcases hres with ⟨hno,sv,rfl⟩|⟨y1,sv,hyes,rfl,hbu⟩
         ·skip
          have HM:Hid (LfM B gu n w u1 g5 g8 g10 C s deep U M y true cs (.slice (some ⟨gc,oc,none⟩) nc cu)):=HLd.out.midNo ht1;have HSz:Hid (ud.heap.size≤u1.heap.size):=ht1.size;refine hK _ _ (ht1.mono (fun _ h _=> .inl h)) ?_;clear hK K;rw[hno] at Hst;have HW:Hid (LfV P n f s cs R k y true sv):=x4e Hst.out Hfw.out;clear hno ht1;try simp only[Act.put,zs0,zs1,zs2]
          iterate 3 (refine gsr (v:= ?_) rfl (by rfl) ?_ ?_;rotate_left;(intro w' hw';go_simp;with_reducible rfl);simp only[Act.put,zs0,zs1,zs2])
          refine gsc rfl (by rfl) (fun K hK=> ?_);refine U1 ROT rfl Vx (fun gx w17 g17 k17 e17=> ?_);refine hK _ _ (x3x e17) ?_;clear hK K;replace HM:=zh (HM.out.ext e17);have G17:Hid (ud.heap.size≤gx):=(znt HSz.out g17)
          clear g17 e17 HSz;try simp only[Act.put,zs0,zs1,zs2]
          refine gsc rfl (by rfl) (fun K hK=> ?_);refine U0 ROT (.tmp 17) (.tmp 111) rfl gx (ov M U deep true) _ ROT (by rfl) (by rfl) Zk k17 (Zq _ _ _ _) (Zq _ _ _ _) (oT M HMs.out _ _) (fun w18 k18 t18 _=> ?_);refine hK _ _ (t18.mono (fun i hi _=> .inr (by rw[hi];exact G17.out))) ?_;clear hK K;have K18:=zh k18;replace HM:=zh (HM.out.own17 t18 k17 (znt HLd.out.kt.size G17.out) (by have:=HLd.out.b5.lt;have:=G17.out;omega) (by have:=HLd.out.b10.lt;have:=G17.out;omega));clear k17 k18 t18 G17;try simp only[Act.put]
          (refine gsr (v:= ?_) rfl (by rfl) ?_ ?_;rotate_left;(intro w' hw';go_simp;with_reducible rfl);simp only[Act.put,zs0,zs1,zs2])
          refine Zy ?_
          go_wp2_with (first
           | (show wpList _ _ _ (⟨some 113,_,_,_,_,_⟩::_) _ _;refine Zj rfl ROT (.tmp 17) rfl gx 0 (ov M U deep true) (by rfl) Zk K18.out.at (Zq _ _ _ _) ?_)
           | (refine Zz rfl ROT (.tmp 5) (.tmp 113) rfl g5 (ov M U deep true) _ ROT (by rfl) (by rfl) Zk HM.out.b5 (Zq _ _ _ _) (Zq _ _ _ _) (oT M HMs.out _ _) ?_;intro w9 hk9 ht9 hs9))
          go_meet;exact⟨sv,y,true,rfl,HM.out.put ht9 hk9 N58.out N510.out Z5.out,HW⟩
         ·skip
          have HM:Hid (LfM B gu n w u1 g5 g8 g10 C s deep U M y1 false cs (.slice (some ⟨gc,oc,none⟩) nc cu)):=HLd.out.midYes ht1 hbu (Tv P _ _ _ _ _ _ _ hyes).2.1 (Tv P _ _ _ _ _ _ _ hyes).2.2;have HSz:Hid (ud.heap.size≤u1.heap.size):=ht1.size;refine hK _ _ (ht1.mono (fun _ h _=> .inl h)) ?_;clear hK K;rw[hyes] at Hst;have HW:Hid (LfV P n f s cs R k y1 false sv):=x34 (by rw[Hcc.out];exact Hst.out.symm) (by have:=(Tv P _ _ _ _ _ _ _ hyes).1;rw[Hn.out] at this;exact znt this Hyf.out) (by rw[(Tv P _ _ _ _ _ _ _ hyes).2.1];exact Hfw.out);clear hyes hbu ht1;try simp only[Act.put,zs0,zs1,zs2]
          iterate 3 (refine gsr (v:= ?_) rfl (by rfl) ?_ ?_;rotate_left;(intro w' hw';go_simp;with_reducible rfl);simp only[Act.put,zs0,zs1,zs2])
          refine gsc rfl (by rfl) (fun K hK=> ?_);refine U1 ROT rfl Vx (fun gx w17 g17 k17 e17=> ?_);refine hK _ _ (x3x e17) ?_;clear hK K;replace HM:=zh (HM.out.ext e17);have G17:Hid (ud.heap.size≤gx):=(znt HSz.out g17)
          clear g17 e17 HSz;try simp only[Act.put,zs0,zs1,zs2]
          refine gsc rfl (by rfl) (fun K hK=> ?_);refine U0 ROT (.tmp 17) (.tmp 111) rfl gx (ov M U deep false) _ ROT (by rfl) (by rfl) Zk k17 (Zq _ _ _ _) (Zq _ _ _ _) (oT M HMs.out _ _) (fun w18 k18 t18 _=> ?_);refine hK _ _ (t18.mono (fun i hi _=> .inr (by rw[hi];exact G17.out))) ?_;clear hK K;have K18:=zh k18;replace HM:=zh (HM.out.own17 t18 k17 (znt HLd.out.kt.size G17.out) (by have:=HLd.out.b5.lt;have:=G17.out;omega) (by have:=HLd.out.b10.lt;have:=G17.out;omega));clear k17 k18 t18 G17;try simp only[Act.put]
          (refine gsr (v:= ?_) rfl (by rfl) ?_ ?_;rotate_left;(intro w' hw';go_simp;with_reducible rfl);simp only[Act.put,zs0,zs1,zs2])
          refine Zy ?_
          go_wp2_with (first
           | (show wpList _ _ _ (⟨some 113,_,_,_,_,_⟩::_) _ _;refine Zj rfl ROT (.tmp 17) rfl gx 0 (ov M U deep false) (by rfl) Zk K18.out.at (Zq _ _ _ _) ?_)
           | (refine Zz rfl ROT (.tmp 5) (.tmp 113) rfl g5 (ov M U deep false) _ ROT (by rfl) (by rfl) Zk HM.out.b5 (Zq _ _ _ _) (Zq _ _ _ _) (oT M HMs.out _ _) ?_;intro w9 hk9 ht9 hs9))
          go_meet;exact⟨sv,y1,false,rfl,HM.out.put ht9 hk9 N58.out N510.out Z5.out,HW⟩
        ·skip
         refine gsc rfl (by rfl) (fun K hK=> ?_);refine U1 ROT rfl Vx (fun gx w17 g17 k17 e17=> ?_);refine hK _ _ (x3x e17) ?_;clear hK K;try simp only[Act.put,zs0,zs1,zs2]
         refine gsc rfl (by rfl) (fun K hK=> ?_);try go_simp
         refine(HV.out w17 e17).mono ?_;rintro e u1 ⟨hres,ht1⟩
         rcases hres with ⟨hno,sv,rfl⟩|⟨y1,sv,hyes,rfl,hbu⟩
         ·skip
          have HM:Hid (LfM B gu n w u1 g5 g8 g10 C s deep U M y true cs (.slice (some ⟨gc,oc,none⟩) nc cu)):=(HLd.out.ext e17).midNo ht1;have HSz:Hid (ud.heap.size≤u1.heap.size):=znt e17.size ht1.size;replace k17:=k17.turn ht1 (fun e=>by have:=(HLd.out.bu rfl).lt;omega);refine hK _ _ (ht1.mono (fun _ h _=> .inl h)) ?_;clear hK K;rw[hno] at Hst;have HW:Hid (LfV P n f s cs R k y true sv):=x4e Hst.out Hfw.out;clear hno ht1;try simp only[Act.put,zs0,zs1,zs2]
          iterate 3 (refine gsr (v:= ?_) rfl (by rfl) ?_ ?_;rotate_left;(intro w' hw';go_simp;with_reducible rfl);simp only[Act.put,zs0,zs1,zs2])
          have G17:Hid (ud.heap.size≤gx):=g17;clear g17 e17 HSz;try simp only[Act.put,zs0,zs1,zs2]
          refine gsc rfl (by rfl) (fun K hK=> ?_);refine U0 ROT (.tmp 17) (.tmp 111) rfl gx (ov M U deep true) _ ROT (by rfl) (by rfl) Zk k17 (Zq _ _ _ _) (Zq _ _ _ _) (oT M HMs.out _ _) (fun w18 k18 t18 _=> ?_);refine hK _ _ (t18.mono (fun i hi _=> .inr (by rw[hi];exact G17.out))) ?_;clear hK K;have K18:=zh k18;replace HM:=zh (HM.out.own17 t18 k17 (znt HLd.out.kt.size G17.out) (by have:=HLd.out.b5.lt;have:=G17.out;omega) (by have:=HLd.out.b10.lt;have:=G17.out;omega));clear k17 k18 t18 G17;try simp only[Act.put]
          (refine gsr (v:= ?_) rfl (by rfl) ?_ ?_;rotate_left;(intro w' hw';go_simp;with_reducible rfl);simp only[Act.put,zs0,zs1,zs2])
          refine Zy ?_
          go_wp2_with (first
           | (show wpList _ _ _ (⟨some 113,_,_,_,_,_⟩::_) _ _;refine Zj rfl ROT (.tmp 17) rfl gx 0 (ov M U deep true) (by rfl) Zk K18.out.at (Zq _ _ _ _) ?_)
           | (refine Zz rfl ROT (.tmp 5) (.tmp 113) rfl g5 (ov M U deep true) _ ROT (by rfl) (by rfl) Zk HM.out.b5 (Zq _ _ _ _) (Zq _ _ _ _) (oT M HMs.out _ _) ?_;intro w9 hk9 ht9 hs9))
          go_meet;exact⟨sv,y,true,rfl,HM.out.put ht9 hk9 N58.out N510.out Z5.out,HW⟩
         ·skip
          have HM:Hid (LfM B gu n w u1 g5 g8 g10 C s deep U M y1 false cs (.slice (some ⟨gc,oc,none⟩) nc cu)):=(HLd.out.ext e17).midYes ht1 hbu (Tv P _ _ _ _ _ _ _ hyes).2.1 (Tv P _ _ _ _ _ _ _ hyes).2.2;have HSz:Hid (ud.heap.size≤u1.heap.size):=znt e17.size ht1.size;replace k17:=k17.turn ht1 (fun e=>by have:=(HLd.out.bu rfl).lt;omega);refine hK _ _ (ht1.mono (fun _ h _=> .inl h)) ?_;clear hK K;rw[hyes] at Hst;have HW:Hid (LfV P n f s cs R k y1 false sv):=x34 (by rw[Hcc.out];exact Hst.out.symm) (by have:=(Tv P _ _ _ _ _ _ _ hyes).1;rw[Hn.out] at this;exact znt this Hyf.out) (by rw[(Tv P _ _ _ _ _ _ _ hyes).2.1];exact Hfw.out);clear hyes hbu ht1;try simp only[Act.put,zs0,zs1,zs2]
          iterate 3 (refine gsr (v:= ?_) rfl (by rfl) ?_ ?_;rotate_left;(intro w' hw';go_simp;with_reducible rfl);simp only[Act.put,zs0,zs1,zs2])
          have G17:Hid (ud.heap.size≤gx):=g17;clear g17 e17 HSz;try simp only[Act.put,zs0,zs1,zs2]
          refine gsc rfl (by rfl) (fun K hK=> ?_);refine U0 ROT (.tmp 17) (.tmp 111) rfl gx (ov M U deep false) _ ROT (by rfl) (by rfl) Zk k17 (Zq _ _ _ _) (Zq _ _ _ _) (oT M HMs.out _ _) (fun w18 k18 t18 _=> ?_);refine hK _ _ (t18.mono (fun i hi _=> .inr (by rw[hi];exact G17.out))) ?_;clear hK K;have K18:=zh k18;replace HM:=zh (HM.out.own17 t18 k17 (znt HLd.out.kt.size G17.out) (by have:=HLd.out.b5.lt;have:=G17.out;omega) (by have:=HLd.out.b10.lt;have:=G17.out;omega));clear k17 k18 t18 G17;try simp only[Act.put]
          (refine gsr (v:= ?_) rfl (by rfl) ?_ ?_;rotate_left;(intro w' hw';go_simp;with_reducible rfl);simp only[Act.put,zs0,zs1,zs2])
          refine Zy ?_
          go_wp2_with (first
           | (show wpList _ _ _ (⟨some 113,_,_,_,_,_⟩::_) _ _;refine Zj rfl ROT (.tmp 17) rfl gx 0 (ov M U deep false) (by rfl) Zk K18.out.at (Zq _ _ _ _) ?_)
           | (refine Zz rfl ROT (.tmp 5) (.tmp 113) rfl g5 (ov M U deep false) _ ROT (by rfl) (by rfl) Zk HM.out.b5 (Zq _ _ _ _) (Zq _ _ _ _) (oT M HMs.out _ _) ?_;intro w9 hk9 ht9 hs9))
          go_meet;exact⟨sv,y1,false,rfl,HM.out.put ht9 hk9 N58.out N510.out Z5.out,HW⟩
       ·have e1:decide (64<LN)=false:=zdf hln;rw[if_neg hln] at Hst;rw[e1];clear hln;have HW:Hid (LfV P n f s cs R k y false VL):=x34 (by rw[Hcc.out];exact Hst.out.symm) Hyf.out Hfw.out;go_wp2;go_meet;exact⟨VL,y,false,rfl,HLf.out,HW⟩
      case rest=>
       obtain⟨vs,y1,b1,rfl,HL1,HW⟩:=hcut;clear q0 q1 q2 q3 q4 Hst HLf HRf
       go_upto_region 20 with fail
       go_cut [] (fun wx=>∃b2:Bool,Hid (LfI B gu n w wx g5 g8 g10 C s deep U M y1 b2 cs (.slice (some ⟨gc,oc,none⟩) nc cu))∧Hid (LfX P n f s cs R k y1 b2 vs))
       case first=>
        cases b1 with
        | true=>
         go_wp2_with fail;refine rgt (F:=fun i=>i=g5) [(0,true),(1,false),(2,true),(3,true),(4,true),(5,true),(6,true),(7,true),(8,true),(9,false),(10,true),(11,true),(12,true),(13,false)] (h:= ?_);have HLd:=zh (HL1.out.ext (Ext.drew wc));generalize wc.drew=ud at*;have hcat:=Kw HLd.out.oc k hk2;rw[Hcc.out] at hcat;have q3:=HLd.out.b5.o3;iterate 1 (refine gtr (v:= ?_) rfl (by rfl) ?_ ?_;rotate_left;(intro w' hw';go_simp;with_reducible rfl);simp only[Act.put,zs0,zs1,zs2])
         refine gtc rfl (by rfl) (fun K hK=> ?_);go_simp;refine hK _ _ (Zx.refl _ _) ?_;clear hK K;try simp only[Act.put,zs0,zs1,zs2]
         iterate 1 (refine gtr (v:= ?_) rfl (by rfl) ?_ ?_;rotate_left;(intro w' hw';go_simp;with_reducible rfl);simp only[Act.put,zs0,zs1,zs2])
         clear q3 hcat;iterate 6 (refine xZ (o:=⟨_,_,_,_,_,_⟩) rfl (by rfl) ?_;simp only[Act.put,zs0,zs1,zs2])
         refine KF (o:=⟨_,_,_,_,_,_⟩) rfl (by rfl) ?_;simp only[Act.put,zs0,zs1,zs2]
         (refine xZ (o:=⟨_,_,_,_,_,_⟩) rfl (by rfl) ?_;simp only[Act.put,zs0,zs1,zs2])
         iterate 2 (refine gtr (v:= ?_) rfl (by rfl) ?_ ?_;rotate_left;(intro w' hw';go_simp;with_reducible rfl);simp only[Act.put,zs0,zs1,zs2])
         refine gtc rfl (by rfl) (fun K hK=> ?_);refine Ux BLT (.tmp 127) (.tmp 126) rfl g5 3 (.bool true) (ov M U deep true) ROT (Yu _) (by rfl) (by rfl) HLd.out.b5 (by show 3<4;decide) (fun w9 k9 t9=> ?_);refine hK _ _ t9 ?_;clear hK K;refine Yj ?_;go_wp2;go_meet;exact⟨true,HLd.out.flag t9 k9 (by decide) N58.out N510.out Z5.out,⟨(fun e=>by cases e),HW.out.no,HW.out.few⟩⟩
        | false=>
         obtain⟨D,hD⟩:∃D,xR s (ca cs k).k=D:=⟨_,rfl⟩
         have hD2:=hD;rw[Hcc.out] at hD2;dsimp only at hD2;have CH:=fun(wx:World)=>z5s s KY wx (by omega)
         rw[hD2] at CH;have HCH:=zh CH;have HD2:=zh hD;clear hD hD2 CH
         cases D with
         | true=>
          go_wp2_with fail;refine rgt (F:=fun i=>i=g5) [(0,true),(1,false),(2,true),(3,true),(4,true),(5,true),(6,true),(7,true),(8,true),(9,false),(10,true),(11,true),(12,true),(13,false)] (h:= ?_);have HLd:=zh (HL1.out.ext (Ext.drew wc));generalize wc.drew=ud at*;have hcat:=Kw HLd.out.oc k hk2;rw[Hcc.out] at hcat;have q3:=HLd.out.b5.o3;iterate 1 (refine gtr (v:= ?_) rfl (by rfl) ?_ ?_;rotate_left;(intro w' hw';go_simp;with_reducible rfl);simp only[Act.put,zs0,zs1,zs2])
          refine gtc rfl (by rfl) (fun K hK=> ?_);go_simp;refine hK _ _ (Zx.refl _ _) ?_;clear hK K;try simp only[Act.put,zs0,zs1,zs2]
          iterate 1 (refine gtr (v:= ?_) rfl (by rfl) ?_ ?_;rotate_left;(intro w' hw';go_simp;with_reducible rfl);simp only[Act.put,zs0,zs1,zs2])
          have nC:gc≠g5:=fun h=>I1 HLd.out.oc HLd.out.b5 (by decide) h
          have q0:∀w',Zx (fun i=>i=g5) ud w'→w'.cell? ⟨gc,oc+k*4,none⟩=some (.string KY):=fun w' ht=>by rw[ht.cell (p:=⟨gc,oc+k*4,none⟩) hcat.lt nC];exact hcat.c0
          clear q3;refine gtr (v:=.agg (spc s)) rfl (by rfl) (fun w' hw'=>T0 RSP (.tmp 8) rfl g8 0 (spc s) (by rfl) I0 (HLd.out.b8.turn hw' N58.out).at (by rfl)) ?_;simp only[Act.put,zs0,zs1,zs2];iterate 4 (refine gtr (v:= ?_) rfl (by rfl) ?_ ?_;rotate_left;(intro w' hw';go_simp;with_reducible rfl);simp only[Act.put,zs0,zs1,zs2])
          refine gtr (v:=.string KY) rfl (by rfl) (fun w' hw'=>by have q:=q0 w' hw';go_simp) ?_;simp only[Act.put,zs0,zs1,zs2];refine gtc rfl (by rfl) (fun K hK=> ?_);try go_simp
          refine(HCH.out ud).mono ?_;rintro e u1 ⟨rfl,hb1⟩;refine hK _ _ (x3x hb1) ?_;clear hK K q0 nC hcat;replace HLd:=zh (HLd.out.ext hb1);clear hb1;try simp only[Act.put,zs0,zs1,zs2]
          iterate 3 (refine gtr (v:= ?_) rfl (by rfl) ?_ ?_;rotate_left;(intro w' hw';go_simp;with_reducible rfl);simp only[Act.put,zs0,zs1,zs2])
          refine gtc rfl (by rfl) (fun K hK=> ?_);refine Ux BLT (.tmp 127) (.tmp 126) rfl g5 3 (.bool false) (ov M U deep false) ROT (Yu _) (by rfl) (by rfl) HLd.out.b5 (by show 3<4;decide) (fun w9 k9 t9=> ?_);refine hK _ _ t9 ?_;clear hK K;refine Yj ?_;go_wp2;go_meet;exact⟨false,HLd.out.flag t9 k9 (by decide) N58.out N510.out Z5.out,⟨fun _=>⟨HW.out.yes rfl HD2.out,HW.out.fr rfl⟩,(fun e=>by cases e),HW.out.few⟩⟩
         | false=>
          go_wp2_with fail;refine rgt (F:=fun i=>i=g5) [(0,true),(1,false),(2,true),(3,true),(4,true),(5,true),(6,true),(7,true),(8,true),(9,false),(10,true),(11,true),(12,true),(13,false)] (h:= ?_);have HLd:=zh (HL1.out.ext (Ext.drew wc));generalize wc.drew=ud at*;have hcat:=Kw HLd.out.oc k hk2;rw[Hcc.out] at hcat;have q3:=HLd.out.b5.o3;iterate 1 (refine gtr (v:= ?_) rfl (by rfl) ?_ ?_;rotate_left;(intro w' hw';go_simp;with_reducible rfl);simp only[Act.put,zs0,zs1,zs2])
          refine gtc rfl (by rfl) (fun K hK=> ?_);go_simp;refine hK _ _ (Zx.refl _ _) ?_;clear hK K;try simp only[Act.put,zs0,zs1,zs2]
          iterate 1 (refine gtr (v:= ?_) rfl (by rfl) ?_ ?_;rotate_left;(intro w' hw';go_simp;with_reducible rfl);simp only[Act.put,zs0,zs1,zs2])
          have nC:gc≠g5:=fun h=>I1 HLd.out.oc HLd.out.b5 (by decide) h
          have q0:∀w',Zx (fun i=>i=g5) ud w'→w'.cell? ⟨gc,oc+k*4,none⟩=some (.string KY):=fun w' ht=>by rw[ht.cell (p:=⟨gc,oc+k*4,none⟩) hcat.lt nC];exact hcat.c0
          clear q3;refine gtr (v:=.agg (spc s)) rfl (by rfl) (fun w' hw'=>T0 RSP (.tmp 8) rfl g8 0 (spc s) (by rfl) I0 (HLd.out.b8.turn hw' N58.out).at (by rfl)) ?_;simp only[Act.put,zs0,zs1,zs2];iterate 4 (refine gtr (v:= ?_) rfl (by rfl) ?_ ?_;rotate_left;(intro w' hw';go_simp;with_reducible rfl);simp only[Act.put,zs0,zs1,zs2])
          refine gtr (v:=.string KY) rfl (by rfl) (fun w' hw'=>by have q:=q0 w' hw';go_simp) ?_;simp only[Act.put,zs0,zs1,zs2];refine gtc rfl (by rfl) (fun K hK=> ?_);try go_simp
          refine(HCH.out ud).mono ?_;rintro e u1 ⟨rfl,hb1⟩;refine hK _ _ (x3x hb1) ?_;clear hK K q0 nC hcat;replace HLd:=zh (HLd.out.ext hb1);clear hb1;try simp only[Act.put,zs0,zs1,zs2]
          iterate 3 (refine gtr (v:= ?_) rfl (by rfl) ?_ ?_;rotate_left;(intro w' hw';go_simp;with_reducible rfl);simp only[Act.put,zs0,zs1,zs2])
          refine gtc rfl (by rfl) (fun K hK=> ?_);refine Ux BLT (.tmp 127) (.tmp 126) rfl g5 3 (.bool true) (ov M U deep false) ROT (Yu _) (by rfl) (by rfl) HLd.out.b5 (by show 3<4;decide) (fun w9 k9 t9=> ?_);refine hK _ _ t9 ?_;clear hK K;refine Yj ?_;go_wp2;go_meet;exact⟨true,HLd.out.flag t9 k9 (by decide) N58.out N510.out Z5.out,⟨(fun e=>by cases e),fun _=>HW.out.not rfl HD2.out,HW.out.few⟩⟩
       case rest=>
        clear HL1 HW;obtain⟨b2,HL2,HX⟩:=hcut;go_wp2_with fail;refine rgs (F:=fun z=>z=g5∨M.ownBlock=some z) (.rd 0 (.rd 2 (.rd 3 (.rd 4 (.rd 5 (.rd 6 (.rd 7 (.rd 8 (.two 1 (.call 9 (.call 10 (.rd 11 (.call 12 .done)))) 9 (.call 1 (.call 10 (.rd 11 (.call 12 .done))))))))))))) (h:= ?_);have HLd:=zh (HL2.out.ext (Ext.drew wc));generalize wc.drew=ud at*;have hcat:=Kw HLd.out.oc k hk2;rw[Hcc.out] at hcat;have nC:¬(gc=g5∨M.ownBlock=some gc):=fun h=>by
         rcases h with h|h
         ·exact I1 HLd.out.oc HLd.out.b5 (by decide) h
         ·exact x0c HLd.out.oc HLd.out.ow (by decide) h
        have q0:∀w',Zx (fun z=>z=g5∨M.ownBlock=some z) ud w'→w'.cell? ⟨gc,oc+k*4,none⟩=some (.string KY):=fun w' ht=>by rw[ht.cell (p:=⟨gc,oc+k*4,none⟩) hcat.lt nC];exact hcat.c0
        iterate 5 (refine gsr (v:= ?_) rfl (by rfl) ?_ ?_;rotate_left;(intro w' hw';go_simp;with_reducible rfl);simp only[Act.put,zs0,zs1,zs2])
        refine gsr (v:=.string KY) rfl (by rfl) (fun w' hw'=>by have q:=q0 w' hw';go_simp) ?_;simp only[Act.put,zs0,zs1,zs2];iterate 1 (refine gsr (v:= ?_) rfl (by rfl) ?_ ?_;rotate_left;(intro w' hw';go_simp;with_reducible rfl);simp only[Act.put,zs0,zs1,zs2])
        refine gsr (v:=.agg #[.string KY,.string vs]) rfl (by rfl) (fun w' hw'=>z1g (.tmp 134) (.tmp 135) rfl KY vs (by rfl) (by rfl)) ?_;simp only[Act.put,zs0,zs1,zs2];clear q0 nC hcat;obtain⟨aM,nM,cM,hM⟩:=HMs.out;have HM:=zh hM;have c0:=HLd.out.b5.o0;rw[hM] at c0;clear hM;have HnM:Hid (y1.l.length≤1000000):=by have:=HX.out.few;show _≤_;omega
        have HBs:Hid (B≤ud.heap.size):=znt HI.out.Bw HLd.out.kt.size;refine⟨?_,?_⟩
        ·skip
         refine gsc rfl (by rfl) (fun K hK=> ?_);go_simp;refine hK _ _ (Zx.refl _ _) ?_;clear hK K c0;try simp only[Act.put,zs0,zs1,zs2]
         refine gsc rfl (by rfl) (fun K hK=> ?_);refine ZA (.tmp 136) rfl KY vs (by rfl) (fun ge we hge hlit e1=> ?_);refine hK _ _ (x3x e1) ?_;clear hK K hge;have HLt:=zh hlit;replace HLd:=zh (HLd.out.ext e1);replace HBs:Hid (B≤we.heap.size):=znt HBs.out e1.size;clear hlit e1;try simp only[Act.put,zs0,zs1,zs2]
         refine gsc rfl (by rfl) (fun K hK=> ?_);obtain⟨v7,w7,hrun,ho7,t7⟩:=JO we B M _ y1.l HLd.out.ow HBs.out ge ⟨KY,vs,[]⟩ HLt.out HnM.out;rw[HM.out] at hrun;refine Y8 (.tmp 129) (.tmp 137) My rfl (by rfl) (by rfl) hrun ?_;refine hK _ _ (t7.mono (fun i hi _=> .inr hi)) ?_;clear hK K hrun;have k7:Blk w7 g5 ROT (ov M U deep b2):=HLd.out.b5.turn t7 (D0 HLd.out.ow HLd.out.b5 (by decide));have H7:=zh ho7;have HT7:=zh t7;obtain⟨a7,n7,c7,rfl⟩:=Xk ho7;clear ho7 t7;try simp only[Act.put,zs0,zs1,zs2]
         (refine gsr (v:= ?_) rfl (by rfl) ?_ ?_;rotate_left;(intro w' hw';go_simp;with_reducible rfl);simp only[Act.put,zs0,zs1,zs2])
         refine gsc rfl (by rfl) (fun K hK=> ?_);refine Ux My (.tmp 139) (.tmp 138) rfl g5 0 (.slice a7 n7 c7) (ov M U deep b2) ROT (z1f _ _ _) (by rfl) (by rfl) k7 (by show 0<4;decide) (fun w9 k9 t9=> ?_);refine hK _ _ (t9.mono (fun i hi _=> .inl hi)) ?_;clear hK K;have HL9:Hid (LfI B gu n w w9 g5 g8 g10 C s deep U (.slice a7 n7 c7) ⟨y1.l++[⟨KY,vs,[]⟩],y1.u,y1.d⟩ b2 cs (.slice (some ⟨gc,oc,none⟩) nc cu)):=HLd.out.grow HT7.out t9 k9 (by show World.ownsRow w7 B RET 2 _ (y1.l++[(⟨KY,vs,[]⟩:En)]).length _;rw[zla];exact H7.out) rfl rfl N58.out N510.out Z5.out;have HR9:Hid (LfR P n f nc s cs R (k+1) ⟨y1.l++[⟨KY,vs,[]⟩],y1.u,y1.d⟩ b2):=⟨(fun e=>by have q:=HX.out.yes e;rw[Hcc.out] at q;exact q),HX.out.no,by show(y1.l++[(⟨KY,vs,[]⟩:En)]).length≤_;have:=HX.out.few;rw[zla];show y1.l.length+1≤_;omega⟩
         clear k7 k9 t9;refine Zy ?_;go_wp2
         go_roundw
         case rel=>exact⟨k+1,_,_,b2,by go_num,by omega,HL9,HR9⟩
         case measure=>simp[intOf];omega
        ·skip
         refine gsc rfl (by rfl) (fun K hK=> ?_);refine ZA (.tmp 136) rfl KY vs (by rfl) (fun ge we hge hlit e1=> ?_);refine hK _ _ (x3x e1) ?_;clear hK K hge;have HLt:=zh hlit;replace HLd:=zh (HLd.out.ext e1);replace HBs:Hid (B≤we.heap.size):=znt HBs.out e1.size;clear hlit e1;try simp only[Act.put,zs0,zs1,zs2]
         clear c0;have c0:=HLd.out.b5.o0;rw[HM.out] at c0;refine gsc rfl (by rfl) (fun K hK=> ?_);go_simp;refine hK _ _ (Zx.refl _ _) ?_;clear hK K c0;try simp only[Act.put,zs0,zs1,zs2]
         refine gsc rfl (by rfl) (fun K hK=> ?_);obtain⟨v7,w7,hrun,ho7,t7⟩:=JO we B M _ y1.l HLd.out.ow HBs.out ge ⟨KY,vs,[]⟩ HLt.out HnM.out;rw[HM.out] at hrun;refine Y8 (.tmp 129) (.tmp 137) My rfl (by rfl) (by rfl) hrun ?_;refine hK _ _ (t7.mono (fun i hi _=> .inr hi)) ?_;clear hK K hrun;have k7:Blk w7 g5 ROT (ov M U deep b2):=HLd.out.b5.turn t7 (D0 HLd.out.ow HLd.out.b5 (by decide));have H7:=zh ho7;have HT7:=zh t7;obtain⟨a7,n7,c7,rfl⟩:=Xk ho7;clear ho7 t7;try simp only[Act.put,zs0,zs1,zs2]
         (refine gsr (v:= ?_) rfl (by rfl) ?_ ?_;rotate_left;(intro w' hw';go_simp;with_reducible rfl);simp only[Act.put,zs0,zs1,zs2])
         refine gsc rfl (by rfl) (fun K hK=> ?_);refine Ux My (.tmp 139) (.tmp 138) rfl g5 0 (.slice a7 n7 c7) (ov M U deep b2) ROT (z1f _ _ _) (by rfl) (by rfl) k7 (by show 0<4;decide) (fun w9 k9 t9=> ?_);refine hK _ _ (t9.mono (fun i hi _=> .inl hi)) ?_;clear hK K;have HL9:Hid (LfI B gu n w w9 g5 g8 g10 C s deep U (.slice a7 n7 c7) ⟨y1.l++[⟨KY,vs,[]⟩],y1.u,y1.d⟩ b2 cs (.slice (some ⟨gc,oc,none⟩) nc cu)):=HLd.out.grow HT7.out t9 k9 (by show World.ownsRow w7 B RET 2 _ (y1.l++[(⟨KY,vs,[]⟩:En)]).length _;rw[zla];exact H7.out) rfl rfl N58.out N510.out Z5.out;have HR9:Hid (LfR P n f nc s cs R (k+1) ⟨y1.l++[⟨KY,vs,[]⟩],y1.u,y1.d⟩ b2):=⟨(fun e=>by have q:=HX.out.yes e;rw[Hcc.out] at q;exact q),HX.out.no,by show(y1.l++[(⟨KY,vs,[]⟩:En)]).length≤_;have:=HX.out.few;rw[zla];show y1.l.length+1≤_;omega⟩
         clear k7 k9 t9;refine Zy ?_;go_wp2
         go_roundw
         case rel=>exact⟨k+1,_,_,b2,by go_num,by omega,HL9,HR9⟩
         case measure=>simp[intOf];omega
     ·have i1:decide ((k:Int)<(nc:Int))=false:=zdf (by omega);have i2:decide (k<nc)=false:=zdf (by omega);have K5:=zh HLf.out.b5;have K10:=zh HLf.out.b10;have HRs:Hid (R=some y):=by
       have h:=(HRf.out.go rfl).1;rw[List.drop_eq_nil_of_le (by rw[Hnc.out];omega)] at h;exact h.symm
      clear hlt
      go_upto_region 39 with fail
      go_wp2_with (first
       | (show wpList _ _ _ (⟨some 213,_,_,_,_,_⟩::_) _ _;refine Zj rfl ROT (.tmp 5) rfl g5 0 (ov M U deep false) (by rfl) Zk K5.out.at (Zq _ _ _ _) ?_)
       | (refine Zz rfl ROT (.tmp 10) (.tmp 213) rfl g10 (ov M U deep false) _ ROT (by rfl) (by rfl) Zk K10.out (Zq _ _ _ _) (Zq _ _ _ _) (oT M HMs.out _ _) ?_;intro w9 hk9 ht9 hs9))
      refine bodyPost_ret (v:=.agg (ov M U deep false)) ?_ rfl ?_
      ·exact Xj Zk rfl _ _ g10 _ (by rfl) hk9 (Zq _ _ _ _)
      ·exact⟨.inr ⟨y,M,HRs.out,by rw[HLf.out.dp],Yw HLf.out.ow ht9 HLf.out.b10 (by decide),(HLf.out.bu rfl).turn ht9 (fun e=>(HLf.out.b10.ne (HLf.out.bu rfl) (by decide)) e.symm)⟩,HLf.out.kt.mine ht9 Z10.out⟩
end Go.Proofs.YtdgladhfibfdlaaGreatDoor
