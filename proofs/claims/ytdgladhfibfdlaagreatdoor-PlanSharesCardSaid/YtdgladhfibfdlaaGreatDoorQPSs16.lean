/-
  Steps.
-/
import Derived.Test.YtdgladhfibfdlaaGreatDoorQPSs14
import Derived.Deep.Slices
import Derived.Deep.Grids
import Derived.Test.YtdgladhfibfdlaaGreatDoorQPSs15
namespace Go.Proofs.YtdgladhfibfdlaaGreatDoor
open Go Go.RowKit Go.Proofs.Tryz
def Dx (f:Nat→Bool)(k m:Nat):Bool:=f m&&decide (k≤cnt f m)
theorem take_zero (f:Nat→Bool):Dx f 0=f:=by
 funext m;unfold Dx;rw[zdt (by omega)];simp
theorem y1j (f:Nat→Bool)(k:Nat)(h:k<cnt f 1024):sc (y3m (Dx f k) (el f k:Int))=sc (Dx f (k+1)):=ZV (fun m hm=>by
 unfold y3m Dx;obtain⟨_,h2,h3,_⟩:=z8r f k h
 cases hf:f m with
 | false=>rfl
 | true=>
  rw[Bool.true_and,Bool.true_and,Bool.eq_iff_iff,Bool.and_eq_true,decide_eq_true_iff,decide_eq_true_iff,Bool.not_eq_true',decide_eq_false_iff_not];constructor
  ·rintro⟨h4,h5⟩
   rcases zng k (cnt f m) with h6|h6
   ·exact h6
   ·have:=y73 h hf (show cnt f m=k by omega);omega
  ·intro h4;refine⟨by omega,fun e=> ?_⟩;have:m=el f k:=by omega
   rw[this,h3] at h4;omega)
theorem PgS.turn {F:Nat→Prop}{w w':World}{a:Option Addr}{is:List Int}(h:PgS w a is)(ht:Zx F w w')(hF:∀g o,a=some ⟨g,o,none⟩→¬F g):PgS w' a is:=fun h0=>by
 obtain⟨g,o,rfl,hc⟩:=h h0;exact⟨g,o,rfl,fun i hi=>by rw[ht.cell (p:=⟨g,o+i,none⟩) (block_lt_of_cell (hc i hi)) (hF g o rfl)];exact hc i hi⟩
theorem y46 (w:World):(Instr.build TS #[]).run prog w=.ok (.agg (sc (fun _=>false))) w:=by kernel_rfl
section
variable {ops:Array Oper} {rest:List Oper} {o:Oper} {a:Act} {w:World} {Q:Exit→Act→World→Prop}
theorem Lk (hgd:o.guard=none)(ho:o.op=.build TS #[])
  (h:wpList prog ops Q rest (a.put o.dst (.agg (sc (fun _=>false)))) w):wpList prog ops Q (o::rest) a w:=by
 refine wpList_plain hgd fun K hK=> ?_
 have hk:=hK _ _ h;unfold Oper.wp execOp;simp only[ho,Sem.run_bind,Sem.run_pure,Result.andThen_ok,Array.map_empty,y46];exact hk
end
theorem Cu {fn:Func}{p q r:Tmp}(h:fn.results= #[.tmp p,.cell q TS,.tmp r])(tmps:Array Value)(w:World)(g:Nat)(f:Nat→Bool)(u v:Value)(hp:tmps.getD p undef=u)(hq:tmps.getD q undef=.pointer (some ⟨g,0,none⟩))(hr:tmps.getD r undef=v)(hg:Blk w g TS (sc f)):
  (results fn tmps).run prog w=.ok (.tuple #[u,.agg (sc f),v]) w:=by
 have hp':tmps[p]?.getD undef=u:=by simpa using hp
 have hq':tmps[q]?.getD undef=.pointer (some ⟨g,0,none⟩):=by simpa using hq
 have hr':tmps[r]?.getD undef=v:=by simpa using hr
 simp[results,h,hp',hq',hr',asAddr,Cw Yz w g _ hg (Oy f)]
set_option maxRecDepth 100000 in
theorem y1k (f:Nat→Bool)(x:Int)(w:World)(hx:(cnt f 1024:Int)<x):Calls prog 46 #[.agg (sc f),.int .i64 x] w fun e w'=>e=.returned (.tuple #[.slice none 0 0,.agg (sc (fun _=>false)),XY 8])∧zB w w':=by
 have d0:decide (x<0)=false:=zdf (by omega);have d1:decide ((cnt f 1024:Int)<x)=true:=zdt hx;clear hx
 go_enter func46,ntmps46
 go_wp2_with (first
  | (refine Zw rfl TS (.tmp 0) rfl (sc f) (by rfl) ?_;intro g1 w1 hg1 hk1 hb1)
  | (show wpList _ _ _ (⟨some 5,_,_,_,_,_⟩::_) _ _;refine Zv rfl TS rfl Tk ?_;intro g2 w2 hg2 hk2 hb2)
  | (refine Z7 rfl TS (.tmp 2) rfl g1 f TS (by rfl) Yz (hk1.ext hb2) ?_))
 refine(E5 f w2).mono ?_;rintro e w3 ⟨rfl,hb3⟩;have hb:=(hb1.trans (hb2.mono hb1.size)).trans (hb3.mono (hb1.trans (hb2.mono hb1.size)).size);have hk3:=hk2.ext hb3;have hg3:=znt hb1.size hg2;clear hb1 hb2 hb3 hk1 hk2 hg1 hg2
 go_wp2_with (first
  | (refine Lk rfl rfl ?_)
  | (refine Yx rfl TS (.tmp 5) (.tmp 18) rfl g2 _ _ TS (by rfl) (by rfl) Yz hk3 ?_;intro w4 hk4 ht4 _))
 refine bodyPost_ret (v:=.tuple #[.slice none 0 0,.agg (sc (fun _=>false)),XY 8]) ?_ rfl ?_
 ·exact Cu rfl _ _ g2 _ _ _ (by rfl) (by rfl) (by rfl) hk4
 ·exact⟨rfl,hb.trans (ht4.below hb.size (fun i hi=>by subst hi;exact hg3))⟩
def PgT (w:World)(a:Option Addr)(is:List Int):Prop:=PgS w a is∧∀ad,a=some ad→∃g o A fz,ad=⟨g,o,none⟩∧w.heap[g]? =some (.cells A 3 fz)
theorem PgT.below {w w':World}{a:Option Addr}{is:List Int}{B:Nat}(h:PgT w a is)(hb:Below B w w')(hB:w.heap.size≤B):PgT w' a is:=⟨h.1.below hb hB,fun ad e=>by
 obtain⟨g,o,A,fz,h0,h1⟩:=h.2 ad e;exact⟨g,o,A,fz,h0,(hb.block g (Nat.lt_of_lt_of_le (zag.1 h1).1 hB)).trans h1⟩⟩
theorem PgT.turn {w w':World}{a:Option Addr}{is:List Int}{F:Nat→Prop}(h:PgT w a is)(t:Zx F w w')(hF:∀ad,a=some ad→¬F ad.block):PgT w' a is:=⟨h.1.turn t (fun g o e=>hF ⟨g,o,none⟩ e),fun ad e=>by
 obtain⟨g,o,A,fz,rfl,h1⟩:=h.2 ad e;exact⟨g,o,A,fz,rfl,t.hg h1 (hF _ e)⟩⟩
theorem y47 {w:World}{B E sz n:Nat}{v:Value}{xs:List Value}(h:w.ownsRow B E sz v n xs):∀ad m c,v=.slice (some ad) m c→∃g o A fz,ad=⟨g,o,none⟩∧w.heap[g]? =some (.cells A E fz):=fun ad m c hv=>by
 rcases h.2 with ⟨rfl,_⟩|⟨g,cap,cur,rfl,_,hg,_⟩
 ·cases hv
 ·injection hv with hv _ _
  injection hv with hv
  exact⟨g,0,cur,_,hv.symm,hg⟩
set_option maxRecDepth 100000 in
theorem y48 (f:Nat→Bool)(n C:Nat)(w:World)(hC:cnt f 1024=C)(hn:n≤C)(hC9:C≤1024)(hT:I7 w):Calls prog 46 #[.agg (sc f),.int .i64 n] w fun e w'=>∃a,e=.returned (.tuple #[.slice a n n,.agg (sc (Dx f n)),.nilIface])∧PgT w' a ((eI f 1024).take n)∧(a=none→n=0)∧zB w w':=by
 have d1:¬(C:Int)<(n:Int):=by omega
 have d2:¬C<n:=by omega
 have HT:=zh hT;have Hn:=zh hn;have HL:=zh ((y7c f 1024).trans hC);have HCnt:=zh (E5 f);have HAll:=zh (y43 f);rw[hC] at HCnt;have Hst:=zh (fun k=>y1j f k);rw[hC] at Hst;have Hia:=zh (fun k=>x3k f k);rw[hC] at Hia;have Htk:Hid (∀k,k≤C→((eI f 1024).take k).length=k):=fun k hk=>by rw[zlk,HL.out];omega
 have Htl:Hid (∀k,ia ((eI f 1024).take n) k=if k<n then ia (eI f 1024) k else 0):=fun k=>by
  unfold ia;rw[List.getD_eq_getElem?_getD,List.getD_eq_getElem?_getD,List.getElem?_take]
  by_cases h:k<n
  ·rw[if_pos h,if_pos h]
  ·rw[if_neg h,if_neg h];rfl
 generalize eI f 1024=L at*;clear hT hn hC;have hn9:n≤1024:=znt Hn.out hC9
 go_enter func46,ntmps46
 go_wp2_with (first
  | (refine Zw rfl TS (.tmp 0) rfl (sc f) (by rfl) ?_;intro g1 w1 hg1 hk1 hb1)
  | (show wpList _ _ _ (⟨some 5,_,_,_,_,_⟩::_) _ _;refine Zv rfl TS rfl Tk ?_;intro g2 w2 hg2 hk2 hb2)
  | (refine Z7 rfl TS (.tmp 2) rfl g1 f TS (by rfl) Yz (hk1.ext hb2) ?_))
 refine(HCnt.out w2).mono ?_;rintro e w3 ⟨rfl,hb3⟩;have hb:=(hb1.trans (hb2.mono hb1.size)).trans (hb3.mono (hb1.trans (hb2.mono hb1.size)).size);have hk3:=hk2.ext hb3;have hk1b:=(hk1.ext hb2).ext hb3;have Hg:Hid (w.heap.size≤g1∧w.heap.size≤g2∧g2≠g1∧g1<w3.heap.size∧g2<w3.heap.size):=⟨hg1,znt hb1.size hg2,by have:=hk1.lt;omega,hk1b.lt,hk3.lt⟩
 clear hb1 hb2 hb3 hk1 hk2 hg1 hg2
 go_wp2_with (first|(show wpList _ _ _ (⟨some 20,_,_,_,_,_⟩::_) _ _;refine Z7 rfl TS (.tmp 2) rfl g1 f TS (by rfl) Yz hk1b ?_))
 refine(HAll.out w3 (HT.out.below hb)).mono ?_;rintro e w4 ⟨v,rfl,ho4,hb4⟩;have hge:=fun j hj=>(ho4.lt j hj).1
 have hty:=y47 ho4;obtain⟨pa,pc,rfl,hps,hz,hcl,hcm⟩:=Q5 ho4;rw[HL.out] at hcl⊢
 have HB:Hid (zB w w4):=hb.trans (hb4.mono hb.size);have HK:Hid (Blk w4 g1 TS (sc f)∧Blk w4 g2 TS (sc (fun _=>false))):=⟨hk1b.ext hb4,hk3.ext hb4⟩
 have Hps:Hid (PgT w4 pa L):=⟨hps,fun ad e=>hty ad _ _ (by rw[e])⟩
 have Hnz:Hid (pa=none→n=0):=fun e=>by have:=hz e;have:=Hn.out;omega
 have Hge:=zh hge;have n1:(n:Int)≤(pc:Int):=by have:=Hn.out;omega
 have n0:(0:Int)≤(n:Int):=by omega
 clear ho4 hps hb hb4 hk3 hk1b d1 d2 hge hty hz;go_wp2_with fail;have hge2:Hid (∀ad,pa=some ad→¬ad.block=g1∧¬ad.block=g2):=fun ad e=>by
  subst e;have:=Hge.out ad.block rfl;have:=Hg.out.2.2.2.1;have:=Hg.out.2.2.2.2;omega
 go_loopw [9,27] (fun _ i wr=>∃k:Nat,i=.int .i64 k∧k≤n∧Hid (Blk wr g1 TS (sc (Dx f k))∧Blk wr g2 TS (sc (fun _=>false)))∧Hid (PgT wr pa L)∧Hid (zB w wr)) (fun _ i _=>n-(intOf i).toNat)
 case atStart=>exact⟨0,rfl,by omega,by rw[take_zero];exact HK,Hps,HB⟩
 case round=>
  obtain⟨k,rfl,hk,HK1,HP1,HB1⟩:=hrel
  by_cases hlt:k<n
  ·have hlt2:(k:Int)<(n:Int):=by omega
   have hkl:k<L.length:=by rw[HL.out];have:=Hn.out;omega
   obtain⟨g,o,ea,hcell⟩:=HP1.out.1 (by omega);have q0:=hcell k hkl;have hkc:k<C:=by have:=Hn.out;omega
   rw[Hia.out k hkc] at q0;have hstep:=Hst.out k hkc;have Hge3:Hid (¬g=g1∧¬g=g2):=hge2.out ⟨g,o,none⟩ ea;have Hea:=zh ea;obtain⟨E,hE⟩:∃E:Int,(el f k:Int)=E:=⟨_,rfl⟩
   rw[hE] at q0 hstep;have Hs:=zh hstep;have hwo:=zh (fun w=>z2b (Dx f k) E w);rw[Hs.out] at hwo;clear hcell hkl hkc hE hstep;subst ea
   go_wp2_with (first|(show wpList _ _ _ (⟨some 31,_,_,_,_,_⟩::_) _ _;refine Z7 rfl TS (.tmp 2) rfl g1 _ TS (by rfl) Yz HK1.out.1 ?_))
   refine(hwo.out wr).mono ?_;rintro e w5 ⟨rfl,hb5⟩;have hB5:=HB1.out.trans (hb5.mono HB1.out.size);have hk5:=HK1.out.1.ext hb5;have hk6:=HK1.out.2.ext hb5;have hp5:=HP1.out.below hb5 (zlr _);clear hb5 HK1 HP1 HB1 hwo q0
   go_wp2_with (first|(refine Yx rfl TS (.tmp 2) (.tmp 33) rfl g1 _ _ TS (by rfl) (by rfl) Yz hk5 ?_;intro w6 hk7 ht6 _))
   have HB6:Hid (zB w w6):=hB5.trans (ht6.below hB5.size (fun i hi=>by subst hi;exact Hg.out.1));have HK6:Hid (Blk w6 g1 TS (sc (Dx f (k+1)))∧Blk w6 g2 TS (sc (fun _=>false))):=⟨hk7,hk6.turn ht6 Hg.out.2.2.1⟩
   have HP6:Hid (PgT w6 (some ⟨g,o,none⟩) L):=hp5.turn ht6 (fun ad e=>by cases e;exact Hge3.out.1);clear hB5 hk5 hk6 hp5 hk7 ht6
   go_roundw
   case rel=>exact⟨k+1,by go_num,by omega,HK6,HP6,HB6⟩
   case measure=>simp[intOf];omega
  ·obtain rfl:k=n:=by omega
   have hlt2:¬(k:Int)<(k:Int):=by omega
   have HPt:Hid (∀w',PgT w' pa L→PgT w' pa (L.take k)):=fun w' hp=>⟨fun h0=>by
    obtain⟨g,o,ea,hcell⟩:=hp.1 (by rw[zlk] at h0;omega);refine⟨g,o,ea,fun i hi=> ?_⟩;have hi2:i<k:=by rw[zlk] at hi;omega
    rw[Htl.out i,if_pos hi2];exact hcell i (by rw[HL.out];have:=Hn.out;omega),hp.2⟩
   go_wp2_with fail;refine rgt (F:=fun i=>i=g2) [(0,true),(1,true),(2,true),(3,false),(4,true)] (h:= ?_);have hk9:Blk wr.drew g1 TS (sc (Dx f k)):=HK1.out.1;have hk8:Blk wr.drew g2 TS (sc (fun _=>false)):=HK1.out.2;have hp9:PgT wr.drew pa L:=HP1.out;have hB9:zB w wr.drew:=HB1.out.drew;clear HK1 HP1 HB1;generalize wr.drew=w5 at*;iterate 1 (refine gtr (v:= ?_) rfl (by rfl) ?_ ?_;rotate_left;(intro w' hw';go_simp;with_reducible rfl);simp only[Act.put,zs0,zs1,zs2])
   refine gtr (v:=.agg (sc (Dx f k))) rfl (by rfl) (fun w' hw'=>E3 TS (.tmp 2) rfl g1 _ TS (by rfl) Yz (hk9.turn hw' (fun e=>Hg.out.2.2.1 e.symm))) ?_;simp only[Act.put,zs0,zs1,zs2];iterate 1 (refine gtr (v:= ?_) rfl (by rfl) ?_ ?_;rotate_left;(intro w' hw';go_simp;with_reducible rfl);simp only[Act.put,zs0,zs1,zs2])
   refine gtc rfl (by rfl) (fun K hK=> ?_);refine X9 TS (.tmp 5) (.tmp 36) rfl g2 (Dx f k) _ TS (by rfl) (by rfl) Yz hk8 ?_;intro w6 hk6 ht6 _;refine hK _ _ ht6 ?_;clear hK K;simp only[Act.put];iterate 1 (refine gtr (v:= ?_) rfl (by rfl) ?_ ?_;rotate_left;(intro w' hw';go_simp;with_reducible rfl);simp only[Act.put,zs0,zs1,zs2])
   refine Yj ?_;go_wp2;refine bodyPost_ret (v:=.tuple #[.slice pa k k,.agg (sc (Dx f k)),.nilIface]) ?_ rfl ?_
   ·exact Cu rfl _ _ g2 _ _ _ (by rfl) (by rfl) (by rfl) hk6
   ·exact⟨_,rfl,HPt.out _ (hp9.turn ht6 (fun ad e=>(hge2.out ad e).2)),Hnz.out,hB9.trans (ht6.below hB9.size (fun i hi=>by subst hi;exact Hg.out.2.1))⟩
def tpF (es:List En)(key v:ByteArray):Nat:=if okK key=false then 1 else if 2048<v.size then 5 else if isE es key=false∧4096≤es.length then 7 else 0
def tpL (es:List En)(key v:ByteArray):List En:=if tpF es key v=0 then rep es key [⟨key,v,[]⟩] else []
def tdL (es:List En)(key:ByteArray):List En:=if isE es key=true then rep es key [] else es
set_option maxRecDepth 100000 in
theorem XD (a:Option Addr)(n c:Nat)(es:List En)(key:ByteArray)(w:World)(hn:es.length=n)(hs:ES Y9 w a es)(hl:n≤100000):
  Calls prog 59 #[.slice a n c,.string key] w fun e w'=>e=.returned (.tuple #[.int .i64 (fE es key:Nat),.bool (isE es key)])∧zB w w':=by
 have hlt:=zh (fun i h=>y89 es key i h);have hat:=zh (y9a es key);have hle:=QD es key;have hF:fE es key≤n:=by unfold Tx at hle;split at hle<;>omega
 have hie:=zh (jN es key);rw[hn] at hie hat;have Hs:=zh hs;have Hn:=zh hn;clear hs hn hle;generalize isE es key=I at*;generalize fE es key=F at*
 go_enter func59,ntmps59
 go_wp2_with fail
 go_loopw [6] (fun i wr=>∃k:Nat,i=.int .i64 k∧k≤F∧w=wr) (fun i _=>n-(intOf i).toNat)
 case atStart=>exact⟨0,rfl,by omega,by first|trivial|rfl⟩
 case round=>
  obtain⟨k,rfl,hk,rfl⟩:=hrel
  by_cases hkF:k<F
  ·obtain⟨g,o,rfl,hcell⟩:=Hs.out.ents (by rw[Hn.out];omega);have q0:=(hcell k (by rw[Hn.out];omega)).1;have d1:Op.bytesLess (ea es k).k.toList key.toList=true:=hlt.out k hkF;have hkn:(k:Int)<(n:Int):=by omega
   generalize (ea es k).k=y at*;clear hcell;go_wp2
   go_roundw
   case rel=>exact⟨k+1,by go_num,by omega,by first|trivial|rfl⟩
   case measure=>simp[intOf];omega
  ·obtain rfl:k=F:=by omega
   obtain⟨W,hW⟩:∃W,w.drew=W:=⟨_,rfl⟩
   have hbd:zB w W:=by rw[←hW];exact(zbr _ _).drew
   have HW:=zh (zai hW hbd)
   by_cases hkn:k<n
   ·obtain⟨g,o,rfl,hcell⟩:=Hs.out.ents (by rw[Hn.out];omega);have q0:=(hcell k (by rw[Hn.out];omega)).1;have d1:Op.bytesLess (ea es k).k.toList key.toList=false:=hat.out hkn;have hI:Hid (I=((ea es k).k.toList==key.toList)):=by show _=_;rw[hie.out,zdt hkn,Bool.true_and]
    obtain⟨D,hD⟩:∃D,((ea es k).k.toList==key.toList)=D:=⟨_,rfl⟩
    rw[hD] at hI;have hknI:(k:Int)<(n:Int):=by omega
    have l0:=block_lt_of_cell q0;have q1:∀w',Ext W w'→w'.cell? ⟨g,o+k*2,none⟩=some (.string (ea es k).k):=fun w' hx=>by
     rw[(hbd.trans (hx.mono hbd.size)).cell (p:=⟨g,o+k*2,none⟩) l0];exact q0
    generalize (ea es k).k=y at*;have i1:(0:Int)≤(k:Int):=by omega
    have z0:IntKind.i64.wrap (k:Int)=(k:Int):=by rw[IntKind.wrap_i64];omega
    clear hcell hie hat hlt hW hbd l0;go_wp2_with fail;refine rgr [(0,true),(1,true),(2,true),(3,true),(4,true),(5,true),(6,true),(7,true),(8,true),(9,true),(10,true),(11,true),(12,true),(13,true),(14,true),(15,true)] (h:= ?_);rw[HW.out.1];iterate 16 (first|(refine grr (v:= ?_) rfl (by rfl) ?_ ?_;rotate_left;(intro w' hw';go_simp;with_reducible rfl);simp only[Act.put,zs0,zs1,zs2])|(refine Xx (o:=⟨_,_,_,_,_,_⟩) rfl (by rfl) ?_;simp only[Act.put,zs0,zs1,zs2]))
    refine Yq ?_;go_wp2_with fail
    go_ret2
    exact⟨by rw[hI.out];rfl,HW.out.2⟩
   ·have hI:Hid (I=false):=by show _=_;rw[hie.out,zdf hkn,Bool.false_and]
    have hknI:¬(k:Int)<(n:Int):=by omega
    clear hie hat hlt hW hbd;go_wp2_with fail;refine rgr [(0,true),(1,true),(2,true),(3,true),(4,true),(5,true),(6,true),(7,true),(8,true),(9,true),(10,true),(11,true),(12,true),(13,true),(14,true),(15,true)] (h:= ?_);rw[HW.out.1];iterate 16 (first|(refine grr (v:= ?_) rfl (by rfl) ?_ ?_;rotate_left;(intro w' hw';go_simp;with_reducible rfl);simp only[Act.put,zs0,zs1,zs2])|(refine Xx (o:=⟨_,_,_,_,_,_⟩) rfl (by rfl) ?_;simp only[Act.put,zs0,zs1,zs2]))
    refine Yq ?_;go_wp2_with fail
    go_ret2
    exact⟨by rw[hI.out];rfl,HW.out.2⟩
theorem Dz {w:World}{g o c n r:Nat}{es:List En}(hs:ES Y9 w (some ⟨g,o,none⟩) es)(hn:es.length=n)(hr:r≤n)(hnc:n≤c):
  ∃A3,(if c=r then some (⟨g,o,none⟩:Addr) else some ⟨g,o+r*2,none⟩)=A3∧ES Y9 w A3 (es.drop r)∧(A3=none→c-r=0):=by
 refine⟨_,rfl,?_,fun h=>by split at h<;>cases h⟩
 by_cases h:c=r
 ·rw[if_pos h,List.drop_of_length_le (by omega)];obtain⟨ht⟩:∃_:RT w g Y9.ty,True:=by
   rcases hs with ⟨h,_⟩|⟨g',o',h,ht,_⟩
   ·cases h
   ·cases h;exact⟨ht,trivial⟩
  exact .inr ⟨g,o,rfl,ht,fun j u hu=>by simp[Elt.row] at hu⟩
 ·rw[if_neg h];exact hs.drop r _ (by omega) rfl
set_option maxRecDepth 100000 in
theorem y1l (a:Option Addr)(n c:Nat)(es:List En)(key v:ByteArray)(w:World)(h:okK key=false∨2048<v.size):
  Calls prog 30 #[.slice a n c,.string key,.string v] w fun e w'=>e=.returned (.tuple #[Z0,.int .i64 (tpF es key v:Nat)])∧w=w':=by
 by_cases hk:okK key=false
 ·have ht:Hid (tpF es key v=1):=by show _=_;unfold tpF;rw[if_pos hk]
  have hk2:key.size<1∨40<key.size:=by
   unfold okK at hk;rw[decide_eq_false_iff_not] at hk;omega
  generalize tpF es key v=T at*
  by_cases h1:key.size<1
  ·have d1:decide ((key.size:Int)<1)=true:=zdt (by omega);clear hk hk2 h
   go_enter func30,ntmps30
   go_wp2
   go_ret2
   exact⟨by rw[ht.out];rfl,rfl⟩
  ·have d1:decide ((key.size:Int)<1)=false:=zdf (by omega);have d2:decide (40<(key.size:Int))=true:=zdt (by omega);clear hk hk2 h h1
   go_enter func30,ntmps30
   go_wp2
   go_ret2
   exact⟨by rw[ht.out];rfl,rfl⟩
 ·have hk2:1≤key.size∧key.size≤40:=Xv (by simpa using hk);have hv:2048<v.size:=by rcases h with h|h;exact absurd h hk;exact h
  have ht:Hid (tpF es key v=5):=by show _=_;unfold tpF;rw[if_neg hk,if_pos hv]
  generalize tpF es key v=T at*;have d1:decide ((key.size:Int)<1)=false:=zdf (by omega);have d2:decide (40<(key.size:Int))=false:=zdf (by omega);have d3:decide (2048<(v.size:Int))=true:=zdt (by omega);clear hk hk2 h hv
  go_enter func30,ntmps30
  go_wp2
  go_ret2
  exact⟨by rw[ht.out];rfl,rfl⟩
set_option maxRecDepth 100000 in
theorem z2r (a:Option Addr)(n c:Nat)(es:List En)(key v:ByteArray)(w:World)(hn:es.length=n)(hs:ES Y9 w a es)(hl:n≤100000)(hk:okK key=true)(hv:v.size≤2048)(hI:isE es key=false)(h4:4096≤n):
  Calls prog 30 #[.slice a n c,.string key,.string v] w fun e w'=>e=.returned (.tuple #[Z0,.int .i64 (tpF es key v:Nat)])∧zB w w':=by
 have hk2:=Xv hk;have ht:Hid (tpF es key v=7):=by show _=_;unfold tpF;rw[if_neg (by rw[hk];decide),if_neg (by omega),if_pos ⟨hI,by omega⟩]
 have Hat:=zh (XD a n c es key w hn hs hl);rw[hI] at Hat;generalize tpF es key v=T at*;have d1:decide ((key.size:Int)<1)=false:=zdf (by omega);have d2:decide (40<(key.size:Int))=false:=zdf (by omega);have d3:decide (2048<(v.size:Int))=false:=zdf (by omega);have d4:decide ((4096:Int)≤(n:Int))=true:=zdt (by omega);clear hk hk2 hv hI h4 hs hn
 go_enter func30,ntmps30
 go_wp2_with fail;refine Hat.out.mono ?_;rintro e w1 ⟨rfl,hb1⟩;have HB:=zh hb1;clear hb1 Hat;go_wp2
 go_ret2
 exact⟨by rw[ht.out];rfl,HB.out⟩
set_option maxRecDepth 100000 in
theorem z67 (a:Option Addr)(n c:Nat)(es:List En)(key v:ByteArray)(w:World)(hn:es.length=n)(hs:ES Y9 w a es)(hl:n≤100000)(hz:a=none→c=0)(hnc:n≤c)(hcm:c≤maxLen)(hk:okK key=true)(hv:v.size≤2048)(hno:isE es key=false→n<4096):
  Calls prog 30 #[.slice a n c,.string key,.string v] w fun e w'=>∃u,e=.returned (.tuple #[u,.int .i64 0])∧EV Y9 w' u (rep es key [⟨key,v,[]⟩])∧zB w w':=by
 have hk2:=Xv hk;have Hat:=zh (XD a n c es key w hn hs hl);have d1:decide ((key.size:Int)<1)=false:=zdf (by omega);have d2:decide (40<(key.size:Int))=false:=zdf (by omega);have d3:decide (2048<(v.size:Int))=false:=zdf (by omega);have hle:=QD es key;have hgo:Tx es key=if isE es key=true then 1 else 0:=rfl
 have hcm':c≤9223372036854775807:=by unfold maxLen at hcm;omega
 --what stands behind the appends
 have key1:∀(w1:World) (A2 A3:Option Addr) (r:Nat),r=fE es key+Tx es key→zB w w1→ES Y9 w A2 (es.take (fE es key))→(A2=none→c=0)→ES Y9 w A3 (es.drop r)→(A3=none→c-r=0)→
   ∃v2 w2,(Builtin.append_ #[My,My] My #[Z0,.slice A2 (fE es key) c]).run prog w1=.ok v2 w2∧∃v3 w3,(Builtin.append_ #[My,My] My #[v2,.slice (some ⟨w2.heap.size,0,none⟩) 1 1]).run prog (w2.alloc (.cells #[.string key,.string v] RET))=.ok v3 w3∧
    ∃v4 w4,(Builtin.append_ #[My,My] My #[v3,.slice A3 (n-r) (c-r)]).run prog w3=.ok v4 w4∧EV Y9 w4 v4 (rep es key [⟨key,v,[]⟩])∧zB w w4:=fun w1 A2 A3 r hr hb1 h2 hz2 h3 hz3=>by
  have hF:fE es key≤n:=by omega
  obtain⟨v2,w2,r2,hb2,ho2⟩:=Xu (P:=prog) (w:=w1) (E:=Y9) w.heap.size My My RET underlying29 z0a Z0 0 [] (World.ownsRow_nil _ _ _ _) hb1.size A2 (fE es key) c (es.take (fE es key)) (by rw[zlk];omega) hz2 (h2.below hb1 (zlr _)) (by unfold maxLen;omega) (by show _*32≤_;omega);have hbw2:=hb1.trans hb2;have hba:zB w2 (w2.alloc (.cells #[.string key,.string v] RET)):=(zbr _ _).alloc (zlr _) _;have hbwa:=hbw2.trans (hba.mono hbw2.size);have hlit:ES Y9 (w2.alloc (.cells #[.string key,.string v] RET)) (some ⟨w2.heap.size,0,none⟩) [⟨key,v,[]⟩]:=ES.lit (E:=Y9) (l:=[⟨key,v,[]⟩]) (Y7 w2 _ _);obtain⟨v3,w3,r3,hb3,ho3⟩:=Xu (P:=prog) (w:=w2.alloc (.cells #[.string key,.string v] RET)) (E:=Y9) w.heap.size My My RET underlying29 z0a v2 (0+fE es key) ([]++es.take (fE es key)) (ho2.alloc _) hbwa.size (some ⟨w2.heap.size,0,none⟩) 1 1 [⟨key,v,[]⟩] rfl (fun h=>by cases h) hlit (by unfold maxLen;omega) (by show _*32≤_;omega);have hbw3:=hbwa.trans hb3;obtain⟨v4,w4,r4,hb4,ho4⟩:=Xu (P:=prog) (w:=w3) (E:=Y9) w.heap.size My My RET underlying29 z0a v3 (0+fE es key+1) ([]++es.take (fE es key)++[⟨key,v,[]⟩]) ho3 hbw3.size A3 (n-r) (c-r) (es.drop r) (by rw[zld,hn]) hz3 (h3.below hbw3 (zlr _)) (by unfold maxLen;omega) (by show _*32≤_;omega);refine⟨v2,w2,r2,v3,w3,r3,v4,w4,r4,U3 (B:=w.heap.size) (T:=RET) ?_,hbw3.trans hb4⟩;have e1:rep es key [⟨key,v,[]⟩]=[]++es.take (fE es key)++[⟨key,v,[]⟩]++es.drop r:=by rw[hr];unfold rep;simp
  have e2:(rep es key [⟨key,v,[]⟩]).length=0+fE es key+1+(n-r):=by rw[e1];simp only[zla,zlk,zld,List.length_cons,List.length_nil];omega
  rw[e2,e1];exact ho4
 have Key1:=zh key1;clear key1 hk hk2 hv
 rcases hs with ⟨rfl,rfl⟩|⟨g,o,rfl,hc⟩
 ·obtain rfl:n=0:=hn.symm;obtain rfl:=hz rfl;have hI:isE ([]:List En) key=false:=rfl;have hF:fE ([]:List En) key=0:=rfl;rw[hI,hF] at Hat;have K1:Hid (∀w1,zB w w1→_):=fun w1 h1=>Key1.out w1 none none 0 rfl h1 (ES.nil _) (fun _=>rfl) (ES.nil _) (fun _=>rfl)
  rw[hF] at K1;have z00:IntKind.i64.wrap 0=0:=by decide
  clear Key1 hle hgo hnc hcm hcm' hl hz hno hn hI hF
  go_enter func30,ntmps30
  go_wp2_with fail;refine Hat.out.mono ?_;rintro e w1 ⟨rfl,hb1⟩;obtain⟨v2,w2,r2,v3,w3,r3,v4,w4,r4,hev,hb⟩:=K1.out w1 hb1;have Hev:=zh (zai hev hb);clear hev hb hb1 K1 Hat
  go_wp2_with (at_builtin;first|refine Lib.wpList_append_run _ rfl (.tmp 35) (.tmp 38) _ _ rfl _ _ (by rfl) (by rfl) _ _ r2 ?_|refine Lib.wpList_append_run _ rfl (.tmp 39) (.tmp 43) _ _ rfl _ _ (by rfl) (by rfl) _ _ r3 ?_|refine Lib.wpList_append_run _ rfl (.tmp 48) (.tmp 51) _ _ rfl _ _ (by rfl) (by rfl) _ _ r4 ?_)
  go_ret2
  exact⟨v4,rfl,Hev.out.1,Hev.out.2⟩
 ·have hs:ES Y9 w (some ⟨g,o,none⟩) es:=.inr ⟨g,o,rfl,hc⟩;have hF:fE es key≤n:=by omega
  have hs2:=hs.take (fE es key);have z0:IntKind.i64.wrap ((fE es key:Nat):Int)=((fE es key:Nat):Int):=by rw[IntKind.wrap_i64];omega
  cases hI:isE es key with
  | false=>
   rw[hI] at Hat;have hgo0:Tx es key=0:=by rw[hgo,hI];rfl
   obtain⟨A3,hA3,hs3,hz3⟩:=Dz hs hn hF hnc;have K1:=zh (fun w1 h1=>Key1.out w1 _ A3 (fE es key) (by omega) h1 hs2 (fun h=>by cases h) hs3 hz3);have d4:decide ((4096:Int)≤(n:Int))=false:=zdf (by have:=hno hI;omega);have i1:(0:Int)≤((fE es key:Nat):Int):=by omega
   have i2:((fE es key:Nat):Int)≤(c:Int):=by omega
   have i3:((fE es key:Nat):Int)≤(n:Int):=by omega
   have i5:(n:Int)≤(c:Int):=by omega
   have j2:fE es key≤c:=by omega
   clear Key1 hle hgo hcm hl hz hno hn hI hgo0 hs hs2 hs3 hz3 hc;generalize fE es key=F at*
   go_enter func30,ntmps30
   go_wp2_with fail;refine Hat.out.mono ?_;rintro e w1 ⟨rfl,hb1⟩;obtain⟨v2,w2,r2,v3,w3,r3,v4,w4,r4,hev,hb⟩:=K1.out w1 hb1;have Hev:=zh (zai hev hb);clear hev hb hb1 K1 Hat
   go_wp2_with (at_builtin;first|refine Lib.wpList_append_run _ rfl (.tmp 35) (.tmp 38) _ _ rfl _ _ (by rfl) (by rfl) _ _ r2 ?_|refine Lib.wpList_append_run _ rfl (.tmp 39) (.tmp 43) _ _ rfl _ _ (by rfl) (by rfl) _ _ r3 ?_|refine Lib.wpList_append_run _ rfl (.tmp 48) (.tmp 51) _ _ rfl _ _ (by rfl) (by rfl) _ _ r4 ?_)
   go_ret2
   exact⟨v4,rfl,Hev.out.1,Hev.out.2⟩
  | true=>
   rw[hI] at Hat;have hgo1:Tx es key=1:=by rw[hgo,hI];rfl
   obtain⟨r,hr⟩:∃r,r=fE es key+1:=⟨_,rfl⟩
   have hrn:r≤n:=by omega
   obtain⟨A3,hA3,hs3,hz3⟩:=Dz hs hn hrn hnc;have K1:=zh (fun w1 h1=>Key1.out w1 _ A3 r (by omega) h1 hs2 (fun h=>by cases h) hs3 hz3);have z1:IntKind.i64.wrap (((fE es key:Nat):Int)+1)=(r:Int):=by rw[IntKind.wrap_i64];omega
   have z2:IntKind.i64.wrap (r:Int)=(r:Int):=by rw[IntKind.wrap_i64];omega
   have z3:((fE es key:Nat):Int)+1=(r:Int):=by omega
   have i1:(0:Int)≤((fE es key:Nat):Int):=by omega
   have i2:((fE es key:Nat):Int)≤(c:Int):=by omega
   have i3:((fE es key:Nat):Int)≤(n:Int):=by omega
   have i5:(n:Int)≤(c:Int):=by omega
   have i6:(r:Int)≤(n:Int):=by omega
   have i7:(0:Int)≤(r:Int):=by omega
   have j2:fE es key≤c:=by omega
   clear Key1 hle hgo hcm hl hz hno hn hI hgo1 hs hs2 hs3 hz3 hc hr;generalize fE es key=F at*
   go_enter func30,ntmps30
   go_wp2_with fail;refine Hat.out.mono ?_;rintro e w1 ⟨rfl,hb1⟩;obtain⟨v2,w2,r2,v3,w3,r3,v4,w4,r4,hev,hb⟩:=K1.out w1 hb1;have Hev:=zh (zai hev hb);clear hev hb hb1 K1 Hat
   go_wp2_with (at_builtin;first|refine Lib.wpList_append_run _ rfl (.tmp 35) (.tmp 38) _ _ rfl _ _ (by rfl) (by rfl) _ _ r2 ?_|refine Lib.wpList_append_run _ rfl (.tmp 39) (.tmp 43) _ _ rfl _ _ (by rfl) (by rfl) _ _ r3 ?_|refine Lib.wpList_append_run _ rfl (.tmp 48) (.tmp 51) _ _ rfl _ _ (by rfl) (by rfl) _ _ r4 ?_)
   go_ret2
   exact⟨v4,rfl,Hev.out.1,Hev.out.2⟩
theorem JG (a:Option Addr)(n c:Nat)(es:List En)(key v:ByteArray)(w:World)(hn:es.length=n)(hs:ES Y9 w a es)(hl:n≤100000)(hz:a=none→c=0)(hnc:n≤c)(hcm:c≤maxLen):
  Calls prog 30 #[.slice a n c,.string key,.string v] w fun e w'=>∃u,e=.returned (.tuple #[u,.int .i64 (tpF es key v:Nat)])∧EV Y9 w' u (tpL es key v)∧zB w w':=by
 by_cases hk:okK key=false∨2048<v.size
 ·refine(y1l a n c es key v w hk).mono ?_;rintro e w' ⟨rfl,rfl⟩;refine⟨_,rfl,?_,zbr _ _⟩;have:tpL es key v=[]:=by
   unfold tpL tpF
   rcases hk with hk|hk
   ·rw[if_pos hk];rfl
   ·by_cases hk1:okK key=false
    ·rw[if_pos hk1];rfl
    ·rw[if_neg hk1,if_pos hk];rfl
  rw[this];exact EV.none _
 ·have hk1:okK key=true:=by simpa using fun h=>hk (.inl h)
  have hv1:v.size≤2048:=by
   rcases zng 2048 v.size with h|h
   ·exact absurd (.inr h) hk
   ·exact h
  by_cases hf:isE es key=false∧4096≤n
  ·refine(z2r a n c es key v w hn hs hl hk1 hv1 hf.1 hf.2).mono ?_;rintro e w' ⟨rfl,hb⟩;refine⟨_,rfl,?_,hb⟩;have h7:tpF es key v=7:=by unfold tpF;rw[if_neg (by rw[hk1];decide),if_neg (by omega),if_pos ⟨hf.1,by omega⟩]
   have:tpL es key v=[]:=by unfold tpL;rw[h7];rfl
   rw[this];exact EV.none _
  ·refine(z67 a n c es key v w hn hs hl hz hnc hcm hk1 hv1 (fun h=>by
    rcases zng n 4096 with h2|h2
    ·exact h2
    ·exact absurd ⟨h,h2⟩ hf)).mono ?_
   rintro e w' ⟨u,rfl,hev,hb⟩;have ht:tpF es key v=0:=by unfold tpF;rw[if_neg (by rw[hk1];decide),if_neg (by omega),if_neg (by rw[hn];exact hf)]
   exact⟨u,by rw[ht];rfl,by unfold tpL;rw[ht];exact hev,hb⟩
set_option maxRecDepth 100000 in
theorem z2s (a b:Option Addr)(n c d:Nat)(es:List En)(w:World)(hn:es.length=n)(h1:ES Y9 w a es)(h2:ES Y9 w b es)(hl:n≤100000):
  Calls prog 18 #[.slice a n c,.slice b n d] w fun e w'=>e=.returned (.bool true)∧zB w w':=by
 have H1:=zh h1;have H2:=zh h2;have Hn:=zh hn;clear h1 h2 hn
 go_enter func18,ntmps18
 go_wp2_with fail
 go_loopw [5] (fun i wr=>∃k:Nat,i=.int .i64 k∧k≤n∧Hid (zB w wr)) (fun i _=>n-(intOf i).toNat)
 case atStart=>exact⟨0,rfl,by omega,zbr _ _⟩
 case round=>
  obtain⟨k,rfl,hk,hB⟩:=hrel
  by_cases hlt:k<n
  ·obtain⟨g,o,rfl,hcell⟩:=(H1.out.below hB.out (zlr _)).ents (by rw[Hn.out];omega);obtain⟨g2,o2,rfl,hcell2⟩:=(H2.out.below hB.out (zlr _)).ents (by rw[Hn.out];omega);obtain⟨p0,p1⟩:=hcell k (by rw[Hn.out];exact hlt);obtain⟨p2,p3⟩:=hcell2 k (by rw[Hn.out];exact hlt);obtain⟨W,hW⟩:∃W,wr.drew=W:=⟨_,rfl⟩
   have hbd:zB wr W:=by rw[←hW];exact(zbr _ _).drew
   have l0:=block_lt_of_cell p0;have l1:=block_lt_of_cell p2;have q0:∀w',Ext W w'→w'.cell? ⟨g,o+k*2,none⟩=some (.string (ea es k).k):=fun w' hx=>by
    rw[(hbd.trans (hx.mono hbd.size)).cell (p:=⟨g,o+k*2,none⟩) l0];exact p0
   have q1:∀w',Ext W w'→w'.cell? ⟨g,o+k*2+1,none⟩=some (.string (ea es k).v):=fun w' hx=>by
    rw[(hbd.trans (hx.mono hbd.size)).cell (p:=⟨g,o+k*2+1,none⟩) l0];exact p1
   have q2:∀w',Ext W w'→w'.cell? ⟨g2,o2+k*2,none⟩=some (.string (ea es k).k):=fun w' hx=>by
    rw[(hbd.trans (hx.mono hbd.size)).cell (p:=⟨g2,o2+k*2,none⟩) l1];exact p2
   have q3:∀w',Ext W w'→w'.cell? ⟨g2,o2+k*2+1,none⟩=some (.string (ea es k).v):=fun w' hx=>by
    rw[(hbd.trans (hx.mono hbd.size)).cell (p:=⟨g2,o2+k*2+1,none⟩) l1];exact p3
   have HW:=zh hW;have HB2:=zh (hB.out.trans (hbd.mono hB.out.size));generalize ea es k=y at*;obtain⟨y0,y1⟩:=y;dsimp only at q0 q1 q2 q3;have i1:(0:Int)≤(k:Int):=by omega
   have i2:(k:Int)<(n:Int):=by omega
   have z0:IntKind.i64.wrap (k:Int)=(k:Int):=by rw[IntKind.wrap_i64];omega
   clear p0 p1 p2 p3 hcell hcell2 l0 l1 hbd hW hB;go_wp2_with fail;refine rgr [(0,true),(1,true),(2,true),(3,true),(4,true),(5,true),(6,true),(7,true),(8,true)] (h:= ?_);rw[HW.out];iterate 9 (refine grr (v:= ?_) rfl (by rfl) ?_ ?_;rotate_left;(intro w' hw';go_simp;with_reducible rfl);simp only[Act.put,zs0,zs1,zs2])
   refine Yq ?_;clear q0 q1 q2 q3;go_wp2_with fail
   go_roundw
   case rel=>exact⟨k+1,by go_num,by omega,HB2⟩
   case measure=>simp[intOf];omega
  ·obtain rfl:k=n:=by omega
   go_wp2;go_ret;exact⟨rfl,hB.out⟩
end Go.Proofs.YtdgladhfibfdlaaGreatDoor
namespace Go.Proofs.YtdgladhfibfdlaaGreatDoor
open Go.ChangeShapes Go.WideShapes Go.RowKit Go.Deep Go.Proofs.Tryz
theorem y49:prog.cellsOf 22=1:=by kernel_rfl
theorem z68:prog.cellsOf 23=2:=by kernel_rfl
theorem y1m:prog.cellsOf 9=1:=by kernel_rfl
theorem y1n:prog.cellsOf 3=1:=by kernel_rfl
theorem y5a:prog.cellsOf ACT=3:=by kernel_rfl
theorem y5b (l:List Value)(h:l.length=2):∃a b,l=[a,b]:=by
 match l,h with
 | [a,b],_=>exact⟨a,b,rfl⟩
theorem z69 (l:List Value)(h:l.length=3):∃a b c,l=[a,b,c]:=by
 match l,h with
 | [a,b,c],_=>exact⟨a,b,c,rfl⟩
set_option maxRecDepth 100000 in
theorem z7a {H:Type}{enc:TypeId×Value→H}{W:World}{base:Nat}{v:Value}{d:DataW H}{p:List MemPlace}
  (hok:Value.okWide prog W .any base 23 v) (hj:DataW.Trod enc prog W 0 (fun _=>true) true 23 v d p):
  ∃x y:Nat,v=.agg #[.int .u16 x,.int .u16 y]∧x<65536∧y<65536:=by
 simp only[Value.okWide,underlying23] at hok;obtain⟨cs,rfl,hsz,_⟩:=hok;rw[z68] at hsz;obtain⟨fuel,hf⟩:=hj;obtain⟨u,t,hl⟩:=y5b cs.toList (by simpa using hsz);have hcs:(Value.agg cs).cells.toList=[u,t]:=hl;rw[hcs] at hf;obtain⟨xs,m,_,_,_,hxl,hx⟩:=DataW.trod_array underlying23 hf;have h0:=hx 0 (by omega);have h1:=hx 1 (by omega);rw[y49] at h0 h1;rw[List.getElem?_eq_getElem (by omega)] at h0 h1;obtain⟨a,ha,_,wa⟩:=DataW.trod_int underlying22 h0;obtain⟨b,hb,_,wb⟩:=DataW.trod_int underlying22 h1;simp at ha hb;subst ha;subst hb;have ba:=bounds_u16 wa;have bb:=bounds_u16 wb;refine⟨a.toNat,b.toNat,?_,by omega,by omega⟩;have:cs= #[.int .u16 a,.int .u16 b]:=Array.toList_inj.1 hl;rw[this]
 congr 3
 ·congr 1;omega
 ·congr 2;omega
set_option maxRecDepth 100000 in
theorem y9t {H:Type}{enc:TypeId×Value→H}{W:World}{ad:Addr}{n:Nat}{cs:List Value}{x:DataW H×List MemPlace}(hc:W.cells? 0 ad 3=some cs)(h:DataW.trod enc prog W 0 (fun _=>true) true n ACT cs=some x):
  ∃y:Ac,∀j v,([Value.int .i64 y.x,.string y.k,.string y.v]:List Value)[j]? =some v→W.cell? (ad.add j)=some v:=by
 obtain⟨_,hlen,hcell⟩:=World.cells?_some hc;obtain⟨v0,v1,v2,rfl⟩:=z69 cs hlen;obtain⟨xs,m,_,_,_,hxl,hx⟩:=DataW.trod_struct underlying64 h;have h0 := hx 0 { name := "Kind", type := 3, offset := 0, embedded := false, tag := "", pkgPath := "", byteOffset := 0 } rfl
 have h1 := hx 1 { name := "Key", type := 9, offset := 1, embedded := false, tag := "", pkgPath := "", byteOffset := 8 } rfl
 have h2 := hx 2 { name := "Value", type := 9, offset := 2, embedded := false, tag := "", pkgPath := "", byteOffset := 24 } rfl
 dsimp only at h0 h1 h2;simp only[y1m,y1n,List.drop_zero,List.drop_succ_cons,List.take_succ_cons,List.take_zero] at h0 h1 h2;have hxl':xs.length=3:=hxl;rw[List.getElem?_eq_getElem (by omega)] at h0 h1 h2;obtain⟨z,hz,_,_⟩:=DataW.trod_int underlying3 h0;obtain⟨a,ha,_⟩:=DataW.trod_string underlying9 h1;obtain⟨b,hb,_⟩:=DataW.trod_string underlying9 h2;simp at hz ha hb;subst hz ha hb;refine⟨⟨z,a,b⟩,fun j v hv=> ?_⟩;have hj:j<3:=by
  have:=(List.getElem?_eq_some_iff.1 hv).1;simpa using this
 have e:=hcell j hj
 rcases j with _|_|_|j
 ·simp at hv;rw[e,←hv];rfl
 ·simp at hv;rw[e,←hv];rfl
 ·simp at hv;rw[e,←hv];rfl
 ·omega
theorem yJ (f:Nat→Ac)(n i:Nat)(h:i<n):aca ((List.range n).map f) i=f i:=by
 unfold aca;rw[List.getD_eq_getElem?_getD,List.getElem?_map,List.getElem?_range h];rfl
set_option maxRecDepth 100000 in
theorem y5c {H:Type}{enc:TypeId×Value→H}{W:World}{base:Nat}{v:Value}{d:DataW H}{p:List MemPlace}
  (hok:Value.okWide prog W .any base 62 v) (hj:DataW.Trod enc prog W 0 (fun _=>true) true 62 v d p):
  ∃(a:Option Addr) (l:List Ac) (c:Nat),v=.slice a l.length c∧AS W a l∧l.length≤c∧c≤maxLen:=by
 obtain⟨a0,len0,cap0,rfl⟩:=okWide_slice underlying62 hok;obtain⟨fuel,hf⟩:=hj
 rcases open_slice underlying62 hf with ⟨hcs,_⟩|⟨ad,len,cap,m,n,D,Pl,hcs,_,hl,hm,hmm,hd,hx⟩
 ·simp only[Value.cells,List.cons.injEq,Value.slice.injEq,and_true] at hcs;obtain⟨rfl,rfl,rfl⟩:=hcs;exact⟨none,[],0,rfl,(fun h=>by cases h),zlr _,by unfold maxLen;omega⟩
 ·simp only[Value.cells,List.cons.injEq,Value.slice.injEq,and_true] at hcs;obtain⟨rfl,rfl,rfl⟩:=hcs;simp only[if_true] at hmm;rw[y5a] at hx;obtain⟨f,hf'⟩:=choose_lt (α:=Ac) (n:=len0) (p:=fun i y=>∀j v,([Value.int .i64 y.x,.string y.k,.string y.v]:List Value)[j]? =some v→W.cell? ((ad.add (i*3)).add j)=some v) (fun i hi=>by
   obtain⟨cs',h1,h2⟩:=hx i (by omega);exact y9t h1 h2)
  refine⟨some ad,(List.range len0).map f,cap0,by simp,?_,by simp;exact hl,hm⟩;intro h0;simp at h0;obtain⟨b,o,spot⟩:=ad;have hspot:spot=none:=by
   have:=hf' 0 (by omega) 0 _ rfl
   simpa [Addr.add] using World.cell?_spot this
  subst hspot;refine⟨b,o,rfl,fun i hi=> ?_⟩;simp at hi;rw[yJ _ _ _ hi];have h3:=hf' i hi;have h4:∀j v,([Value.int .i64 (f i).x,.string (f i).k,.string (f i).v]:List Value)[j]? =some v→W.cell? ⟨b,o+i*3+j,none⟩=some v:=fun j v hv=>by
   have:=h3 j v hv
   rwa [U9,U9] at this
  exact⟨h4 0 _ rfl,h4 1 _ rfl,h4 2 _ rfl⟩
end Go.Proofs.YtdgladhfibfdlaaGreatDoor
namespace Go.Proofs.YtdgladhfibfdlaaGreatDoor
open Go Go.RowKit Go.Proofs.Tryz
set_option maxRecDepth 100000 in
theorem yK (a:Option Addr)(n c:Nat)(es:List En)(key:ByteArray)(w:World)(hn:es.length=n)(hs:ES Y9 w a es)(hl:n≤100000)(hz:a=none→c=0)(hnc:n≤c)(hcm:c≤maxLen):
  Calls prog 28 #[.slice a n c,.string key] w fun e w'=>∃u,e=.returned (.tuple #[u,.bool (isE es key)])∧EV Y9 w' u (tdL es key)∧zB w w':=by
 have Hat:=zh (XD a n c es key w hn hs hl);have hle:=QD es key;have hgo:Tx es key=if isE es key=true then 1 else 0:=rfl
 have hcm':c≤9223372036854775807:=by unfold maxLen at hcm;omega
 cases hI:isE es key with
 | false=>
  rw[hI] at Hat;have ht:tdL es key=es:=by unfold tdL;rw[hI];rfl
  have Hev:Hid (EV Y9 w (.slice a n c) es):=⟨a,c,by rw[hn],hs,hz,by omega,hcm⟩
  rw[ht];clear hs hl hz hnc hcm hcm' hle hgo ht hI hn
  go_enter func28,ntmps28
  go_wp2_with fail;refine Hat.out.mono ?_;rintro e w1 ⟨rfl,hb1⟩;have HB:=zh hb1;have Hev1:=zh (Hev.out.ext hb1);clear hb1 Hat Hev;go_wp2
  go_ret2
  exact⟨_,rfl,Hev1.out,HB.out⟩
 | true=>
  rw[hI] at Hat
  rcases hs with ⟨rfl,rfl⟩|⟨g,o,rfl,hc⟩
  ·cases hI
  ·have hs:ES Y9 w (some ⟨g,o,none⟩) es:=.inr ⟨g,o,rfl,hc⟩;have hgo1:Tx es key=1:=by rw[hgo,hI];rfl
   have hF:fE es key≤n:=by omega
   have hs2:=hs.take (fE es key);have z0:IntKind.i64.wrap ((fE es key:Nat):Int)=((fE es key:Nat):Int):=by rw[IntKind.wrap_i64];omega
   obtain⟨r,hr⟩:∃r,r=fE es key+1:=⟨_,rfl⟩
   have hrn:r≤n:=by omega
   obtain⟨A3,hA3,hs3,hz3⟩:=Dz hs hn hrn hnc;have ht:tdL es key=[]++(es.take (fE es key)++es.drop r):=by unfold tdL rep;rw[if_pos hI,hgo1,hr];simp
   have K1:Hid (∀w1,zB w w1→∃v1 w2 v2 w3,(Builtin.append_ #[My,My] My #[.slice none (0:Nat) (0:Nat),.slice (some ⟨g,o,none⟩) (fE es key) c]).run prog w1.drew=.ok v1 w2∧Below w1.drew.heap.size w1.drew w2∧
     (Builtin.append_ #[My,My] My #[v1,.slice A3 (n-r) (c-r)]).run prog w2=.ok v2 w3∧Below w1.drew.heap.size w2 w3∧EV Y9 w3 v2 (tdL es key)∧zB w w3):=fun w1 hb1=>by
    have hbd:zB w w1.drew:=hb1.drew;obtain⟨v1,w2,v2,w3,h1,hb2,h2,hb12,hb3,hev⟩:=T7 (P:=prog) (w:=w1.drew) (E:=Y9) My My My RET underlying29 z0a none 0 [] rfl (ES.nil _) (some ⟨g,o,none⟩) (fE es key) c (es.take (fE es key)) (by rw[zlk];omega) (fun h=>by cases h) (hs2.below hbd (zlr _)) A3 (n-r) (c-r) (es.drop r) (by rw[zld,hn]) hz3 (hs3.below hbd (zlr _)) (by unfold maxLen;omega) (by show _*32≤_;omega);exact⟨v1,w2,v2,w3,h1,hb2,h2,hb12,by rw[ht];exact hev,hbd.trans (hb3.mono hbd.size)⟩
   have z1:IntKind.i64.wrap (((fE es key:Nat):Int)+1)=(r:Int):=by rw[IntKind.wrap_i64];omega
   have z2:IntKind.i64.wrap (r:Int)=(r:Int):=by rw[IntKind.wrap_i64];omega
   have z3:((fE es key:Nat):Int)+1=(r:Int):=by omega
   have i1:(0:Int)≤((fE es key:Nat):Int):=by omega
   have i2:((fE es key:Nat):Int)≤(c:Int):=by omega
   have i3:((fE es key:Nat):Int)≤(n:Int):=by omega
   have i5:(n:Int)≤(c:Int):=by omega
   have i6:(r:Int)≤(n:Int):=by omega
   have i7:(0:Int)≤(r:Int):=by omega
   have j2:fE es key≤c:=by omega
   have j3:r≤n:=hrn;have z00:IntKind.i64.wrap 0=0:=by decide
   generalize tdL es key=TD at*;clear hle hgo hcm hl hz hn hI hgo1 hs hs2 hs3 hz3 hc hr ht hrn;generalize fE es key=F at*
   go_enter func28,ntmps28
   go_wp2_with fail;refine Hat.out.mono ?_;rintro e w1 ⟨rfl,hb1⟩;obtain⟨v1,w2,v2,w3,h1,hb2,h2,hb12,hev,hb⟩:=K1.out w1 hb1;have Hev:=zh (zai hev hb);have e1:=zh (Yy hb2);have e2:=zh (Yy hb12);clear hev hb hb1 hb2 hb12 K1 Hat;go_wp2_with fail;refine rgt (F:=fun i=>w1.heap.size≤i) [(0,true),(1,true),(2,true),(3,true),(5,true),(6,true),(7,true),(8,true),(4,false),(9,false),(10,true),(11,true)] (h:= ?_);iterate 8 (refine gtr (v:= ?_) rfl (by rfl) ?_ ?_;rotate_left;(intro w' hw';go_simp;with_reducible rfl);simp only[Act.put,zs0,zs1,zs2])
   refine gtc rfl (by rfl) (fun K hK=> ?_);refine Y8 (.tmp 18) (.tmp 21) My rfl (by rfl) (by rfl) h1 ?_;refine hK _ _ e1.out ?_;simp only[Act.put,zs0,zs1,zs2];clear hK K h1;refine gtc rfl (by rfl) (fun K hK=> ?_);refine Y8 (.tmp 22) (.tmp 26) My rfl (by rfl) (by rfl) h2 ?_;refine hK _ _ e2.out ?_;simp only[Act.put,zs0,zs1,zs2];clear hK K h2;iterate 2 (refine gtr (v:= ?_) rfl (by rfl) ?_ ?_;rotate_left;(intro w' hw';go_simp;with_reducible rfl);simp only[Act.put,zs0,zs1,zs2])
   refine Yj ?_;go_wp2_with fail
   go_ret2
   exact⟨_,rfl,Hev.out.1,Hev.out.2⟩
end Go.Proofs.YtdgladhfibfdlaaGreatDoor
