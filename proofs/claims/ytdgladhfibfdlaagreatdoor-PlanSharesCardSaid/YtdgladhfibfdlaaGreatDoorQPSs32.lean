/-
  Steps.
-/
import Derived.Test.YtdgladhfibfdlaaGreatDoorQPSs28
namespace Go.Proofs.YtdgladhfibfdlaaGreatDoor
open Go Go.RowKit Go.Proofs.Tryz
set_option maxRecDepth 100000
def Qw (s:Nat→Bool)(l:List Nat)(m:Nat):Bool:=s m||decide (m∈l)
theorem z5n (s:Nat→Bool):Qw s []=s:=by funext m;simp[Qw]
theorem z5o (s:Nat→Bool)(l r:List Nat):Qw (Qw s l) r=Qw s (l++r):=by
 funext m;simp[Qw,Bool.or_assoc]
theorem z5p (s:Nat→Bool){l r:List Nat}(h:∀m,m∈l↔m∈r):Qw s l=Qw s r:=by
 funext m;unfold Qw;rw[decide_eq_decide.2 (h m)]
theorem XS (s:Nat→Bool)(p:Nat):YW s (p:Int)=Qw s [p]:=by
 funext m
 unfold YW Qw
 congr 1
 rw[decide_eq_decide,List.mem_singleton];exact Int.ofNat_inj
theorem y55 (es:List En)(k:Nat)(h:k<es.length):chL (es.take (k+1))=chL (es.take k)++(ea es k).ch:=by
 rw[Ew es k h,E7];simp[chL]
theorem Ry {o:Oper}{a:Act}{w:World}{K:Act→World→Prop}{Q:Exit→Act→World→Prop}(t:TypeId)(x:Operand)(ho:o.op=.load t x)(g:Nat)(f:Nat→Bool)(t2:TypeId)(hx:a.eval x=.pointer (some ⟨g,0,none⟩))(hT:y3l t 16)(hg:Blk w g t2 (sc f))
  (h:K (a.put o.dst (.agg (sc f))) w):o.wp prog a w K Q:=by
 unfold Oper.wp;rw[E3 t x ho g f t2 hx hT hg];exact h
theorem x2h (w1 w2:World)(v:NoV)(hb:Below (w1.alloc (.cells #[.int .i64 (v.pg:Nat),v.c,v.k,v.p] VT)).heap.size (w1.alloc (.cells #[.int .i64 (v.pg:Nat),v.c,v.k,v.p] VT)) w2):VB4 w2 w1.heap.size v:=by
 have hv1:VB4 (w1.alloc (.cells #[.int .i64 (v.pg:Nat),v.c,v.k,v.p] VT)) w1.heap.size v:=by show(w1.heap.push _)[w1.heap.size]? =_;rw[Array.getElem?_push_size]
 exact hv1.ext hb
structure UI (w0 wr:World) (g1 g2 g3:Nat) (f:Nat→Bool) (v:NoV):Prop where
 b1:Blk wr g1 TS (sc f)
 b2:Blk wr g2 TS (sc (fun _=>false))
 nv:VB4 wr g3 v
 lo:w0.heap.size≤g1∧w0.heap.size≤g2∧w0.heap.size≤g3∧g2≠g1∧g3≠g1∧g3≠g2
 bl:zB w0 wr
theorem UI.ext {w0 wr w':World}{g1 g2 g3:Nat}{f:Nat→Bool}{v:NoV}(h:UI w0 wr g1 g2 g3 f v)(hb:zB wr w'):UI w0 w' g1 g2 g3 f v:=
 ⟨h.b1.ext hb,h.b2.ext hb,h.nv.ext hb,h.lo,h.bl.trans (hb.mono h.bl.size)⟩
theorem UI.turn {w0 wr w':World}{g1 g2 g3:Nat}{f f':Nat→Bool}{v:NoV}(h:UI w0 wr g1 g2 g3 f v)(t:Zx (fun i=>i=g1) wr w')(hk:Blk w' g1 TS (sc f')):UI w0 w' g1 g2 g3 f' v:=
 ⟨hk,h.b2.turn t (fun e=>h.lo.2.2.2.1 e),t.hg h.nv (fun e=>h.lo.2.2.2.2.1 e),h.lo,h.bl.trans (t.below h.bl.size (fun i hi=>by subst hi;exact h.lo.1))⟩
theorem z1b (s:Nat→Bool)(v:NoV)(es:List En)(vs:List NoV)(ps:List Nat)(us:List (List Nat))(w:World)(hc:CV w v.c es)(hl:es.length≤100000)(hch:∀e∈es,e.ch.length≤100000)
  (hp:EV V8 w v.p ps) (hvs:vs.length=ps.length) (hnp:∀i,i<ps.length→NPv w (na ps i) (va vs i)) (hpl:ps.length≤100000) (hus:us.length=ps.length)
  (ih:∀i f w',i<ps.length→zB w w'→Calls prog 54 #[.agg (sc f),(va vs i).v] w' fun e w''=>e=.returned (.agg (sc (Qw f (us.getD i []))))∧zB w' w''):
  Calls prog 54 #[.agg (sc s),v.v] w fun e w'=>e=.returned (.agg (sc (Qw s ((if v.pg=0 then [] else [v.pg])++(chL es++us.flatten)))))∧zB w w':=by
 have Hcv:=zh hc;have Hp:=zh hp;have Hih:=zh ih;have Hnp:=zh hnp;have Hch:=zh hch;have Hl:=zh (zai hl (zai hpl (zai hvs hus)));clear hc hp ih hnp hch hl hpl hvs hus;have Hlaid:=zh (fun(w1:World) (hx:zB w w1)=>XM v es w1 (Hcv.out.below hx (zlr _)) Hl.out.1 Hch.out);have Hkids:=zh (fun(w1:World) (hx:zB w w1)=>XN v ps vs w1 (Hp.out.below hx (zlr _)) Hl.out.2.2.1 (fun i hi=>NP.ext (Hnp.out i hi) hx) Hl.out.2.1);obtain⟨PG,hPG⟩:∃PG:List Nat,(if v.pg=0 then [] else [v.pg])=PG:=⟨_,rfl⟩
 have HPG:=zh hPG;rw[hPG];clear Hp Hnp hPG
 go_enter func54,ntmps54
 go_wp2_with (first
  | (refine Zw rfl TS (.tmp 0) rfl (sc s) (by rfl) ?_;intro g1 w1 hg1 hk1 hb1)
  | (show wpList _ _ _ (⟨some 4,_,_,_,_,_⟩::_) _ _;refine Zv rfl TS rfl Tk ?_;intro g2 w2 hg2 hk2 hb2;have hv2:=x2h w1 w2 v hb2;have q0:=hv2.c0;have q1:=hv2.c1;have q2:=hv2.c2;have q3:=hv2.c3))
 clear q0 q1 q2 q3 hv2;have hv1:VB4 (w1.alloc (.cells #[.int .i64 (v.pg:Nat),v.c,v.k,v.p] VT)) w1.heap.size v:=by show(w1.heap.push _)[w1.heap.size]? =_;rw[Array.getElem?_push_size]
 have hba:zB w1 (w1.alloc (.cells #[.int .i64 (v.pg:Nat),v.c,v.k,v.p] VT)):=(zbr _ _).alloc (zlr _) _;have hs3:w1.heap.size+1≤g2:=by have:=hg2;simpa using this
 have hui:Hid (UI w w2 g1 g2 w1.heap.size s v):=⟨(hk1.ext hba).ext hb2,hk2,hv1.ext hb2,⟨hg1,by have:=hb1.size;omega,hb1.size,by have:=hk1.lt;omega,by have:=hk1.lt;omega,by omega⟩,hb1.trans ((hba.trans (hb2.mono hba.size)).mono hb1.size)⟩
 generalize w1.heap.size=g3 at*;clear hg1 hk1 hb1 hg2 hk2 hb2 hv1 hba hs3;refine(Kk v w2).mono ?_;rintro e w3 ⟨rfl,hb3⟩;replace hui:=zh (hui.out.ext hb3);clear hb3
 go_upto_if 12 with fail
 go_cut [] (fun wx=>Hid (UI w wx g1 g2 g3 (Qw s PG) v))
 case first=>
  by_cases h0:v.pg=0
  ·have e1:(!decide (v.pg=0))=false:=by rw[zdt h0];rfl
   have hfin:Hid (UI w w3 g1 g2 g3 (Qw s PG) v):=by rw[←HPG.out,if_pos h0,z5n];exact hui
   rw[e1];clear h0 e1;go_wp2;go_meet;exact hfin
  ·have e1:(!decide (v.pg=0))=true:=by rw[zdf h0];rfl
   rw[e1];obtain⟨W3,hW3⟩:∃W,w3.drew=W:=⟨_,rfl⟩
   have hd3:zB w3 W3:=by rw[←hW3];exact(zbr _ _).drew
   have hu3:=hui.out.ext hd3;have HW3:=zh hW3;have q:∀w',Zx (fun i=>i=g1) W3 w'→VB4 w' g3 v:=fun w' t=>t.hg hu3.nv (fun e=>hu3.lo.2.2.2.2.1 e)
   have q0:=fun w' t=>(q w' t).c0
   have q1:=fun w' t=>(q w' t).c1
   have q2:=fun w' t=>(q w' t).c2
   have q3:=fun w' t=>(q w' t).c3
   have hk3:=hu3.b1;have Hwt:=zh (fun w'=>z45 s (v.pg:Int) w');have Hu3:=zh hu3;have Hneg:=zh h0;clear hW3 hd3 hu3 hui q e1 h0;go_wp2_with fail;refine rgs (F:=fun i=>i=g1) (.rd 1 (.two 0 (.call 2 (.call 3 (.call 4 .done))) 2 (.call 0 (.call 3 (.call 4 .done))))) (h:= ?_);rw[HW3.out]
   (refine gsr (v:= ?_) rfl (by rfl) ?_ ?_;rotate_left;(intro w' hw';go_simp;with_reducible rfl);simp only[Act.put,zs0,zs1,zs2])
   clear q0 q1 q2 q3;refine⟨?_,?_⟩
   ·refine gsc rfl (by rfl) (fun K hK=> ?_);refine Ry TS (.tmp 2) rfl g1 _ TS (by rfl) Yz hk3 ?_;refine hK _ _ (Zx.refl _ _) ?_;simp only[Act.put,zs0,zs1,zs2];clear hK K;refine gsc rfl (by rfl) (fun K hK=> ?_);go_simp;refine(Nz v W3).mono ?_;rintro e w4 ⟨rfl,hb4⟩;refine hK _ _ (x3x hb4) ?_;clear hK K;have huA:=Hu3.out.ext hb4;clear hb4;refine gsc rfl (by rfl) (fun K hK=> ?_);go_simp;refine(Hwt.out w4).mono ?_;rintro e w5 ⟨rfl,hb5⟩;refine hK _ _ (x3x hb5) ?_;clear hK K;have hu5:=huA.ext hb5;have hk5:=hu5.b1;clear hb5 Hwt huA;refine gsc rfl (by rfl) (fun K hK=> ?_);refine X9 TS (.tmp 2) (.tmp 16) rfl g1 _ _ TS (by rfl) (by rfl) Yz hk5 ?_;intro w6 hk6 ht6 _;refine hK _ _ ht6 ?_;clear hK K;have hfin:Hid (UI w w6 g1 g2 g3 (Qw s PG) v):=by
     have h1:=hu5.turn ht6 hk6;rw[XS] at h1;rw[←HPG.out,if_neg Hneg.out];exact h1
    refine Zy ?_;go_wp2;go_meet;exact hfin
   ·refine gsc rfl (by rfl) (fun K hK=> ?_);go_simp;refine(Nz v W3).mono ?_;rintro e w4 ⟨rfl,hb4⟩;refine hK _ _ (x3x hb4) ?_;clear hK K;have huA:=Hu3.out.ext hb4;clear hb4;refine gsc rfl (by rfl) (fun K hK=> ?_);refine Ry TS (.tmp 2) rfl g1 _ TS (by rfl) Yz huA.b1 ?_;refine hK _ _ (Zx.refl _ _) ?_;simp only[Act.put,zs0,zs1,zs2];clear hK K;refine gsc rfl (by rfl) (fun K hK=> ?_);go_simp;refine(Hwt.out w4).mono ?_;rintro e w5 ⟨rfl,hb5⟩;refine hK _ _ (x3x hb5) ?_;clear hK K;have hu5:=huA.ext hb5;have hk5:=hu5.b1;clear hb5 Hwt huA;refine gsc rfl (by rfl) (fun K hK=> ?_);refine X9 TS (.tmp 2) (.tmp 16) rfl g1 _ _ TS (by rfl) (by rfl) Yz hk5 ?_;intro w6 hk6 ht6 _;refine hK _ _ ht6 ?_;clear hK K;have hfin:Hid (UI w w6 g1 g2 g3 (Qw s PG) v):=by
     have h1:=hu5.turn ht6 hk6;rw[XS] at h1;rw[←HPG.out,if_neg Hneg.out];exact h1
    refine Zy ?_;go_wp2;go_meet;exact hfin
 case rest=>
  have hui:=hcut;have Hu0:=zh hui.out;have q:=hui.out.nv;have q0:=q.c0;have q1:=q.c1;have q2:=q.c2;have q3:=q.c3;clear q hui hcut;go_wp2_with fail;refine(Hlaid.out wc Hu0.out.bl).mono ?_;rintro e w4 ⟨u,rfl,hoc,hb4⟩;obtain⟨n,hn⟩:∃n,es.length=n:=⟨_,rfl⟩
  have Hn:=zh hn;have hn9:n≤100000:=by have:=Hl.out.1;omega
  obtain⟨ua,uc,hu⟩:=hoc.form;subst hu;have Hu:=zh hoc.cv;rw[hn] at Hu⊢
  have Hu4:=zh (Hu0.out.ext hb4);clear hoc hb4 hn q0 q1 q2 q3 Hlaid Hu0;go_wp2_with fail
  go_loopw [8,20] (fun _ i wr=>∃k:Nat,i=.int .i64 k∧k≤n∧Hid (UI w wr g1 g2 g3 (Qw s (PG++chL (es.take k))) v)∧Hid (CV wr (.slice ua n uc) es)) (fun _ i _=>n-(intOf i).toNat)
  case atStart=>exact⟨0,rfl,by omega,by simp only[List.take_zero,chL,List.append_nil];exact Hu4,Hu⟩
  case round=>
   obtain⟨k,rfl,hk,hui,hcv⟩:=hrel
   by_cases hlt:k<n
   ·obtain⟨g,o,hua,hcell⟩:=y2c hcv.out (by rw[Hn.out];omega);subst hua;obtain⟨p0,p1,_,p2,⟨sa,sc',rfl,hsl,_⟩⟩:=hcell k (by rw[Hn.out];exact hlt);have hch9:=Hch.out (ea es k) (Mw (by rw[Hn.out];exact hlt));have htk:=y55 es k (by rw[Hn.out];exact hlt);have hba:zB wr (wr.alloc (.cells #[.string (ea es k).k,.string (ea es k).v,.slice sa (ea es k).ch.length sc'] TCT)):=(zbr _ _).alloc (zlr _) _;have Hui:=zh (hui.out.ext hba);have Hcv2:=zh (hcv.out.ext hba);have Hsl:=zh (hsl.below hba (zlr _));obtain⟨L,hL⟩:∃L,PG++chL (es.take k)=L:=⟨_,rfl⟩
    have hL2:Hid (PG++chL (es.take (k+1))=L++(ea es k).ch):=by show _=_;rw[htk,←List.append_assoc,hL]
    rw[hL] at Hui;generalize ea es k=y at*;obtain⟨yk,yv,yc⟩:=y;dsimp only at p0 p1 p2 hch9 hL2 Hsl;obtain⟨yn,hyn⟩:∃yn,yc.length=yn:=⟨_,rfl⟩
    have Hyn:=zh hyn;rw[hyn] at p2 hch9;rw[hyn] at Hui Hcv2 Hsl;clear hcell hba hui hcv hsl htk hL hyn;go_wp2_with fail;have hW5:∃W,(wr.alloc (.cells #[.string yk,.string yv,.slice sa yn sc'] TCT))=W:=⟨_,rfl⟩
    obtain⟨W5,hW5⟩:=hW5;rw[hW5] at Hui Hcv2 Hsl⊢
    clear hW5 p0 p1 p2
    go_loopw [8,27] (fun _ i wx=>∃j:Nat,i=.int .i64 j∧j≤yn∧Hid (UI w wx g1 g2 g3 (Qw s (L++yc.take j)) v)∧Hid (CV wx (.slice (some ⟨g,o,none⟩) n uc) es)∧Hid (ES pgE wx sa yc)) (fun _ i _=>yn-(intOf i).toNat)
    case atStart=>exact⟨0,rfl,by omega,by simp only[List.take_zero,List.append_nil];exact Hui,Hcv2,Hsl⟩
    case round=>
     obtain⟨j,rfl,hj,hui,hcv,hsl⟩:=hrel
     by_cases hlj:j<yn
     ·obtain⟨gp,op,hsa,hpc⟩:=hsl.out.pages (by rw[Hyn.out];omega);have q0:=hpc j (by rw[Hyn.out];exact hlj);have hwith:=zh (fun w'=>z45 (Qw s (L++yc.take j)) (na yc j:Int) w');have hst:Hid (sc (YW (Qw s (L++yc.take j)) (na yc j:Int))=sc (Qw s (L++yc.take (j+1)))):=by
       show _=_;rw[XS,z5o,Iw yc j (by rw[Hyn.out];exact hlj),List.append_assoc]
      rw[hst.out] at hwith;have hk1:=hui.out.b1;generalize na yc j=pj at*;subst hsa;clear hpc hst
      go_wp2_with (first|(show wpList _ _ _ (⟨some 31,_,_,_,_,_⟩::_) _ _;refine Z7 rfl TS (.tmp 2) rfl g1 _ TS (by rfl) Yz hk1 ?_))
      refine(hwith.out _).mono ?_;rintro e w6 ⟨rfl,hb6⟩;have hu6:=hui.out.ext hb6;have hk6:=hu6.b1;have hc6:=hcv.out.ext hb6;have hs6:=hsl.out.below hb6 (zlr _);clear hui hcv hsl hb6 hk1 hwith q0
      go_wp2_with (first|(refine Yx rfl TS (.tmp 2) (.tmp 33) rfl g1 _ _ TS (by rfl) (by rfl) Yz hk6 ?_;intro w7 hk7 ht7 _))
      have Hu7:=zh (hu6.turn ht7 hk7);have htf:TF w6 (fun i=>i=g1):=x4b (show w6.heap[g1]? =_ from hk6);have Hc7:=zh (hc6.turn ht7 htf);have Hs7:=zh (hs6.turn Dj ht7 htf);clear hu6 hk6 hc6 hs6 hk7 ht7 htf
      go_roundw
      case rel=>exact⟨j+1,by go_num,by omega,Hu7,Hc7,Hs7⟩
      case measure=>simp[intOf];omega
     ·obtain rfl:j=yn:=by omega
      have Hu7:Hid (UI w wr g1 g2 g3 (Qw s (PG++chL (es.take (k+1)))) v):=by
       rw[hL2.out];have h1:=hui.out;rw[List.take_of_length_le (by rw[Hyn.out];exact zlr _)] at h1;exact h1
      clear hui hsl hL2;go_wp2
      go_roundw
      case rel=>exact⟨k+1,by go_num,by omega,Hu7,hcv⟩
      case measure=>simp[intOf];omega
   ·obtain rfl:k=n:=by omega
    have Hu5:Hid (UI w wr g1 g2 g3 (Qw s (PG++chL es)) v):=by
     have h1:=hui.out;rw[List.take_of_length_le (by rw[Hn.out];exact zlr _)] at h1;exact h1
    have q:=Hu5.out.nv;have q0:=q.c0;have q1:=q.c1;have q2:=q.c2;have q3:=q.c3;obtain⟨L,hL⟩:∃L,PG++chL es=L:=⟨_,rfl⟩
    rw[hL] at Hu5;have HL:=zh hL;clear q hui hcv hL;go_wp2_with fail;refine(Hkids.out wr Hu5.out.bl).mono ?_;rintro e w6 ⟨u6,rfl,hon,hb6⟩;obtain⟨ka3,kc3,hu3,hs3,_⟩:=hon.ev;subst hu3;have hvl:vs.length=ps.length:=Hl.out.2.2.1;obtain⟨m,hm⟩:∃m,ps.length=m:=⟨_,rfl⟩
    have Hm:=zh hm;have hm9:m≤100000:=by have:=Hl.out.2.1;omega
    rw[hvl,hm];have Hs3:=zh hs3;have Hu6:=zh (Hu5.out.ext hb6);clear hon hb6 hs3 hvl hm q0 q1 q2 q3 Hu5;go_wp2_with fail
    go_loopw [10,39] (fun _ i wr=>∃k:Nat,i=.int .i64 k∧k≤m∧Hid (UI w wr g1 g2 g3 (Qw s (L++(us.take k).flatten)) v)∧Hid (ES Q2 wr ka3 vs)) (fun _ i _=>m-(intOf i).toNat)
    case atStart=>exact⟨0,rfl,by omega,by simp only[List.take_zero,List.flatten_nil,List.append_nil];exact Hu6,Hs3⟩
    case round=>
     obtain⟨k,rfl,hk,hui,hes⟩:=hrel
     by_cases hlt:k<m
     ·obtain⟨g,o,hua,hcell2⟩:=hes.out.nods (by have:=Hl.out.2.2.1;have:=Hm.out;omega);subst hua;obtain⟨p0,p1,p2,p3⟩:=hcell2 k (by have:=Hl.out.2.2.1;have:=Hm.out;omega);have hba:zB wr (wr.alloc (.cells #[.int .i64 ((va vs k).pg:Nat),(va vs k).c,(va vs k).k,(va vs k).p] VT)):=(zbr _ _).alloc (zlr _) _;have Hui:=zh (hui.out.ext hba);have hk1:=Hui.out.b1;have Hes:=zh (hes.out.below hba (zlr _));have Hcall:=zh (Hih.out k (Qw s (L++(us.take k).flatten)) (wr.alloc (.cells #[.int .i64 ((va vs k).pg:Nat),(va vs k).c,(va vs k).k,(va vs k).p] VT)) (by rw[Hm.out];exact hlt) Hui.out.bl);have hst:Hid (Qw (Qw s (L++(us.take k).flatten)) (us.getD k [])=Qw s (L++(us.take (k+1)).flatten)):=by
       show _=_;rw[z5o,List.take_succ_eq_append_getElem (by have:=Hl.out.2.2.2;have:=Hm.out;omega),List.flatten_append,List.append_assoc]
       congr 3
       simp[List.getD,show k<us.length by have:=Hl.out.2.2.2;have:=Hm.out;omega]
      rw[hst.out] at Hcall;clear hba hui hes hcell2 hst;generalize va vs k=x at*;obtain⟨xg,xa,xn,xc,ya,yn,yc,za,zn,zc⟩:=x;dsimp only[NoV.c,NoV.k,NoV.p,NoV.v] at*
      go_wp2_with (first|(show wpList _ _ _ (⟨some 43,_,_,_,_,_⟩::_) _ _;refine Z7 rfl TS (.tmp 2) rfl g1 _ TS (by rfl) Yz hk1 ?_))
      refine Hcall.out.mono ?_;rintro e w7 ⟨rfl,hb7⟩;have hu7:=Hui.out.ext hb7;have hk7:=hu7.b1;have he7:=Hes.out.below hb7 (zlr _);clear Hui Hes hb7 hk1 Hcall p0 p1 p2 p3
      go_wp2_with (first|(refine Yx rfl TS (.tmp 2) (.tmp 45) rfl g1 _ _ TS (by rfl) (by rfl) Yz hk7 ?_;intro w8 hk8 ht8 _))
      have Hu8:=zh (hu7.turn ht8 hk8);have He8:=zh (he7.tur ht8 (TyF.one (show w7.heap[g1]? =_ from hk7)) rfl);clear hu7 hk7 he7 hk8 ht8
      go_roundw
      case rel=>exact⟨k+1,by go_num,by omega,Hu8,He8⟩
      case measure=>simp[intOf];omega
     ·obtain rfl:k=m:=by omega
      have h1:=hui.out;rw[List.take_of_length_le (by have:=Hl.out.2.2.2;have:=Hm.out;omega)] at h1;have hk1:=h1.b1;have hk2:=h1.b2;have hlo:=h1.lo;have hbl:=h1.bl;clear hui hes h1
      go_wp2_with (first
       | (refine Z7 rfl TS (.tmp 2) rfl g1 _ TS (by rfl) Yz hk1 ?_)
       | (refine Yx rfl TS (.tmp 4) (.tmp 47) rfl g2 _ _ TS (by rfl) (by rfl) Yz hk2 ?_;intro w9 hk9 ht9 _))
      rw[←HL.out,List.append_assoc] at hk9;refine bodyPost_ret (v:=.agg (sc (Qw s (PG++(chL es++us.flatten))))) ?_ rfl ⟨rfl,hbl.trans (ht9.below hbl.size (fun i hi=>by subst hi;exact hlo.2.1))⟩;exact Vw Yz rfl _ _ g2 _ (by rfl) hk9
theorem JN (m:Nat):∀(ts:List Tr),m∈(ts.map uT).flatten↔m∈uL ts
 | []=>by rw[R9,Iv];simp
 | t::r=>by rw[List.map_cons,List.flatten_cons,List.mem_append,JN m r,Mx]
theorem z3k (m pg:Nat)(ks:List ByteArray)(ts:List Tr):m∈(if pg=0 then [] else [pg])++(chL []++(ts.map uT).flatten)↔m∈uT (.bran pg ks ts):=by
 rw[List.mem_append,List.mem_append,JN];unfold uT uL;rw[Tr.pgs,Tr.es];simp only[chL,List.not_mem_nil,false_or,List.mem_append,or_assoc]
theorem C9:∀(h:Nat) {lo hi:SB} (s:Nat→Bool) (v:NoV) (t:Tr) (w:World),Dk w h lo hi v t→t.sz≤504→(∀e∈t.es,e.ch.length≤100000)→
  Calls prog 54 #[.agg (sc s),v.v] w fun e w'=>e=.returned (.agg (sc (Qw s (uT t))))∧zB w w'
 | 0,lo,hi,s,v,t,w,hn,hz,hch=>by
  obtain⟨es,rfl,h1,h2,h3,_,_,h4⟩:=hn;rw[Tr.es] at hch;simp only[Tr.sz] at hz;have hr:=Vu (fun x hx=>(h4 x hx).1);have:=z1b s v es [] [] [] w h3 (by unfold Y3 at hz;omega) hch (by rw[h2];exact EV.none _) rfl (fun i hi=>by simp at hi) (by simp) rfl (fun i f w' hi _=>by simp at hi);rw[List.flatten_nil,List.append_nil] at this;unfold uT;rw[Tr.pgs,Tr.es];exact this
 | h+1,lo,hi,s,v,t,w,hn,hz,hch=>by
  obtain⟨ks,ps,ts,rfl,h1,h2,h3,hr⟩:=hn;rw[Tr.es] at hch;simp only[Tr.sz] at hz;obtain⟨vs,hvl,hvs⟩:=hr.vals;have hl:=hr.len;have hkr:=Y5 hr.factsT.2.2.2;have:=z1b s v [] vs ps (ts.map uT) w (by rw[h1];exact CV.none _) (by simp) (fun e he=>by cases he) h3 hvl (fun i hi=>(hvs i hi).1) (by unfold T8 at hz;omega) (by rw[List.length_map];omega) (fun i f w' hi hb=>by
   obtain⟨g1,g2,g3,g4⟩:=hvs i hi;have hm:ta ts i∈ts:=XQ (by omega);have e1:(ts.map uT).getD i []=uT (ta ts i):=by unfold ta;simp[List.getD,show i<ts.length by omega]
   rw[e1];exact C9 h f (va vs i) (ta ts i) w' (g2.ext hb) g4 (fun e he=>hch e (xB hm he)))
  rw[z5p s (z3k · v.pg ks ts)] at this;exact this
theorem Qz {w:World}{p:Option Addr}{ts:List Tr}{H:Nat}(h:Y6 w p ts H):(p=none∧ts=[]∧H=0)∨∃b h t v,p=some ⟨b,0,none⟩∧ts=[t]∧NPv w b v∧Dk w h none none v t∧t.sz≤504∧(0<h→3≤t.sz)∧t.es≠[]∧H=h+1:=by
 rcases h with h|⟨b,h,t,h1,h2,h3,h4⟩
 ·exact .inl h
 ·obtain⟨v,h5,h6⟩:=h3.val;exact .inr ⟨b,h,t,v,h1,h2,h5,h6,h4⟩
theorem x2i (t:Tr):uL [t]=uT t:=by
 unfold uL uT;rw[U4];simp[Pq]
theorem Nj (t:Tr):Z2 [t]=t.need:=by simp[Z2]
theorem z1c (p:Option Addr)(n:Int)(ts:List Tr)(H:Nat)(w:World)(ht:Y6 w p ts H)(hch:∀e∈esL ts,e.ch.length≤100000)(hnd:Z2 ts≤1000000):
  Calls prog 12 #[.agg #[.pointer p,.int .i64 n]] w fun e w'=>e=.returned (.int .i64 (Z2 ts:Nat))∧zB w w':=by
 obtain⟨W,hW,hT,hb⟩:=Z1 w TT #[.pointer p,.int .i64 n];have HW:=zh hW;have HB:=zh hb
 rcases Qz ht with ⟨rfl,rfl,_⟩|⟨b,h,t,v,rfl,rfl,hnp,hnv,hz,hz3,hne,_⟩
 ·have Hr:=zh (ZM n W);clear hW hT hb ht
  go_enter func12,ntmps12
  go_wp2_with fail;rw[HW.out];refine Hr.out.mono ?_;rintro e w1 ⟨rfl,hb1⟩;have Hb1:=zh (HB.out.trans (hb1.mono HB.out.size));clear hb1;go_wp2;go_ret;exact⟨rfl,Hb1.out.alloc Hb1.out.size _⟩
 ·have Hr:=zh (Fy b n v W (NP.ext hnp hb));rw[U4] at hch;rw[Nj] at hnd⊢
  have Hcall:=zh (fun(w':World) (hx:zB w w')=>z5i h v t w' (hnv.ext hx) hz hch hnd);clear hW hT hb ht hnp hnv hz hz3 hne hch;generalize t.need=N at*;obtain⟨pg,ca,cn,cc,ka,kn,kc,pa,pn,pc⟩:=v;dsimp only[NoV.c,NoV.k,NoV.p,NoV.v] at*
  go_enter func12,ntmps12
  go_wp2_with fail;rw[HW.out];refine Hr.out.mono ?_;rintro e w1 ⟨rfl,hb1⟩;have Hb1:=zh (HB.out.trans (hb1.mono HB.out.size));clear hb1;go_wp2_with fail;refine(Hcall.out _ (Hb1.out.alloc Hb1.out.size _)).mono ?_;rintro e w2 ⟨rfl,hb2⟩;have Hb2:=zh ((Hb1.out.alloc Hb1.out.size (.cells #[.int .i64 (pg:Nat),.slice ca cn cc,.slice ka kn kc,.slice pa pn pc] VT)).trans (hb2.mono (Hb1.out.alloc Hb1.out.size _).size));clear hb2;go_wp2;go_ret;exact⟨rfl,Hb2.out⟩
theorem Fu (p:Option Addr)(n:Int)(ts:List Tr)(H:Nat)(w:World)(ht:Y6 w p ts H):
  Calls prog 26 #[.agg #[.pointer p,.int .i64 n]] w fun e w'=>e=.returned (.int .i64 ((ts.headD (.leaf 0 [])).pg:Nat))∧zB w w':=by
 obtain⟨W,hW,hT,hb⟩:=Z1 w TT #[.pointer p,.int .i64 n];have HW:=zh hW;have HB:=zh hb;have main:∀(v:NoV) (B:Bool) (pg:Nat),v.pg=pg→(Calls prog 43 #[.agg #[.pointer p,.int .i64 n]] W fun e w'=>e=.returned (.tuple #[v.v,.bool B])∧zB W w')→
   Calls prog 26 #[.agg #[.pointer p,.int .i64 n]] w fun e w'=>e=.returned (.int .i64 (pg:Nat))∧zB w w':=fun v B pg hpg hr=>by
  have Hr:=zh hr;have Hp:=zh (fun w'=>Nz v w');rw[hpg] at Hp;have Hpg:=zh hpg;clear hW hT hb ht hr hpg;obtain⟨pg2,ca,cn,cc,ka,kn,kc,pa,pn,pc⟩:=v;dsimp only[NoV.c,NoV.k,NoV.p,NoV.v] at*
  go_enter func26,ntmps26
  go_wp2_with fail;rw[HW.out];refine Hr.out.mono ?_;rintro e w1 ⟨rfl,hb1⟩;have Hb1:=zh (HB.out.trans (hb1.mono HB.out.size));clear hb1;go_wp2_with fail;refine(Hp.out _).mono ?_;rintro e w2 ⟨rfl,hb2⟩;have Hb2:=zh ((Hb1.out.alloc Hb1.out.size (.cells #[.int .i64 (pg2:Nat),.slice ca cn cc,.slice ka kn kc,.slice pa pn pc] VT)).trans (hb2.mono (Hb1.out.alloc Hb1.out.size _).size));clear hb2;go_wp2;go_ret;exact⟨rfl,Hb2.out⟩
 rcases Qz ht with ⟨rfl,rfl,_⟩|⟨b,h,t,v,rfl,rfl,hnp,hnv,hz,hz3,hne,_⟩
 ·exact main ⟨0,none,0,0,none,0,0,none,0,0⟩ false 0 rfl (ZM n W)
 ·rw[show((([t]:List Tr).headD (.leaf 0 [])).pg)=t.pg from rfl,hnv.pg];exact main v true v.pg rfl (Fy b n v W (NP.ext hnp hb))
theorem z1d (p:Option Addr)(n:Int)(ts:List Tr)(H:Nat)(w:World)(ht:Y6 w p ts H)(hch:∀e∈esL ts,e.ch.length≤100000):
  Calls prog 24 #[.agg #[.pointer p,.int .i64 n]] w fun e w'=>e=.returned (.agg (sc (Qw (fun _=>false) (uL ts))))∧zB w w':=by
 obtain⟨W,hW,hT,hb⟩:=Z1 w TT #[.pointer p,.int .i64 n];have HW:=zh hW;have HB:=zh hb;have main:∀(v:NoV) (B:Bool) (f:Nat→Bool),(∀w',zB W w'→Calls prog 43 #[.agg #[.pointer p,.int .i64 n]] w' fun e w''=>e=.returned (.tuple #[v.v,.bool B])∧zB w' w'')→
   (B=false→f=fun _=>false)→(B=true→∀w',zB w w'→Calls prog 54 #[.agg (sc (fun _=>false)),v.v] w' fun e w''=>e=.returned (.agg (sc f))∧zB w' w'')→
   Calls prog 24 #[.agg #[.pointer p,.int .i64 n]] w fun e w'=>e=.returned (.agg (sc f))∧zB w w':=fun v B f hr hf hcall=>by
  have Hr:=zh hr;have Hf:=zh hf;have Hcall:=zh hcall;have HT:=zh (show TB W w.heap.size p n from hT);have hlW:w.heap.size<W.heap.size:=(zag.1 hT).1;clear hW hT hb ht hr hf hcall hch;obtain⟨pg,ca,cn,cc,ka,kn,kc,pa,pn,pc⟩:=v;dsimp only[NoV.c,NoV.k,NoV.p,NoV.v] at*
  go_enter func24,ntmps24
  go_wp2_with (first
   | (show wpList _ _ _ (⟨some 2,_,_,_,_,_⟩::_) _ _;rw[HW.out];refine Zv rfl TS rfl Tk ?_;intro g2 w2 hg2 hk2 hb2)
   | (show wpList _ _ _ (⟨some 3,_,_,_,_,_⟩::_) _ _;refine Zv rfl TS rfl Tk ?_;intro g3 w3 hg3 hk3 hb3;have q0:=((HT.out.ext hb2).ext hb3).c0;have q1:=((HT.out.ext hb2).ext hb3).c1))
  clear q0 q1;have hb23:=hb2.trans (hb3.mono hb2.size);refine(Hr.out w3 hb23).mono ?_;rintro e w4 ⟨rfl,hb4⟩;have hb24:=hb23.trans (hb4.mono hb23.size);have hB4:=HB.out.trans (hb24.mono HB.out.size);have hk2':=(hk2.ext hb3).ext hb4;have hk3':=hk3.ext hb4;have hg2':w.heap.size≤g2:=znt HB.out.size hg2;have hg3':w.heap.size≤g3:=Nat.le_trans (HB.out.trans (hb2.mono HB.out.size)).size hg3;have hne:g2≠g3:=by have:=hk2.lt;omega
  have hba:zB w4 (w4.alloc (.cells #[.int .i64 (pg:Nat),.slice ca cn cc,.slice ka kn kc,.slice pa pn pc] VT)):=(zbr _ _).alloc (zlr _) _;have hB5:=hB4.trans (hba.mono hB4.size);have hk2a:=hk2'.ext hba;have hk3a:=hk3'.ext hba;clear hb2 hb3 hb23 hb4 hb24 hB4 hk2 hk3 hk2' hk3' hg2 hg3 hba
  cases B with
  | false=>
   obtain rfl:=Hf.out rfl
   go_wp2_with (first
    | (refine Z7 rfl TS (.tmp 3) rfl g3 _ TS (by rfl) Yz hk3a ?_)
    | (refine Yx rfl TS (.tmp 2) (.tmp 15) rfl g2 _ _ TS (by rfl) (by rfl) Yz hk2a ?_;intro w9 hk9 ht9 _))
   refine bodyPost_ret (v:=.agg (sc (fun _=>false))) ?_ rfl ⟨rfl,hB5.trans (ht9.below hB5.size (fun i hi=>by subst hi;exact hg2'))⟩;exact Vw Yz rfl _ _ g2 _ (by rfl) hk9
  | true=>
   go_wp2_with (first
    | (show wpList _ _ _ (⟨some 12,_,_,_,_,_⟩::_) _ _;refine Z7 rfl TS (.tmp 3) rfl g3 _ TS (by rfl) Yz hk3a ?_))
   refine(Hcall.out (by trivial) _ hB5).mono ?_;rintro e w6 ⟨rfl,hb6⟩;have hB6:=hB5.trans (hb6.mono hB5.size);have hk2b:=hk2a.ext hb6;have hk3b:=hk3a.ext hb6;clear hk2a hk3a hb6 hB5
   go_wp2_with (first
    | (show wpList _ _ _ (⟨none,_,_,_,_,_⟩::_) _ _;refine Yx rfl TS (.tmp 3) (.tmp 14) rfl g3 _ _ TS (by rfl) (by rfl) Yz hk3b ?_;intro w7 hk7 ht7 _;have hk2c:=hk2b.turn ht7 hne)
    | (show wpList _ _ _ (⟨some 15,_,_,_,_,_⟩::_) _ _;refine Z7 rfl TS (.tmp 3) rfl g3 _ TS (by rfl) Yz hk7 ?_)
    | (show wpList _ _ _ (⟨none,_,_,_,_,_⟩::_) _ _;refine Yx rfl TS (.tmp 2) (.tmp 15) rfl g2 _ _ TS (by rfl) (by rfl) Yz hk2c ?_;intro w9 hk9 ht9 _))
   have hB7:=hB6.trans (ht7.below hB6.size (fun i hi=>by subst hi;exact hg3'));refine bodyPost_ret (v:=.agg (sc f)) ?_ rfl ⟨rfl,hB7.trans (ht9.below hB7.size (fun i hi=>by subst hi;exact hg2'))⟩;exact Vw Yz rfl _ _ g2 _ (by rfl) hk9
 rcases Qz ht with ⟨rfl,rfl,_⟩|⟨b,h,t,v,rfl,rfl,hnp,hnv,hz,hz3,hne,_⟩
 ·have e0:Qw (fun _=>false) (uL [])=fun _=>false:=by
   rw[z5p (fun _=>false) (l:=uL []) (r:=[]) (fun m=>by rw[R9,Iv];simp),z5n]
  rw[e0];exact main ⟨0,none,0,0,none,0,0,none,0,0⟩ false _ (fun w' _=>ZM n w') (fun _=>rfl) (fun h=>by cases h)
 ·rw[x2i];rw[U4] at hch;exact main v true _ (fun w' hx=>Fy b n v w' (NP.ext (NP.ext hnp hb) hx)) (fun h=>by cases h) (fun _ w' hx=>C9 h _ v t w' (hnv.ext hx) hz hch)
abbrev LYT:TypeId:=106
abbrev WRT:TypeId:=50
def XT:Elt (Nat×Nat):=⟨2,32,.agg #[.int .i64 0,Z0],fun x=> [.int .i64 (x.1:Nat),.slice (some ⟨x.2,0,none⟩) 512 512],fun _=>rfl,fun e u hu=>by
 simp only[List.mem_cons,List.not_mem_nil,or_false] at hu;rcases hu with rfl|rfl<;>rfl,by decide,rfl,fun T=>T==WRT⟩
theorem x2j:(prog.info? WRT).map (fun i=>(i.zero,i.size,i.bytes))=some (some XT.zero,XT.sz,XT.by_):=by kernel_rfl
def WRo (w:World):List (Nat×Nat)→List PgW→Prop
 | [],[]=>True
 | x::r,y::s=>(x.1=y.1∧Row w x.2 5 y.2∧y.2.length=512∧B8 y.2)∧WRo w r s
 | _,_=>False
theorem WRo.len {w:World}:∀{gs:List (Nat×Nat)} {ws:List PgW},WRo w gs ws→gs.length=ws.length
 | [],[],_=>rfl
 | _::_,_::_,h=>by rw[List.length_cons,List.length_cons,WRo.len h.2]
 | [],_::_,h=>h.elim
 | _::_,[],h=>h.elim
theorem WRo.snoc {w:World}{x:Nat×Nat}{y:PgW}:∀{gs:List (Nat×Nat)} {ws:List PgW},WRo w gs ws→x.1=y.1∧Row w x.2 5 y.2∧y.2.length=512∧B8 y.2→WRo w (gs++[x]) (ws++[y])
 | [],[],_,h=>⟨h,trivial⟩
 | _::_,_::_,h,h2=>⟨h.1,WRo.snoc h.2 h2⟩
 | [],_::_,h,_=>h.elim
 | _::_,[],h,_=>h.elim
theorem WRo.mono {w w':World}(hr:∀g l,Row w g 5 l→Row w' g 5 l):∀{gs:List (Nat×Nat)} {ws:List PgW},WRo w gs ws→WRo w' gs ws
 | [],[],_=>trivial
 | _::_,_::_,h=>⟨⟨h.1.1,hr _ _ h.1.2.1,h.1.2.2⟩,WRo.mono hr h.2⟩
 | [],_::_,h=>h.elim
 | _::_,[],h=>h.elim
theorem WRo.b {w:World}:∀{gs:List (Nat×Nat)} {ws:List PgW},WRo w gs ws→∀x∈ws,x.2.length=512∧B8 x.2
 | [],[],_,x,hx=>by cases hx
 | _::_,_::_,h,x,hx=>by
  rcases List.mem_cons.1 hx with rfl|hx
  ·exact h.1.2.2
  ·exact WRo.b h.2 x hx
 | [],_::_,h,_,_=>h.elim
 | _::_,[],h,_,_=>h.elim
def LF (w:World)(gl B:Nat)(i:Nat):Prop:=i=gl∨(B≤i∧∃A fz,w.heap[i]? =some (.cells A WRT fz))
def PLo (B:Nat)(v:Value):Prop:=∀a n c,v=.slice (some a) n c→a.block<B
structure LyI (w:World) (gl B:Nat) (ps:List Nat) (ws:List PgW):Prop where
 ex:∃vp vw gs,w.heap[gl]? =some (.cells #[vp,vw] LYT (0,0))∧(EV pgE w vp ps∧PLo B vp)∧w.ownsRow B WRT XT.sz vw gs.length (XT.row gs)∧WRo w gs ws
 lt:gl<B
 bz:B≤w.heap.size
 wo:Vz w
 wg:2<gl
theorem LF.trans {w w1 w2:World}{gl B:Nat}(h:Zx (LF w gl B) w w1)(k:Zx (LF w1 gl B) w1 w2):Zx (LF w gl B) w w2:=h.step k (fun i hi hl=>by
 rcases hi with rfl|⟨hB,A,fz,h2⟩
 ·exact .inl rfl
 ·by_cases hF:LF w gl B i
  ·exact hF
  ·exact .inr ⟨hB,A,fz,(h.block i hl hF).symm.trans h2⟩)
section
variable {w w':World} {gl B:Nat} {ps:List Nat} {ws:List PgW}
theorem LyI.tf (h:LyI w gl B ps ws):TF w (LF w gl B):=fun b hb=>by
 obtain⟨vp,vw,gs,h1,_⟩:=h.ex
 rcases hb with rfl|⟨_,A,fz,h2⟩
 ·exact⟨_,_,_,h1,by decide⟩
 ·exact⟨_,_,_,h2,by decide⟩
theorem LyI.not (h:LyI w gl B ps ws){b T:Nat}{A:Array Value}{fz:Nat×Nat}(hb:w.heap[b]? =some (.cells A T fz))(h1:T≠LYT:=by decide)(h2:T≠WRT:=by decide):¬LF w gl B b:=fun hF=>by
 obtain⟨vp,vw,gs,h3,_⟩:=h.ex
 rcases hF with rfl|⟨_,A',fz',h4⟩
 ·rw[h3] at hb;injection hb with hb
  injection hb with _ hb _
  exact h1 hb.symm
 ·rw[h4] at hb;injection hb with hb
  injection hb with _ hb _
  exact h2 hb.symm
theorem LyI.hg (h:LyI w gl B ps ws)(t:Zx (LF w gl B) w w'){b T:Nat}{A:Array Value}{fz:Nat×Nat}(hb:w.heap[b]? =some (.cells A T fz))(h1:T≠LYT:=by decide)(h2:T≠WRT:=by decide):w'.heap[b]? =some (.cells A T fz):=t.hg hb (h.not hb h1 h2)
theorem LyI.own (h:LyI w gl B ps ws)(t:Zx (LF w gl B) w w'){B' E sz n:Nat}{v:Value}{xs:List Value}(ho:w.ownsRow B' E sz v n xs)(h1:E≠LYT:=by decide)(h2:E≠WRT:=by decide):w'.ownsRow B' E sz v n xs:=by
 refine⟨ho.1,?_⟩
 rcases ho.2 with h3|⟨b,cap,cur,rfl,hb,hgb,h3⟩
 ·exact .inl h3
 ·exact .inr ⟨b,cap,cur,rfl,hb,h.hg t hgb h1 h2,h3⟩
theorem LyI.ext (h:LyI w gl B ps ws)(hb:zB w w'):LyI w' gl B ps ws:=by
 obtain⟨vp,vw,gs,h1,h2,h3,h4⟩:=h.ex;exact⟨⟨vp,vw,gs,(hb.block gl (zag.1 h1).1).trans h1,⟨h2.1.ext hb,h2.2⟩,Y4 h3 hb (zlr _),h4.mono fun g l hr=>hr.below hb hr.lt⟩,h.lt,znt h.bz hb.size,h.wo.below hb,h.wg⟩
theorem LyI.tz (h:LyI w gl B ps ws){F:Nat→Prop}(t:Zx F w w')(hF:∀i,F i→B≤i∧∃A T fz,w.heap[i]? =some (.cells A T fz)∧T≠WRT∧T≠5):LyI w' gl B ps ws:=by
 obtain⟨vp,vw,gs,h1,⟨⟨a,c,e1,hs,h2⟩,hl⟩,h3,h4⟩:=h.ex;have hlt:=h.lt;have no:∀{b T:Nat} {A:Array Value} {fz:Nat×Nat},w.heap[b]? =some (.cells A T fz)→(T=WRT∨T=5)→¬F b:=fun hb hT hf=>by
  obtain⟨_,A2,T2,fz2,g1,g2,g3⟩:=hF _ hf;rw[hb] at g1;injection g1 with g1
  injection g1 with _ g1 _
  rcases hT with hT|hT
  ·exact g2 (g1.symm.trans hT)
  ·exact g3 (g1.symm.trans hT)
 have lo:∀{b},b<B→¬F b:=fun hb hf=>by have:=(hF _ hf).1;omega
 refine⟨⟨vp,vw,gs,t.hg h1 (lo hlt),⟨⟨a,c,e1,?_,h2⟩,hl⟩,⟨h3.1,?_⟩,h4.mono fun g l hr=>t.hg hr (no hr (.inr rfl))⟩,hlt,znt h.bz t.size,fun j hj=> ?_,h.wg⟩
 ·rcases hs with hs|⟨g,o,rfl,⟨A,T,fz,ht,hT⟩,hc⟩
  ·exact .inl hs
  ·have hg:¬F g:=lo (hl _ _ _ e1);refine .inr ⟨g,o,rfl,⟨A,T,fz,t.hg ht hg,hT⟩,fun j u hu=> ?_⟩;have h1:=hc j u hu;rw[t.cell (p:=⟨g,o+j,none⟩) (block_lt_of_cell h1) hg];exact h1
 ·rcases h3.2 with h5|⟨b,cap,cur,rfl,hb,hgb,h5⟩
  ·exact .inl h5
  ·exact .inr ⟨b,cap,cur,rfl,hb,t.hg hgb (no hgb (.inl rfl)),h5⟩
 ·have h1:=h.wo j hj;have hw:=h.wg;rw[t.cell (p:=⟨2,j,none⟩) (block_lt_of_cell h1) (lo (show(2:Nat)<B by omega))];exact h1
theorem LF.tz {w0:World}(h:Zx (LF w0 gl B) w0 w){F:Nat→Prop}(t:Zx F w w')(hF:∀i,F i→w0.heap.size≤i):Zx (LF w0 gl B) w0 w':=h.step t (fun i hi hl=>by have:=hF i hi;omega)
theorem LyI.src (h:LyI w gl B ps ws){a:Option Addr}{l:List Nat}(hs:Src w a l)(t:Zx (fun i=>i=gl) w w'):Src w' a l:=fun h0=>by
 obtain⟨b,o,rfl,hc⟩:=hs h0;obtain⟨vp,vw,gs,h1,⟨⟨pa,pc,rfl,_⟩,_⟩,h3,_⟩:=h.ex;have hb:b≠gl:=fun e=>by
  subst e;have h4:=hc 0 h0;have hvw:∃a n c,vw=.slice a n c:=by
   rcases h3.2 with ⟨rfl,_⟩|⟨_,_,_,rfl,_⟩<;>exact⟨_,_,_,rfl⟩
  obtain⟨a2,n2,c2,rfl⟩:=hvw;simp only[World.cell?,h1,Nat.add_zero] at h4
  rcases o with _|_|o
  ·simp at h4
  ·simp at h4
  ·simp at h4
 refine⟨b,o,rfl,fun i hi=> ?_⟩;rw[t.cell (p:=⟨b,o+i,none⟩) (block_lt_of_cell (hc i hi)) hb];exact hc i hi
theorem OC.lay {v:Value}{es:List En}{B':Nat}(ho:OC w B' v es)(h:LyI w gl B ps ws)(t:Zx (LF w gl B) w w'):OC w' B' v es:=by
 obtain⟨xs,h1,h2⟩:=ho;exact⟨xs,h.own t h1,RW.turn t h.tf h2⟩
end
theorem XU (gl B k n c:Nat)(a:Option Addr)(l:List Nat)(ps:List Nat)(ws:List PgW)(w:World)(hI:LyI w gl B ps ws)(hp:0<ps.length)(hwl:ws.length≤100000)(hn:l.length=n)(hk1:1≤k)(hk5:k≤5)(hl:n≤504)(hb8:B8 l)(hsrc:Src w a l):
  Calls prog 100 #[pt gl,.int .u8 k,.slice a n c] w fun e w'=>e=.returned (.int .i64 (na ps 0:Nat))∧LyI w' gl B (ps.drop 1) (ws++[(na ps 0,V7 k l)])∧Zx (LF w gl B) w w':=by
 obtain⟨vp,vw,gs,hg,⟨hev,hplo⟩,hown,hwr⟩:=hI.ex;have hgl:=hwr.len;obtain⟨pa,pc,rfl,hes,hz,hpc,hpm⟩:=hev;obtain⟨g1,o1,rfl,hcs⟩:=hes.pages hp;have hg1B:g1<B:=hplo _ _ _ rfl;have p0:=hcs 0 hp;have Hes:=zh hes;obtain⟨N,hN⟩:∃N,ps.length=N:=⟨_,rfl⟩
 rw[hN] at hg hp hpc;have HN:=zh hN;have c0:w.cell? ⟨gl,0,none⟩=some (.slice (some ⟨g1,o1,none⟩) N pc):=by simp[World.cell?,hg]
 have f0:w.frozen? ⟨gl,0,none⟩=false:=by simp[World.frozen?,hg]
 have hpm':=hpm;unfold maxLen at hpm';have key:∀(A:Option Addr) (C:Nat),(pc=1→A=some ⟨g1,o1,none⟩∧C=0)→(pc≠1→A=some ⟨g1,o1+1,none⟩∧C=pc-1)→EV pgE (w.setCell ⟨gl,0,none⟩ (.slice A (N-1) C)) (.slice A (N-1) C) (ps.drop 1)∧PLo B (.slice A (N-1) C):=fun A C hA hB=>by
  have hl1:(ps.drop 1).length=N-1:=by rw[zld,hN]
  by_cases h1:pc=1
  ·obtain⟨rfl,rfl⟩:=hA h1;refine⟨?_,fun a n c e=>by injection e with e _ _;injection e with e;rw[←e];exact hg1B⟩;have e1:ps.drop 1=ps.take 0:=by rw[List.take_zero];exact List.eq_nil_of_length_eq_zero (by omega)
   refine⟨_,_,by rw[hl1],?_,fun h=>(by cases h),by omega,by unfold maxLen;omega⟩;rw[e1];exact(hes.take 0).set hg rfl
  ·obtain⟨rfl,rfl⟩:=hB h1;refine⟨?_,fun a n c e=>by injection e with e _ _;injection e with e;rw[←e];exact hg1B⟩;refine⟨_,_,by rw[hl1],?_,fun h=>(by cases h),by omega,by omega⟩;exact(hes.drop 1 (o1+1) (by omega) (by simp[pgE])).set hg rfl
 generalize na ps 0=P0 at*;have HI:=zh hI;have Hsrc:=zh hsrc;have Hrest:=zh (zai hg (zai hown (zai hwr hgl)));have Hb8:=zh hb8;have Hpl:Hid ((V7 k l).length=512∧B8 (V7 k l)):=⟨D8 (by omega),y3z (by omega) (by omega) hb8⟩
 have Hn:=zh hn;have Hkey:=zh key;have Hwl:=zh hwl;rw[Nat.add_zero] at p0;clear hes hcs hI hsrc hg hown hwr hgl hb8 hn hz hpm hN key hwl hplo hg1B
 go_enter func100,ntmps100
 go_wp2_with fail
 case' inl=>
  have hev:=zh (Hkey.out _ _ (fun _=>⟨rfl,rfl⟩) (fun hh=>absurd h hh));generalize Value.slice (some ⟨g1,o1,none⟩) (N-1) 0=V at*
 case' inr=>
  have hev:=zh (Hkey.out _ _ (fun hh=>absurd hh h) (fun _=>⟨rfl,rfl⟩));generalize Value.slice (some ⟨g1,o1+1,none⟩) (N-1) (pc-1)=V at*
 all_goals
  have hg1:=heap_setCell_same w gl 0 _ _ V Hrest.out.1;have ht1:Zx (fun i=>i=gl) w (w.setCell ⟨gl,0,none⟩ V):=(Zx.refl _ w).setCell _ (fun _=>rfl);have htl:Zx (LF w gl B) w (w.setCell ⟨gl,0,none⟩ V):=ht1.mono (fun i hi _=> .inl hi);have Hown1:Hid ((w.setCell ⟨gl,0,none⟩ V).ownsRow B WRT XT.sz vw gs.length (XT.row gs)):=Sq Hrest.out.2.1 ht1 (TyF.one Hrest.out.1) (by decide);have Hwr1:Hid (WRo (w.setCell ⟨gl,0,none⟩ V) gs ws):=Hrest.out.2.2.1.mono fun g l hr=>HI.out.hg htl hr
  have Hwo1:Hid (Vz (w.setCell ⟨gl,0,none⟩ V)):=fun j hj=>by
   have h1:=HI.out.wo j hj;rw[ht1.cell (p:=⟨2,j,none⟩) (block_lt_of_cell h1) (by have:=HI.out.wg;show¬(2:Nat)=gl;omega)];exact h1
  have Hsrc1:=zh (HI.out.src Hsrc.out ht1);have Htl:=zh htl;have Hg1:=zh hg1;have Hkb:=zh (zai hk1 (zai hk5 hl));generalize hw1:w.setCell ⟨gl,0,none⟩ V=w1 at*;have hlt1:gl<w1.heap.size:=(zag.1 hg1).1;clear ht1 htl hg1 Hsrc hw1 c0 f0 p0 Hkey hk1 hk5 hl h;refine(y82 k a n c l Hn.out w1 Hkb.out.1 Hkb.out.2.1 Hkb.out.2.2 Hb8.out Hsrc1.out Hwo1.out).mono ?_;rintro e w2 ⟨rfl,hrow,hb2⟩;have Hrow:=zh hrow;have hg2:=(hb2.block gl hlt1).trans Hg1.out;simp only[List.setIfInBounds_toArray,List.set_cons_zero] at hg2;have c1:w2.cell? ⟨gl,1,none⟩=some vw:=by simp[World.cell?,hg2]
  generalize hgb:w1.heap.size=gb at*;have Hg2:=zh hg2;have Hb2:=zh hb2;have Hown2:=zh (Y4 Hown1.out hb2 (by omega));have Hwr2:=zh (Hwr1.out.mono fun g l hr=>hr.below hb2 (by have:=hr.lt;omega));have Hev2:=zh (zai (hev.out.1.below hb2 (by omega)) hev.out.2);have Hwo2:=zh (Hwo1.out.below hb2);have hB2:B≤w2.heap.size:=by
   have h1:=HI.out.bz;have h2:=Htl.out.size;have h3:=hb2.size;omega
  clear hrow hb2 hg2 Hown1 Hwr1 Hwo1 Hsrc1 Hg1 hev hlt1 Hkb;have hlit:ES XT (w2.alloc (.cells #[.int .i64 (P0:Nat),.slice (some ⟨gb,0,none⟩) 512 512] WRT)) (some ⟨w2.heap.size,0,none⟩) [(P0,gb)]:=ES.lit (Y7 w2 WRT #[.int .i64 (P0:Nat),.slice (some ⟨gb,0,none⟩) 512 512]) (by simp[XT]);have hgl2:gs.length≤100000:=by rw[Hrest.out.2.2.2];exact Hwl.out
  obtain⟨v1,w4,hrun,hb4,ht4,ho4⟩:=Ok (P:=prog) (w:=w2.alloc (.cells #[.int .i64 (P0:Nat),.slice (some ⟨gb,0,none⟩) 512 512] WRT)) (E:=XT) B 36 36 WRT underlying36 x2j vw gs.length gs (Hown2.out.alloc _) (by simp;omega) (some ⟨w2.heap.size,0,none⟩) 1 1 [(P0,gb)] rfl (by omega) hlit (by unfold maxLen;omega) (by show _*32≤_;omega);have ho4':w4.ownsRow B WRT XT.sz v1 (gs++[(P0,gb)]).length (XT.row (gs++[(P0,gb)])):=by rw[zla];exact ho4
  obtain⟨a4,c4,rfl,_⟩:=U3 (E:=XT) ho4';generalize hM:(gs++[(P0,gb)]).length=M at*;have HM:=zh hM;have hgB:gl<B:=HI.out.lt;have hg4:w4.heap[gl]? =some (.cells #[V,vw] LYT (0,0)):=(hb4.block gl hgB).trans (((zbr w2.heap.size w2).alloc (zlr _) _).block gl (by omega)|>.trans Hg2.out);have f1:w4.frozen? ⟨gl,1,none⟩=false:=by simp[World.frozen?,hg4]
  have d1:w4.cell? ⟨gl,1,none⟩=some vw:=by simp[World.cell?,hg4]
  have Hb4:=zh hb4;have Ht4:=zh ht4;have Ho4:=zh ho4';have Hg4:=zh hg4;clear hb4 ht4 ho4 ho4' hg4 hlit hgl2 hM
  go_wp2_with (at_builtin;refine Lib.wpList_append_run _ rfl (.tmp 34) (.tmp 38) _ _ rfl _ _ (by rfl) (by rfl) _ _ hrun ?_)
  go_ret;generalize Value.slice a4 M c4=v4 at*;have h12:Zx (LF w gl B) w w2:=Htl.out.trans (x3x Hb2.out);have h13:=h12.alloc (.cells #[.int .i64 (P0:Nat),.slice (some ⟨gb,0,none⟩) 512 512] WRT);have h14:Zx (LF w gl B) w w4:=h13.step Ht4.out (fun i hi _=> .inr ⟨((Hrest.out.2.1).lt i hi).1,TyF.own Hrest.out.2.1 i hi⟩);have h15:Zx (LF w gl B) w (w4.setCell ⟨gl,1,none⟩ v4):=h14.setCell (p:=⟨gl,1,none⟩) v4 (fun _=> .inl rfl);have ht5:Zx (fun i=>i=gl) w4 (w4.setCell ⟨gl,1,none⟩ v4):=(Zx.refl _ w4).setCell (p:=⟨gl,1,none⟩) v4 (fun _=>rfl);have hal:=(zbr w2.heap.size w2).alloc (zlr _) (.cells #[.int .i64 (P0:Nat),.slice (some ⟨gb,0,none⟩) 512 512] WRT);have hT4:=TyF.own (Hown2.out.alloc (.cells #[.int .i64 (P0:Nat),.slice (some ⟨gb,0,none⟩) 512 512] WRT));have hev4:EV pgE w4 V (ps.drop 1):=EV.tur (Hev2.out.1.below hal (zlr _)) Ht4.out hT4 rfl;have hrw:∀g l,Row w2 g 5 l→Row (w4.setCell ⟨gl,1,none⟩ v4) g 5 l:=fun g l hr=>by
   have h1:=hr.below hal hr.lt;have h2:Row w4 g 5 l:=Ht4.out.hg h1 (hT4.not h1 (by decide));exact ht5.hg h2 ((TyF.one Hg4.out).not h2 (by decide))
  have hw5:Vz (w4.setCell ⟨gl,1,none⟩ v4):=fun j hj=>by
   have h1:=HI.out.wo j hj;rw[h15.cell (p:=⟨2,j,none⟩) (block_lt_of_cell h1) (by
    have h2:=HI.out.wg;have h3:=HI.out.lt;rintro(h4|⟨h4,_⟩)
    ·have h5:(2:Nat)=gl:=h4;omega
    ·have h5:B≤(2:Nat):=h4;omega)]
   exact h1
  refine⟨rfl,⟨⟨V,v4,gs++[(P0,gb)],?_,⟨hev4.tur ht5 (TyF.one Hg4.out) rfl,Hev2.out.2⟩,?_,?_⟩,HI.out.lt,znt HI.out.bz h15.size,hw5,HI.out.wg⟩,h15⟩
  ·have:=heap_setCell_same w4 gl 1 _ _ v4 Hg4.out
   simpa using this
  ·rw[HM.out];have:=Ho4.out;exact Sq this ht5 (TyF.one Hg4.out) (by decide)
  ·exact(Hwr2.out.mono hrw).snoc ⟨rfl,hrw _ _ Hrow.out,Hpl.out⟩
end Go.Proofs.YtdgladhfibfdlaaGreatDoor
