/-
  Steps.
-/
import Derived.Test.YtdnfhjfbanhhcaaGreatDoorQLBk30
import Derived.Deep.CutBlock
import Derived.Deep.DeepCutAuto
namespace Go.Proofs.YtdnfhjfbanhhcaaGreatDoor
open Go Go.RowKit
def addR (s:Nat→Bool)(l:List Nat)(m:Nat):Bool:=s m||decide (m∈l)
theorem y25 (s:Nat→Bool):addR s []=s:=by funext m;simp[addR]
theorem y9l (s:Nat→Bool)(l r:List Nat):addR (addR s l) r=addR s (l++r):=by
 funext m;simp[addR,Bool.or_assoc]
theorem y9m (s:Nat→Bool){l r:List Nat}(h:∀m,m∈l↔m∈r):addR s l=addR s r:=by
 funext m;unfold addR;rw[decide_eq_decide.2 (h m)]
theorem z91 (s:Nat→Bool)(p:Nat):z9h s (p:Int)=addR s [p]:=by
 funext m
 unfold z9h addR
 congr 1
 rw[decide_eq_decide,List.mem_singleton];exact Int.ofNat_inj
theorem x87 (es:List En)(k:Nat)(h:k<es.length):chL (es.take (k+1))=chL (es.take k)++(ea es k).ch:=by
 rw[z7b es k h,z7h];simp[chL]
theorem z2p {o:Oper}{a:Act}{w:World}{K:Act→World→Prop}{Q:Exit→Act→World→Prop}(t:TypeId)(x:Operand)(ho:o.op=.load t x)(g:Nat)(f:Nat→Bool)(t2:TypeId)(hx:a.eval x=.pointer (some ⟨g,0,none⟩))(hT:ArrT t 16)(hg:Blk w g t2 (sc f))
  (h:K (a.put o.dst (.agg (sc f))) w):o.wp Tryz.prog a w K Q:=by
 unfold Oper.wp;rw[z7f t x ho g f t2 hx hT hg];exact h
theorem q5b (w1 w2:World)(v:NoV)(hb:Below (w1.alloc (.cells #[.int .i64 (v.pg:Nat),v.c,v.k,v.p] VT)).heap.size (w1.alloc (.cells #[.int .i64 (v.pg:Nat),v.c,v.k,v.p] VT)) w2):VB4 w2 w1.heap.size v:=by
 have hv1:VB4 (w1.alloc (.cells #[.int .i64 (v.pg:Nat),v.c,v.k,v.p] VT)) w1.heap.size v:=by show(w1.heap.push _)[w1.heap.size]? =_;rw[Array.getElem?_push_size]
 exact hv1.ext hb
structure UI (w0 wr:World) (g1 g2 g3:Nat) (f:Nat→Bool) (v:NoV):Prop where
 b1:Blk wr g1 TS (sc f)
 b2:Blk wr g2 TS (sc (fun _=>false))
 nv:VB4 wr g3 v
 lo:w0.heap.size≤g1∧w0.heap.size≤g2∧w0.heap.size≤g3∧g2≠g1∧g3≠g1∧g3≠g2
 bl:Below w0.heap.size w0 wr
theorem UI.ext {w0 wr w':World}{g1 g2 g3:Nat}{f:Nat→Bool}{v:NoV}(h:UI w0 wr g1 g2 g3 f v)(hb:Below wr.heap.size wr w'):UI w0 w' g1 g2 g3 f v:=
 ⟨h.b1.ext hb,h.b2.ext hb,h.nv.ext hb,h.lo,h.bl.trans (hb.mono h.bl.size)⟩
theorem UI.turn {w0 wr w':World}{g1 g2 g3:Nat}{f f':Nat→Bool}{v:NoV}(h:UI w0 wr g1 g2 g3 f v)(t:Turn (fun i=>i=g1) wr w')(hk:Blk w' g1 TS (sc f')):UI w0 w' g1 g2 g3 f' v:=
 ⟨hk,h.b2.turn t (fun e=>h.lo.2.2.2.1 e),t.hg h.nv (fun e=>h.lo.2.2.2.2.1 e),h.lo,h.bl.trans (t.below h.bl.size (fun i hi=>by subst hi;exact h.lo.1))⟩
set_option maxRecDepth 100000 in
theorem y5u (s:Nat→Bool)(v:NoV)(es:List En)(vs:List NoV)(ps:List Nat)(us:List (List Nat))(w:World)(hc:CV w v.c es)(hl:es.length≤100000)(hch:∀e∈es,e.ch.length≤100000)
  (hp:EV ptrE w v.p ps) (hvs:vs.length=ps.length) (hnp:∀i,i<ps.length→NPv w (na ps i) (va vs i)) (hpl:ps.length≤100000) (hus:us.length=ps.length)
  (ih:∀i f w',i<ps.length→Below w.heap.size w w'→Calls Tryz.prog 45 #[.agg (sc f),(va vs i).v] w' fun e w''=>e=.returned (.agg (sc (addR f (us.getD i []))))∧Below w'.heap.size w' w''):
  Calls Tryz.prog 45 #[.agg (sc s),v.v] w fun e w'=>e=.returned (.agg (sc (addR s ((if v.pg=0 then [] else [v.pg])++(chL es++us.flatten)))))∧Below w.heap.size w w':=by
 have Hcv:=zh hc;have Hp:=zh hp;have Hih:=zh ih;have Hnp:=zh hnp;have Hch:=zh hch;have Hl:=zh (zai hl (zai hpl (zai hvs hus)));clear hc hp ih hnp hch hl hpl hvs hus;have Hlaid:=zh (fun(w1:World) (hx:Below w.heap.size w w1)=>z9x v es w1 (Hcv.out.below hx (zlr _)) Hl.out.1 Hch.out);have Hkids:=zh (fun(w1:World) (hx:Below w.heap.size w w1)=>z9y v ps vs w1 (Hp.out.below hx (zlr _)) Hl.out.2.2.1 (fun i hi=>NP.ext (Hnp.out i hi) hx) Hl.out.2.1);obtain⟨PG,hPG⟩:∃PG:List Nat,(if v.pg=0 then [] else [v.pg])=PG:=⟨_,rfl⟩
 have HPG:=zh hPG;rw[hPG];clear Hp Hnp hPG
 go_enter Tryz.func45,Tryz.ntmps45
 go_wp2_with (first
  | (refine z0q rfl TS (.tmp 0) rfl (sc s) (by rfl) ?_;intro g1 w1 hg1 hk1 hb1)
  | (show wpList _ _ _ (⟨some 4,_,_,_,_,_⟩::_) _ _;refine z0o rfl TS rfl z18 ?_;intro g2 w2 hg2 hk2 hb2;have hv2:=q5b w1 w2 v hb2;have q0:=hv2.c0;have q1:=hv2.c1;have q2:=hv2.c2;have q3:=hv2.c3))
 clear q0 q1 q2 q3 hv2;have hv1:VB4 (w1.alloc (.cells #[.int .i64 (v.pg:Nat),v.c,v.k,v.p] VT)) w1.heap.size v:=by show(w1.heap.push _)[w1.heap.size]? =_;rw[Array.getElem?_push_size]
 have hba:Below w1.heap.size w1 (w1.alloc (.cells #[.int .i64 (v.pg:Nat),v.c,v.k,v.p] VT)):=(zbr _ _).alloc (zlr _) _;have hs3:w1.heap.size+1≤g2:=by have:=hg2;simpa using this
 have hui:Hid (UI w w2 g1 g2 w1.heap.size s v):=⟨(hk1.ext hba).ext hb2,hk2,hv1.ext hb2,⟨hg1,by have:=hb1.size;omega,hb1.size,by have:=hk1.lt;omega,by have:=hk1.lt;omega,by omega⟩,hb1.trans ((hba.trans (hb2.mono hba.size)).mono hb1.size)⟩
 generalize w1.heap.size=g3 at*;clear hg1 hk1 hb1 hg2 hk2 hb2 hv1 hba hs3;refine(z5b v w2).mono ?_;rintro e w3 ⟨rfl,hb3⟩;replace hui:=zh (hui.out.ext hb3);clear hb3
 go_upto_if 12 with fail
 go_cut [] (fun wx=>Hid (UI w wx g1 g2 g3 (addR s PG) v))
 case first=>
  by_cases h0:v.pg=0
  ·have e1:(!decide (v.pg=0))=false:=by rw[zdt h0];rfl
   have hfin:Hid (UI w w3 g1 g2 g3 (addR s PG) v):=by rw[←HPG.out,if_pos h0,y25];exact hui
   rw[e1];clear h0 e1;go_wp2;go_meet;exact hfin
  ·have e1:(!decide (v.pg=0))=true:=by rw[zdf h0];rfl
   rw[e1];obtain⟨W3,hW3⟩:∃W,w3.drew=W:=⟨_,rfl⟩
   have hd3:Below w3.heap.size w3 W3:=by rw[←hW3];exact(zbr _ _).drew
   have hu3:=hui.out.ext hd3;have HW3:=zh hW3;have q:∀w',Turn (fun i=>i=g1) W3 w'→VB4 w' g3 v:=fun w' t=>t.hg hu3.nv (fun e=>hu3.lo.2.2.2.2.1 e)
   have q0:=fun w' t=>(q w' t).c0
   have q1:=fun w' t=>(q w' t).c1
   have q2:=fun w' t=>(q w' t).c2
   have q3:=fun w' t=>(q w' t).c3
   have hk3:=hu3.b1;have Hwt:=zh (fun w'=>y8z s (v.pg:Int) w');have Hu3:=zh hu3;have Hneg:=zh h0;clear hW3 hd3 hu3 hui q e1 h0;go_wp2_with fail;refine z0l (F:=fun i=>i=g1) (.rd 1 (.two 0 (.call 2 (.call 3 (.call 4 .done))) 2 (.call 0 (.call 3 (.call 4 .done))))) (by kernel_rfl) (by kernel_rfl) (by kernel_rfl) (by kernel_rfl) (fun _ _ _ _ _ h=>h) ?_;rw[HW3.out]
   (refine gsr (v:= ?_) rfl (by rfl) ?_ ?_;rotate_left;(intro w' hw';go_simp;with_reducible rfl);simp only[Act.put,zs0,zs1,zs2])
   clear q0 q1 q2 q3;refine⟨?_,?_⟩
   ·refine gsc rfl (by rfl) (fun K hK=> ?_);refine z2p TS (.tmp 2) rfl g1 _ TS (by rfl) z0i hk3 ?_;refine hK _ _ (Turn.refl _ _) ?_;simp only[Act.put,zs0,zs1,zs2];clear hK K;refine gsc rfl (by rfl) (fun K hK=> ?_);go_simp;refine(z3z v W3).mono ?_;rintro e w4 ⟨rfl,hb4⟩;refine hK _ _ (q5w hb4) ?_;clear hK K;have huA:=Hu3.out.ext hb4;clear hb4;refine gsc rfl (by rfl) (fun K hK=> ?_);go_simp;refine(Hwt.out w4).mono ?_;rintro e w5 ⟨rfl,hb5⟩;refine hK _ _ (q5w hb5) ?_;clear hK K;have hu5:=huA.ext hb5;have hk5:=hu5.b1;clear hb5 Hwt huA;refine gsc rfl (by rfl) (fun K hK=> ?_);refine z1d TS (.tmp 2) (.tmp 16) rfl g1 _ _ TS (by rfl) (by rfl) z0i hk5 ?_;intro w6 hk6 ht6 _;refine hK _ _ ht6 ?_;clear hK K;have hfin:Hid (UI w w6 g1 g2 g3 (addR s PG) v):=by
     have h1:=hu5.turn ht6 hk6;rw[z91] at h1;rw[←HPG.out,if_neg Hneg.out];exact h1
    refine z0a ?_;go_wp2;go_meet;exact hfin
   ·refine gsc rfl (by rfl) (fun K hK=> ?_);go_simp;refine(z3z v W3).mono ?_;rintro e w4 ⟨rfl,hb4⟩;refine hK _ _ (q5w hb4) ?_;clear hK K;have huA:=Hu3.out.ext hb4;clear hb4;refine gsc rfl (by rfl) (fun K hK=> ?_);refine z2p TS (.tmp 2) rfl g1 _ TS (by rfl) z0i huA.b1 ?_;refine hK _ _ (Turn.refl _ _) ?_;simp only[Act.put,zs0,zs1,zs2];clear hK K;refine gsc rfl (by rfl) (fun K hK=> ?_);go_simp;refine(Hwt.out w4).mono ?_;rintro e w5 ⟨rfl,hb5⟩;refine hK _ _ (q5w hb5) ?_;clear hK K;have hu5:=huA.ext hb5;have hk5:=hu5.b1;clear hb5 Hwt huA;refine gsc rfl (by rfl) (fun K hK=> ?_);refine z1d TS (.tmp 2) (.tmp 16) rfl g1 _ _ TS (by rfl) (by rfl) z0i hk5 ?_;intro w6 hk6 ht6 _;refine hK _ _ ht6 ?_;clear hK K;have hfin:Hid (UI w w6 g1 g2 g3 (addR s PG) v):=by
     have h1:=hu5.turn ht6 hk6;rw[z91] at h1;rw[←HPG.out,if_neg Hneg.out];exact h1
    refine z0a ?_;go_wp2;go_meet;exact hfin
 case rest=>
  have hui:=hcut;have Hu0:=zh hui.out;have q:=hui.out.nv;have q0:=q.c0;have q1:=q.c1;have q2:=q.c2;have q3:=q.c3;clear q hui hcut;go_wp2_with fail;refine(Hlaid.out wc Hu0.out.bl).mono ?_;rintro e w4 ⟨u,rfl,hoc,hb4⟩;obtain⟨n,hn⟩:∃n,es.length=n:=⟨_,rfl⟩
  have Hn:=zh hn;have hn9:n≤100000:=by have:=Hl.out.1;omega
  obtain⟨ua,uc,hu⟩:=hoc.form;subst hu;have Hu:=zh hoc.cv;rw[hn] at Hu⊢
  have Hu4:=zh (Hu0.out.ext hb4);clear hoc hb4 hn q0 q1 q2 q3 Hlaid Hu0;go_wp2_with fail
  go_loopw [8,20] (fun _ i wr=>∃k:Nat,i=.int .i64 k∧k≤n∧Hid (UI w wr g1 g2 g3 (addR s (PG++chL (es.take k))) v)∧Hid (CV wr (.slice ua n uc) es)) (fun _ i _=>n-(intOf i).toNat)
  case atStart=>exact⟨0,rfl,by omega,by simp only[List.take_zero,chL,List.append_nil];exact Hu4,Hu⟩
  case round=>
   obtain⟨k,rfl,hk,hui,hcv⟩:=hrel
   by_cases hlt:k<n
   ·obtain⟨g,o,hua,hcell⟩:=x5i hcv.out (by rw[Hn.out];omega);subst hua;obtain⟨p0,p1,_,p2,⟨sa,sc',rfl,hsl,_⟩⟩:=hcell k (by rw[Hn.out];exact hlt);have hch9:=Hch.out (ea es k) (z4e (by rw[Hn.out];exact hlt));have htk:=x87 es k (by rw[Hn.out];exact hlt);have hba:Below wr.heap.size wr (wr.alloc (.cells #[.string (ea es k).k,.string (ea es k).v,.slice sa (ea es k).ch.length sc'] TCT)):=(zbr _ _).alloc (zlr _) _;have Hui:=zh (hui.out.ext hba);have Hcv2:=zh (hcv.out.ext hba);have Hsl:=zh (hsl.below hba (zlr _));obtain⟨L,hL⟩:∃L,PG++chL (es.take k)=L:=⟨_,rfl⟩
    have hL2:Hid (PG++chL (es.take (k+1))=L++(ea es k).ch):=by show _=_;rw[htk,←List.append_assoc,hL]
    rw[hL] at Hui;generalize ea es k=y at*;obtain⟨yk,yv,yc⟩:=y;dsimp only at p0 p1 p2 hch9 hL2 Hsl;obtain⟨yn,hyn⟩:∃yn,yc.length=yn:=⟨_,rfl⟩
    have Hyn:=zh hyn;rw[hyn] at p2 hch9;rw[hyn] at Hui Hcv2 Hsl;clear hcell hba hui hcv hsl htk hL hyn;go_wp2_with fail;have hW5:∃W,(wr.alloc (.cells #[.string yk,.string yv,.slice sa yn sc'] TCT))=W:=⟨_,rfl⟩
    obtain⟨W5,hW5⟩:=hW5;rw[hW5] at Hui Hcv2 Hsl⊢
    clear hW5 p0 p1 p2
    go_loopw [8,27] (fun _ i wx=>∃j:Nat,i=.int .i64 j∧j≤yn∧Hid (UI w wx g1 g2 g3 (addR s (L++yc.take j)) v)∧Hid (CV wx (.slice (some ⟨g,o,none⟩) n uc) es)∧Hid (ES pgE wx sa yc)) (fun _ i _=>yn-(intOf i).toNat)
    case atStart=>exact⟨0,rfl,by omega,by simp only[List.take_zero,List.append_nil];exact Hui,Hcv2,Hsl⟩
    case round=>
     obtain⟨j,rfl,hj,hui,hcv,hsl⟩:=hrel
     by_cases hlj:j<yn
     ·obtain⟨gp,op,hsa,hpc⟩:=hsl.out.pages (by rw[Hyn.out];omega);have q0:=hpc j (by rw[Hyn.out];exact hlj);have hwith:=zh (fun w'=>y8z (addR s (L++yc.take j)) (na yc j:Int) w');have hst:Hid (sc (z9h (addR s (L++yc.take j)) (na yc j:Int))=sc (addR s (L++yc.take (j+1)))):=by
       show _=_;rw[z91,y9l,z5u yc j (by rw[Hyn.out];exact hlj),List.append_assoc]
      rw[hst.out] at hwith;have hk1:=hui.out.b1;generalize na yc j=pj at*;subst hsa;clear hpc hst
      go_wp2_with (first|(show wpList _ _ _ (⟨some 31,_,_,_,_,_⟩::_) _ _;refine z0e rfl TS (.tmp 2) rfl g1 _ TS (by rfl) z0i hk1 ?_))
      refine(hwith.out _).mono ?_;rintro e w6 ⟨rfl,hb6⟩;have hu6:=hui.out.ext hb6;have hk6:=hu6.b1;have hc6:=hcv.out.ext hb6;have hs6:=hsl.out.below hb6 (zlr _);clear hui hcv hsl hb6 hk1 hwith q0
      go_wp2_with (first|(refine z0j rfl TS (.tmp 2) (.tmp 33) rfl g1 _ _ TS (by rfl) (by rfl) z0i hk6 ?_;intro w7 hk7 ht7 _))
      have Hu7:=zh (hu6.turn ht7 hk7);have htf:TF w6 (fun i=>i=g1):=TF.var (show w6.heap[g1]? =_ from hk6);have Hc7:=zh (hc6.turn ht7 htf);have Hs7:=zh (hs6.turn z7o ht7 htf);clear hu6 hk6 hc6 hs6 hk7 ht7 htf
      go_roundw
      case rel=>exact⟨j+1,by go_num,by omega,Hu7,Hc7,Hs7⟩
      case measure=>simp[intOf];omega
     ·obtain rfl:j=yn:=by omega
      have Hu7:Hid (UI w wr g1 g2 g3 (addR s (PG++chL (es.take (k+1)))) v):=by
       rw[hL2.out];have h1:=hui.out;rw[List.take_of_length_le (by rw[Hyn.out];exact zlr _)] at h1;exact h1
      clear hui hsl hL2;go_wp2
      go_roundw
      case rel=>exact⟨k+1,by go_num,by omega,Hu7,hcv⟩
      case measure=>simp[intOf];omega
   ·obtain rfl:k=n:=by omega
    have Hu5:Hid (UI w wr g1 g2 g3 (addR s (PG++chL es)) v):=by
     have h1:=hui.out;rw[List.take_of_length_le (by rw[Hn.out];exact zlr _)] at h1;exact h1
    have q:=Hu5.out.nv;have q0:=q.c0;have q1:=q.c1;have q2:=q.c2;have q3:=q.c3;obtain⟨L,hL⟩:∃L,PG++chL es=L:=⟨_,rfl⟩
    rw[hL] at Hu5;have HL:=zh hL;clear q hui hcv hL;go_wp2_with fail;refine(Hkids.out wr Hu5.out.bl).mono ?_;rintro e w6 ⟨u6,rfl,hon,hb6⟩;obtain⟨ka3,kc3,hu3,hs3,_⟩:=hon.ev;subst hu3;have hvl:vs.length=ps.length:=Hl.out.2.2.1;obtain⟨m,hm⟩:∃m,ps.length=m:=⟨_,rfl⟩
    have Hm:=zh hm;have hm9:m≤100000:=by have:=Hl.out.2.1;omega
    rw[hvl,hm];have Hs3:=zh hs3;have Hu6:=zh (Hu5.out.ext hb6);clear hon hb6 hs3 hvl hm q0 q1 q2 q3 Hu5;go_wp2_with fail
    go_loopw [10,39] (fun _ i wr=>∃k:Nat,i=.int .i64 k∧k≤m∧Hid (UI w wr g1 g2 g3 (addR s (L++(us.take k).flatten)) v)∧Hid (ES nodE wr ka3 vs)) (fun _ i _=>m-(intOf i).toNat)
    case atStart=>exact⟨0,rfl,by omega,by simp only[List.take_zero,List.flatten_nil,List.append_nil];exact Hu6,Hs3⟩
    case round=>
     obtain⟨k,rfl,hk,hui,hes⟩:=hrel
     by_cases hlt:k<m
     ·obtain⟨g,o,hua,hcell2⟩:=hes.out.nods (by have:=Hl.out.2.2.1;have:=Hm.out;omega);subst hua;obtain⟨p0,p1,p2,p3⟩:=hcell2 k (by have:=Hl.out.2.2.1;have:=Hm.out;omega);have hba:Below wr.heap.size wr (wr.alloc (.cells #[.int .i64 ((va vs k).pg:Nat),(va vs k).c,(va vs k).k,(va vs k).p] VT)):=(zbr _ _).alloc (zlr _) _;have Hui:=zh (hui.out.ext hba);have hk1:=Hui.out.b1;have Hes:=zh (hes.out.below hba (zlr _));have Hcall:=zh (Hih.out k (addR s (L++(us.take k).flatten)) (wr.alloc (.cells #[.int .i64 ((va vs k).pg:Nat),(va vs k).c,(va vs k).k,(va vs k).p] VT)) (by rw[Hm.out];exact hlt) Hui.out.bl);have hst:Hid (addR (addR s (L++(us.take k).flatten)) (us.getD k [])=addR s (L++(us.take (k+1)).flatten)):=by
       show _=_;rw[y9l,List.take_succ_eq_append_getElem (by have:=Hl.out.2.2.2;have:=Hm.out;omega),List.flatten_append,List.append_assoc]
       congr 3
       simp[List.getD,show k<us.length by have:=Hl.out.2.2.2;have:=Hm.out;omega]
      rw[hst.out] at Hcall;clear hba hui hes hcell2 hst;generalize va vs k=x at*;obtain⟨xg,xa,xn,xc,ya,yn,yc,za,zn,zc⟩:=x;dsimp only[NoV.c,NoV.k,NoV.p,NoV.v] at*
      go_wp2_with (first|(show wpList _ _ _ (⟨some 43,_,_,_,_,_⟩::_) _ _;refine z0e rfl TS (.tmp 2) rfl g1 _ TS (by rfl) z0i hk1 ?_))
      refine Hcall.out.mono ?_;rintro e w7 ⟨rfl,hb7⟩;have hu7:=Hui.out.ext hb7;have hk7:=hu7.b1;have he7:=Hes.out.below hb7 (zlr _);clear Hui Hes hb7 hk1 Hcall p0 p1 p2 p3
      go_wp2_with (first|(refine z0j rfl TS (.tmp 2) (.tmp 45) rfl g1 _ _ TS (by rfl) (by rfl) z0i hk7 ?_;intro w8 hk8 ht8 _))
      have Hu8:=zh (hu7.turn ht8 hk8);have He8:=zh (he7.tur ht8 (TyF.one (show w7.heap[g1]? =_ from hk7)) rfl);clear hu7 hk7 he7 hk8 ht8
      go_roundw
      case rel=>exact⟨k+1,by go_num,by omega,Hu8,He8⟩
      case measure=>simp[intOf];omega
     ·obtain rfl:k=m:=by omega
      have h1:=hui.out;rw[List.take_of_length_le (by have:=Hl.out.2.2.2;have:=Hm.out;omega)] at h1;have hk1:=h1.b1;have hk2:=h1.b2;have hlo:=h1.lo;have hbl:=h1.bl;clear hui hes h1
      go_wp2_with (first
       | (refine z0e rfl TS (.tmp 2) rfl g1 _ TS (by rfl) z0i hk1 ?_)
       | (refine z0j rfl TS (.tmp 4) (.tmp 47) rfl g2 _ _ TS (by rfl) (by rfl) z0i hk2 ?_;intro w9 hk9 ht9 _))
      rw[←HL.out,List.append_assoc] at hk9;refine bodyPost_ret (v:=.agg (sc (addR s (PG++(chL es++us.flatten))))) ?_ rfl ⟨rfl,hbl.trans (ht9.below hbl.size (fun i hi=>by subst hi;exact hlo.2.1))⟩;exact z1h z0i rfl _ _ g2 _ (by rfl) hk9
theorem y1a (m:Nat):∀(ts:List Tr),m∈(ts.map uT).flatten↔m∈uL ts
 | []=>by rw[z23,z5t];simp
 | t::r=>by rw[List.map_cons,List.flatten_cons,List.mem_append,y1a m r,z5y]
theorem y7m (m pg:Nat)(ks:List ByteArray)(ts:List Tr):m∈(if pg=0 then [] else [pg])++(chL []++(ts.map uT).flatten)↔m∈uT (.bran pg ks ts):=by
 rw[List.mem_append,List.mem_append,y1a];unfold uT uL;rw[Tr.pgs,Tr.es];simp only[chL,List.not_mem_nil,false_or,List.mem_append,or_assoc]
theorem z8c:∀(h:Nat) {lo hi:SB} (s:Nat→Bool) (v:NoV) (t:Tr) (w:World),NdVT w h lo hi v t→t.sz≤504→(∀e∈t.es,e.ch.length≤100000)→
  Calls Tryz.prog 45 #[.agg (sc s),v.v] w fun e w'=>e=.returned (.agg (sc (addR s (uT t))))∧Below w.heap.size w w'
 | 0,lo,hi,s,v,t,w,hn,hz,hch=>by
  obtain⟨es,rfl,h1,h2,h3,_,_,h4⟩:=hn;rw[Tr.es] at hch;simp only[Tr.sz] at hz;have hr:=z1i (fun x hx=>(h4 x hx).1);have:=y5u s v es [] [] [] w h3 (by unfold z0s at hz;omega) hch (by rw[h2];exact EV.none _) rfl (fun i hi=>by simp at hi) (by simp) rfl (fun i f w' hi _=>by simp at hi);rw[List.flatten_nil,List.append_nil] at this;unfold uT;rw[Tr.pgs,Tr.es];exact this
 | h+1,lo,hi,s,v,t,w,hn,hz,hch=>by
  obtain⟨ks,ps,ts,rfl,h1,h2,h3,hr⟩:=hn;rw[Tr.es] at hch;simp only[Tr.sz] at hz;obtain⟨vs,hvl,hvs⟩:=hr.vals;have hl:=hr.len;have hkr:=z0u hr.factsT.2.2.2;have:=y5u s v [] vs ps (ts.map uT) w (by rw[h1];exact CV.none _) (by simp) (fun e he=>by cases he) h3 hvl (fun i hi=>(hvs i hi).1) (by unfold brSz at hz;omega) (by rw[List.length_map];omega) (fun i f w' hi hb=>by
   obtain⟨g1,g2,g3,g4⟩:=hvs i hi;have hm:ta ts i∈ts:=z8b (by omega);have e1:(ts.map uT).getD i []=uT (ta ts i):=by unfold ta;simp[List.getD,show i<ts.length by omega]
   rw[e1];exact z8c h f (va vs i) (ta ts i) w' (g2.ext hb) g4 (fun e he=>hch e (y22 hm he)))
  rw[y9m s (y7m · v.pg ks ts)] at this;exact this
theorem z14 {w:World}{p:Option Addr}{ts:List Tr}{H:Nat}(h:z0y w p ts H):(p=none∧ts=[]∧H=0)∨∃b h t v,p=some ⟨b,0,none⟩∧ts=[t]∧NPv w b v∧NdVT w h none none v t∧t.sz≤504∧(0<h→3≤t.sz)∧t.es≠[]∧H=h+1:=by
 rcases h with h|⟨b,h,t,h1,h2,h3,h4⟩
 ·exact .inl h
 ·obtain⟨v,h5,h6⟩:=h3.val;exact .inr ⟨b,h,t,v,h1,h2,h5,h6,h4⟩
theorem q5c (t:Tr):uL [t]=uT t:=by
 unfold uL uT;rw[z1s];simp[pgsL]
theorem z40 (t:Tr):z0f [t]=t.need:=by simp[z0f]
set_option maxRecDepth 100000 in
theorem x5m (p:Option Addr)(n:Int)(ts:List Tr)(H:Nat)(w:World)(ht:z0y w p ts H)(hch:∀e∈esL ts,e.ch.length≤100000)(hnd:z0f ts≤1000000):
  Calls Tryz.prog 20 #[.agg #[.pointer p,.int .i64 n]] w fun e w'=>e=.returned (.int .i64 (z0f ts:Nat))∧Below w.heap.size w w':=by
 obtain⟨W,hW,hT,hb⟩:=z0b w TT #[.pointer p,.int .i64 n];have HW:=zh hW;have HB:=zh hb
 rcases z14 ht with ⟨rfl,rfl,_⟩|⟨b,h,t,v,rfl,rfl,hnp,hnv,hz,hz3,hne,_⟩
 ·have Hr:=zh (z8p n W);clear hW hT hb ht
  go_enter Tryz.func20,Tryz.ntmps20
  go_wp2_with fail;rw[HW.out];refine Hr.out.mono ?_;rintro e w1 ⟨rfl,hb1⟩;have Hb1:=zh (HB.out.trans (hb1.mono HB.out.size));clear hb1;go_wp2;go_ret;exact⟨rfl,Hb1.out.alloc Hb1.out.size _⟩
 ·have Hr:=zh (z6x b n v W (NP.ext hnp hb));rw[z1s] at hch;rw[z40] at hnd⊢
  have Hcall:=zh (fun(w':World) (hx:Below w.heap.size w w')=>y9h h v t w' (hnv.ext hx) hz hch hnd);clear hW hT hb ht hnp hnv hz hz3 hne hch;generalize t.need=N at*;obtain⟨pg,ca,cn,cc,ka,kn,kc,pa,pn,pc⟩:=v;dsimp only[NoV.c,NoV.k,NoV.p,NoV.v] at*
  go_enter Tryz.func20,Tryz.ntmps20
  go_wp2_with fail;rw[HW.out];refine Hr.out.mono ?_;rintro e w1 ⟨rfl,hb1⟩;have Hb1:=zh (HB.out.trans (hb1.mono HB.out.size));clear hb1;go_wp2_with fail;refine(Hcall.out _ (Hb1.out.alloc Hb1.out.size _)).mono ?_;rintro e w2 ⟨rfl,hb2⟩;have Hb2:=zh ((Hb1.out.alloc Hb1.out.size (.cells #[.int .i64 (pg:Nat),.slice ca cn cc,.slice ka kn kc,.slice pa pn pc] VT)).trans (hb2.mono (Hb1.out.alloc Hb1.out.size _).size));clear hb2;go_wp2;go_ret;exact⟨rfl,Hb2.out⟩
set_option maxRecDepth 100000 in
theorem z92 (p:Option Addr)(n:Int)(ts:List Tr)(H:Nat)(w:World)(ht:z0y w p ts H):
  Calls Tryz.prog 13 #[.agg #[.pointer p,.int .i64 n]] w fun e w'=>e=.returned (.int .i64 ((ts.headD (.leaf 0 [])).pg:Nat))∧Below w.heap.size w w':=by
 obtain⟨W,hW,hT,hb⟩:=z0b w TT #[.pointer p,.int .i64 n];have HW:=zh hW;have HB:=zh hb;have main:∀(v:NoV) (B:Bool) (pg:Nat),v.pg=pg→(Calls Tryz.prog 30 #[.agg #[.pointer p,.int .i64 n]] W fun e w'=>e=.returned (.tuple #[v.v,.bool B])∧Below W.heap.size W w')→
   Calls Tryz.prog 13 #[.agg #[.pointer p,.int .i64 n]] w fun e w'=>e=.returned (.int .i64 (pg:Nat))∧Below w.heap.size w w':=fun v B pg hpg hr=>by
  have Hr:=zh hr;have Hp:=zh (fun w'=>z3z v w');rw[hpg] at Hp;have Hpg:=zh hpg;clear hW hT hb ht hr hpg;obtain⟨pg2,ca,cn,cc,ka,kn,kc,pa,pn,pc⟩:=v;dsimp only[NoV.c,NoV.k,NoV.p,NoV.v] at*
  go_enter Tryz.func13,Tryz.ntmps13
  go_wp2_with fail;rw[HW.out];refine Hr.out.mono ?_;rintro e w1 ⟨rfl,hb1⟩;have Hb1:=zh (HB.out.trans (hb1.mono HB.out.size));clear hb1;go_wp2_with fail;refine(Hp.out _).mono ?_;rintro e w2 ⟨rfl,hb2⟩;have Hb2:=zh ((Hb1.out.alloc Hb1.out.size (.cells #[.int .i64 (pg2:Nat),.slice ca cn cc,.slice ka kn kc,.slice pa pn pc] VT)).trans (hb2.mono (Hb1.out.alloc Hb1.out.size _).size));clear hb2;go_wp2;go_ret;exact⟨rfl,Hb2.out⟩
 rcases z14 ht with ⟨rfl,rfl,_⟩|⟨b,h,t,v,rfl,rfl,hnp,hnv,hz,hz3,hne,_⟩
 ·exact main ⟨0,none,0,0,none,0,0,none,0,0⟩ false 0 rfl (z8p n W)
 ·rw[show((([t]:List Tr).headD (.leaf 0 [])).pg)=t.pg from rfl,hnv.pg];exact main v true v.pg rfl (z6x b n v W (NP.ext hnp hb))
set_option maxRecDepth 100000 in
theorem y5v (p:Option Addr)(n:Int)(ts:List Tr)(H:Nat)(w:World)(ht:z0y w p ts H)(hch:∀e∈esL ts,e.ch.length≤100000):
  Calls Tryz.prog 23 #[.agg #[.pointer p,.int .i64 n]] w fun e w'=>e=.returned (.agg (sc (addR (fun _=>false) (uL ts))))∧Below w.heap.size w w':=by
 obtain⟨W,hW,hT,hb⟩:=z0b w TT #[.pointer p,.int .i64 n];have HW:=zh hW;have HB:=zh hb;have main:∀(v:NoV) (B:Bool) (f:Nat→Bool),(∀w',Below W.heap.size W w'→Calls Tryz.prog 30 #[.agg #[.pointer p,.int .i64 n]] w' fun e w''=>e=.returned (.tuple #[v.v,.bool B])∧Below w'.heap.size w' w'')→
   (B=false→f=fun _=>false)→(B=true→∀w',Below w.heap.size w w'→Calls Tryz.prog 45 #[.agg (sc (fun _=>false)),v.v] w' fun e w''=>e=.returned (.agg (sc f))∧Below w'.heap.size w' w'')→
   Calls Tryz.prog 23 #[.agg #[.pointer p,.int .i64 n]] w fun e w'=>e=.returned (.agg (sc f))∧Below w.heap.size w w':=fun v B f hr hf hcall=>by
  have Hr:=zh hr;have Hf:=zh hf;have Hcall:=zh hcall;have HT:=zh (show TB W w.heap.size p n from hT);have hlW:w.heap.size<W.heap.size:=(zag.1 hT).1;clear hW hT hb ht hr hf hcall hch;obtain⟨pg,ca,cn,cc,ka,kn,kc,pa,pn,pc⟩:=v;dsimp only[NoV.c,NoV.k,NoV.p,NoV.v] at*
  go_enter Tryz.func23,Tryz.ntmps23
  go_wp2_with (first
   | (show wpList _ _ _ (⟨some 2,_,_,_,_,_⟩::_) _ _;rw[HW.out];refine z0o rfl TS rfl z18 ?_;intro g2 w2 hg2 hk2 hb2)
   | (show wpList _ _ _ (⟨some 3,_,_,_,_,_⟩::_) _ _;refine z0o rfl TS rfl z18 ?_;intro g3 w3 hg3 hk3 hb3;have q0:=((HT.out.ext hb2).ext hb3).c0;have q1:=((HT.out.ext hb2).ext hb3).c1))
  clear q0 q1;have hb23:=hb2.trans (hb3.mono hb2.size);refine(Hr.out w3 hb23).mono ?_;rintro e w4 ⟨rfl,hb4⟩;have hb24:=hb23.trans (hb4.mono hb23.size);have hB4:=HB.out.trans (hb24.mono HB.out.size);have hk2':=(hk2.ext hb3).ext hb4;have hk3':=hk3.ext hb4;have hg2':w.heap.size≤g2:=znt HB.out.size hg2;have hg3':w.heap.size≤g3:=Nat.le_trans (HB.out.trans (hb2.mono HB.out.size)).size hg3;have hne:g2≠g3:=by have:=hk2.lt;omega
  have hba:Below w4.heap.size w4 (w4.alloc (.cells #[.int .i64 (pg:Nat),.slice ca cn cc,.slice ka kn kc,.slice pa pn pc] VT)):=(zbr _ _).alloc (zlr _) _;have hB5:=hB4.trans (hba.mono hB4.size);have hk2a:=hk2'.ext hba;have hk3a:=hk3'.ext hba;clear hb2 hb3 hb23 hb4 hb24 hB4 hk2 hk3 hk2' hk3' hg2 hg3 hba
  cases B with
  | false=>
   obtain rfl:=Hf.out rfl
   go_wp2_with (first
    | (refine z0e rfl TS (.tmp 3) rfl g3 _ TS (by rfl) z0i hk3a ?_)
    | (refine z0j rfl TS (.tmp 2) (.tmp 15) rfl g2 _ _ TS (by rfl) (by rfl) z0i hk2a ?_;intro w9 hk9 ht9 _))
   refine bodyPost_ret (v:=.agg (sc (fun _=>false))) ?_ rfl ⟨rfl,hB5.trans (ht9.below hB5.size (fun i hi=>by subst hi;exact hg2'))⟩;exact z1h z0i rfl _ _ g2 _ (by rfl) hk9
  | true=>
   go_wp2_with (first
    | (show wpList _ _ _ (⟨some 12,_,_,_,_,_⟩::_) _ _;refine z0e rfl TS (.tmp 3) rfl g3 _ TS (by rfl) z0i hk3a ?_))
   refine(Hcall.out (by trivial) _ hB5).mono ?_;rintro e w6 ⟨rfl,hb6⟩;have hB6:=hB5.trans (hb6.mono hB5.size);have hk2b:=hk2a.ext hb6;have hk3b:=hk3a.ext hb6;clear hk2a hk3a hb6 hB5
   go_wp2_with (first
    | (show wpList _ _ _ (⟨none,_,_,_,_,_⟩::_) _ _;refine z0j rfl TS (.tmp 3) (.tmp 14) rfl g3 _ _ TS (by rfl) (by rfl) z0i hk3b ?_;intro w7 hk7 ht7 _;have hk2c:=hk2b.turn ht7 hne)
    | (show wpList _ _ _ (⟨some 15,_,_,_,_,_⟩::_) _ _;refine z0e rfl TS (.tmp 3) rfl g3 _ TS (by rfl) z0i hk7 ?_)
    | (show wpList _ _ _ (⟨none,_,_,_,_,_⟩::_) _ _;refine z0j rfl TS (.tmp 2) (.tmp 15) rfl g2 _ _ TS (by rfl) (by rfl) z0i hk2c ?_;intro w9 hk9 ht9 _))
   have hB7:=hB6.trans (ht7.below hB6.size (fun i hi=>by subst hi;exact hg3'));refine bodyPost_ret (v:=.agg (sc f)) ?_ rfl ⟨rfl,hB7.trans (ht9.below hB7.size (fun i hi=>by subst hi;exact hg2'))⟩;exact z1h z0i rfl _ _ g2 _ (by rfl) hk9
 rcases z14 ht with ⟨rfl,rfl,_⟩|⟨b,h,t,v,rfl,rfl,hnp,hnv,hz,hz3,hne,_⟩
 ·have e0:addR (fun _=>false) (uL [])=fun _=>false:=by
   rw[y9m (fun _=>false) (l:=uL []) (r:=[]) (fun m=>by rw[z23,z5t];simp),y25]
  rw[e0];exact main ⟨0,none,0,0,none,0,0,none,0,0⟩ false _ (fun w' _=>z8p n w') (fun _=>rfl) (fun h=>by cases h)
 ·rw[q5c];rw[z1s] at hch;exact main v true _ (fun w' hx=>z6x b n v w' (NP.ext (NP.ext hnp hb) hx)) (fun h=>by cases h) (fun _ w' hx=>z8c h _ v t w' (hnv.ext hx) hz hch)
end Go.Proofs.YtdnfhjfbanhhcaaGreatDoor
