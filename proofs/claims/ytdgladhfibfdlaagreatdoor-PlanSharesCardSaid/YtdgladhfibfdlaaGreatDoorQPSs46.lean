/-
  Steps.
-/
import Derived.Test.YtdgladhfibfdlaaGreatDoorQPSs45
namespace Go.Proofs.YtdgladhfibfdlaaGreatDoor
open Go Go.RowKit Go.Proofs.Tryz
set_option maxRecDepth 100000
structure One (t:Tr):Prop where
 mi:∀P,L5 P [t]
 en:(esL [t]).length=1
 nd:Z2 [t]=1
 pg:t.pg=0
 u:uL [t]=[]
theorem One.c9 {t:Tr}(h:One t):Z2 [t]≤cnt (Vq (Tw 9) [t]) 1024:=by
 have:=xQ (ts:=[t]) 9 (by omega) (by omega) h.u;rw[h.nd];exact Nat.le_trans (by omega) (Nat.le_of_eq this.symm)
theorem One.c2 {t:Tr}(h:One t):cnt (Vq (Tw 2) [t]) 1024<Z2 [t]:=by
 have:=xQ (ts:=[t]) 2 (by omega) (by omega) h.u;rw[h.nd];exact Nat.lt_of_le_of_lt (Nat.le_of_eq this) (by omega)
theorem One.lay {t:Tr}(h:One t){f:Nat→Bool}(hc:Z2 [t]≤cnt (Vq f [t]) 1024):∃q bs u,Uy [t] (Sk f [t])=[u]∧wrL [t] (Sk f [t])=[(q,bs)]∧u.pg=q∧q∈uL [u]∧(2≤q∧q<1024)∧xL (pgF (Dy (List.replicate 1024 []) (wrL [t] (Sk f [t])))) [u]:=by
 have h1:=Ow hc;have h2:=Mj hc;have h3:=I3 [t] (Sk f [t]);rw[h.nd] at h1 h3;obtain⟨q,hq⟩:=List.length_eq_one_iff.1 h1;obtain⟨⟨q2,bs⟩,hw⟩:=List.length_eq_one_iff.1 h3;have h4:=V4 (f:=f) (ts:=[t]) (x:=q) (by rw[hq];simp);have h5:=(h.mi _).laid hc (PL:=List.replicate 1024 []) List.length_replicate;have e1:Uy [t] (Sk f [t])=[Pk t (Sk f [t])]:=by rw[Uy,Uy]
 rw[e1] at h5;rw[hw,hq] at h2;simp only[List.map_cons,List.map_nil,List.cons.injEq,and_true] at h2;subst h2;have h6:(Pk t (Sk f [t])).pg=q2:=by
  rw[y6w t _ h.pg,hq];have:=h.nd;rw[Nj] at this;rw[this];rfl
 refine⟨q2,bs,_,e1,hw,h6,?_,⟨h4.2.1,h4.2.2.1⟩,h5⟩;rw[←e1,z3u hc];exact .inr (by rw[hq];simp)
theorem z57 {l:List Nat}{q:Nat}(h:q∈l)(hq:q<1024):inB (Qw (fun _=>false) l) (q:Int)=true:=by
 rw[z17 _ _ hq];unfold Qw;simp[h]
theorem y6x (w:World):Calls prog 29 #[.agg #[.pointer none,.int .i64 0],.string ⟨#[97]⟩,.string ⟨#[120]⟩] w fun e w'=>∃p H t,e=.returned (.tuple #[.agg #[.pointer p,.int .i64 1],.nilIface])∧Y6 w' p [t] H∧One t∧zB w w':=by
 have h:=y2d none [] 0 ⟨#[97]⟩ ⟨#[120]⟩ w (z1a.none w) (by simp) (by decide);obtain⟨h1,h2⟩:=y5y (es:=[]) (key:=⟨#[97]⟩) (v:=⟨#[120]⟩) (by decide) (by decide) (by simp);have e1:rep [] ⟨#[97]⟩ [⟨⟨#[97]⟩,⟨#[120]⟩,[]⟩]=[(⟨⟨#[97]⟩,⟨#[120]⟩,[]⟩:En)]:=by simp[rep]
 rw[h1,h2,e1] at h;refine h.mono ?_;rintro e w' ⟨p,H,rfl,hn,hb⟩;obtain⟨ts,g1,g2,g3,g4,g5,g6⟩:=hn.lay;obtain⟨t,rfl,g7,g8,g9⟩:=g6 (by simp);have e2:cNs [(⟨⟨#[97]⟩,⟨#[120]⟩,[]⟩:En)]=0:=by decide
 rw[e2] at g9;simp only[List.length_singleton] at g9;exact⟨p,H,t,rfl,g1,⟨g4,by rw[g2];rfl,by rw[Nj];omega,g7,g3⟩,hb⟩
set_option maxHeartbeats 2000000 in
theorem z1n (w:World)(hg:Hg w)(hwo:Vz w)(hT:I7 w):
  Calls prog 17 #[] w fun e w'=>e=.returned (.bool true)∧zB w w':=by
 have GQ:Hid (GF w w):=⟨zbr w.heap.size w,hg,hwo,hT⟩
 have Hput:=zh (y6x w);clear hg hwo hT
 go_enter func17,ntmps17
 go_wp2_with fail;refine(Hput.out).mono ?_;rintro e v1 ⟨p,H,t,rfl,htr,hfs,hb⟩;replace GQ:=zh (GQ.out.ext hb);clear hb;obtain⟨q,bs,u,hu,hws,hup,hqu,hq2,hlie⟩:=hfs.lay hfs.c9;have HX:=zh hfs;have HTR:=zh htr;have HLi:=zh (zai hup (zai hqu (zai hq2 hlie)));have Hlw:=zh (zai hu hws);clear hfs htr Hput hup hqu hq2 hlie hu hws;obtain⟨v2,hv2,hT,hb⟩:=Z1 v1 TT #[.pointer p,.int .i64 1];replace GQ:=zh (GQ.out.ext hb);replace HTR:=zh (HTR.out.ext hb);have K1:Hid (TB v2 v1.heap.size p 1):=hT;have Hv2:=zh hv2;clear hv2 hT hb;have HL:Hid (∀w',zB v2 w'→x0p p 1 (Tw 9) .nilIface 1 [u] H [(q,bs)] w'):=fun w' hb=>by
  rw[←Hlw.out.1,←Hlw.out.2];exact ZQ (fun _=> []) _ p [t] H 1 w' (HTR.out.ext hb) (HX.out.mi _) HX.out.en (by omega) (HX.out.c9) (GQ.out.wo.below hb) (GQ.out.ta.below hb)
 go_upto_region 2 with fail
 rw[Hv2.out]
 go_cut [3,4,5] (fun su sw se wx=>∃(gU:Nat) (pU:Option Addr) (vU:Value),su=.pointer (some ⟨gU,0,none⟩)∧sw=vU∧se=.nilIface∧Hid (LR v2 wx gU pU 1 vU [u] H [(q,bs)]))
 case first=>as_aux_lemma=>
  obtain⟨u0,hu0,hc⟩:∃u,v2.drew=u∧zB v2 u:=⟨_,rfl,(zbr _ _).drew⟩
  have hT0:=TB.ext K1.out hc;have hlt:=hT0.lt;have HU0:=zh hu0;have hz:u0.heap.size≤u0.heap.size:=zlr _;have q0:=fun w' (t:Zx (fun i=>u0.heap.size≤i) u0 w')=>(hT0.turn t (by omega)).c0
  have q1:=fun w' (t:Zx (fun i=>u0.heap.size≤i) u0 w')=>(hT0.turn t (by omega)).c1
  clear hu0;refine rgs (F:=fun i=>u0.heap.size≤i) (.rd 0 (.two 1 (.two 2 (.rd 3 (.rd 4 (.rd 5 (.rd 6 (.call 7 (.call 8 (.rd 9 (.rd 10 .done)))))))) 7 (.call 2 (.rd 3 (.rd 4 (.rd 5 (.rd 6 (.call 8 (.rd 9 (.rd 10 .done))))))))) 7 (.call 1 (.call 2 (.rd 3 (.rd 4 (.rd 5 (.rd 6 (.call 8 (.rd 9 (.rd 10 .done))))))))))) (h:= ?_);rw[HU0.out]
  (refine gsr (v:= ?_) rfl (by rfl) ?_ ?_;rotate_left;(intro w' hw';go_simp;with_reducible rfl);simp only[Act.put,zs0,zs1,zs2])
  clear q0 q1 hT0 hlt HU0;refine⟨?_,?_⟩
  ·refine gsc rfl (by rfl) (fun K hK=> ?_);go_simp;refine(Ty 9 _ (by omega)).mono ?_;rintro e uB ⟨rfl,hb⟩;refine hK _ _ (x3x hb) ?_;clear hK K;replace hc:=hc.trans (hb.mono hc.size);replace hz:=znt hz hb.size;clear hb;refine⟨?_,?_⟩
   ·refine gsc rfl (by rfl) (fun K hK=> ?_);go_simp;refine(HL.out _ hc).mono ?_;rintro e uL ⟨pU,vU,rfl,htr,hwv,hb⟩;refine hK _ _ (x3x hb) ?_;clear hK K;replace hc:=hc.trans (hb.mono hc.size);replace hz:=znt hz hb.size;clear hb;iterate 4 (refine gsr (v:= ?_) rfl (by rfl) ?_ ?_;rotate_left;(intro w' hw';go_simp;with_reducible rfl);simp only[Act.put,zs0,zs1,zs2])
    obtain⟨uA,hA0,hA,hb⟩:=Z1 uL TT #[.pointer none,.int .i64 0];have HA0:=zh hA0;have hG:v2.heap.size≤uL.heap.size:=hc.size;have hG0:u0.heap.size≤uL.heap.size:=hz;replace hA:TB uA uL.heap.size none 0:=hA;clear hA0;refine gsc rfl (by rfl) (fun K hK=> ?_);go_simp;rw[HA0.out];refine hK _ _ (x3x hb) ?_;clear hK K;clear HA0;try simp only[Act.put,zs0,zs1,zs2]
    replace hc:=hc.trans (hb.mono hc.size);replace hz:=znt hz hb.size;replace htr:=htr.ext hb;replace hwv:=hwv.ext hb;clear hb;have c0:=hA.c0;have c1:=hA.c1;have f0:=hA.fz 0;have f1:=hA.fz 1;have hfin:=zh (LR.put (n:=1) hA hG htr hwv hc);have HT:Hid (Zx (fun i=>u0.heap.size≤i) uA ((uA.setCell ⟨uL.heap.size,0,none⟩ (.pointer pU)).setCell ⟨uL.heap.size,1,none⟩ (.int .i64 (1:Nat)))):=(Yv _ _ _ _).mono (fun i hi _=>by subst hi;exact hG0);refine gsc rfl (by rfl) (fun K hK=> ?_);go_simp;refine hK _ _ HT.out ?_;clear hK K c0 c1 f0 f1;iterate 2 (refine gsr (v:= ?_) rfl (by rfl) ?_ ?_;rotate_left;(intro w' hw';go_simp;with_reducible rfl);simp only[Act.put,zs0,zs1,zs2])
    refine Zy ?_;go_wp2;go_meet;exact⟨_,_,_,rfl,rfl,rfl,hfin⟩
   ·obtain⟨uA,hA0,hA,hb⟩:=Z1 uB TT #[.pointer none,.int .i64 0];have HA0:=zh hA0;have hG:v2.heap.size≤uB.heap.size:=hc.size;have hG0:u0.heap.size≤uB.heap.size:=hz;replace hA:TB uA uB.heap.size none 0:=hA;clear hA0;refine gsc rfl (by rfl) (fun K hK=> ?_);go_simp;rw[HA0.out];refine hK _ _ (x3x hb) ?_;clear hK K;clear HA0;try simp only[Act.put,zs0,zs1,zs2]
    replace hc:=hc.trans (hb.mono hc.size);replace hz:=znt hz hb.size;clear hb;refine gsc rfl (by rfl) (fun K hK=> ?_);go_simp;refine(HL.out _ hc).mono ?_;rintro e uL ⟨pU,vU,rfl,htr,hwv,hb⟩;refine hK _ _ (x3x hb) ?_;clear hK K;replace hc:=hc.trans (hb.mono hc.size);replace hz:=znt hz hb.size;replace hA:=TB.ext hA hb;clear hb;iterate 4 (refine gsr (v:= ?_) rfl (by rfl) ?_ ?_;rotate_left;(intro w' hw';go_simp;with_reducible rfl);simp only[Act.put,zs0,zs1,zs2])
    have c0:=hA.c0;have c1:=hA.c1;have f0:=hA.fz 0;have f1:=hA.fz 1;have hfin:=zh (LR.put (n:=1) hA hG htr hwv hc);have HT:Hid (Zx (fun i=>u0.heap.size≤i) uL ((uL.setCell ⟨uB.heap.size,0,none⟩ (.pointer pU)).setCell ⟨uB.heap.size,1,none⟩ (.int .i64 (1:Nat)))):=(Yv _ _ _ _).mono (fun i hi _=>by subst hi;exact hG0);refine gsc rfl (by rfl) (fun K hK=> ?_);go_simp;refine hK _ _ HT.out ?_;clear hK K c0 c1 f0 f1;iterate 2 (refine gsr (v:= ?_) rfl (by rfl) ?_ ?_;rotate_left;(intro w' hw';go_simp;with_reducible rfl);simp only[Act.put,zs0,zs1,zs2])
    refine Zy ?_;go_wp2;go_meet;exact⟨_,_,_,rfl,rfl,rfl,hfin⟩
  ·obtain⟨uA,hA0,hA,hb⟩:=Z1 u0 TT #[.pointer none,.int .i64 0];have HA0:=zh hA0;have hG:v2.heap.size≤u0.heap.size:=hc.size;have hG0:u0.heap.size≤u0.heap.size:=hz;replace hA:TB uA u0.heap.size none 0:=hA;clear hA0;refine gsc rfl (by rfl) (fun K hK=> ?_);go_simp;rw[HA0.out];refine hK _ _ (x3x hb) ?_;clear hK K;clear HA0;try simp only[Act.put,zs0,zs1,zs2]
   replace hc:=hc.trans (hb.mono hc.size);replace hz:=znt hz hb.size;clear hb;refine gsc rfl (by rfl) (fun K hK=> ?_);go_simp;refine(Ty 9 _ (by omega)).mono ?_;rintro e uB ⟨rfl,hb⟩;refine hK _ _ (x3x hb) ?_;clear hK K;replace hc:=hc.trans (hb.mono hc.size);replace hz:=znt hz hb.size;replace hA:=TB.ext hA hb;clear hb;refine gsc rfl (by rfl) (fun K hK=> ?_);go_simp;refine(HL.out _ hc).mono ?_;rintro e uL ⟨pU,vU,rfl,htr,hwv,hb⟩;refine hK _ _ (x3x hb) ?_;clear hK K;replace hc:=hc.trans (hb.mono hc.size);replace hz:=znt hz hb.size;replace hA:=TB.ext hA hb;clear hb;iterate 4 (refine gsr (v:= ?_) rfl (by rfl) ?_ ?_;rotate_left;(intro w' hw';go_simp;with_reducible rfl);simp only[Act.put,zs0,zs1,zs2])
   have c0:=hA.c0;have c1:=hA.c1;have f0:=hA.fz 0;have f1:=hA.fz 1;have hfin:=zh (LR.put (n:=1) hA hG htr hwv hc);have HT:Hid (Zx (fun i=>u0.heap.size≤i) uL ((uL.setCell ⟨u0.heap.size,0,none⟩ (.pointer pU)).setCell ⟨u0.heap.size,1,none⟩ (.int .i64 (1:Nat)))):=(Yv _ _ _ _).mono (fun i hi _=>by subst hi;exact hG0);refine gsc rfl (by rfl) (fun K hK=> ?_);go_simp;refine hK _ _ HT.out ?_;clear hK K c0 c1 f0 f1;iterate 2 (refine gsr (v:= ?_) rfl (by rfl) ?_ ?_;rotate_left;(intro w' hw';go_simp;with_reducible rfl);simp only[Act.put,zs0,zs1,zs2])
   refine Zy ?_;go_wp2;go_meet;exact⟨_,_,_,rfl,rfl,rfl,hfin⟩
 case rest=>
  obtain⟨gU,pU,vU,rfl,rfl,rfl,hU⟩:=hcut;have hb:=hU.out.b;have HU:=hU;clear hU;replace GQ:=zh (GQ.out.ext hb);replace HTR:=zh (HTR.out.ext hb);replace K1:=zh (TB.ext K1.out hb);clear hb;clear HL;have HL:Hid (∀w',zB wc w'→x0p p 1 (Tw 2) (.iface 110 (.int .i64 8)) 0 [] 0 [] w'):=fun w' hb=>y3i (fun _=> []) _ p 1 [t] H w' (HTR.out.ext hb) (HX.out.mi _) (by rw[HX.out.nd];omega) HX.out.c2
  go_upto_region 3 with fail
  go_cut [6,7,8] (fun su sw se wx=>∃(gU:Nat) (pU:Option Addr) (vU:Value),su=.pointer (some ⟨gU,0,none⟩)∧sw=vU∧se=(.iface 110 (.int .i64 8))∧Hid (LR wc wx gU pU 0 vU [] 0 []))
  case first=>as_aux_lemma=>
   obtain⟨u0,hu0,hc⟩:∃u,wc.drew=u∧zB wc u:=⟨_,rfl,(zbr _ _).drew⟩
   have hT0:=TB.ext K1.out hc;have hlt:=hT0.lt;have HU0:=zh hu0;have hz:u0.heap.size≤u0.heap.size:=zlr _;have q0:=fun w' (t:Zx (fun i=>u0.heap.size≤i) u0 w')=>(hT0.turn t (by omega)).c0
   have q1:=fun w' (t:Zx (fun i=>u0.heap.size≤i) u0 w')=>(hT0.turn t (by omega)).c1
   clear hu0;refine rgs (F:=fun i=>u0.heap.size≤i) (.rd 0 (.two 1 (.two 2 (.rd 3 (.rd 4 (.rd 5 (.rd 6 (.call 7 (.call 8 (.rd 9 (.rd 10 .done)))))))) 7 (.call 2 (.rd 3 (.rd 4 (.rd 5 (.rd 6 (.call 8 (.rd 9 (.rd 10 .done))))))))) 7 (.call 1 (.call 2 (.rd 3 (.rd 4 (.rd 5 (.rd 6 (.call 8 (.rd 9 (.rd 10 .done))))))))))) (h:= ?_);rw[HU0.out]
   (refine gsr (v:= ?_) rfl (by rfl) ?_ ?_;rotate_left;(intro w' hw';go_simp;with_reducible rfl);simp only[Act.put,zs0,zs1,zs2])
   clear q0 q1 hT0 hlt HU0;refine⟨?_,?_⟩
   ·refine gsc rfl (by rfl) (fun K hK=> ?_);go_simp;refine(Ty 2 _ (by omega)).mono ?_;rintro e uB ⟨rfl,hb⟩;refine hK _ _ (x3x hb) ?_;clear hK K;replace hc:=hc.trans (hb.mono hc.size);replace hz:=znt hz hb.size;clear hb;refine⟨?_,?_⟩
    ·refine gsc rfl (by rfl) (fun K hK=> ?_);go_simp;refine(HL.out _ hc).mono ?_;rintro e uL ⟨pU,vU,rfl,htr,hwv,hb⟩;refine hK _ _ (x3x hb) ?_;clear hK K;replace hc:=hc.trans (hb.mono hc.size);replace hz:=znt hz hb.size;clear hb;iterate 4 (refine gsr (v:= ?_) rfl (by rfl) ?_ ?_;rotate_left;(intro w' hw';go_simp;with_reducible rfl);simp only[Act.put,zs0,zs1,zs2])
     obtain⟨uA,hA0,hA,hb⟩:=Z1 uL TT #[.pointer none,.int .i64 0];have HA0:=zh hA0;have hG:wc.heap.size≤uL.heap.size:=hc.size;have hG0:u0.heap.size≤uL.heap.size:=hz;replace hA:TB uA uL.heap.size none 0:=hA;clear hA0;refine gsc rfl (by rfl) (fun K hK=> ?_);go_simp;rw[HA0.out];refine hK _ _ (x3x hb) ?_;clear hK K;clear HA0;try simp only[Act.put,zs0,zs1,zs2]
     replace hc:=hc.trans (hb.mono hc.size);replace hz:=znt hz hb.size;replace htr:=htr.ext hb;replace hwv:=hwv.ext hb;clear hb;have c0:=hA.c0;have c1:=hA.c1;have f0:=hA.fz 0;have f1:=hA.fz 1;have hfin:=zh (LR.put (n:=0) hA hG htr hwv hc);have HT:Hid (Zx (fun i=>u0.heap.size≤i) uA ((uA.setCell ⟨uL.heap.size,0,none⟩ (.pointer pU)).setCell ⟨uL.heap.size,1,none⟩ (.int .i64 (0:Nat)))):=(Yv _ _ _ _).mono (fun i hi _=>by subst hi;exact hG0);refine gsc rfl (by rfl) (fun K hK=> ?_);go_simp;refine hK _ _ HT.out ?_;clear hK K c0 c1 f0 f1;iterate 2 (refine gsr (v:= ?_) rfl (by rfl) ?_ ?_;rotate_left;(intro w' hw';go_simp;with_reducible rfl);simp only[Act.put,zs0,zs1,zs2])
     refine Zy ?_;go_wp2;go_meet;exact⟨_,_,_,rfl,rfl,rfl,hfin⟩
    ·obtain⟨uA,hA0,hA,hb⟩:=Z1 uB TT #[.pointer none,.int .i64 0];have HA0:=zh hA0;have hG:wc.heap.size≤uB.heap.size:=hc.size;have hG0:u0.heap.size≤uB.heap.size:=hz;replace hA:TB uA uB.heap.size none 0:=hA;clear hA0;refine gsc rfl (by rfl) (fun K hK=> ?_);go_simp;rw[HA0.out];refine hK _ _ (x3x hb) ?_;clear hK K;clear HA0;try simp only[Act.put,zs0,zs1,zs2]
     replace hc:=hc.trans (hb.mono hc.size);replace hz:=znt hz hb.size;clear hb;refine gsc rfl (by rfl) (fun K hK=> ?_);go_simp;refine(HL.out _ hc).mono ?_;rintro e uL ⟨pU,vU,rfl,htr,hwv,hb⟩;refine hK _ _ (x3x hb) ?_;clear hK K;replace hc:=hc.trans (hb.mono hc.size);replace hz:=znt hz hb.size;replace hA:=TB.ext hA hb;clear hb;iterate 4 (refine gsr (v:= ?_) rfl (by rfl) ?_ ?_;rotate_left;(intro w' hw';go_simp;with_reducible rfl);simp only[Act.put,zs0,zs1,zs2])
     have c0:=hA.c0;have c1:=hA.c1;have f0:=hA.fz 0;have f1:=hA.fz 1;have hfin:=zh (LR.put (n:=0) hA hG htr hwv hc);have HT:Hid (Zx (fun i=>u0.heap.size≤i) uL ((uL.setCell ⟨uB.heap.size,0,none⟩ (.pointer pU)).setCell ⟨uB.heap.size,1,none⟩ (.int .i64 (0:Nat)))):=(Yv _ _ _ _).mono (fun i hi _=>by subst hi;exact hG0);refine gsc rfl (by rfl) (fun K hK=> ?_);go_simp;refine hK _ _ HT.out ?_;clear hK K c0 c1 f0 f1;iterate 2 (refine gsr (v:= ?_) rfl (by rfl) ?_ ?_;rotate_left;(intro w' hw';go_simp;with_reducible rfl);simp only[Act.put,zs0,zs1,zs2])
     refine Zy ?_;go_wp2;go_meet;exact⟨_,_,_,rfl,rfl,rfl,hfin⟩
   ·obtain⟨uA,hA0,hA,hb⟩:=Z1 u0 TT #[.pointer none,.int .i64 0];have HA0:=zh hA0;have hG:wc.heap.size≤u0.heap.size:=hc.size;have hG0:u0.heap.size≤u0.heap.size:=hz;replace hA:TB uA u0.heap.size none 0:=hA;clear hA0;refine gsc rfl (by rfl) (fun K hK=> ?_);go_simp;rw[HA0.out];refine hK _ _ (x3x hb) ?_;clear hK K;clear HA0;try simp only[Act.put,zs0,zs1,zs2]
    replace hc:=hc.trans (hb.mono hc.size);replace hz:=znt hz hb.size;clear hb;refine gsc rfl (by rfl) (fun K hK=> ?_);go_simp;refine(Ty 2 _ (by omega)).mono ?_;rintro e uB ⟨rfl,hb⟩;refine hK _ _ (x3x hb) ?_;clear hK K;replace hc:=hc.trans (hb.mono hc.size);replace hz:=znt hz hb.size;replace hA:=TB.ext hA hb;clear hb;refine gsc rfl (by rfl) (fun K hK=> ?_);go_simp;refine(HL.out _ hc).mono ?_;rintro e uL ⟨pU,vU,rfl,htr,hwv,hb⟩;refine hK _ _ (x3x hb) ?_;clear hK K;replace hc:=hc.trans (hb.mono hc.size);replace hz:=znt hz hb.size;replace hA:=TB.ext hA hb;clear hb;iterate 4 (refine gsr (v:= ?_) rfl (by rfl) ?_ ?_;rotate_left;(intro w' hw';go_simp;with_reducible rfl);simp only[Act.put,zs0,zs1,zs2])
    have c0:=hA.c0;have c1:=hA.c1;have f0:=hA.fz 0;have f1:=hA.fz 1;have hfin:=zh (LR.put (n:=0) hA hG htr hwv hc);have HT:Hid (Zx (fun i=>u0.heap.size≤i) uL ((uL.setCell ⟨u0.heap.size,0,none⟩ (.pointer pU)).setCell ⟨u0.heap.size,1,none⟩ (.int .i64 (0:Nat)))):=(Yv _ _ _ _).mono (fun i hi _=>by subst hi;exact hG0);refine gsc rfl (by rfl) (fun K hK=> ?_);go_simp;refine hK _ _ HT.out ?_;clear hK K c0 c1 f0 f1;iterate 2 (refine gsr (v:= ?_) rfl (by rfl) ?_ ?_;rotate_left;(intro w' hw';go_simp;with_reducible rfl);simp only[Act.put,zs0,zs1,zs2])
    refine Zy ?_;go_wp2;go_meet;exact⟨_,_,_,rfl,rfl,rfl,hfin⟩
  case rest=>
   obtain⟨gU2,pU2,vU2,rfl,rfl,rfl,hU⟩:=hcut;have hb:=hU.out.b;have HU2:=hU;clear hU;replace GQ:=zh (GQ.out.ext hb);replace HTR:=zh (HTR.out.ext hb);replace K1:=zh (TB.ext K1.out hb);replace HU:=zh (HU.out.ext hb);clear hb;clear HL;obtain⟨va,vc,rfl,hva,_⟩:=HU.out.wv.slice;obtain⟨vg,vo,rfl⟩:=hva (by simp);clear hva;rw[List.length_singleton] at*;have CN1:=zh (fun w ht=>ZR (fun _=> []) p 1 [t] H 1 w ht (HX.out.mi _) HX.out.nd (by omega));have CN2:=zh (fun w ht=>ZR _ pU 1 [u] H 0 w ht HLi.out.2.2.2.mix HLi.out.2.2.2.need (by omega));have CR:=zh (fun w ht=>Fu pU 1 [u] H w ht);have CU:=zh (fun w ht=>ZS _ pU 1 [u] H w ht HLi.out.2.2.2.mix);have CH:=zh (fun w=>zT (Qw (fun _=>false) (uL [u])) (q:Int) w);have e1:inB (Qw (fun _=>false) (uL [u])) (q:Int)=true:=z57 HLi.out.2.1 HLi.out.2.2.1.2;rw[e1] at CH;have CE:=zh (fun w hg=>z8f (.iface 110 (.int .i64 8)) 8 w (z8h 8) hg);have CZ:=zh (fun w=>Fu none 0 [] 0 w (Y6.none w));rw[show(([u]:List Tr).headD (.leaf 0 [])).pg=q from HLi.out.1] at CR;rw[show((([]:List Tr).headD (.leaf 0 [])).pg:Nat)=0 from rfl] at CZ;clear e1;go_wp2_with fail;refine rgr [(0,true),(1,true),(2,true),(3,true),(4,true),(5,true),(6,true),(7,true),(8,true),(9,true),(10,true),(11,true),(12,true),(13,false),(14,true),(15,true),(16,true),(17,true),(18,false),(19,true),(20,true),(21,true),(22,true),(24,true),(25,true),(26,true),(27,true),(23,false),(28,true),(29,true),(30,true),(31,true),(33,true),(34,true),(35,true),(36,true),(32,false),(37,false),(38,true),(39,true),(40,true),(41,false),(42,true),(43,true),(44,true),(45,true),(46,false),(47,true),(48,true),(49,true)] (h:= ?_);obtain⟨ud,hud,hb⟩:∃u,wc.drew=u∧zB wc u:=⟨_,rfl,(zbr _ _).drew⟩
   rw[hud];replace GQ:=zh (GQ.out.ext hb);replace HTR:=zh (HTR.out.ext hb);replace K1:=zh (TB.ext K1.out hb);replace HU:=zh (HU.out.ext hb);replace HU2:=zh (HU2.out.ext hb);clear hb hud;have qa0:=fun w' (h:Ext ud w')=>(TB.ext (K1.out) h).c0
   have qa1:=fun w' (h:Ext ud w')=>(TB.ext (K1.out) h).c1
   iterate 13 (refine grr (v:= ?_) rfl (by rfl) ?_ ?_;rotate_left;(intro w' hw';go_simp;with_reducible rfl);simp only[Act.put,zs0,zs1,zs2])
   clear qa0 qa1;refine grc rfl (by rfl) (fun K hK=> ?_);go_simp;refine(CN1.out ud HTR.out).mono ?_;rintro e v3 ⟨rfl,hb⟩;refine hK _ _ hb ?_;clear hK K;replace GQ:=zh (GQ.out.ext hb);replace HTR:=zh (HTR.out.ext hb);replace K1:=zh (TB.ext K1.out hb);replace HU:=zh (HU.out.ext hb);replace HU2:=zh (HU2.out.ext hb);clear hb;try simp only[Act.put,zs0,zs1,zs2]
   have qa0:=fun w' (h:Ext v3 w')=>(TB.ext (HU.out.t) h).c0
   have qa1:=fun w' (h:Ext v3 w')=>(TB.ext (HU.out.t) h).c1
   iterate 4 (refine grr (v:= ?_) rfl (by rfl) ?_ ?_;rotate_left;(intro w' hw';go_simp;with_reducible rfl);simp only[Act.put,zs0,zs1,zs2])
   clear qa0 qa1;refine grc rfl (by rfl) (fun K hK=> ?_);go_simp;refine(CN2.out v3 HU.out.tr).mono ?_;rintro e v4 ⟨rfl,hb⟩;refine hK _ _ hb ?_;clear hK K;replace GQ:=zh (GQ.out.ext hb);replace HTR:=zh (HTR.out.ext hb);replace K1:=zh (TB.ext K1.out hb);replace HU:=zh (HU.out.ext hb);replace HU2:=zh (HU2.out.ext hb);clear hb;try simp only[Act.put,zs0,zs1,zs2]
   have qa0:=fun w' (h:Ext v4 w')=>(TB.ext (HU.out.t) h).c0
   have qa1:=fun w' (h:Ext v4 w')=>(TB.ext (HU.out.t) h).c1
   have qc:=fun w' (h:Ext v4 w')=>(WV.cell (i:=0) (HU.out.wv.ext h) (by simp):w'.cell? ⟨vg,vo+0*2,none⟩=_)
   simp only[Nat.zero_mul,Nat.add_zero,List.getD_cons_zero] at qc;iterate 8 (refine grr (v:= ?_) rfl (by rfl) ?_ ?_;rotate_left;(intro w' hw';go_simp;with_reducible rfl);simp only[Act.put,zs0,zs1,zs2])
   clear qa0 qa1 qc;refine grc rfl (by rfl) (fun K hK=> ?_);go_simp;refine(CR.out v4 HU.out.tr).mono ?_;rintro e v5 ⟨rfl,hb⟩;refine hK _ _ hb ?_;clear hK K;replace GQ:=zh (GQ.out.ext hb);replace HTR:=zh (HTR.out.ext hb);replace K1:=zh (TB.ext K1.out hb);replace HU:=zh (HU.out.ext hb);replace HU2:=zh (HU2.out.ext hb);clear hb;try simp only[Act.put,zs0,zs1,zs2]
   have qa0:=fun w' (h:Ext v5 w')=>(TB.ext (HU.out.t) h).c0
   have qa1:=fun w' (h:Ext v5 w')=>(TB.ext (HU.out.t) h).c1
   have qc:=fun w' (h:Ext v5 w')=>(WV.cell (i:=0) (HU.out.wv.ext h) (by simp):w'.cell? ⟨vg,vo+0*2,none⟩=_)
   simp only[Nat.zero_mul,Nat.add_zero,List.getD_cons_zero] at qc;iterate 8 (refine grr (v:= ?_) rfl (by rfl) ?_ ?_;rotate_left;(intro w' hw';go_simp;with_reducible rfl);simp only[Act.put,zs0,zs1,zs2])
   clear qa0 qa1 qc;refine grc rfl (by rfl) (fun K hK=> ?_);go_simp;refine(CU.out v5 HU.out.tr).mono ?_;rintro e v6 ⟨rfl,hb⟩;refine hK _ _ hb ?_;clear hK K;replace GQ:=zh (GQ.out.ext hb);replace HTR:=zh (HTR.out.ext hb);replace K1:=zh (TB.ext K1.out hb);replace HU:=zh (HU.out.ext hb);replace HU2:=zh (HU2.out.ext hb);clear hb;try simp only[Act.put,zs0,zs1,zs2]
   refine grc rfl (by rfl) (fun K hK=> ?_);go_simp;refine(CH.out v6).mono ?_;rintro e v7 ⟨rfl,hb⟩;refine hK _ _ hb ?_;clear hK K;replace GQ:=zh (GQ.out.ext hb);replace HTR:=zh (HTR.out.ext hb);replace K1:=zh (TB.ext K1.out hb);replace HU:=zh (HU.out.ext hb);replace HU2:=zh (HU2.out.ext hb);clear hb;try simp only[Act.put,zs0,zs1,zs2]
   iterate 3 (refine grr (v:= ?_) rfl (by rfl) ?_ ?_;rotate_left;(intro w' hw';go_simp;with_reducible rfl);simp only[Act.put,zs0,zs1,zs2])
   refine grc rfl (by rfl) (fun K hK=> ?_);go_simp;refine(CE.out v7 GQ.out.g).mono ?_;rintro e v8 ⟨rfl,hb⟩;refine hK _ _ hb ?_;clear hK K;replace GQ:=zh (GQ.out.ext hb);replace HTR:=zh (HTR.out.ext hb);replace K1:=zh (TB.ext K1.out hb);replace HU:=zh (HU.out.ext hb);replace HU2:=zh (HU2.out.ext hb);clear hb;try simp only[Act.put,zs0,zs1,zs2]
   iterate 4 (refine grr (v:= ?_) rfl (by rfl) ?_ ?_;rotate_left;(intro w' hw';go_simp;with_reducible rfl);simp only[Act.put,zs0,zs1,zs2])
   refine grc rfl (by rfl) (fun K hK=> ?_);go_simp;refine(CZ.out v8).mono ?_;rintro e v9 ⟨rfl,hb⟩;refine hK _ _ hb ?_;clear hK K;replace GQ:=zh (GQ.out.ext hb);replace HTR:=zh (HTR.out.ext hb);replace K1:=zh (TB.ext K1.out hb);replace HU:=zh (HU.out.ext hb);replace HU2:=zh (HU2.out.ext hb);clear hb;try simp only[Act.put,zs0,zs1,zs2]
   iterate 3 (refine grr (v:= ?_) rfl (by rfl) ?_ ?_;rotate_left;(intro w' hw';go_simp;with_reducible rfl);simp only[Act.put,zs0,zs1,zs2])
   refine Yq ?_;go_wp2;go_ret;exact⟨rfl,GQ.out.b⟩
theorem ES.ext2 {w w':World}{a:Option Addr}{es:List En}(h:ES Y9 w a es)(hb:zB w w'):ES Y9 w' a es:=h.below hb (zlr _)
theorem y6y (p:Option Addr)(us:List Tr)(H:Nat)(key value:ByteArray)(n:Nat)(w:World)(ht:Y6 w p us H)(hn:(esL us).length=n)(hl:n<4096)(hk:okK key=true)(hv:value.size≤2048):
  Calls prog 29 #[.agg #[.pointer p,.int .i64 n],.string key,.string value] w fun e w'=>∃p' ts' H',e=.returned (.tuple #[.agg #[.pointer p',.int .i64 ((esL ts').length:Nat)],.nilIface])∧Y6 w' p' ts' H'∧xD us ts' H' key value∧zB w w':=by
 subst hn;obtain⟨h1,_⟩:=y5y (es:=esL us) hk hv hl;refine(z5k p us H key value w ht (by omega)).mono ?_;rintro e w' ⟨p',ts',H',rfl,h2,h3,hb⟩;rw[h1]
 rcases h3 with ⟨h3,_⟩|⟨_,h3⟩
 ·exact absurd h1 h3
 ·exact⟨p',ts',H',rfl,h2,h3,hb⟩
theorem RoR.at {w:World}{g:Nat}{l:List Nat}:∀{gs:List Nat} {P:List (List Nat)} {i:Nat},RoR w gs P→gs[i]? =some g→P[i]? =some l→Row w g 5 l∧l.length=512∧B8 l
 | _::_,_::_,0,h,h1,h2=>by
  simp only[List.getElem?_cons_zero,Option.some.injEq] at h1 h2;subst h1 h2;exact h.1
 | _::_,_::_,k+1,h,h1,h2=>RoR.at (i:=k) h.2 (by simpa using h1) (by simpa using h2)
 | [],[],_,_,h1,_=>by simp at h1
 | [],_::_,_,h,_,_=>h.elim
 | _::_,[],_,h,_,_=>h.elim
def PV (w:World)(v:Value)(P:List (List Nat)):Prop:=∃gs,EV Kv w v gs∧RoR w gs P
theorem PV.ext {w w':World}{v:Value}{P:List (List Nat)}(h:PV w v P)(hb:zB w w'):PV w' v P:=by
 obtain⟨gs,h1,h2⟩:=h;exact⟨gs,h1.ext hb,h2.below hb (zlr _)⟩
theorem PV.arg {w:World}{v:Value}{P:List (List Nat)}(h:PV w v P):∃a c,v=.slice a P.length c∧x0r w a P∧(0<P.length→∃g o,a=some ⟨g,o,none⟩):=by
 obtain⟨gs,⟨a,c,rfl,hs,_⟩,hr⟩:=h;have hl:=hr.len;refine⟨a,c,by rw[hl],fun i hi=> ?_,fun h0=> ?_⟩
 ·obtain⟨g,o,e,hc⟩:=hs.at (by omega);have h1:gs[i]? =some (gs[i]'(by omega)):=List.getElem?_eq_getElem (by omega);have h2:P[i]? =some (P[i]'hi):=List.getElem?_eq_getElem hi;obtain⟨h3,h4,h5⟩:=hr.at h1 h2;have h6:=hc (i*1) (.slice (some ⟨gs[i]'(by omega),0,none⟩) 512 512) (by
   have h:=Kv.row_at gs i 0 _ h1 (by decide);exact h)
  rw[Nat.mul_one] at h6;have e3:P.getD i []=P[i]'hi:=by rw[List.getD_eq_getElem?_getD,h2];rfl
  exact⟨g,o,_,e,h6,by rw[e3];exact⟨⟨_,512,by rw[h4],KN h3,by omega,by decide⟩,h5⟩⟩
 ·obtain⟨g,o,e,_⟩:=hs.at (by omega);exact⟨g,o,e⟩
theorem x2u (n:Nat)(w:World)(hn:n≤2000):Calls prog 23 #[.int .i64 n] w fun e w'=>∃u,e=.returned u∧PV w' u (List.replicate n (List.replicate 512 0))∧zB w w':=by
 refine(z7o n w hn).mono ?_;rintro e w' ⟨u,gs,rfl,h1,h2,h3⟩;have hl:=h2.len;rw[List.length_replicate] at hl;subst hl;exact⟨u,rfl,⟨gs,U3 h1,h2⟩,h3⟩
theorem x2v (u vw:Value)(P:List (List Nat))(ws:List PgW)(w:World)(hP:PV w u P)(hn:P.length≤2000)(h0:0<P.length)(hw:WV w vw ws)(hm:ws.length≤100000)(hp:∀x∈ws,2≤x.1∧x.1<P.length):
  Calls prog 22 #[u,vw] w fun e w'=>∃u',e=.returned u'∧PV w' u' (Dy P ws)∧zB w w':=by
 obtain⟨gs,⟨a,c,rfl,hs,_⟩,hr⟩:=hP;obtain⟨hs2,⟨b,d,rfl,hs3,_⟩,hr2⟩:=hw;have hl:=hr.len;have hl2:=hr2.len;refine(y58 a c gs P b d hs2 ws w gs.length hs2.length rfl (by omega) (by omega) hs hr rfl (by omega) hs3 hr2 (fun x hx=>⟨(hp x hx).1,by rw[hl];exact(hp x hx).2,hr2.b x hx⟩)).mono ?_;rintro e w' ⟨u',gs',rfl,h1,h2,h3⟩;have hl3:=h2.len;rw[ZN] at hl3;refine⟨u',rfl,⟨gs',U3 (T:=SBT) (by rw[hl3,←hl];exact h1),h2⟩,h3⟩
theorem x2w (u:Value)(P:List (List Nat))(root:Int)(n:Nat)(w:World)(o:RO)(hP:PV w u P)(hl:P.length≤1024)(hn:n≤4096)(hR:jR P root=some o)(hon:o.l.length=n):
  Calls prog 25 #[u,.int .i64 root,.int .i64 n] w fun e w'=>∃(L:Value) (ua:Option Addr) (un uc:Nat),e=.returned (.tuple #[.agg #[L,.slice ua un uc,.int .i64 o.d,.bool false],.int .i64 0])∧EV Y9 w' L o.l∧zB w w':=by
 obtain⟨a,c,rfl,h1,_⟩:=hP.arg;exact y6k P a c root n w o h1 hl hn hR hon
theorem z1o {PL:List (List Nat)}(hlen:PL.length=1024){w:World}{p:Option Addr}{us:List Tr}{H:Nat}(ht:Y6 w p us H)(hl:(esL us).length≤100000)(hL:xL (pgF PL) us):
  ∃o,jR PL (((us.headD (.leaf 0 [])).pg:Nat):Int)=some o∧o.l=bare (esL us):=by
 rcases Qz ht with ⟨_,rfl,_⟩|⟨b,h,t,v,_,rfl,_,hnv,hz,hz3,hne,_⟩
 ·exact⟨⟨[],fun _=>false,0⟩,by unfold jR;rfl,rfl⟩
 ·obtain⟨W,_,hn,_⟩:=hnv.nd;rw[U4] at hl⊢
  obtain⟨o,h1,h2,_⟩:=y6v hlen (x39 h hn) hz hz3 hne hl hL;exact⟨o,h1,h2⟩
end Go.Proofs.YtdgladhfibfdlaaGreatDoor
