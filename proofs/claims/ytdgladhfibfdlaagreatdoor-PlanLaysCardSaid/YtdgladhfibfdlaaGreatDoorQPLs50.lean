/-
  Steps.
-/
import Derived.Test.YtdgladhfibfdlaaGreatDoorQPLs49
namespace Go.Proofs.YtdgladhfibfdlaaGreatDoor
open Go Go.RowKit
structure GF (w0 w:World):Prop where
 b:Below w0.heap.size w0 w
 g:Hg w
 wo:z1m w
 ta:z58 w
theorem GF.ext {w0 w w':World}(h:GF w0 w)(hb:Below w.heap.size w w'):GF w0 w':=⟨h.b.trans (hb.mono h.b.size),h.g.below hb,h.wo.below hb,h.ta.below hb⟩
def WV (w:World)(vw:Value)(ws:List PgW):Prop:=∃gs,EV wrE0 w vw gs∧WRo w gs ws
theorem WV.nil (w:World):WV w nilS []:=⟨[],EV.none w,trivial⟩
theorem WV.ext {w w':World}{vw:Value}{ws:List PgW}(h:WV w vw ws)(hb:Below w.heap.size w w'):WV w' vw ws:=by
 obtain⟨gs,h1,h2⟩:=h;exact⟨gs,h1.ext hb,h2.mono fun _ _ hr=>hr.below hb hr.lt⟩
theorem WV.tur {w w':World}{F:Nat→Prop}{T:TypeId}{vw:Value}{ws:List PgW}(h:WV w vw ws)(ht:Turn F w w')(hF:TyF w F T)(hT:(T==WRT)=false:=by decide)(hT2:T≠5:=by decide):WV w' vw ws:=by
 obtain⟨gs,h1,h2⟩:=h;exact⟨gs,h1.tur ht hF hT,h2.mono fun g l hr=>ht.hg hr (hF.not hr hT2)⟩
def LayC (p:Option Addr)(n:Int)(f:Nat→Bool)(ER:Value)(n':Nat)(ts':List Tr)(H':Nat)(ws:List PgW)(w:World):Prop:=
 Calls Tryz.prog 13 #[.agg #[.pointer p,.int .i64 n],.agg (sc f)] w fun e w'=>∃p' vw,e=.returned (.tuple #[.agg #[.pointer p',.int .i64 n'],vw,ER])∧z09 w' p' ts' H'∧WV w' vw ws∧Below w.heap.size w w'
structure LR (W w:World) (g:Nat) (p:Option Addr) (n:Nat) (vw:Value) (ts:List Tr) (H:Nat) (ws:List PgW):Prop where
 t:TB w g p n
 lo:W.heap.size≤g
 tr:z09 w p ts H
 wv:WV w vw ws
 b:Below W.heap.size W w
theorem LR.ext {W w w':World}{g:Nat}{p:Option Addr}{n:Nat}{vw:Value}{ts:List Tr}{H:Nat}{ws:List PgW}(h:LR W w g p n vw ts H ws)(hb:Below w.heap.size w w'):LR W w' g p n vw ts H ws:=
 ⟨h.t.ext hb,h.lo,h.tr.ext hb,h.wv.ext hb,h.b.trans (hb.mono h.b.size)⟩
theorem LR.put {W w:World}{g:Nat}{p q:Option Addr}{n:Nat}{m:Int}{vw:Value}{ts:List Tr}{H:Nat}{ws:List PgW}(ht:TB w g q m)(hg:W.heap.size≤g)(htr:z09 w p ts H)(hw:WV w vw ws)(hb:Below W.heap.size W w):
  LR W ((w.setCell ⟨g,0,none⟩ (.pointer p)).setCell ⟨g,1,none⟩ (.int .i64 n)) g p n vw ts H ws:=
 ⟨ht.put p n,hg,htr.turn (z1a w g (.pointer p) (.int .i64 n)) (TF.one ht),hw.tur (z1a w g (.pointer p) (.int .i64 n)) (TyF.one ht),z1u hb hg⟩
theorem y95 (P:Nat→List Nat)(f:Nat→Bool)(p:Option Addr)(ts:List Tr)(H:Nat)(n:Nat)(w:World)(ht:z09 w p ts H)(hm:MixI P ts)(hn:(esL ts).length=n)(hl:n≤100000)(hc:z0j ts≤cnt (z1h f ts) 1024)(hwo:z1m w)(hT:z58 w):
  LayC p n f .nilIface n (layL ts (takP f ts)) H (wrL ts (takP f ts)) w:=by
 subst hn;refine(q5x P f p ts H w ht hm hl hc hwo hT).mono ?_;rintro e w' ⟨p',vw,gs,h1,h2,h3,h4,h5⟩;exact⟨p',vw,h1,h2,⟨gs,z13 h3,h4⟩,h5⟩
theorem x61 (P:Nat→List Nat)(f:Nat→Bool)(p:Option Addr)(n:Int)(ts:List Tr)(H:Nat)(w:World)(ht:z09 w p ts H)(hm:MixI P ts)(hnd:z0j ts≤1000000)(hc:cnt (z1h f ts) 1024<z0j ts):LayC p n f (errC 8) 0 [] 0 [] w:=by
 refine(q5w f p n ts H w ht (fun e he=>(hm.cev he (x94 (ht.okE.2 e he))).2) hnd hc).mono ?_;rintro e w' ⟨h1,h2⟩;exact⟨none,nilS,h1,z09.none w',WV.nil w',h2⟩
theorem z09.new {w:World}{p:Option Addr}{ts:List Tr}{H:Nat}(ht:z09 w p ts H):nwL ts≤2*(esL ts).length∧(ts≠[]→nwL ts+1≤2*(esL ts).length):=by
 rcases z27 ht with ⟨_,rfl,_⟩|⟨b,h,t,v,_,rfl,_,hnv,_,hz3,hne,_⟩
 ·simp[nwL]
 ·obtain⟨W,_,hn,_⟩:=hnv.nd;have h1:=q03 h (q6c h hn) hz3 (fun _=>hne);rw[z14,nwL,nwL];exact⟨by omega,fun _=>by omega⟩
theorem NewP.lay {w:World}{p:Option Addr}{es:List En}{H:Nat}(h:NewP w p es H):∃ts,z09 w p ts H∧esL ts=es∧uL ts=[]∧(∀P,MixI P ts)∧z0j ts≤3*es.length∧(es≠[]→∃t,ts=[t]∧t.pg=0∧1≤t.need∧t.need+1≤2*es.length+cNs es):=by
 obtain⟨ts,h1,rfl,h2,h3⟩:=h;have hch:=fun e he=>(h2 e he).1
 refine⟨ts,h1,rfl,q04 hch h3,fun P=>MixI.new hch h3,?_,fun hne=> ?_⟩
 ·have h4:=z63 ts;have h5:=h1.new.1;have h6:=x6t (esL ts) (fun e he=>by have:=(h2 e he).2;omega);omega
 ·rcases z27 h1 with ⟨_,rfl,_⟩|⟨b,h,t,v,_,rfl,_⟩
  ·exact absurd rfl hne
  ·have h4:t.pg=0:=by
    have h5:=h3 t.pg
    rcases Nat.eq_zero_or_pos t.pg with h6|h6
    ·exact h6
    ·rw[pgsL,pgsL,List.append_nil,t.pgs_eq,if_neg (by omega)] at h5;simp at h5
   have h8:=z63 [t];have h9:=h1.new.2 (by simp);rw[z4b] at h8;refine⟨t,rfl,h4,?_,by omega⟩
   cases t with
   | leaf pg cs=>have h5:pg=0:=h4;rw[Tr.need,if_pos h5];omega
   | bran pg ks ts=>have h5:pg=0:=h4;rw[Tr.need,if_pos h5];omega
theorem y96 {ts:List Tr}(k:Nat)(h2:2≤k)(hk:k≤1024)(hu:uL ts=[]):cnt (z1h (belowR k) ts) 1024=k-2:=by
 have h1:=y8b (fun m=>decide (m<k)) (fun m=>decide (m<2)) 1024;have e1:cnt (fun m=>decide (m<k)&&decide (m<2)) 1024=2:=by
  rw[z64 (g:=fun m=>decide (m<2)) (fun m _=>by
   by_cases h:m<2
   ·have h':m<k:=by omega
    simp[h,h']
   ·simp[h]),z8t];omega
 have e2:cnt (fun m=>decide (m<k)) 1024=k:=by rw[z8t];omega
 have e3:cnt (z1h (belowR k) ts) 1024=cnt (fun m=>decide (m<k)&& !decide (m<2)) 1024:=z64 (fun m _=>by
  unfold z1h belowR addR;rw[hu];simp)
 rw[e3];omega
theorem x95 (t:Tr)(ps:List Nat)(h:t.pg=0):(layT t ps).pg=na ps (t.need-1):=by
 cases t with
 | leaf pg cs=>
  have h5:pg=0:=h;rw[layT,Tr.need,if_pos h5,if_pos h5,Nat.add_sub_cancel];rfl
 | bran pg ks ts=>
  have h5:pg=0:=h;rw[layT,Tr.need,if_pos h5,if_pos h5,Nat.add_sub_cancel];rfl
theorem y3m (P:Nat→List Nat)(p:Option Addr)(n:Int)(ts:List Tr)(H N:Nat)(w:World)(ht:z09 w p ts H)(hm:MixI P ts)(hN:z0j ts=N)(hl:N≤1000000):
  Calls Tryz.prog 12 #[.agg #[.pointer p,.int .i64 n]] w fun e w'=>e=.returned (.int .i64 (N:Nat))∧Below w.heap.size w w':=by
 subst hN;exact y5x p n ts H w ht (fun e he=>(hm.cev he (x94 (ht.okE.2 e he))).2) hl
theorem y97 (P:Nat→List Nat)(p:Option Addr)(n:Int)(ts:List Tr)(H:Nat)(w:World)(ht:z09 w p ts H)(hm:MixI P ts):
  Calls Tryz.prog 24 #[.agg #[.pointer p,.int .i64 n]] w fun e w'=>e=.returned (.agg (sc (addR (fun _=>false) (uL ts))))∧Below w.heap.size w w':=
 y5y p n ts H w ht (fun e he=>(hm.cev he (x94 (ht.okE.2 e he))).2)
theorem WV.cell {w:World}{g o n c i:Nat}{ws:List PgW}(h:WV w (.slice (some ⟨g,o,none⟩) n c) ws)(hi:i<ws.length):w.cell? ⟨g,o+i*2,none⟩=some (.int .i64 ((ws.getD i (0,[])).1:Nat)):=by
 obtain⟨gs,⟨a,d,e1,hs,_⟩,hr⟩:=h;injection e1 with e1 _ _
 subst e1;have hl:=hr.len;obtain⟨g2,o2,e2,hc⟩:=hs.at (by omega);injection e2 with e2
 injection e2 with e2 e3 _
 subst e2 e3;have h1:gs[i]? =some (gs[i]'(by omega)):=List.getElem?_eq_getElem (by omega);have h2:ws[i]? =some (ws[i]'hi):=List.getElem?_eq_getElem hi;have h3:=(hr.at h1 h2).1;have h4:=hc (i*2) (.int .i64 ((gs[i]'(by omega)).1:Nat)) (by
  have h:=wrE0.row_at gs i 0 _ h1 (by decide);exact h)
 rw[h4,h3,List.getD_eq_getElem?_getD,h2];rfl
theorem WV.slice {w:World}{vw:Value}{ws:List PgW}(h:WV w vw ws):∃a c,vw=.slice a ws.length c∧(0<ws.length→∃g o,a=some ⟨g,o,none⟩)∧(a=none→c=0)∧ws.length≤c∧c≤maxLen:=by
 obtain⟨gs,⟨a,d,rfl,hs,h1⟩,hr⟩:=h;have hl:=hr.len;refine⟨a,d,by rw[hl],fun h0=> ?_,by rw[hl] at h1;exact h1⟩;obtain⟨g,o,e,_⟩:=hs.at (by omega);exact⟨g,o,e⟩
section
variable {f:Nat→Bool} {ts:List Tr}
theorem q5y (hc:z0j ts≤cnt (z1h f ts) 1024){PL:List (List Nat)}(hlen:PL.length=1024):∀x∈wrL ts (takP f ts),pgF (layP PL (wrL ts (takP f ts))) x.1=x.2:=
 x6v _ PL (by rw[z5f hc];exact y1h) (fun x hx=>by
  have h1:x.1∈takP f ts:=by rw[←z5f hc];exact List.mem_map_of_mem hx
  rw[hlen];exact(z2a h1).2.2.1)
theorem q3x (hc:z0j ts≤cnt (z1h f ts) 1024){PL:List (List Nat)}{p:Nat}(hp:p∉takP f ts):pgF (layP PL (wrL ts (takP f ts))) p=pgF PL p:=
 y3i p _ PL (by rw[z5f hc];exact hp)
theorem ws_pg (hc:z0j ts≤cnt (z1h f ts) 1024)(k:Nat):((wrL ts (takP f ts)).getD k (0,[])).1=na (takP f ts) k:=by
 have h:=z5f hc;unfold na;rw[List.getD_eq_getElem?_getD,List.getD_eq_getElem?_getD];have h2:(takP f ts)[k]? =((wrL ts (takP f ts))[k]?).map Prod.fst:=by rw[←List.getElem?_map,h]
 rw[h2]
 cases (wrL ts (takP f ts))[k]? <;>rfl
theorem x96 (hc:z0j ts≤cnt (z1h f ts) 1024){k:Nat}(hk:k<z0j ts):inB (z1h f ts) ((na (takP f ts) k:Nat):Int)=true:=by
 have h1:=z3j (ps:=takP f ts) (i:=k) (by rw[z2w hc];exact hk);have h2:=z2a h1;have h3:=((y3j _ _ _).1 (List.mem_of_mem_take h1)).2;rw[y2h _ _ h2.2.2.1];exact h3
theorem x97 (hc:z0j ts≤cnt (z1h f ts) 1024){k:Nat}(hk:k<z0j ts):inB (addR (fun _=>false) ((takP f ts).take k)) ((na (takP f ts) k:Nat):Int)=false:=by
 have hl:=z2w hc;have h1:=z3j (ps:=takP f ts) (i:=k) (by rw[hl];exact hk);have h2:=z2a h1;rw[y2h _ _ h2.2.2.1];have h3:na (takP f ts) k∉(takP f ts).take k:=fun h=>by
  have h4:=y93 (f:=f) (ts:=ts) (na (takP f ts) k);have h5:=congrArg (fun l=>l.count (na (takP f ts) k)) (List.take_append_drop k (takP f ts));have h6:na (takP f ts) k∈(takP f ts).drop k:=by
   have:=z7g (takP f ts) k 0;rw[Nat.add_zero] at this;rw[←this];exact z3j (by rw[zld];omega)
  have h7:=List.count_pos_iff.2 h;have h8:=List.count_pos_iff.2 h6;simp only[List.count_append] at h5;omega
 unfold addR;simp[h3]
theorem x62 (hc:z0j ts≤cnt (z1h f ts) 1024){k:Nat}(hk:k<z0j ts):z7e (addR (fun _=>false) ((takP f ts).take k)) ((na (takP f ts) k:Nat):Int)=addR (fun _=>false) ((takP f ts).take (k+1)):=by
 rw[z6y,y3b,z4y _ _ (by rw[z2w hc];exact hk)]
theorem MixI.laid (hc:z0j ts≤cnt (z1h f ts) 1024){PL:List (List Nat)}(hlen:PL.length=1024)(hm:MixI (pgF PL) ts):LieI (pgF (layP PL (wrL ts (takP f ts)))) (layL ts (takP f ts)):=
 hm.lay hc (q5y hc hlen) (fun _ hp=>q3x hc (fun h=>(z2a h).2.2.2 hp))
end
structure One (t:Tr):Prop where
 mi:∀P,MixI P [t]
 en:(esL [t]).length=1
 nd:z0j [t]=1
 pg:t.pg=0
 u:uL [t]=[]
theorem One.c9 {t:Tr}(h:One t):z0j [t]≤cnt (z1h (belowR 9) [t]) 1024:=by
 have:=y96 (ts:=[t]) 9 (by omega) (by omega) h.u;rw[h.nd];exact Nat.le_trans (by omega) (Nat.le_of_eq this.symm)
theorem One.c2 {t:Tr}(h:One t):cnt (z1h (belowR 2) [t]) 1024<z0j [t]:=by
 have:=y96 (ts:=[t]) 2 (by omega) (by omega) h.u;rw[h.nd];exact Nat.lt_of_le_of_lt (Nat.le_of_eq this) (by omega)
theorem One.lay {t:Tr}(h:One t){f:Nat→Bool}(hc:z0j [t]≤cnt (z1h f [t]) 1024):∃q bs u,layL [t] (takP f [t])=[u]∧wrL [t] (takP f [t])=[(q,bs)]∧u.pg=q∧q∈uL [u]∧(2≤q∧q<1024)∧LieI (pgF (layP (List.replicate 1024 []) (wrL [t] (takP f [t])))) [u]:=by
 have h1:=z2w hc;have h2:=z5f hc;have h3:=z7t [t] (takP f [t]);rw[h.nd] at h1 h3;obtain⟨q,hq⟩:=List.length_eq_one_iff.1 h1;obtain⟨⟨q2,bs⟩,hw⟩:=List.length_eq_one_iff.1 h3;have h4:=z2a (f:=f) (ts:=[t]) (x:=q) (by rw[hq];simp);have h5:=(h.mi _).laid hc (PL:=List.replicate 1024 []) List.length_replicate;have e1:layL [t] (takP f [t])=[layT t (takP f [t])]:=by rw[layL,layL]
 rw[e1] at h5;rw[hw,hq] at h2;simp only[List.map_cons,List.map_nil,List.cons.injEq,and_true] at h2;subst h2;have h6:(layT t (takP f [t])).pg=q2:=by
  rw[x95 t _ h.pg,hq];have:=h.nd;rw[z4b] at this;rw[this];rfl
 refine⟨q2,bs,_,e1,hw,h6,?_,⟨h4.2.1,h4.2.2.1⟩,h5⟩;rw[←e1,y75 hc];exact .inr (by rw[hq];simp)
theorem x98 {l:List Nat}{q:Nat}(h:q∈l)(hq:q<1024):inB (addR (fun _=>false) l) (q:Int)=true:=by
 rw[y2h _ _ hq];unfold addR;simp[h]
theorem x99 (w:World):Calls Tryz.prog 29 #[.agg #[.pointer none,.int .i64 0],.string ⟨#[97]⟩,.string ⟨#[120]⟩] w fun e w'=>∃p H t,e=.returned (.tuple #[.agg #[.pointer p,.int .i64 1],.nilIface])∧z09 w' p [t] H∧One t∧Below w.heap.size w w':=by
 have h:=x5x none [] 0 ⟨#[97]⟩ ⟨#[120]⟩ w (NewP.none w) (by simp) (by decide);obtain⟨h1,h2⟩:=q5l (es:=[]) (key:=⟨#[97]⟩) (v:=⟨#[120]⟩) (by decide) (by decide) (by simp);have e1:rep [] ⟨#[97]⟩ [⟨⟨#[97]⟩,⟨#[120]⟩,[]⟩]=[(⟨⟨#[97]⟩,⟨#[120]⟩,[]⟩:En)]:=by simp[rep]
 rw[h1,h2,e1] at h;refine h.mono ?_;rintro e w' ⟨p,H,rfl,hn,hb⟩;obtain⟨ts,g1,g2,g3,g4,g5,g6⟩:=hn.lay;obtain⟨t,rfl,g7,g8,g9⟩:=g6 (by simp);have e2:cNs [(⟨⟨#[97]⟩,⟨#[120]⟩,[]⟩:En)]=0:=by decide
 rw[e2] at g9;simp only[List.length_singleton] at g9;exact⟨p,H,t,rfl,g1,⟨g4,by rw[g2];rfl,by rw[z4b];omega,g7,g3⟩,hb⟩
set_option maxRecDepth 100000 in
set_option maxHeartbeats 2000000 in
theorem y57 (w:World)(hg:Hg w)(hwo:z1m w)(hT:z58 w):
  Calls Tryz.prog 17 #[] w fun e w'=>e=.returned (.bool true)∧Below w.heap.size w w':=by
 have GQ:Hid (GF w w):=⟨zbr w.heap.size w,hg,hwo,hT⟩
 have Hput:=zh (x99 w);clear hg hwo hT
 go_enter Tryz.func17,Tryz.ntmps17
 go_wp2_with fail;refine(Hput.out).mono ?_;rintro e v1 ⟨p,H,t,rfl,htr,hfs,hb⟩;replace GQ:=zh (GQ.out.ext hb);clear hb;obtain⟨q,bs,u,hu,hws,hup,hqu,hq2,hlie⟩:=hfs.lay hfs.c9;have HX:=zh hfs;have HTR:=zh htr;have HLi:=zh (zai hup (zai hqu (zai hq2 hlie)));have Hlw:=zh (zai hu hws);clear hfs htr Hput hup hqu hq2 hlie hu hws;obtain⟨v2,hv2,hT,hb⟩:=z0m v1 TT #[.pointer p,.int .i64 1];replace GQ:=zh (GQ.out.ext hb);replace HTR:=zh (HTR.out.ext hb);have K1:Hid (TB v2 v1.heap.size p 1):=hT;have Hv2:=zh hv2;clear hv2 hT hb;have HL:Hid (∀w',Below v2.heap.size v2 w'→LayC p 1 (belowR 9) .nilIface 1 [u] H [(q,bs)] w'):=fun w' hb=>by
  rw[←Hlw.out.1,←Hlw.out.2];exact y95 (fun _=> []) _ p [t] H 1 w' (HTR.out.ext hb) (HX.out.mi _) HX.out.en (by omega) (HX.out.c9) (GQ.out.wo.below hb) (GQ.out.ta.below hb)
 go_upto_region 2 with fail
 rw[Hv2.out]
 go_cut [3,4,5] (fun su sw se wx=>∃(gU:Nat) (pU:Option Addr) (vU:Value),su=.pointer (some ⟨gU,0,none⟩)∧sw=vU∧se=.nilIface∧Hid (LR v2 wx gU pU 1 vU [u] H [(q,bs)]))
 case first=>as_aux_lemma=>
  obtain⟨u0,hu0,hc⟩:∃u,v2.drew=u∧Below v2.heap.size v2 u:=⟨_,rfl,(zbr _ _).drew⟩
  have hT0:=TB.ext K1.out hc;have hlt:=hT0.lt;have HU0:=zh hu0;have hz:u0.heap.size≤u0.heap.size:=zlr _;have q0:=fun w' (t:Turn (fun i=>u0.heap.size≤i) u0 w')=>(hT0.turn t (by omega)).c0
  have q1:=fun w' (t:Turn (fun i=>u0.heap.size≤i) u0 w')=>(hT0.turn t (by omega)).c1
  clear hu0;refine z0n (F:=fun i=>u0.heap.size≤i) (.rd 0 (.two 1 (.two 2 (.rd 3 (.rd 4 (.rd 5 (.rd 6 (.call 7 (.call 8 (.rd 9 (.rd 10 .done)))))))) 7 (.call 2 (.rd 3 (.rd 4 (.rd 5 (.rd 6 (.call 8 (.rd 9 (.rd 10 .done))))))))) 7 (.call 1 (.call 2 (.rd 3 (.rd 4 (.rd 5 (.rd 6 (.call 8 (.rd 9 (.rd 10 .done))))))))))) (by kernel_rfl) (by kernel_rfl) (by kernel_rfl) (by kernel_rfl) (fun _ _ _ _ _ h=>h) ?_;rw[HU0.out]
  (refine gsr (v:= ?_) rfl (by rfl) ?_ ?_;rotate_left;(intro w' hw';go_simp;with_reducible rfl);simp only[Act.put,zs0,zs1,zs2])
  clear q0 q1 hT0 hlt HU0;refine⟨?_,?_⟩
  ·refine gsc rfl (by rfl) (fun K hK=> ?_);go_simp;refine(below_any 9 _ (by omega)).mono ?_;rintro e uB ⟨rfl,hb⟩;refine hK _ _ (q50 hb) ?_;clear hK K;replace hc:=hc.trans (hb.mono hc.size);replace hz:=znt hz hb.size;clear hb;refine⟨?_,?_⟩
   ·refine gsc rfl (by rfl) (fun K hK=> ?_);go_simp;refine(HL.out _ hc).mono ?_;rintro e uL ⟨pU,vU,rfl,htr,hwv,hb⟩;refine hK _ _ (q50 hb) ?_;clear hK K;replace hc:=hc.trans (hb.mono hc.size);replace hz:=znt hz hb.size;clear hb;iterate 4 (refine gsr (v:= ?_) rfl (by rfl) ?_ ?_;rotate_left;(intro w' hw';go_simp;with_reducible rfl);simp only[Act.put,zs0,zs1,zs2])
    obtain⟨uA,hA0,hA,hb⟩:=z0m uL TT #[.pointer none,.int .i64 0];have HA0:=zh hA0;have hG:v2.heap.size≤uL.heap.size:=hc.size;have hG0:u0.heap.size≤uL.heap.size:=hz;replace hA:TB uA uL.heap.size none 0:=hA;clear hA0;refine gsc rfl (by rfl) (fun K hK=> ?_);go_simp;rw[HA0.out];refine hK _ _ (q50 hb) ?_;clear hK K;clear HA0;try simp only[Act.put,zs0,zs1,zs2]
    replace hc:=hc.trans (hb.mono hc.size);replace hz:=znt hz hb.size;replace htr:=htr.ext hb;replace hwv:=hwv.ext hb;clear hb;have c0:=hA.c0;have c1:=hA.c1;have f0:=hA.fz 0;have f1:=hA.fz 1;have hfin:=zh (LR.put (n:=1) hA hG htr hwv hc);have HT:Hid (Turn (fun i=>u0.heap.size≤i) uA ((uA.setCell ⟨uL.heap.size,0,none⟩ (.pointer pU)).setCell ⟨uL.heap.size,1,none⟩ (.int .i64 (1:Nat)))):=(z1a _ _ _ _).mono (fun i hi _=>by subst hi;exact hG0);refine gsc rfl (by rfl) (fun K hK=> ?_);go_simp;refine hK _ _ HT.out ?_;clear hK K c0 c1 f0 f1;iterate 2 (refine gsr (v:= ?_) rfl (by rfl) ?_ ?_;rotate_left;(intro w' hw';go_simp;with_reducible rfl);simp only[Act.put,zs0,zs1,zs2])
    refine z0f ?_;go_wp2;go_meet;exact⟨_,_,_,rfl,rfl,rfl,hfin⟩
   ·obtain⟨uA,hA0,hA,hb⟩:=z0m uB TT #[.pointer none,.int .i64 0];have HA0:=zh hA0;have hG:v2.heap.size≤uB.heap.size:=hc.size;have hG0:u0.heap.size≤uB.heap.size:=hz;replace hA:TB uA uB.heap.size none 0:=hA;clear hA0;refine gsc rfl (by rfl) (fun K hK=> ?_);go_simp;rw[HA0.out];refine hK _ _ (q50 hb) ?_;clear hK K;clear HA0;try simp only[Act.put,zs0,zs1,zs2]
    replace hc:=hc.trans (hb.mono hc.size);replace hz:=znt hz hb.size;clear hb;refine gsc rfl (by rfl) (fun K hK=> ?_);go_simp;refine(HL.out _ hc).mono ?_;rintro e uL ⟨pU,vU,rfl,htr,hwv,hb⟩;refine hK _ _ (q50 hb) ?_;clear hK K;replace hc:=hc.trans (hb.mono hc.size);replace hz:=znt hz hb.size;replace hA:=TB.ext hA hb;clear hb;iterate 4 (refine gsr (v:= ?_) rfl (by rfl) ?_ ?_;rotate_left;(intro w' hw';go_simp;with_reducible rfl);simp only[Act.put,zs0,zs1,zs2])
    have c0:=hA.c0;have c1:=hA.c1;have f0:=hA.fz 0;have f1:=hA.fz 1;have hfin:=zh (LR.put (n:=1) hA hG htr hwv hc);have HT:Hid (Turn (fun i=>u0.heap.size≤i) uL ((uL.setCell ⟨uB.heap.size,0,none⟩ (.pointer pU)).setCell ⟨uB.heap.size,1,none⟩ (.int .i64 (1:Nat)))):=(z1a _ _ _ _).mono (fun i hi _=>by subst hi;exact hG0);refine gsc rfl (by rfl) (fun K hK=> ?_);go_simp;refine hK _ _ HT.out ?_;clear hK K c0 c1 f0 f1;iterate 2 (refine gsr (v:= ?_) rfl (by rfl) ?_ ?_;rotate_left;(intro w' hw';go_simp;with_reducible rfl);simp only[Act.put,zs0,zs1,zs2])
    refine z0f ?_;go_wp2;go_meet;exact⟨_,_,_,rfl,rfl,rfl,hfin⟩
  ·obtain⟨uA,hA0,hA,hb⟩:=z0m u0 TT #[.pointer none,.int .i64 0];have HA0:=zh hA0;have hG:v2.heap.size≤u0.heap.size:=hc.size;have hG0:u0.heap.size≤u0.heap.size:=hz;replace hA:TB uA u0.heap.size none 0:=hA;clear hA0;refine gsc rfl (by rfl) (fun K hK=> ?_);go_simp;rw[HA0.out];refine hK _ _ (q50 hb) ?_;clear hK K;clear HA0;try simp only[Act.put,zs0,zs1,zs2]
   replace hc:=hc.trans (hb.mono hc.size);replace hz:=znt hz hb.size;clear hb;refine gsc rfl (by rfl) (fun K hK=> ?_);go_simp;refine(below_any 9 _ (by omega)).mono ?_;rintro e uB ⟨rfl,hb⟩;refine hK _ _ (q50 hb) ?_;clear hK K;replace hc:=hc.trans (hb.mono hc.size);replace hz:=znt hz hb.size;replace hA:=TB.ext hA hb;clear hb;refine gsc rfl (by rfl) (fun K hK=> ?_);go_simp;refine(HL.out _ hc).mono ?_;rintro e uL ⟨pU,vU,rfl,htr,hwv,hb⟩;refine hK _ _ (q50 hb) ?_;clear hK K;replace hc:=hc.trans (hb.mono hc.size);replace hz:=znt hz hb.size;replace hA:=TB.ext hA hb;clear hb;iterate 4 (refine gsr (v:= ?_) rfl (by rfl) ?_ ?_;rotate_left;(intro w' hw';go_simp;with_reducible rfl);simp only[Act.put,zs0,zs1,zs2])
   have c0:=hA.c0;have c1:=hA.c1;have f0:=hA.fz 0;have f1:=hA.fz 1;have hfin:=zh (LR.put (n:=1) hA hG htr hwv hc);have HT:Hid (Turn (fun i=>u0.heap.size≤i) uL ((uL.setCell ⟨u0.heap.size,0,none⟩ (.pointer pU)).setCell ⟨u0.heap.size,1,none⟩ (.int .i64 (1:Nat)))):=(z1a _ _ _ _).mono (fun i hi _=>by subst hi;exact hG0);refine gsc rfl (by rfl) (fun K hK=> ?_);go_simp;refine hK _ _ HT.out ?_;clear hK K c0 c1 f0 f1;iterate 2 (refine gsr (v:= ?_) rfl (by rfl) ?_ ?_;rotate_left;(intro w' hw';go_simp;with_reducible rfl);simp only[Act.put,zs0,zs1,zs2])
   refine z0f ?_;go_wp2;go_meet;exact⟨_,_,_,rfl,rfl,rfl,hfin⟩
 case rest=>
  obtain⟨gU,pU,vU,rfl,rfl,rfl,hU⟩:=hcut;have hb:=hU.out.b;have HU:=hU;clear hU;replace GQ:=zh (GQ.out.ext hb);replace HTR:=zh (HTR.out.ext hb);replace K1:=zh (TB.ext K1.out hb);clear hb;clear HL;have HL:Hid (∀w',Below wc.heap.size wc w'→LayC p 1 (belowR 2) (.iface 110 (.int .i64 8)) 0 [] 0 [] w'):=fun w' hb=>x61 (fun _=> []) _ p 1 [t] H w' (HTR.out.ext hb) (HX.out.mi _) (by rw[HX.out.nd];omega) HX.out.c2
  go_upto_region 3 with fail
  go_cut [6,7,8] (fun su sw se wx=>∃(gU:Nat) (pU:Option Addr) (vU:Value),su=.pointer (some ⟨gU,0,none⟩)∧sw=vU∧se=(.iface 110 (.int .i64 8))∧Hid (LR wc wx gU pU 0 vU [] 0 []))
  case first=>as_aux_lemma=>
   obtain⟨u0,hu0,hc⟩:∃u,wc.drew=u∧Below wc.heap.size wc u:=⟨_,rfl,(zbr _ _).drew⟩
   have hT0:=TB.ext K1.out hc;have hlt:=hT0.lt;have HU0:=zh hu0;have hz:u0.heap.size≤u0.heap.size:=zlr _;have q0:=fun w' (t:Turn (fun i=>u0.heap.size≤i) u0 w')=>(hT0.turn t (by omega)).c0
   have q1:=fun w' (t:Turn (fun i=>u0.heap.size≤i) u0 w')=>(hT0.turn t (by omega)).c1
   clear hu0;refine z0n (F:=fun i=>u0.heap.size≤i) (.rd 0 (.two 1 (.two 2 (.rd 3 (.rd 4 (.rd 5 (.rd 6 (.call 7 (.call 8 (.rd 9 (.rd 10 .done)))))))) 7 (.call 2 (.rd 3 (.rd 4 (.rd 5 (.rd 6 (.call 8 (.rd 9 (.rd 10 .done))))))))) 7 (.call 1 (.call 2 (.rd 3 (.rd 4 (.rd 5 (.rd 6 (.call 8 (.rd 9 (.rd 10 .done))))))))))) (by kernel_rfl) (by kernel_rfl) (by kernel_rfl) (by kernel_rfl) (fun _ _ _ _ _ h=>h) ?_;rw[HU0.out]
   (refine gsr (v:= ?_) rfl (by rfl) ?_ ?_;rotate_left;(intro w' hw';go_simp;with_reducible rfl);simp only[Act.put,zs0,zs1,zs2])
   clear q0 q1 hT0 hlt HU0;refine⟨?_,?_⟩
   ·refine gsc rfl (by rfl) (fun K hK=> ?_);go_simp;refine(below_any 2 _ (by omega)).mono ?_;rintro e uB ⟨rfl,hb⟩;refine hK _ _ (q50 hb) ?_;clear hK K;replace hc:=hc.trans (hb.mono hc.size);replace hz:=znt hz hb.size;clear hb;refine⟨?_,?_⟩
    ·refine gsc rfl (by rfl) (fun K hK=> ?_);go_simp;refine(HL.out _ hc).mono ?_;rintro e uL ⟨pU,vU,rfl,htr,hwv,hb⟩;refine hK _ _ (q50 hb) ?_;clear hK K;replace hc:=hc.trans (hb.mono hc.size);replace hz:=znt hz hb.size;clear hb;iterate 4 (refine gsr (v:= ?_) rfl (by rfl) ?_ ?_;rotate_left;(intro w' hw';go_simp;with_reducible rfl);simp only[Act.put,zs0,zs1,zs2])
     obtain⟨uA,hA0,hA,hb⟩:=z0m uL TT #[.pointer none,.int .i64 0];have HA0:=zh hA0;have hG:wc.heap.size≤uL.heap.size:=hc.size;have hG0:u0.heap.size≤uL.heap.size:=hz;replace hA:TB uA uL.heap.size none 0:=hA;clear hA0;refine gsc rfl (by rfl) (fun K hK=> ?_);go_simp;rw[HA0.out];refine hK _ _ (q50 hb) ?_;clear hK K;clear HA0;try simp only[Act.put,zs0,zs1,zs2]
     replace hc:=hc.trans (hb.mono hc.size);replace hz:=znt hz hb.size;replace htr:=htr.ext hb;replace hwv:=hwv.ext hb;clear hb;have c0:=hA.c0;have c1:=hA.c1;have f0:=hA.fz 0;have f1:=hA.fz 1;have hfin:=zh (LR.put (n:=0) hA hG htr hwv hc);have HT:Hid (Turn (fun i=>u0.heap.size≤i) uA ((uA.setCell ⟨uL.heap.size,0,none⟩ (.pointer pU)).setCell ⟨uL.heap.size,1,none⟩ (.int .i64 (0:Nat)))):=(z1a _ _ _ _).mono (fun i hi _=>by subst hi;exact hG0);refine gsc rfl (by rfl) (fun K hK=> ?_);go_simp;refine hK _ _ HT.out ?_;clear hK K c0 c1 f0 f1;iterate 2 (refine gsr (v:= ?_) rfl (by rfl) ?_ ?_;rotate_left;(intro w' hw';go_simp;with_reducible rfl);simp only[Act.put,zs0,zs1,zs2])
     refine z0f ?_;go_wp2;go_meet;exact⟨_,_,_,rfl,rfl,rfl,hfin⟩
    ·obtain⟨uA,hA0,hA,hb⟩:=z0m uB TT #[.pointer none,.int .i64 0];have HA0:=zh hA0;have hG:wc.heap.size≤uB.heap.size:=hc.size;have hG0:u0.heap.size≤uB.heap.size:=hz;replace hA:TB uA uB.heap.size none 0:=hA;clear hA0;refine gsc rfl (by rfl) (fun K hK=> ?_);go_simp;rw[HA0.out];refine hK _ _ (q50 hb) ?_;clear hK K;clear HA0;try simp only[Act.put,zs0,zs1,zs2]
     replace hc:=hc.trans (hb.mono hc.size);replace hz:=znt hz hb.size;clear hb;refine gsc rfl (by rfl) (fun K hK=> ?_);go_simp;refine(HL.out _ hc).mono ?_;rintro e uL ⟨pU,vU,rfl,htr,hwv,hb⟩;refine hK _ _ (q50 hb) ?_;clear hK K;replace hc:=hc.trans (hb.mono hc.size);replace hz:=znt hz hb.size;replace hA:=TB.ext hA hb;clear hb;iterate 4 (refine gsr (v:= ?_) rfl (by rfl) ?_ ?_;rotate_left;(intro w' hw';go_simp;with_reducible rfl);simp only[Act.put,zs0,zs1,zs2])
     have c0:=hA.c0;have c1:=hA.c1;have f0:=hA.fz 0;have f1:=hA.fz 1;have hfin:=zh (LR.put (n:=0) hA hG htr hwv hc);have HT:Hid (Turn (fun i=>u0.heap.size≤i) uL ((uL.setCell ⟨uB.heap.size,0,none⟩ (.pointer pU)).setCell ⟨uB.heap.size,1,none⟩ (.int .i64 (0:Nat)))):=(z1a _ _ _ _).mono (fun i hi _=>by subst hi;exact hG0);refine gsc rfl (by rfl) (fun K hK=> ?_);go_simp;refine hK _ _ HT.out ?_;clear hK K c0 c1 f0 f1;iterate 2 (refine gsr (v:= ?_) rfl (by rfl) ?_ ?_;rotate_left;(intro w' hw';go_simp;with_reducible rfl);simp only[Act.put,zs0,zs1,zs2])
     refine z0f ?_;go_wp2;go_meet;exact⟨_,_,_,rfl,rfl,rfl,hfin⟩
   ·obtain⟨uA,hA0,hA,hb⟩:=z0m u0 TT #[.pointer none,.int .i64 0];have HA0:=zh hA0;have hG:wc.heap.size≤u0.heap.size:=hc.size;have hG0:u0.heap.size≤u0.heap.size:=hz;replace hA:TB uA u0.heap.size none 0:=hA;clear hA0;refine gsc rfl (by rfl) (fun K hK=> ?_);go_simp;rw[HA0.out];refine hK _ _ (q50 hb) ?_;clear hK K;clear HA0;try simp only[Act.put,zs0,zs1,zs2]
    replace hc:=hc.trans (hb.mono hc.size);replace hz:=znt hz hb.size;clear hb;refine gsc rfl (by rfl) (fun K hK=> ?_);go_simp;refine(below_any 2 _ (by omega)).mono ?_;rintro e uB ⟨rfl,hb⟩;refine hK _ _ (q50 hb) ?_;clear hK K;replace hc:=hc.trans (hb.mono hc.size);replace hz:=znt hz hb.size;replace hA:=TB.ext hA hb;clear hb;refine gsc rfl (by rfl) (fun K hK=> ?_);go_simp;refine(HL.out _ hc).mono ?_;rintro e uL ⟨pU,vU,rfl,htr,hwv,hb⟩;refine hK _ _ (q50 hb) ?_;clear hK K;replace hc:=hc.trans (hb.mono hc.size);replace hz:=znt hz hb.size;replace hA:=TB.ext hA hb;clear hb;iterate 4 (refine gsr (v:= ?_) rfl (by rfl) ?_ ?_;rotate_left;(intro w' hw';go_simp;with_reducible rfl);simp only[Act.put,zs0,zs1,zs2])
    have c0:=hA.c0;have c1:=hA.c1;have f0:=hA.fz 0;have f1:=hA.fz 1;have hfin:=zh (LR.put (n:=0) hA hG htr hwv hc);have HT:Hid (Turn (fun i=>u0.heap.size≤i) uL ((uL.setCell ⟨u0.heap.size,0,none⟩ (.pointer pU)).setCell ⟨u0.heap.size,1,none⟩ (.int .i64 (0:Nat)))):=(z1a _ _ _ _).mono (fun i hi _=>by subst hi;exact hG0);refine gsc rfl (by rfl) (fun K hK=> ?_);go_simp;refine hK _ _ HT.out ?_;clear hK K c0 c1 f0 f1;iterate 2 (refine gsr (v:= ?_) rfl (by rfl) ?_ ?_;rotate_left;(intro w' hw';go_simp;with_reducible rfl);simp only[Act.put,zs0,zs1,zs2])
    refine z0f ?_;go_wp2;go_meet;exact⟨_,_,_,rfl,rfl,rfl,hfin⟩
  case rest=>
   obtain⟨gU2,pU2,vU2,rfl,rfl,rfl,hU⟩:=hcut;have hb:=hU.out.b;have HU2:=hU;clear hU;replace GQ:=zh (GQ.out.ext hb);replace HTR:=zh (HTR.out.ext hb);replace K1:=zh (TB.ext K1.out hb);replace HU:=zh (HU.out.ext hb);clear hb;clear HL;obtain⟨va,vc,rfl,hva,_⟩:=HU.out.wv.slice;obtain⟨vg,vo,rfl⟩:=hva (by simp);clear hva;rw[List.length_singleton] at*;have CN1:=zh (fun w ht=>y3m (fun _=> []) p 1 [t] H 1 w ht (HX.out.mi _) HX.out.nd (by omega));have CN2:=zh (fun w ht=>y3m _ pU 1 [u] H 0 w ht HLi.out.2.2.2.mix HLi.out.2.2.2.need (by omega));have CR:=zh (fun w ht=>z91 pU 1 [u] H w ht);have CU:=zh (fun w ht=>y97 _ pU 1 [u] H w ht HLi.out.2.2.2.mix);have CH:=zh (fun w=>y2i (addR (fun _=>false) (uL [u])) (q:Int) w);have e1:inB (addR (fun _=>false) (uL [u])) (q:Int)=true:=x98 HLi.out.2.1 HLi.out.2.2.1.2;rw[e1] at CH;have CE:=zh (fun w hg=>x18 (.iface 110 (.int .i64 8)) 8 w (x2a 8) hg);have CZ:=zh (fun w=>z91 none 0 [] 0 w (z09.none w));rw[show(([u]:List Tr).headD (.leaf 0 [])).pg=q from HLi.out.1] at CR;rw[show((([]:List Tr).headD (.leaf 0 [])).pg:Nat)=0 from rfl] at CZ;clear e1;go_wp2_with fail;refine z0h [(0,true),(1,true),(2,true),(3,true),(4,true),(5,true),(6,true),(7,true),(8,true),(9,true),(10,true),(11,true),(12,true),(13,false),(14,true),(15,true),(16,true),(17,true),(18,false),(19,true),(20,true),(21,true),(22,true),(24,true),(25,true),(26,true),(27,true),(23,false),(28,true),(29,true),(30,true),(31,true),(33,true),(34,true),(35,true),(36,true),(32,false),(37,false),(38,true),(39,true),(40,true),(41,false),(42,true),(43,true),(44,true),(45,true),(46,false),(47,true),(48,true),(49,true)] (by kernel_rfl) (by kernel_rfl) (by kernel_rfl) (by kernel_rfl) (fun _ _ _ _ _ h=>h) ?_;obtain⟨ud,hud,hb⟩:∃u,wc.drew=u∧Below wc.heap.size wc u:=⟨_,rfl,(zbr _ _).drew⟩
   rw[hud];replace GQ:=zh (GQ.out.ext hb);replace HTR:=zh (HTR.out.ext hb);replace K1:=zh (TB.ext K1.out hb);replace HU:=zh (HU.out.ext hb);replace HU2:=zh (HU2.out.ext hb);clear hb hud;have qa0:=fun w' (h:Ext ud w')=>(TB.ext (K1.out) h).c0
   have qa1:=fun w' (h:Ext ud w')=>(TB.ext (K1.out) h).c1
   iterate 13 (refine grr (v:= ?_) rfl (by rfl) ?_ ?_;rotate_left;(intro w' hw';go_simp;with_reducible rfl);simp only[Act.put,zs0,zs1,zs2])
   clear qa0 qa1;refine grc rfl (by rfl) (fun K hK=> ?_);go_simp;refine(CN1.out ud HTR.out).mono ?_;rintro e v3 ⟨rfl,hb⟩;refine hK _ _ hb ?_;clear hK K;replace GQ:=zh (GQ.out.ext hb);replace HTR:=zh (HTR.out.ext hb);replace K1:=zh (TB.ext K1.out hb);replace HU:=zh (HU.out.ext hb);replace HU2:=zh (HU2.out.ext hb);clear hb;try simp only[Act.put,zs0,zs1,zs2]
   have qa0:=fun w' (h:Ext v3 w')=>(TB.ext (HU.out.t) h).c0
   have qa1:=fun w' (h:Ext v3 w')=>(TB.ext (HU.out.t) h).c1
   iterate 4 (refine grr (v:= ?_) rfl (by rfl) ?_ ?_;rotate_left;(intro w' hw';go_simp;with_reducible rfl);simp only[Act.put,zs0,zs1,zs2])
   clear qa0 qa1;refine grc rfl (by rfl) (fun K hK=> ?_);go_simp;refine(CN2.out v3 HU.out.tr).mono ?_;rintro e v4 ⟨rfl,hb⟩;refine hK _ _ hb ?_;clear hK K;replace GQ:=zh (GQ.out.ext hb);replace HTR:=zh (HTR.out.ext hb);replace K1:=zh (TB.ext K1.out hb);replace HU:=zh (HU.out.ext hb);replace HU2:=zh (HU2.out.ext hb);clear hb;try simp only[Act.put,zs0,zs1,zs2]
   have qa0:=fun w' (h:Ext v4 w')=>(TB.ext (HU.out.t) h).c0
   have qa1:=fun w' (h:Ext v4 w')=>(TB.ext (HU.out.t) h).c1
   have qc:=fun w' (h:Ext v4 w')=>(WV.cell (i:=0) (HU.out.wv.ext h) (by simp):w'.cell? ⟨vg,vo+0*2,none⟩=_)
   simp only[Nat.zero_mul,Nat.add_zero,List.getD_cons_zero] at qc;iterate 8 (refine grr (v:= ?_) rfl (by rfl) ?_ ?_;rotate_left;(intro w' hw';go_simp;with_reducible rfl);simp only[Act.put,zs0,zs1,zs2])
   clear qa0 qa1 qc;refine grc rfl (by rfl) (fun K hK=> ?_);go_simp;refine(CR.out v4 HU.out.tr).mono ?_;rintro e v5 ⟨rfl,hb⟩;refine hK _ _ hb ?_;clear hK K;replace GQ:=zh (GQ.out.ext hb);replace HTR:=zh (HTR.out.ext hb);replace K1:=zh (TB.ext K1.out hb);replace HU:=zh (HU.out.ext hb);replace HU2:=zh (HU2.out.ext hb);clear hb;try simp only[Act.put,zs0,zs1,zs2]
   have qa0:=fun w' (h:Ext v5 w')=>(TB.ext (HU.out.t) h).c0
   have qa1:=fun w' (h:Ext v5 w')=>(TB.ext (HU.out.t) h).c1
   have qc:=fun w' (h:Ext v5 w')=>(WV.cell (i:=0) (HU.out.wv.ext h) (by simp):w'.cell? ⟨vg,vo+0*2,none⟩=_)
   simp only[Nat.zero_mul,Nat.add_zero,List.getD_cons_zero] at qc;iterate 8 (refine grr (v:= ?_) rfl (by rfl) ?_ ?_;rotate_left;(intro w' hw';go_simp;with_reducible rfl);simp only[Act.put,zs0,zs1,zs2])
   clear qa0 qa1 qc;refine grc rfl (by rfl) (fun K hK=> ?_);go_simp;refine(CU.out v5 HU.out.tr).mono ?_;rintro e v6 ⟨rfl,hb⟩;refine hK _ _ hb ?_;clear hK K;replace GQ:=zh (GQ.out.ext hb);replace HTR:=zh (HTR.out.ext hb);replace K1:=zh (TB.ext K1.out hb);replace HU:=zh (HU.out.ext hb);replace HU2:=zh (HU2.out.ext hb);clear hb;try simp only[Act.put,zs0,zs1,zs2]
   refine grc rfl (by rfl) (fun K hK=> ?_);go_simp;refine(CH.out v6).mono ?_;rintro e v7 ⟨rfl,hb⟩;refine hK _ _ hb ?_;clear hK K;replace GQ:=zh (GQ.out.ext hb);replace HTR:=zh (HTR.out.ext hb);replace K1:=zh (TB.ext K1.out hb);replace HU:=zh (HU.out.ext hb);replace HU2:=zh (HU2.out.ext hb);clear hb;try simp only[Act.put,zs0,zs1,zs2]
   iterate 3 (refine grr (v:= ?_) rfl (by rfl) ?_ ?_;rotate_left;(intro w' hw';go_simp;with_reducible rfl);simp only[Act.put,zs0,zs1,zs2])
   refine grc rfl (by rfl) (fun K hK=> ?_);go_simp;refine(CE.out v7 GQ.out.g).mono ?_;rintro e v8 ⟨rfl,hb⟩;refine hK _ _ hb ?_;clear hK K;replace GQ:=zh (GQ.out.ext hb);replace HTR:=zh (HTR.out.ext hb);replace K1:=zh (TB.ext K1.out hb);replace HU:=zh (HU.out.ext hb);replace HU2:=zh (HU2.out.ext hb);clear hb;try simp only[Act.put,zs0,zs1,zs2]
   iterate 4 (refine grr (v:= ?_) rfl (by rfl) ?_ ?_;rotate_left;(intro w' hw';go_simp;with_reducible rfl);simp only[Act.put,zs0,zs1,zs2])
   refine grc rfl (by rfl) (fun K hK=> ?_);go_simp;refine(CZ.out v8).mono ?_;rintro e v9 ⟨rfl,hb⟩;refine hK _ _ hb ?_;clear hK K;replace GQ:=zh (GQ.out.ext hb);replace HTR:=zh (HTR.out.ext hb);replace K1:=zh (TB.ext K1.out hb);replace HU:=zh (HU.out.ext hb);replace HU2:=zh (HU2.out.ext hb);clear hb;try simp only[Act.put,zs0,zs1,zs2]
   iterate 3 (refine grr (v:= ?_) rfl (by rfl) ?_ ?_;rotate_left;(intro w' hw';go_simp;with_reducible rfl);simp only[Act.put,zs0,zs1,zs2])
   refine z0l ?_;go_wp2;go_ret;exact⟨rfl,GQ.out.b⟩
theorem ES.ext2 {w w':World}{a:Option Addr}{es:List En}(h:ES entE w a es)(hb:Below w.heap.size w w'):ES entE w' a es:=h.below hb (zlr _)
end Go.Proofs.YtdgladhfibfdlaaGreatDoor
