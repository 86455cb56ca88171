/-
  Steps.
-/
import Derived.Test.YtdgladhfibfdlaaGreatDoorQPSs26
import Derived.Test.YtdgladhfibfdlaaGreatDoorQPSs16
import Derived.Test.YtdgladhfibfdlaaGreatDoorQPSs25
import Derived.Laws.MakeOwn
namespace Go.Proofs.YtdgladhfibfdlaaGreatDoor
open Go Go.RowKit Go.Proofs.Tryz
set_option maxRecDepth 100000
theorem z7n (key v:ByteArray)(w:World):
  Calls prog 61 #[.string key,.string v] w fun e w'=>e=.returned (.agg #[.string key,.string v,Z0])∧zB w w':=by
 go_enter func61,ntmps61
 go_wp2_with fail;refine bodyPost_ret (v:=.agg #[.string key,.string v,Z0]) (by rw[Yk rfl];go_simp) rfl ⟨rfl,?_⟩;exact(zbr _ _).alloc (zlr _) _
theorem y5v (w:World)(key v:ByteArray):CS (w.alloc (.cells #[.string key,.string v,Z0] TCT)) (some ⟨w.heap.size,0,none⟩) [⟨key,v,[]⟩]:=
 ⟨[⟨key,v,none,0,0⟩],ES.lit (E:=Uw) (l:=[⟨key,v,none,0,0⟩]) (Y7 w _ _),⟨rfl,rfl,EV.none _⟩,trivial⟩
theorem z5j {es:List En}{key v:ByteArray}(hs:bare es=es)(h:isE es key=true)(hv:Cv es key=v):rep es key [⟨key,v,[]⟩]=es:=by
 have h1:=jN es key;rw[h] at h1;have h2:=h1.symm;rw[Bool.and_eq_true,decide_eq_true_iff] at h2;have h3:Cv es key=(ea es (fE es key)).v:=by unfold Cv;rw[if_pos h]
 have h4:Tx es key=1:=by unfold Tx;rw[if_pos h]
 have h5:ea es (fE es key)=⟨key,v,[]⟩:=by
  have e1:=YU h2.2;have e2:(ea es (fE es key)).v=v:=h3.symm.trans hv;have e3:(ea es (fE es key)).ch=[]:=by
   conv=>lhs;rw[←hs]
   rw[y0j];rfl
  cases hx:ea es (fE es key) with
  | mk k' v' c'=>rw[hx] at e1 e2 e3;simp only at e1 e2 e3;rw[e1,e2,e3]
 unfold rep;rw[h4,←h5]
 conv=>rhs;rw[←List.take_append_drop (fE es key) es,zL es _ h2.1]
 rfl
theorem z3i (w:World)(p:Option Addr)(n:Int):∃W,(w.alloc (.cells #[.pointer p,.int .i64 n] TT)).alloc (.cells #[.pointer none,.int .i64 0] TT)=W∧TB W w.heap.size p n∧TB W (w.heap.size+1) none 0∧zB w W:=by
 obtain⟨W1,hW1,hT1,hb1⟩:=Z1 w TT #[.pointer p,.int .i64 n];obtain⟨W2,hW2,hT2,hb2⟩:=Z1 W1 TT #[.pointer none,.int .i64 0];have hs1:W1.heap.size=w.heap.size+1:=by rw[←hW1];simp
 exact⟨W2,by rw[hW1,hW2],TB.ext (w:=W1) hT1 hb2,by rw[←hs1];exact hT2,hb1.trans (hb2.mono hb1.size)⟩
theorem x2f (p:Option Addr)(n:Int)(es:List En)(key v:ByteArray)(w:World)(h:okK key=false∨2048<v.size):
  Calls prog 29 #[.agg #[.pointer p,.int .i64 n],.string key,.string v] w fun e w'=>e=.returned (.tuple #[.agg #[.pointer none,.int .i64 0],XY (tpF es key v:Nat)])∧zB w w':=by
 have hch:=fun w=>I6 key w
 by_cases hk:okK key=false
 ·have ht:Hid (tpF es key v=1):=by show _=_;unfold tpF;rw[if_pos hk]
  have hv:xS key=.iface 110 (.int .i64 1):=by unfold xS;rw[hk];rfl
  rw[hv] at hch;have Hch:=zh hch;rw[show XY ((tpF es key v:Nat):Int)=.iface 110 (.int .i64 1) by rw[ht.out];rfl];clear hch hv hk h
  go_enter func29,ntmps29
  go_wp2_with fail;refine(Hch.out _).mono ?_;rintro e w' ⟨rfl,rfl⟩;go_wp2_with fail;refine bodyPost_ret (v:=.tuple #[.agg #[.pointer none,.int .i64 0],.iface 110 (.int .i64 1)]) (by rw[results_cell_tmp rfl];go_simp) rfl ⟨rfl,?_⟩;exact((zbr _ _).alloc (zlr _) _).alloc (by simp) _
 ·have hv2:2048<v.size:=by rcases h with h|h;exact absurd h hk;exact h
  have ht:Hid (tpF es key v=5):=by show _=_;unfold tpF;rw[if_neg hk,if_pos hv2]
  have hk1:okK key=true:=by simpa using hk
  have hv:xS key=.nilIface:=by unfold xS;rw[hk1];rfl
  rw[hv] at hch;have Hch:=zh hch;rw[show XY ((tpF es key v:Nat):Int)=.iface 110 (.int .i64 5) by rw[ht.out];rfl];have d3:decide (2048<(v.size:Int))=true:=zdt (by omega);clear hch hv hk hk1 h hv2
  go_enter func29,ntmps29
  go_wp2_with fail;refine(Hch.out _).mono ?_;rintro e w' ⟨rfl,rfl⟩;go_wp2_with fail;refine bodyPost_ret (v:=.tuple #[.agg #[.pointer none,.int .i64 0],.iface 110 (.int .i64 5)]) (by rw[results_cell_tmp rfl];go_simp) rfl ⟨rfl,?_⟩;exact((zbr _ _).alloc (zlr _) _).alloc (by simp) _
def xD (ts ts':List Tr)(H':Nat)(key v:ByteArray):Prop:=
 (esL ts'=rep (esL ts) key [⟨key,v,[]⟩]∧Fr ts ts' (2*H'))∨(ts'=ts∧isE (esL ts) key=true∧Cv (esL ts) key=v)
theorem xD.ste {ts ts':List Tr}{H':Nat}{key v:ByteArray}(h:xD ts ts' H' key v):bare (esL ts')=rep (bare (esL ts)) key [⟨key,v,[]⟩]:=by
 rcases h with ⟨h,_⟩|⟨rfl,h1,h2⟩
 ·rw[h,z4w];rfl
 ·exact(z5j (y0g _) (by rw[(Lq _ _).2];exact h1) (by rw[y0k];exact h2)).symm
theorem xD.fr {ts ts':List Tr}{H':Nat}{key v:ByteArray}(h:xD ts ts' H' key v):Fr ts ts' (2*H'):=by
 rcases h with ⟨_,h⟩|⟨rfl,_⟩
 ·exact h
 ·exact(Fr.refl _).mono (by omega)
theorem y5w (p:Option Addr)(ts:List Tr)(H:Nat)(key v:ByteArray)(w:World)(ht:Y6 w p ts H)(hl:(esL ts).length≤4096)(hk:okK key=true)(hv:v.size≤2048):
  Calls prog 29 #[.agg #[.pointer p,.int .i64 (esL ts).length],.string key,.string v] w fun e w'=>∃p' ts' H',e=.returned (.tuple #[.agg #[.pointer p',.int .i64 ((esL ts').length:Nat)],XY (tpF (esL ts) key v:Nat)])∧Y6 w' p' ts' H'∧
   ((tpF (esL ts) key v≠0∧ts'=[])∨(tpF (esL ts) key v=0∧xD ts ts' H' key v))∧zB w w':=by
 have hch:=fun w=>I6 key w
 rw[show xS key=.nilIface by unfold xS;rw[hk];rfl] at hch;have Hch:=zh hch;have d3:decide (2048<(v.size:Int))=false:=zdf (by omega);obtain⟨es,hes⟩:∃es,esL ts=es:=⟨_,rfl⟩
 have Hes:=zh hes;rw[hes] at hl⊢
 obtain⟨W,hW,hT1,hT2,hb⟩:=z3i w p es.length;have hq:=(ht.ext hb).tq;rw[hes] at hq;have Hget:=zh (z5h p es.length es H key W hq);have HW:=zh hW;have HT:=zh (zai hT1 hT2);have HB:=zh hb;have Htr:=zh ht;have HtF:Hid (tpF es key v=if isE es key=false∧4096≤es.length then 7 else 0):=by
  show _=_;unfold tpF;rw[if_neg (by rw[hk];decide),if_neg (by omega)]
 have hlen:=Ey es key [⟨key,v,[]⟩];have hgo:Tx es key=if isE es key=true then 1 else 0:=rfl
 have hcore:∀(w3:World) (m:Int),zB W w3→IntKind.i64.wrap ((es.length:Int)+m)=((rep es key [⟨key,v,[]⟩]).length:Int)→
   ∃w4,w3.alloc (.cells #[.string key,.string v,Z0] TCT)=w4∧zB w3 w4∧Calls prog 58 #[.agg #[.pointer p,.int .i64 es.length],.int .i64 m,.string key,.slice (some ⟨w3.heap.size,0,none⟩) 1 1] w4 (fun e w'=>∃p' ts' H',e=.returned (.agg #[.pointer p',.int .i64 ((rep es key [⟨key,v,[]⟩]).length:Nat)])∧
    Y6 w' p' ts' H'∧(esL ts'=rep es key [⟨key,v,[]⟩]∧Fr ts ts' (2*H'))∧zB w4 w'):=fun w3 m h2 hm=>by
  have h3:zB w3 (w3.alloc (.cells #[.string key,.string v,Z0] TCT)):=(zbr _ _).alloc (zlr _) _;have h23:=h2.trans (h3.mono h2.size);have hw3:=hb.trans (h23.mono hb.size);refine⟨_,rfl,h3,?_⟩;have:=XK p ts es.length m _ key _ 1 1 [⟨key,v,[]⟩] _ (.inr ⟨v,rfl⟩) (fun x hx=>by
   simp only[List.mem_singleton] at hx;subst hx;exact⟨hk,hv⟩) rfl (fun h=>by cases h) (y5v w3 key v) H (ht.ext hw3) hm
  rw[hes] at this;exact this
 have Hcore:=zh hcore;have Hco:=zh (fun w=>z7n key v w);clear hch hW hT1 hT2 hb ht hk hv hcore hq hes
 go_enter func29,ntmps29
 go_wp2_with fail;refine(Hch.out _).mono ?_;rintro e w' ⟨rfl,rfl⟩;clear Hch;go_wp2_with fail;rw[HW.out];refine Hget.out.mono ?_;rintro e w2 ⟨rfl,hb2⟩;clear Hget;have a0:=(HT.out.1.ext hb2).c0;have a1:=(HT.out.1.ext hb2).c1;have hR:=HT.out.2.ext hb2;have r0:=hR.c0;have r1:=hR.c1;have f0:=hR.fz 0;have f1:=hR.fz 1;have HR:=zh hR;have HB2:=zh (HB.out.trans (hb2.mono HB.out.size));have Hb2:=zh hb2;clear hb2 hR
 cases hI:isE es key with
 | false=>
  have hg0:Tx es key=0:=by rw[hgo,hI];rfl
  by_cases hfull:4096≤es.length
  ·have hT7:Hid (tpF es key v=7):=by show _=_;rw[HtF.out,if_pos ⟨hI,hfull⟩]
   have d4:((es.length:Int)==4096)=true:=by rw[beq_iff_eq];omega
   have HP:=zh (HR.out.put none 0);have e0:=HP.out.c0;have e1:=HP.out.c1;clear Hcore hlen hgo hg0 HtF;go_wp2_with fail;refine bodyPost_ret (v:=.tuple #[.agg #[.pointer none,.int .i64 0],.iface 110 (.int .i64 7)]) (by rw[results_cell_tmp rfl];go_simp) rfl ⟨none,[],0,by rw[hT7.out];rfl,Y6.none _,.inl ⟨by rw[hT7.out];decide,rfl⟩,X4 HB2.out (by omega)⟩
  ·have hT0:Hid (tpF es key v=0):=by show _=_;rw[HtF.out,if_neg (fun h=>hfull h.2)]
   have d4:((es.length:Int)==4096)=false:=by rw[beq_eq_false_iff_ne];omega
   have hM:IntKind.i64.wrap ((es.length:Int)+1)=((rep es key [⟨key,v,[]⟩]).length:Int):=by rw[hg0] at hlen;rw[IntKind.wrap_i64];simp at hlen;omega
   have HM:=zh hM;clear hlen hgo hg0 HtF r0 r1 f0 f1 hM;obtain⟨W3,hW3⟩:∃W,w2.drew=W:=⟨_,rfl⟩
   have hd3:zB w2 W3:=by rw[←hW3];exact(zbr _ _).drew
   have l2:w.heap.size+2≤w2.heap.size:=by have:=HR.out.lt;omega
   have hA3:=(HT.out.1.ext Hb2.out).ext hd3;have hR3:=HR.out.ext hd3;have q0:∀w',Zx (fun i=>i=w.heap.size+1) W3 w'→w'.cell? ⟨w.heap.size,0,none⟩=some (.pointer p):=fun w' t=>(hA3.turn t (by omega)).c0
   have q1:∀w',Zx (fun i=>i=w.heap.size+1) W3 w'→w'.cell? ⟨w.heap.size,1,none⟩=some (.int .i64 (es.length:Int)):=fun w' t=>(hA3.turn t (by omega)).c1
   have HW3:=zh hW3;have Hb3:=zh (Hb2.out.trans (hd3.mono Hb2.out.size));have HB3:=zh (HB2.out.trans (hd3.mono HB2.out.size));have HR3:=zh hR3;clear hW3 hd3 hA3 hR3 HT HR HB2 Hb2 Htr HB;go_wp2_with fail;refine rgt (F:=fun i=>i=w.heap.size+1) [(0,true),(1,true),(2,true),(3,true),(4,false),(5,false),(6,false),(7,false),(8,true)] (h:= ?_);rw[HW3.out];iterate 4 (refine gtr (v:= ?_) rfl (by rfl) ?_ ?_;rotate_left;(intro w' hw';go_simp;with_reducible rfl);simp only[Act.put,zs0,zs1,zs2])
   clear q0 q1;refine gtc rfl (by rfl) (fun K hK=> ?_);go_simp;refine(Hco.out W3).mono ?_;rintro e w3 ⟨rfl,hb3⟩;refine hK _ _ (x3x hb3) ?_;clear hK K;obtain⟨w4,hw4,hb4,hc4⟩:=Hcore.out w3 1 (Hb3.out.trans (hb3.mono Hb3.out.size)) HM.out;have Hw4:=zh hw4;have Hc4:=zh hc4;have hb34:=hb3.trans (hb4.mono hb3.size);replace HB3:=zh (HB3.out.trans (hb34.mono HB3.out.size));replace HR3:=zh (HR3.out.ext hb34);have Hb4:=zh hb4;clear Hcore hw4 hc4 hb34 hb3 hb4 Hb3;refine gtc rfl (by rfl) (fun K hK=> ?_);go_simp;rw[Hw4.out];refine hK _ _ (x3x Hb4.out) ?_;clear hK K;obtain⟨N,hN⟩:∃N,(rep es key [⟨key,v,[]⟩]).length=N:=⟨_,rfl⟩
   have HN:=zh hN;rw[hN] at Hc4;clear hN Hb4;refine gtc rfl (by rfl) (fun K hK=> ?_);go_simp;refine Hc4.out.mono ?_;rintro e w5 ⟨p5,ts5,H5,rfl,ht5,hf5,hb5⟩;refine hK _ _ (x3x hb5) ?_;clear hK K Hc4;have hR5:=HR3.out.ext hb5;have HB5:=zh (HB3.out.trans (hb5.mono HB3.out.size));have f0:=hR5.fz 0;have f1:=hR5.fz 1;have r0:=hR5.c0;have r1:=hR5.c1;have HT5:=zh (ht5.turn (Yv w5 (w.heap.size+1) (.pointer p5) (.int .i64 (N:Int))) (TF.one hR5));have HP:=zh (hR5.put p5 (N:Int));have HF5:=zh hf5;clear hb5 hR5 ht5 hf5 HB3 HR3;refine gtc rfl (by rfl) (fun K hK=> ?_);go_simp;refine hK _ _ (Yv _ _ _ _) ?_;clear hK K
   (refine gtr (v:= ?_) rfl (by rfl) ?_ ?_;rotate_left;(intro w' hw';go_simp;with_reducible rfl);simp only[Act.put,zs0,zs1,zs2])
   refine Yj ?_;have d0:=HP.out.c0;have d1:=HP.out.c1;go_wp2_with fail;refine bodyPost_ret (v:=.tuple #[.agg #[.pointer p5,.int .i64 (N:Int)],.nilIface]) (by rw[results_cell_tmp rfl];go_simp) rfl ⟨p5,ts5,H5,by rw[HF5.out.1,HN.out,hT0.out];rfl,HT5.out,.inr ⟨hT0.out,.inl ⟨by rw[Hes.out];exact HF5.out.1,HF5.out.2⟩⟩,X4 HB5.out (by omega)⟩
 | true=>
  have hg1:Tx es key=1:=by rw[hgo,hI];rfl
  have hT0:Hid (tpF es key v=0):=by show _=_;rw[HtF.out,if_neg (fun h=>by rw[hI] at h;cases h.1)]
  by_cases hsame:Cv es key=v
  ·have dv:((Cv es key).toList==v.toList)=true:=by rw[hsame];exact y4l v
   have HT4:=zh (((Htr.out.ext HB.out).ext Hb2.out).turn (Yv w2 (w.heap.size+1) (.pointer p) (.int .i64 (es.length:Int))) (TF.one HR.out));have HP:=zh (HR.out.put p (es.length:Int));have e0:=HP.out.c0;have e1:=HP.out.c1;have Hput:Hid (xD ts ts H key v):=.inr ⟨rfl,by rw[Hes.out];exact hI,by rw[Hes.out];exact hsame⟩;clear Hcore hlen hgo hg1 HtF hsame;generalize Cv es key=G at*;go_wp2_with fail;refine bodyPost_ret (v:=.tuple #[.agg #[.pointer p,.int .i64 (es.length:Int)],.nilIface]) (by rw[results_cell_tmp rfl];go_simp) rfl ⟨p,ts,H,by rw[Hes.out,hT0.out];rfl,HT4.out,.inr ⟨hT0.out,Hput.out⟩,X4 HB2.out (by omega)⟩
  ·have dv:((Cv es key).toList==v.toList)=false:=by
    cases hx:((Cv es key).toList==v.toList) with
    | false=>rfl
    | true=>exact absurd (YU hx) hsame
   have hM:IntKind.i64.wrap ((es.length:Int)+0)=((rep es key [⟨key,v,[]⟩]).length:Int):=by rw[hg1] at hlen;rw[IntKind.wrap_i64];simp at hlen;omega
   have HM:=zh hM;clear hlen hgo hg1 HtF r0 r1 f0 f1 hM hsame;generalize Cv es key=G at*;obtain⟨W3,hW3⟩:∃W,w2.drew=W:=⟨_,rfl⟩
   have hd3:zB w2 W3:=by rw[←hW3];exact(zbr _ _).drew
   have l2:w.heap.size+2≤w2.heap.size:=by have:=HR.out.lt;omega
   have hA3:=(HT.out.1.ext Hb2.out).ext hd3;have hR3:=HR.out.ext hd3;have q0:∀w',Zx (fun i=>i=w.heap.size+1) W3 w'→w'.cell? ⟨w.heap.size,0,none⟩=some (.pointer p):=fun w' t=>(hA3.turn t (by omega)).c0
   have q1:∀w',Zx (fun i=>i=w.heap.size+1) W3 w'→w'.cell? ⟨w.heap.size,1,none⟩=some (.int .i64 (es.length:Int)):=fun w' t=>(hA3.turn t (by omega)).c1
   have HW3:=zh hW3;have Hb3:=zh (Hb2.out.trans (hd3.mono Hb2.out.size));have HB3:=zh (HB2.out.trans (hd3.mono HB2.out.size));have HR3:=zh hR3;clear hW3 hd3 hA3 hR3 HT HR HB2 Hb2 Htr HB;go_wp2_with fail;refine rgt (F:=fun i=>i=w.heap.size+1) [(0,true),(1,true),(2,true),(3,true),(4,false),(5,false),(6,false),(7,false),(8,true)] (h:= ?_);rw[HW3.out];iterate 4 (refine gtr (v:= ?_) rfl (by rfl) ?_ ?_;rotate_left;(intro w' hw';go_simp;with_reducible rfl);simp only[Act.put,zs0,zs1,zs2])
   clear q0 q1;refine gtc rfl (by rfl) (fun K hK=> ?_);go_simp;refine(Hco.out W3).mono ?_;rintro e w3 ⟨rfl,hb3⟩;refine hK _ _ (x3x hb3) ?_;clear hK K;obtain⟨w4,hw4,hb4,hc4⟩:=Hcore.out w3 0 (Hb3.out.trans (hb3.mono Hb3.out.size)) HM.out;have Hw4:=zh hw4;have Hc4:=zh hc4;have hb34:=hb3.trans (hb4.mono hb3.size);replace HB3:=zh (HB3.out.trans (hb34.mono HB3.out.size));replace HR3:=zh (HR3.out.ext hb34);have Hb4:=zh hb4;clear Hcore hw4 hc4 hb34 hb3 hb4 Hb3;refine gtc rfl (by rfl) (fun K hK=> ?_);go_simp;rw[Hw4.out];refine hK _ _ (x3x Hb4.out) ?_;clear hK K;obtain⟨N,hN⟩:∃N,(rep es key [⟨key,v,[]⟩]).length=N:=⟨_,rfl⟩
   have HN:=zh hN;rw[hN] at Hc4;clear hN Hb4;refine gtc rfl (by rfl) (fun K hK=> ?_);go_simp;refine Hc4.out.mono ?_;rintro e w5 ⟨p5,ts5,H5,rfl,ht5,hf5,hb5⟩;refine hK _ _ (x3x hb5) ?_;clear hK K Hc4;have hR5:=HR3.out.ext hb5;have HB5:=zh (HB3.out.trans (hb5.mono HB3.out.size));have f0:=hR5.fz 0;have f1:=hR5.fz 1;have r0:=hR5.c0;have r1:=hR5.c1;have HT5:=zh (ht5.turn (Yv w5 (w.heap.size+1) (.pointer p5) (.int .i64 (N:Int))) (TF.one hR5));have HP:=zh (hR5.put p5 (N:Int));have HF5:=zh hf5;clear hb5 hR5 ht5 hf5 HB3 HR3;refine gtc rfl (by rfl) (fun K hK=> ?_);go_simp;refine hK _ _ (Yv _ _ _ _) ?_;clear hK K
   (refine gtr (v:= ?_) rfl (by rfl) ?_ ?_;rotate_left;(intro w' hw';go_simp;with_reducible rfl);simp only[Act.put,zs0,zs1,zs2])
   refine Yj ?_;have d0:=HP.out.c0;have d1:=HP.out.c1;go_wp2_with fail;refine bodyPost_ret (v:=.tuple #[.agg #[.pointer p5,.int .i64 (N:Int)],.nilIface]) (by rw[results_cell_tmp rfl];go_simp) rfl ⟨p5,ts5,H5,by rw[HF5.out.1,HN.out,hT0.out];rfl,HT5.out,.inr ⟨hT0.out,.inl ⟨by rw[Hes.out];exact HF5.out.1,HF5.out.2⟩⟩,X4 HB5.out (by omega)⟩
theorem z5k (p:Option Addr)(ts:List Tr)(H:Nat)(key v:ByteArray)(w:World)(ht:Y6 w p ts H)(hl:(esL ts).length≤4096):
  Calls prog 29 #[.agg #[.pointer p,.int .i64 (esL ts).length],.string key,.string v] w fun e w'=>∃p' ts' H',e=.returned (.tuple #[.agg #[.pointer p',.int .i64 ((esL ts').length:Nat)],XY (tpF (esL ts) key v:Nat)])∧Y6 w' p' ts' H'∧
   ((tpF (esL ts) key v≠0∧ts'=[])∨(tpF (esL ts) key v=0∧xD ts ts' H' key v))∧zB w w':=by
 by_cases hk:okK key=false∨2048<v.size
 ·refine(x2f p (esL ts).length (esL ts) key v w hk).mono ?_;rintro e w' ⟨rfl,hb⟩;have:tpF (esL ts) key v≠0:=by
   unfold tpF
   rcases hk with hk|hk
   ·rw[if_pos hk];decide
   ·by_cases hk1:okK key=false
    ·rw[if_pos hk1];decide
    ·rw[if_neg hk1,if_pos hk];decide
  exact⟨none,[],0,rfl,Y6.none _,.inl ⟨this,rfl⟩,hb⟩
 ·have hk1:okK key=true:=by simpa using fun h=>hk (.inl h)
  have hv1:v.size≤2048:=by
   rcases zng 2048 v.size with h|h
   ·exact absurd (.inr h) hk
   ·exact h
  exact y5w p ts H key v w ht hl hk1 hv1
theorem z3j (p:Option Addr)(ts:List Tr)(H:Nat)(key:ByteArray)(w:World)(ht:Y6 w p ts H)(hl:(esL ts).length≤100000):
  Calls prog 27 #[.agg #[.pointer p,.int .i64 (esL ts).length],.string key] w fun e w'=>∃p' ts' H',e=.returned (.tuple #[.agg #[.pointer p',.int .i64 ((esL ts').length:Nat)],.bool (isE (esL ts) key)])∧Y6 w' p' ts' H'∧(esL ts'=tdL (esL ts) key∧Fr ts ts' (2*H'))∧zB w w':=by
 obtain⟨es,hes⟩:∃es,esL ts=es:=⟨_,rfl⟩
 have Hes:=zh hes;rw[hes] at hl⊢
 obtain⟨W,hW,hT1,hT2,hb⟩:=z3i w p es.length;have hq:=(ht.ext hb).tq;rw[hes] at hq;have Hget:=zh (z5h p es.length es H key W hq);have HW:=zh hW;have HT:=zh (zai hT1 hT2);have HB:=zh hb;have Htr:=zh ht;have hlen:=Ey es key [];have hgo:Tx es key=if isE es key=true then 1 else 0:=rfl
 clear hW hT1 hT2 hb ht hq hes
 go_enter func27,ntmps27
 go_wp2_with fail;rw[HW.out];refine Hget.out.mono ?_;rintro e w2 ⟨rfl,hb2⟩;clear Hget;have a0:=(HT.out.1.ext hb2).c0;have a1:=(HT.out.1.ext hb2).c1;have hR:=HT.out.2.ext hb2;have r0:=hR.c0;have r1:=hR.c1;have f0:=hR.fz 0;have f1:=hR.fz 1;have HR:=zh hR;have HB2:=zh (HB.out.trans (hb2.mono HB.out.size));have HT2:=zh ((Htr.out.ext HB.out).ext hb2);clear hb2 hR
 cases hI:isE es key with
 | false=>
  have hL2:Hid (tdL es key=es):=by show _=_;unfold tdL;rw[hI];rfl
  have HT4:=zh (HT2.out.turn (Yv w2 (w.heap.size+1) (.pointer p) (.int .i64 (es.length:Int))) (TF.one HR.out));have HP:=zh (HR.out.put p (es.length:Int));have e0:=HP.out.c0;have e1:=HP.out.c1;clear hlen hgo;go_wp2_with fail;refine bodyPost_ret (v:=.tuple #[.agg #[.pointer p,.int .i64 (es.length:Int)],.bool false]) (by rw[results_cell_tmp rfl];go_simp) rfl ⟨p,ts,H,by rw[Hes.out,hI],HT4.out,⟨by rw[Hes.out];exact hL2.out.symm,(Fr.refl _).mono (by omega)⟩,X4 HB2.out (by omega)⟩
 | true=>
  have hg1:Tx es key=1:=by rw[hgo,hI];rfl
  have hL:Hid (tdL es key=rep es key []):=by show _=_;unfold tdL;rw[hI];rfl
  have hc3:=XK p ts es.length (-1) ((rep es key []).length:Int) key none 0 0 [] w2 (.inl rfl) (fun x hx=>by cases hx) rfl (fun _=>rfl) (CS.nil _) H HT2.out (by rw[hg1] at hlen;rw[IntKind.wrap_i64];simp at hlen;omega);rw[Hes.out] at hc3;have Hc3:=zh hc3;clear hlen hgo hg1 hc3 r0 r1 f0 f1;go_wp2_with fail;refine Hc3.out.mono ?_;rintro e w4 ⟨p4,ts4,H4,rfl,ht4,hf4,hb4⟩;have HF4:=zh hf4;have hR4:=HR.out.ext hb4;have r0:=hR4.c0;have r1:=hR4.c1;have f0:=hR4.fz 0;have f1:=hR4.fz 1;obtain⟨N,hN⟩:∃N,(rep es key []).length=N:=⟨_,rfl⟩
  have HT4:=zh (ht4.turn (Yv w4 (w.heap.size+1) (.pointer p4) (.int .i64 (N:Int))) (TF.one hR4));have HP:=zh (hR4.put p4 (N:Int));have e0:=HP.out.c0;have e1:=HP.out.c1;have Hb4:=zh (HB2.out.trans (hb4.mono HB2.out.size));have HNN:=zh hN;rw[hN];clear ht4 hf4 hb4 hR4 Hc3 hN;go_wp2_with fail;refine bodyPost_ret (v:=.tuple #[.agg #[.pointer p4,.int .i64 (N:Int)],.bool true]) (by rw[results_cell_tmp rfl];go_simp) rfl ⟨p4,ts4,H4,by rw[HF4.out.1,HNN.out,hI],HT4.out,⟨by rw[hL.out];exact HF4.out.1,HF4.out.2⟩,X4 Hb4.out (by omega)⟩
theorem y5x (es:List En)(key:ByteArray):bare (tdL es key)=tdL (bare es) key:=by
 unfold tdL;rw[(Lq es key).2];split
 ·rw[z4w];rfl
 ·rfl
theorem Tu {fn:Func}{p u x:Tmp}{ty:TypeId}(h:fn.results= #[.cell p ty,.tmp u,.tmp x])(tmps:Array Value)(P:Program)(w:World):
  (results fn tmps).run P w=
   ((asAddr (tmps.getD p undef)).run P w).andThen fun a w₁=>((loadVar ty a).run P w₁).andThen fun v w₂=> .ok (.tuple #[v,tmps.getD u undef,tmps.getD x undef]) w₂:=by
 simp only[results,h];simp[Sem.run_bind,Result.andThen]
theorem x2g:(prog.info? 5).map (fun i=>(i.zero,i.size,i.bytes))=some (some (.int .u8 0),1,1):=by kernel_rfl
def y7m:Value→Nat| .string s=>s.size|_=>0
theorem z5l (a b:ByteArray):(a++b).size=a.size+b.size:=by simp
theorem y5y {es:List En}{key v:ByteArray}(hk:okK key=true)(hv:v.size≤2048)(hl:es.length<4096):tpF es key v=0∧tpL es key v=rep es key [⟨key,v,[]⟩]:=by
 have:tpF es key v=0:=by unfold tpF;rw[if_neg (by rw[hk];decide),if_neg (by omega),if_neg (fun h=>by omega)]
 exact⟨this,by unfold tpL;rw[this];rfl⟩
theorem y98 (es:List En)(key v:ByteArray):(tpL es key v).length≤es.length+1:=by
 unfold tpL;split
 ·have:=Ey es key [⟨key,v,[]⟩];simp at this;omega
 ·simp
def z1a (w:World)(p:Option Addr)(es:List En)(H:Nat):Prop:=∃ts,Y6 w p ts H∧esL ts=es∧(∀e∈es,e.ch=[]∧e.v.size≤89)∧∀q,(Pq ts).count q=0
theorem z1a.none (w:World):z1a w Option.none [] 0:=⟨[],Y6.none w,rfl,fun e he=>(by cases he),fun q=>rfl⟩
theorem z1a.ext {w w':World}{p:Option Addr}{es:List En}{H:Nat}(h:z1a w p es H)(hb:zB w w'):z1a w' p es H:=by
 obtain⟨ts,h1,h2⟩:=h;exact⟨ts,h1.ext hb,h2⟩
theorem z1a.turn {w w':World}{F:Nat→Prop}{p:Option Addr}{es:List En}{H:Nat}(h:z1a w p es H)(t:Zx F w w')(hF:TF w F):z1a w' p es H:=by
 obtain⟨ts,h1,h2⟩:=h;exact⟨ts,h1.turn t hF,h2⟩
theorem y2d (p:Option Addr)(es:List En)(H:Nat)(key v:ByteArray)(w:World)(h:z1a w p es H)(hl:es.length≤4096)(hv:v.size≤89):
  Calls prog 29 #[.agg #[.pointer p,.int .i64 es.length],.string key,.string v] w fun e w'=>∃p' H',e=.returned (.tuple #[.agg #[.pointer p',.int .i64 ((tpL es key v).length:Nat)],XY (tpF es key v:Nat)])∧z1a w' p' (tpL es key v) H'∧zB w w':=by
 obtain⟨ts,h1,rfl,h2,h3⟩:=h;refine(z5k p ts H key v w h1 hl).mono ?_;rintro e w' ⟨p',ts',H',rfl,h4,h5,hb⟩
 rcases h5 with ⟨h5,rfl⟩|⟨h5,h6⟩
 ·have e1:tpL (esL ts) key v=[]:=by unfold tpL;rw[if_neg h5]
  rw[e1];exact⟨p',H',rfl,⟨[],h4,rfl,fun e he=>(by cases he),fun q=>rfl⟩,hb⟩
 ·have e1:tpL (esL ts) key v=rep (esL ts) key [⟨key,v,[]⟩]:=by unfold tpL;rw[if_pos h5]
  have hch:∀e∈rep (esL ts) key [⟨key,v,[]⟩],e.ch=[]∧e.v.size≤89:=fun e he=>by
   unfold rep at he
   rcases List.mem_append.1 he with he|he
   ·exact h2 e (List.mem_of_mem_take he)
   ·rcases List.mem_append.1 he with he|he
    ·rw[List.mem_singleton.1 he];exact⟨rfl,hv⟩
    ·exact h2 e (List.mem_of_mem_drop he)
  have e2:esL ts'=rep (esL ts) key [⟨key,v,[]⟩]:=by
   rcases h6 with ⟨h7,_⟩|⟨rfl,h7,h8⟩
   ·exact h7
   ·exact(z5j (z4x (fun e he=>(h2 e he).1)) h7 h8).symm
  rw[e1,←e2];exact⟨p',H',rfl,⟨ts',h4,rfl,by rw[e2];exact hch,fun q=>by
   have h9:=h6.fr.pg q;have h10:=h3 q;omega⟩,hb⟩
structure Gr (w wr:World) (lv:Value) (k:Nat) (es:List En) (p:Option Addr) (H:Nat):Prop where
 l:EV Y9 wr lv es
 t:TB wr (w.heap.size+1) p es.length
 r:TB wr w.heap.size none 0
 tr:z1a wr p es H
 n:es.length≤k
 b:zB w wr
 g0:∀{w'},zB w w'→Hg w'
theorem Gr.next {w wr:World}{lv:Value}{k:Nat}{es es2:List En}{p p2:Option Addr}{H H2:Nat}(h:Gr w wr lv k es p H){w6:World}{u:Value}(hb:zB wr w6)(hu:EV Y9 w6 u es2)(ht:z1a w6 p2 es2 H2)(hn:es2.length≤k+1):
  Gr w ((w6.setCell ⟨w.heap.size+1,0,none⟩ (.pointer p2)).setCell ⟨w.heap.size+1,1,none⟩ (.int .i64 es2.length)) u (k+1) es2 p2 H2:=by
 have t6:=h.t.ext hb;have t:=Yv w6 (w.heap.size+1) (.pointer p2) (.int .i64 es2.length);have hF:TF w6 (fun i=>i=w.heap.size+1):=TF.one t6;have hbw:=h.b.trans (hb.mono h.b.size);have hfin:=X4 (b:=w.heap.size+1) (u:=.pointer p2) (v:=.int .i64 es2.length) hbw (by omega);exact⟨hu.turn yY t hF,t6.put p2 _,(h.r.ext hb).turn t (by omega),ht.turn t hF,hn,hfin,fun h2=>h.g0 h2⟩
theorem y2e (n seed:Nat)(w:World)(hn:n≤200)(hsd:seed≤65535)(hg:Hg w):
  Calls prog 9 #[.int .i64 n,.int .i64 seed] w fun e w'=>∃p H es l,e=.returned (.tuple #[.agg #[.pointer p,.int .i64 es.length],l,.bool true])∧z1a w' p es H∧EV Y9 w' l es∧es.length≤n∧zB w w':=by
 obtain⟨W,hW,hT1,hT2,hb⟩:∃W,(w.alloc (.cells #[.pointer none,.int .i64 0] TT)).alloc (.cells #[.pointer none,.int .i64 0] TT)=W∧TB W w.heap.size none 0∧TB W (w.heap.size+1) none 0∧zB w W:=z3i w none 0;have HW:=zh hW;have Hgr:Hid (Gr w W Z0 0 [] none 0):=⟨EV.none _,hT2,hT1,z1a.none _,by simp,hb,fun h=>hg.below h⟩
 have Hn:=zh hn;clear hW hT1 hT2 hb hg
 go_enter func9,ntmps9
 go_wp2_with fail;rw[HW.out]
 go_loopw [7,9,10,11,12,13,14,15,16] (fun lv i _ _ _ _ _ _ _ wr=>∃(k:Nat) (es:List En) (p:Option Addr) (H:Nat) (v:Value),v=lv∧i=.int .i64 k∧k≤n∧Hid (Gr w wr v k es p H)) (fun _ i _ _ _ _ _ _ _ _=>n-(intOf i).toNat)
 case atStart=>exact⟨0,[],none,0,Z0,rfl,rfl,by omega,Hgr⟩
 case round=>
  obtain⟨k,es,p,H,v,rfl,rfl,hk,hgr⟩:=hrel
  by_cases hlt:k<n
  ·obtain⟨X,hX⟩:∃X,X=k*37+seed:=⟨_,rfl⟩
   have eX:(k:Int)*37+(seed:Int)=(X:Int):=by omega
   obtain⟨K,hK⟩:∃K,K=X%4001:=⟨_,rfl⟩
   have eK:(X:Int).tmod 4001=(K:Int):=by rw[Int.tmod_eq_emod_of_nonneg (by omega)];omega
   have hK9:K≤4000:=by omega
   have hX9:X≤80000:=by omega
   obtain⟨Q,hQ⟩:∃Q,Q=K/256:=⟨_,rfl⟩
   have eQ:(K:Int).tdiv 256=(Q:Int):=by rw[Int.tdiv_eq_ediv_of_nonneg (by omega)];omega
   have hQ9:Q≤15:=by omega
   have wQ:IntKind.u8.wrap (Q:Int)=(Q:Int):=by rw[IntKind.wrap_u8];omega
   obtain⟨B1,hB1⟩:∃B1,B1=K%256:=⟨_,rfl⟩
   have wB1:IntKind.u8.wrap (K:Int)=(B1:Int):=by rw[IntKind.wrap_u8];omega
   obtain⟨B2,hB2⟩:∃B2,B2=k%3:=⟨_,rfl⟩
   have eB2:(k:Int).tmod 3=(B2:Int):=by rw[Int.tmod_eq_emod_of_nonneg (by omega)];omega
   have wB2:IntKind.u8.wrap (B2:Int)=(B2:Int):=by rw[IntKind.wrap_u8];omega
   obtain⟨M,hM⟩:∃M,M=K%30:=⟨_,rfl⟩
   have eM:(K:Int).tmod 30=(M:Int):=by rw[Int.tmod_eq_emod_of_nonneg (by omega)];omega
   have hM9:M≤29:=by omega
   obtain⟨Y,hY⟩:∃Y,Y=K*7+seed:=⟨_,rfl⟩
   have eY:(K:Int)*7+(seed:Int)=(Y:Int):=by omega
   obtain⟨V,hV⟩:∃V,V=Y%90:=⟨_,rfl⟩
   have eV:(Y:Int).tmod 90=(V:Int):=by rw[Int.tmod_eq_emod_of_nonneg (by omega)];omega
   have hV9:V≤89:=by omega
   have hY9:Y≤100000:=by omega
   --the key's first bytes
   have hsrc3:Src (wr.alloc (.cells #[.int .u8 (Q:Int),.int .u8 (B1:Int),.int .u8 (B2:Int)] 5)) (some ⟨wr.heap.size,0,none⟩) [Q,B1,B2]:=(y8i wr 5 (0,0) [Q,B1,B2]).src;have hcv:=ZD (P:=prog) 48 5 9 underlying48 underlying5 underlying9 (some ⟨wr.heap.size,0,none⟩) 3 3 [Q,B1,B2] rfl _ hsrc3;have hxs:=ZZ [Q,B1,B2];generalize Pj [Q,B1,B2]=x3 at*;obtain⟨y4,hy4⟩:∃y4,(⟨#[107]⟩:ByteArray)++x3=y4:=⟨_,rfl⟩
   have hys:y4.size=4:=by rw[←hy4,z5l,hxs];rfl
   have hno:¬(9223372036854775807<1+x3.size):=by rw[hxs];simp
   have Hys:=zh hys;obtain⟨W1,hW1⟩:∃W1,wr.alloc (.cells #[.int .u8 (Q:Int),.int .u8 (B1:Int),.int .u8 (B2:Int)] 5)=W1:=⟨_,rfl⟩
   have HW1:=zh hW1;have hb1:zB wr W1:=by rw[←hW1];exact(zbr _ _).alloc (zlr _) _
   have Hb1:=zh hb1;clear hX hK hQ hB1 hB2 hM hY hV hsrc3 hxs hys hW1 hb1;go_wp2_with fail;rw[HW1.out]
   go_loopw [11] (fun s wr2=>∃y:ByteArray,s=.string y∧4≤y.size∧y.size≤33∧W1=wr2) (fun s _=>40-y7m s)
   case atStart=>exact⟨y4,rfl,by rw[Hys.out];exact zlr _,by rw[Hys.out];omega,by first|trivial|rfl⟩
   case round=>
    obtain⟨y,rfl,hy1,hy2,rfl⟩:=hrel
    by_cases hys:y.size<4+M
    ·obtain⟨y',hy'⟩:∃y',y++(⟨#[46]⟩:ByteArray)=y':=⟨_,rfl⟩
     have hsz:Hid (y'.size=y.size+1):=by show _=_;rw[←hy',z5l];rfl
     have hno2:¬(9223372036854775807<y.size+1):=by omega
     have d5:(y.size:Int)<4+(M:Int):=by omega
     go_wp2
     go_roundw
     case rel=>exact⟨y',rfl,by rw[hsz.out];omega,by rw[hsz.out];omega,by first|trivial|rfl⟩
     case measure=>have:=hsz.out;simp[y7m];omega
    ·have d5:¬(y.size:Int)<4+(M:Int):=by omega
     obtain⟨W2,hmk,hrow,hb2⟩:=QA (P:=prog) W1 48 5 underlying48 x2g .i64 .i64 V (by omega);have hcv2:=ZD (P:=prog) 48 5 9 underlying48 underlying5 underlying9 (some ⟨W1.heap.size,0,none⟩) V V (List.replicate V 0) (by simp) W2 (KN hrow);have hz9:(Pj (List.replicate V 0)).size≤89:=by rw[ZZ];simp;omega
     have hzs:(Pj (List.replicate V 0)).size≤2048:=by omega
     generalize Pj (List.replicate V 0)=z at*;have hbw2:=Hb1.out.trans (hb2.mono Hb1.out.size);have hG:=hgr.out;have t2:=hG.t.ext hbw2;have c0:=t2.c0;have c1:=t2.c1;have Hput:=zh (y2d p es H y z W2 (hG.tr.ext hbw2) (by have:=hG.n;have:=Hn.out;omega) hz9);have hkey:okK y=true:=by unfold okK;simp;omega
     have htp:=y5y (es:=es) hkey hzs (by have:=hG.n;have:=Hn.out;omega);have hle:=y98 es y z;rw[htp.1] at Hput;have Htl:=zh hle;have Hbw2:=zh hbw2;obtain⟨N,hN⟩:∃N,(tpL es y z).length=N:=⟨_,rfl⟩
     have HNN:=zh hN;rw[hN] at Hput;have hl5:es.length≤4096:=by have:=hG.n;have:=Hn.out;omega
     have Href:Hid (∀(a:Option Addr) (c:Nat) (w4:World),ES Y9 w4 a es→(a=none→c=0)→es.length≤c→c≤maxLen→Calls prog 30 #[.slice a es.length c,.string y,.string z] w4 fun e w'=>∃u,e=.returned (.tuple #[u,.int .i64 0])∧EV Y9 w' u (tpL es y z)∧zB w4 w'):=fun a c w4 h1 h2 h3 h4=>by
      have:=JG a es.length c es y z w4 rfl h1 (by omega) h2 h3 h4;rw[htp.1] at this;exact this
     obtain⟨a0,c9,rfl,s0,z0,n0,m0⟩:=hG.l;have HS:=zh (zai s0 (zai z0 (zai n0 m0)));clear hrow hb2 hzs hz9 hbw2 hG t2 hkey htp hle hN s0 z0 n0 m0 hys hy1 hy2;go_wp2_with fail;refine Hput.out.mono ?_;rintro e w3 ⟨p3,H3,rfl,ht3,hb3⟩;rw[show XY ((0:Nat):Int)=.nilIface from rfl];have hb03:=Hbw2.out.trans (hb3.mono Hbw2.out.size);obtain⟨w4,hw4,hT4,hb4⟩:=Z1 w3 TT #[.pointer p3,.int .i64 (N:Int)];have hb04:=hb03.trans (hb4.mono hb03.size);have Hw4:=zh hw4;have HT4:=zh hT4;have Ht3:=zh (ht3.ext hb4);have Hb04:=zh hb04;have Href4:=zh (Href.out a0 c9 w4 (HS.out.1.below hb04 (zlr _)) HS.out.2.1 HS.out.2.2.1 HS.out.2.2.2);have Hl3:=zh (zag.1 hT4).1;clear ht3 hb3 hb03 hw4 hT4 hb4 hb04 Hput Href c0 c1 hcv2 hmk;go_wp2_with fail;rw[Hw4.out];refine Href4.out.mono ?_;rintro e w5 ⟨u,rfl,⟨a5,c5,rfl,s5⟩,hb5⟩;have hb05:=Hb04.out.trans (hb5.mono Hb04.out.size);have Hnum:=zh (z8e w5);have Hb05:=zh hb05;have HS5:=zh s5;have HT5:Hid (TB w5 w3.heap.size p3 (N:Int)):=TB.ext (w:=w4) HT4.out hb5;have Ht5:=zh (Ht3.out.ext hb5);rw[HNN.out];clear s5 hb5 hb05 Href4 HT4 Ht3;go_wp2_with fail;refine Hnum.out.mono ?_;rintro e w6 ⟨rfl,hb6⟩;have hb06:=Hb05.out.trans (hb6.mono Hb05.out.size);have t6:=HT5.out.ext hb6;have c0:=t6.c0;have c1:=t6.c1;have hG:=hgr.out;have f0:=(hG.t.ext hb06).fz 0;have f1:=(hG.t.ext hb06).fz 1;have g0:=(hG.t.ext hb06).c0;have g1:=(hG.t.ext hb06).c1;have hev:EV Y9 w6 (.slice a5 N c5) (tpL es y z):=⟨a5,c5,by rw[HNN.out],HS5.out.1.below hb6 (zlr _),HS5.out.2⟩
     have hfin:=hG.next (es2:=tpL es y z) (p2:=p3) (H2:=H3) hb06 hev (Ht5.out.ext hb6) (by have:=Htl.out;have:=hG.n;omega);rw[HNN.out] at hfin;have Hfin:=zh hfin;clear hb6 hb06 t6 hG hev hfin Hnum HS5 Ht5 HT5;go_wp2_with fail
     go_roundw
     case rel=>exact⟨k+1,tpL es y z,p3,H3,_,rfl,by go_num,by omega,Hfin⟩
     case measure=>simp[intOf];omega
  ·have hG:=hgr.out;have c0:=hG.t.c0;have c1:=hG.t.c1;have r0:=hG.r.c0;have r1:=hG.r.c1;have f0:=hG.r.fz 0;have f1:=hG.r.fz 1;have t:=Yv wr w.heap.size (.pointer p) (.int .i64 es.length);have HT:=zh (hG.tr.turn t (TF.one hG.r));have HE:=zh (hG.l.turn yY t (TF.one hG.r));have HP:=zh (hG.r.put p (es.length:Int));have d0:=HP.out.c0;have d1:=HP.out.c1;have Hb:=zh (X4 (b:=w.heap.size) (u:=.pointer p) (v:=.int .i64 es.length) hG.b (zlr _));have Hnn:=zh hG.n;obtain⟨a0,c9,rfl,_⟩:=hG.l;clear hG t hgr;go_wp2_with fail;refine bodyPost_ret (v:=.tuple #[.agg #[.pointer p,.int .i64 (es.length:Int)],.slice a0 es.length c9,.bool true]) (by rw[Tu rfl];go_simp) rfl ⟨p,H,es,_,rfl,HT.out,HE.out,by have:=Hnn.out;omega,Hb.out⟩
abbrev ITY:TypeId:=3
abbrev STY:TypeId:=9
abbrev zF:Value:=.slice none 0 0
theorem z5m (w:World)(B:Nat)(x:Int)(h:B≤w.heap.size):(w.alloc (.cells #[.int .i64 x] ITY)).ownsRow B ITY 1 (.slice (some ⟨w.heap.size,0,none⟩) 1 1) 1 (iv [x]):=by
 refine⟨rfl,.inr ⟨w.heap.size,1,#[.int .i64 x],rfl,h,?_,zlr _,by unfold maxLen;omega,?_⟩⟩
 ·show(w.heap.push _)[w.heap.size]? =_;rw[Array.getElem?_push_size]
 ·exact⟨rfl,rfl⟩
theorem y5z (p:Option Addr)(es:List En)(H:Nat)(w:World)(ht:z7j w p es H)(hl:es.length≤100000):
  Calls prog 19 #[.agg #[.pointer p,.int .i64 es.length]] w fun e w'=>∃v,e=.returned v∧EV Y9 w' v es∧zB w w':=by
 rcases ht with ⟨rfl,rfl,_⟩|⟨b,h,s,rfl,hn,hs,hs3,_⟩
 ·go_enter func19,ntmps19
  go_wp2;go_ret;exact⟨_,rfl,EV.none _,(zbr _ _).alloc (zlr _) _⟩
 ·obtain⟨w0,hw0,hc0,hb0⟩:=Z1 w TT #[pt b,.int .i64 es.length];obtain⟨W,hW,hbW⟩:∃W,w0.drew=W∧zB w0 W:=⟨_,rfl,(zbr _ _).drew⟩
  have hbx:=hb0.trans (hbW.mono hb0.size);have hcW:W.heap[w.heap.size]? =some (.cells #[pt b,.int .i64 es.length] TT (0,0)):=(hbW.block _ (zag.1 hc0).1).trans hc0;have lW:w.heap.size<W.heap.size:=(zag.1 hcW).1;have q0:∀w',Zx (fun i=>W.heap.size≤i) W w'→w'.cell? ⟨w.heap.size,0,none⟩=some (pt b):=fun w' hx=>by
   have h1:=(hx.block _ lW (by omega)).trans hcW;simp[World.cell?,h1]
  have q1:∀w',Zx (fun i=>W.heap.size≤i) W w'→w'.cell? ⟨w.heap.size,1,none⟩=some (.int .i64 es.length):=fun w' hx=>by
   have h1:=(hx.block _ lW (by omega)).trans hcW;simp[World.cell?,h1]
  obtain⟨i0,hi,hz,hs0,hby⟩:=info_parts y9n;obtain⟨w1,hrun,hown,hgr⟩:=run_make_own (P:=prog) W W.heap.size 45 ET i0 Y9.zero Y9.sz underlying45 hi hz hs0 .i64 .i64 es.length (by rw[hby];show 32*es.length≤_;omega) (by unfold maxLen;omega) (zlr _);have hb1:zB W w1:=(zbr _ W).grown hgr (zlr _) (fun k hk=>by cases hk);have Hcall:=zh (Lu W h none none b es s _ [] w1 (Nd.ext hbx h hn) (by omega) hb1 hown (by simp;omega));have Hb1:=zh hb1;have HB:=zh hbx;have HW:Hid ((w.alloc (.cells #[pt b,.int .i64 es.length] TT)).drew=W):=by show _=_;rw[hw0,hW]
  obtain⟨n,hn'⟩:∃n,es.length=n:=⟨_,rfl⟩
  have Hn:=zh hn';rw[hn'] at q1 hrun Hcall HW hl;rw[hn'];clear hw0 hc0 hb0 hW hbW hbx hcW lW hi hz hs0 hby hown hgr hb1 hn hs hs3 hn'
  go_enter func19,ntmps19
  go_wp2_with fail;refine rgt (F:=fun i=>W.heap.size≤i) [(0,true),(1,true),(3,true),(4,true),(2,false),(5,false),(6,true)] (h:= ?_);rw[HW.out];iterate 4 (refine gtr (v:= ?_) rfl (by rfl) ?_ ?_;rotate_left;(intro w' hw';go_simp;with_reducible rfl);simp only[Act.put,zs0,zs1,zs2])
  clear q0 q1;refine gtc rfl (by rfl) (fun K hK=> ?_);go_simp;refine hK _ _ (x3x Hb1.out) ?_;clear hK K hrun;refine gtc rfl (by rfl) (fun K hK=> ?_);go_simp;refine Hcall.out.mono ?_;rintro e w2 ⟨v,rfl,ho,hb2,hb3⟩;refine hK _ _ (Yy hb3) ?_;clear hK K Hcall;have Hev:Hid (EV Y9 w2 v es):=U3 (B:=W.heap.size) (T:=ET) (by simpa using ho);have HB2:=zh (HB.out.trans (hb2.mono HB.out.size));clear ho hb2 hb3
  (refine gtr (v:= ?_) rfl (by rfl) ?_ ?_;rotate_left;(intro w' hw';go_simp;with_reducible rfl);simp only[Act.put,zs0,zs1,zs2])
  refine Yj ?_;go_wp2_with fail;go_ret;exact⟨v,rfl,Hev.out,HB2.out⟩
theorem y2f (es:List En):Y9.row (bare es)=Y9.row es:=by
 induction es with
 | nil=>rfl
 | cons e r ih=>
  have e1:bare (e::r)=e.bare::bare r:=rfl;rw[e1,Elt.row,Elt.row,ih];rfl
theorem EV.bare {w:World}{v:Value}{es:List En}(h:EV Y9 w v es):EV Y9 w v (bare es):=by
 obtain⟨a,c,rfl,hs,h1,h2,h3⟩:=h;refine⟨a,c,by rw[Uk],?_,h1,by rw[Uk];exact h2,h3⟩
 rcases hs with ⟨rfl,rfl⟩|⟨g,o,rfl,ht,hc⟩
 ·exact .inl ⟨rfl,rfl⟩
 ·exact .inr ⟨g,o,rfl,ht,by rw[y2f];exact hc⟩
theorem y2g (p:Option Addr)(es:List En)(H:Nat)(w:World)(ht:y95 w p es H)(hl:es.length≤100000):
  Calls prog 19 #[.agg #[.pointer p,.int .i64 es.length]] w fun e w'=>∃v,e=.returned v∧EV Y9 w' v es∧zB w w':=by
 obtain⟨es',rfl,h⟩:=ht;rw[Uk] at hl⊢
 refine(y5z p es' H w h hl).mono ?_;rintro e w' ⟨v,rfl,hv,hb⟩;exact⟨v,rfl,hv.bare,hb⟩
end Go.Proofs.YtdgladhfibfdlaaGreatDoor
