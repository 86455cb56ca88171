/-
  Steps.
-/
import Derived.Test.YtdgladhfibfdlaaGreatDoorQPLs31
namespace Go.Proofs.YtdgladhfibfdlaaGreatDoor
open Go Go.RowKit
theorem x5u {w:World}{a:Option Addr}{n c:Nat}{es:List En}(h:CV w (.slice a n c) es)(h0:0<es.length):∃g o,a=some ⟨g,o,none⟩∧∀i,i<es.length→w.cell? ⟨g,o+i*3,none⟩=some (.string (ea es i).k)∧w.cell? ⟨g,o+i*3+1,none⟩=some (.string (ea es i).v)∧
  ∃v,w.cell? ⟨g,o+i*3+2,none⟩=some v∧EV pgE w v (ea es i).ch:=by
 obtain⟨a',c',h1,hs,_⟩:=h;injection h1 with h1 _ _
 subst h1;exact hs.ents h0
theorem z5d (v:NoV)(w:World):Calls Tryz.prog 66 #[v.v] w fun e w'=>e=.returned (.bool (!decide (v.pg=0)))∧Below w.heap.size w w':=by
 obtain⟨W,hW,hV,hb⟩:=q6k w v;have Hc:=zh (z4a v W);have HW:=zh hW;have HB:=zh hb;obtain⟨D,hD⟩:∃D,(!decide (v.pg=0))=D:=⟨_,rfl⟩
 have hd:(((v.pg:Nat):Int) !=0)=D:=by
  rw[←hD]
  by_cases h:v.pg=0
  ·rw[h];rfl
  ·rw[zdf h,bne_iff_ne.2 (by omega)];rfl
 rw[hD];clear hW hV hb hD;obtain⟨pg,ca,cn,cc,ka,kn,kc,pa,pn,pc⟩:=v;dsimp only[NoV.c,NoV.k,NoV.p,NoV.v] at*
 go_enter Tryz.func66,Tryz.ntmps66
 go_wp2_with fail;rw[HW.out];refine Hc.out.mono ?_;rintro e w' ⟨rfl,hb⟩;have Hb:=zh (HB.out.trans (hb.mono HB.out.size));clear hb;go_wp2;go_ret;exact⟨rfl,Hb.out⟩
theorem y04 (k v:ByteArray)(a:Option Addr)(n c:Nat)(w:World):Calls Tryz.prog 94 #[.agg #[.string k,.string v,.slice a n c]] w fun e w'=>e=.returned (.bool (decide (64<v.size)))∧Below w.heap.size w w':=by
 obtain⟨D,hD⟩:∃D,decide (64<v.size)=D:=⟨_,rfl⟩
 have hd:decide ((64:Int)<(v.size:Int))=D:=by
  rw[←hD];rw[decide_eq_decide];omega
 rw[hD];clear hD
 go_enter Tryz.func94,Tryz.ntmps94
 go_wp2;go_ret;exact⟨rfl,(zbr _ _).alloc (zlr _) _⟩
theorem y5t (k v:ByteArray)(a:Option Addr)(n c:Nat)(w:World):Calls Tryz.prog 68 #[.agg #[.string k,.string v,.slice a n c]] w fun e w'=>e=.returned (.bool (decide (64<v.size)&&decide (n=0)))∧Below w.heap.size w w':=by
 obtain⟨W,hW,hT,hb⟩:=z0m w TCT #[.string k,.string v,.slice a n c];have Hc:=zh (y04 k v a n c W);have HW:=zh hW;have HB:=zh hb;have HT:=zh hT;have lg:w.heap.size<W.heap.size:=(zag.1 hT).1;obtain⟨D,hD⟩:∃D,decide (64<v.size)=D:=⟨_,rfl⟩
 obtain⟨D2,hD2⟩:∃D,decide (n=0)=D:=⟨_,rfl⟩
 have hd:((n:Int)==0)=D2:=by
  rw[←hD2]
  by_cases h:n=0
  ·rw[h];rfl
  ·rw[zdf h,beq_eq_false_iff_ne];omega
 rw[hD] at Hc;rw[hD,hD2];clear hD hD2 hW hT hb
 go_enter Tryz.func68,Tryz.ntmps68
 go_wp2_with fail;rw[HW.out];refine Hc.out.mono ?_;rintro e w1 ⟨rfl,hb1⟩;have hg:w1.heap[w.heap.size]? =some (.cells #[.string k,.string v,.slice a n c] TCT (0,0)):=(hb1.block _ lg).trans HT.out;have c2:w1.cell? ⟨w.heap.size,2,none⟩=some (.slice a n c):=by simp[World.cell?,hg]
 have Hb:=zh (HB.out.trans (hb1.mono HB.out.size));clear hb1 hg Hc
 cases D with
 | true=>
  go_wp2;go_ret;exact⟨rfl,Hb.out⟩
 | false=>
  go_wp2;go_ret;exact⟨rfl,Hb.out⟩
def ceV (c:Ce):Value:=.agg #[.string c.k,.string c.v,.int .i64 c.n,.int .i64 c.p]
set_option maxRecDepth 100000 in
theorem y7u (e:En)(a:Option Addr)(c:Nat)(w:World)(hv:EV pgE w (.slice a e.ch.length c) e.ch)(hl:64<e.v.size→0<e.ch.length):Calls Tryz.prog 97 #[.agg #[.string e.k,.string e.v,.slice a e.ch.length c]] w fun r w'=>r=.returned (ceV (cE e))∧Below w.heap.size w w':=by
 obtain⟨W,hW,hT,hb⟩:=z0m w TCT #[.string e.k,.string e.v,.slice a e.ch.length c];obtain⟨W2,hW2,hT2,hb2⟩:=z0m W 182 #[.string ⟨#[]⟩,.string ⟨#[]⟩,.int .i64 0,.int .i64 0];have hs1:W.heap.size=w.heap.size+1:=by rw[←hW];simp
 have hb12:=hb.trans (hb2.mono hb.size);have Hc:=zh (y04 e.k e.v a e.ch.length c W2);have HW:Hid ((w.alloc (.cells #[.string e.k,.string e.v,.slice a e.ch.length c] TCT)).alloc (.cells #[.string ⟨#[]⟩,.string ⟨#[]⟩,.int .i64 0,.int .i64 0] 182)=W2):=by show _=_;rw[hW,hW2]
 have HB:=zh hb12;have HT:=zh ((hb2.block _ (zag.1 hT).1).trans hT);rw[hs1] at hT2;have HT2:=zh hT2;have lg:w.heap.size+1<W2.heap.size:=(zag.1 hT2).1;have hdrew:∀(X:World),Below X.heap.size X X.drew:=fun X=>(zbr _ _).drew
 have fin:∀(X:World) (y0 y1 y2 y3:Value),X.heap[w.heap.size+1]? =some (.cells #[.string ⟨#[]⟩,.string ⟨#[]⟩,.int .i64 0,.int .i64 0] 182 (0,0))→(put4 X (w.heap.size+1) y0 y1 y2 y3).cell? ⟨w.heap.size+1,0,none⟩=some y0∧(put4 X (w.heap.size+1) y0 y1 y2 y3).cell? ⟨w.heap.size+1,1,none⟩=some y1∧(put4 X (w.heap.size+1) y0 y1 y2 y3).cell? ⟨w.heap.size+1,2,none⟩=some y2∧(put4 X (w.heap.size+1) y0 y1 y2 y3).cell? ⟨w.heap.size+1,3,none⟩=some y3:=fun X y0 y1 y2 y3 h=>by
  have:=z16 (x0:=y0) (x1:=y1) (x2:=y2) (x3:=y3) h;simp[World.cell?,this]
 have Fin:=zh fin
 by_cases hlong:64<e.v.size
 ·have h0:=hl hlong;obtain⟨_,_,he,hs,_⟩:=hv;injection he with he1 _ he2
  subst he1 he2;obtain⟨g,o,rfl,hc0⟩:=hs.pages h0;have p0:=hc0 0 h0;rw[Nat.add_zero] at p0;have lp:=block_lt_of_cell p0;have hcE:cE e=⟨e.k,ByteArray.empty,(e.v.size:Int),((na e.ch 0:Nat):Int)⟩:=by unfold cE;rw[if_pos hlong]
  rw[hcE];rw[zdt hlong] at Hc;have P0:=zh p0;have hm0:(0:Int)<(e.ch.length:Int):=by omega
  generalize e.ch.length=m at*;generalize na e.ch 0=pg0 at*;clear hcE hW hT hb hW2 hT2 hb2 hs1 hb12 hs hc0 p0 fin hlong hl
  go_enter Tryz.func97,Tryz.ntmps97
  go_wp2_with fail;rw[HW.out];refine Hc.out.mono ?_;rintro r w1 ⟨rfl,hb1⟩;obtain⟨W3,hW3⟩:∃W,w1.drew=W:=⟨_,rfl⟩
  have hd3:Below w1.heap.size w1 W3:=by rw[←hW3];exact(zbr _ _).drew
  have hb13:=hb1.trans (hd3.mono hb1.size);have hg3:W3.heap[w.heap.size]? =some (.cells #[.string e.k,.string e.v,.slice (some ⟨g,o,none⟩) m c] TCT (0,0)):=(hb13.block _ (by omega)).trans HT.out;have hg4:W3.heap[w.heap.size+1]? =some (.cells #[.string ⟨#[]⟩,.string ⟨#[]⟩,.int .i64 0,.int .i64 0] 182 (0,0)):=(hb13.block _ lg).trans HT2.out;have P3:W3.cell? ⟨g,o,none⟩=some (.int .i64 (pg0:Nat)):=by
   have hx:=HB.out.trans (hb13.mono HB.out.size);rw[hx.cell (p:=⟨g,o,none⟩) lp];exact P0.out
  have q0:∀w',Turn (fun i=>i=w.heap.size+1) W3 w'→w'.cell? ⟨w.heap.size,0,none⟩=some (.string e.k):=fun w' t=>by
   have:=t.hg hg3 (by omega);simp[World.cell?,this]
  have q1:∀w',Turn (fun i=>i=w.heap.size+1) W3 w'→w'.cell? ⟨w.heap.size,1,none⟩=some (.string e.v):=fun w' t=>by
   have:=t.hg hg3 (by omega);simp[World.cell?,this]
  have q2:∀w',Turn (fun i=>i=w.heap.size+1) W3 w'→w'.cell? ⟨w.heap.size,2,none⟩=some (.slice (some ⟨g,o,none⟩) m c):=fun w' t=>by
   have:=t.hg hg3 (by omega);simp[World.cell?,this]
  have q3:∀w',Turn (fun i=>i=w.heap.size+1) W3 w'→w'.cell? ⟨g,o,none⟩=some (.int .i64 (pg0:Nat)):=fun w' t=>by
   rw[t.cell (p:=⟨g,o,none⟩) (block_lt_of_cell P3) (by show¬g=w.heap.size+1;omega)];exact P3
  have HW3:=zh hW3;have Hg4:=zh hg4;have Hb3:=zh (HB.out.trans (hb13.mono HB.out.size));clear hW3 hd3 hb13 hg3 hg4 P3 hb1 Hc HT HT2 P0;go_wp2_with fail;refine z0i (F:=fun i=>i=w.heap.size+1) [(0,true),(1,true),(2,true),(3,true),(4,true),(5,true),(6,true),(7,true),(8,true),(9,true),(10,true),(11,true),(12,false)] (by kernel_rfl) (by kernel_rfl) (by kernel_rfl) (by kernel_rfl) (fun _ _ _ _ _ h=>h) ?_;rw[HW3.out];iterate 12 (refine gtr (v:= ?_) rfl (by rfl) ?_ ?_;rotate_left;(intro w' hw';go_simp;with_reducible rfl);simp only[Act.put,zs0,zs1,zs2])
  clear q0 q1 q2 q3;have f:∀i,W3.frozen? ⟨w.heap.size+1,i,none⟩=false:=fun i=>by simp[World.frozen?,Hg4.out]
  have f0:=f 0;have f1:=f 1;have f2:=f 2;have f3:=f 3;have s0:W3.cell? ⟨w.heap.size+1,0,none⟩=some (.string ⟨#[]⟩):=by simp[World.cell?,Hg4.out]
  have s1:W3.cell? ⟨w.heap.size+1,1,none⟩=some (.string ⟨#[]⟩):=by simp[World.cell?,Hg4.out]
  have s2:W3.cell? ⟨w.heap.size+1,2,none⟩=some (.int .i64 0):=by simp[World.cell?,Hg4.out]
  have s3:W3.cell? ⟨w.heap.size+1,3,none⟩=some (.int .i64 0):=by simp[World.cell?,Hg4.out]
  have k:=Fin.out W3 (.string e.k) (.string ByteArray.empty) (.int .i64 (e.v.size:Int)) (.int .i64 (pg0:Nat)) Hg4.out;obtain⟨k0,k1,k2,k3⟩:=k;have HBp:Hid (Below w.heap.size w (put4 W3 (w.heap.size+1) (.string e.k) (.string ByteArray.empty) (.int .i64 (e.v.size:Int)) (.int .i64 (pg0:Nat)))):=z2k Hb3.out (by omega);unfold put4 at k0 k1 k2 k3;clear f Fin Hg4 Hb3;refine gtc rfl (by rfl) (fun K hK=> ?_);go_simp;refine hK _ _ (z17 (x0:=.string e.k) (x1:=.string ByteArray.empty) (x2:=.int .i64 (e.v.size:Int)) (x3:=.int .i64 (pg0:Nat))) ?_;clear hK K;refine z0o ?_;go_wp2_with fail;refine bodyPost_ret (v:=.agg #[.string e.k,.string ByteArray.empty,.int .i64 (e.v.size:Int),.int .i64 (pg0:Nat)]) (by rw[z0p rfl];go_simp;rfl) rfl ⟨rfl,HBp.out⟩
 ·have hcE:cE e=⟨e.k,e.v,(e.v.size:Int),0⟩:=by unfold cE;rw[if_neg hlong]
  rw[hcE];rw[zdf hlong] at Hc;generalize e.ch.length=m at*;clear hcE hW hT hb hW2 hT2 hb2 hs1 hb12 fin hl hv hlong
  go_enter Tryz.func97,Tryz.ntmps97
  go_wp2_with fail;rw[HW.out];refine Hc.out.mono ?_;rintro r w1 ⟨rfl,hb1⟩;have hg3:w1.heap[w.heap.size]? =some (.cells #[.string e.k,.string e.v,.slice a m c] TCT (0,0)):=(hb1.block _ (by omega)).trans HT.out;have hg4:w1.heap[w.heap.size+1]? =some (.cells #[.string ⟨#[]⟩,.string ⟨#[]⟩,.int .i64 0,.int .i64 0] 182 (0,0)):=(hb1.block _ lg).trans HT2.out;have q0:w1.cell? ⟨w.heap.size,0,none⟩=some (.string e.k):=by simp[World.cell?,hg3]
  have q1:w1.cell? ⟨w.heap.size,1,none⟩=some (.string e.v):=by simp[World.cell?,hg3]
  have Hg4:=zh hg4;have Hb3:=zh (HB.out.trans (hb1.mono HB.out.size));clear hg3 hg4 hb1 Hc HT HT2;have f:∀i,w1.frozen? ⟨w.heap.size+1,i,none⟩=false:=fun i=>by simp[World.frozen?,Hg4.out]
  have f0:=f 0;have f1:=f 1;have f2:=f 2;have f3:=f 3;have s0:w1.cell? ⟨w.heap.size+1,0,none⟩=some (.string ⟨#[]⟩):=by simp[World.cell?,Hg4.out]
  have s1:w1.cell? ⟨w.heap.size+1,1,none⟩=some (.string ⟨#[]⟩):=by simp[World.cell?,Hg4.out]
  have s2:w1.cell? ⟨w.heap.size+1,2,none⟩=some (.int .i64 0):=by simp[World.cell?,Hg4.out]
  have s3:w1.cell? ⟨w.heap.size+1,3,none⟩=some (.int .i64 0):=by simp[World.cell?,Hg4.out]
  have k:=Fin.out w1 (.string e.k) (.string e.v) (.int .i64 (e.v.size:Int)) (.int .i64 0) Hg4.out;obtain⟨k0,k1,k2,k3⟩:=k;have HBp:Hid (Below w.heap.size w (put4 w1 (w.heap.size+1) (.string e.k) (.string e.v) (.int .i64 (e.v.size:Int)) (.int .i64 0))):=z2k Hb3.out (by omega);unfold put4 at k0 k1 k2 k3;clear f Fin Hg4 Hb3;go_wp2_with fail;refine bodyPost_ret (v:=.agg #[.string e.k,.string e.v,.int .i64 (e.v.size:Int),.int .i64 0]) (by rw[z0p rfl];go_simp) rfl ⟨rfl,HBp.out⟩
theorem z7l:∀(a b:List En),cNs (a++b)=cNs a+cNs b
 | [],b=>by simp[cNs]
 | e::r,b=>by rw[List.cons_append,cNs,cNs,z7l r b];omega
theorem x83 (es:List En)(k:Nat)(h:k<es.length):cNs (es.take (k+1))=cNs (es.take k)+cN (ea es k):=by
 rw[z7a es k h,z7l];simp[cNs]
theorem q5h (es:List En)(k:Nat):cNs (es.take k)≤cNs es:=by
 conv=>rhs;rw[←List.take_append_drop k es,z7l]
 omega
theorem z9x:∀(a b:List Tr),z0j (a++b)=z0j a+z0j b
 | [],b=>by simp[z0j]
 | e::r,b=>by rw[List.cons_append,z0j,z0j,z9x r b];omega
theorem VB4.c0 {w:World}{b:Nat}{v:NoV}(h:VB4 w b v):w.cell? ⟨b,0,none⟩=some (.int .i64 (v.pg:Nat)):=by
 have h':w.heap[b]? =_:=h;simp[World.cell?,h']
theorem VB4.c1 {w:World}{b:Nat}{v:NoV}(h:VB4 w b v):w.cell? ⟨b,1,none⟩=some v.c:=by
 have h':w.heap[b]? =_:=h;simp[World.cell?,h']
theorem VB4.c2 {w:World}{b:Nat}{v:NoV}(h:VB4 w b v):w.cell? ⟨b,2,none⟩=some v.k:=by
 have h':w.heap[b]? =_:=h;simp[World.cell?,h']
theorem VB4.c3 {w:World}{b:Nat}{v:NoV}(h:VB4 w b v):w.cell? ⟨b,3,none⟩=some v.p:=by
 have h':w.heap[b]? =_:=h;simp[World.cell?,h']
theorem VB4.lt {w:World}{b:Nat}{v:NoV}(h:VB4 w b v):b<w.heap.size:=(zag.1 h).1
theorem VB4.new (w:World)(v:NoV):∃W,w.alloc (.cells #[.int .i64 (v.pg:Nat),v.c,v.k,v.p] VT)=W∧VB4 W w.heap.size v∧Below w.heap.size w W:=
 ⟨_,rfl,by show(w.heap.push _)[w.heap.size]? =_;rw[Array.getElem?_push_size],(zbr _ _).alloc (zlr _) _⟩
theorem q3g (v:NoV)(w:World)(h:v.pg≠0):Calls Tryz.prog 44 #[v.v] w fun e w'=>e=.returned (.int .i64 0)∧Below w.heap.size w w':=by
 obtain⟨W,hW,hV,hb⟩:=VB4.new w v;have Hc:=zh (z5d v W);rw[show(!decide (v.pg=0))=true by rw[zdf h];rfl] at Hc;have HW:=zh hW;have HB:=zh hb;clear hW hV hb h;obtain⟨pg,ca,cn,cc,ka,kn,kc,pa,pn,pc⟩:=v;dsimp only[NoV.c,NoV.k,NoV.p,NoV.v] at*
 go_enter Tryz.func44,Tryz.ntmps44
 go_wp2_with fail;rw[HW.out];refine Hc.out.mono ?_;rintro e w' ⟨rfl,hb⟩;have Hb:=zh (HB.out.trans (hb.mono HB.out.size));clear hb;go_wp2;go_ret;exact⟨rfl,Hb.out⟩
set_option maxRecDepth 100000 in
theorem y5u (v:NoV)(es:List En)(vs:List NoV)(ps:List Nat)(ns:List Nat)(w:World)(h0:v.pg=0)(hc:CV w v.c es)(hl:es.length≤100000)(hch:∀e∈es,e.ch.length≤100000)
  (hsz:∀e∈es,e.v.size≤2048) (hp:EV ptrE w v.p ps) (hvs:vs.length=ps.length) (hnp:∀i,i<ps.length→NPv w (na ps i) (va vs i)) (hpl:ps.length≤100000)
  (hns:ns.length=ps.length) (hsum:cNs es+ns.sum+1≤1000000)
  (ih:∀i w',i<ps.length→Below w.heap.size w w'→Calls Tryz.prog 44 #[(va vs i).v] w' fun e w''=>e=.returned (.int .i64 (na ns i:Nat))∧Below w'.heap.size w' w''):
  Calls Tryz.prog 44 #[v.v] w fun e w'=>e=.returned (.int .i64 ((cNs es+ns.sum+1:Nat):Int))∧Below w.heap.size w w':=by
 obtain⟨W,hW,hV,hb⟩:=VB4.new w v;have Hc:=zh (z5d v W);rw[show(!decide (v.pg=0))=false by rw[zdt h0];rfl] at Hc;have HW:=zh hW;have HB:=zh hb;have HV:=zh hV;have Hcv:=zh hc;have Hp:=zh hp;have Hih:=zh ih;have Hnp:=zh hnp;have Hch:=zh (zai hch hsz);have lb:w.heap.size<W.heap.size:=hV.lt;have Hsum:=zh hsum;have Hl:=zh (zai hl (zai hpl (zai hvs hns)));clear hW hV hb hc hp ih hnp hch hsz hsum hl hpl hvs hns;have Hlaid:=zh (fun(w1:World) (hx:Below w.heap.size w w1)=>z9v v es w1 (Hcv.out.below hx (zlr _)) Hl.out.1 Hch.out.1);have Hkids:=zh (fun(w1:World) (hx:Below w.heap.size w w1)=>z9w v ps vs w1 (Hp.out.below hx (zlr _)) Hl.out.2.2.1 (fun i hi=>NP.ext (Hnp.out i hi) hx) Hl.out.2.1);have hcell:Hid (∀w1,Below W.heap.size W w1→VB4 w1 w.heap.size v):=fun w1 hx=>HV.out.ext hx
 have Hpg:=zh h0;clear Hp Hnp HV h0
 go_enter Tryz.func44,Tryz.ntmps44
 go_wp2_with fail;rw[HW.out];refine Hc.out.mono ?_;rintro e w1 ⟨rfl,hb1⟩;have Hb1:=zh hb1;have q0:=(hcell.out w1 hb1).c0;have q1:=(hcell.out w1 hb1).c1;have q2:=(hcell.out w1 hb1).c2;have q3:=(hcell.out w1 hb1).c3;have HB1:=zh (HB.out.trans (hb1.mono HB.out.size));clear hb1 Hc;go_wp2_with fail;refine(Hlaid.out w1 HB1.out).mono ?_;rintro e w2 ⟨u,rfl,hoc,hb2⟩;obtain⟨n,hn⟩:∃n,es.length=n:=⟨_,rfl⟩
 have Hn:=zh hn;have hn9:n≤100000:=by have:=Hl.out.1;omega
 obtain⟨ua,uc,hu⟩:=hoc.form;subst hu;have Hu:=zh hoc.cv;rw[hn] at Hu⊢
 have HB2:=zh (HB1.out.trans (hb2.mono HB1.out.size));have Hb2:=zh (Hb1.out.trans (hb2.mono Hb1.out.size));clear hoc hb2 hn q0 q1 q2 q3 Hlaid;go_wp2_with fail
 go_loopw [3,5,13] (fun x _ i wr=>∃k A:Nat,x=.int .i64 (A:Int)∧i=.int .i64 k∧k≤n∧Hid (A=1+cNs (es.take k))∧Hid (Below w2.heap.size w2 wr)) (fun _ _ i _=>n-(intOf i).toNat)
 case atStart=>exact⟨0,1,rfl,rfl,by omega,(by show _=_;simp[cNs]),zbr _ _⟩
 case round=>
  obtain⟨k,A,rfl,rfl,hk,hA,hB⟩:=hrel
  by_cases hlt:k<n
  ·obtain⟨g,o,hua,hcell2⟩:=x5u (Hu.out.below hB.out (zlr _)) (by rw[Hn.out];omega);subst hua;obtain⟨p0,p1,_,p2,⟨sa,sc,rfl,_⟩⟩:=hcell2 k (by rw[Hn.out];exact hlt);have hstep:=x83 es k (by rw[Hn.out];exact hlt);have hle:=q5h es (k+1);have hs48:=Hch.out.2 (ea es k) (z4q (by rw[Hn.out];exact hlt));have hcN:cN (ea es k)=if (decide (64<(ea es k).v.size)&&decide ((ea es k).ch.length=0))=true then nP (ea es k).v.size else 0:=rfl
   have hsz:=hB.out.size;have hbk:Below w2.heap.size w2 (wr.alloc (.cells #[.string (ea es k).k,.string (ea es k).v,.slice sa (ea es k).ch.length sc] TCT)):=hB.out.alloc hsz _;have Hw:=zh (y5t (ea es k).k (ea es k).v sa (ea es k).ch.length sc (wr.alloc (.cells #[.string (ea es k).k,.string (ea es k).v,.slice sa (ea es k).ch.length sc] TCT)));have Hbk:=zh hbk;have hTn:=z0z wr TCT #[.string (ea es k).k,.string (ea es k).v,.slice sa (ea es k).ch.length sc];have HTn:=zh hTn;have Hsum2:Hid (1+cNs (es.take (k+1))≤1000000):=by show _≤_;have:=Hsum.out;omega
   generalize ea es k=y at*;obtain⟨yk,yv,yc⟩:=y;dsimp only at p0 p1 p2 Hw hs48 hcN hstep Hbk HTn;generalize yc.length=yn at*;obtain⟨D,hD⟩:∃D,(decide (64<yv.size)&&decide (yn=0))=D:=⟨_,rfl⟩
   rw[hD] at Hw hcN;clear hcell2 hbk hTn hD hle;go_wp2_with fail;refine Hw.out.mono ?_;rintro e w3 ⟨rfl,hb3⟩;have HB3:Hid (Below w2.heap.size w2 w3):=Hbk.out.trans (hb3.mono Hbk.out.size);have hg3:w3.heap[wr.heap.size]? =some (.cells #[.string yk,.string yv,.slice sa yn sc] TCT (0,0)):=(hb3.block _ (by simp)).trans HTn.out;have c1:w3.cell? ⟨wr.heap.size,1,none⟩=some (.string yv):=by simp[World.cell?,hg3]
   clear Hw hb3 hg3 hB Hbk HTn
   cases D with
   | false=>
    rw[if_neg (by decide)] at hcN;have hst:Hid (A=1+cNs (es.take (k+1))):=by show _=_;rw[hstep,hcN,hA.out];omega
    clear hstep hcN hA;go_wp2
    go_roundw
    case rel=>exact⟨k+1,A,rfl,by go_num,by omega,hst,HB3⟩
    case measure=>simp[intOf];omega
   | true=>
    rw[if_pos rfl] at hcN;have hst:Hid (A+nP yv.size=1+cNs (es.take (k+1))):=by show _=_;rw[hstep,hcN,hA.out];omega
    have Hct:=zh (x4g (yv.size:Int) w3 (by omega) (by omega));rw[q4y] at Hct;have hsum3:=Hsum2.out;rw[←hst.out] at hsum3;obtain⟨C,hC⟩:∃C,nP yv.size=C:=⟨_,rfl⟩
    rw[hC] at hst hsum3 Hct;clear hstep hcN hC hA;go_wp2_with fail;refine Hct.out.mono ?_;rintro e w' ⟨rfl,rfl⟩;have z1:IntKind.i64.wrap ((A:Int)+(C:Int))=((A+C:Nat):Int):=by rw[IntKind.wrap_i64];omega
    clear Hct hsum3;go_wp2
    go_roundw
    case rel=>exact⟨k+1,A+C,by go_num,by go_num,by omega,hst,HB3⟩
    case measure=>simp[intOf];omega
  ·obtain rfl:k=n:=by omega
   have HA:Hid (A=1+cNs es):=by
    have h1:=hA.out;rw[List.take_of_length_le (by rw[Hn.out];exact zlr _)] at h1;exact h1
   have hbx:=Hb2.out.trans (hB.out.mono Hb2.out.size);have q0:=(hcell.out wr hbx).c0;have q1:=(hcell.out wr hbx).c1;have q2:=(hcell.out wr hbx).c2;have q3:=(hcell.out wr hbx).c3;have HBr:=zh (HB2.out.trans (hB.out.mono HB2.out.size));clear hbx hB hA;go_wp2_with fail;refine(Hkids.out wr HBr.out).mono ?_;rintro e w3 ⟨u3,rfl,hon,hb3⟩;have hev:=hon.ev;obtain⟨ka3,kc3,hu3,hs3,_⟩:=hev;subst hu3;have hvl:vs.length=ps.length:=Hl.out.2.2.1;obtain⟨m,hm⟩:∃m,ps.length=m:=⟨_,rfl⟩
   have Hm:=zh hm;have hm9:m≤100000:=by have:=Hl.out.2.1;omega
   rw[hvl,hm];have Hs3:=zh hs3;have HB3:=zh (HBr.out.trans (hb3.mono HBr.out.size));clear hon hb3 hs3 hvl hm q0 q1 q2 q3;go_wp2_with fail
   go_loopw [3,7,30] (fun x _ i wr=>∃k X:Nat,x=.int .i64 (X:Int)∧i=.int .i64 k∧k≤m∧Hid (X=A+(ns.take k).sum)∧Hid (Below w3.heap.size w3 wr)) (fun _ _ i _=>m-(intOf i).toNat)
   case atStart=>exact⟨0,A,rfl,rfl,by omega,(by show _=_;simp),zbr _ _⟩
   case round=>
    obtain⟨k,X,rfl,rfl,hk,hX,hB⟩:=hrel
    by_cases hlt:k<m
    ·obtain⟨g,o,hua,hcell2⟩:=(Hs3.out.below hB.out (zlr _)).nods (by have:=Hl.out.2.2.1;have:=Hm.out;omega);subst hua;obtain⟨p0,p1,p2,p3⟩:=hcell2 k (by have:=Hl.out.2.2.1;have:=Hm.out;omega);have hsz:=hB.out.size;have hnl:k<ns.length:=by have:=Hl.out.2.2.2;have:=Hm.out;omega
     have hstep:(ns.take (k+1)).sum=(ns.take k).sum+na ns k:=by rw[z4y ns k hnl,List.sum_append];simp
     have hle:(ns.take (k+1)).sum≤ns.sum:=by
      conv=>rhs;rw[←List.take_append_drop (k+1) ns,List.sum_append]
      omega
     have hbk:Below w3.heap.size w3 (wr.alloc (.cells #[.int .i64 ((va vs k).pg:Nat),(va vs k).c,(va vs k).k,(va vs k).p] VT)):=hB.out.alloc hsz _;have Hcall:=zh (Hih.out k (wr.alloc (.cells #[.int .i64 ((va vs k).pg:Nat),(va vs k).c,(va vs k).k,(va vs k).p] VT)) (by rw[Hm.out];exact hlt) (HB3.out.trans (hbk.mono HB3.out.size)));have Hbk:=zh hbk;have hsm:=Hsum.out;have hA2:=HA.out;have hst:Hid (X+na ns k=A+(ns.take (k+1)).sum):=by show _=_;have:=hX.out;omega
     have hX2:=hX.out;obtain⟨Y,hY⟩:∃Y,na ns k=Y:=⟨_,rfl⟩
     have z1:IntKind.i64.wrap ((X:Int)+(Y:Int))=((X+Y:Nat):Int):=by rw[IntKind.wrap_i64];omega
     rw[hY] at hst Hcall;clear hstep hle hbk hsm hA2 hY hB hnl hcell2 hX hX2;generalize va vs k=x at*;obtain⟨xg,xa,xn,xc,ya,yn,yc,za,zn,zc⟩:=x;dsimp only[NoV.c,NoV.k,NoV.p,NoV.v] at*;go_wp2_with fail;refine Hcall.out.mono ?_;rintro e w4 ⟨rfl,hb4⟩;have HB4:=zh (Hbk.out.trans (hb4.mono Hbk.out.size));clear hb4 Hcall Hbk;go_wp2
     go_roundw
     case rel=>exact⟨k+1,X+Y,by go_num,by go_num,by omega,hst,HB4⟩
     case measure=>simp[intOf];omega
    ·obtain rfl:k=m:=by omega
     have hfin:Hid (X=cNs es+ns.sum+1):=by
      show _=_;have h1:=hX.out;rw[List.take_of_length_le (by have:=Hl.out.2.2.2;have:=Hm.out;omega)] at h1;have:=HA.out;omega
     have HBf:=zh (HB3.out.trans (hB.out.mono HB3.out.size));clear hB hX;go_wp2;go_ret;exact⟨by rw[←hfin.out];rfl,HBf.out⟩
theorem KRow.vals {w:World}{h:Nat}{ks:List ByteArray}{lo hi:SB}{ps:List Nat}{ts:List Tr}(hr:KRow (z1f w h) ks lo hi ps ts):
  ∃vs:List NoV,vs.length=ps.length∧∀i,i<ps.length→NPv w (na ps i) (va vs i)∧NdVT w h (lob lo ks i) (hib hi ks i) (va vs i) (ta ts i)∧126≤(ta ts i).sz∧(ta ts i).sz≤504:=by
 have hl:=hr.len;have hex:∀k,k<ps.length→∃x:NoV,NPv w (na ps k) x∧NdVT w h (lob lo ks k) (hib hi ks k) x (ta ts k)∧126≤(ta ts k).sz∧(ta ts k).sz≤504:=fun k hk=>by
  obtain⟨h1,h2,h3⟩:z1f w h (lob lo ks k) (hib hi ks k) (na ps k) (ta ts k):=hr.kid (d:=default) (by omega);obtain⟨x,h4,h5⟩:=h1.val;exact⟨x,h4,h5,h2,h3⟩
 refine⟨(List.range ps.length).map (fun k=>if hk:k<ps.length then Classical.choose (hex k hk) else default),by simp,fun i hi=> ?_⟩;have e:va ((List.range ps.length).map (fun k=>if hk:k<ps.length then Classical.choose (hex k hk) else default)) i=Classical.choose (hex i hi):=by
  unfold va;simp[List.getD,hi]
 rw[e];exact Classical.choose_spec (hex i hi)
theorem q5i (ts:List Tr)(f:Tr→Nat)(i:Nat)(h:i<ts.length):na (ts.map f) i=f (ta ts i):=by
 unfold na ta;simp[List.getD,h]
theorem z9y:∀(ts:List Tr),z0j ts=(ts.map Tr.need).sum
 | []=>by simp[z0j]
 | t::r=>by rw[z0j,z9y r];simp
theorem z9z {ts:List Tr}{i:Nat}(h:i<ts.length):ta ts i∈ts:=by
 unfold ta;simp[List.getD,h]
theorem y28 {e:En}{t:Tr}:∀{ts:List Tr},t∈ts→e∈t.es→e∈esL ts
 | [],h,_=>by cases h
 | u::r,h,he=>by
  rw[esL]
  rcases List.mem_cons.1 h with rfl|h
  ·exact List.mem_append_left _ he
  ·exact List.mem_append_right _ (y28 h he)
theorem y5v {t:Tr}:∀{ts:List Tr},t∈ts→t.need≤z0j ts
 | [],h=>by cases h
 | u::r,h=>by
  rw[z0j]
  rcases List.mem_cons.1 h with rfl|h
  ·omega
  ·have:=y5v h;omega
theorem y9m:∀(h:Nat) {lo hi:SB} (v:NoV) (t:Tr) (w:World),NdVT w h lo hi v t→t.sz≤504→(∀e∈t.es,e.ch.length≤100000)→t.need≤1000000→
  Calls Tryz.prog 44 #[v.v] w fun e w'=>e=.returned (.int .i64 (t.need:Nat))∧Below w.heap.size w w'
 | h,lo,hi,v,t,w,hn,hz,hch,hnd=>by
  by_cases h0:v.pg=0
  ·cases h with
   | zero=>
    obtain⟨es,rfl,h1,h2,h3,_,_,h4⟩:=hn;rw[Tr.need,if_pos h0] at hnd⊢
    rw[Tr.es] at hch;simp only[Tr.sz] at hz;have hr:=z1q (fun x hx=>(h4 x hx).1);have:=y5u v es [] [] [] w h0 h3 (by unfold z0v at hz;omega) hch (fun e he=>(h4 e he).1.2) (by rw[h2];exact EV.none _) rfl (fun i hi=>by simp at hi) (by simp) rfl (by simpa using hnd) (fun i w' hi _=>by simp at hi)
    simpa using this
   | succ h=>
    obtain⟨ks,ps,ts,rfl,h1,h2,h3,hr⟩:=hn;rw[Tr.need,if_pos h0] at hnd⊢
    rw[Tr.es] at hch;simp only[Tr.sz] at hz;obtain⟨vs,hvl,hvs⟩:=hr.vals;have hl:=hr.len;have hkr:=z0y hr.factsT.2.2.2;rw[z9y] at hnd⊢
    have:=y5u v [] vs ps (ts.map Tr.need) w h0 (by rw[h1];exact CV.none _) (by simp) (fun e he=>by cases he) (fun e he=>by cases he) h3 hvl (fun i hi=>(hvs i hi).1) (by unfold brSz at hz;omega) (by rw[List.length_map];omega) (by simpa [cNs] using hnd) (fun i w' hi hb=>by
     rw[q5i ts Tr.need i (by omega)];obtain⟨g1,g2,g3,g4⟩:=hvs i hi;have hm:ta ts i∈ts:=z9z (by omega);exact y9m h (va vs i) (ta ts i) w' (g2.ext hb) g4 (fun e he=>hch e (y28 hm he)) (by have:=y5v hm;rw[z9y] at this;omega))
    simpa [cNs] using this
  ·rw[show t.need=0 from y42 t (by rw[hn.pg];exact h0)];exact q3g v w h0
theorem x1n (key v:ByteArray)(w:World):
  Calls Tryz.prog 61 #[.string key,.string v] w fun e w'=>e=.returned (.agg #[.string key,.string v,nilS])∧Below w.heap.size w w':=by
 go_enter Tryz.func61,Tryz.ntmps61
 go_wp2_with fail;refine bodyPost_ret (v:=.agg #[.string key,.string v,nilS]) (by rw[z0p rfl];go_simp) rfl ⟨rfl,?_⟩;exact(zbr _ _).alloc (zlr _) _
theorem x84 (w:World)(key v:ByteArray):CS (w.alloc (.cells #[.string key,.string v,nilS] TCT)) (some ⟨w.heap.size,0,none⟩) [⟨key,v,[]⟩]:=
 ⟨[⟨key,v,none,0,0⟩],ES.lit (E:=celE) (l:=[⟨key,v,none,0,0⟩]) (z0z w _ _),⟨rfl,rfl,EV.none _⟩,trivial⟩
end Go.Proofs.YtdgladhfibfdlaaGreatDoor
