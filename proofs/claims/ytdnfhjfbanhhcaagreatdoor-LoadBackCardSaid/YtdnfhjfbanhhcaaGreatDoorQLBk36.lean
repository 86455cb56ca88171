/-
  Steps.
-/
import Derived.Test.YtdnfhjfbanhhcaaGreatDoorQLBk35
namespace Go.Proofs.YtdnfhjfbanhhcaaGreatDoor
open Go Go.RowKit
theorem y9q:∀(a b:List En) (ps:List Nat),layC (a++b) ps=layC a ps++layC b (ps.drop (cNs a))
 | [],b,ps=>by simp[layC,cNs]
 | e::r,b,ps=>by rw[List.cons_append,layC,layC,y9q r b,List.drop_drop,cNs];rfl
theorem x5r:∀(a b:List En) (ps:List Nat),wrC (a++b) ps=wrC a ps++wrC b (ps.drop (cNs a))
 | [],b,ps=>by simp[wrC,cNs]
 | e::r,b,ps=>by rw[List.cons_append,wrC,wrC,x5r r b,List.drop_drop,cNs,List.append_assoc]
theorem z8q (cs:List En)(k:Nat)(h:k<cs.length):cNs (cs.take (k+1))=cNs (cs.take k)+cN (ea cs k):=by
 rw[z7b cs k h,z39];simp[cNs]
theorem y5x (cs:List En)(ps:List Nat)(k:Nat)(h:k<cs.length):layC (cs.take (k+1)) ps=layC (cs.take k) ps++[layE (ea cs k) (ps.drop (cNs (cs.take k)))]:=by
 rw[z7b cs k h,y9q];simp[layC]
theorem y9r (cs:List En)(ps:List Nat)(k:Nat)(h:k<cs.length):wrC (cs.take (k+1)) ps=wrC (cs.take k) ps++wrE (ea cs k) (ps.drop (cNs (cs.take k))):=by
 rw[z7b cs k h,x5r];simp[wrC]
theorem z95 (cs:List En)(k:Nat):cNs (cs.take k)≤cNs cs:=by
 have:=z39 (cs.take k) (cs.drop k);rw[List.take_append_drop] at this;omega
theorem q3e (e:En)(ps:List Nat):(wrE e ps).length=cN e:=by
 unfold wrE cN;split<;>simp
theorem y26:∀(cs:List En) (ps:List Nat),(wrC cs ps).length=cNs cs
 | [],_=>rfl
 | e::r,ps=>by rw[wrC,zla,q3e,y26 r,cNs]
def CeV (e:En):Prop:=(e.ch=[]∨64<e.v.size)∧∀p∈e.ch,2≤p∧p<1024
def CeW (e:En):Prop:=((e.v.size≤64∧e.ch=[])∨(64<e.v.size∧0<e.ch.length))∧∀p∈e.ch,2≤p∧p<1024
theorem q0r {e:En}{ps:List Nat}(h:CeV e)(hl:cN e≤ps.length)(hp:∀p∈ps,2≤p∧p<1024):CeW (layE e ps):=by
 unfold layE
 by_cases h1:z3s e=true
 ·have h2:=h1;unfold z3s at h2;simp only[Bool.and_eq_true,decide_eq_true_iff] at h2;unfold cN at hl;rw[if_pos h1] at hl⊢
  have h3:0<nP e.v.size:=y6o.2 (by omega);exact⟨.inr ⟨h2.1,by simp only[List.length_reverse,zlk];omega⟩,fun p hq=>hp p (List.mem_of_mem_take (List.mem_reverse.1 hq))⟩
 ·rw[if_neg h1];refine⟨?_,h.2⟩
  rcases zng 64 e.v.size with h2|h2
  ·refine .inr ⟨h2,?_⟩;unfold z3s at h1;simp only[Bool.and_eq_true,decide_eq_true_iff,not_and] at h1;have:=h1 h2;omega
  ·refine .inl ⟨h2,?_⟩
   rcases h.1 with h3|h3
   ·exact h3
   ·omega
theorem q0s:∀(cs:List En) (ps:List Nat),(∀e∈cs,CeV e)→cNs cs≤ps.length→(∀p∈ps,2≤p∧p<1024)→∀e∈layC cs ps,CeW e
 | [],_,_,_,_,e,he=>by cases he
 | c::r,ps,h,hl,hp,e,he=>by
  rw[cNs] at hl;rw[layC] at he
  rcases List.mem_cons.1 he with rfl|he
  ·exact q0r (h c (by simp)) (by omega) hp
  ·exact q0s r _ (fun e he=>h e (by simp[he])) (by rw[zld];omega) (fun p hq=>hp p (List.mem_of_mem_drop hq)) e he
theorem x5s {e:En}(h:okE e)(hl:CeW e):mayB (cE e)=true:=by
 obtain⟨hl,hr⟩:=hl;unfold cE mayB
 rcases hl with ⟨h1,_⟩|⟨h1,h4⟩
 ·rw[if_neg (by omega)];simp only;rw[h.1,zdt (show(e.v.size:Int)≤2048 by have:=h.2;omega)];unfold plB;rw[if_pos (show((e.v.size:Int))≤64 by omega)];simp
 ·rw[if_pos h1];simp only;have h3:=h.2;rw[h.1,zdt (show(e.v.size:Int)≤2048 by omega)];unfold plB;rw[if_neg (show¬((e.v.size:Int))≤64 by omega)];have h5:=hr _ (z4f h4);have h6:(ByteArray.empty).size=0:=rfl;simp only[Bool.true_and];exact zdt ⟨h6,by omega,by omega⟩
theorem z60:∀(es:List En),(∀e∈es,okE e∧CeW e)→(body (es.map cE)).length=szs es
 | [],_=>rfl
 | e::r,h=>by
  have h1:=h e (by simp);rw[List.map_cons,body,zla,y1v (x5s h1.1 h1.2),z60 r (fun x hx=>h x (by simp[hx])),y19,cE_k,cE_n]
  rfl
theorem y27 (es:List En)(h:∀e∈es,okE e∧CeW e):(z10 (es.map cE)).length=z0s es:=by
 rw[z6d,z60 es h,List.length_map];rfl
theorem x5t {es:List En}(h:∀e∈es,okE e∧CeW e):z2k (es.map cE):=fun i hi=>by
 rw[List.length_map] at hi;rw[y89 es i hi];have h1:=h _ (z4e hi);exact x5s h1.1 h1.2
theorem y7n (e:En)(ps:List Nat):(layE e ps).k=e.k∧(layE e ps).v=e.v:=by unfold layE;split<;>exact⟨rfl,rfl⟩
theorem x5u:∀(cs:List En) (ps:List Nat),(∀e∈cs,okE e)→∀e∈layC cs ps,okE e
 | [],_,_,e,he=>by cases he
 | c::r,ps,h,e,he=>by
  rw[layC] at he
  rcases List.mem_cons.1 he with rfl|he
  ·have:=y7n c ps;have h1:=h c (by simp);unfold okE at*;rw[this.1,this.2];exact h1
  ·exact x5u r _ (fun e he=>h e (by simp[he])) e he
theorem y9s {cs:List En}{ps:List Nat}(h:srt cs):srt (layC cs ps):=by
 have h1:=x7s h;rw[←z4r cs ps] at h1;unfold srt bare at h1;rw[List.pairwise_map] at h1;exact h1
theorem y7o (cs:List En)(ps:List Nat):z0s (layC cs ps)=z0s cs:=by
 rw[←z33,z4r,z33]
theorem y9t:∀(cs:List En) (ps:List Nat),(∀e∈cs,okE e)→(∀e∈cs,e.ch.length≤100000)→∀e∈layC cs ps,e.ch.length≤100000
 | [],_,_,_,e,he=>by cases he
 | c::r,ps,h,hl,e,he=>by
  rw[layC] at he
  rcases List.mem_cons.1 he with rfl|he
  ·have h1:=(h c (by simp)).2;have h2:=hl c (by simp);unfold layE;split
   ·simp only[List.length_reverse,zlk];unfold nP;omega
   ·exact h2
  ·exact y9t r _ (fun e he=>h e (by simp[he])) (fun e he=>hl e (by simp[he])) e he
def put3 (w:World)(g i:Nat)(x0 x1 x2:Value):World:=((w.setCell ⟨g,i,none⟩ x0).setCell ⟨g,i+1,none⟩ x1).setCell ⟨g,i+2,none⟩ x2
theorem x5v:∀(xs:List Rw) (j:Nat) (y:Rw),j<xs.length→celE.row (xs.set j y)=(((celE.row xs).set (j*3) (.string y.k)).set (j*3+1) (.string y.v)).set (j*3+2) (.slice y.a y.n y.c)
 | [],j,_,h=>by simp at h
 | x::r,0,y,_=>rfl
 | x::r,j+1,y,h=>by
  have e1:(x::r).set (j+1) y=x::r.set j y:=rfl;rw[e1,Elt.row,Elt.row,x5v r j y (by simpa using h)];have e2:celE.enc x=[.string x.k,.string x.v,.slice x.a x.n x.c]:=rfl;rw[e2,show(j+1)*3+2=(j*3+2)+3 by omega,show(j+1)*3+1=(j*3+1)+3 by omega,show(j+1)*3=(j*3)+3 by omega]
  rfl
theorem x5w (w:World)(g i:Nat)(x0 x1 x2:Value):Turn (fun b=>b=g) w (put3 w g i x0 x1 x2):=
 (((Turn.refl (fun b=>b=g) w).setCell (p:=⟨g,i,none⟩) _ (fun _=>rfl)).setCell (p:=⟨g,i+1,none⟩) _ (fun _=>rfl)).setCell (p:=⟨g,i+2,none⟩) _ (fun _=>rfl)
theorem x9e {w:World}{B g c:Nat}{xs:List Rw}(j:Nat)(y:Rw)(hj:j<xs.length)(h:w.ownsRow B TCT celE.sz (.slice (some ⟨g,0,none⟩) xs.length c) xs.length (celE.row xs)):
  (put3 w g (j*3) (.string y.k) (.string y.v) (.slice y.a y.n y.c)).ownsRow B TCT celE.sz (.slice (some ⟨g,0,none⟩) (xs.set j y).length c) (xs.set j y).length (celE.row (xs.set j y)):=by
 rw[List.length_set];refine⟨by rw[Elt.row_len,List.length_set],?_⟩
 rcases h.2 with ⟨h1,_⟩|⟨g',cap,cur,hv,hbg,hg,hnc,hcm,hcs,ht⟩
 ·cases h1
 ·simp only[Value.slice.injEq,Option.some.injEq,Addr.mk.injEq,and_true,true_and] at hv;obtain⟨rfl,rfl⟩:=hv;have h1:=heap_setCell_same w g (j*3) cur TCT (.string y.k) hg;have h2:=heap_setCell_same _ g (j*3+1) _ TCT (.string y.v) h1;have h3:=heap_setCell_same _ g (j*3+2) _ TCT (.slice y.a y.n y.c) h2;refine .inr ⟨g,c,_,rfl,hbg,h3,hnc,hcm,by simpa using hcs,?_⟩;rw[x5v xs j y hj,←ht];simp[List.take_set]
def LFu (w:World)(gl B:Nat)(u:Value)(i:Nat):Prop:=LF w gl B i∨u.ownBlock=some i
theorem LFu.trans {w w1 w2:World}{gl B:Nat}{u:Value}(h:Turn (LFu w gl B u) w w1)(k:Turn (LF w1 gl B) w1 w2):Turn (LFu w gl B u) w w2:=h.step k (fun i hi hl=>by
 rcases hi with rfl|⟨hB,A,fz,h2⟩
 ·exact .inl (.inl rfl)
 ·by_cases hF:LFu w gl B u i
  ·exact hF
  ·exact .inl (.inr ⟨hB,A,fz,(h.block i hl hF).symm.trans h2⟩))
structure LvI (w W:World) (gl B B':Nat) (u vn:Value) (cs:List En) (ps:List Nat) (ws:List PgW) (j k:Nat):Prop where
 ly:LyI W gl B (ps.drop (cNs (cs.take j))) (ws++wrC (cs.take j) ps)
 oc:OC W B' u (layC (cs.take j) ps++cs.drop j)
 nm:W.ownsRow w.heap.size CT 4 vn k (cvs ((layC (cs.take k) ps).map cE))
 lt:Turn (LFu w gl B u) w W
 rs:W.heap[w.heap.size]? =some (.cells #[.int .i64 0,nilS,nilS,nilS] VT (0,0))
theorem LvI.ext {w W W':World}{gl B B':Nat}{u vn:Value}{cs:List En}{ps:List Nat}{ws:List PgW}{j k:Nat}(h:LvI w W gl B B' u vn cs ps ws j k)(hb:Below W.heap.size W W'):LvI w W' gl B B' u vn cs ps ws j k:=
 ⟨h.ly.ext hb,h.oc.below hb (zlr _),z0p h.nm hb (zlr _),h.lt.trans (q5w hb),(hb.block _ (zag.1 h.rs).1).trans h.rs⟩
section
variable {w W W':World} {gl B B':Nat} {u vn:Value} {cs:List En} {ps:List Nat} {ws:List PgW} {j k:Nat}
theorem y7p (cs:List En)(ps:List Nat)(j:Nat)(h:j<cs.length):ea (layC (cs.take j) ps++cs.drop j) j=ea cs j∧(layC (cs.take j) ps++cs.drop j).length=cs.length:=by
 have h1:(layC (cs.take j) ps).length=j:=by rw[z34,zlk];omega
 constructor
 ·have:=y4d (layC (cs.take j) ps) (cs.drop j) 0;rw[h1] at this;rw[show j+0=j from rfl] at this;rw[this,y17 cs j h];rfl
 ·rw[zla,h1,zld];omega
theorem x5x (cs:List En)(ps:List Nat)(j:Nat)(h:j<cs.length):(layC (cs.take j) ps++cs.drop j).set j (layE (ea cs j) (ps.drop (cNs (cs.take j))))=layC (cs.take (j+1)) ps++cs.drop (j+1):=by
 have h1:(layC (cs.take j) ps).length=j:=by rw[z34,zlk];omega
 rw[y5x cs ps j h,List.set_append_right _ _ (by omega),h1,Nat.sub_self,y17 cs j h];simp
theorem LvI.stay (h:LvI w W gl B B' u vn cs ps ws j k)(hj:j<cs.length)(hw:z3s (ea cs j)=false):LvI w W gl B B' u vn cs ps ws (j+1) k:=by
 have e1:cN (ea cs j)=0:=by unfold cN;rw[hw];rfl
 have e2:wrE (ea cs j) (ps.drop (cNs (cs.take j)))=[]:=by unfold wrE;rw[hw];rfl
 have e3:layE (ea cs j) (ps.drop (cNs (cs.take j)))=ea cs j:=by unfold layE;rw[hw];rfl
 refine⟨?_,?_,h.nm,h.lt,h.rs⟩
 ·rw[z8q cs j hj,e1,y9r cs ps j hj,e2,List.append_nil];exact h.ly
 ·have h3:=x5x cs ps j hj;rw[e3] at h3;have h4:=(y7p cs ps j hj)
  rw[←h3];have h5:=q0m (layC (cs.take j) ps++cs.drop j) j (by rw[h4.2];exact hj);rw[h4.1] at h5;rw[h5];exact h.oc
theorem LvI.named (h:LvI w W gl B B' u vn cs ps ws j k)(hBw:B≤w.heap.size){v':Value}(hg:W.grownBy W' vn.ownBlock)(ho:W'.ownsRow w.heap.size CT 4 v' (k+1) (cvs ((layC (cs.take (k+1)) ps).map cE))):LvI w W' gl B B' u v' cs ps ws j (k+1):=by
 have t:Turn (fun i=>vn.ownBlock=some i) W W':=⟨hg.os,hg.tape,hg.output,hg.size,fun i hi hne=>hg.block i hi (fun e=>hne e.symm)⟩
 have hT:=TyF.own h.nm;refine⟨h.ly.tz t (fun i hi=>⟨by have:=(h.nm.lt i hi).1;omega,by
  obtain⟨A,fz,h1⟩:=hT i hi;exact⟨A,CT,fz,h1,by decide,by decide⟩⟩),h.oc.tur t hT rfl (by decide),ho,h.lt.step t (fun i hi hl=>by have:=(h.nm.lt i hi).1;omega),t.hg h.rs (hT.not h.rs (by decide))⟩
set_option maxHeartbeats 400000 in
/-- A cell's value was laid.-/
theorem LvI.laid {gb n c0 t7:Nat}{a':Option Addr}{m' c':Nat}{W3:World}{x2:Value}(h:LvI w W gl B B' (.slice (some ⟨gb,0,none⟩) n c0) vn cs ps ws j k)(hBw:B≤w.heap.size)(hBB:B≤B')(hn:cs.length=n)(hj:j<n)(hw:z3s (ea cs j)=true)
  (h3:LyI W3 gl B ((ps.drop (cNs (cs.take j))).drop (nP (ea cs j).v.size)) ((ws++wrC (cs.take j) ps)++(List.range (nP (ea cs j).v.size)).map (pcW (ea cs j).v (ps.drop (cNs (cs.take j))) (nP (ea cs j).v.size)))) (t:Turn (LF W gl B) W W3)
  (hev:EV pgE W3 (.slice a' m' c') ((ps.drop (cNs (cs.take j))).take (nP (ea cs j).v.size)).reverse)
  (h7:W.heap[t7]? =some (.cells #[.string (ea cs j).k,.string (ea cs j).v,x2] TCT (0,0))) (hw7:w.heap.size≤t7) (hne:gb≠t7):
  (W3.heap[t7]? =some (.cells #[.string (ea cs j).k,.string (ea cs j).v,x2] TCT (0,0)))∧
  ((W3.setCell ⟨t7,2,none⟩ (.slice a' m' c')).heap[t7]? =some (.cells #[.string (ea cs j).k,.string (ea cs j).v,.slice a' m' c'] TCT (0,0)))∧
  ((W3.setCell ⟨t7,2,none⟩ (.slice a' m' c')).cell? ⟨gb,j*3,none⟩=some (.string (ea cs j).k)∧(W3.setCell ⟨t7,2,none⟩ (.slice a' m' c')).cell? ⟨gb,j*3+1,none⟩=some (.string (ea cs j).v)∧(∃v,(W3.setCell ⟨t7,2,none⟩ (.slice a' m' c')).cell? ⟨gb,j*3+2,none⟩=some v)∧∀i,(W3.setCell ⟨t7,2,none⟩ (.slice a' m' c')).frozen? ⟨gb,i,none⟩=false)∧
  ((put3 (W3.setCell ⟨t7,2,none⟩ (.slice a' m' c')) gb (j*3) (.string (ea cs j).k) (.string (ea cs j).v) (.slice a' m' c')).heap[t7]? =some (.cells #[.string (ea cs j).k,.string (ea cs j).v,.slice a' m' c'] TCT (0,0)))∧
  EV pgE (put3 (W3.setCell ⟨t7,2,none⟩ (.slice a' m' c')) gb (j*3) (.string (ea cs j).k) (.string (ea cs j).v) (.slice a' m' c')) (.slice a' m' c') (layE (ea cs j) (ps.drop (cNs (cs.take j)))).ch∧
  LvI w (put3 (W3.setCell ⟨t7,2,none⟩ (.slice a' m' c')) gb (j*3) (.string (ea cs j).k) (.string (ea cs j).v) (.slice a' m' c')) gl B B' (.slice (some ⟨gb,0,none⟩) n c0) vn cs ps ws (j+1) k:=by
 have hjl:j<cs.length:=by omega
 have e1:cN (ea cs j)=nP (ea cs j).v.size:=by unfold cN;rw[if_pos hw]
 have e2:wrE (ea cs j) (ps.drop (cNs (cs.take j)))=(List.range (nP (ea cs j).v.size)).map (pcW (ea cs j).v (ps.drop (cNs (cs.take j))) (nP (ea cs j).v.size)):=by unfold wrE;rw[if_pos hw]
 have e3:layE (ea cs j) (ps.drop (cNs (cs.take j)))=⟨(ea cs j).k,(ea cs j).v,((ps.drop (cNs (cs.take j))).take (nP (ea cs j).v.size)).reverse⟩:=by unfold layE;rw[if_pos hw]
 have e4:cNs (cs.take (j+1))=cNs (cs.take j)+nP (ea cs j).v.size:=by rw[z8q cs j hjl,e1]
 have e5:wrC (cs.take (j+1)) ps=wrC (cs.take j) ps++(List.range (nP (ea cs j).v.size)).map (pcW (ea cs j).v (ps.drop (cNs (cs.take j))) (nP (ea cs j).v.size)):=by rw[y9r cs ps j hjl,e2]
 have e6:=x5x cs ps j hjl;have e7:=y7p cs ps j hjl;rw[e3] at e6⊢
 rw[List.drop_drop,←e4,List.append_assoc,←e5] at h3;generalize ((ps.drop (cNs (cs.take j))).take (nP (ea cs j).v.size)).reverse=CH at*;generalize ea cs j=e at*;have g7:=h.ly.hg t h7;have hoc3:=h.oc.lay h.ly t;have hnm3:=h.ly.own t h.nm;have hrs3:=h.ly.hg t h.rs;have hlt3:=LFu.trans h.lt t;have ht4:Turn (fun i=>i=t7) W3 (W3.setCell ⟨t7,2,none⟩ (.slice a' m' c')):=(Turn.refl _ W3).setCell (p:=⟨t7,2,none⟩) _ (fun _=>rfl);have hT4:TyF W3 (fun i=>i=t7) TCT:=TyF.one g7;have g74:(W3.setCell ⟨t7,2,none⟩ (.slice a' m' c')).heap[t7]? =some (.cells #[.string e.k,.string e.v,.slice a' m' c'] TCT (0,0)):=by
  have:=heap_setCell_same W3 t7 2 _ TCT (.slice a' m' c') g7
  simpa using this
 obtain⟨ys,hown3,hrw3⟩:=hoc3;have hyl:=hrw3.len;rw[e7.2,hn] at hyl;have hown4:(W3.setCell ⟨t7,2,none⟩ (.slice a' m' c')).ownsRow B' TCT celE.sz (.slice (some ⟨gb,0,none⟩) ys.length c0) ys.length (celE.row ys):=by
  have h1:W3.ownsRow B' TCT celE.sz (.slice (some ⟨gb,0,none⟩) ys.length c0) ys.length (celE.row ys):=by rw[hyl] at hown3⊢;exact hown3
  refine⟨h1.1,?_⟩
  rcases h1.2 with h2|⟨b,cap,cur,hv,hb,hgb,h2⟩
  ·exact .inl h2
  ·refine .inr ⟨b,cap,cur,hv,hb,ht4.hg hgb (fun e=> ?_),h2⟩;injection hv with hv _ _
   injection hv with hv
   injection hv with hv _ _
   exact hne (hv.trans e)
 have hrw4:RW (W3.setCell ⟨t7,2,none⟩ (.slice a' m' c')) ys _:=hrw3.tur ht4 hT4 rfl;have hly4:=h3.tz ht4 (fun i hi=>by
  obtain rfl:i=t7:=hi;exact⟨by omega,_,_,_,g7,by decide,by decide⟩)
 have hnm4:=z17 hnm3 ht4 hT4 (by decide);have hrs4:=ht4.hg hrs3 (hT4.not hrs3 (by decide));have hlt4:=hlt3.step ht4 (fun i hi hl=>by
  obtain rfl:i=t7:=hi;omega)
 have hev4:=hev.tur ht4 hT4 rfl;obtain⟨⟨r0,r1,r2⟩,hfz,hBg,A,hgA⟩:=y7j j (by omega) hown4;obtain⟨y1,y2,y3⟩:=hrw4.at (i:=j) (by omega);rw[e7.1] at y1 y2;have y1':(xa ys j).k=e.k:=y1;have y2':(xa ys j).v=e.v:=y2;rw[y1'] at r0;rw[y2'] at r1;refine⟨g7,g74,⟨r0,r1,⟨_,r2⟩,hfz⟩,?_⟩;have hown5:=x9e j ⟨e.k,e.v,a',m',c'⟩ (by omega) hown4;have ht5:=x5w (W3.setCell ⟨t7,2,none⟩ (.slice a' m' c')) gb (j*3) (.string e.k) (.string e.v) (.slice a' m' c');have hT5:TyF (W3.setCell ⟨t7,2,none⟩ (.slice a' m' c')) (fun i=>i=gb) TCT:=TyF.one hgA;dsimp only at hown5;generalize put3 (W3.setCell ⟨t7,2,none⟩ (.slice a' m' c')) gb (j*3) (.string e.k) (.string e.v) (.slice a' m' c')=W5 at*;generalize W3.setCell ⟨t7,2,none⟩ (.slice a' m' c')=W4 at*;have hev5:=hev4.tur ht5 hT5 rfl;refine⟨ht5.hg g74 (fun e=>hne e.symm),hev5,⟨?_,?_,z17 hnm4 ht5 hT5 (by decide),?_,ht5.hg hrs4 (hT5.not hrs4 (by decide))⟩⟩
 ·refine hly4.tz ht5 (fun i hi=> ?_);obtain rfl:i=gb:=hi;exact⟨by omega,_,_,_,hgA,by decide,by decide⟩
 ·rw[←e6];refine⟨_,?_,(hrw4.tur ht5 hT5 rfl).put (i:=j) (y:=⟨e.k,e.v,a',m',c'⟩) ⟨rfl,rfl,hev5⟩ (by omega)⟩;rw[List.length_set,hyl] at hown5⊢
  exact hown5
 ·exact hlt4.step ht5 (fun i hi hl=>by
   obtain rfl:i=gb:=hi;exact .inr rfl)
end
set_option maxRecDepth 100000 in
theorem y7q (gl B B':Nat)(u:Value)(cs:List En)(ps:List Nat)(ws:List PgW)(w:World)(hI:LyI w gl B ps ws)(hu:OC w B' u cs)(hB':B≤B')(hcs:srt cs)(hok:∀e∈cs,okE e)(hcv:∀e∈cs,CeV e)
  (hchl:∀e∈cs,e.ch.length≤100000) (hsz:z0s cs≤504) (hnd:cNs cs+1≤ps.length) (hpb:∀x∈ps,2≤x∧x<1024) (hwl:ws.length+cNs cs≤50000):
  Calls Tryz.prog 54 #[pt gl,u] w fun e w'=>∃x:NoV,e=.returned x.v∧x.pg=na ps (cNs cs)∧OCk w' w.heap.size x.c (layC cs ps) (layC cs ps).length∧x.k=nilS∧x.p=nilS∧LyI w' gl B (ps.drop (cNs cs+1)) (ws++(wrC cs ps++[(na ps (cNs cs),z1l 1 (z10 ((layC cs ps).map cE)))]))∧Turn (LFu w gl B u) w w':=by
 have hn1:cs.length≤504:=by
  have:=z1i (fun x hx=>hok x hx);unfold z0s at hsz;omega
 obtain⟨W,hW,hT,hb⟩:=z0b w VT #[.int .i64 0,nilS,nilS,nilS];have hlv:LvI w W gl B B' u nilS cs ps ws 0 0:=
  ⟨by simp only[List.take_zero,cNs,List.drop_zero,wrC,List.append_nil];exact hI.ext hb,by simp only[List.take_zero,layC,List.drop_zero,List.nil_append];exact hu.below hb (zlr _),World.ownsRow_nil _ _ _ _,q5w hb,hT⟩
 obtain⟨a0,c0,rfl⟩:=hu.form;have HW:=zh hW;have HLv:=zh hlv;have HC:=zh (zai hB' (zai hcs (zai hok (zai hcv (zai hchl (zai hsz (zai hnd (zai hpb (zai hwl hI.bz)))))))));obtain⟨n,hn⟩:∃n,cs.length=n:=⟨_,rfl⟩
 have Hn:=zh hn;rw[hn] at hn1 HLv⊢
 clear hI hu hB' hcs hok hcv hchl hsz hnd hpb hwl hW hT hb hlv hn
 go_enter Tryz.func54,Tryz.ntmps54
 go_wp2_with fail;rw[HW.out]
 go_loopw [5,12] (fun vn i wr=>∃(k:Nat) (v:Value),v=vn∧i=.int .i64 k∧k≤n∧Hid (LvI w wr gl B B' (.slice a0 n c0) v cs ps ws k k)) (fun _ i _=>n-(intOf i).toNat)
 case atStart=>exact⟨0,nilS,rfl,rfl,by omega,HLv⟩
 case round=>
  obtain⟨k,vn,rfl,rfl,hk,hlv⟩:=hrel
  by_cases hlt:k<n
  ·have hkl:k<cs.length:=by rw[Hn.out];exact hlt
   have hmid:=y7p cs ps k hkl;obtain⟨gb,c2,hgb⟩:=hlv.out.oc.lit (by rw[hmid.2];omega);obtain⟨rfl,rfl⟩:a0=some ⟨gb,0,none⟩∧c0=c2:=by
    injection hgb with h1 h2 h3
    exact⟨h1,h3⟩
   obtain⟨ys,hown,hrw⟩:=hlv.out.oc;have hyl:=hrw.len;rw[hmid.2,Hn.out] at hyl;have hown':wr.ownsRow B' TCT celE.sz (.slice (some ⟨gb,0,none⟩) ys.length c0) ys.length (celE.row ys):=by rw[hyl] at hown⊢;exact hown
   obtain⟨⟨r0,r1,r2⟩,hfz,hBg,A,hg⟩:=y7j k (by omega) hown';obtain⟨y1,y2,a',c',y3,y4⟩:=hrw.at (i:=k) (by omega);rw[hmid.1] at y1 y2 y3 y4;have y1':(xa ys k).k=(ea cs k).k:=y1;have y2':(xa ys k).v=(ea cs k).v:=y2;have y3':(xa ys k).sl=.slice a' (ea cs k).ch.length c':=y3;rw[y1'] at r0;rw[y2'] at r1;rw[y3'] at r2;have lg:gb<wr.heap.size:=(zag.1 hg).1;have Hev:Hid (EV pgE wr (.slice a' (ea cs k).ch.length c') (ea cs k).ch):=⟨_,_,rfl,y4⟩
   have hba:Below wr.heap.size wr (wr.alloc (.cells #[.string (ea cs k).k,.string (ea cs k).v,.slice a' (ea cs k).ch.length c'] TCT)):=(zbr _ _).alloc (zlr _) _;have h7:(wr.alloc (.cells #[.string (ea cs k).k,.string (ea cs k).v,.slice a' (ea cs k).ch.length c'] TCT)).heap[wr.heap.size]? =some (.cells #[.string (ea cs k).k,.string (ea cs k).v,.slice a' (ea cs k).ch.length c'] TCT (0,0)):=z0h _ _ _;have Hlv1:=zh (hlv.out.ext hba);have Hev1:=zh (Hev.out.below hba (zlr _));have H7:=zh h7;have hwz:=hlv.out.lt.size;have Hwz:Hid (w.heap.size≤wr.heap.size):=hwz;have Hne:Hid (gb≠wr.heap.size):=by show gb≠_;omega
   clear hgb hown hrw hyl hown' hfz hBg hg y1 y2 y3 y4 y1' y2' y3' hlv Hev hba h7 hmid lg hwz hkl;obtain⟨e,he⟩:∃e,ea cs k=e:=⟨_,rfl⟩
   have He:=zh he;rw[he] at r0 r1 r2 Hev1 H7;obtain⟨m,hm⟩:∃m,e.ch.length=m:=⟨_,rfl⟩
   have Hm:=zh hm;rw[hm] at r2 Hev1 H7;rw[he,hm] at Hlv1;clear he hm;go_wp2_with fail;clear r0 r1 r2;generalize hw1:wr.alloc (.cells #[.string e.k,.string e.v,.slice a' m c'] TCT)=w1 at*;generalize ht7:wr.heap.size=t7 at*;clear hw1 ht7;refine(y5q e.k e.v a' m c' w1).mono ?_;rintro r w2 ⟨rfl,hb2⟩;have hlv2:=zh (Hlv1.out.ext hb2);have hev2:=zh (Hev1.out.ext hb2);have h72:=zh ((hb2.block _ (zag.1 H7.out).1).trans H7.out);obtain⟨D,hD⟩:∃D,(decide (64<e.v.size)&&decide (m=0))=D:=⟨_,rfl⟩
   have HD:Hid (z3s e=D):=by show _=_;unfold z3s;rw[Hm.out];exact hD
   rw[hD];clear hb2 Hlv1 Hev1 H7 hD
   go_upto_if 18 with fail
   go_cut [] (fun wx=>∃(a2:Option Addr) (m2 c2:Nat),Hid (wx.heap[t7]? =some (.cells #[.string e.k,.string e.v,.slice a2 m2 c2] TCT (0,0)))∧Hid (EV pgE wx (.slice a2 m2 c2) (layE e (ps.drop (cNs (cs.take k)))).ch)∧Hid (LvI w wx gl B B' (.slice (some ⟨gb,0,none⟩) n c0) vn cs ps ws (k+1) k))
   case first=>
    cases D with
    | false=>
     have hfin:Hid (EV pgE w2 (.slice a' m c') (layE e (ps.drop (cNs (cs.take k)))).ch):=by
      have e3:layE e (ps.drop (cNs (cs.take k)))=e:=by unfold layE;rw[HD.out];rfl
      rw[e3];exact hev2.out
     have hst:Hid (LvI w w2 gl B B' (.slice (some ⟨gb,0,none⟩) n c0) vn cs ps ws (k+1) k):=hlv2.out.stay (by rw[Hn.out];exact hlt) (by rw[He.out];exact HD.out);go_wp2;go_meet;exact⟨a',m,c',h72,hfin,hst⟩
    | true=>
     have h64:64<e.v.size:=by
      have h:=HD.out;unfold z3s at h;simp only[Bool.and_eq_true,decide_eq_true_iff] at h;exact h.1
     have hkl:k<cs.length:=by rw[Hn.out];exact hlt
     obtain⟨hBB,_,hok,_,_,_,hnd,hpb,hwl,hBw⟩:=HC.out;have hvs:=(hok (ea cs k) (z4e hkl)).2;rw[He.out] at hvs;have hst:=z8q cs k hkl;have hle:=z95 cs (k+1);have hcn:cN (ea cs k)=nP e.v.size:=by unfold cN;rw[He.out,HD.out];rfl
     have q1:w2.cell? ⟨t7,1,none⟩=some (.string e.v):=by have h:=h72.out;simp[World.cell?,h]
     have hC:=zh (x5q gl B e.v (ps.drop (cNs (cs.take k))) (ws++wrC (cs.take k) ps) w2 hlv2.out.ly h64 (by omega) (by rw[zld];omega) (fun x hx=>hpb x (List.mem_of_mem_drop hx)) (by rw[zla,y26];omega));clear h64 hkl hok hnd hpb hwl hvs hst hle hcn;go_wp2_with fail;refine hC.out.mono ?_;rintro r w3 ⟨u3,rfl,hev3,hly3,ht3⟩;obtain⟨a3,c3,rfl,hs3⟩:=hev3;have hev3:EV pgE w3 (.slice a3 ((ps.drop (cNs (cs.take k))).take (nP e.v.size)).reverse.length c3) ((ps.drop (cNs (cs.take k))).take (nP e.v.size)).reverse:=⟨a3,c3,rfl,hs3⟩
     obtain⟨m3,hm3⟩:∃m,((ps.drop (cNs (cs.take k))).take (nP e.v.size)).reverse.length=m:=⟨_,rfl⟩
     rw[hm3] at hev3⊢
     have hld:=LvI.laid (t7:=t7) (x2:=.slice a' m c') hlv2.out hBw hBB Hn.out hlt (by rw[He.out];exact HD.out) (by rw[He.out];exact hly3) ht3 (by rw[He.out];exact hev3) (by rw[He.out];exact h72.out) Hwz.out Hne.out;rw[He.out] at hld;obtain⟨z7,z74,⟨z0,z1,⟨z2v,z2⟩,zf⟩,z75,zev,zlv⟩:=hld;have s2:w3.cell? ⟨t7,2,none⟩=some (.slice a' m c'):=by simp[World.cell?,z7]
     have f2:w3.frozen? ⟨t7,2,none⟩=false:=by simp[World.frozen?,z7]
     have k0:(w3.setCell ⟨t7,2,none⟩ (.slice a3 m3 c3)).cell? ⟨t7,0,none⟩=some (.string e.k):=by simp[World.cell?,z74]
     have k1:(w3.setCell ⟨t7,2,none⟩ (.slice a3 m3 c3)).cell? ⟨t7,1,none⟩=some (.string e.v):=by simp[World.cell?,z74]
     have k2:(w3.setCell ⟨t7,2,none⟩ (.slice a3 m3 c3)).cell? ⟨t7,2,none⟩=some (.slice a3 m3 c3):=by simp[World.cell?,z74]
     have zf0:=zf (k*3);have zf1:=zf (k*3+1);have zf2:=zf (k*3+2);have Hfin:=zh (zai z75 (zai zev zlv));clear z7 z74 zf z75 zev zlv hev3 hly3 ht3 hs3 hm3 hC q1 h72 hev2 hlv2;go_wp2_with fail;go_meet;exact⟨a3,m3,c3,Hfin.out.1,Hfin.out.2.1,Hfin.out.2.2⟩
   case rest=>
    obtain⟨a2,m2,c2,h7x,hevx,hlvx⟩:=hcut;have hkl:k<cs.length:=by rw[Hn.out];exact hlt
    obtain⟨hBB,_,_,hcv,_,_,hnd,hpb,_,hBw⟩:=HC.out;have hle:=z95 cs (k+1);have hst:=z8q cs k hkl;have hw:=q0r (ps:=ps.drop (cNs (cs.take k))) (hcv (ea cs k) (z4e hkl)) (by rw[zld];omega) (fun x hx=>hpb x (List.mem_of_mem_drop hx));have hls:=y5x cs ps k hkl;rw[He.out] at hw hls;have hkv:=y7n e (ps.drop (cNs (cs.take k)));obtain⟨e',he'⟩:∃e',layE e (ps.drop (cNs (cs.take k)))=e':=⟨_,rfl⟩
    rw[he'] at hw hkv hevx hls;rw[←hkv.1,←hkv.2] at h7x;have hm2:m2=e'.ch.length:=by
     obtain⟨_,_,hh,_⟩:=hevx.out;injection hh
    have hl0:64<e'.v.size→0<e'.ch.length:=fun h=>by
     rcases hw.1 with h1|h1
     ·omega
     ·exact h1.2
    have hco:=zh (y7l e' a2 c2 wc (by rw[←hm2];exact hevx.out) hl0);rw[←hm2] at hco;have q0:wc.cell? ⟨t7,0,none⟩=some (.string e'.k):=by have h:=h7x.out;simp[World.cell?,h]
    have q1:wc.cell? ⟨t7,1,none⟩=some (.string e'.v):=by have h:=h7x.out;simp[World.cell?,h]
    have q2:wc.cell? ⟨t7,2,none⟩=some (.slice a2 m2 c2):=by have h:=h7x.out;simp[World.cell?,h]
    obtain⟨C,hC⟩:∃C,cE e'=C:=⟨_,rfl⟩
    rw[hC] at hco;have Hls:Hid ((layC (cs.take (k+1)) ps).map cE=(layC (cs.take k) ps).map cE++[C]):=by show _=_;rw[hls,List.map_append,List.map_cons,List.map_nil,hC]
    have hlk:((layC (cs.take k) ps).map cE).length=k:=by rw[List.length_map,z34,zlk];omega
    have Hlk:=zh hlk;clear hcv hnd hpb hle hst hw hls hkv he' hm2 hl0 hC hkl h7x hevx hlk HD;go_wp2_with fail;refine hco.out.mono ?_;rintro r w7 ⟨rfl,hb7⟩;have hlv7:=zh (hlvx.out.ext hb7);have hnew:=zh (x42 w7 CT C);have hwz7:w.heap.size≤w7.heap.size:=hlv7.out.lt.size;have hown7:Hid ((w7.alloc (.cells #[.string C.k,.string C.v,.int .i64 C.n,.int .i64 C.p] CT)).ownsRow w.heap.size CT 4 vn ((layC (cs.take k) ps).map cE).length (cvs ((layC (cs.take k) ps).map cE))):=by
     have h:=hlv7.out.nm.alloc (.cells #[.string C.k,.string C.v,.int .i64 C.n,.int .i64 C.p] CT);rw[Hlk.out];exact h
    have hlv8:=zh (hlv7.out.ext ((zbr w7.heap.size w7).alloc (zlr _) (.cells #[.string C.k,.string C.v,.int .i64 C.n,.int .i64 C.p] CT)));clear hb7 hlvx q0 q1 q2 hco;obtain⟨C0,C1,C2,C3⟩:=C;simp only[ceV];dsimp only at hnew hown7 hlv8 Hls
    go_wp2_with (at_builtin;refine z3e rfl (.tmp 29) (.tmp 32) 168 rfl w.heap.size CT Tryz.underlying168 q4v vn ((layC (cs.take k) ps).map cE) (by rfl) hown7 w7.heap.size 1 ⟨C0,C1,C2,C3⟩ (by rfl) hnew.out (by rw[Hlk.out];omega) (by simp;omega) ?_;intro v' w9 hown9 hgrow9)
    have hlv9:Hid (LvI w w9 gl B B' (.slice (some ⟨gb,0,none⟩) n c0) v' cs ps ws (k+1) (k+1)):=by
     refine hlv8.out.named hBw hgrow9.out ?_;have h:=hown9.out;rw[←Hls.out] at h;have hlk1:((layC (cs.take (k+1)) ps).map cE).length=k+1:=by rw[List.length_map,z34,zlk,Hn.out];omega
     rw[hlk1] at h;exact h
    clear hown9 hgrow9 hlv8 hlv7 hown7 hnew;go_wp2_with fail
    go_roundw
    case rel=>exact⟨k+1,v',rfl,by go_num,by omega,hlv9⟩
    case measure=>simp[intOf];omega
  ·obtain rfl:k=n:=by omega
   have htk:cs.take k=cs:=List.take_of_length_le (by rw[Hn.out];exact zlr _);obtain⟨hBB,hcs,hok,hcv,hchl,hsz,hnd,hpb,hwl,hBw⟩:=HC.out;have hlv2:=hlv.out;obtain⟨hly,hoc,hnm,hlt3,hrs⟩:=hlv2;rw[htk] at hly hoc hnm;rw[List.drop_of_length_le (by rw[Hn.out];exact zlr _),List.append_nil] at hoc;have hall:∀e∈layC cs ps,okE e∧CeW e:=fun e he=>⟨x5u cs ps hok e he,q0s cs ps hcv (by omega) hpb e he⟩
   have hld:=y27 _ hall;rw[y7o] at hld;have henc:=q4d (x5t hall) (y9a (y9s hcs)) (by omega);have hcl:((layC cs ps).map cE).length=k:=by rw[List.length_map,z34,Hn.out]
   rw[←hcl] at hnm;obtain⟨av,cvv,rfl,hcsrc,_⟩:=z9o hnm;have hE:=x06 av k cvv ((layC cs ps).map cE) wr hcl hcsrc (by omega);rw[henc.1,henc.2] at hE;rw[hcl] at hnm⊢
   have hlw:(layC cs ps).length=k:=by rw[z34,Hn.out]
   obtain⟨L,hL⟩:∃L,z10 ((layC cs ps).map cE)=L:=⟨_,rfl⟩
   rw[hL] at hE hld;have hb8:B8 L:=by rw[←hL];exact q1u _
   obtain⟨m,hm⟩:∃m,L.length=m:=⟨_,rfl⟩
   have HE:=zh hE;have HS:=zh (zai hly (zai hoc (zai hlt3 hrs)));have HL:=zh (zai hm (zai (show m≤504 by omega) (zai hb8 hL)));have HC2:=zh (zai (y9t cs ps hok hchl) (zai hlw (zai (show 0<(ps.drop (cNs cs)).length by rw[zld];omega) (show(ws++wrC cs ps).length≤100000 by rw[zla,y26];omega))));have Hbw:=zh hBw;obtain⟨M,hM⟩:∃M,cNs cs=M:=⟨_,rfl⟩
   have HM:=zh hM;generalize errV 0=E0 at*;clear htk hBB hcs hok hcv hchl hsz hnd hpb hwl hlv hly hoc hnm hlt3 hrs hall hld henc hcl hcsrc hE hlw hL hb8 hm hBw hM;go_wp2_with fail;refine HE.out.mono ?_;rintro e w4 ⟨v,rfl,hsl,hb4⟩;obtain⟨a5,c5,rfl,hs5,_⟩:=hsl.arg;rw[HL.out.1];have hly4:=HS.out.1.ext hb4;have hr4:=(hb4.block _ (zag.1 HS.out.2.2.2).1).trans HS.out.2.2.2;have Hb4:=zh hb4;have Hly4:=zh hly4;have Hr4:=zh hr4;have Hs5:=zh hs5;clear hb4 hly4 hr4 hs5 hsl;go_wp2_with fail;refine(z93 gl B 1 m c5 a5 L (ps.drop (cNs cs)) (ws++wrC cs ps) w4 Hly4.out HC2.out.2.2.1 HC2.out.2.2.2 HL.out.1 (by omega) (by omega) HL.out.2.1 HL.out.2.2.1 Hs5.out).mono ?_;rintro e w5 ⟨rfl,hly5,ht5⟩;rw[z9j,Nat.add_zero,List.drop_drop] at hly5;rw[z9j,Nat.add_zero];have hoc5:=(HS.out.2.1.below Hb4.out (zlr _)).lay Hly4.out ht5;have hr5:=Hly4.out.hg ht5 Hr4.out;have hlt5:=LFu.trans (HS.out.2.2.1.trans (q5w Hb4.out)) ht5;have HA:=zh (y08 (na ps (cNs cs)) (.slice a0 k c0) (layC cs ps) w5 hoc5.cv (by rw[HC2.out.2.1];omega) HC2.out.1);have H5:=zh (zai hly5 (zai hr5 hlt5));clear hly5 ht5 hoc5 hr5 hlt5 Hr4 Hs5;go_wp2_with fail;refine HA.out.mono ?_;rintro e w6 ⟨x,rfl,hxp,hxc,hxk,hxv,hb6⟩;have hg:w6.heap[w.heap.size]? =some (.cells #[.int .i64 0,nilS,nilS,nilS] VT (0,0)):=(hb6.block _ (zag.1 H5.out.2.1).1).trans H5.out.2.1;have cc0:w6.cell? ⟨w.heap.size,0,none⟩=some (.int .i64 0):=by simp[World.cell?,hg]
   have cc1:w6.cell? ⟨w.heap.size,1,none⟩=some nilS:=by simp[World.cell?,hg]
   have cc2:w6.cell? ⟨w.heap.size,2,none⟩=some nilS:=by simp[World.cell?,hg]
   have cc3:w6.cell? ⟨w.heap.size,3,none⟩=some nilS:=by simp[World.cell?,hg]
   have f0:∀i,w6.frozen? ⟨w.heap.size,i,none⟩=false:=fun i=>by simp[World.frozen?,hg]
   have F0:=f0 0;have F1:=f0 1;have F2:=f0 2;have F3:=f0 3;have Hg:=zh hg;have HX:=zh (zai hxp (zai hxc (zai hxk (zai hxv hb6))));clear hg f0 hxp hxc hxk hxv hb6 HA;obtain⟨pg,ca,cn,cc,ka,kn,kc,pa,pn,pc⟩:=x;dsimp only[NoV.c,NoV.k,NoV.p,NoV.v] at*;go_wp2_with fail;have Hp:=zh (z13 (x0:=.int .i64 (pg:Nat)) (x1:=.slice ca cn cc) (x2:=.slice ka kn kc) (x3:=.slice pa pn pc) Hg.out);have k0:(put4 w6 w.heap.size (.int .i64 (pg:Nat)) (.slice ca cn cc) (.slice ka kn kc) (.slice pa pn pc)).cell? ⟨w.heap.size,0,none⟩=some (.int .i64 (pg:Nat)):=by simp[World.cell?,Hp.out]
   have k1:(put4 w6 w.heap.size (.int .i64 (pg:Nat)) (.slice ca cn cc) (.slice ka kn kc) (.slice pa pn pc)).cell? ⟨w.heap.size,1,none⟩=some (.slice ca cn cc):=by simp[World.cell?,Hp.out]
   have k2:(put4 w6 w.heap.size (.int .i64 (pg:Nat)) (.slice ca cn cc) (.slice ka kn kc) (.slice pa pn pc)).cell? ⟨w.heap.size,2,none⟩=some (.slice ka kn kc):=by simp[World.cell?,Hp.out]
   have k3:(put4 w6 w.heap.size (.int .i64 (pg:Nat)) (.slice ca cn cc) (.slice ka kn kc) (.slice pa pn pc)).cell? ⟨w.heap.size,3,none⟩=some (.slice pa pn pc):=by simp[World.cell?,Hp.out]
   unfold put4 at k0 k1 k2 k3;have tp:=z1r (w:=w6) (g:=w.heap.size) (x0:=.int .i64 (pg:Nat)) (x1:=.slice ca cn cc) (x2:=.slice ka kn kc) (x3:=.slice pa pn pc);obtain⟨h1,h2,h3,h4,h6⟩:=HX.out;have Hend:Hid (OCk (put4 w6 w.heap.size (.int .i64 (pg:Nat)) (.slice ca cn cc) (.slice ka kn kc) (.slice pa pn pc)) w.heap.size (.slice ca cn cc) (layC cs ps) (layC cs ps).length∧LyI (put4 w6 w.heap.size (.int .i64 (pg:Nat)) (.slice ca cn cc) (.slice ka kn kc) (.slice pa pn pc)) gl B (ps.drop (cNs cs+1)) (ws++(wrC cs ps++[(na ps (cNs cs),z1l 1 (z10 ((layC cs ps).map cE)))]))∧Turn (LFu w gl B (.slice a0 k c0)) w (put4 w6 w.heap.size (.int .i64 (pg:Nat)) (.slice ca cn cc) (.slice ka kn kc) (.slice pa pn pc))):=by
    refine⟨(OCk.lower h2 (H5.out.2.2.size)).tur tp (TyF.one Hg.out) rfl (by decide),?_,?_⟩
    ·have h7:=(H5.out.1.ext h6).tz tp (fun i hi=>by
      obtain rfl:i=w.heap.size:=hi;exact⟨Hbw.out,_,_,_,Hg.out,by decide,by decide⟩)
     rw[HL.out.2.2.2,←List.append_assoc];exact h7
    ·exact(H5.out.2.2.trans (q5w h6)).step tp (fun i hi hl=>by
      obtain rfl:i=w.heap.size:=hi;omega)
   unfold put4 at Hend;refine bodyPost_ret (v:=.agg #[.int .i64 (pg:Nat),.slice ca cn cc,.slice ka kn kc,.slice pa pn pc]) (by rw[z0c rfl];go_simp) rfl ⟨⟨pg,ca,cn,cc,ka,kn,kc,pa,pn,pc⟩,rfl,h1,Hend.out.1,h3,h4,Hend.out.2.1,Hend.out.2.2⟩
end Go.Proofs.YtdnfhjfbanhhcaaGreatDoor
