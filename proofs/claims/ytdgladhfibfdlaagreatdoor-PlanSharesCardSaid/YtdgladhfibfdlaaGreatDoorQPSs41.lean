/-
  Steps.
-/
import Derived.Test.YtdgladhfibfdlaaGreatDoorQPSs40
namespace Go.Proofs.YtdgladhfibfdlaaGreatDoor
open Go Go.RowKit Go.Proofs.Tryz
theorem y25 {a b:List NoV}{i:Nat}(h:i<a.length):va (a++b) i=va a i:=by
 unfold va;simp[List.getD,List.getElem?_append_left h]
theorem z1i (a b:List NoV)(i:Nat):va (a++b) (a.length+i)=va b i:=by
 unfold va;simp only[List.getD];rw[List.getElem?_append_right (by omega),Nat.add_sub_cancel_left]
theorem y26 (l:List NoV)(k:Nat)(h:k<l.length):l.drop k=va l k::l.drop (k+1):=by
 rw[List.drop_eq_getElem_cons h];simp[va,List.getD,h]
def BQ (B s0:Nat)(fv:Value)(b:Nat):Prop:=B≤b∧(b<s0∨fv.ownBlock=some b)
structure BvI (w W:World) (gl B B' s0 t7:Nat) (u vk fv:Value) (h:Nat) (lo hi:SB) (ks:List ByteArray) (vs xs:List NoV) (ts:List Tr) (ps:List Nat) (ws:List PgW) (j k:Nat):Prop where
 ly:LyI W gl B (ps.drop (Z2 (ts.take j))) (ws++wrL (ts.take j) ps)
 kd:W.ownsRow B' VT Q2.sz u vs.length (Q2.row (xs++vs.drop j))
 xl:xs.length=j
 new:∀i,i<j→NdS W (BQ B s0 fv) h (lob lo ks i) (hib hi ks i) (va xs i) (Pk (ta ts i) (ps.drop (Z2 (ts.take i))))
 old:∀i,j≤i→i<vs.length→xV W B h (lob lo ks i) (hib hi ks i) (va vs i) (ta ts i)
 fk:PB W t7 FT vk fv
 fo:W.ownsRow w.heap.size 3 pgE.sz fv k (pgE.row ((xs.take k).map NoV.pg))
 key:EV V5 W vk ks
 lt:Zx (LFu w gl B u) w W
 rs:W.heap[w.heap.size]? =some (.cells #[.int .i64 0,Z0,Z0,Z0] VT (0,0))
section
variable {w W W':World} {gl B B' s0 t7:Nat} {u vk fv:Value} {h:Nat} {lo hi:SB} {ks:List ByteArray} {vs xs:List NoV} {ts:List Tr} {ps:List Nat} {ws:List PgW} {j k:Nat}
theorem BvI.ext (hI:BvI w W gl B B' s0 t7 u vk fv h lo hi ks vs xs ts ps ws j k)(hb:zB W W'):BvI w W' gl B B' s0 t7 u vk fv h lo hi ks vs xs ts ps ws j k:=
 ⟨hI.ly.ext hb,Y4 hI.kd hb (zlr _),hI.xl,fun i hi=>(hI.new i hi).ext hb (fun _ h _=>h),fun i h1 h2=>(hI.old i h1 h2).ext hb,
  (hb.block _ (zag.1 hI.fk).1).trans hI.fk,Y4 hI.fo hb (zlr _),hI.key.ext hb,hI.lt.trans (x3x hb),(hb.block _ (zag.1 hI.rs).1).trans hI.rs⟩
theorem BvI.kid (hI:BvI w W gl B B' s0 t7 u vk fv h lo hi ks vs xs ts ps ws j k)(hj:j<vs.length):va (xs++vs.drop j) j=va vs j∧(xs++vs.drop j).length=vs.length:=by
 have hx:=hI.xl;constructor
 ·have:=z1i xs (vs.drop j) 0;rw[hx] at this;rw[show j+0=j from rfl] at this;rw[this,y26 vs j hj];rfl
 ·rw[zla,hx,zld];omega
theorem y6q (xs vs:List NoV)(x:NoV)(j:Nat)(hx:xs.length=j)(hj:j<vs.length):(xs++vs.drop j).set j x=(xs++[x])++vs.drop (j+1):=by
 rw[List.set_append_right _ _ (by omega),hx,Nat.sub_self,y26 vs j hj];simp
theorem y27:∀(xs:List NoV) (j:Nat) (y:NoV),j<xs.length→Q2.row (xs.set j y)=((((Q2.row xs).set (j*4) (.int .i64 (y.pg:Nat))).set (j*4+1) y.c).set (j*4+2) y.k).set (j*4+3) y.p
 | [],j,_,h=>by simp at h
 | x::r,0,y,_=>rfl
 | x::r,j+1,y,h=>by
  have e1:(x::r).set (j+1) y=x::r.set j y:=rfl;rw[e1,Elt.row,Elt.row,y27 r j y (by simpa using h)];have e2:Q2.enc x=[.int .i64 (x.pg:Nat),x.c,x.k,x.p]:=rfl;rw[e2,show(j+1)*4+3=(j*4+3)+4 by omega,show(j+1)*4+2=(j*4+2)+4 by omega,show(j+1)*4+1=(j*4+1)+4 by omega,show(j+1)*4=(j*4)+4 by omega]
  rfl
def y3p (w:World)(g i:Nat)(x0 x1 x2 x3:Value):World:=(((w.setCell ⟨g,i,none⟩ x0).setCell ⟨g,i+1,none⟩ x1).setCell ⟨g,i+2,none⟩ x2).setCell ⟨g,i+3,none⟩ x3
theorem y28 (w:World)(g i:Nat)(x0 x1 x2 x3:Value):Zx (fun b=>b=g) w (y3p w g i x0 x1 x2 x3):=
 ((((Zx.refl (fun b=>b=g) w).setCell (p:=⟨g,i,none⟩) _ (fun _=>rfl)).setCell (p:=⟨g,i+1,none⟩) _ (fun _=>rfl)).setCell (p:=⟨g,i+2,none⟩) _ (fun _=>rfl)).setCell (p:=⟨g,i+3,none⟩) _ (fun _=>rfl)
theorem y6r {B g c:Nat}{xs:List NoV}(j:Nat)(y:NoV)(hj:j<xs.length)(h:W.ownsRow B VT Q2.sz (.slice (some ⟨g,0,none⟩) xs.length c) xs.length (Q2.row xs)):
  (y3p W g (j*4) (.int .i64 (y.pg:Nat)) y.c y.k y.p).ownsRow B VT Q2.sz (.slice (some ⟨g,0,none⟩) xs.length c) xs.length (Q2.row (xs.set j y)):=by
 refine⟨by rw[Elt.row_len,List.length_set],?_⟩
 rcases h.2 with ⟨h1,_⟩|⟨g',cap,cur,hv,hbg,hg,hnc,hcm,hcs,ht⟩
 ·cases h1
 ·simp only[Value.slice.injEq,Option.some.injEq,Addr.mk.injEq,and_true,true_and] at hv;obtain⟨rfl,rfl⟩:=hv;have h1:=heap_setCell_same W g (j*4) cur VT (.int .i64 (y.pg:Nat)) hg;have h2:=heap_setCell_same _ g (j*4+1) _ VT y.c h1;have h3:=heap_setCell_same _ g (j*4+2) _ VT y.k h2;have h4:=heap_setCell_same _ g (j*4+3) _ VT y.p h3;refine .inr ⟨g,c,_,rfl,hbg,h4,hnc,hcm,by simpa using hcs,?_⟩;rw[y27 xs j y hj,←ht];simp[List.take_set]
theorem z3r {B g c:Nat}{xs:List NoV}(j:Nat)(hj:j<xs.length)(h:W.ownsRow B VT Q2.sz (.slice (some ⟨g,0,none⟩) xs.length c) xs.length (Q2.row xs)):
  (W.cell? ⟨g,j*4,none⟩=some (.int .i64 ((va xs j).pg:Nat))∧W.cell? ⟨g,j*4+1,none⟩=some (va xs j).c∧W.cell? ⟨g,j*4+2,none⟩=some (va xs j).k∧W.cell? ⟨g,j*4+3,none⟩=some (va xs j).p)∧(∀i,W.frozen? ⟨g,i,none⟩=false)∧B≤g∧(∃A,W.heap[g]? =some (.cells A VT (0,0))):=by
 have e:xs[j]? =some (va xs j):=by unfold va;simp[List.getD,hj]
 have h1:=Q2.row_at xs j 0 _ e (by decide);have h2:=Q2.row_at xs j 1 _ e (by decide);have h3:=Q2.row_at xs j 2 _ e (by decide);have h4:=Q2.row_at xs j 3 _ e (by decide);have hsz:Q2.sz=4:=rfl;rw[hsz] at h1 h2 h3 h4;have k1:=h.cellAt (j*4) (by rw[hsz];omega);have k2:=h.cellAt (j*4+1) (by rw[hsz];omega);have k3:=h.cellAt (j*4+2) (by rw[hsz];omega);have k4:=h.cellAt (j*4+3) (by rw[hsz];omega);refine⟨⟨k1.trans h1,k2.trans h2,k3.trans h3,k4.trans h4⟩,?_⟩
 rcases h.2 with ⟨h5,_⟩|⟨g',cap,cur,hv,hbg,hg,_⟩
 ·cases h5
 ·simp only[Value.slice.injEq,Option.some.injEq,Addr.mk.injEq,and_true,true_and] at hv;obtain⟨rfl,rfl⟩:=hv;exact⟨fun i=>by simp[World.frozen?,hg],hbg,cur,hg⟩
set_option maxHeartbeats 400000 in
/-- A kid was laid,and is stored.-/
theorem BvI.laid {gk n c:Nat}{W2:World}{x:NoV}(hI:BvI w W gl B B' s0 t7 (.slice (some ⟨gk,0,none⟩) n c) vk fv h lo hi ks vs xs ts ps ws j k)(hkj:k≤j)(hBB:B≤B')(hn:vs.length=n)(hj:j<n)(htl:ts.length=n)(hgkw:gk<w.heap.size)(hws:w.heap.size≤s0)(hs0:s0≤W.heap.size)
  (h2:LyI W2 gl B ((ps.drop (Z2 (ts.take j))).drop (ta ts j).need) ((ws++wrL (ts.take j) ps)++wrT (ta ts j) (ps.drop (Z2 (ts.take j))))) (t:Zx (LF W gl B) W W2)
  (hx:NdS W2 (fun b=>B≤b∧b<W.heap.size) h (lob lo ks j) (hib hi ks j) x (Pk (ta ts j) (ps.drop (Z2 (ts.take j))))):
  ((W2.cell? ⟨gk,j*4,none⟩=some (.int .i64 ((va vs j).pg:Nat))∧W2.cell? ⟨gk,j*4+1,none⟩=some (va vs j).c∧W2.cell? ⟨gk,j*4+2,none⟩=some (va vs j).k∧W2.cell? ⟨gk,j*4+3,none⟩=some (va vs j).p)∧∀i,W2.frozen? ⟨gk,i,none⟩=false)∧
  ((y3p W2 gk (j*4) (.int .i64 (x.pg:Nat)) x.c x.k x.p).cell? ⟨gk,j*4,none⟩=some (.int .i64 (x.pg:Nat))∧(y3p W2 gk (j*4) (.int .i64 (x.pg:Nat)) x.c x.k x.p).cell? ⟨gk,j*4+1,none⟩=some x.c∧(y3p W2 gk (j*4) (.int .i64 (x.pg:Nat)) x.c x.k x.p).cell? ⟨gk,j*4+2,none⟩=some x.k∧(y3p W2 gk (j*4) (.int .i64 (x.pg:Nat)) x.c x.k x.p).cell? ⟨gk,j*4+3,none⟩=some x.p)∧
  BvI w (y3p W2 gk (j*4) (.int .i64 (x.pg:Nat)) x.c x.k x.p) gl B B' s0 t7 (.slice (some ⟨gk,0,none⟩) n c) vk fv h lo hi ks vs (xs++[x]) ts ps ws (j+1) k:=by
 have hgk:gk<s0:=by omega
 have hjv:j<vs.length:=by omega
 have hjt:j<ts.length:=by omega
 have hkid:=hI.kid hjv;rw[List.drop_drop,←D6 ts j hjt,List.append_assoc,←y6p ts ps j hjt] at h2;have hkd2:=hI.ly.own t hI.kd;rw[hn] at hkd2 hkid;have hkd2':W2.ownsRow B' VT Q2.sz (.slice (some ⟨gk,0,none⟩) (xs++vs.drop j).length c) (xs++vs.drop j).length (Q2.row (xs++vs.drop j)):=by rw[hkid.2];exact hkd2
 obtain⟨r,hfz,hBg,A,hg⟩:=z3r j (by rw[hkid.2];exact hj) hkd2';rw[hkid.1] at r;have hkd3:=y6r j x (by rw[hkid.2];exact hj) hkd2';have ht3:=y28 W2 gk (j*4) (.int .i64 (x.pg:Nat)) x.c x.k x.p;have hT3:TyF W2 (fun i=>i=gk) VT:=TyF.one hg;have hset:=y6q xs vs x j hI.xl hjv;have r3:=(z3r (xs:=(xs++vs.drop j).set j x) j (by rw[List.length_set,hkid.2];exact hj) (by rw[List.length_set];exact hkd3)).1;have hvx:va ((xs++vs.drop j).set j x) j=x:=by
  have:j<(xs++vs.drop j).length:=by rw[hkid.2];exact hj
  unfold va;simp only[List.getD_eq_getElem?_getD,List.getElem?_set,this,if_true];rfl
 rw[hvx] at r3;rw[hset,hkid.2] at hkd3;refine⟨⟨r,hfz⟩,r3,?_⟩;have hVQ:∀{Q:Nat→Prop},(Q gk)→∀i,i=gk→i<W2.heap.size→VQ W2 Q i:=fun hq i e _=>by
  subst e;exact⟨A,VT,_,hg,.inr ⟨.inr rfl,hq⟩⟩
 have hVL:∀{Q:Nat→Prop} i,LF W gl B i→i<W.heap.size→VQ W Q i:=fun i hi _=>by
  obtain⟨A,T,fz,h1,h2⟩:=hI.ly.tf i hi;exact⟨A,T,fz,h1,.inl h2⟩
 have hfo2:=hI.ly.own t hI.fo;have hfk2:=hI.ly.hg t hI.fk;have hkey2:=hI.key.turn Kj t hI.ly.tf;have hlt2:=LFu.trans hI.lt t;have hrs2:=hI.ly.hg t hI.rs;have hgB:B≤gk:=by omega
 generalize y3p W2 gk (j*4) (.int .i64 (x.pg:Nat)) x.c x.k x.p=W3 at*;have hxl:=hI.xl;refine⟨h2.tz ht3 (fun i hi=> ?_),by rw[hn];exact hkd3,by rw[zla,hxl];rfl,fun i hi=> ?_,fun i h4 h5=> ?_,ht3.hg hfk2 (hT3.not hfk2 (by decide)),?_,hkey2.tur ht3 hT3 rfl,?_,?_⟩
 ·obtain rfl:i=gk:=hi;exact⟨hgB,_,_,_,hg,by decide,by decide⟩
 ·rcases zng i j with h4|h4
  ·rw[y25 (by omega)];have:=(hI.new i h4).step (Q1:=BQ B s0 fv) t hVL (fun _ h _=>h);exact this.step ht3 (hVQ ⟨hgB,.inl hgk⟩) (fun _ h _=>h)
  ·obtain rfl:i=j:=by omega
   have e1:va (xs++[x]) i=x:=by
    have:=z1i xs [x] 0;rw[hxl] at this;exact this
   rw[e1];have h5:NdS W2 (BQ B s0 fv) h _ _ x _:=hx.step (Zx.refl (fun _=>False) _) (fun _ hf _=>hf.elim) (fun b hb _=>⟨hb.1,by
    rcases hb.2 with h6|h6
    ·omega
    ·exact(hI.fo.lt b h6).2⟩)
   exact h5.step ht3 (hVQ ⟨hgB,.inl hgk⟩) (fun _ h _=>h)
 ·have:=(hI.old i (by omega) h5).step t hVL;exact this.step ht3 (hVQ hgB)
 ·have e2:(xs++[x]).take k=xs.take k:=by rw[List.take_append_of_le_length (by omega)]
  rw[e2];exact Sq hfo2 ht3 hT3 (by decide)
 ·exact hlt2.step ht3 (fun i hi hl=>by
   obtain rfl:i=gk:=hi;exact .inr rfl)
 ·exact ht3.hg hrs2 (fun e=>by
   have h9:w.heap.size=gk:=e;omega)
theorem L4 {α:Type}{E:Elt α}{P:Program}{w:World}(B:Nat)(t ty e:TypeId)(ht:P.underlying t=some (.slice e))(h2:(P.info? e).map (fun i=>(i.zero,i.size,i.bytes))=some (some E.zero,E.sz,E.by_))
  (v:Value) (n:Nat) (l:List α) (hs:w.ownsRow B e E.sz v n (E.row l)) (hB:B≤w.heap.size) (a2:Option Addr) (n2 c2:Nat) (m:List α) (hn2:m.length=n2) (h0:0<n2) (hm:ES E w a2 m)
  (h63:n+n2≤maxLen) (hby:(n+n2)*E.by_≤140737488355328):
  ∃v' w',(Builtin.append_ #[t,t] ty #[v,.slice a2 n2 c2]).run P w=.ok v' w'∧Zx (fun i=>v.ownBlock=some i) w w'∧w'.ownsRow B e E.sz v' (n+n2) (E.row (l++m))∧∀k,v'.ownBlock=some k→v.ownBlock=some k∨w.heap.size≤k:=by
 obtain⟨i0,hi,hz,hs0,hb0⟩:=info_parts h2;obtain⟨g,o,rfl,hc⟩:=hm.at (by omega);obtain⟨v',w',hr,h3,h4,hn⟩:=Q3 (P:=P) (w:=w) B t ty e i0 E.zero E.sz E.by_ ht hi hz hs0 hb0 E.zc E.pos v n (E.row l) hs ⟨g,o,none⟩ n2 c2 (E.row m) (by rw[E.row_len,hn2]) (fun j u hu=>by rw[U9];exact hc j u hu) (E.row_one m) h63 hby hB;refine⟨v',w',hr,⟨h4.os,h4.tape,h4.output,h4.size,fun i hi hne=>h4.block i hi (fun e=>hne e.symm)⟩,by rw[Elt.row_app];exact h3,fun k hk=> ?_⟩
 rcases hn with hn|hn
 ·exact .inl (hn▸hk)
 ·first
   | exact .inr (hn k hk)
   | (obtain⟨c,hn⟩:=hn;subst hn;injection hk with hk;exact .inr (by omega))
set_option maxHeartbeats 400000 in
/-- A kid's page is named.-/
theorem BvI.named {W6:World}{fv':Value}(hI:BvI w W gl B B' s0 t7 u vk fv h lo hi ks vs xs ts ps ws j k)(hBw:B≤w.heap.size)(h7:w.heap.size<t7)(h7W:t7<W.heap.size)
  (t:Zx (fun i=>fv.ownBlock=some i) W W6) (ho:W6.ownsRow w.heap.size 3 pgE.sz fv' (k+1) (pgE.row ((xs.take (k+1)).map NoV.pg))) (hn:∀b,fv'.ownBlock=some b→fv.ownBlock=some b∨W.heap.size≤b):
  PB W6 t7 FT vk fv∧BvI w (W6.setCell ⟨t7,1,none⟩ fv') gl B B' s0 t7 u vk fv' h lo hi ks vs xs ts ps ws j (k+1):=by
 have hT:=TyF.own hI.fo;have hlo:=fun i hi=>(hI.fo.lt i hi).1
 have fk6:PB W6 t7 FT vk fv:=t.hg hI.fk (hT.not hI.fk (by decide));refine⟨fk6,?_⟩;have t2:Zx (fun i=>i=t7) W6 (W6.setCell ⟨t7,1,none⟩ fv'):=(Zx.refl _ W6).setCell (p:=⟨t7,1,none⟩) _ (fun _=>rfl);have hT2:TyF W6 (fun i=>i=t7) FT:=TyF.one fk6;have hV1:∀{Q:Nat→Prop},(∀b,fv.ownBlock=some b→Q b)→∀i,fv.ownBlock=some i→i<W.heap.size→VQ W Q i:=fun hq i hi _=>by
  obtain⟨A,fz,h1⟩:=hT i hi;exact⟨A,_,fz,h1,.inr ⟨.inl rfl,hq i hi⟩⟩
 have hV2:∀{Q:Nat→Prop} i,i=t7→i<W6.heap.size→VQ W6 Q i:=fun i e _=>by
  subst e;exact⟨_,_,_,fk6,.inl (by decide)⟩
 have hly6:=hI.ly.tz t (fun i hi=>⟨by have:=hlo i hi;omega,by
  obtain⟨A,fz,h1⟩:=hT i hi;exact⟨A,_,fz,h1,by decide,by decide⟩⟩)
 have hkd6:=Sq hI.kd t hT (by decide);have hkey6:=hI.key.tur t hT rfl;have hrs6:=t.hg hI.rs (hT.not hI.rs (by decide));have hlt6:=hI.lt.step t (fun i hi hl=>by have:=hlo i hi;omega);refine⟨hly6.tz t2 (fun i hi=> ?_),Sq hkd6 t2 hT2 (by decide),hI.xl,fun i hi=> ?_,fun i h4 h5=> ?_,?_,Sq ho t2 hT2 (by decide),hkey6.tur t2 hT2 rfl,hlt6.step t2 (fun i hi hl=> ?_),t2.hg hrs6 (hT2.not hrs6 (by decide))⟩
 ·obtain rfl:i=t7:=hi;exact⟨by omega,_,_,_,fk6,by decide,by decide⟩
 ·have h6:=(hI.new i hi).step (Q1:=BQ B s0 fv') t (hV1 (fun b hb=>⟨by have:=hlo b hb;omega,.inr hb⟩)) (fun b hb hl=>⟨hb.1,by
   rcases hb.2 with h8|h8
   ·exact .inl h8
   ·rcases hn b h8 with h9|h9
    ·exact .inr h9
    ·omega⟩)
  exact h6.step t2 hV2 (fun _ h _=>h)
 ·have h6:=(hI.old i h4 h5).step t (hV1 (fun b hb=>by have:=hlo b hb;omega));exact h6.step t2 hV2
 ·have:=heap_setCell_same W6 t7 1 _ FT fv' fk6;unfold PB
  simpa using this
 ·obtain rfl:i=t7:=hi;omega
end
theorem BvI.pages {w W:World}{gl B B' s0 t7:Nat}{u vk fv:Value}{h:Nat}{lo hi:SB}{ks:List ByteArray}{vs xs:List NoV}{ts:List Tr}{ps:List Nat}{ws:List PgW}{n:Nat}(hI:BvI w W gl B B' s0 t7 u vk fv h lo hi ks vs xs ts ps ws n n)(htl:ts.length=n):((xs.map NoV.pg).map (fun p=>((p:Nat):Int)))=(Uy ts ps).map pgI:=by
 have hx:=hI.xl;refine List.ext_getElem (by simp[Q0,hx,htl]) fun i h1 h2=> ?_
 have hin:i<n:=by simpa [hx] using h1
 have hp:=(hI.new i hin).now.pg;have e1:va xs i=xs[i]'(by omega):=by unfold va;simp[List.getD,show i<xs.length by omega]
 have hl2:i<(Uy ts ps).length:=by rw[Q0];omega
 have e2:ta (Uy ts ps) i=(Uy ts ps)[i]:=by unfold ta;simp[List.getD,hl2]
 rw[←JZ ts ps i (by omega),e2,e1] at hp;simp only[List.getElem_map,pgI,hp]
theorem PgS.of {w:World}{a:Option Addr}{l:List Nat}(h:ES pgE w a l):PgS w a (l.map (fun p=>((p:Nat):Int))):=fun h0=>by
 rw[List.length_map] at h0;obtain⟨g,o,rfl,hc⟩:=h.pages h0;refine⟨g,o,rfl,fun i hi=> ?_⟩;rw[List.length_map] at hi;have e:ia (l.map (fun p=>((p:Nat):Int))) i=((na l i:Nat):Int):=by unfold ia na;simp[List.getD,hi]
 rw[e];exact hc i hi
theorem BvI.wrote {w W W5:World}{gl B B' s0 t7:Nat}{u vk fv:Value}{h:Nat}{lo hi:SB}{ks:List ByteArray}{vs xs:List NoV}{ts:List Tr}{ps:List Nat}{ws:List PgW}{j k:Nat}(hI:BvI w W gl B B' s0 t7 u vk fv h lo hi ks vs xs ts ps ws j k)(t:Zx (LF W gl B) W W5):
  W5.ownsRow B' VT Q2.sz u vs.length (Q2.row (xs++vs.drop j))∧(∀i,i<j→NdS W5 (BQ B s0 fv) h (lob lo ks i) (hib hi ks i) (va xs i) (Pk (ta ts i) (ps.drop (Z2 (ts.take i)))))∧EV V5 W5 vk ks∧Zx (LFu w gl B u) w W5∧
   W5.heap[w.heap.size]? =some (.cells #[.int .i64 0,Z0,Z0,Z0] VT (0,0)):=
 ⟨hI.ly.own t hI.kd,fun i hi=>(hI.new i hi).step t (fun i hi _=>by
   obtain⟨A,T,fz,h1,h2⟩:=hI.ly.tf i hi;exact⟨A,T,fz,h1,.inl h2⟩) (fun _ h _=>h),hI.key.turn Kj t hI.ly.tf,LFu.trans hI.lt t,hI.ly.hg t hI.rs⟩
theorem z3s {w W5 W6 W7:World}{B s0 h n:Nat}{fv:Value}{lo hi:SB}{ks:List ByteArray}{xs:List NoV}{tl:List Tr}{x:NoV}{nps:List Nat}{A0:Array Value}{fz0:Nat×Nat}(hBw:B≤w.heap.size)(hs:w.heap.size<s0)(hw5:w.heap.size≤W5.heap.size)
  (new:∀i,i<n→NdS W5 (BQ B s0 fv) h (lob lo ks i) (hib hi ks i) (va xs i) (ta tl i)) (hb:zB W5 W6) (hc:x.c=Z0) (hk:EV V5 W6 x.k ks) (hp:EV V8 W6 x.p nps) (hpl:nps.length=n) (hvb:∀i,i<n→VB4 W6 (na nps i) (va xs i)∧W5.heap.size<na nps i)
  (hkl:ks.length+1=n) (htl:tl.length=n) (hok:∀k∈ks,okK k=true) (hgs:∀t∈tl,126≤t.sz∧t.sz≤504) (hrs:W6.heap[w.heap.size]? =some (.cells A0 VT fz0)) (tA:Zx (fun i=>i=w.heap.size) W6 W7):NdS W7 (fun b=>B≤b∧b<w.heap.size) (h+1) lo hi x (.bran x.pg ks tl):=fun W' F hF hcd=>by
 have t:Zx (fun i=>i=w.heap.size∨F i) W6 W':=(tA.mono (fun i hi _=> .inl hi)).step hF (fun i hi _=> .inr hi);have hG:∀i,(i=w.heap.size∨F i)→i<W6.heap.size→VQ W6 (fun b=>B≤b∧b≤w.heap.size) i:=fun i hi hl=>by
  by_cases h1:i=w.heap.size
  ·subst h1;exact⟨A0,VT,fz0,hrs,.inr ⟨.inr rfl,hBw,zlr _⟩⟩
  ·rcases hi with hi|hi
   ·exact absurd hi h1
   ·obtain⟨A,T,fz,g1,g2⟩:=hcd i hi (Nat.lt_of_lt_of_le hl tA.size);rw[tA.block i hl h1] at g1;exact⟨A,T,fz,g1,g2.imp_right (fun h3=>⟨h3.1,h3.2.1,Nat.le_of_lt h3.2.2⟩)⟩
 have hno:∀{b T:Nat} {A:Array Value} {fz:Nat×Nat},W6.heap[b]? =some (.cells A T fz)→vty T=false→((T=3∨T=VT)→w.heap.size<b)→¬(b=w.heap.size∨F b):=fun{b T A fz} hb hT hlo hFb=>by
  obtain⟨A2,T2,fz2,g1,g2⟩:=hG b hFb (zag.1 hb).1;rw[hb] at g1;injection g1 with g1
  injection g1 with _ g1 _
  rcases g2 with g2|⟨g2,g3⟩
  ·rw[←g1,hT] at g2;cases g2
  ·have:=hlo (g2.imp g1.trans g1.trans);omega
 have hev:∀{α:Type} {E:Elt α} {v:Value} {l:List α},(∀T,E.ty T=true→vty T=false∧T≠3∧T≠VT)→EV E W6 v l→EV E W' v l:=fun{α E v l} hE hv=>by
  obtain⟨a,c,rfl,hs,h1⟩:=hv;refine⟨a,c,rfl,?_,h1⟩
  rcases hs with hs|⟨g,o,rfl,⟨A,T,fz,ht,hT⟩,hcell⟩
  ·exact .inl hs
  ·have hE':=hE T hT;have hg:=hno ht hE'.1 (fun h=>h.elim (fun h=>absurd h hE'.2.1) (fun h=>absurd h hE'.2.2));refine .inr ⟨g,o,rfl,⟨A,T,fz,t.hg ht hg,hT⟩,fun j u hu=> ?_⟩;have h1:=hcell j u hu;rw[t.cell (p:=⟨g,o+j,none⟩) (block_lt_of_cell h1) hg];exact h1
 refine⟨ks,nps,tl,rfl,hc,hev (fun T hT=> ?_) hk,hev (fun T hT=> ?_) hp,x4m (d:=default) (by omega) (by omega) hok (fun i hi=> ?_)⟩
 ·have h1:(T==9)=true:=hT;obtain rfl:=eq_of_beq h1
  decide
 ·have h1:(T==PNT)=true:=hT;obtain rfl:=eq_of_beq h1
  decide
 ·have hin:i<n:=by omega
  obtain⟨v1,v2⟩:=hvb i hin;have hv1:VB4 W' (na nps i) (va xs i):=t.hg v1 (hno v1 (by decide) (fun _=>by omega));have hnd:=((new i hin).ext (Q1:=BQ B s0 fv) hb (fun _ h _=>h)) W' _ t (fun b hb hl=>by
   obtain⟨A,T,fz,g1,g2⟩:=hG b hb hl;exact⟨A,T,fz,g1,g2.imp_right (fun h3=>⟨h3.1,h3.2.1,.inl (by have:=h3.2.2;omega)⟩)⟩)
  exact⟨Dk.node hv1.np hnd,hgs _ (XQ (by omega))⟩
end Go.Proofs.YtdgladhfibfdlaaGreatDoor
