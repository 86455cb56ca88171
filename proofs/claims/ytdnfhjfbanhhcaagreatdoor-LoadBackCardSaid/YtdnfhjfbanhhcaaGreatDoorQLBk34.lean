/-
  Steps.
-/
import Derived.Test.YtdnfhjfbanhhcaaGreatDoorQLBk33
namespace Go.Proofs.YtdnfhjfbanhhcaaGreatDoor
open Go Go.RowKit
abbrev LYT:TypeId:=90
abbrev WRT:TypeId:=48
def wrE0:Elt (Nat×Nat):=⟨2,32,.agg #[.int .i64 0,nilS],fun x=> [.int .i64 (x.1:Nat),.slice (some ⟨x.2,0,none⟩) 512 512],fun _=>rfl,fun e u hu=>by
 simp only[List.mem_cons,List.not_mem_nil,or_false] at hu;rcases hu with rfl|rfl<;>rfl,by decide,rfl,fun T=>T==WRT⟩
theorem q5d:(Tryz.prog.info? WRT).map (fun i=>(i.zero,i.size,i.bytes))=some (some wrE0.zero,wrE0.sz,wrE0.by_):=by kernel_rfl
def WRo (w:World):List (Nat×Nat)→List PgW→Prop
 | [],[]=>True
 | x::r,y::s=>(x.1=y.1∧Row w x.2 5 y.2∧y.2.length=512∧B8 y.2)∧WRo w r s
 | _,_=>False
theorem WRo.len {w:World}:∀{gs:List (Nat×Nat)} {ws:List PgW},WRo w gs ws→gs.length=ws.length
 | [],[],_=>rfl
 | _::_,_::_,h=>by rw[List.length_cons,List.length_cons,WRo.len h.2]
 | [],_::_,h=>h.elim
 | _::_,[],h=>h.elim
theorem WRo.snoc {w:World}{x:Nat×Nat}{y:PgW}:∀{gs:List (Nat×Nat)} {ws:List PgW},WRo w gs ws→x.1=y.1∧Row w x.2 5 y.2∧y.2.length=512∧B8 y.2→WRo w (gs++[x]) (ws++[y])
 | [],[],_,h=>⟨h,trivial⟩
 | _::_,_::_,h,h2=>⟨h.1,WRo.snoc h.2 h2⟩
 | [],_::_,h,_=>h.elim
 | _::_,[],h,_=>h.elim
theorem WRo.mono {w w':World}(hr:∀g l,Row w g 5 l→Row w' g 5 l):∀{gs:List (Nat×Nat)} {ws:List PgW},WRo w gs ws→WRo w' gs ws
 | [],[],_=>trivial
 | _::_,_::_,h=>⟨⟨h.1.1,hr _ _ h.1.2.1,h.1.2.2⟩,WRo.mono hr h.2⟩
 | [],_::_,h=>h.elim
 | _::_,[],h=>h.elim
theorem WRo.b {w:World}:∀{gs:List (Nat×Nat)} {ws:List PgW},WRo w gs ws→∀x∈ws,x.2.length=512∧B8 x.2
 | [],[],_,x,hx=>by cases hx
 | _::_,_::_,h,x,hx=>by
  rcases List.mem_cons.1 hx with rfl|hx
  ·exact h.1.2.2
  ·exact WRo.b h.2 x hx
 | [],_::_,h,_,_=>h.elim
 | _::_,[],h,_,_=>h.elim
def LF (w:World)(gl B:Nat)(i:Nat):Prop:=i=gl∨(B≤i∧∃A fz,w.heap[i]? =some (.cells A WRT fz))
def PLo (B:Nat)(v:Value):Prop:=∀a n c,v=.slice (some a) n c→a.block<B
structure LyI (w:World) (gl B:Nat) (ps:List Nat) (ws:List PgW):Prop where
 ex:∃vp vw gs,w.heap[gl]? =some (.cells #[vp,vw] LYT (0,0))∧(EV pgE w vp ps∧PLo B vp)∧w.ownsRow B WRT wrE0.sz vw gs.length (wrE0.row gs)∧WRo w gs ws
 lt:gl<B
 bz:B≤w.heap.size
 wo:z0x w
 wg:2<gl
theorem LF.trans {w w1 w2:World}{gl B:Nat}(h:Turn (LF w gl B) w w1)(k:Turn (LF w1 gl B) w1 w2):Turn (LF w gl B) w w2:=h.step k (fun i hi hl=>by
 rcases hi with rfl|⟨hB,A,fz,h2⟩
 ·exact .inl rfl
 ·by_cases hF:LF w gl B i
  ·exact hF
  ·exact .inr ⟨hB,A,fz,(h.block i hl hF).symm.trans h2⟩)
section
variable {w w':World} {gl B:Nat} {ps:List Nat} {ws:List PgW}
theorem LyI.tf (h:LyI w gl B ps ws):TF w (LF w gl B):=fun b hb=>by
 obtain⟨vp,vw,gs,h1,_⟩:=h.ex
 rcases hb with rfl|⟨_,A,fz,h2⟩
 ·exact⟨_,_,_,h1,by decide⟩
 ·exact⟨_,_,_,h2,by decide⟩
theorem LyI.not (h:LyI w gl B ps ws){b T:Nat}{A:Array Value}{fz:Nat×Nat}(hb:w.heap[b]? =some (.cells A T fz))(h1:T≠LYT:=by decide)(h2:T≠WRT:=by decide):¬LF w gl B b:=fun hF=>by
 obtain⟨vp,vw,gs,h3,_⟩:=h.ex
 rcases hF with rfl|⟨_,A',fz',h4⟩
 ·rw[h3] at hb;injection hb with hb
  injection hb with _ hb _
  exact h1 hb.symm
 ·rw[h4] at hb;injection hb with hb
  injection hb with _ hb _
  exact h2 hb.symm
theorem LyI.hg (h:LyI w gl B ps ws)(t:Turn (LF w gl B) w w'){b T:Nat}{A:Array Value}{fz:Nat×Nat}(hb:w.heap[b]? =some (.cells A T fz))(h1:T≠LYT:=by decide)(h2:T≠WRT:=by decide):w'.heap[b]? =some (.cells A T fz):=t.hg hb (h.not hb h1 h2)
theorem LyI.own (h:LyI w gl B ps ws)(t:Turn (LF w gl B) w w'){B' E sz n:Nat}{v:Value}{xs:List Value}(ho:w.ownsRow B' E sz v n xs)(h1:E≠LYT:=by decide)(h2:E≠WRT:=by decide):w'.ownsRow B' E sz v n xs:=by
 refine⟨ho.1,?_⟩
 rcases ho.2 with h3|⟨b,cap,cur,rfl,hb,hgb,h3⟩
 ·exact .inl h3
 ·exact .inr ⟨b,cap,cur,rfl,hb,h.hg t hgb h1 h2,h3⟩
theorem LyI.ext (h:LyI w gl B ps ws)(hb:Below w.heap.size w w'):LyI w' gl B ps ws:=by
 obtain⟨vp,vw,gs,h1,h2,h3,h4⟩:=h.ex;exact⟨⟨vp,vw,gs,(hb.block gl (zag.1 h1).1).trans h1,⟨h2.1.ext hb,h2.2⟩,z0p h3 hb (zlr _),h4.mono fun g l hr=>hr.below hb hr.lt⟩,h.lt,znt h.bz hb.size,h.wo.below hb,h.wg⟩
theorem LyI.tz (h:LyI w gl B ps ws){F:Nat→Prop}(t:Turn F w w')(hF:∀i,F i→B≤i∧∃A T fz,w.heap[i]? =some (.cells A T fz)∧T≠WRT∧T≠5):LyI w' gl B ps ws:=by
 obtain⟨vp,vw,gs,h1,⟨⟨a,c,e1,hs,h2⟩,hl⟩,h3,h4⟩:=h.ex;have hlt:=h.lt;have no:∀{b T:Nat} {A:Array Value} {fz:Nat×Nat},w.heap[b]? =some (.cells A T fz)→(T=WRT∨T=5)→¬F b:=fun hb hT hf=>by
  obtain⟨_,A2,T2,fz2,g1,g2,g3⟩:=hF _ hf;rw[hb] at g1;injection g1 with g1
  injection g1 with _ g1 _
  rcases hT with hT|hT
  ·exact g2 (g1.symm.trans hT)
  ·exact g3 (g1.symm.trans hT)
 have lo:∀{b},b<B→¬F b:=fun hb hf=>by have:=(hF _ hf).1;omega
 refine⟨⟨vp,vw,gs,t.hg h1 (lo hlt),⟨⟨a,c,e1,?_,h2⟩,hl⟩,⟨h3.1,?_⟩,h4.mono fun g l hr=>t.hg hr (no hr (.inr rfl))⟩,hlt,znt h.bz t.size,fun j hj=> ?_,h.wg⟩
 ·rcases hs with hs|⟨g,o,rfl,⟨A,T,fz,ht,hT⟩,hc⟩
  ·exact .inl hs
  ·have hg:¬F g:=lo (hl _ _ _ e1);refine .inr ⟨g,o,rfl,⟨A,T,fz,t.hg ht hg,hT⟩,fun j u hu=> ?_⟩;have h1:=hc j u hu;rw[t.cell (p:=⟨g,o+j,none⟩) (block_lt_of_cell h1) hg];exact h1
 ·rcases h3.2 with h5|⟨b,cap,cur,rfl,hb,hgb,h5⟩
  ·exact .inl h5
  ·exact .inr ⟨b,cap,cur,rfl,hb,t.hg hgb (no hgb (.inl rfl)),h5⟩
 ·have h1:=h.wo j hj;have hw:=h.wg;rw[t.cell (p:=⟨2,j,none⟩) (block_lt_of_cell h1) (lo (show(2:Nat)<B by omega))];exact h1
theorem LF.tz {w0:World}(h:Turn (LF w0 gl B) w0 w){F:Nat→Prop}(t:Turn F w w')(hF:∀i,F i→w0.heap.size≤i):Turn (LF w0 gl B) w0 w':=h.step t (fun i hi hl=>by have:=hF i hi;omega)
theorem LyI.src (h:LyI w gl B ps ws){a:Option Addr}{l:List Nat}(hs:Src w a l)(t:Turn (fun i=>i=gl) w w'):Src w' a l:=fun h0=>by
 obtain⟨b,o,rfl,hc⟩:=hs h0;obtain⟨vp,vw,gs,h1,⟨⟨pa,pc,rfl,_⟩,_⟩,h3,_⟩:=h.ex;have hb:b≠gl:=fun e=>by
  subst e;have h4:=hc 0 h0;have hvw:∃a n c,vw=.slice a n c:=by
   rcases h3.2 with ⟨rfl,_⟩|⟨_,_,_,rfl,_⟩<;>exact⟨_,_,_,rfl⟩
  obtain⟨a2,n2,c2,rfl⟩:=hvw;simp only[World.cell?,h1,Nat.add_zero] at h4
  rcases o with _|_|o
  ·simp at h4
  ·simp at h4
  ·simp at h4
 refine⟨b,o,rfl,fun i hi=> ?_⟩;rw[t.cell (p:=⟨b,o+i,none⟩) (block_lt_of_cell (hc i hi)) hb];exact hc i hi
theorem OC.lay {v:Value}{es:List En}{B':Nat}(ho:OC w B' v es)(h:LyI w gl B ps ws)(t:Turn (LF w gl B) w w'):OC w' B' v es:=by
 obtain⟨xs,h1,h2⟩:=ho;exact⟨xs,h.own t h1,RW.turn t h.tf h2⟩
end
set_option maxRecDepth 100000 in
theorem z93 (gl B k n c:Nat)(a:Option Addr)(l:List Nat)(ps:List Nat)(ws:List PgW)(w:World)(hI:LyI w gl B ps ws)(hp:0<ps.length)(hwl:ws.length≤100000)(hn:l.length=n)(hk1:1≤k)(hk5:k≤5)(hl:n≤504)(hb8:B8 l)(hsrc:Src w a l):
  Calls Tryz.prog 85 #[pt gl,.int .u8 k,.slice a n c] w fun e w'=>e=.returned (.int .i64 (na ps 0:Nat))∧LyI w' gl B (ps.drop 1) (ws++[(na ps 0,z1l k l)])∧Turn (LF w gl B) w w':=by
 obtain⟨vp,vw,gs,hg,⟨hev,hplo⟩,hown,hwr⟩:=hI.ex;have hgl:=hwr.len;obtain⟨pa,pc,rfl,hes,hz,hpc,hpm⟩:=hev;obtain⟨g1,o1,rfl,hcs⟩:=hes.pages hp;have hg1B:g1<B:=hplo _ _ _ rfl;have p0:=hcs 0 hp;have Hes:=zh hes;obtain⟨N,hN⟩:∃N,ps.length=N:=⟨_,rfl⟩
 rw[hN] at hg hp hpc;have HN:=zh hN;have c0:w.cell? ⟨gl,0,none⟩=some (.slice (some ⟨g1,o1,none⟩) N pc):=by simp[World.cell?,hg]
 have f0:w.frozen? ⟨gl,0,none⟩=false:=by simp[World.frozen?,hg]
 have hpm':=hpm;unfold maxLen at hpm';have key:∀(A:Option Addr) (C:Nat),(pc=1→A=some ⟨g1,o1,none⟩∧C=0)→(pc≠1→A=some ⟨g1,o1+1,none⟩∧C=pc-1)→EV pgE (w.setCell ⟨gl,0,none⟩ (.slice A (N-1) C)) (.slice A (N-1) C) (ps.drop 1)∧PLo B (.slice A (N-1) C):=fun A C hA hB=>by
  have hl1:(ps.drop 1).length=N-1:=by rw[zld,hN]
  by_cases h1:pc=1
  ·obtain⟨rfl,rfl⟩:=hA h1;refine⟨?_,fun a n c e=>by injection e with e _ _;injection e with e;rw[←e];exact hg1B⟩;have e1:ps.drop 1=ps.take 0:=by rw[List.take_zero];exact List.eq_nil_of_length_eq_zero (by omega)
   refine⟨_,_,by rw[hl1],?_,fun h=>(by cases h),by omega,by unfold maxLen;omega⟩;rw[e1];exact(hes.take 0).set hg rfl
  ·obtain⟨rfl,rfl⟩:=hB h1;refine⟨?_,fun a n c e=>by injection e with e _ _;injection e with e;rw[←e];exact hg1B⟩;refine⟨_,_,by rw[hl1],?_,fun h=>(by cases h),by omega,by omega⟩;exact(hes.drop 1 (o1+1) (by omega) (by simp[pgE])).set hg rfl
 generalize na ps 0=P0 at*;have HI:=zh hI;have Hsrc:=zh hsrc;have Hrest:=zh (zai hg (zai hown (zai hwr hgl)));have Hb8:=zh hb8;have Hpl:Hid ((z1l k l).length=512∧B8 (z1l k l)):=⟨z7t (by omega),x63 (by omega) (by omega) hb8⟩
 have Hn:=zh hn;have Hkey:=zh key;have Hwl:=zh hwl;rw[Nat.add_zero] at p0;clear hes hcs hI hsrc hg hown hwr hgl hb8 hn hz hpm hN key hwl hplo hg1B
 go_enter Tryz.func85,Tryz.ntmps85
 go_wp2_with fail
 case' inl=>
  have hev:=zh (Hkey.out _ _ (fun _=>⟨rfl,rfl⟩) (fun hh=>absurd h hh));generalize Value.slice (some ⟨g1,o1,none⟩) (N-1) 0=V at*
 case' inr=>
  have hev:=zh (Hkey.out _ _ (fun hh=>absurd hh h) (fun _=>⟨rfl,rfl⟩));generalize Value.slice (some ⟨g1,o1+1,none⟩) (N-1) (pc-1)=V at*
 all_goals
  have hg1:=heap_setCell_same w gl 0 _ _ V Hrest.out.1;have ht1:Turn (fun i=>i=gl) w (w.setCell ⟨gl,0,none⟩ V):=(Turn.refl _ w).setCell _ (fun _=>rfl);have htl:Turn (LF w gl B) w (w.setCell ⟨gl,0,none⟩ V):=ht1.mono (fun i hi _=> .inl hi);have Hown1:Hid ((w.setCell ⟨gl,0,none⟩ V).ownsRow B WRT wrE0.sz vw gs.length (wrE0.row gs)):=z17 Hrest.out.2.1 ht1 (TyF.one Hrest.out.1) (by decide);have Hwr1:Hid (WRo (w.setCell ⟨gl,0,none⟩ V) gs ws):=Hrest.out.2.2.1.mono fun g l hr=>HI.out.hg htl hr
  have Hwo1:Hid (z0x (w.setCell ⟨gl,0,none⟩ V)):=fun j hj=>by
   have h1:=HI.out.wo j hj;rw[ht1.cell (p:=⟨2,j,none⟩) (block_lt_of_cell h1) (by have:=HI.out.wg;show¬(2:Nat)=gl;omega)];exact h1
  have Hsrc1:=zh (HI.out.src Hsrc.out ht1);have Htl:=zh htl;have Hg1:=zh hg1;have Hkb:=zh (zai hk1 (zai hk5 hl));generalize hw1:w.setCell ⟨gl,0,none⟩ V=w1 at*;have hlt1:gl<w1.heap.size:=(zag.1 hg1).1;clear ht1 htl hg1 Hsrc hw1 c0 f0 p0 Hkey hk1 hk5 hl h;refine(q1z k a n c l Hn.out w1 Hkb.out.1 Hkb.out.2.1 Hkb.out.2.2 Hb8.out Hsrc1.out Hwo1.out).mono ?_;rintro e w2 ⟨rfl,hrow,hb2⟩;have Hrow:=zh hrow;have hg2:=(hb2.block gl hlt1).trans Hg1.out;simp only[List.setIfInBounds_toArray,List.set_cons_zero] at hg2;have c1:w2.cell? ⟨gl,1,none⟩=some vw:=by simp[World.cell?,hg2]
  generalize hgb:w1.heap.size=gb at*;have Hg2:=zh hg2;have Hb2:=zh hb2;have Hown2:=zh (z0p Hown1.out hb2 (by omega));have Hwr2:=zh (Hwr1.out.mono fun g l hr=>hr.below hb2 (by have:=hr.lt;omega));have Hev2:=zh (zai (hev.out.1.below hb2 (by omega)) hev.out.2);have Hwo2:=zh (Hwo1.out.below (hgb▸hb2));have hB2:B≤w2.heap.size:=by
   have h1:=HI.out.bz;have h2:=Htl.out.size;have h3:=hb2.size;omega
  clear hrow hb2 hg2 Hown1 Hwr1 Hwo1 Hsrc1 Hg1 hev hlt1 Hkb;have hlit:ES wrE0 (w2.alloc (.cells #[.int .i64 (P0:Nat),.slice (some ⟨gb,0,none⟩) 512 512] WRT)) (some ⟨w2.heap.size,0,none⟩) [(P0,gb)]:=ES.lit (z0h w2 WRT #[.int .i64 (P0:Nat),.slice (some ⟨gb,0,none⟩) 512 512]) (by simp[wrE0]);have hgl2:gs.length≤100000:=by rw[Hrest.out.2.2.2];exact Hwl.out
  obtain⟨v1,w4,hrun,hb4,ht4,ho4⟩:=z2a (P:=Tryz.prog) (w:=w2.alloc (.cells #[.int .i64 (P0:Nat),.slice (some ⟨gb,0,none⟩) 512 512] WRT)) (E:=wrE0) B 32 32 WRT Tryz.underlying32 q5d vw gs.length gs (Hown2.out.alloc _) (by simp;omega) (some ⟨w2.heap.size,0,none⟩) 1 1 [(P0,gb)] rfl (by omega) hlit (by unfold maxLen;omega) (by show _*32≤_;omega);have ho4':w4.ownsRow B WRT wrE0.sz v1 (gs++[(P0,gb)]).length (wrE0.row (gs++[(P0,gb)])):=by rw[zla];exact ho4
  obtain⟨a4,c4,rfl,_⟩:=z1u (E:=wrE0) ho4';generalize hM:(gs++[(P0,gb)]).length=M at*;have HM:=zh hM;have hgB:gl<B:=HI.out.lt;have hg4:w4.heap[gl]? =some (.cells #[V,vw] LYT (0,0)):=(hb4.block gl hgB).trans (((zbr w2.heap.size w2).alloc (zlr _) _).block gl (by omega)|>.trans Hg2.out);have f1:w4.frozen? ⟨gl,1,none⟩=false:=by simp[World.frozen?,hg4]
  have d1:w4.cell? ⟨gl,1,none⟩=some vw:=by simp[World.cell?,hg4]
  have Hb4:=zh hb4;have Ht4:=zh ht4;have Ho4:=zh ho4';have Hg4:=zh hg4;clear hb4 ht4 ho4 ho4' hg4 hlit hgl2 hM
  go_wp2_with (at_builtin;refine Lib.wpList_append_run _ rfl (.tmp 34) (.tmp 38) _ _ rfl _ _ (by rfl) (by rfl) _ _ hrun ?_)
  go_ret;generalize Value.slice a4 M c4=v4 at*;have h12:Turn (LF w gl B) w w2:=Htl.out.trans (q5w (by rw[hgb];exact Hb2.out));have h13:=h12.alloc (.cells #[.int .i64 (P0:Nat),.slice (some ⟨gb,0,none⟩) 512 512] WRT);have h14:Turn (LF w gl B) w w4:=h13.step Ht4.out (fun i hi _=> .inr ⟨((Hrest.out.2.1).lt i hi).1,TyF.own Hrest.out.2.1 i hi⟩);have h15:Turn (LF w gl B) w (w4.setCell ⟨gl,1,none⟩ v4):=h14.setCell (p:=⟨gl,1,none⟩) v4 (fun _=> .inl rfl);have ht5:Turn (fun i=>i=gl) w4 (w4.setCell ⟨gl,1,none⟩ v4):=(Turn.refl _ w4).setCell (p:=⟨gl,1,none⟩) v4 (fun _=>rfl);have hal:=(zbr w2.heap.size w2).alloc (zlr _) (.cells #[.int .i64 (P0:Nat),.slice (some ⟨gb,0,none⟩) 512 512] WRT);have hT4:=TyF.own (Hown2.out.alloc (.cells #[.int .i64 (P0:Nat),.slice (some ⟨gb,0,none⟩) 512 512] WRT));have hev4:EV pgE w4 V (ps.drop 1):=EV.tur (Hev2.out.1.below hal (zlr _)) Ht4.out hT4 rfl;have hrw:∀g l,Row w2 g 5 l→Row (w4.setCell ⟨gl,1,none⟩ v4) g 5 l:=fun g l hr=>by
   have h1:=hr.below hal hr.lt;have h2:Row w4 g 5 l:=Ht4.out.hg h1 (hT4.not h1 (by decide));exact ht5.hg h2 ((TyF.one Hg4.out).not h2 (by decide))
  have hw5:z0x (w4.setCell ⟨gl,1,none⟩ v4):=fun j hj=>by
   have h1:=HI.out.wo j hj;rw[h15.cell (p:=⟨2,j,none⟩) (block_lt_of_cell h1) (by
    have h2:=HI.out.wg;have h3:=HI.out.lt;rintro(h4|⟨h4,_⟩)
    ·have h5:(2:Nat)=gl:=h4;omega
    ·have h5:B≤(2:Nat):=h4;omega)]
   exact h1
  refine⟨rfl,⟨⟨V,v4,gs++[(P0,gb)],?_,⟨hev4.tur ht5 (TyF.one Hg4.out) rfl,Hev2.out.2⟩,?_,?_⟩,HI.out.lt,znt HI.out.bz h15.size,hw5,HI.out.wg⟩,h15⟩
  ·have:=heap_setCell_same w4 gl 1 _ _ v4 Hg4.out
   simpa using this
  ·rw[HM.out];have:=Ho4.out;exact z17 this ht5 (TyF.one Hg4.out) (by decide)
  ·exact(Hwr2.out.mono hrw).snoc ⟨rfl,hrw _ _ Hrow.out,Hpl.out⟩
abbrev SBT:TypeId:=46
def rowE:Elt Nat:=⟨1,24,nilS,fun g=> [.slice (some ⟨g,0,none⟩) 512 512],fun _=>rfl,fun e u hu=>by
 simp only[List.mem_cons,List.not_mem_nil,or_false] at hu;subst hu;rfl,by decide,rfl,fun T=>T==SBT⟩
theorem q0p:(Tryz.prog.info? SBT).map (fun i=>(i.zero,i.size,i.bytes))=some (some rowE.zero,rowE.sz,rowE.by_):=by kernel_rfl
def RoR (w:World):List Nat→List (List Nat)→Prop
 | [],[]=>True
 | g::r,l::s=>(Row w g 5 l∧l.length=512∧B8 l)∧RoR w r s
 | _,_=>False
theorem RoR.len {w:World}:∀{gs:List Nat} {P:List (List Nat)},RoR w gs P→gs.length=P.length
 | [],[],_=>rfl
 | _::_,_::_,h=>by rw[List.length_cons,List.length_cons,RoR.len h.2]
 | [],_::_,h=>h.elim
 | _::_,[],h=>h.elim
theorem RoR.snoc {w:World}{g:Nat}{l:List Nat}:∀{gs:List Nat} {P:List (List Nat)},RoR w gs P→Row w g 5 l∧l.length=512∧B8 l→RoR w (gs++[g]) (P++[l])
 | [],[],_,h=>⟨h,trivial⟩
 | _::_,_::_,h,h2=>⟨h.1,RoR.snoc h.2 h2⟩
 | [],_::_,h,_=>h.elim
 | _::_,[],h,_=>h.elim
theorem RoR.mono {w w':World}(hr:∀g l,Row w g 5 l→Row w' g 5 l):∀{gs:List Nat} {P:List (List Nat)},RoR w gs P→RoR w' gs P
 | [],[],_=>trivial
 | _::_,_::_,h=>⟨⟨hr _ _ h.1.1,h.1.2⟩,RoR.mono hr h.2⟩
 | [],_::_,h=>h.elim
 | _::_,[],h=>h.elim
theorem RoR.below {w w':World}{B:Nat}{gs:List Nat}{P:List (List Nat)}(h:RoR w gs P)(hb:Below B w w')(hB:w.heap.size≤B):RoR w' gs P:=h.mono fun _ _ hr=>hr.below hb (Nat.lt_of_lt_of_le hr.lt hB)
theorem x88 (n:Nat):B8 (List.replicate n 0):=fun x hx=>by
 rw[(List.mem_replicate.1 hx).2];omega
theorem q28:(Tryz.prog.info? 5).map (fun i=>(i.zero,i.size,i.bytes))=some (some (.int .u8 0),1,1):=by kernel_rfl
set_option maxRecDepth 100000 in
theorem x1b (n:Nat)(w:World)(hn:n≤2000):Calls Tryz.prog 11 #[.int .i64 n] w fun e w'=>∃(u:Value) (gs:List Nat),e=.returned u∧w'.ownsRow w.heap.size SBT rowE.sz u n (rowE.row gs)∧RoR w' gs (List.replicate n (List.replicate 512 0))∧Below w.heap.size w w':=by
 go_enter Tryz.func11,Tryz.ntmps11
 go_wp2_with fail
 go_loopw [3,4] (fun u i wr=>∃(k:Nat) (v:Value) (gs:List Nat),v=u∧i=.int .i64 k∧k≤n∧Hid (wr.ownsRow w.heap.size SBT rowE.sz v k (rowE.row gs)∧RoR wr gs (List.replicate k (List.replicate 512 0))∧Below w.heap.size w wr)) (fun _ i _=>n-(intOf i).toNat)
 case atStart=>exact⟨0,nilS,[],rfl,rfl,by omega,World.ownsRow_nil _ _ _ _,trivial,zbr _ _⟩
 case round=>
  obtain⟨k,v,gs,rfl,rfl,hk,hst⟩:=hrel
  by_cases hlt:k<n
  ·go_wp2_with (first
    | (
     refine z06 rfl _ _ SBT rfl 5 Tryz.underlying46 q28 .i64 .i64 512 512 512 (by rfl) (by rfl) rfl rfl (by omega) ?_;intro W2 hrow hb2;have hB2:=hst.out.2.2.trans (hb2.mono hst.out.2.2.size);have hrow2:Row W2 wr.heap.size 5 (List.replicate 512 0):=hrow.out;have hown2:=z0p hst.out.1 hb2 (zlr _);have hror2:=hst.out.2.1.below hb2 (zlr _);have hba:Below W2.heap.size W2 (W2.alloc (.cells #[.slice (some ⟨wr.heap.size,0,none⟩) 512 512] SBT)):=(zbr _ _).alloc (zlr _) _;have hlit:ES rowE (W2.alloc (.cells #[.slice (some ⟨wr.heap.size,0,none⟩) 512 512] SBT)) (some ⟨W2.heap.size,0,none⟩) [wr.heap.size]:=ES.lit (z0h W2 SBT #[.slice (some ⟨wr.heap.size,0,none⟩) 512 512]) (by simp[rowE]);have hown3:=z0p hown2 hba (zlr _);have hgl:=hst.out.2.1.len;obtain⟨v1,w4,hrun,hb4,ht4,ho4⟩:=z2a (P:=Tryz.prog) (E:=rowE) (w:=W2.alloc (.cells #[.slice (some ⟨wr.heap.size,0,none⟩) 512 512] SBT)) w.heap.size 43 43 SBT Tryz.underlying43 q0p v k gs hown3 (by have:=hB2.size;simp;omega) (some ⟨W2.heap.size,0,none⟩) 1 1 [wr.heap.size] rfl (by omega) hlit (by unfold maxLen;omega) (by show _*24≤_;omega);have hT4:=TyF.own hown3;have hrw:∀g l,Row W2 g 5 l→Row w4 g 5 l:=fun g l hr=>by
      have h1:=hr.below hba hr.lt;exact ht4.hg h1 (hT4.not h1 (by decide))
     have Hst:Hid (w4.ownsRow w.heap.size SBT rowE.sz v1 (k+1) (rowE.row (gs++[wr.heap.size]))∧RoR w4 (gs++[wr.heap.size]) (List.replicate (k+1) (List.replicate 512 0))∧Below w.heap.size w w4):=by
      refine⟨ho4,?_,(hB2.trans (hba.mono hB2.size)).trans hb4⟩;rw[List.replicate_succ'];exact(hror2.mono hrw).snoc ⟨hrw _ _ hrow2,by simp,x88 512⟩
     clear hrow hb2 hB2 hrow2 hown2 hror2 hba hlit hown3 hgl hb4 ht4 ho4 hT4 hrw hst)
    | (at_builtin;refine Lib.wpList_append_run _ rfl (.tmp 10) (.tmp 12) _ _ rfl _ _ (by rfl) (by rfl) _ _ hrun ?_))
   go_roundw
   case rel=>exact⟨k+1,v1,gs++[wr.heap.size],rfl,by go_num,by omega,Hst⟩
   case measure=>simp[intOf];omega
  ·obtain rfl:k=n:=by omega
   go_wp2;go_ret;exact⟨_,gs,rfl,hst.out⟩
def layP (P:List (List Nat)):List PgW→List (List Nat)
 | []=>P
 | x::r=>layP (P.set x.1 x.2) r
theorem y5w (x:PgW):∀(ws:List PgW) (P:List (List Nat)),layP P (ws++[x])=(layP P ws).set x.1 x.2
 | [],_=>rfl
 | y::r,P=>by rw[List.cons_append,layP,layP,y5w x r]
theorem z6y:∀(ws:List PgW) (P:List (List Nat)),(layP P ws).length=P.length
 | [],_=>rfl
 | x::r,P=>by rw[layP,z6y r];simp
theorem WRo.at {w:World}:∀{gs:List (Nat×Nat)} {ws:List PgW} {k:Nat} {x:Nat×Nat} {y:PgW},WRo w gs ws→gs[k]? =some x→ws[k]? =some y→x.1=y.1∧Row w x.2 5 y.2
 | _::_,_::_,0,_,_,h,h1,h2=>by
  simp only[List.getElem?_cons_zero,Option.some.injEq] at h1 h2;subst h1 h2;exact⟨h.1.1,h.1.2.1⟩
 | _::_,_::_,k+1,_,_,h,h1,h2=>WRo.at (k:=k) h.2 (by simpa using h1) (by simpa using h2)
 | [],[],_,_,_,_,h1,_=>by simp at h1
 | [],_::_,_,_,_,h,_,_=>h.elim
 | _::_,[],_,_,_,h,_,_=>h.elim
theorem RoR.set {w:World}{g:Nat}{l:List Nat}:∀{gs:List Nat} {P:List (List Nat)} {i:Nat},RoR w gs P→Row w g 5 l∧l.length=512∧B8 l→RoR w (gs.set i g) (P.set i l)
 | [],[],_,_,_=>trivial
 | _::_,_::_,0,h,h2=>⟨h2,h.2⟩
 | _::_,_::_,i+1,h,h2=>⟨h.1,RoR.set (i:=i) h.2 h2⟩
 | [],_::_,_,h,_=>h.elim
 | _::_,[],_,h,_=>h.elim
theorem y9n:∀(gs:List Nat),rowE.row gs=gs.map (fun g=>Value.slice (some ⟨g,0,none⟩) 512 512)
 | []=>rfl
 | g::r=>by rw[Elt.row,y9n r];rfl
theorem x89 {w:World}{B g n c:Nat}{gs:List Nat}(j y:Nat)(h:w.ownsRow B SBT rowE.sz (.slice (some ⟨g,0,none⟩) n c) n (rowE.row gs)):
  (w.setCell ⟨g,j,none⟩ (.slice (some ⟨y,0,none⟩) 512 512)).ownsRow B SBT rowE.sz (.slice (some ⟨g,0,none⟩) n c) n (rowE.row (gs.set j y))∧(j<n→∃v,w.cell? ⟨g,j,none⟩=some v)∧w.frozen? ⟨g,j,none⟩=false∧B≤g∧∃A,w.heap[g]? =some (.cells A SBT (0,0)):=by
 rcases h.2 with ⟨h1,_⟩|⟨g',cap,cur,hv,hbg,hg,hnc,hcm,hcs,ht⟩
 ·cases h1
 ·simp only[Value.slice.injEq,Option.some.injEq,Addr.mk.injEq,and_true,true_and] at hv;obtain⟨rfl,rfl⟩:=hv;refine⟨⟨?_,.inr ⟨g,c,_,rfl,hbg,heap_setCell_same w g j cur SBT _ hg,hnc,hcm,by simpa using hcs,?_⟩⟩,fun hj=> ?_,by simp[World.frozen?,hg],hbg,cur,hg⟩
  ·have h1:=h.1;rw[Elt.row_len] at h1⊢
   rw[List.length_set];exact h1
  ·rw[y9n] at ht⊢
   rw[List.map_set,←ht];simp[List.take_set]
  ·have h1:j<cur.size:=by
    have e:rowE.sz=1:=rfl;rw[e,Nat.mul_one] at hcs;omega
   exact⟨cur[j],by simp[World.cell?,hg,h1]⟩
set_option maxRecDepth 100000 in
theorem x9a (a:Option Addr)(c:Nat)(gs:List Nat)(P:List (List Nat))(b:Option Addr)(d:Nat)(hs:List (Nat×Nat))(ws:List PgW)(w:World)(n m:Nat)(hg:gs.length=n)(hn:n≤2000)(h0:0<n)(hP:ES rowE w a gs)(hR:RoR w gs P)(hm:hs.length=m)(hm9:m≤100000)(hW:ES wrE0 w b hs)(hWr:WRo w hs ws)(hp:∀x∈ws,2≤x.1∧x.1<n∧x.2.length=512∧B8 x.2):
  Calls Tryz.prog 10 #[.slice a n c,.slice b m d] w fun e w'=>∃(u:Value) (gs':List Nat),e=.returned u∧w'.ownsRow w.heap.size SBT rowE.sz u n (rowE.row gs')∧RoR w' gs' (layP P ws)∧Below w.heap.size w w':=by
 have HP:=zh hP;have HR:=zh hR;have HG:=zh hg;have HW:=zh (zai hm (zai hW (zai hWr hp)));clear hP hR hg hm hW hWr hp;obtain⟨W0,hW0⟩:∃W,w.alloc (.cells #[] SBT)=W:=⟨_,rfl⟩
 have hb0:Below w.heap.size w W0:=by rw[←hW0];exact(zbr _ _).alloc (zlr _) _
 have hl0:W0.heap.size=w.heap.size+1:=by rw[←hW0];simp
 have hown0:W0.ownsRow w.heap.size SBT rowE.sz (.slice (some ⟨w.heap.size,0,none⟩) 0 0) 0 (rowE.row []):=by
  rw[←hW0];exact⟨rfl,.inr ⟨w.heap.size,0,#[],rfl,zlr _,z0h _ _ _,zlr _,Nat.zero_le _,rfl,rfl⟩⟩
 obtain⟨v1,w4,hrun,hb4,ht4,ho4⟩:=z2a (P:=Tryz.prog) (E:=rowE) (w:=W0) w.heap.size 43 43 SBT Tryz.underlying43 q0p _ 0 [] hown0 (by omega) a n c gs HG.out h0 (HP.out.below hb0 (zlr _)) (by unfold maxLen;omega) (by show _*24≤_;omega);rw[Nat.zero_add,List.nil_append] at ho4;have hB4:=hb0.trans hb4;have hro4:=HR.out.below hB4 (zlr _);obtain⟨g5,c5,rfl⟩:∃g5 c5,v1=.slice (some ⟨g5,0,none⟩) n c5:=by
  rcases ho4.2 with ⟨_,h2⟩|⟨g2,cap,cur,h1,_⟩
  ·omega
  ·exact⟨g2,cap,h1⟩
 have Hst:Hid (∃gs',w4.ownsRow w.heap.size SBT rowE.sz (.slice (some ⟨g5,0,none⟩) n c5) n (rowE.row gs')∧gs'.length=n∧RoR w4 gs' (layP P (ws.take 0))∧Below w.heap.size w w4):=⟨gs,ho4,HG.out,by rw[List.take_zero];exact hro4,hB4⟩
 have HW0:=zh hW0;clear hW0 hb0 hl0 hown0 hb4 ht4 ho4 hB4 hro4;have hPn:P.length=n:=by rw[←HR.out.len];exact HG.out
 have HPn:=zh hPn;clear hPn
 go_enter Tryz.func10,Tryz.ntmps10
 go_wp2_with (at_builtin;rw[HW0.out];refine Lib.wpList_append_run _ rfl (.tmp 7) (.tmp 8) _ _ rfl _ _ (by rfl) (by rfl) _ _ hrun ?_)
 clear hrun
 go_loopw [6] (fun i wr=>∃k:Nat,i=.int .i64 k∧k≤m∧Hid (∃gs',wr.ownsRow w.heap.size SBT rowE.sz (.slice (some ⟨g5,0,none⟩) n c5) n (rowE.row gs')∧gs'.length=n∧RoR wr gs' (layP P (ws.take k))∧Below w.heap.size w wr)) (fun i _=>m-(intOf i).toNat)
 case atStart=>exact⟨0,rfl,by omega,Hst⟩
 case round=>
  obtain⟨k,rfl,hk,hst⟩:=hrel
  by_cases hlt:k<m
  ·obtain⟨gs',hown,hgl,hror,hB⟩:=hst.out;have hown:wr.drew.ownsRow w.heap.size SBT rowE.sz (.slice (some ⟨g5,0,none⟩) n c5) n (rowE.row gs'):=hown;have hror:RoR wr.drew gs' (layP P (ws.take k)):=RoR.mono (w:=wr) (w':=wr.drew) (fun _ _ h=>h) hror;have hB:Below w.heap.size w wr.drew:=hB.drew;have hkh:k<hs.length:=by rw[HW.out.1];exact hlt
   have hkw:k<ws.length:=by rw[←HW.out.2.2.1.len];exact hkh
   have e1:hs[k]? =some hs[k]:=List.getElem?_eq_getElem hkh;have e2:ws[k]? =some ws[k]:=List.getElem?_eq_getElem hkw;have hat:=(HW.out.2.2.1.mono (fun g l hr=>hr.below hB hr.lt)).at e1 e2;have hpp:=HW.out.2.2.2 _ (List.getElem_mem hkw);obtain⟨gl,ol,hbe,hty,hcell⟩:∃gl ol,b=some ⟨gl,ol,none⟩∧(∃A fz,wr.heap[gl]? =some (.cells A WRT fz))∧∀j u,(wrE0.row hs)[j]? =some u→wr.cell? ⟨gl,ol+j,none⟩=some u:=by
    rcases HW.out.2.1.below hB (zlr _) with ⟨_,h9⟩|⟨gl,ol,hbe,⟨A2,T2,fz2,ht2,hT2⟩,hcell⟩
    ·rw[h9] at hkh;simp at hkh
    ·have hT3:(T2==WRT)=true:=hT2;exact⟨gl,ol,hbe,⟨A2,fz2,by rw[←eq_of_beq hT3];exact ht2⟩,hcell⟩
   subst hbe;have r0:=hcell _ _ (wrE0.row_at hs k 0 _ e1 (by decide));have r1:=hcell _ _ (wrE0.row_at hs k 1 _ e1 (by decide));have r0':wr.cell? ⟨gl,ol+k*2,none⟩=some (.int .i64 (hs[k].1:Nat)):=r0;have r1':wr.cell? ⟨gl,ol+k*2+1,none⟩=some (.slice (some ⟨hs[k].2,0,none⟩) 512 512):=r1;have htk:ws.take (k+1)=ws.take k++[ws[k]]:=List.take_succ_eq_append_getElem hkw;have hlp:layP P (ws.take (k+1))=(layP P (ws.take k)).set hs[k].1 ws[k].2:=by rw[htk,y5w,hat.1]
   obtain⟨hset,hcl,hfz,hBg,A,hgA⟩:=x89 (w:=wr.drew) hs[k].1 hs[k].2 hown;have hpg:hs[k].1<n∧2≤hs[k].1:=by rw[hat.1];exact⟨hpp.2.1,hpp.1⟩
   obtain⟨u9,hcl⟩:=hcl hpg.1;have hB2:=hB.setCell (p:=⟨g5,hs[k].1,none⟩) hBg (.slice (some ⟨hs[k].2,0,none⟩) 512 512);have hT5:TyF wr.drew (fun i=>i=g5) SBT:=TyF.one hgA;have ht5:Turn (fun i=>i=g5) wr.drew (wr.drew.setCell ⟨g5,hs[k].1,none⟩ (.slice (some ⟨hs[k].2,0,none⟩) 512 512)):=(Turn.refl _ wr.drew).setCell (p:=⟨g5,hs[k].1,none⟩) _ (fun _=>rfl);have hrw:∀g l,Row wr.drew g 5 l→Row (wr.drew.setCell ⟨g5,hs[k].1,none⟩ (.slice (some ⟨hs[k].2,0,none⟩) 512 512)) g 5 l:=fun g l hr=>ht5.hg hr (hT5.not hr (by decide))
   have hror2:=(hror.mono hrw).set (i:=hs[k].1) ⟨hrw _ _ hat.2,hpp.2.2⟩;rw[←hlp] at hror2;have hglt:gl≠g5:=fun e=>by
    obtain⟨A2,fz2,h9⟩:=hty;have h9:wr.drew.heap[gl]? =some (.cells A2 WRT fz2):=h9;rw[e,hgA] at h9;injection h9 with h9
    injection h9 with _ h9 _
    exact absurd h9 (by decide)
   have Hst:Hid (∃gs',(wr.drew.setCell ⟨g5,hs[k].1,none⟩ (.slice (some ⟨hs[k].2,0,none⟩) 512 512)).ownsRow w.heap.size SBT rowE.sz (.slice (some ⟨g5,0,none⟩) n c5) n (rowE.row gs')∧gs'.length=n∧RoR (wr.drew.setCell ⟨g5,hs[k].1,none⟩ (.slice (some ⟨hs[k].2,0,none⟩) 512 512)) gs' (layP P (ws.take (k+1)))∧Below w.heap.size w (wr.drew.setCell ⟨g5,hs[k].1,none⟩ (.slice (some ⟨hs[k].2,0,none⟩) 512 512))):=⟨_,hset,by rw[List.length_set];exact hgl,hror2,hB2⟩
   clear hst hown hgl hror hB e1 e2 hat hpp hcell hty r0 r1 htk hlp hset hBg hgA hB2 hT5 ht5 hrw hror2;generalize hs[k].1=PG at*;generalize hs[k].2=HB at*;clear hkh hkw;have d1:¬(PG:Int)<2:=by omega
   have d2:¬(n:Int)≤(PG:Int):=by omega
   go_wp2_with fail;refine z0l (F:=fun i=>i=g5) (.rd 0 (.rd 1 (.rd 2 (.rd 3 (.rd 4 (.rd 5 (.rd 6 (.rd 7 (.rd 8 (.rd 9 (.rd 10 (.rd 11 (.call 12 .done))))))))))))) (by kernel_rfl) (by kernel_rfl) (by kernel_rfl) (by kernel_rfl) (fun _ _ _ _ _ h=>h) ?_;have q0:∀w',Turn (fun i=>i=g5) wr.drew w'→w'.cell? ⟨gl,ol+k*2,none⟩=some (.int .i64 (PG:Nat)):=fun w' t=>by
    rw[t.cell (p:=⟨gl,ol+k*2,none⟩) (block_lt_of_cell r0') hglt];exact r0'
   have q1:∀w',Turn (fun i=>i=g5) wr.drew w'→w'.cell? ⟨gl,ol+k*2+1,none⟩=some (.slice (some ⟨HB,0,none⟩) 512 512):=fun w' t=>by
    rw[t.cell (p:=⟨gl,ol+k*2+1,none⟩) (block_lt_of_cell r1') hglt];exact r1'
   (refine gsr (v:= ?_) rfl (by rfl) ?_ ?_;rotate_left;(intro w' hw';go_simp;with_reducible rfl);simp only[Act.put,zs0,zs1,zs2])
   (refine gsr (v:= ?_) rfl (by rfl) ?_ ?_;rotate_left;(intro w' hw';go_simp;with_reducible rfl);simp only[Act.put,zs0,zs1,zs2])
   (refine gsr (v:= ?_) rfl (by rfl) ?_ ?_;rotate_left;(intro w' hw';go_simp;with_reducible rfl);simp only[Act.put,zs0,zs1,zs2])
   (refine gsr (v:= ?_) rfl (by rfl) ?_ ?_;rotate_left;(intro w' hw';go_simp;with_reducible rfl);simp only[Act.put,zs0,zs1,zs2])
   (refine gsr (v:= ?_) rfl (by rfl) ?_ ?_;rotate_left;(intro w' hw';go_simp;with_reducible rfl);simp only[Act.put,zs0,zs1,zs2])
   (refine gsr (v:= ?_) rfl (by rfl) ?_ ?_;rotate_left;(intro w' hw';go_simp;with_reducible rfl);simp only[Act.put,zs0,zs1,zs2])
   (refine gsr (v:= ?_) rfl (by rfl) ?_ ?_;rotate_left;(intro w' hw';go_simp;with_reducible rfl);simp only[Act.put,zs0,zs1,zs2])
   (refine gsr (v:= ?_) rfl (by rfl) ?_ ?_;rotate_left;(intro w' hw';go_simp;with_reducible rfl);simp only[Act.put,zs0,zs1,zs2])
   (refine gsr (v:= ?_) rfl (by rfl) ?_ ?_;rotate_left;(intro w' hw';go_simp;with_reducible rfl);simp only[Act.put,zs0,zs1,zs2])
   (refine gsr (v:= ?_) rfl (by rfl) ?_ ?_;rotate_left;(intro w' hw';go_simp;with_reducible rfl);simp only[Act.put,zs0,zs1,zs2])
   (refine gsr (v:= ?_) rfl (by rfl) ?_ ?_;rotate_left;(intro w' hw';go_simp;with_reducible rfl);simp only[Act.put,zs0,zs1,zs2])
   (refine gsr (v:= ?_) rfl (by rfl) ?_ ?_;rotate_left;(intro w' hw';go_simp;with_reducible rfl);simp only[Act.put,zs0,zs1,zs2])
   refine gsc rfl (by rfl) (fun K hK=> ?_);have hcl':wr.drew.cell? ⟨g5,PG,none⟩=some u9:=hcl;have hfz':wr.drew.frozen? ⟨g5,PG,none⟩=false:=hfz;go_simp;refine hK _ _ ((Turn.refl _ _).setCell (p:=⟨g5,PG,none⟩) _ (fun _=>rfl)) ?_;clear hK K q0 q1 hcl' hfz';refine z0a ?_;go_wp2_with fail
   go_roundw
   case rel=>exact⟨k+1,by go_num,by omega,Hst⟩
   case measure=>simp[intOf];omega
  ·obtain rfl:k=m:=by omega
   obtain⟨gs',hown,hgl,hror,hB⟩:=hst.out;have hwl:ws.length=k:=by rw[←HW.out.2.2.1.len];exact HW.out.1
   rw[List.take_of_length_le (by omega)] at hror;have Hfin:=zh (zai hown (zai hror hB));clear hst hown hgl hror hB hwl;go_wp2;go_ret;exact⟨_,gs',rfl,Hfin.out.1,Hfin.out.2.1,Hfin.out.2.2⟩
end Go.Proofs.YtdnfhjfbanhhcaaGreatDoor
namespace Go.Proofs.YtdnfhjfbanhhcaaGreatDoor
open Go Go.RowKit Go.Shelf
attribute [local go_sem] Oper.semAt_some
def BK (W:World)(Bv:Nat)(v:Value)(ks:List ByteArray):Prop:=Boxed W Bv CSS v∧EV strE W v ks
def z50 (n k:Nat):List Nat:=(List.range k).map (fun j=>n-1-j)
theorem y1b (n k:Nat):z50 n (k+1)=z50 n k++[n-1-k]:=by simp[z50,List.range_succ]
set_option maxRecDepth 100000 in
set_option maxHeartbeats 2000000 in
theorem x9b (F:Fence)(n:Nat)(hfn:F.fn 152)(hro:F.round=none)(hn:1≤n)(l Bv:Nat)(v:Value)(ks:List ByteArray)(hks:ks.length≤100000)(J Jx:List (_root_.Fin ks.length)→World→Prop)
  (hY:∀pre (x:_root_.Fin ks.length) W,J pre W→pre.length<ks.length→YieldAt F (n-1) Tryz.prog l #[.int .i64 (x.val:Nat),.string (sa ks x.val)] W fun e W'=>
   (e=.returned (.bool true)∧J (pre++[x]) W'∧(BK W Bv v ks→BK W' Bv v ks))∨(e=.returned (.bool false)∧Jx (pre++[x]) W'))
  (W:World) (hb:BK W Bv v ks) (h0:J [] W):
  CallsIn F n Tryz.prog 152 #[.func (.yield l) #[] #[],.pointer (some ⟨Bv,0,none⟩)] W fun e W'=>(∃v,e=.returned v)∧
   ((∃xs:List (_root_.Fin ks.length),xs.map _root_.Fin.val=z50 ks.length ks.length∧J xs W')∨(∃pre:List (_root_.Fin ks.length),True∧Jx pre W')):=by
 have HY:=zh hY;have Hb:=zh hb;have H0:=zh h0;obtain⟨a,c,hv,hes,_⟩:=hb.2;subst hv;have hbx:=hb.1.cell;obtain⟨N,hN⟩:∃N,ks.length=N:=⟨_,rfl⟩
 have HN:=zh hN;have hN1:N≤100000:=by omega
 have hvN:(Value.slice a ks.length c)=.slice a N c:=by rw[hN]
 rw[hvN] at hbx;have HvN:=zh hvN;clear hY hb h0 hes hvN hN hks;refine callsIn_of_wp Tryz.func152 rfl hfn ?_ hro;simp only[Tryz.ntmps152,List.size_toArray,List.length_cons,List.length_nil,Nat.reduceAdd,Nat.reduceSub,Array.replicate_succ,Array.replicate_zero,List.push_toArray,List.append_toArray,List.nil_append,List.cons_append]
 gi_wp2
 gi_loopw [3] (fun i wr=>∃(k:Nat) (I:Int),i=.int .i64 I∧Hid (I=(N:Int)-1-k∧k≤N)∧Hid (∃pre:List (_root_.Fin ks.length),pre.map _root_.Fin.val=z50 ks.length k∧J pre wr)∧Hid (BK wr Bv (.slice a ks.length c) ks))
  (fun i _=>(intOf i+1).toNat)
 case atStart=>exact⟨0,_,rfl,⟨by go_num,Nat.zero_le _⟩,⟨[],rfl,H0.out⟩,Hb.out⟩
 case round=>
  obtain⟨k,I,rfl,hk,hJ,hB⟩:=hrel;have c0:=hB.out.1.cell;rw[HvN.out] at c0
  by_cases hlt:0≤I
  ·obtain⟨A,rfl⟩:∃A:Nat,I=A:=⟨I.toNat,by omega⟩
   have hA:A<N:=by have:=hk.out.1;omega
   obtain⟨a',c',hv',hes,_⟩:=hB.out.2;injection hv' with hv' _ hv2
   subst hv' hv2;obtain⟨g1,o1,rfl,hcs⟩:=hes.texts (by rw[HN.out];omega);have p0:=hcs A (by rw[HN.out];exact hA);obtain⟨pre,hpre,hj⟩:=hJ.out;obtain⟨fn,tmps,assign,body,hy,hR⟩:=HY.out pre ⟨A,by rw[HN.out];exact hA⟩ wr hj (by
    have:=congrArg List.length hpre;rw[List.length_map] at this;rw[this,z50,List.length_map,List.length_range,HN.out];have:=hk.out.1;omega)
   dsimp only at hy;have Hpre:=zh hpre;clear hes hcs hj hpre hJ
   gi_wp2
   refine hR.mono ?_;rintro e W3 (⟨rfl,hJ3,hk3⟩|⟨rfl,hJx3⟩)
   ·have HJ3:Hid (∃pre:List (_root_.Fin ks.length),pre.map _root_.Fin.val=z50 ks.length (k+1)∧J pre W3):=⟨_,by
     rw[List.map_append,Hpre.out,y1b];simp only[List.map_cons,List.map_nil]
     congr 2
     have:=hk.out.1;have:=HN.out;omega,hJ3⟩
    have HB3:=zh (hk3 hB.out);have hm:Hid ((A:Int)-1=(N:Int)-1-((k+1:Nat):Int)∧k+1≤N):=by have:=hk.out;exact⟨by omega,by omega⟩
    clear hJ3 hk3
    gi_wp2
    go_roundw
    case rel=>exact⟨k+1,_,rfl,by first|exact hm|go_num,HJ3,HB3⟩
    case measure=>simp[intOf]<;>omega
   ·have HJx:=zh hJx3;clear hJx3
    gi_wp2
    refine bodyPost_ret (results_none rfl _ _ _) rfl ?_;exact⟨⟨_,rfl⟩,.inr ⟨_,trivial,HJx.out⟩⟩
  ·have hkk:k=N:=by have:=hk.out;omega
   gi_wp2
   go_end0
   obtain⟨pre,h1,h2⟩:=hJ.out;exact⟨⟨_,rfl⟩,.inl ⟨pre,by rw[h1,hkk,HN.out],h2⟩⟩
theorem q29 (F:Fence)(n:Nat)(hfn:F.fn 114)(hro:F.round=none)(a:Option Addr)(m c:Nat)(w:World):
  CallsIn F n Tryz.prog 114 #[.slice a m c] w fun e w'=>e=.returned (.func (.func 152) #[] #[.pointer (some ⟨w.heap.size,0,none⟩)])∧w'=w.alloc (.cells #[.slice a m c] CSS):=by
 refine callsIn_of_wp Tryz.func114 rfl hfn ?_ hro;simp only[Tryz.ntmps114,List.size_toArray,List.length_cons,List.length_nil,Nat.reduceAdd,Nat.reduceSub,Array.replicate_succ,Array.replicate_zero,List.push_toArray,List.append_toArray,List.nil_append,List.cons_append]
 gi_wp2
 go_ret;exact⟨rfl,rfl⟩
theorem x1c (F:Fence)(n:Nat)(hfn:F.fn 152)(hro:F.round=none)(hn:1≤n)(Bv:Nat)(v:Value)(ks:List ByteArray)(hks:ks.length≤100000)(w:World)(hb:BK w Bv v ks):
  SeqStopsK F n Tryz.prog 152 #[.pointer (some ⟨Bv,0,none⟩)] (fun x:_root_.Fin ks.length=> #[Value.int .i64 (x.val:Nat),Value.string (sa ks x.val)]) (fun A B=>BK A Bv v ks→BK B Bv v ks)
   (fun xs=>xs.map _root_.Fin.val=z50 ks.length ks.length) (fun _=>True) ks.length w:=fun l J Jx W hW _ _ hY h0=>
 x9b F n hfn hro hn l Bv v ks hks J Jx hY W ⟨(hW.block Bv hb.1.lt).trans hb.1,hb.2.below hW (zlr _)⟩ h0
end Go.Proofs.YtdnfhjfbanhhcaaGreatDoor
