/-
  Steps.
-/
import Derived.Test.YtdnfhjfbanhhcaaGreatDoorQLBk34
namespace Go.Proofs.YtdnfhjfbanhhcaaGreatDoor
open Go Go.RowKit Go.Shelf
attribute [local go_sem] Oper.semAt_some
abbrev PLT:TypeId:=88
abbrev SIT:TypeId:=76
abbrev IT:TypeId:=3
theorem q0q {a b:List Nat}{i:Nat}(h:i<a.length):na (a++b) i=na a i:=by
 unfold na;simp[List.getD,List.getElem?_append_left h]
theorem x5n (a:List Nat)(x:Nat):na (a++[x]) a.length=x:=by
 unfold na;simp[List.getD]
def wrB (V:ByteArray)(ps pre:List Nat):List PgW:=(List.range pre.length).map (fun i=>(na ps i,z1l 3 (beL (if i=0 then 0 else na ps (i-1)) 2++bn (cutS V (na pre i)))))
def z7p (ps:List Nat)(n:Nat)(pre:List Nat):List Nat:=(List.range pre.length).foldl (fun L i=>L.set (na pre i) (na ps i)) (List.replicate n 0)
theorem x9c (V:ByteArray)(ps pre:List Nat)(x:Nat):wrB V ps (pre++[x])=wrB V ps pre++[(na ps pre.length,z1l 3 (beL (if pre.length=0 then 0 else na ps (pre.length-1)) 2++bn (cutS V x)))]:=by
 unfold wrB;rw[zla,List.length_singleton,List.range_succ,List.map_append,List.map_cons,List.map_nil,x5n];have e:∀i∈List.range pre.length,(na ps i,z1l 3 (beL (if i=0 then 0 else na ps (i-1)) 2++bn (cutS V (na (pre++[x]) i))))=(na ps i,z1l 3 (beL (if i=0 then 0 else na ps (i-1)) 2++bn (cutS V (na pre i)))):=fun i hi=>by
  rw[q0q (List.mem_range.1 hi)]
 rw[List.map_congr_left e]
theorem q3a (V:ByteArray)(ps pre:List Nat):(wrB V ps pre).length=pre.length:=by simp[wrB]
theorem y1c {α β:Type}{f g:β→α→β}:∀(l:List α) (b:β),(∀b,∀a∈l,f b a=g b a)→l.foldl f b=l.foldl g b
 | [],_,_=>rfl
 | a::r,b,h=>by
  rw[List.foldl_cons,List.foldl_cons,h b a (by simp)];exact y1c r _ (fun b a ha=>h b a (by simp[ha]))
theorem y1d (ps:List Nat)(n:Nat)(pre:List Nat)(x:Nat):z7p ps n (pre++[x])=(z7p ps n pre).set x (na ps pre.length):=by
 unfold z7p;rw[zla,List.length_singleton,List.range_succ,List.foldl_append,List.foldl_cons,List.foldl_nil,x5n]
 congr 1
 refine y1c _ _ fun b a ha=> ?_
 rw[q0q (List.mem_range.1 ha)]
theorem q5e (L:List Nat)(i x j:Nat)(h:i<L.length):na (L.set i x) j=if j=i then x else na L j:=by
 unfold na;simp only[List.getD_eq_getElem?_getD,List.getElem?_set]
 by_cases h1:i=j
 ·subst h1;simp[h]
 ·rw[if_neg h1,if_neg (by omega)]
theorem y9o (ps pre:List Nat):∀(r:List Nat) (L:List Nat),(r.foldl (fun L i=>L.set (na pre i) (na ps i)) L).length=L.length
 | [],_=>rfl
 | a::r,L=>by rw[List.foldl_cons,y9o ps pre r];simp
theorem z6z (ps:List Nat)(n:Nat)(pre:List Nat):(z7p ps n pre).length=n:=by
 unfold z7p;rw[y9o];simp
theorem q5f (n j:Nat):na (List.replicate n 0) j=0:=by
 unfold na;simp only[List.getD_eq_getElem?_getD,List.getElem?_replicate];split<;>rfl
theorem z94 (n k:Nat):(z50 n k).length=k:=by simp[z50]
theorem q3b {n k i:Nat}(h:i<k):na (z50 n k) i=n-1-i:=by
 unfold na z50;simp[List.getD,h]
theorem q5g {a b:List Nat}(h:a.length=b.length)(hn:∀i,i<a.length→na a i=na b i):a=b:=by
 refine List.ext_getElem h fun i h1 h2=> ?_
 have:=hn i h1;unfold na at this
 simpa [List.getD,h1,h2] using this
theorem y1e (ps:List Nat)(n:Nat):∀k,k≤n→∀j,j<n→na (z7p ps n (z50 n k)) j=if n-1-j<k then na ps (n-1-j) else 0
 | 0,_,j,_=>by
  rw[if_neg (by omega)];show na (List.replicate n 0) j=0;exact q5f n j
 | k+1,hk,j,hj=>by
  rw[y1b,y1d,q5e _ _ _ _ (by rw[z6z];omega),z94,y1e ps n k (by omega) j hj]
  by_cases h1:j=n-1-k
  ·rw[if_pos h1,if_pos (by omega)]
   congr 1;omega
  ·rw[if_neg h1]
   by_cases h2:n-1-j<k
   ·rw[if_pos h2,if_pos (by omega)]
   ·rw[if_neg h2,if_neg (by omega)]
theorem x5o (ps:List Nat)(n:Nat)(h:n≤ps.length):z7p ps n (z50 n n)=(ps.take n).reverse:=by
 refine q5g (by rw[z6z,List.length_reverse,zlk];omega) fun i hi=> ?_
 rw[z6z] at hi;rw[y1e ps n n (zlr _) i hi,if_pos (by omega),x4g h hi]
theorem q3c (V:ByteArray)(ps:List Nat)(n:Nat):wrB V ps (z50 n n)=(List.range n).map (pcW V ps n):=by
 unfold wrB;rw[z94];refine List.map_congr_left fun i hi=> ?_
 rw[q3b (List.mem_range.1 hi)];rfl
def pgv (L:List Nat):List Value:=L.map (fun p=>Value.int .i64 (p:Nat))
theorem x5p:∀(L:List Nat),pgE.row L=pgv L
 | []=>rfl
 | x::r=>by rw[Elt.row,x5p r];rfl
def PRow (w:World)(g:Nat)(L:List Nat):Prop:=w.heap[g]? =some (.cells (pgv L).toArray IT (0,0))
theorem PRow.set {w:World}{g:Nat}{L:List Nat}(h:PRow w g L)(i x:Nat):PRow (w.setCell ⟨g,i,none⟩ (.int .i64 (x:Nat))) g (L.set i x):=by
 have:=heap_setCell_same w g i (pgv L).toArray IT (.int .i64 (x:Nat)) h;unfold PRow pgv at*;rw[this];simp[List.map_set]
theorem PRow.ev {w:World}{g n:Nat}{L:List Nat}(h:PRow w g L)(hn:L.length=n)(hm:n≤maxLen):EV pgE w (.slice (some ⟨g,0,none⟩) n n) L:=by
 subst hn;refine q4f (T:=IT) (m:=(0,0)) ?_ hm rfl;rw[x5p];exact h
theorem x9d (n:Nat):(madeCells (Value.int .i64 0).cells (n*1)).toList=pgv (List.replicate n 0):=by
 rw[show pgv (List.replicate n 0)=List.replicate n (Value.int .i64 0) by simp[pgv]];show(madeCells #[Value.int .i64 0] (n*1)).toList=_;rw[toList_madeCells_one,Nat.mul_one]
theorem z7q {F:Fence}{n:Nat}{P:Program}{w:World}{ops:Array Oper}{rest:List Oper}{o:Oper}{a:Act}{Q:Exit→Act→World→Prop}
  (hg:o.guard=none) (l c:Operand) (t:TypeId) (hop:o.op=Op.makeSlice t l c)
  (h1:P.underlying t=some (.slice IT)) (h2:(P.info? IT).map (fun i=>(i.zero,i.size,i.bytes))=some (some (.int .i64 0),1,8))
  (m:Nat) (hl:a.eval l=.int .i64 (m:Nat)) (hc:a.eval c=.int .i64 (m:Nat)) (b:m*8≤140737488355328)
  (hK:∀w',PRow w' w.heap.size (List.replicate m 0)→Below w.heap.size w w'→wpListIn F n P ops Q rest (a.put o.dst (.slice (some ⟨w.heap.size,0,none⟩) m m)) w'):
  wpListIn F n P ops Q (o::rest) a w:=by
 refine wpListIn_plain hg fun K hK'=> ?_
 obtain⟨i0,hi,hz0,hz1,hz2⟩:=info_parts h2;obtain⟨w',hrun,hown,hgrow⟩:=run_make_full (P:=P) w w.heap.size t IT i0 (.int .i64 0) 1 h1 hi hz0 hz1 .i64 .i64 m (by rw[hz2];omega) (by unfold maxLen;omega) (zlr _);have hr:PRow w' w.heap.size (List.replicate m 0):=by
  show w'.heap[w.heap.size]? =_;rw[←x9d];exact z66 hown
 unfold Oper.wpIn;refine⟨?_,?_⟩
 ·simp[Oper.about,hop]
 ·rw[Oper.semAt_plain F _ _ (by rw[hop];intro c hc';cases hc')];simp[execOp,hop,hl,hc,hrun,Result.andThen];exact hK' _ _ (hK w' hr ((zbr w.heap.size w).grown hgrow (zlr _) (by intro k hk;cases hk)))
def NCF (w:World)(F:Nat→Prop):Prop:=∀i,F i→∃o,w.heap[i]? =some o∧o.isCells=false
section
variable {w w':World} {F:Nat→Prop}
theorem NCF.not (h:NCF w F){b:Nat}{A:Array Value}{T:TypeId}{fz:Nat×Nat}(hb:w.heap[b]? =some (.cells A T fz)):¬F b:=fun hF=>by
 obtain⟨o,h1,h2⟩:=h b hF;rw[hb] at h1;injection h1 with h1
 subst h1;cases h2
theorem ES.nc {α:Type}{E:Elt α}{a:Option Addr}{l:List α}(h:ES E w a l)(t:Turn F w w')(hF:NCF w F):ES E w' a l:=by
 rcases h with h|⟨g,o,rfl,⟨A,T,fz,ht,hT⟩,hc⟩
 ·exact .inl h
 ·have hg:¬F g:=hF.not ht;refine .inr ⟨g,o,rfl,⟨A,T,fz,t.hg ht hg,hT⟩,fun j u hu=> ?_⟩;have h1:=hc j u hu;rw[t.cell (p:=⟨g,o+j,none⟩) (block_lt_of_cell h1) hg];exact h1
theorem EV.nc {α:Type}{E:Elt α}{v:Value}{l:List α}(h:EV E w v l)(t:Turn F w w')(hF:NCF w F):EV E w' v l:=by
 obtain⟨a,c,rfl,hs,h1⟩:=h;exact⟨a,c,rfl,hs.nc t hF,h1⟩
theorem z0x.nc (h:z0x w)(t:Turn F w w')(hF:NCF w F):z0x w':=fun j hj=>by
 have h1:=h j hj;have h2:¬F 2:=by
  unfold World.cell? at h1
  cases hg:w.heap[2]? with
  | none=>simp only[hg] at h1;cases h1
  | some x=>
   simp only[hg] at h1
   cases x with
   | cells A T fz=>exact hF.not hg
   | _=>cases h1
 rw[t.cell (p:=⟨2,j,none⟩) (block_lt_of_cell h1) h2];exact h1
theorem LyI.nc {gl B:Nat}{ps:List Nat}{ws:List PgW}(h:LyI w gl B ps ws)(t:Turn F w w')(hF:NCF w F):LyI w' gl B ps ws:=by
 obtain⟨vp,vw,gs,h1,h2,h3,h4⟩:=h.ex;refine⟨⟨vp,vw,gs,t.hg h1 (hF.not h1),⟨h2.1.nc t hF,h2.2⟩,⟨h3.1,?_⟩,h4.mono fun g l hr=>t.hg hr (hF.not hr)⟩,h.lt,znt h.bz t.size,h.wo.nc t hF,h.wg⟩
 rcases h3.2 with h5|⟨b,cap,cur,rfl,hb,hgb,h5⟩
 ·exact .inl h5
 ·exact .inr ⟨b,cap,cur,rfl,hb,t.hg hgb (hF.not hgb),h5⟩
theorem LF.nc {w0:World}{gl B:Nat}(h:Turn (LF w0 gl B) w0 w)(t:Turn F w w')(hB:∀i,F i→w0.heap.size≤i):Turn (LF w0 gl B) w0 w':=h.step t (fun i hi hl=>by have:=hB i hi;omega)
end
structure ChI (w0 W:World) (s0 gl B b2 g6 g7 gp:Nat) (V:ByteArray) (ps pre:List Nat) (ws:List PgW):Prop where
 ly:LyI W gl B (ps.drop pre.length) (ws++wrB V ps pre)
 bl:Boxed W b2 PLT (pt gl)
 b6:Boxed W g6 SIT (.slice (some ⟨gp,0,none⟩) (nP V.size) (nP V.size))
 b7:Boxed W g7 IT (.int .i64 ((if pre.length=0 then 0 else na ps (pre.length-1):Nat):Int))
 row:PRow W gp (z7p ps (nP V.size) pre)
 lt:Turn (LF w0 gl B) w0 W
 sz:s0≤W.heap.size
theorem ChI.from (w0:World)(s0 gl B b2 g6 g7 gp:Nat)(V:ByteArray)(ps:List Nat)(ws:List PgW)(hs:w0.heap.size≤s0){β:Type}(f:β→List Nat):OwnFrom s0 (fun pre W=>ChI w0 W s0 gl B b2 g6 g7 gp V ps (f pre) ws):=fun pre W W' row h hg hr=>by
 have t:Turn (fun i=>row=some i) W W':=⟨hg.os,hg.tape,hg.output,hg.size,fun i hi hne=>hg.block i hi (fun e=>hne e.symm)⟩
 have hF:NCF W (fun i=>row=some i):=fun i hi=>(hr i hi).2
 exact⟨h.ly.nc t hF,t.hg h.bl (hF.not h.bl),t.hg h.b6 (hF.not h.b6),t.hg h.b7 (hF.not h.b7),t.hg h.row (hF.not h.row),LF.nc h.lt t (fun i hi=>znt hs (hr i hi).1),znt h.sz t.size⟩
theorem ChI.ext {w0 W W':World}{s0 gl B b2 g6 g7 gp:Nat}{V:ByteArray}{ps pre:List Nat}{ws:List PgW}(h:ChI w0 W s0 gl B b2 g6 g7 gp V ps pre ws)(hb:Below W.heap.size W W'):ChI w0 W' s0 gl B b2 g6 g7 gp V ps pre ws:=
 have t:Turn (fun _=>False) W W':=q5w hb;have hF:NCF W (fun _=>False):=fun _ hi=>hi.elim
 ⟨h.ly.nc t hF,t.hg h.bl (hF.not h.bl),t.hg h.b6 (hF.not h.b6),t.hg h.b7 (hF.not h.b7),t.hg h.row (hF.not h.row),LF.nc h.lt t (fun _ hi=>hi.elim),znt h.sz t.size⟩
end Go.Proofs.YtdnfhjfbanhhcaaGreatDoor
namespace Go.Proofs.YtdnfhjfbanhhcaaGreatDoor
open Go Go.RowKit Go.Shelf
attribute [local go_sem] Oper.semAt_some
theorem y9p:∀(ks:List ByteArray),strE.row ks=sv ks
 | []=>rfl
 | x::r=>by rw[Elt.row,y9p r];rfl
theorem q3d {w:World}{B E:Nat}{a:Option Addr}{n c:Nat}{L:List Nat}(h:w.ownsRow B E 1 (.slice a n c) L.length (bv L)):Src w a L:=by
 obtain⟨a',c',e,hs,_⟩:=(Sl.own h).arg;injection e with e _ _
 rw[e];exact hs
theorem y1f {F:Nat→Prop}{w w':World}(t:Turn F w w')(hF:∀i,F i→∃A T fz,w.heap[i]? =some (.cells A T fz)){k:Nat}{o:Obj}(hk:w.heap[k]? =some o)(ho:o.isCells=false):w'.heap[k]? =some o:=
 t.hg hk (fun hf=>by
  obtain⟨A,T,fz,h⟩:=hF k hf;rw[hk] at h;injection h with h
  subst h;cases ho)
theorem LyI.cells {w:World}{gl B:Nat}{ps:List Nat}{ws:List PgW}(h:LyI w gl B ps ws):∀i,LF w gl B i→∃A T fz,w.heap[i]? =some (.cells A T fz):=fun i hi=>by
 obtain⟨A,T,fz,h1,_⟩:=h.tf i hi;exact⟨A,T,fz,h1⟩
theorem ChI.round {w W W1 W2:World}{s0 gl B b2 g6 g7 gp k A:Nat}{V:ByteArray}{ps pre:List Nat}{ws:List PgW}{L:List Nat}(hk:pre.length=k)(hBw:B≤w.heap.size)(h7w:w.heap.size≤g7)(hpw:w.heap.size≤gp)(h67:gp≠g7)
  (h:ChI w W1 s0 gl B b2 g6 g7 gp V ps pre ws) (hb1:Below W.heap.size W W1) (hL:beL (if k=0 then 0 else na ps (k-1)) 2++bn (cutS V A)=L)
  (hly:LyI W2 gl B ((ps.drop k).drop 1) ((ws++wrB V ps pre)++[(na ps k,z1l 3 L)])) (t:Turn (LF W1 gl B) W1 W2):
  (Boxed W2 g7 IT (.int .i64 ((if k=0 then 0 else na ps (k-1):Nat):Int))∧Boxed W2 g6 SIT (.slice (some ⟨gp,0,none⟩) (nP V.size) (nP V.size))∧PRow W2 gp (z7p ps (nP V.size) pre))∧
  KeepsFrom s0 W ((W2.setCell ⟨g7,0,none⟩ (.int .i64 (na ps k:Nat))).setCell ⟨gp,A,none⟩ (.int .i64 (na ps k:Nat)))∧
  (∀g8 v ks,BK W g8 v ks→BK ((W2.setCell ⟨g7,0,none⟩ (.int .i64 (na ps k:Nat))).setCell ⟨gp,A,none⟩ (.int .i64 (na ps k:Nat))) g8 v ks)∧
  ChI w ((W2.setCell ⟨g7,0,none⟩ (.int .i64 (na ps k:Nat))).setCell ⟨gp,A,none⟩ (.int .i64 (na ps k:Nat))) s0 gl B b2 g6 g7 gp V ps (pre++[A]) ws:=by
 have hl1:=h.ly;rw[hk] at hl1;have b7:=hl1.hg t h.b7;rw[hk] at b7;have b6:=hl1.hg t h.b6;have bl:=hl1.hg t h.bl;have row:PRow W2 gp _:=hl1.hg t h.row;refine⟨⟨b7,b6,row⟩,?_⟩;have t2:Turn (fun i=>i=g7∨i=gp) W2 ((W2.setCell ⟨g7,0,none⟩ (.int .i64 (na ps k:Nat))).setCell ⟨gp,A,none⟩ (.int .i64 (na ps k:Nat))):=((Turn.refl _ W2).setCell (p:=⟨g7,0,none⟩) _ (fun _=> .inl rfl)).setCell (p:=⟨gp,A,none⟩) _ (fun _=> .inr rfl);have hT:TyF W2 (fun i=>i=g7∨i=gp) IT:=fun i hi=>by
  rcases hi with rfl|rfl
  ·exact⟨_,_,b7⟩
  ·exact⟨_,_,row⟩
 have hb7:Boxed ((W2.setCell ⟨g7,0,none⟩ (.int .i64 (na ps k:Nat))).setCell ⟨gp,A,none⟩ (.int .i64 (na ps k:Nat))) g7 IT (.int .i64 (na ps k:Nat)):=by
  have h1:Boxed (W2.setCell ⟨g7,0,none⟩ (.int .i64 (na ps k:Nat))) g7 IT (.int .i64 (na ps k:Nat)):=by
   have:=heap_setCell_same W2 g7 0 _ IT (.int .i64 (na ps k:Nat)) b7;unfold Boxed;simpa using this
  exact(Below.heap_setCell _ ⟨gp,A,none⟩ _ g7 h67.symm).trans h1
 have hrow:PRow ((W2.setCell ⟨g7,0,none⟩ (.int .i64 (na ps k:Nat))).setCell ⟨gp,A,none⟩ (.int .i64 (na ps k:Nat))) gp (z7p ps (nP V.size) (pre++[A])):=by
  rw[y1d,hk];refine PRow.set (w:=W2.setCell ⟨g7,0,none⟩ (.int .i64 (na ps k:Nat))) ?_ A _;exact(Below.heap_setCell W2 ⟨g7,0,none⟩ _ gp h67).trans row
 generalize (W2.setCell ⟨g7,0,none⟩ (.int .i64 (na ps k:Nat))).setCell ⟨gp,A,none⟩ (.int .i64 (na ps k:Nat))=W4 at*;have hc4:∀i,(i=g7∨i=gp)→∃A T fz,W2.heap[i]? =some (.cells A T fz):=fun i hi=>by
  obtain⟨A,fz,h1⟩:=hT i hi;exact⟨A,IT,fz,h1⟩
 refine⟨⟨znt hb1.size (znt t.size t2.size),fun j o _ hj ho=>y1f t2 hc4 (y1f t hl1.cells ((hb1.block j (zag.1 hj).1).trans hj) ho) ho⟩,fun g8 v ks hbk=>⟨?_,?_⟩,?_⟩
 ·have h1:Boxed W1 g8 CSS v:=(hb1.block _ hbk.1.lt).trans hbk.1;have h2:=hl1.hg t h1;exact t2.hg h2 (hT.not h2 (by decide))
 ·exact((hbk.2.ext hb1).turn z5a t hl1.tf).tur t2 hT rfl
 ·have e1:(pre++[A]).length=k+1:=by rw[zla,hk];rfl
  refine⟨?_,t2.hg bl (hT.not bl (by decide)),t2.hg b6 (hT.not b6 (by decide)),?_,hrow,?_,znt h.sz (znt t.size t2.size)⟩
  ·rw[e1,x9c,hk,hL,←List.append_assoc];rw[List.drop_drop] at hly;exact hly.tz t2 (fun i hi=>⟨by rcases hi with rfl|rfl<;>omega,by
    obtain⟨A,fz,h1⟩:=hT i hi;exact⟨A,IT,fz,h1,by decide,by decide⟩⟩)
  ·rw[e1,if_neg (by omega),Nat.add_sub_cancel];exact hb7
  ·exact LF.tz (LF.trans h.lt t) t2 (fun i hi=>by rcases hi with rfl|rfl<;>omega)
set_option maxRecDepth 100000 in
set_option maxHeartbeats 2000000 in
theorem x5q (gl B:Nat)(V:ByteArray)(ps:List Nat)(ws:List PgW)(w:World)(hI:LyI w gl B ps ws)(h64:64<V.size)(hV:V.size≤1000000)(hn:nP V.size≤ps.length)(hpb:∀x∈ps,2≤x∧x<1024)(hwl:ws.length≤50000):
  Calls Tryz.prog 81 #[pt gl,.string V] w fun e w'=>∃u,e=.returned u∧EV pgE w' u (ps.take (nP V.size)).reverse∧LyI w' gl B (ps.drop (nP V.size)) (ws++(List.range (nP V.size)).map (pcW V ps (nP V.size)))∧Turn (LF w gl B) w w':=by
 have HI:=zh hI;have HV:=zh (zai h64 (zai hV (zai hn (zai hpb hwl))));obtain⟨w0,hw0⟩:∃w0,w.alloc (.cells #[pt gl] PLT)=w0:=⟨_,rfl⟩
 have hb0:Below w.heap.size w w0:=by rw[←hw0];exact(zbr _ _).alloc (zlr _) _
 have hbl:Boxed w0 w.heap.size PLT (pt gl):=by rw[←hw0];exact Boxed.new w PLT (pt gl)
 have hP:=zh (x45 Fence.wide 3 trivial trivial trivial rfl (zlr _) V hV w0);have hN2:nP V.size≤2000:=by unfold nP;omega
 have hN0:0<nP V.size:=by unfold nP;omega
 have Hw0:=zh hw0;have Hbl:=zh hbl;have Hb0:=zh hb0;have Hlen:=zh (q2b V);clear hI h64 hV hn hpb hwl hw0 hb0 hbl;refine(callsIn_wide (n:=4)).1 ?_;refine callsIn_of_wp_marks Tryz.func81 rfl trivial ?_ rfl;simp only[Tryz.ntmps81,List.size_toArray,List.length_cons,List.length_nil,Nat.reduceAdd,Nat.reduceSub,Array.replicate_succ,Array.replicate_zero,List.push_toArray,List.append_toArray,List.nil_append,List.cons_append]
 gi_wp2_with (first
  | (refine⟨trivial,?_⟩;gi_at_call 113;rw[Hw0.out];refine hP.out.mono ?_;rintro e w1 ⟨v,rfl,ho,hb1⟩;obtain⟨vn,hvn⟩:∃n,n=(chs V).length:=⟨_,rfl⟩;have ho1:=ho;rw[←y9p] at ho;obtain⟨va,vc,rfl,hes,_⟩:=z1u (E:=strE) ho;rw[Hlen.out])
  | (gi_at_make;refine z7q rfl _ _ _ rfl Tryz.underlying76 y0y (nP V.size) (by rfl) (by rfl) (by omega) ?_;intro w2 hr2 hb2)
  | (refine⟨trivial,?_⟩;gi_at_call 114;refine(q29 Fence.wide 3 trivial rfl _ _ _ _).mono ?_;rintro e w' ⟨rfl,rfl⟩))
 have HW:Hid (∃W3,W3=(((w2.alloc (.cells #[.slice (some ⟨w1.heap.size,0,none⟩) (nP V.size) (nP V.size)] SIT)).alloc (.cells #[.int .i64 0] IT)).alloc (.cells #[.slice va (nP V.size) vc] CSS))):=⟨_,rfl⟩
 obtain⟨W3,hW3⟩:=HW.out;rw[←hW3];have s3:W3.heap.size=w2.heap.size+3:=by rw[hW3];simp
 have hb3:Below w2.heap.size w2 W3:=by
  rw[hW3];exact(((zbr w2.heap.size w2).alloc (zlr _) _).alloc (by simp) _).alloc (by simp;omega) _
 have b6:Boxed W3 w2.heap.size SIT (.slice (some ⟨w1.heap.size,0,none⟩) (nP V.size) (nP V.size)):=by rw[hW3];exact((Boxed.new w2 _ _).alloc _).alloc _
 have b7:Boxed W3 (w2.heap.size+1) IT (.int .i64 0):=by
  rw[hW3];have:=(Boxed.new (w2.alloc (.cells #[.slice (some ⟨w1.heap.size,0,none⟩) (nP V.size) (nP V.size)] SIT)) IT (.int .i64 0)).alloc (.cells #[.slice va (nP V.size) vc] CSS)
  rwa [World.size_alloc] at this
 have b8:Boxed W3 (w2.heap.size+1+1) CSS (.slice va (nP V.size) vc):=by
  rw[hW3];have:=Boxed.new ((w2.alloc (.cells #[.slice (some ⟨w1.heap.size,0,none⟩) (nP V.size) (nP V.size)] SIT)).alloc (.cells #[.int .i64 0] IT)) CSS (.slice va (nP V.size) vc)
  rwa [World.size_alloc,World.size_alloc] at this
 have hB01:Below w.heap.size w w1:=Hb0.out.trans (hb1.mono Hb0.out.size);have hB02:Below w.heap.size w w2:=hB01.trans (hb2.mono hB01.size);have hB03:Below w.heap.size w W3:=hB02.trans (hb3.mono hB02.size);have hz01:=hb1.size;have hz12:=hb2.size;have hlw0:=Hbl.out.lt;have hbl3:Boxed W3 w.heap.size PLT (pt gl):=(hb3.block _ (by omega)).trans ((hb2.block _ (by omega)).trans ((hb1.block _ (by omega)).trans Hbl.out));have hr3:PRow W3 w1.heap.size (List.replicate (nP V.size) 0):=(hb3.block _ (zag.1 hr2).1).trans hr2;have hev:EV strE W3 (.slice va (nP V.size) vc) (chs V):=by
  have h1:EV strE w1 (.slice va (chs V).length vc) (chs V):=z1u (E:=strE) ho;rw[Hlen.out] at h1;exact(h1.below hb2 (zlr _)).below hb3 (zlr _)
 have hbk:BK W3 (w2.heap.size+1+1) (.slice va (nP V.size) vc) (chs V):=⟨b8,hev⟩
 have hcl:(chs V).length≤100000:=by rw[Hlen.out];omega
 have h0:ChI w W3 W3.heap.size gl B w.heap.size w2.heap.size (w2.heap.size+1) w1.heap.size V ps (([]:List (_root_.Fin (chs V).length)).map _root_.Fin.val) ws:=
  ⟨by show LyI W3 gl B ps (ws++[]);rw[List.append_nil];exact HI.out.ext hB03,hbl3,b6,b7,hr3,q5w hB03,zlr _⟩
 have hBw:=HI.out.bz;have hgB:=HI.out.lt;have hlw1:w1.heap.size<w2.heap.size:=(zag.1 hr2).1;have hwz:w.heap.size≤w1.heap.size:=hB01.size;clear b6 b7 b8 hbl3 hr3 hev hb3 hr2 hes ho ho1 hb1 hb2 hW3 hB01 hB02;have HBK:=zh hbk;have HB03:=zh hB03;have H0:=zh h0;clear hbk hB03 h0;generalize hg7:w2.heap.size+1=g7 at*;generalize hg8:g7+1=g8 at*;generalize hg6:w2.heap.size=g6 at*;generalize hgp:w1.heap.size=gp at*;refine wpIn_rangeFunc_ownG rfl (by omega) (gf:=152) (lb:= #[.pointer (some ⟨g8,0,none⟩)]) rfl trivial (enters_of Tryz.func152 (by kernel_rfl) rfl)
  (x1c Fence.wide 3 trivial rfl (by omega) g8 (.slice va (nP V.size) vc) (chs V) hcl W3 HBK.out) (fun h k a=>k (h a))
  (fun W l o o' _ hl ho _ hbx=>by
   have t:Turn (fun i=>i=l) W (W.putObj l o'):=q51 (grownBy_putObj' W l o');have hF:NCF W (fun i=>i=l):=fun i e=>⟨o,by rw[e];exact hl,ho⟩
   exact⟨t.hg hbx.1 (hF.not hbx.1),hbx.2.nc t hF⟩) (zbr _ _) (fun _=>rfl)
  (fun pre W=>ChI w W W3.heap.size gl B w.heap.size g6 g7 gp V ps (pre.map _root_.Fin.val) ws) (fun _ _ _=>False)
  (ChI.from w W3.heap.size gl B w.heap.size g6 g7 gp V ps ws HB03.out.size _) (fun _ _ _ _ _ hs _ _=>hs) H0.out
  (fun x=>{tmps:= #[pt gl,.string V,.pointer (some ⟨w.heap.size,0,none⟩),undef,.slice none 0 0,.slice va (nP V.size) vc,.pointer (some ⟨g6,0,none⟩),.pointer (some ⟨g7,0,none⟩),.int .i64 (x.val:Nat),.string (sa (chs V) x.val),undef,undef,.string V,.slice va (nP V.size) vc,.slice va (nP V.size) vc,.int .i64 (nP V.size:Nat),.slice (some ⟨gp,0,none⟩) (nP V.size) (nP V.size),.slice va (nP V.size) vc,.func (.func 152) #[] #[.pointer (some ⟨g8,0,none⟩)],.int .i64 (x.val:Nat),.string (sa (chs V) x.val),undef,undef,undef,undef,undef,undef,undef,undef,undef,undef,undef,undef,undef,undef],defers:=[]}) ?assign ?body ?done ?stop
 case assign=>
  intro l x W K hK
  gi_wp2
  exact hK
 case stop=>
  rintro D c pre W _ _ h _;exact h.elim
 case body=>
  rintro l pre ⟨A,hA⟩ W hch hlt;dsimp only;have hAn:A<nP V.size:=by rw[Hlen.out] at hA;exact hA
  have hsx:sa (chs V) A=cutS V A:=q4k V _ _ hAn;have hcs:=y8u hAn;rw[hsx];obtain⟨k,hk⟩:∃k,(pre.map _root_.Fin.val).length=k:=⟨_,rfl⟩
  have hkl:k<nP V.size:=by rw[←hk,List.length_map];exact Nat.lt_of_lt_of_eq hlt Hlen.out
  obtain⟨NX,hNX⟩:∃NX:Nat,(if k=0 then 0 else na ps (k-1))=NX:=⟨_,rfl⟩
  have hNXr:(NX=0∨2≤NX)∧NX<1024:=by
   rw[←hNX]
   by_cases h0:k=0
   ·rw[if_pos h0];omega
   ·rw[if_neg h0];have:=HV.out.2.2.2.1 (na ps (k-1)) (z4f (by have:=HV.out.2.2.1;omega));omega
  have hcok:chOk (NX:Int) (cutS V A)=true:=by unfold chOk z6k z6l;simp;omega
  have hB1:chB (NX:Int) (cutS V A)=beL NX 2++bn (cutS V A):=by unfold chB;rw[if_pos hcok];rfl
  have hE:=x4x (NX:Int) (cutS V A) W (by omega);rw[hB1] at hE;generalize chE (NX:Int) (cutS V A)=EE at*;have hb2:=hch.bl.cell;have hb6:=hch.b6.cell;have hb7:=hch.b7;rw[hk,hNX] at hb7;have hb7c:=hb7.cell;have Hch:=zh hch;have HE:=zh hE;have Hk:=zh (zai hk (zai hkl (zai hNX hcs)));have HA:=zh hAn;clear hch hE hk hkl hNX hNXr hcok hB1 hsx hcs hlt hb7 hAn;generalize hS:cutS V A=S at*;have HS:=zh hS;clear hS
  gi_wp2_with fail
  refine⟨trivial,(CallsIn.inRound l (callsIn_wide.2 HE.out)).mono ?_⟩;rintro e W1 ⟨v,rfl,ho,hb1⟩;obtain⟨a1,c1,rfl,_⟩:=(Sl.own ho).arg;obtain⟨L,hL⟩:∃L,beL NX 2++bn S=L:=⟨_,rfl⟩
  obtain⟨m,hm⟩:∃m,L.length=m:=⟨_,rfl⟩
  rw[hL] at ho⊢
  rw[hm] at ho⊢
  have hm4:m≤504:=by
   rw[←hm,←hL,zla,z1b];have:=Hk.out.2.2.2.2;have e1:=z2h S;omega
  have hb8:B8 L:=by rw[←hL];exact B8.append (x93 _ _) (x7b _)
  have hch1:=ChI.ext Hch.out hb1;have d2:=hch1.bl.cell;have d6:=hch1.b6.cell;have HB1:=zh hb1;have Ho:=zh ho;have HL:=zh (zai hL (zai hm (zai hm4 hb8)));have Hch1:=zh hch1;clear hb1 ho hL hm hm4 hb8 hch1 HE Hch hb2 hb6 hb7c
  gi_wp2_with fail
  have hp0:0<(ps.drop (pre.map _root_.Fin.val).length).length:=by
   rw[zld,Hk.out.1];have:=HV.out.2.2.1;have:=Hk.out.2.1;omega
  have hwl:(ws++wrB V ps (pre.map _root_.Fin.val)).length≤100000:=by
   rw[zla,q3a,Hk.out.1];have:=HV.out.2.2.2.2;have:=Hk.out.2.1;omega
  refine⟨trivial,(CallsIn.inRound l (callsIn_wide.2 (z93 gl B 3 m c1 a1 L _ _ W1 Hch1.out.ly hp0 hwl HL.out.2.1 (by omega) (by omega) HL.out.2.2.1 HL.out.2.2.2 (q3d (c:=c1) (by rw[HL.out.2.1];exact Ho.out))))).mono ?_⟩;rintro e W2 ⟨rfl,hly,ht⟩;rw[z9j,Nat.add_zero,Hk.out.1] at hly⊢
  have hrd:=ChI.round (w:=w) (W:=W) (W1:=W1) (W2:=W2) (b2:=w.heap.size) (g6:=g6) (g7:=g7) (gp:=gp) (s0:=W3.heap.size) Hk.out.1 hBw (by omega) hwz (by omega) Hch1.out HB1.out (by rw[Hk.out.2.2.1,HS.out];exact HL.out.1) hly ht;rw[Hk.out.2.2.1] at hrd;obtain⟨⟨y7,y6,yr⟩,hrd⟩:=hrd;obtain⟨PG,hPG⟩:∃PG,na ps k=PG:=⟨_,rfl⟩
  rw[hPG] at hrd⊢
  have n67:g6≠g7:=by omega
  have np7:gp≠g7:=by omega
  have x7:=y7.cell;have z7:W2.frozen? ⟨g7,0,none⟩=false:=y7.frozen;have yr':(W2.setCell ⟨g7,0,none⟩ (.int .i64 (PG:Nat))).heap[gp]? =some (.cells (pgv (z7p ps (nP V.size) (pre.map _root_.Fin.val))).toArray IT (0,0)):=(Below.heap_setCell W2 ⟨g7,0,none⟩ _ gp np7).trans yr;have x6:(W2.setCell ⟨g7,0,none⟩ (.int .i64 (PG:Nat))).cell? ⟨g6,0,none⟩=some (.slice (some ⟨gp,0,none⟩) (nP V.size) (nP V.size)):=Boxed.cell (t:=SIT) ((Below.heap_setCell W2 ⟨g7,0,none⟩ _ g6 n67).trans y6);have x8:(W2.setCell ⟨g7,0,none⟩ (.int .i64 (PG:Nat))).cell? ⟨g7,0,none⟩=some (.int .i64 (PG:Nat)):=World.cell?_setCell_same' _ _ _ (by rw[x7];rfl);have hfl:A<(pgv (z7p ps (nP V.size) (pre.map _root_.Fin.val))).length:=by unfold pgv;rw[List.length_map,z6z];exact HA.out
  have xp:∃u,(W2.setCell ⟨g7,0,none⟩ (.int .i64 (PG:Nat))).cell? ⟨gp,A,none⟩=some u:=⟨(pgv (z7p ps (nP V.size) (pre.map _root_.Fin.val)))[A],by simp[World.cell?,yr',hfl]⟩
  obtain⟨u9,xp⟩:=xp;have zp:(W2.setCell ⟨g7,0,none⟩ (.int .i64 (PG:Nat))).frozen? ⟨gp,A,none⟩=false:=by simp[World.frozen?,yr']
  have Hrd:=zh hrd;have hA2:=HA.out;clear hrd hly ht y7 y6 yr yr' hfl hPG hp0 hwl Ho Hch1 d2 d6 hA2;have hAi:(A:Int)<(nP V.size:Nat):=by have:=HA.out;omega
  gi_wp2_with fail
  refine⟨Hrd.out.1,Hrd.out.2.1 g8 _ _,?_⟩;show ChI w _ _ _ _ _ _ _ _ V ps (List.map _root_.Fin.val (pre++[⟨A,hA⟩])) ws;rw[List.map_append];exact Hrd.out.2.2
 case done=>
  intro D ys W hD hys hch hK;have e6:=hch.b6.cell;have hly:=hch.ly;have hrow:=hch.row;have e1:(ys.map _root_.Fin.val).length=nP V.size:=by rw[hys,z94,Hlen.out]
  rw[e1] at hly;rw[hys,Hlen.out,q3c] at hly;rw[hys,Hlen.out,x5o ps (nP V.size) HV.out.2.2.1] at hrow;have hev:=hrow.ev (n:=nP V.size) (by rw[List.length_reverse,zlk];have:=HV.out.2.2.1;omega) (by unfold maxLen;omega);have t:Turn (fun i=>i=D) W (W.putObj D (.deferred none)):=q51 (grownBy_putObj' W D _);have hF:NCF W (fun i=>i=D):=fun i e=>⟨.deferred (some []),(show i=D from e)▸hK,rfl⟩
  have Hfin:Hid (EV pgE (W.putObj D (.deferred none)) (.slice (some ⟨gp,0,none⟩) (nP V.size) (nP V.size)) (ps.take (nP V.size)).reverse∧LyI (W.putObj D (.deferred none)) gl B (ps.drop (nP V.size)) (ws++(List.range (nP V.size)).map (pcW V ps (nP V.size)))∧Turn (LF w gl B) w (W.putObj D (.deferred none))):=
   ⟨hev.nc t hF,hly.nc t hF,LF.nc hch.lt t (fun i hi=>by have:=HB03.out.size;omega)⟩
  clear hch hly hrow hev t hF e1 hys
  gi_wp2
  refine⟨by simp,.inl ⟨_,_,rfl,run_takeDeferred hK,?_⟩⟩;exact⟨_,results_tmp rfl _ _ _,.slice (some ⟨gp,0,none⟩) (nP V.size) (nP V.size),rfl,Hfin.out⟩
end Go.Proofs.YtdnfhjfbanhhcaaGreatDoor
