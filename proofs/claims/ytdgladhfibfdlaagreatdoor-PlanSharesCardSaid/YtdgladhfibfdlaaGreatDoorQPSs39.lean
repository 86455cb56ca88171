/-
  Steps.
-/
import Derived.Test.YtdgladhfibfdlaaGreatDoorQPSs38
namespace Go.Proofs.YtdgladhfibfdlaaGreatDoor
open Go Go.RowKit Go.Shelf Go.Proofs.Tryz
attribute [local go_sem] Oper.semAt_some
theorem z5x:∀(ks:List ByteArray),V5.row ks=sv ks
 | []=>rfl
 | x::r=>by rw[Elt.row,z5x r];rfl
theorem x0i {w:World}{B E:Nat}{a:Option Addr}{n c:Nat}{L:List Nat}(h:w.ownsRow B E 1 (.slice a n c) L.length (bv L)):Src w a L:=by
 obtain⟨a',c',e,hs,_⟩:=(Sl.own h).arg;injection e with e _ _
 rw[e];exact hs
theorem JY {F:Nat→Prop}{w w':World}(t:Zx F w w')(hF:∀i,F i→∃A T fz,w.heap[i]? =some (.cells A T fz)){k:Nat}{o:Obj}(hk:w.heap[k]? =some o)(ho:o.isCells=false):w'.heap[k]? =some o:=
 t.hg hk (fun hf=>by
  obtain⟨A,T,fz,h⟩:=hF k hf;rw[hk] at h;injection h with h
  subst h;cases ho)
theorem LyI.cells {w:World}{gl B:Nat}{ps:List Nat}{ws:List PgW}(h:LyI w gl B ps ws):∀i,LF w gl B i→∃A T fz,w.heap[i]? =some (.cells A T fz):=fun i hi=>by
 obtain⟨A,T,fz,h1,_⟩:=h.tf i hi;exact⟨A,T,fz,h1⟩
theorem ChI.round {w W W1 W2:World}{s0 gl B b2 g6 g7 gp k A:Nat}{V:ByteArray}{ps pre:List Nat}{ws:List PgW}{L:List Nat}(hk:pre.length=k)(hBw:B≤w.heap.size)(h7w:w.heap.size≤g7)(hpw:w.heap.size≤gp)(h67:gp≠g7)
  (h:ChI w W1 s0 gl B b2 g6 g7 gp V ps pre ws) (hb1:zB W W1) (hL:beL (if k=0 then 0 else na ps (k-1)) 2++bn (Iq V A)=L)
  (hly:LyI W2 gl B ((ps.drop k).drop 1) ((ws++wrB V ps pre)++[(na ps k,V7 3 L)])) (t:Zx (LF W1 gl B) W1 W2):
  (Boxed W2 g7 IT (.int .i64 ((if k=0 then 0 else na ps (k-1):Nat):Int))∧Boxed W2 g6 SIT (.slice (some ⟨gp,0,none⟩) (nP V.size) (nP V.size))∧z5w W2 gp (D4 ps (nP V.size) pre))∧
  KeepsFrom s0 W ((W2.setCell ⟨g7,0,none⟩ (.int .i64 (na ps k:Nat))).setCell ⟨gp,A,none⟩ (.int .i64 (na ps k:Nat)))∧
  (∀g8 v ks,BK W g8 v ks→BK ((W2.setCell ⟨g7,0,none⟩ (.int .i64 (na ps k:Nat))).setCell ⟨gp,A,none⟩ (.int .i64 (na ps k:Nat))) g8 v ks)∧
  ChI w ((W2.setCell ⟨g7,0,none⟩ (.int .i64 (na ps k:Nat))).setCell ⟨gp,A,none⟩ (.int .i64 (na ps k:Nat))) s0 gl B b2 g6 g7 gp V ps (pre++[A]) ws:=by
 have hl1:=h.ly;rw[hk] at hl1;have b7:=hl1.hg t h.b7;rw[hk] at b7;have b6:=hl1.hg t h.b6;have bl:=hl1.hg t h.bl;have row:z5w W2 gp _:=hl1.hg t h.row;refine⟨⟨b7,b6,row⟩,?_⟩;have t2:Zx (fun i=>i=g7∨i=gp) W2 ((W2.setCell ⟨g7,0,none⟩ (.int .i64 (na ps k:Nat))).setCell ⟨gp,A,none⟩ (.int .i64 (na ps k:Nat))):=((Zx.refl _ W2).setCell (p:=⟨g7,0,none⟩) _ (fun _=> .inl rfl)).setCell (p:=⟨gp,A,none⟩) _ (fun _=> .inr rfl);have hT:TyF W2 (fun i=>i=g7∨i=gp) IT:=fun i hi=>by
  rcases hi with rfl|rfl
  ·exact⟨_,_,b7⟩
  ·exact⟨_,_,row⟩
 have hb7:Boxed ((W2.setCell ⟨g7,0,none⟩ (.int .i64 (na ps k:Nat))).setCell ⟨gp,A,none⟩ (.int .i64 (na ps k:Nat))) g7 IT (.int .i64 (na ps k:Nat)):=by
  have h1:Boxed (W2.setCell ⟨g7,0,none⟩ (.int .i64 (na ps k:Nat))) g7 IT (.int .i64 (na ps k:Nat)):=by
   have:=heap_setCell_same W2 g7 0 _ IT (.int .i64 (na ps k:Nat)) b7;unfold Boxed;simpa using this
  exact(Below.heap_setCell _ ⟨gp,A,none⟩ _ g7 h67.symm).trans h1
 have hrow:z5w ((W2.setCell ⟨g7,0,none⟩ (.int .i64 (na ps k:Nat))).setCell ⟨gp,A,none⟩ (.int .i64 (na ps k:Nat))) gp (D4 ps (nP V.size) (pre++[A])):=by
  rw[JW,hk];refine z5w.set (w:=W2.setCell ⟨g7,0,none⟩ (.int .i64 (na ps k:Nat))) ?_ A _;exact(Below.heap_setCell W2 ⟨g7,0,none⟩ _ gp h67).trans row
 generalize (W2.setCell ⟨g7,0,none⟩ (.int .i64 (na ps k:Nat))).setCell ⟨gp,A,none⟩ (.int .i64 (na ps k:Nat))=W4 at*;have hc4:∀i,(i=g7∨i=gp)→∃A T fz,W2.heap[i]? =some (.cells A T fz):=fun i hi=>by
  obtain⟨A,fz,h1⟩:=hT i hi;exact⟨A,IT,fz,h1⟩
 refine⟨⟨znt hb1.size (znt t.size t2.size),fun j o _ hj ho=>JY t2 hc4 (JY t hl1.cells ((hb1.block j (zag.1 hj).1).trans hj) ho) ho⟩,fun g8 v ks hbk=>⟨?_,?_⟩,?_⟩
 ·have h1:Boxed W1 g8 CSS v:=(hb1.block _ hbk.1.lt).trans hbk.1;have h2:=hl1.hg t h1;exact t2.hg h2 (hT.not h2 (by decide))
 ·exact((hbk.2.ext hb1).turn Kj t hl1.tf).tur t2 hT rfl
 ·have e1:(pre++[A]).length=k+1:=by rw[zla,hk];rfl
  refine⟨?_,t2.hg bl (hT.not bl (by decide)),t2.hg b6 (hT.not b6 (by decide)),?_,hrow,?_,znt h.sz (znt t.size t2.size)⟩
  ·rw[e1,y6m,hk,hL,←List.append_assoc];rw[List.drop_drop] at hly;exact hly.tz t2 (fun i hi=>⟨by rcases hi with rfl|rfl<;>omega,by
    obtain⟨A,fz,h1⟩:=hT i hi;exact⟨A,IT,fz,h1,by decide,by decide⟩⟩)
  ·rw[e1,if_neg (by omega),Nat.add_sub_cancel];exact hb7
  ·exact LF.tz (LF.trans h.lt t) t2 (fun i hi=>by rcases hi with rfl|rfl<;>omega)
set_option maxRecDepth 100000 in
set_option maxHeartbeats 2000000 in
theorem y2u (gl B:Nat)(V:ByteArray)(ps:List Nat)(ws:List PgW)(w:World)(hI:LyI w gl B ps ws)(h64:64<V.size)(hV:V.size≤1000000)(hn:nP V.size≤ps.length)(hpb:∀x∈ps,2≤x∧x<1024)(hwl:ws.length≤50000):
  Calls prog 96 #[pt gl,.string V] w fun e w'=>∃u,e=.returned u∧EV pgE w' u (ps.take (nP V.size)).reverse∧LyI w' gl B (ps.drop (nP V.size)) (ws++(List.range (nP V.size)).map (pcW V ps (nP V.size)))∧Zx (LF w gl B) w w':=by
 have HI:=zh hI;have HV:=zh (zai h64 (zai hV (zai hn (zai hpb hwl))));obtain⟨w0,hw0⟩:∃w0,w.alloc (.cells #[pt gl] PLT)=w0:=⟨_,rfl⟩
 have hb0:zB w w0:=by rw[←hw0];exact(zbr _ _).alloc (zlr _) _
 have hbl:Boxed w0 w.heap.size PLT (pt gl):=by rw[←hw0];exact Boxed.new w PLT (pt gl)
 have hP:=zh (y1v Fence.wide 3 trivial trivial trivial rfl (zlr _) V hV w0);have hN2:nP V.size≤2000:=by unfold nP;omega
 have hN0:0<nP V.size:=by unfold nP;omega
 have Hw0:=zh hw0;have Hbl:=zh hbl;have Hb0:=zh hb0;have Hlen:=zh (y9e V);clear hI h64 hV hn hpb hwl hw0 hb0 hbl;refine(callsIn_wide (n:=4)).1 ?_;refine callsIn_of_wp_marks func96 rfl trivial ?_ rfl;simp only[ntmps96,List.size_toArray,List.length_cons,List.length_nil,Nat.reduceAdd,Nat.reduceSub,Array.replicate_succ,Array.replicate_zero,List.push_toArray,List.append_toArray,List.nil_append,List.cons_append]
 gi_wp2_with (first
  | (refine⟨trivial,?_⟩;gi_at_call 128;rw[Hw0.out];refine hP.out.mono ?_;rintro e w1 ⟨v,rfl,ho,hb1⟩;obtain⟨vn,hvn⟩:∃n,n=(chs V).length:=⟨_,rfl⟩;have ho1:=ho;rw[←z5x] at ho;obtain⟨va,vc,rfl,hes,_⟩:=U3 (E:=V5) ho;rw[Hlen.out])
  | (gi_at_make;refine D5 rfl _ _ _ rfl underlying101 jZ (nP V.size) (by rfl) (by rfl) (by omega) ?_;intro w2 hr2 hb2)
  | (refine⟨trivial,?_⟩;gi_at_call 129;refine(x0e Fence.wide 3 trivial rfl _ _ _ _).mono ?_;rintro e w' ⟨rfl,rfl⟩))
 have HW:Hid (∃W3,W3=(((w2.alloc (.cells #[.slice (some ⟨w1.heap.size,0,none⟩) (nP V.size) (nP V.size)] SIT)).alloc (.cells #[.int .i64 0] IT)).alloc (.cells #[.slice va (nP V.size) vc] CSS))):=⟨_,rfl⟩
 obtain⟨W3,hW3⟩:=HW.out;rw[←hW3];have s3:W3.heap.size=w2.heap.size+3:=by rw[hW3];simp
 have hb3:zB w2 W3:=by
  rw[hW3];exact(((zbr w2.heap.size w2).alloc (zlr _) _).alloc (by simp) _).alloc (by simp;omega) _
 have b6:Boxed W3 w2.heap.size SIT (.slice (some ⟨w1.heap.size,0,none⟩) (nP V.size) (nP V.size)):=by rw[hW3];exact((Boxed.new w2 _ _).alloc _).alloc _
 have b7:Boxed W3 (w2.heap.size+1) IT (.int .i64 0):=by
  rw[hW3];have:=(Boxed.new (w2.alloc (.cells #[.slice (some ⟨w1.heap.size,0,none⟩) (nP V.size) (nP V.size)] SIT)) IT (.int .i64 0)).alloc (.cells #[.slice va (nP V.size) vc] CSS)
  rwa [World.size_alloc] at this
 have b8:Boxed W3 (w2.heap.size+1+1) CSS (.slice va (nP V.size) vc):=by
  rw[hW3];have:=Boxed.new ((w2.alloc (.cells #[.slice (some ⟨w1.heap.size,0,none⟩) (nP V.size) (nP V.size)] SIT)).alloc (.cells #[.int .i64 0] IT)) CSS (.slice va (nP V.size) vc)
  rwa [World.size_alloc,World.size_alloc] at this
 have hB01:zB w w1:=Hb0.out.trans (hb1.mono Hb0.out.size);have hB02:zB w w2:=hB01.trans (hb2.mono hB01.size);have hB03:zB w W3:=hB02.trans (hb3.mono hB02.size);have hz01:=hb1.size;have hz12:=hb2.size;have hlw0:=Hbl.out.lt;have hbl3:Boxed W3 w.heap.size PLT (pt gl):=(hb3.block _ (by omega)).trans ((hb2.block _ (by omega)).trans ((hb1.block _ (by omega)).trans Hbl.out));have hr3:z5w W3 w1.heap.size (List.replicate (nP V.size) 0):=(hb3.block _ (zag.1 hr2).1).trans hr2;have hev:EV V5 W3 (.slice va (nP V.size) vc) (chs V):=by
  have h1:EV V5 w1 (.slice va (chs V).length vc) (chs V):=U3 (E:=V5) ho;rw[Hlen.out] at h1;exact(h1.below hb2 (zlr _)).below hb3 (zlr _)
 have hbk:BK W3 (w2.heap.size+1+1) (.slice va (nP V.size) vc) (chs V):=⟨b8,hev⟩
 have hcl:(chs V).length≤100000:=by rw[Hlen.out];omega
 have h0:ChI w W3 W3.heap.size gl B w.heap.size w2.heap.size (w2.heap.size+1) w1.heap.size V ps (([]:List (_root_.Fin (chs V).length)).map _root_.Fin.val) ws:=
  ⟨by show LyI W3 gl B ps (ws++[]);rw[List.append_nil];exact HI.out.ext hB03,hbl3,b6,b7,hr3,x3x hB03,zlr _⟩
 have hBw:=HI.out.bz;have hgB:=HI.out.lt;have hlw1:w1.heap.size<w2.heap.size:=(zag.1 hr2).1;have hwz:w.heap.size≤w1.heap.size:=hB01.size;clear b6 b7 b8 hbl3 hr3 hev hb3 hr2 hes ho ho1 hb1 hb2 hW3 hB01 hB02;have HBK:=zh hbk;have HB03:=zh hB03;have H0:=zh h0;clear hbk hB03 h0;generalize hg7:w2.heap.size+1=g7 at*;generalize hg8:g7+1=g8 at*;generalize hg6:w2.heap.size=g6 at*;generalize hgp:w1.heap.size=gp at*;refine wpIn_rangeFunc_ownG rfl (by omega) (gf:=165) (lb:= #[.pointer (some ⟨g8,0,none⟩)]) rfl trivial (enters_of func165 (by kernel_rfl) rfl)
  (z70 Fence.wide 3 trivial rfl (by omega) g8 (.slice va (nP V.size) vc) (chs V) hcl W3 HBK.out) (fun h k a=>k (h a))
  (fun W l o o' _ hl ho _ hbx=>by
   have t:Zx (fun i=>i=l) W (W.putObj l o'):=x3z (grownBy_putObj' W l o');have hF:NCF W (fun i=>i=l):=fun i e=>⟨o,by rw[e];exact hl,ho⟩
   exact⟨t.hg hbx.1 (hF.not hbx.1),hbx.2.nc t hF⟩) (zbr _ _) (fun _=>rfl)
  (fun pre W=>ChI w W W3.heap.size gl B w.heap.size g6 g7 gp V ps (pre.map _root_.Fin.val) ws) (fun _ _ _=>False)
  (ChI.from w W3.heap.size gl B w.heap.size g6 g7 gp V ps ws HB03.out.size _) (fun _ _ _ _ _ hs _ _=>hs) H0.out
  (fun x=>{tmps:= #[pt gl,.string V,.pointer (some ⟨w.heap.size,0,none⟩),undef,.slice none 0 0,.slice va (nP V.size) vc,.pointer (some ⟨g6,0,none⟩),.pointer (some ⟨g7,0,none⟩),.int .i64 (x.val:Nat),.string (sa (chs V) x.val),undef,undef,.string V,.slice va (nP V.size) vc,.slice va (nP V.size) vc,.int .i64 (nP V.size:Nat),.slice (some ⟨gp,0,none⟩) (nP V.size) (nP V.size),.slice va (nP V.size) vc,.func (.func 165) #[] #[.pointer (some ⟨g8,0,none⟩)],.int .i64 (x.val:Nat),.string (sa (chs V) x.val),undef,undef,undef,undef,undef,undef,undef,undef,undef,undef,undef,undef,undef,undef],defers:=[]}) ?assign ?body ?done ?stop
 case assign=>
  intro l x W K hK
  gi_wp2
  exact hK
 case stop=>
  rintro D c pre W _ _ h _;exact h.elim
 case body=>
  rintro l pre ⟨A,hA⟩ W hch hlt;dsimp only;have hAn:A<nP V.size:=by rw[Hlen.out] at hA;exact hA
  have hsx:sa (chs V) A=Iq V A:=x1t V _ _ hAn;have hcs:=z41 hAn;rw[hsx];obtain⟨k,hk⟩:∃k,(pre.map _root_.Fin.val).length=k:=⟨_,rfl⟩
  have hkl:k<nP V.size:=by rw[←hk,List.length_map];exact Nat.lt_of_lt_of_eq hlt Hlen.out
  obtain⟨NX,hNX⟩:∃NX:Nat,(if k=0 then 0 else na ps (k-1))=NX:=⟨_,rfl⟩
  have hNXr:(NX=0∨2≤NX)∧NX<1024:=by
   rw[←hNX]
   by_cases h0:k=0
   ·rw[if_pos h0];omega
   ·rw[if_neg h0];have:=HV.out.2.2.2.1 (na ps (k-1)) (Ox (by have:=HV.out.2.2.1;omega));omega
  have hcok:y4p (NX:Int) (Iq V A)=true:=by unfold y4p E1 QF;simp;omega
  have hB1:chB (NX:Int) (Iq V A)=beL NX 2++bn (Iq V A):=by unfold chB;rw[if_pos hcok];rfl
  have hE:=y1o (NX:Int) (Iq V A) W (by omega);rw[hB1] at hE;generalize chE (NX:Int) (Iq V A)=EE at*;have hb2:=hch.bl.cell;have hb6:=hch.b6.cell;have hb7:=hch.b7;rw[hk,hNX] at hb7;have hb7c:=hb7.cell;have Hch:=zh hch;have HE:=zh hE;have Hk:=zh (zai hk (zai hkl (zai hNX hcs)));have HA:=zh hAn;clear hch hE hk hkl hNX hNXr hcok hB1 hsx hcs hlt hb7 hAn;generalize hS:Iq V A=S at*;have HS:=zh hS;clear hS
  gi_wp2_with fail
  refine⟨trivial,(CallsIn.inRound l (callsIn_wide.2 HE.out)).mono ?_⟩;rintro e W1 ⟨v,rfl,ho,hb1⟩;obtain⟨a1,c1,rfl,_⟩:=(Sl.own ho).arg;obtain⟨L,hL⟩:∃L,beL NX 2++bn S=L:=⟨_,rfl⟩
  obtain⟨m,hm⟩:∃m,L.length=m:=⟨_,rfl⟩
  rw[hL] at ho⊢
  rw[hm] at ho⊢
  have hm4:m≤504:=by
   rw[←hm,←hL,zla,X5];have:=Hk.out.2.2.2.2;have e1:=S8 S;omega
  have hb8:B8 L:=by rw[←hL];exact B8.append (y64 _ _) (y37 _)
  have hch1:=ChI.ext Hch.out hb1;have d2:=hch1.bl.cell;have d6:=hch1.b6.cell;have HB1:=zh hb1;have Ho:=zh ho;have HL:=zh (zai hL (zai hm (zai hm4 hb8)));have Hch1:=zh hch1;clear hb1 ho hL hm hm4 hb8 hch1 HE Hch hb2 hb6 hb7c
  gi_wp2_with fail
  have hp0:0<(ps.drop (pre.map _root_.Fin.val).length).length:=by
   rw[zld,Hk.out.1];have:=HV.out.2.2.1;have:=Hk.out.2.1;omega
  have hwl:(ws++wrB V ps (pre.map _root_.Fin.val)).length≤100000:=by
   rw[zla,x0f,Hk.out.1];have:=HV.out.2.2.2.2;have:=Hk.out.2.1;omega
  refine⟨trivial,(CallsIn.inRound l (callsIn_wide.2 (XU gl B 3 m c1 a1 L _ _ W1 Hch1.out.ly hp0 hwl HL.out.2.1 (by omega) (by omega) HL.out.2.2.1 HL.out.2.2.2 (x0i (c:=c1) (by rw[HL.out.2.1];exact Ho.out))))).mono ?_⟩;rintro e W2 ⟨rfl,hly,ht⟩;rw[YZ,Nat.add_zero,Hk.out.1] at hly⊢
  have hrd:=ChI.round (w:=w) (W:=W) (W1:=W1) (W2:=W2) (b2:=w.heap.size) (g6:=g6) (g7:=g7) (gp:=gp) (s0:=W3.heap.size) Hk.out.1 hBw (by omega) hwz (by omega) Hch1.out HB1.out (by rw[Hk.out.2.2.1,HS.out];exact HL.out.1) hly ht;rw[Hk.out.2.2.1] at hrd;obtain⟨⟨y7,y6,yr⟩,hrd⟩:=hrd;obtain⟨PG,hPG⟩:∃PG,na ps k=PG:=⟨_,rfl⟩
  rw[hPG] at hrd⊢
  have n67:g6≠g7:=by omega
  have np7:gp≠g7:=by omega
  have x7:=y7.cell;have z7:W2.frozen? ⟨g7,0,none⟩=false:=y7.frozen;have yr':(W2.setCell ⟨g7,0,none⟩ (.int .i64 (PG:Nat))).heap[gp]? =some (.cells (pgv (D4 ps (nP V.size) (pre.map _root_.Fin.val))).toArray IT (0,0)):=(Below.heap_setCell W2 ⟨g7,0,none⟩ _ gp np7).trans yr;have x6:(W2.setCell ⟨g7,0,none⟩ (.int .i64 (PG:Nat))).cell? ⟨g6,0,none⟩=some (.slice (some ⟨gp,0,none⟩) (nP V.size) (nP V.size)):=Boxed.cell (t:=SIT) ((Below.heap_setCell W2 ⟨g7,0,none⟩ _ g6 n67).trans y6);have x8:(W2.setCell ⟨g7,0,none⟩ (.int .i64 (PG:Nat))).cell? ⟨g7,0,none⟩=some (.int .i64 (PG:Nat)):=World.cell?_setCell_same' _ _ _ (by rw[x7];rfl);have hfl:A<(pgv (D4 ps (nP V.size) (pre.map _root_.Fin.val))).length:=by unfold pgv;rw[List.length_map,F5];exact HA.out
  have xp:∃u,(W2.setCell ⟨g7,0,none⟩ (.int .i64 (PG:Nat))).cell? ⟨gp,A,none⟩=some u:=⟨(pgv (D4 ps (nP V.size) (pre.map _root_.Fin.val)))[A],by simp[World.cell?,yr',hfl]⟩
  obtain⟨u9,xp⟩:=xp;have zp:(W2.setCell ⟨g7,0,none⟩ (.int .i64 (PG:Nat))).frozen? ⟨gp,A,none⟩=false:=by simp[World.frozen?,yr']
  have Hrd:=zh hrd;have hA2:=HA.out;clear hrd hly ht y7 y6 yr yr' hfl hPG hp0 hwl Ho Hch1 d2 d6 hA2;have hAi:(A:Int)<(nP V.size:Nat):=by have:=HA.out;omega
  gi_wp2_with fail
  refine⟨Hrd.out.1,Hrd.out.2.1 g8 _ _,?_⟩;show ChI w _ _ _ _ _ _ _ _ V ps (List.map _root_.Fin.val (pre++[⟨A,hA⟩])) ws;rw[List.map_append];exact Hrd.out.2.2
 case done=>
  intro D ys W hD hys hch hK;have e6:=hch.b6.cell;have hly:=hch.ly;have hrow:=hch.row;have e1:(ys.map _root_.Fin.val).length=nP V.size:=by rw[hys,XV,Hlen.out]
  rw[e1] at hly;rw[hys,Hlen.out,x0h] at hly;rw[hys,Hlen.out,y2s ps (nP V.size) HV.out.2.2.1] at hrow;have hev:=hrow.ev (n:=nP V.size) (by rw[List.length_reverse,zlk];have:=HV.out.2.2.1;omega) (by unfold maxLen;omega);have t:Zx (fun i=>i=D) W (W.putObj D (.deferred none)):=x3z (grownBy_putObj' W D _);have hF:NCF W (fun i=>i=D):=fun i e=>⟨.deferred (some []),(show i=D from e)▸hK,rfl⟩
  have Hfin:Hid (EV pgE (W.putObj D (.deferred none)) (.slice (some ⟨gp,0,none⟩) (nP V.size) (nP V.size)) (ps.take (nP V.size)).reverse∧LyI (W.putObj D (.deferred none)) gl B (ps.drop (nP V.size)) (ws++(List.range (nP V.size)).map (pcW V ps (nP V.size)))∧Zx (LF w gl B) w (W.putObj D (.deferred none))):=
   ⟨hev.nc t hF,hly.nc t hF,LF.nc hch.lt t (fun i hi=>by have:=HB03.out.size;omega)⟩
  clear hch hly hrow hev t hF e1 hys
  gi_wp2
  refine⟨by simp,.inl ⟨_,_,rfl,run_takeDeferred hK,?_⟩⟩;exact⟨_,results_tmp rfl _ _ _,.slice (some ⟨gp,0,none⟩) (nP V.size) (nP V.size),rfl,Hfin.out⟩
end Go.Proofs.YtdgladhfibfdlaaGreatDoor
namespace Go.Proofs.YtdgladhfibfdlaaGreatDoor
open Go Go.RowKit Go.Proofs.Tryz
theorem z5y:∀(a b:List En) (ps:List Nat),Tz (a++b) ps=Tz a ps++Tz b (ps.drop (cNs a))
 | [],b,ps=>by simp[Tz,cNs]
 | e::r,b,ps=>by rw[List.cons_append,Tz,Tz,z5y r b,List.drop_drop,cNs];rfl
theorem y2v:∀(a b:List En) (ps:List Nat),wrC (a++b) ps=wrC a ps++wrC b (ps.drop (cNs a))
 | [],b,ps=>by simp[wrC,cNs]
 | e::r,b,ps=>by rw[List.cons_append,wrC,wrC,y2v r b,List.drop_drop,cNs,List.append_assoc]
theorem ZP (cs:List En)(k:Nat)(h:k<cs.length):cNs (cs.take (k+1))=cNs (cs.take k)+cN (ea cs k):=by
 rw[Ew cs k h,Dv];simp[cNs]
theorem z1h (cs:List En)(ps:List Nat)(k:Nat)(h:k<cs.length):Tz (cs.take (k+1)) ps=Tz (cs.take k) ps++[E8 (ea cs k) (ps.drop (cNs (cs.take k)))]:=by
 rw[Ew cs k h,z5y];simp[Tz]
theorem z5z (cs:List En)(ps:List Nat)(k:Nat)(h:k<cs.length):wrC (cs.take (k+1)) ps=wrC (cs.take k) ps++wrE (ea cs k) (ps.drop (cNs (cs.take k))):=by
 rw[Ew cs k h,y2v];simp[wrC]
theorem XW (cs:List En)(k:Nat):cNs (cs.take k)≤cNs cs:=by
 have:=Dv (cs.take k) (cs.drop k);rw[List.take_append_drop] at this;omega
theorem x0j (e:En)(ps:List Nat):(wrE e ps).length=cN e:=by
 unfold wrE cN;split<;>simp
theorem xH:∀(cs:List En) (ps:List Nat),(wrC cs ps).length=cNs cs
 | [],_=>rfl
 | e::r,ps=>by rw[wrC,zla,x0j,xH r,cNs]
def CeV (e:En):Prop:=(e.ch=[]∨64<e.v.size)∧∀p∈e.ch,2≤p∧p<1024
def CeW (e:En):Prop:=((e.v.size≤64∧e.ch=[])∨(64<e.v.size∧0<e.ch.length))∧∀p∈e.ch,2≤p∧p<1024
theorem y7s {e:En}{ps:List Nat}(h:CeV e)(hl:cN e≤ps.length)(hp:∀p∈ps,2≤p∧p<1024):CeW (E8 e ps):=by
 unfold E8
 by_cases h1:N0 e=true
 ·have h2:=h1;unfold N0 at h2;simp only[Bool.and_eq_true,decide_eq_true_iff] at h2;unfold cN at hl;rw[if_pos h1] at hl⊢
  have h3:0<nP e.v.size:=zR.2 (by omega);exact⟨.inr ⟨h2.1,by simp only[List.length_reverse,zlk];omega⟩,fun p hq=>hp p (List.mem_of_mem_take (List.mem_reverse.1 hq))⟩
 ·rw[if_neg h1];refine⟨?_,h.2⟩
  rcases zng 64 e.v.size with h2|h2
  ·refine .inr ⟨h2,?_⟩;unfold N0 at h1;simp only[Bool.and_eq_true,decide_eq_true_iff,not_and] at h1;have:=h1 h2;omega
  ·refine .inl ⟨h2,?_⟩
   rcases h.1 with h3|h3
   ·exact h3
   ·omega
theorem y7t:∀(cs:List En) (ps:List Nat),(∀e∈cs,CeV e)→cNs cs≤ps.length→(∀p∈ps,2≤p∧p<1024)→∀e∈Tz cs ps,CeW e
 | [],_,_,_,_,e,he=>by cases he
 | c::r,ps,h,hl,hp,e,he=>by
  rw[cNs] at hl;rw[Tz] at he
  rcases List.mem_cons.1 he with rfl|he
  ·exact y7s (h c (by simp)) (by omega) hp
  ·exact y7t r _ (fun e he=>h e (by simp[he])) (by rw[zld];omega) (fun p hq=>hp p (List.mem_of_mem_drop hq)) e he
theorem y2w {e:En}(h:okE e)(hl:CeW e):Nk (cE e)=true:=by
 obtain⟨hl,hr⟩:=hl;unfold cE Nk
 rcases hl with ⟨h1,_⟩|⟨h1,h4⟩
 ·rw[if_neg (by omega)];simp only;rw[h.1,zdt (show(e.v.size:Int)≤2048 by have:=h.2;omega)];unfold plB;rw[if_pos (show((e.v.size:Int))≤64 by omega)];simp
 ·rw[if_pos h1];simp only;have h3:=h.2;rw[h.1,zdt (show(e.v.size:Int)≤2048 by omega)];unfold plB;rw[if_neg (show¬((e.v.size:Int))≤64 by omega)];have h5:=hr _ (Ox h4);have h6:(ByteArray.empty).size=0:=rfl;simp only[Bool.true_and];exact zdt ⟨h6,by omega,by omega⟩
theorem F6:∀(es:List En),(∀e∈es,okE e∧CeW e)→(Q6 (es.map cE)).length=szs es
 | [],_=>rfl
 | e::r,h=>by
  have h1:=h e (by simp);rw[List.map_cons,Q6,zla,KS (y2w h1.1 h1.2),F6 r (fun x hx=>h x (by simp[hx])),zM,y93,x2z]
  rfl
theorem xI (es:List En)(h:∀e∈es,okE e∧CeW e):(Tj (es.map cE)).length=Y3 es:=by
 rw[Gj,F6 es h,List.length_map];rfl
theorem y2x {es:List En}(h:∀e∈es,okE e∧CeW e):Rz (es.map cE):=fun i hi=>by
 rw[List.length_map] at hi;rw[z5c es i hi];have h1:=h _ (Mw hi);exact y2w h1.1 h1.2
theorem z3n (e:En)(ps:List Nat):(E8 e ps).k=e.k∧(E8 e ps).v=e.v:=by unfold E8;split<;>exact⟨rfl,rfl⟩
theorem y2y:∀(cs:List En) (ps:List Nat),(∀e∈cs,okE e)→∀e∈Tz cs ps,okE e
 | [],_,_,e,he=>by cases he
 | c::r,ps,h,e,he=>by
  rw[Tz] at he
  rcases List.mem_cons.1 he with rfl|he
  ·have:=z3n c ps;have h1:=h c (by simp);unfold okE at*;rw[this.1,this.2];exact h1
  ·exact y2y r _ (fun e he=>h e (by simp[he])) e he
theorem z50 {cs:List En}{ps:List Nat}(h:srt cs):srt (Tz cs ps):=by
 have h1:=y4n h;rw[←Lj cs ps] at h1;unfold srt bare at h1;rw[List.pairwise_map] at h1;exact h1
theorem z3o (cs:List En)(ps:List Nat):Y3 (Tz cs ps)=Y3 cs:=by
 rw[←N1,Lj,N1]
theorem z51:∀(cs:List En) (ps:List Nat),(∀e∈cs,okE e)→(∀e∈cs,e.ch.length≤100000)→∀e∈Tz cs ps,e.ch.length≤100000
 | [],_,_,_,e,he=>by cases he
 | c::r,ps,h,hl,e,he=>by
  rw[Tz] at he
  rcases List.mem_cons.1 he with rfl|he
  ·have h1:=(h c (by simp)).2;have h2:=hl c (by simp);unfold E8;split
   ·simp only[List.length_reverse,zlk];unfold nP;omega
   ·exact h2
  ·exact z51 r _ (fun e he=>h e (by simp[he])) (fun e he=>hl e (by simp[he])) e he
def x0s (w:World)(g i:Nat)(x0 x1 x2:Value):World:=((w.setCell ⟨g,i,none⟩ x0).setCell ⟨g,i+1,none⟩ x1).setCell ⟨g,i+2,none⟩ x2
theorem y2z:∀(xs:List Rw) (j:Nat) (y:Rw),j<xs.length→Uw.row (xs.set j y)=(((Uw.row xs).set (j*3) (.string y.k)).set (j*3+1) (.string y.v)).set (j*3+2) (.slice y.a y.n y.c)
 | [],j,_,h=>by simp at h
 | x::r,0,y,_=>rfl
 | x::r,j+1,y,h=>by
  have e1:(x::r).set (j+1) y=x::r.set j y:=rfl;rw[e1,Elt.row,Elt.row,y2z r j y (by simpa using h)];have e2:Uw.enc x=[.string x.k,.string x.v,.slice x.a x.n x.c]:=rfl;rw[e2,show(j+1)*3+2=(j*3+2)+3 by omega,show(j+1)*3+1=(j*3+1)+3 by omega,show(j+1)*3=(j*3)+3 by omega]
  rfl
theorem y20 (w:World)(g i:Nat)(x0 x1 x2:Value):Zx (fun b=>b=g) w (x0s w g i x0 x1 x2):=
 (((Zx.refl (fun b=>b=g) w).setCell (p:=⟨g,i,none⟩) _ (fun _=>rfl)).setCell (p:=⟨g,i+1,none⟩) _ (fun _=>rfl)).setCell (p:=⟨g,i+2,none⟩) _ (fun _=>rfl)
theorem y6o {w:World}{B g c:Nat}{xs:List Rw}(j:Nat)(y:Rw)(hj:j<xs.length)(h:w.ownsRow B TCT Uw.sz (.slice (some ⟨g,0,none⟩) xs.length c) xs.length (Uw.row xs)):
  (x0s w g (j*3) (.string y.k) (.string y.v) (.slice y.a y.n y.c)).ownsRow B TCT Uw.sz (.slice (some ⟨g,0,none⟩) (xs.set j y).length c) (xs.set j y).length (Uw.row (xs.set j y)):=by
 rw[List.length_set];refine⟨by rw[Elt.row_len,List.length_set],?_⟩
 rcases h.2 with ⟨h1,_⟩|⟨g',cap,cur,hv,hbg,hg,hnc,hcm,hcs,ht⟩
 ·cases h1
 ·simp only[Value.slice.injEq,Option.some.injEq,Addr.mk.injEq,and_true,true_and] at hv;obtain⟨rfl,rfl⟩:=hv;have h1:=heap_setCell_same w g (j*3) cur TCT (.string y.k) hg;have h2:=heap_setCell_same _ g (j*3+1) _ TCT (.string y.v) h1;have h3:=heap_setCell_same _ g (j*3+2) _ TCT (.slice y.a y.n y.c) h2;refine .inr ⟨g,c,_,rfl,hbg,h3,hnc,hcm,by simpa using hcs,?_⟩;rw[y2z xs j y hj,←ht];simp[List.take_set]
def LFu (w:World)(gl B:Nat)(u:Value)(i:Nat):Prop:=LF w gl B i∨u.ownBlock=some i
theorem LFu.trans {w w1 w2:World}{gl B:Nat}{u:Value}(h:Zx (LFu w gl B u) w w1)(k:Zx (LF w1 gl B) w1 w2):Zx (LFu w gl B u) w w2:=h.step k (fun i hi hl=>by
 rcases hi with rfl|⟨hB,A,fz,h2⟩
 ·exact .inl (.inl rfl)
 ·by_cases hF:LFu w gl B u i
  ·exact hF
  ·exact .inl (.inr ⟨hB,A,fz,(h.block i hl hF).symm.trans h2⟩))
structure LvI (w W:World) (gl B B':Nat) (u vn:Value) (cs:List En) (ps:List Nat) (ws:List PgW) (j k:Nat):Prop where
 ly:LyI W gl B (ps.drop (cNs (cs.take j))) (ws++wrC (cs.take j) ps)
 oc:OC W B' u (Tz (cs.take j) ps++cs.drop j)
 nm:W.ownsRow w.heap.size CT 4 vn k (cvs ((Tz (cs.take k) ps).map cE))
 lt:Zx (LFu w gl B u) w W
 rs:W.heap[w.heap.size]? =some (.cells #[.int .i64 0,Z0,Z0,Z0] VT (0,0))
theorem LvI.ext {w W W':World}{gl B B':Nat}{u vn:Value}{cs:List En}{ps:List Nat}{ws:List PgW}{j k:Nat}(h:LvI w W gl B B' u vn cs ps ws j k)(hb:zB W W'):LvI w W' gl B B' u vn cs ps ws j k:=
 ⟨h.ly.ext hb,h.oc.below hb (zlr _),Y4 h.nm hb (zlr _),h.lt.trans (x3x hb),(hb.block _ (zag.1 h.rs).1).trans h.rs⟩
section
variable {w W W':World} {gl B B':Nat} {u vn:Value} {cs:List En} {ps:List Nat} {ws:List PgW} {j k:Nat}
theorem z3p (cs:List En)(ps:List Nat)(j:Nat)(h:j<cs.length):ea (Tz (cs.take j) ps++cs.drop j) j=ea cs j∧(Tz (cs.take j) ps++cs.drop j).length=cs.length:=by
 have h1:(Tz (cs.take j) ps).length=j:=by rw[N5,zlk];omega
 constructor
 ·have:=jL (Tz (cs.take j) ps) (cs.drop j) 0;rw[h1] at this;rw[show j+0=j from rfl] at this;rw[this,zL cs j h];rfl
 ·rw[zla,h1,zld];omega
theorem y21 (cs:List En)(ps:List Nat)(j:Nat)(h:j<cs.length):(Tz (cs.take j) ps++cs.drop j).set j (E8 (ea cs j) (ps.drop (cNs (cs.take j))))=Tz (cs.take (j+1)) ps++cs.drop (j+1):=by
 have h1:(Tz (cs.take j) ps).length=j:=by rw[N5,zlk];omega
 rw[z1h cs ps j h,List.set_append_right _ _ (by omega),h1,Nat.sub_self,zL cs j h];simp
theorem LvI.stay (h:LvI w W gl B B' u vn cs ps ws j k)(hj:j<cs.length)(hw:N0 (ea cs j)=false):LvI w W gl B B' u vn cs ps ws (j+1) k:=by
 have e1:cN (ea cs j)=0:=by unfold cN;rw[hw];rfl
 have e2:wrE (ea cs j) (ps.drop (cNs (cs.take j)))=[]:=by unfold wrE;rw[hw];rfl
 have e3:E8 (ea cs j) (ps.drop (cNs (cs.take j)))=ea cs j:=by unfold E8;rw[hw];rfl
 refine⟨?_,?_,h.nm,h.lt,h.rs⟩
 ·rw[ZP cs j hj,e1,z5z cs ps j hj,e2,List.append_nil];exact h.ly
 ·have h3:=y21 cs ps j hj;rw[e3] at h3;have h4:=(z3p cs ps j hj)
  rw[←h3];have h5:=y7l (Tz (cs.take j) ps++cs.drop j) j (by rw[h4.2];exact hj);rw[h4.1] at h5;rw[h5];exact h.oc
theorem LvI.named (h:LvI w W gl B B' u vn cs ps ws j k)(hBw:B≤w.heap.size){v':Value}(hg:W.grownBy W' vn.ownBlock)(ho:W'.ownsRow w.heap.size CT 4 v' (k+1) (cvs ((Tz (cs.take (k+1)) ps).map cE))):LvI w W' gl B B' u v' cs ps ws j (k+1):=by
 have t:Zx (fun i=>vn.ownBlock=some i) W W':=⟨hg.os,hg.tape,hg.output,hg.size,fun i hi hne=>hg.block i hi (fun e=>hne e.symm)⟩
 have hT:=TyF.own h.nm;refine⟨h.ly.tz t (fun i hi=>⟨by have:=(h.nm.lt i hi).1;omega,by
  obtain⟨A,fz,h1⟩:=hT i hi;exact⟨A,CT,fz,h1,by decide,by decide⟩⟩),h.oc.tur t hT rfl (by decide),ho,h.lt.step t (fun i hi hl=>by have:=(h.nm.lt i hi).1;omega),t.hg h.rs (hT.not h.rs (by decide))⟩
set_option maxHeartbeats 400000 in
/-- A cell's value was laid.-/
theorem LvI.laid {gb n c0 t7:Nat}{a':Option Addr}{m' c':Nat}{W3:World}{x2:Value}(h:LvI w W gl B B' (.slice (some ⟨gb,0,none⟩) n c0) vn cs ps ws j k)(hBw:B≤w.heap.size)(hBB:B≤B')(hn:cs.length=n)(hj:j<n)(hw:N0 (ea cs j)=true)
  (h3:LyI W3 gl B ((ps.drop (cNs (cs.take j))).drop (nP (ea cs j).v.size)) ((ws++wrC (cs.take j) ps)++(List.range (nP (ea cs j).v.size)).map (pcW (ea cs j).v (ps.drop (cNs (cs.take j))) (nP (ea cs j).v.size)))) (t:Zx (LF W gl B) W W3)
  (hev:EV pgE W3 (.slice a' m' c') ((ps.drop (cNs (cs.take j))).take (nP (ea cs j).v.size)).reverse)
  (h7:W.heap[t7]? =some (.cells #[.string (ea cs j).k,.string (ea cs j).v,x2] TCT (0,0))) (hw7:w.heap.size≤t7) (hne:gb≠t7):
  (W3.heap[t7]? =some (.cells #[.string (ea cs j).k,.string (ea cs j).v,x2] TCT (0,0)))∧
  ((W3.setCell ⟨t7,2,none⟩ (.slice a' m' c')).heap[t7]? =some (.cells #[.string (ea cs j).k,.string (ea cs j).v,.slice a' m' c'] TCT (0,0)))∧
  ((W3.setCell ⟨t7,2,none⟩ (.slice a' m' c')).cell? ⟨gb,j*3,none⟩=some (.string (ea cs j).k)∧(W3.setCell ⟨t7,2,none⟩ (.slice a' m' c')).cell? ⟨gb,j*3+1,none⟩=some (.string (ea cs j).v)∧(∃v,(W3.setCell ⟨t7,2,none⟩ (.slice a' m' c')).cell? ⟨gb,j*3+2,none⟩=some v)∧∀i,(W3.setCell ⟨t7,2,none⟩ (.slice a' m' c')).frozen? ⟨gb,i,none⟩=false)∧
  ((x0s (W3.setCell ⟨t7,2,none⟩ (.slice a' m' c')) gb (j*3) (.string (ea cs j).k) (.string (ea cs j).v) (.slice a' m' c')).heap[t7]? =some (.cells #[.string (ea cs j).k,.string (ea cs j).v,.slice a' m' c'] TCT (0,0)))∧
  EV pgE (x0s (W3.setCell ⟨t7,2,none⟩ (.slice a' m' c')) gb (j*3) (.string (ea cs j).k) (.string (ea cs j).v) (.slice a' m' c')) (.slice a' m' c') (E8 (ea cs j) (ps.drop (cNs (cs.take j)))).ch∧
  LvI w (x0s (W3.setCell ⟨t7,2,none⟩ (.slice a' m' c')) gb (j*3) (.string (ea cs j).k) (.string (ea cs j).v) (.slice a' m' c')) gl B B' (.slice (some ⟨gb,0,none⟩) n c0) vn cs ps ws (j+1) k:=by
 have hjl:j<cs.length:=by omega
 have e1:cN (ea cs j)=nP (ea cs j).v.size:=by unfold cN;rw[if_pos hw]
 have e2:wrE (ea cs j) (ps.drop (cNs (cs.take j)))=(List.range (nP (ea cs j).v.size)).map (pcW (ea cs j).v (ps.drop (cNs (cs.take j))) (nP (ea cs j).v.size)):=by unfold wrE;rw[if_pos hw]
 have e3:E8 (ea cs j) (ps.drop (cNs (cs.take j)))=⟨(ea cs j).k,(ea cs j).v,((ps.drop (cNs (cs.take j))).take (nP (ea cs j).v.size)).reverse⟩:=by unfold E8;rw[if_pos hw]
 have e4:cNs (cs.take (j+1))=cNs (cs.take j)+nP (ea cs j).v.size:=by rw[ZP cs j hjl,e1]
 have e5:wrC (cs.take (j+1)) ps=wrC (cs.take j) ps++(List.range (nP (ea cs j).v.size)).map (pcW (ea cs j).v (ps.drop (cNs (cs.take j))) (nP (ea cs j).v.size)):=by rw[z5z cs ps j hjl,e2]
 have e6:=y21 cs ps j hjl;have e7:=z3p cs ps j hjl;rw[e3] at e6⊢
 rw[List.drop_drop,←e4,List.append_assoc,←e5] at h3;generalize ((ps.drop (cNs (cs.take j))).take (nP (ea cs j).v.size)).reverse=CH at*;generalize ea cs j=e at*;have g7:=h.ly.hg t h7;have hoc3:=h.oc.lay h.ly t;have hnm3:=h.ly.own t h.nm;have hrs3:=h.ly.hg t h.rs;have hlt3:=LFu.trans h.lt t;have ht4:Zx (fun i=>i=t7) W3 (W3.setCell ⟨t7,2,none⟩ (.slice a' m' c')):=(Zx.refl _ W3).setCell (p:=⟨t7,2,none⟩) _ (fun _=>rfl);have hT4:TyF W3 (fun i=>i=t7) TCT:=TyF.one g7;have g74:(W3.setCell ⟨t7,2,none⟩ (.slice a' m' c')).heap[t7]? =some (.cells #[.string e.k,.string e.v,.slice a' m' c'] TCT (0,0)):=by
  have:=heap_setCell_same W3 t7 2 _ TCT (.slice a' m' c') g7
  simpa using this
 obtain⟨ys,hown3,hrw3⟩:=hoc3;have hyl:=hrw3.len;rw[e7.2,hn] at hyl;have hown4:(W3.setCell ⟨t7,2,none⟩ (.slice a' m' c')).ownsRow B' TCT Uw.sz (.slice (some ⟨gb,0,none⟩) ys.length c0) ys.length (Uw.row ys):=by
  have h1:W3.ownsRow B' TCT Uw.sz (.slice (some ⟨gb,0,none⟩) ys.length c0) ys.length (Uw.row ys):=by rw[hyl] at hown3⊢;exact hown3
  refine⟨h1.1,?_⟩
  rcases h1.2 with h2|⟨b,cap,cur,hv,hb,hgb,h2⟩
  ·exact .inl h2
  ·refine .inr ⟨b,cap,cur,hv,hb,ht4.hg hgb (fun e=> ?_),h2⟩;injection hv with hv _ _
   injection hv with hv
   injection hv with hv _ _
   exact hne (hv.trans e)
 have hrw4:RW (W3.setCell ⟨t7,2,none⟩ (.slice a' m' c')) ys _:=hrw3.tur ht4 hT4 rfl;have hly4:=h3.tz ht4 (fun i hi=>by
  obtain rfl:i=t7:=hi;exact⟨by omega,_,_,_,g7,by decide,by decide⟩)
 have hnm4:=Sq hnm3 ht4 hT4 (by decide);have hrs4:=ht4.hg hrs3 (hT4.not hrs3 (by decide));have hlt4:=hlt3.step ht4 (fun i hi hl=>by
  obtain rfl:i=t7:=hi;omega)
 have hev4:=hev.tur ht4 hT4 rfl;obtain⟨⟨r0,r1,r2⟩,hfz,hBg,A,hgA⟩:=z3f j (by omega) hown4;obtain⟨y1,y2,y3⟩:=hrw4.at (i:=j) (by omega);rw[e7.1] at y1 y2;have y1':(xa ys j).k=e.k:=y1;have y2':(xa ys j).v=e.v:=y2;rw[y1'] at r0;rw[y2'] at r1;refine⟨g7,g74,⟨r0,r1,⟨_,r2⟩,hfz⟩,?_⟩;have hown5:=y6o j ⟨e.k,e.v,a',m',c'⟩ (by omega) hown4;have ht5:=y20 (W3.setCell ⟨t7,2,none⟩ (.slice a' m' c')) gb (j*3) (.string e.k) (.string e.v) (.slice a' m' c');have hT5:TyF (W3.setCell ⟨t7,2,none⟩ (.slice a' m' c')) (fun i=>i=gb) TCT:=TyF.one hgA;dsimp only at hown5;generalize x0s (W3.setCell ⟨t7,2,none⟩ (.slice a' m' c')) gb (j*3) (.string e.k) (.string e.v) (.slice a' m' c')=W5 at*;generalize W3.setCell ⟨t7,2,none⟩ (.slice a' m' c')=W4 at*;have hev5:=hev4.tur ht5 hT5 rfl;refine⟨ht5.hg g74 (fun e=>hne e.symm),hev5,⟨?_,?_,Sq hnm4 ht5 hT5 (by decide),?_,ht5.hg hrs4 (hT5.not hrs4 (by decide))⟩⟩
 ·refine hly4.tz ht5 (fun i hi=> ?_);obtain rfl:i=gb:=hi;exact⟨by omega,_,_,_,hgA,by decide,by decide⟩
 ·rw[←e6];refine⟨_,?_,(hrw4.tur ht5 hT5 rfl).put (i:=j) (y:=⟨e.k,e.v,a',m',c'⟩) ⟨rfl,rfl,hev5⟩ (by omega)⟩;rw[List.length_set,hyl] at hown5⊢
  exact hown5
 ·exact hlt4.step ht5 (fun i hi hl=>by
   obtain rfl:i=gb:=hi;exact .inr rfl)
end
end Go.Proofs.YtdgladhfibfdlaaGreatDoor
