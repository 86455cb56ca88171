/-
  Steps.
-/
import Derived.Test.YtdgladhfibfdlaaGreatDoorProg
import Derived.Lib.AppendStr
import Derived.Test.YtdgladhfibfdlaaGreatDoorQPSs15
namespace Go.Proofs.YtdgladhfibfdlaaGreatDoor
open Go Go.RowKit Tryz
set_option maxRecDepth 100000
abbrev CU8:TypeId:=5
abbrev CBS:TypeId:=48
theorem z7b (p:Int)(w:World):Calls prog 166 #[.int .i64 p] w fun e w'=>e=.returned (.bool (E1 p))∧w=w':=by
 unfold E1
 by_cases h0:p=0
 ·subst h0
  go_enter func166,ntmps166
  go_wp2;go_ret;exact⟨rfl,rfl⟩
 ·have e0:(p==0)=false:=by simpa using h0
  have e1:decide (p=0)=false:=zdf h0
  by_cases h2:2≤p
  ·have e2:decide (2≤p)=true:=zdt h2
   by_cases h3:p<1024
   ·have e3:decide (p<1024)=true:=zdt h3;rw[e1,e2,e3];clear h0
    go_enter func166,ntmps166
    go_wp2;go_ret;exact⟨rfl,rfl⟩
   ·have e3:decide (p<1024)=false:=zdf h3;rw[e1,e2,e3];clear h0
    go_enter func166,ntmps166
    go_wp2;go_ret;exact⟨rfl,rfl⟩
  ·have e2:decide (2≤p)=false:=zdf h2;rw[e1,e2];clear h0
   go_enter func166,ntmps166
   go_wp2;go_ret;exact⟨rfl,rfl⟩
theorem z2t (p:Int)(w:World):Calls prog 167 #[.int .i64 p] w fun e w'=>e=.returned (.bool (QF p))∧w=w':=by
 unfold QF
 by_cases h2:1≤p
 ·have e2:decide (1≤p)=true:=zdt h2
  by_cases h3:p≤502
  ·have e3:decide (p≤502)=true:=zdt h3;rw[e2,e3]
   go_enter func167,ntmps167
   go_wp2;go_ret;exact⟨rfl,rfl⟩
  ·have e3:decide (p≤502)=false:=zdf h3;rw[e2,e3]
   go_enter func167,ntmps167
   go_wp2;go_ret;exact⟨rfl,rfl⟩
 ·have e2:decide (1≤p)=false:=zdf h2;rw[e2]
  go_enter func167,ntmps167
  go_wp2;go_ret;exact⟨rfl,rfl⟩
theorem y9u (p:Nat)(w:World)(hp:p<1024):Calls prog 168 #[.slice none 0 0,.int .u64 p,.int .i64 2] w fun e w'=>e=.returned (.slice (some ⟨w.heap.size,0,none⟩) 2 2)∧w'.ownsRow w.heap.size CU8 1 (.slice (some ⟨w.heap.size,0,none⟩) 2 2) 2 (bv (beL p 2))∧zB w w':=by
 refine(YH none 0 [] p 2 w (by simp) (by omega) (by omega) (by omega) (Src.nil _ _)).mono ?_;rintro e w' ⟨rfl,hr,hb⟩;exact⟨rfl,z6c hr (zlr _) (by unfold maxLen;simp[X5]),hb⟩
theorem z2u (V:ByteArray):Go.Lib.strCells V=bv (bn V):=by
 unfold Go.Lib.strCells bv bn;rw[List.map_map];show _=List.map _ (bl V)
 rfl
theorem y1o (p:Int)(V:ByteArray)(w:World)(hV:V.size≤1000000):
  Calls prog 130 #[.int .i64 p,.string V] w fun e w'=>∃v,e=.returned (.tuple #[v,XY (chE p V)])∧w'.ownsRow w.heap.size CU8 1 v (chB p V).length (bv (chB p V))∧zB w w':=by
 have hN:=zh (z7b p);have hP:=zh (z2t V.size);have hE:Hid (chE p V=if (E1 p&&QF V.size)=true then 0 else 1):=rfl;have hB:Hid (chB p V=if (E1 p&&QF V.size)=true then beL p.toNat 2++bn V else []):=rfl;have hpr:Hid (E1 p=true→0≤p∧p<1024):=fun h=>by
  unfold E1 at h;simp at h;omega
 generalize chE p V=EE at*;generalize chB p V=EB at*;generalize E1 p=D1 at*;generalize QF V.size=D2 at*
 cases D1 with
 | false=>
  have h1:Hid (EE=1∧EB=[]):=⟨hE.out,hB.out⟩
  clear hE hB hpr
  go_enter func130,ntmps130
  go_wp2_with fail;refine(hN.out w).mono ?_;rintro e w1 ⟨rfl,rfl⟩;clear hN;go_wp2
  go_ret2
  exact⟨.slice none 0 0,by rw[h1.out.1];rfl,by rw[h1.out.2];exact World.ownsRow_nil _ _ _ _,zbr _ _⟩
 | true=>
 cases D2 with
 | false=>
  have h1:Hid (EE=1∧EB=[]):=⟨hE.out,hB.out⟩
  clear hE hB hpr
  go_enter func130,ntmps130
  go_wp2_with fail;refine(hN.out w).mono ?_;rintro e w1 ⟨rfl,rfl⟩;clear hN;go_wp2_with fail;refine(hP.out w).mono ?_;rintro e w1 ⟨rfl,rfl⟩;clear hP;go_wp2
  go_ret2
  exact⟨.slice none 0 0,by rw[h1.out.1];rfl,by rw[h1.out.2];exact World.ownsRow_nil _ _ _ _,zbr _ _⟩
 | true=>
  have h1:Hid (EE=0∧EB=beL p.toNat 2++bn V):=⟨hE.out,hB.out⟩
  have hp0:=(hpr.out rfl).1;have hp1:=(hpr.out rfl).2;obtain⟨P,rfl⟩:=Int.eq_ofNat_of_zero_le hp0;have hp2:P<1024:=by omega
  have hput:=zh (y9u P w hp2);have z1:IntKind.u64.wrap (P:Int)=(P:Int):=by rw[IntKind.wrap_u64];omega
  obtain⟨i0,hi,hz0,hz1,hz2⟩:=info_parts x1h;have HI:=zh (zai hi (zai hz0 (zai hz1 hz2)));clear hE hB hpr hi hz0 hz1 hz2
  go_enter func130,ntmps130
  go_wp2_with fail;refine(hN.out w).mono ?_;rintro e w1 ⟨rfl,rfl⟩;clear hN;go_wp2_with fail;refine(hP.out w).mono ?_;rintro e w1 ⟨rfl,rfl⟩;clear hP;go_wp2_with fail;refine hput.out.mono ?_;rintro e w1 ⟨rfl,ho,hb⟩;have Ho:=zh ho;have Hb:=zh hb;clear hput ho hb
  go_wp2_with (show wpList _ _ _ (⟨some 20,_,_,_,_,_⟩::_) _ _;refine Go.Lib.wpList_append_own_string _ rfl (.tmp 18) (.tmp 19) CBS x3i rfl w.heap.size CU8 i0 underlying48 underlying9 HI.out.1 HI.out.2.1 HI.out.2.2.1 HI.out.2.2.2 _ 2 (bv (beL P 2)) (by rfl) Ho.out V (by rfl) (by unfold maxLen;omega) (by omega) Hb.out.size ?_;intro v' w2 ho2 hg2 _;have Ho2:=zh ho2;have Hg2:=zh hg2;clear ho2 hg2)
  go_ret2
  refine⟨v',by rw[h1.out.1];rfl,?_,Hb.out.grown Hg2.out (Nat.le_trans (zlr _) Hb.out.size) ?_⟩
  ·rw[h1.out.2];have:=Ho2.out;rw[z2u,←qK] at this;rw[zla,X5,S8];exact this
  ·intro k hk
   cases hk;exact zlr _
structure CAt (w:World) (g o:Nat) (c:Ce):Prop where
 c0:w.cell? ⟨g,o,none⟩=some (.string c.k)
 c1:w.cell? ⟨g,o+1,none⟩=some (.string c.v)
 c2:w.cell? ⟨g,o+2,none⟩=some (.int .i64 c.n)
 c3:w.cell? ⟨g,o+3,none⟩=some (.int .i64 c.p)
theorem CAt.lt {w:World}{g o:Nat}{c:Ce}(h:CAt w g o c):g<w.heap.size:=block_lt_of_cell h.c0
theorem CAt.below {w w':World}{g o B:Nat}{c:Ce}(h:CAt w g o c)(hb:Below B w w')(hB:g<B):CAt w' g o c:=
 ⟨by rw[hb.cell (p:=⟨g,o,none⟩) hB];exact h.c0,by rw[hb.cell (p:=⟨g,o+1,none⟩) hB];exact h.c1,by rw[hb.cell (p:=⟨g,o+2,none⟩) hB];exact h.c2,by rw[hb.cell (p:=⟨g,o+3,none⟩) hB];exact h.c3⟩
theorem CAt.ext {w w':World}{g o:Nat}{c:Ce}(h:CAt w g o c)(hb:Ext w.drew w'):CAt w' g o c:=
 h.below (B:=w.heap.size) ((zbr _ w).drew.trans hb) h.lt
def z77 (w:World)(a:Option Addr)(cs:List Ce):Prop:=0<cs.length→∃g o,a=some ⟨g,o,none⟩∧∀i,i<cs.length→CAt w g (o+i*4) (ca cs i)
theorem z77.below {w w':World}{a:Option Addr}{cs:List Ce}{B:Nat}(h:z77 w a cs)(hb:Below B w w')(hB:w.heap.size≤B):z77 w' a cs:=fun h0=>by
 obtain⟨g,o,rfl,hc⟩:=h h0;exact⟨g,o,rfl,fun i hi=>(hc i hi).below hb (Nat.lt_of_lt_of_le (hc i hi).lt hB)⟩
theorem z77.nil (w:World)(a:Option Addr):z77 w a []:=fun h=>by cases h
def cvs:List Ce→List Value
 | []=> []
 | c::r=> .string c.k:: .string c.v:: .int .i64 c.n:: .int .i64 c.p::cvs r
theorem y1p:∀cs:List Ce,(cvs cs).length=cs.length*4
 | []=>rfl
 | c::r=>by simp only[cvs,List.length_cons,y1p r];omega
theorem y9v (a b:List Ce):cvs (a++b)=cvs a++cvs b:=by
 induction a with
 | nil=>rfl
 | cons c r ih=>simp only[List.cons_append,cvs,ih]
theorem y1q:∀cs:List Ce,∀u∈cvs cs,u.oneCell'=true
 | [],u,h=>by cases h
 | c::r,u,h=>by
  simp only[cvs,List.mem_cons] at h
  rcases h with rfl|rfl|rfl|rfl|h
  ·rfl
  ·rfl
  ·rfl
  ·rfl
  ·exact y1q r u h
theorem y1r:∀(cs:List Ce) (i j:Nat),i<cs.length→j<4→(cvs cs)[i*4+j]? =[Value.string (ca cs i).k,.string (ca cs i).v,.int .i64 (ca cs i).n,.int .i64 (ca cs i).p][j]?
 | [],i,j,h,_=>by simp at h
 | c::r,0,j,_,hj=>by
  have e:ca (c::r) 0=c:=rfl;rw[e]
  rcases j with _|_|_|_|j
  ·rfl
  ·rfl
  ·rfl
  ·rfl
  ·omega
 | c::r,i+1,j,h,hj=>by
  have e:ca (c::r) (i+1)=ca r i:=rfl;rw[e,show(i+1)*4+j=(i*4+j)+4 by omega,cvs];simp only[List.getElem?_cons_succ];exact y1r r i j (by simpa using h) hj
theorem O9 {w:World}{B E:Nat}{v:Value}{cs:List Ce}(h:w.ownsRow B E 4 v cs.length (cvs cs)):
  ∃a c,v=.slice a cs.length c∧z77 w a cs∧(a=none→c=0)∧cs.length≤c∧c≤maxLen:=by
 have h':=h;obtain⟨_,h2⟩:=h
 rcases h2 with ⟨rfl,h0⟩|⟨g,cap,cur,rfl,hb,hg,hnc,hcm,_⟩
 ·have:cs=[]:=List.eq_nil_of_length_eq_zero h0;subst this;exact⟨none,0,rfl,z77.nil _ _,fun _=>rfl,zlr _,by unfold maxLen;omega⟩
 ·refine⟨_,cap,rfl,fun _=>⟨g,0,rfl,fun i hi=> ?_⟩,(fun h=>by cases h),hnc,hcm⟩;have hcell:∀j,j<4→w.cell? ⟨g,0+i*4+j,none⟩=[Value.string (ca cs i).k,.string (ca cs i).v,.int .i64 (ca cs i).n,.int .i64 (ca cs i).p][j]? :=fun j hj=>by
   have:=h'.cellAt (i*4+j) (by omega);rw[y1r cs i j hi hj] at this;rw[Nat.zero_add];exact this
  exact⟨hcell 0 (by omega),hcell 1 (by omega),hcell 2 (by omega),hcell 3 (by omega)⟩
theorem x3l:(prog.info? CT).map (fun i=>(i.zero,i.size,i.bytes))=some (some (.agg #[.string ⟨#[]⟩,.string ⟨#[]⟩,.int .i64 0,.int .i64 0]),4,48):=by kernel_rfl
theorem y7d:(prog.info? RCT).map (fun i=>(i.zero,i.size,i.bytes))=some (some (.agg #[.string ⟨#[]⟩,.string ⟨#[]⟩,.int .i64 0,.int .i64 0]),4,48):=by kernel_rfl
section
variable {P:Program} {w:World} {ops:Array Oper} {rest:List Oper} {o:Oper} {a:Act} {Q:Exit→Act→World→Prop}
theorem Rx (hgd:o.guard=none)(s x:Operand)(t:TypeId)
  (ho:o.op=.call {callee:=.builtin .append,args:= #[s,x],argTypes:= #[t,t]})
  (base:Nat) (e:TypeId) (ht:P.underlying t=some (.slice e)) (h2:(P.info? e).map (fun i=>(i.zero,i.size,i.bytes))=some (some (.agg #[.string ⟨#[]⟩,.string ⟨#[]⟩,.int .i64 0,.int .i64 0]),4,48))
  (v:Value) (cs:List Ce) (hs:a.eval s=v) (hown:Hid (w.ownsRow base e 4 v cs.length (cvs cs)))
  (g c:Nat) (y:Ce) (hx:a.eval x=.slice (some ⟨g,0,none⟩) 1 c) (hy:CAt w g 0 y)
  (hlen:(cs.length+1)*48≤140737488355328) (hbase:base≤w.heap.size)
  (h:∀v' w',Hid (w'.ownsRow base e 4 v' (cs++[y]).length (cvs (cs++[y])))→Hid (w.grownBy w' v.ownBlock)→wpList P ops Q rest (a.put o.dst v') w'):
  wpList P ops Q (o::rest) a w:=by
 obtain⟨i0,hi,hz0,hz1,hz2⟩:=info_parts h2;refine Uz hgd s x t ho base e i0 (.agg #[.string ⟨#[]⟩,.string ⟨#[]⟩,.int .i64 0,.int .i64 0]) 4 48 ht hi hz0 hz1 hz2 rfl (by decide) v cs.length (cvs cs) hs hown.out ⟨g,0,none⟩ 1 c (cvs [y]) hx (by simp[cvs]) ?_ (y1q [y]) (by unfold maxLen;omega) hlen hbase ?_
 ·intro j u hj;have hj4:j<4:=by
   rcases zng j 4 with h1|h1
   ·exact h1
   ·rw[List.getElem?_eq_none (by rw[y1p];simpa using h1)] at hj;cases hj
  rw[U9,Nat.zero_add];have h0:=hy.c0;have h1:=hy.c1;have h2:=hy.c2;have h3:=hy.c3;rw[Nat.zero_add] at h1 h2 h3
  rcases j with _|_|_|_|j
  ·rw[h0,←hj];rfl
  ·rw[h1,←hj];rfl
  ·rw[h2,←hj];rfl
  ·rw[h3,←hj];rfl
  ·omega
 ·intro v' w' hown' hg _;refine h v' w' ?_ hg;show w'.ownsRow _ _ _ _ _ _;rw[y9v,zla];exact hown'
end
theorem y1s (w:World)(E:TypeId)(c:Ce):CAt (w.alloc (.cells #[.string c.k,.string c.v,.int .i64 c.n,.int .i64 c.p] E)) w.heap.size 0 c:=⟨by simp,by simp,by simp,by simp⟩
theorem z7c (a:Option Addr)(n c:Nat)(cs:List Ce)(w:World)(hn:cs.length=n)(hs:z77 w a cs)(hl:n≤9223372036854775807):
  Calls prog 134 #[.slice a n c] w fun e w'=>∃D,e=.returned (.bool D)∧(D=true↔asc cs)∧zB w w':=by
 have Hs:=zh hs;have Hn:=zh hn;clear hs hn
 go_enter func134,ntmps134
 go_wp2_with fail
 go_loopw [3] (fun i wr=>∃k:Nat,i=.int .i64 k∧1≤k∧(k≤n∨k=1)∧Hid (YK cs k)∧Hid (zB w wr)) (fun i _=>n-(intOf i).toNat)
 case atStart=>exact⟨1,rfl,by omega,.inr rfl,fun i h0 hi=>by omega,zbr _ _⟩
 case round=>
  obtain⟨k,rfl,hk1,hkn,ht,hB⟩:=hrel
  by_cases hlt:k<n
  ·obtain⟨j,rfl⟩:∃j,k=j+1:=⟨k-1,by omega⟩
   obtain⟨g,o,rfl,hcell⟩:=Hs.out.below hB.out (zlr _) (by rw[Hn.out];omega);have hA:=hcell (j+1) (by rw[Hn.out];omega);have hC:=hcell j (by rw[Hn.out];omega);have hle:=z8a (ca cs (j+1)).k (ca cs j).k;have hyes:Hid (blt (ca cs j).k (ca cs (j+1)).k=true→YK cs (j+1+1)):=fun h=>z6r ht.out (fun _=>by rw[Nat.add_sub_cancel];exact h)
   have hno:Hid (blt (ca cs j).k (ca cs (j+1)).k=false→¬asc cs):=fun h=>z9q (k:=j+1) (by omega) (by rw[Hn.out];exact hlt) (by rw[Nat.add_sub_cancel];exact h)
   have q1:∀w',Ext wr.drew w'→w'.cell? ⟨g,o+(j+1)*4,none⟩=some (.string (ca cs (j+1)).k):=fun w' hw=>(hA.ext hw).c0
   have q2:∀w',Ext wr.drew w'→w'.cell? ⟨g,o+j*4,none⟩=some (.string (ca cs j).k):=fun w' hw=>(hC.ext hw).c0
   generalize blt (ca cs j).k (ca cs (j+1)).k=D at*;have i1:(0:Int)≤(j:Int)+1:=by omega
   have i2:(j:Int)+1<(n:Int):=by omega
   have i3:(j:Int)<(n:Int):=by omega
   have i4:IntKind.i64.wrap (j:Int)=(j:Int):=by rw[IntKind.wrap_i64];omega
   clear hA hC hcell;go_wp2_with fail;refine rgr [(0,true),(1,true),(2,true),(3,true),(4,true),(5,true),(6,true),(7,true),(8,true),(9,true),(10,true),(11,true)] (h:= ?_);iterate 12 (refine grr (v:= ?_) rfl (by rfl) ?_ ?_;rotate_left;(intro w' hw';go_simp;with_reducible rfl);simp only[Act.put,zs0,zs1,zs2])
   refine Yq ?_;have hB2:Hid (zB w wr.drew):=hB.out.drew;clear q1 q2 hB ht
   cases D with
   | true=>
    have hy:=zh (hyes.out rfl);clear hyes hno;go_wp2_with fail
    go_roundw
    case rel=>exact⟨j+1+1,by go_num,by omega,.inl (by omega),hy,hB2⟩
    case measure=>simp[intOf];omega
   | false=>
    have hy:=zh (hno.out rfl);clear hyes hno;go_wp2_with fail;go_ret;exact⟨_,rfl,⟨(fun h=>by cases h),fun h=>absurd h hy.out⟩,hB2.out⟩
  ·have hasc:Hid (asc cs):=by
    show YK cs cs.length;rw[Hn.out]
    rcases hkn with h|h
    ·obtain rfl:k=n:=by omega
     exact ht.out
    ·intro i h0 hi;omega
   clear ht hkn;go_wp2;go_ret;exact⟨_,rfl,⟨fun _=>hasc.out,fun _=>rfl⟩,hB.out⟩
theorem Nq (b:Nat)(vc vk:Value)(w:World)(hb:NB w b vc vk Z0):Calls prog 62 #[pt b] w fun e w'=>e=.returned (.bool true)∧w=w':=by
 have q2:=hb.c3;clear hb
 go_enter func62,ntmps62
 go_wp2;go_ret;exact⟨rfl,rfl⟩
theorem Nx (b:Nat)(vc vk:Value)(a:Option Addr)(n c:Nat)(w:World)(hb:NB w b vc vk (.slice a n c))(h0:0<n):Calls prog 62 #[pt b] w fun e w'=>e=.returned (.bool false)∧w=w':=by
 have q2:=hb.c3;have d1:((n:Int)==0)=false:=by rw[beq_eq_false_iff_ne];omega
 clear hb
 go_enter func62,ntmps62
 go_wp2;go_ret;exact⟨rfl,rfl⟩
theorem C4 (b:Nat)(es:List En)(w:World)(hb:y00 w b es)(hl:es.length≤1000000):Calls prog 149 #[pt b] w fun e w'=>e=.returned (.int .i64 (vs es.length:Nat))∧w=w':=by
 obtain⟨vc,h1,a,c,rfl,_⟩:=hb;have q0:=h1.c1;have hi:=zh (Nq b _ _ w h1);have hs:=zh (Fq es.length w (by omega));have z1:IntKind.u64.wrap (es.length:Int)=(es.length:Int):=by rw[IntKind.wrap_u64];omega
 clear h1;generalize es.length=n at*
 go_enter func149,ntmps149
 go_wp2_with fail;refine hi.out.mono ?_;rintro e w' ⟨rfl,rfl⟩;go_wp2_with fail;refine hs.out.mono ?_;rintro e w' ⟨rfl,rfl⟩;go_wp2;go_ret;exact⟨rfl,rfl⟩
theorem C5 (b:Nat)(ks:List ByteArray)(ps:List Nat)(w:World)(hb:z2f w b ks ps)(hl:0<ps.length):Calls prog 149 #[pt b] w fun e w'=>e=.returned (.int .i64 2)∧w=w':=by
 obtain⟨vk,vp,h1,_,a,c,rfl,_⟩:=hb;have hi:=zh (Nx b _ _ _ _ _ w h1 hl);have hs:=zh (Ik none 0 0 [] w rfl (TxS.nil _ _) (by omega) (fun i hi=>by simp at hi));rw[show((X7 [] 0:Nat):Int)=2 from rfl] at hs;clear h1
 go_enter func149,ntmps149
 go_wp2_with fail;refine hi.out.mono ?_;rintro e w' ⟨rfl,rfl⟩;go_wp2_with fail;refine hs.out.mono ?_;rintro e w' ⟨rfl,rfl⟩;go_wp2;go_ret;exact⟨rfl,rfl⟩
theorem y5d (es:List En)(k:Nat)(h:k<es.length):(szI es).take (k+1)=(szI es).take k++[((szE (ea es k):Nat):Int)]:=by
 rw[z1y _ _ (by unfold szI;simpa using h),y0e _ _ h]
theorem y5e (ks:List ByteArray)(k:Nat)(h:k<ks.length):(ksI ks).take (k+1)=(ksI ks).take k++[((3+(sa ks k).size:Nat):Int)]:=by
 rw[z1y _ _ (by unfold ksI;simpa using h),y0f _ _ h]
theorem Lv (es:List En):(szI es).length=es.length:=by unfold szI;simp
theorem Lw (ks:List ByteArray):(ksI ks).length=ks.length:=by unfold ksI;simp
theorem JH (b:Nat)(es:List En)(w:World)(hb:y00 w b es)(hl:es.length≤1000000)(hok:∀x∈es,okE x):Calls prog 148 #[pt b] w fun e w'=>∃v,e=.returned v∧PgV w' v (szI es)∧zB w w':=by
 obtain⟨vc,h1,a,c,rfl,hs,_⟩:=hb;have H1:=zh h1;have Hs:=zh hs;have Hok:=zh hok;have q0:=h1.c1;have HN:∃n,es.length=n:=⟨_,rfl⟩
 obtain⟨n,hn⟩:=HN;have Hn:=zh hn;rw[hn] at q0 hl;clear h1 hs hok hn
 go_enter func148,ntmps148
 go_wp2_with fail
 go_loopw [3,5,13] (fun lv _ i wr=>∃(k:Nat) (v:Value),i=.int .i64 k∧v=lv∧k≤n∧Hid (wr.ownsRow w.heap.size 3 1 v ((szI es).take k).length (iv ((szI es).take k)))∧Hid (zB w wr)) (fun _ _ i _=>n-(intOf i).toNat)
 case atStart=>exact⟨0,Z0,rfl,rfl,by omega,World.ownsRow_nil w w.heap.size 3 1,zbr _ _⟩
 case round=>
  obtain⟨k,v,rfl,rfl,hk,hown,hB⟩:=hrel
  by_cases hlt:k<n
  ·obtain⟨g,o,rfl,hcell⟩:=(Hs.out.below hB.out (zlr _)).ents (by rw[Hn.out];omega);obtain⟨p0,p1,_,p2,⟨sa,sc,rfl,_⟩⟩:=hcell k (by rw[Hn.out];exact hlt);have Htk:=zh (y5d es k (by rw[Hn.out];exact hlt));have hsz:=hB.out.size;have Htl:Hid (((szI es).take k).length=k):=by show _=_;rw[zlk,Lv,Hn.out];omega
   have hoke:=Hok.out (ea es k) (Mw (by rw[Hn.out];exact hlt));have hks:=Xv hoke.1;have hvs:=hoke.2;have hsr:=(G4 hoke).2;have Hcall:=zh (Cy (ea es k).k (ea es k).v.size (wr.alloc (.cells #[.string (ea es k).k,.string (ea es k).v,.slice sa (ea es k).ch.length sc] TCT)) (by omega) (by omega));have e1:Hid (Ej (ea es k).k ((ea es k).v.size:Int)=szE (ea es k)):=rfl;rw[e1.out] at Hcall;generalize szE (ea es k)=S at*;generalize ea es k=y at*;obtain⟨yk,yv,yc⟩:=y;dsimp only at p0 p1 p2 Hcall hks hvs;generalize yc.length=yn at*;clear hcell hoke e1;go_wp2_with fail;refine Hcall.out.mono ?_;rintro e w' ⟨rfl,rfl⟩;clear Hcall
   go_wp2_with (at_builtin;refine S7 rfl (.tmp 17) (.tmp 26) 101 rfl w.heap.size 3 underlying101 YF _ ((szI es).take k) (by rfl) ((hown.out.alloc _).alloc _) (wr.heap.size+1) 1 (S:Int) (by rfl) (by simp) (by rw[Htl.out];omega) (by simp;omega) ?_;intro v' w2 hown2 hgrow2)
   have hb2:Hid (zB w w2):=((hB.out.alloc hsz _).alloc (by simp;omega) _).grown hgrow2.out (by simp;omega) (fun j hj=>(hown.out.lt j hj).1);have ho2:Hid (w2.ownsRow w.heap.size 3 1 v' ((szI es).take (k+1)).length (iv ((szI es).take (k+1)))):=by rw[Htk.out];exact hown2
   clear hown2 hgrow2 hown hB;go_wp2
   go_roundw
   case rel=>exact⟨k+1,v',by go_num,rfl,by omega,ho2,hb2⟩
   case measure=>simp[intOf];omega
  ·obtain rfl:k=n:=by omega
   have ho:=hown.out;rw[List.take_of_length_le (by rw[Lv,Hn.out];exact zlr _)] at ho;have hcl:=zh (Q5 ho);have q1:=(H1.out.ext hB.out).c2;clear ho hown;go_wp2_with fail
   go_loopw [3,7,34] (fun lv _ i wr2=>lv=v∧i=.int .i64 0∧wr=wr2) (fun _ _ _ _=>0)
   case atStart=>exact⟨rfl,rfl,by first|trivial|rfl⟩
   case round=>
    obtain⟨rfl,rfl,rfl⟩:=hrel;go_wp2;go_ret;exact⟨_,rfl,hcl.out,hB.out⟩
theorem JI (b:Nat)(ks:List ByteArray)(ps:List Nat)(w:World)(hb:z2f w b ks ps)(hl:ks.length≤1000000)(hok:∀x∈ks,okK x=true):Calls prog 148 #[pt b] w fun e w'=>∃v,e=.returned v∧PgV w' v (ksI ks)∧zB w w':=by
 obtain⟨vk,vp,h1,⟨a,c,rfl,hs,_⟩,_⟩:=hb;have H1:=zh h1;have Hs:=zh hs.texts;have Hok:=zh hok;have q0:=h1.c1;have q1:=h1.c2;have HN:∃n,ks.length=n:=⟨_,rfl⟩
 obtain⟨n,hn⟩:=HN;have Hn:=zh hn;rw[hn] at q1 hl;clear h1 hs hok hn
 go_enter func148,ntmps148
 go_wp2_with fail
 go_loopw [3,5,13] (fun lv _ i wr=>lv=Z0∧i=.int .i64 0∧w=wr) (fun _ _ _ _=>0)
 case atStart=>exact⟨rfl,rfl,by first|trivial|rfl⟩
 case round=>
  obtain⟨rfl,rfl,rfl⟩:=hrel;go_wp2_with fail
  go_loopw [3,7,34] (fun lv _ i wr=>∃(k:Nat) (v:Value),i=.int .i64 k∧lv=v∧k≤n∧Hid (wr.ownsRow w.heap.size 3 1 v ((ksI ks).take k).length (iv ((ksI ks).take k)))∧Hid (zB w wr)) (fun _ _ i _=>n-(intOf i).toNat)
  case atStart=>exact⟨0,Z0,rfl,rfl,by omega,World.ownsRow_nil w w.heap.size 3 1,zbr _ _⟩
  case round=>
   obtain⟨k,v,rfl,rfl,hk,hown,hB⟩:=hrel
   by_cases hlt:k<n
   ·obtain⟨g,o,rfl,hcell⟩:=(Hs.out.below hB.out (zlr _)) (by rw[Hn.out];omega)
    have p0:=hcell k (by rw[Hn.out];exact hlt);have Htk:=zh (y5e ks k (by rw[Hn.out];exact hlt));have hsz:=hB.out.size;have Htl:Hid (((ksI ks).take k).length=k):=by show _=_;rw[zlk,Lw,Hn.out];omega
    have hoke:=Hok.out (sa ks k) (by unfold sa;rw[List.getD_eq_getElem?_getD,List.getElem?_eq_getElem (by rw[Hn.out];exact hlt)];exact List.getElem_mem _);have hks:=Xv hoke;have Hcall:=zh (Ik (some ⟨wr.heap.size,0,none⟩) 1 1 [sa ks k] (wr.alloc (.cells #[.string (sa ks k)] 9)) rfl (fun _=>⟨wr.heap.size,0,rfl,fun i hi=>by have h0:i=0:=Nat.lt_one_iff.1 hi;subst h0;simp[sa]⟩) (by omega) (fun i hi=>by
     have h0:i=0:=Nat.lt_one_iff.1 hi;subst h0;exact⟨hoke,by rw[J1,if_pos rfl];exact YO (Xv hoke).1⟩))
    have e1:Hid (((X7 [sa ks k] 1:Nat):Int)=((5+(sa ks k).size:Nat):Int)):=by show _=_;rw[X7,X7];show((2+(3+(sa [sa ks k] 0).size):Nat):Int)=_;rw[show sa [sa ks k] 0=sa ks k from rfl];omega
    rw[e1.out] at Hcall;have Hcall2:=fun w=>Ik none 0 0 [] w rfl (TxS.nil _ _) (by omega) (fun i hi=>by simp at hi)
    have Hcall2:=zh Hcall2;rw[show((X7 [] 0:Nat):Int)=2 from rfl] at Hcall2;clear hcell hoke e1;generalize sa ks k=y at*;obtain⟨S,hS⟩:∃S,S=3+y.size:=⟨_,rfl⟩
    obtain⟨S5,hS5⟩:∃S5,S5=5+y.size:=⟨_,rfl⟩
    rw[←hS] at Htk;rw[←hS5] at Hcall;have z1:IntKind.i64.wrap ((S5:Int)-2)=(S:Int):=by rw[IntKind.wrap_i64];omega
    clear hS hS5;go_wp2_with fail;refine Hcall.out.mono ?_;rintro e w' ⟨rfl,rfl⟩;clear Hcall;go_wp2_with fail;refine(Hcall2.out _).mono ?_;rintro e w' ⟨rfl,rfl⟩;clear Hcall2
    go_wp2_with (at_builtin;refine S7 rfl (.tmp 38) (.tmp 44) 101 rfl w.heap.size 3 underlying101 YF _ ((ksI ks).take k) (by rfl) ((hown.out.alloc _).alloc _) (wr.heap.size+1) 1 (S:Int) (by rfl) (by simp) (by rw[Htl.out];omega) (by simp;omega) ?_;intro v' w2 hown2 hgrow2)
    have hb2:Hid (zB w w2):=((hB.out.alloc hsz _).alloc (by simp;omega) _).grown hgrow2.out (by simp;omega) (fun j hj=>(hown.out.lt j hj).1);have ho2:Hid (w2.ownsRow w.heap.size 3 1 v' ((ksI ks).take (k+1)).length (iv ((ksI ks).take (k+1)))):=by rw[Htk.out];exact hown2
    clear hown2 hgrow2 hown hB;go_wp2
    go_roundw
    case rel=>exact⟨k+1,v',by go_num,rfl,by omega,ho2,hb2⟩
    case measure=>simp[intOf];omega
   ·obtain rfl:k=n:=by omega
    have ho:=hown.out;rw[List.take_of_length_le (by rw[Lw,Hn.out];exact zlr _)] at ho;have hcl:=zh (Q5 ho);clear ho hown;go_wp2;go_ret;exact⟨_,rfl,hcl.out,hB.out⟩
theorem x13 {es:List En}(h:∀x∈es,okE x):xT (szI es) es.length:=fun i hi=>by
 rw[y0e es i hi,Ou];have:=G4 (h _ (Mw hi));omega
theorem x14 {ks:List ByteArray}(h:∀x∈ks,okK x=true):xT (ksI ks) ks.length:=fun i hi=>by
 rw[y0f ks i hi,Ou];have h1:sa ks i∈ks:=by unfold sa;rw[List.getD_eq_getElem?_getD,List.getElem?_eq_getElem hi];exact List.getElem_mem _
 have:=Xv (h _ h1);omega
theorem z5a (b m n:Nat)(l:List Int)(w:World)(hn:l.length=n)(hl:n≤1000000)(hok:xT l n)(hm:m≤100)
  (h1:∀w',zB w w'→Calls prog 149 #[pt b] w' fun e w''=>e=.returned (.int .i64 m)∧w'=w'')
  (h2:∀w',zB w w'→Calls prog 148 #[pt b] w' fun e w''=>∃v,e=.returned v∧PgV w'' v l∧zB w' w''):
  Calls prog 146 #[pt b] w fun e w'=>e=.returned (.int .i64 ((m:Int)+pf l n))∧zB w w':=by
 have H1:=zh (h1 w (zbr _ _));have H2:=zh (h2 w (zbr _ _));have Hok:=zh hok;have Hn:=zh hn;clear h1 h2 hok hn
 go_enter func146,ntmps146
 go_wp2_with fail;refine H1.out.mono ?_;rintro e w' ⟨rfl,rfl⟩;clear H1;go_wp2_with fail;refine H2.out.mono ?_;rintro e w1 ⟨v,rfl,⟨a,c,rfl,hs,_⟩,hb⟩;have Hs:=zh hs;have Hb:=zh hb;rw[Hn.out];clear hs hb H2;go_wp2_with fail
 go_loopw [3,5,11] (fun s _ i wr=>∃k t:Nat,s=.int .i64 t∧i=.int .i64 k∧k≤n∧t≤m+1024*k∧Hid ((t:Int)=(m:Int)+pf l k)∧w1=wr) (fun _ _ i _=>n-(intOf i).toNat)
 case atStart=>exact⟨0,m,rfl,rfl,by omega,by omega,by show _=_;rw[J0];omega,by first|trivial|rfl⟩
 case round=>
  obtain⟨k,t,rfl,rfl,hk,ht,hts,rfl⟩:=hrel
  by_cases hlt:k<n
  ·obtain⟨g,o,rfl,hcell⟩:=Hs.out (by rw[Hn.out];omega);have q0:=hcell k (by rw[Hn.out];exact hlt);have h1:=(Ou _).1 (Hok.out k hlt);have h5:Hid ((t:Int)+ia l k=(m:Int)+pf l (k+1)):=by show _=_;rw[Ez,hts.out];omega
   obtain⟨x,hx⟩:=Int.eq_ofNat_of_zero_le h1.1;rw[hx] at q0 h1 h5;have h6:x≤1024:=by omega
   clear hcell hts hx h1;go_wp2
   go_roundw
   case rel=>exact⟨k+1,t+x,by go_num,by go_num,by omega,by omega,by show _=_;rw[←h5.out];omega,by first|trivial|rfl⟩
   case measure=>simp[intOf];omega
  ·obtain rfl:k=n:=by omega
   go_wp2;go_ret;exact⟨by rw[←hts.out];rfl,Hb.out⟩
theorem z0l (b:Nat)(es:List En)(w:World)(hb:y00 w b es)(hl:es.length≤1000000)(hok:∀x∈es,okE x):Calls prog 146 #[pt b] w fun e w'=>e=.returned (.int .i64 (Y3 es:Nat))∧zB w w':=by
 have hv:=I9 (show es.length<18446744073709551616 by omega);refine(z5a b (vs es.length) es.length (szI es) w (Lv es) hl (x13 hok) (by omega) (fun w' hw=>C4 b es w' (hb.ext hw) hl) (fun w' hw=>JH b es w' (hb.ext hw) hl hok)).mono ?_;rintro e w' ⟨rfl,h⟩;refine⟨?_,h⟩;rw[z4u,List.take_of_length_le (zlr _)];unfold Y3;rw[show((vs es.length+szs es:Nat):Int)=(vs es.length:Int)+(szs es:Int) by omega]
theorem z0m (b:Nat)(ks:List ByteArray)(ps:List Nat)(w:World)(hb:z2f w b ks ps)(hp:0<ps.length)(hl:ks.length≤1000000)(hok:∀x∈ks,okK x=true):Calls prog 146 #[pt b] w fun e w'=>e=.returned (.int .i64 (T8 ks:Nat))∧zB w w':=by
 refine(z5a b 2 ks.length (ksI ks) w (Lw ks) hl (x14 hok) (by omega) (fun w' hw=>C5 b ks ps w' (hb.ext hw) hp) (fun w' hw=>JI b ks ps w' (hb.ext hw) hl hok)).mono ?_;rintro e w' ⟨rfl,h⟩;refine⟨?_,h⟩;rw[z4v,List.take_of_length_le (zlr _)];unfold T8;rw[show((2+kss ks:Nat):Int)=((2:Nat):Int)+(kss ks:Int) by omega]
theorem Ly {h:Nat}{lo hi:SB}{b:Nat}{es:List En}{s:Nat}(w:World)(hn:Nd w h lo hi b es s)(hs:s≤100000):Calls prog 146 #[pt b] w fun e w'=>e=.returned (.int .i64 (s:Nat))∧zB w w':=by
 cases h with
 | zero=>
  obtain⟨h1,_,_,h4,rfl⟩:=hn;have hok:=fun x hx=>(h4 x hx).1
  have h5:=Vu hok;exact z0l b es w h1 (by unfold Y3 at hs;omega) hok
 | succ h=>
  obtain⟨ks,ps,ess,h1,h2,_,rfl⟩:=hn;have hok:=(h2.facts zU.facts).2.2.2;have h5:=Y5 hok;exact z0m b ks ps w h1 (by have:=h2.len;omega) (by unfold T8 at hs;omega) hok
abbrev RFT:TypeId:=209
def Sw (w:World)(v:Value)(l:List Nat):Prop:=∃a c,v=.slice a l.length c∧Src w a l∧(a=none→c=0)∧l.length≤c∧c≤maxLen
theorem Sl.sw {w:World}{v:Value}{l:List Nat}(h:Sl w v l):Sw w v l:=h.arg
theorem Sw.arg {w:World}{v:Value}{l:List Nat}(h:Sw w v l):∃a c,v=.slice a l.length c∧Src w a l∧(a=none→c=0)∧l.length≤c∧c≤maxLen:=h
theorem Sw.sl {w:World}{v:Value}{l:List Nat}(h:Sw w v l)(h0:l≠[]):Sl w v l:=by
 obtain⟨a,c,rfl,hs,_,h1,h2⟩:=h;obtain⟨g,o,rfl,hc⟩:=hs (List.length_pos_iff.2 h0);exact .inr ⟨g,o,c,rfl,hc,h1,h2⟩
theorem Sw.below {w w':World}{v:Value}{l:List Nat}{B:Nat}(h:Sw w v l)(hb:Below B w w')(hB:w.heap.size≤B):Sw w' v l:=by
 obtain⟨a,c,rfl,hs,hz,h1,h2⟩:=h;exact⟨a,c,rfl,hs.below hb hB,hz,h1,h2⟩
structure RfW (w:World) (x:Value) (S:RS):Prop where
 ex:∃v,x=.agg #[v,.bool S.wr]∧Sw w v S.l
 b8:B8 S.l
 len:S.l.length≤65536
 inv:S.wr=true→S.l=[]
theorem y9w (w:World)(T:TypeId)(v1 v2:Value)(x1 x2:Bool):zB w ((w.alloc (.cells #[v1,.bool x1] T)).alloc (.cells #[v2,.bool x2] T)).drew∧
  RSB ((w.alloc (.cells #[v1,.bool x1] T)).alloc (.cells #[v2,.bool x2] T)).drew w.heap.size T v1 x1∧RSB ((w.alloc (.cells #[v1,.bool x1] T)).alloc (.cells #[v2,.bool x2] T)).drew (w.heap.size+1) T v2 x2:=by
 have hsz:(w.alloc (.cells #[v1,.bool x1] T)).heap.size=w.heap.size+1:=by simp
 refine⟨(((zbr w.heap.size w).alloc (zlr _) (.cells #[v1,.bool x1] T)).alloc (by omega) _).drew,?_,?_⟩
 ·have h1:=RSB.new w T v1 x1;have hb:Below (w.heap.size+1) (w.alloc (.cells #[v1,.bool x1] T)) ((w.alloc (.cells #[v1,.bool x1] T)).alloc (.cells #[v2,.bool x2] T)):=(zbr _ _).alloc (by omega) _;have h3:=h1.below hb (by omega);exact h3
 ·have h2:=RSB.new (w.alloc (.cells #[v1,.bool x1] T)) T v2 x2;rw[hsz] at h2;exact h2
theorem y9x {w w2:World}{a:Option Addr}{n c:Nat}{wr:Bool}
  (hb:Below ((w.alloc (.cells #[.slice a n c,.bool wr] RFT)).alloc (.cells #[.slice none 0 0,.bool false] RFT)).heap.size ((w.alloc (.cells #[.slice a n c,.bool wr] RFT)).alloc (.cells #[.slice none 0 0,.bool false] RFT)) w2) (v:Value) (y:Bool):
  (RSB w2 w.heap.size RFT (.slice a n c) wr∧JD w2 w.heap.size)∧
  RSB ((w2.setCell ⟨w.heap.size,0,none⟩ v).setCell ⟨w.heap.size,1,none⟩ (.bool y)) w.heap.size RFT v y∧
  RSB ((w2.setCell ⟨w.heap.size,0,none⟩ v).setCell ⟨w.heap.size,1,none⟩ (.bool y)) (w.heap.size+1) RFT (.slice none 0 0) false∧
  zB w ((w2.setCell ⟨w.heap.size,0,none⟩ v).setCell ⟨w.heap.size,1,none⟩ (.bool y)):=by
 obtain⟨h1,h2,h3⟩:=y9w w RFT (.slice a n c) (.slice none 0 0) wr false;have hz:w.heap.size+2=((w.alloc (.cells #[.slice a n c,.bool wr] RFT)).alloc (.cells #[.slice none 0 0,.bool false] RFT)).heap.size:=by simp
 have h1':zB w ((w.alloc (.cells #[.slice a n c,.bool wr] RFT)).alloc (.cells #[.slice none 0 0,.bool false] RFT)):=
  ((zbr w.heap.size w).alloc (zlr _) (.cells #[.slice a n c,.bool wr] RFT)).alloc (by simp) _
 have h2':RSB ((w.alloc (.cells #[.slice a n c,.bool wr] RFT)).alloc (.cells #[.slice none 0 0,.bool false] RFT)) w.heap.size RFT (.slice a n c) wr:=h2;have h3':RSB ((w.alloc (.cells #[.slice a n c,.bool wr] RFT)).alloc (.cells #[.slice none 0 0,.bool false] RFT)) (w.heap.size+1) RFT (.slice none 0 0) false:=h3;have k2:=h2'.below hb (by omega);have k3:=h3'.below hb (by omega);refine⟨⟨k2,k2.noByte⟩,(k2.set0 v).set1 y,k3.turn (Y2 _ _ _ _) (by omega),?_⟩;exact Below.setCell (p:=⟨w.heap.size,1,none⟩) (Below.setCell (p:=⟨w.heap.size,0,none⟩) (h1'.trans (hb.mono (by omega))) (zlr _) v) (zlr _) _
theorem z2w (w:World)(x:Value)(S:RS)(h:RfW w x S):
  Calls prog 111 #[x] w fun e w'=>e=.returned (.bool (okS S))∧zB w w':=by
 obtain⟨v,rfl,h2⟩:=h.ex;have hl:=h.len;obtain⟨a,c,rfl,_⟩:=h2.arg;obtain⟨l,wr⟩:=S;dsimp only at*;clear h h2;have hb:Hid (zB w (w.alloc (.cells #[.slice a l.length c,.bool wr] RFT))):=(zbr _ _).alloc (zlr _) _
 cases wr with
 | true=>
  have e:Hid (okS ⟨l,true⟩=false):=by show _=_;unfold okS;simp
  generalize l.length=n at*
  go_enter func111,ntmps111
  go_wp2;go_ret;exact⟨by rw[e.out];rfl,hb.out⟩
 | false=>
  have e:Hid (okS ⟨l,false⟩=decide (l.length=0)):=by show _=_;unfold okS;cases l<;>simp
  generalize l.length=n at*;have d1:((n:Int)==0)=decide (n=0):=by rw[Bool.eq_iff_iff];simp
  generalize decide (n=0)=D at*
  go_enter func111,ntmps111
  go_wp2;go_ret;exact⟨by rw[e.out];rfl,hb.out⟩
theorem XE (l:List Nat):(opS l).2.1.length≤504:=by
 unfold opS;split
 ·simp
 ·split
  ·simp
  ·split
   ·rename_i h
    show((l.drop 4).take _).length≤504;rw[zlk];have:=h.2.2.1;omega
   ·simp
theorem JJ (a:Option Addr)(n c:Nat)(l:List Nat)(hn:l.length=n)(w:World)(hb:B8 l)(hlc:n≤c)(hcm:c≤140737488355328)(hsrc:Src w a l):
  Calls prog 107 #[.slice a n c] w fun e w'=>∃v,e=.returned (.tuple #[.int .u8 ((opS l).1:Nat),v,.int .i64 ((opS l).2.2:Nat)])∧Sl w' v (opS l).2.1∧zB w w':=by
 subst hn;have hcx:c≤maxLen:=by unfold maxLen;omega
 by_cases h512:l.length=512
 ·obtain⟨b,o,rfl,hcs⟩:=hsrc (by omega);have hI:=y0x b o c l w h512 (by omega) hcm hcs hb;rw[h512]
  by_cases hs:XZ (l.drop 508)=(YA 0#32 (l.take 508)).toNat
  ·rw[zdt hs] at hI;have hcore:=jX b o c _ _ _ _ _ _ _ l w h512 (by omega) hcm hcs hb hI rfl rfl rfl rfl rfl rfl rfl
   by_cases hgood:(1≤l.getD 0 0∧l.getD 0 0≤5)∧l.getD 1 0=0∧l.getD 2 0*256+l.getD 3 0≤504∧S6 ((l.take 508).drop (4+(l.getD 2 0*256+l.getD 3 0)))=true
   ·rw[y4z h512 hs hgood];obtain⟨g1,g2,g3,g4⟩:=hgood;rw[zdt ⟨g1,g2,g3⟩,g4] at hcore;have hLl:((l.drop 4).take (l.getD 2 0*256+l.getD 3 0)).length=l.getD 2 0*256+l.getD 3 0:=by rw[zlk,zld];omega
    have hlt:=hcs.lt (by omega);refine hcore.mono ?_;rintro e w' ⟨rfl,hbw⟩;refine⟨_,rfl,?_,hbw⟩;exact .inr ⟨b,o+4,c-4,by rw[hLl],(hcs.below hbw hlt).cut 4 _,by rw[hLl];omega,by omega⟩
   ·rw[y4y h512 hs hgood];have hf:(decide ((1≤l.getD 0 0∧l.getD 0 0≤5)∧l.getD 1 0=0∧l.getD 2 0*256+l.getD 3 0≤504)&&S6 ((l.take 508).drop (4+(l.getD 2 0*256+l.getD 3 0))))=false:=by
     rw[Bool.and_eq_false_iff,decide_eq_false_iff_not]
     by_cases hz:S6 ((l.take 508).drop (4+(l.getD 2 0*256+l.getD 3 0)))=true
     ·left;intro h;exact hgood ⟨h.1,h.2.1,h.2.2,hz⟩
     ·right;exact Bool.eq_false_iff.2 hz
    rw[hf] at hcore;refine hcore.mono ?_;rintro e w' ⟨rfl,hbw⟩;exact⟨_,rfl,Sl.none _,hbw⟩
  ·rw[y8g h512 hs];rw[zdf hs] at hI;refine(z2d b o c w hI).mono ?_;rintro e w' ⟨rfl,rfl⟩;exact⟨_,rfl,Sl.none _,zbr _ _⟩
 ·rw[y8f h512];refine(z2c a _ c w h512).mono ?_;rintro e w' ⟨rfl,rfl⟩;exact⟨_,rfl,Sl.none _,zbr _ _⟩
def Lo (v:Value)(B:Nat):Prop:=∀g o n c,v=.slice (some ⟨g,o,none⟩) n c→0<n→g<B
theorem Lo.none (B:Nat):Lo (.slice none 0 0) B:=fun _ _ _ _ e=>by cases e
theorem Lo.empty (a:Option Addr)(c B:Nat):Lo (.slice a 0 c) B:=fun _ _ _ _ e h0=>by
 simp only[Value.slice.injEq] at e;omega
theorem Lo.same {g o n c o' n' c' B:Nat}(h:Lo (.slice (some ⟨g,o,Option.none⟩) n c) B)(h1:n'≤n):Lo (.slice (some ⟨g,o',Option.none⟩) n' c') B:=fun g2 o2 n2 c2 e h0=>by
 cases e
 exact h g o n c rfl (by omega)
theorem Kz (w:World)(o:Obj)(F:Nat→Prop):Zx F w (w.alloc o):=(Zx.refl F w).alloc o
theorem Rv {w w':World}{row:Option Nat}(hg:w.grownBy w' row):Zx (fun i=>row=some i) w w':=
 ⟨hg.os,hg.tape,hg.output,hg.size,fun i hi hne=>hg.block i hi (fun e=>hne e.symm)⟩
theorem y1t {S:RS}{l:List Nat}{b:Bool}(h1:S.l=l)(h2:S.wr=b):S=⟨l,b⟩:=by
 obtain⟨x,y⟩:=S;dsimp only at h1 h2;rw[h1,h2]
theorem x4t {w:World}{a:Option Addr}{c:Nat}{l:List Nat}(h:Src w a l):Lo (.slice a l.length c) w.heap.size:=fun g o n c' e h0=>by
 simp only[Value.slice.injEq] at e;obtain⟨rfl,rfl,rfl⟩:=e;obtain⟨g',o',e,hc⟩:=h h0
 cases e
 exact hc.lt h0
theorem Sl.overLo {w w':World}{B:Nat}{v:Value}{l:List Nat}{F:Nat→Prop}(h:Sl w v l)(hl:Lo v B)(t:Zx F w w')(hF:∀i,F i→B≤i):Sl w' v l:=by
 rcases h with h4|⟨g',o',c',rfl,hc,h5,h6⟩
 ·exact .inl h4
 ·refine .inr ⟨g',o',c',rfl,fun i hi=> ?_,h5,h6⟩;have hlt:=hl g' o' _ c' rfl (by omega);rw[t.cell (p:=⟨g',o'+i,Option.none⟩) (block_lt_of_cell (hc i hi)) (fun hx=>by have:=hF g' hx;omega)];exact hc i hi
theorem y9y {w:World}{B E sz n:Nat}{v:Value}{xs:List Value}(h:w.ownsRow B E sz v n xs):∀i,v.ownBlock=some i→i<w.heap.size:=fun i hi=>(h.lt i hi).2
theorem V3 {w w':World}{B E sz n:Nat}{v:Value}{xs:List Value}{F:Nat→Prop}(h:w.ownsRow B E sz v n xs)(t:Zx F w w')(hF:∀i,v.ownBlock=some i→¬F i):w'.ownsRow B E sz v n xs:=by
 refine⟨h.1,?_⟩
 rcases h.2 with h1|⟨g,cap,cur,h1,h2,h3,h4⟩
 ·exact .inl h1
 ·exact .inr ⟨g,cap,cur,h1,h2,t.hg h3 (hF g (by rw[h1];rfl)),h4⟩
theorem y9z (v:Nat):beL v 2=[v/256%256,v%256]:=rfl
end Go.Proofs.YtdgladhfibfdlaaGreatDoor
