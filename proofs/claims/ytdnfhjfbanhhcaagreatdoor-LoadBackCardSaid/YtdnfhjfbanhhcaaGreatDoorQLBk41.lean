/-
  Steps.
-/
import Derived.Test.YtdnfhjfbanhhcaaGreatDoorQLBk39
import Derived.Test.YtdnfhjfbanhhcaaGreatDoorQLBk40
import Derived.Test.YtdnfhjfbanhhcaaGreatDoorQLBk12
import Derived.Test.YtdnfhjfbanhhcaaGreatDoorQLBk11
import Derived.Test.YtdnfhjfbanhhcaaGreatDoorQLBk31
namespace Go.Proofs.YtdnfhjfbanhhcaaGreatDoor
open Go Go.RowKit
theorem q5i:∀is:List Nat,pgE.row is=is.map (fun p:Nat=>Value.int .i64 p)
 | []=>rfl
 | x::r=>by rw[Elt.row,q5i r];rfl
theorem PgT.ev {w:World}{a:Option Addr}{n:Nat}{is:List Nat}(h:PgT w a (is.map (fun n:Nat=>(n:Int))))(hn:is.length=n)(h0:a=none→n=0)(h9:n≤maxLen):EV pgE w (.slice a n n) is:=by
 refine⟨a,n,by rw[hn],?_,h0,by omega,h9⟩
 cases a with
 | none=>
  have:=h0 rfl;subst this;exact .inl ⟨rfl,List.eq_nil_of_length_eq_zero hn⟩
 | some ad=>
  obtain⟨g,o,A,fz,rfl,h1⟩:=h.2 ad rfl;refine .inr ⟨g,o,rfl,⟨A,3,fz,h1,by decide⟩,fun j u hu=> ?_⟩;rw[q5i,List.getElem?_map] at hu
  cases hj:is[j]? with
  | none=>rw[hj] at hu;cases hu
  | some y=>
   rw[hj] at hu;injection hu with hu
   have hl:=(List.getElem?_eq_some_iff.1 hj).1;obtain⟨g2,o2,e2,hc⟩:=h.1 (by rw[List.length_map];omega);injection e2 with e2
   injection e2 with e2 e3 _
   subst e2 e3;have h3:=hc j (by rw[List.length_map];exact hl);have e5:ia (is.map (fun n:Nat=>(n:Int))) j=((y:Nat):Int):=by
    unfold ia;rw[List.getD_eq_getElem?_getD,List.getElem?_map,hj];rfl
   rw[e5] at h3;rw[h3,←hu]
theorem EV.lo {α:Type}{E:Elt α}{w:World}{v:Value}{l:List α}(h:EV E w v l):PLo w.heap.size v:=fun a n c e=>by
 obtain⟨a2,c2,rfl,hs,_⟩:=h;injection e with e _ _
 subst e
 rcases hs with ⟨h1,_⟩|⟨g,o,h1,⟨A,T,fz,h2,_⟩,_⟩
 ·cases h1
 ·injection h1 with h1
  subst h1;exact(zag.1 h2).1
theorem y3f (f:Nat→Bool)(ts:List Tr):sc (fun m=>f m&& !(z04 2 m||addR (fun _=>false) (uL ts) m))=sc (z1j f ts):=z8s (fun m _=>by
 unfold z1j z04;rw[show decide ((m:Int)<2)=decide (m<2) from decide_eq_decide.2 (by omega)])
structure LA (w0 wr:World) (g2 g3 g4:Nat) (p:Option Addr) (n:Int) (f:Nat→Bool):Prop where
 bt:TB wr g2 p n
 bs:Blk wr g3 TS (sc f)
 br:TB wr g4 none 0
 lo:w0.heap.size≤g2∧w0.heap.size≤g3∧w0.heap.size≤g4∧g2≠g3∧g4≠g3∧g4≠g2
 bl:Below w0.heap.size w0 wr
section
variable {w0 wr w':World} {g2 g3 g4:Nat} {p:Option Addr} {n:Int} {f f':Nat→Bool}
theorem LA.ext (h:LA w0 wr g2 g3 g4 p n f)(hb:Below wr.heap.size wr w'):LA w0 w' g2 g3 g4 p n f:=
 ⟨h.bt.ext hb,h.bs.ext hb,h.br.ext hb,h.lo,h.bl.trans (hb.mono h.bl.size)⟩
theorem LA.put (h:LA w0 wr g2 g3 g4 p n f)(t:Turn (fun i=>i=g3) wr w')(hk:Blk w' g3 TS (sc f')):LA w0 w' g2 g3 g4 p n f':=
 ⟨h.bt.turn t (fun e=>h.lo.2.2.2.1 e),hk,h.br.turn t (fun e=>h.lo.2.2.2.2.1 e),h.lo,h.bl.trans (t.below h.bl.size (fun i hi=>by subst hi;exact h.lo.2.1))⟩
theorem LA.new {u0:World}{g8:Nat}(h:LA w0 wr g2 g3 g4 p n f)(h0:LA w0 u0 g2 g3 g4 p n f')(hG:u0.heap.size≤g8)(t:Turn (fun i=>i=g8) wr w'):LA w0 w' g2 g3 g4 p n f:=by
 have l2:=h0.bt.lt;have l3:=h0.bs.lt;have l4:=h0.br.lt;exact⟨h.bt.turn t (by omega),h.bs.turn t (by omega),h.br.turn t (by omega),h.lo,h.bl.trans (t.below h.bl.size (fun i hi=>by subst hi;have:=h0.bl.size;omega))⟩
end
set_option maxRecDepth 100000 in
/-- Lay,whatever Take answers:R is what must be told of each of the three ways.-/
theorem x9p (f:Nat→Bool)(p:Option Addr)(n:Int)(ts:List Tr)(H:Nat)(w:World)(ER:Value)(PS:List Nat)(N:Nat)(R:Ending→World→Prop)(ht:z0y w p ts H)(hch:∀e∈esL ts,e.ch.length≤100000)(hnd:z0f ts≤1000000)(hN:z0f ts=N)
  (hT:∀w',Below w.heap.size w w'→Calls Tryz.prog 29 #[.agg (sc (z1j f ts)),.int .i64 N] w' fun e w''=>∃U S,e=.returned (.tuple #[U,.agg (sc S),ER])∧EV pgE w'' U PS∧Below w'.heap.size w' w'')
  (hc:(ER=errC 8∧∀w',Below w.heap.size w w'→R (.returned (.tuple #[.agg #[.pointer none,.int .i64 0],nilS,errC 8])) w')∨
   (ER=.nilIface∧p=none∧∀w',Below w.heap.size w w'→R (.returned (.tuple #[.agg #[.pointer none,.int .i64 n],nilS,.nilIface])) w')∨
   (ER=.nilIface∧∃b h t v,p=some ⟨b,0,none⟩∧NPv w b v∧NdVT w h none none v t∧t.sz≤504∧(0<h→3≤t.sz)∧t.es≠[]∧t.es.length≤100000∧(∀e∈t.es,CeV e∧e.ch.length≤100000)∧t.need≤PS.length∧(∀x∈PS,2≤x∧x<1024)∧(∀p,cU p (layT t PS)≤1)∧(∀p,0<cU p (layT t PS)→2≤p∧p<1024)∧t.need≤50000∧z0x w∧
    ∀w' p' vw gs,z0y w' p' [layT t PS] (h+1)→w'.ownsRow w.heap.size WRT wrE0.sz vw gs.length (wrE0.row gs)→WRo w' gs (wrT t PS)→Below w.heap.size w w'→R (.returned (.tuple #[.agg #[.pointer p',.int .i64 (t.es.length:Nat)],vw,.nilIface])) w')):
  Calls Tryz.prog 6 #[.agg #[.pointer p,.int .i64 n],.agg (sc f)] w R:=by
 have HU:Hid (∀w',Below w.heap.size w w'→Calls Tryz.prog 23 #[.agg #[.pointer p,.int .i64 n]] w' fun e w''=>e=.returned (.agg (sc (addR (fun _=>false) (uL ts))))∧Below w'.heap.size w' w''):=fun w' hb=>y5v p n ts H w' (ht.ext hb) hch
 have HN:Hid (∀w',Below w.heap.size w w'→Calls Tryz.prog 20 #[.agg #[.pointer p,.int .i64 n]] w' fun e w''=>e=.returned (.int .i64 (N:Nat))∧Below w'.heap.size w' w''):=fun w' hb=>hN▸x5m p n ts H w' (ht.ext hb) hch hnd
 have HT:=zh hT;have HC:=zh hc;clear hT hch hnd hN ht hc;obtain⟨W,hW,hT,hb⟩:=z0b w TT #[.pointer p,.int .i64 n];have HW:=zh (zai hW (zai hT hb));clear hW hT hb
 go_enter Tryz.func6,Tryz.ntmps6
 go_upto_region 1 with (refine z0q rfl TS (.tmp 1) rfl (sc f) (by rfl) ?_;intro g3 w1 hg3 hk3 hb3)
 have hla:Hid (LA w (w1.alloc (.cells #[.pointer none,.int .i64 0] TT)) w.heap.size g3 w1.heap.size p n f):=by
  obtain⟨hW,hT,hb⟩:=HW.out;rw[hW] at hg3 hb3;have hb1:=hb.trans (hb3.mono hb.size);have hba:Below w1.heap.size w1 (w1.alloc (.cells #[.pointer none,.int .i64 0] TT)):=(zbr _ _).alloc (zlr _) _;have hl1:=hb3.size;have hl2:w.heap.size<W.heap.size:=TB.lt hT;have hl3:=hk3.lt;exact⟨TB.ext (TB.ext hT hb3) hba,hk3.ext hba,z0h _ _ _,⟨zlr _,by omega,by omega,by omega,by omega,by omega⟩,hb1.trans (hba.mono hb1.size)⟩
 clear hg3 hk3 hb3 HW;generalize w1.alloc (.cells #[.pointer none,.int .i64 0] TT)=wA at*;generalize w1.heap.size=g4 at*
 go_cut [] (fun wx=>Hid (LA w wx w.heap.size g3 g4 p n (z1j f ts)))
 case first=>
  obtain⟨uA,huA,hA⟩:∃u,wA.drew=u∧LA w u w.heap.size g3 g4 p n f:=⟨_,rfl,hla.out.ext (zbr _ _).drew⟩
  have HuA:=zh huA;have q0:=fun w' (t:Turn (fun i=>i=g3) uA w')=>(hA.bt.turn t (fun e=>hA.lo.2.2.2.1 e)).c0
  have q1:=fun w' (t:Turn (fun i=>i=g3) uA w')=>(hA.bt.turn t (fun e=>hA.lo.2.2.2.1 e)).c1
  clear hla huA;refine z0l (F:=fun i=>i=g3) (.rd 2 (.two 0 (.call 1 (.call 3 (.call 4 (.call 5 (.call 6 .done))))) 1 (.two 0 (.call 3 (.call 4 (.call 5 (.call 6 .done)))) 3 (.two 0 (.call 4 (.call 5 (.call 6 .done))) 4 (.call 0 (.call 5 (.call 6 .done))))))) (by kernel_rfl) (by kernel_rfl) (by kernel_rfl) (by kernel_rfl) (fun _ _ _ _ _ h=>h) ?_;rw[HuA.out]
  (refine gsr (v:= ?_) rfl (by rfl) ?_ ?_;rotate_left;(intro w' hw';go_simp;with_reducible rfl);simp only[Act.put,zs0,zs1,zs2])
  clear q0 q1;refine⟨?_,?_⟩
  ·refine gsc rfl (by rfl) (fun K hK=> ?_);refine z2p TS (.tmp 3) rfl g3 _ TS (by rfl) z0i hA.bs ?_;refine hK _ _ (Turn.refl _ _) ?_;simp only[Act.put,zs0,zs1,zs2];clear hK K;refine gsc rfl (by rfl) (fun K hK=> ?_);go_simp;refine(z2u 2 _ (by omega)).mono ?_;rintro e v1 ⟨rfl,hb⟩;refine hK _ _ (q5w hb) ?_;clear hK K;have h1:=hA.ext hb;clear hb;refine gsc rfl (by rfl) (fun K hK=> ?_);go_simp;refine(HU.out _ h1.bl).mono ?_;rintro e v2 ⟨rfl,hb⟩;refine hK _ _ (q5w hb) ?_;clear hK K;have h2:=h1.ext hb;clear hb;refine gsc rfl (by rfl) (fun K hK=> ?_);go_simp;refine(z47 _ _ _).mono ?_;rintro e v3 ⟨rfl,hb⟩;refine hK _ _ (q5w hb) ?_;clear hK K;have h3:=h2.ext hb;clear hb;refine gsc rfl (by rfl) (fun K hK=> ?_);go_simp;refine(z4q _ _ _).mono ?_;rintro e v4 ⟨rfl,hb⟩;refine hK _ _ (q5w hb) ?_;clear hK K;have h4:=h3.ext hb;clear hb;refine gsc rfl (by rfl) (fun K hK=> ?_);refine z1d TS (.tmp 3) (.tmp 19) rfl g3 _ _ TS (by rfl) (by rfl) z0i h4.bs ?_;intro v5 hk ht _;refine hK _ _ ht ?_;clear hK K;have hfin:Hid (LA w v5 w.heap.size g3 g4 p n (z1j f ts)):=h4.put ht (by rw[←y3f];exact hk);refine z0a ?_;go_wp2;go_meet;exact hfin
  ·refine gsc rfl (by rfl) (fun K hK=> ?_);go_simp;refine(z2u 2 _ (by omega)).mono ?_;rintro e v1 ⟨rfl,hb⟩;refine hK _ _ (q5w hb) ?_;clear hK K;have h1:=hA.ext hb;clear hb;refine⟨?_,?_⟩
   ·refine gsc rfl (by rfl) (fun K hK=> ?_);refine z2p TS (.tmp 3) rfl g3 _ TS (by rfl) z0i h1.bs ?_;refine hK _ _ (Turn.refl _ _) ?_;simp only[Act.put,zs0,zs1,zs2];clear hK K;refine gsc rfl (by rfl) (fun K hK=> ?_);go_simp;refine(HU.out _ h1.bl).mono ?_;rintro e v2 ⟨rfl,hb⟩;refine hK _ _ (q5w hb) ?_;clear hK K;have h2:=h1.ext hb;clear hb;refine gsc rfl (by rfl) (fun K hK=> ?_);go_simp;refine(z47 _ _ _).mono ?_;rintro e v3 ⟨rfl,hb⟩;refine hK _ _ (q5w hb) ?_;clear hK K;have h3:=h2.ext hb;clear hb;refine gsc rfl (by rfl) (fun K hK=> ?_);go_simp;refine(z4q _ _ _).mono ?_;rintro e v4 ⟨rfl,hb⟩;refine hK _ _ (q5w hb) ?_;clear hK K;have h4:=h3.ext hb;clear hb;refine gsc rfl (by rfl) (fun K hK=> ?_);refine z1d TS (.tmp 3) (.tmp 19) rfl g3 _ _ TS (by rfl) (by rfl) z0i h4.bs ?_;intro v5 hk ht _;refine hK _ _ ht ?_;clear hK K;have hfin:Hid (LA w v5 w.heap.size g3 g4 p n (z1j f ts)):=h4.put ht (by rw[←y3f];exact hk);refine z0a ?_;go_wp2;go_meet;exact hfin
   ·refine gsc rfl (by rfl) (fun K hK=> ?_);go_simp;refine(HU.out _ h1.bl).mono ?_;rintro e v2 ⟨rfl,hb⟩;refine hK _ _ (q5w hb) ?_;clear hK K;have h2:=h1.ext hb;clear hb;refine⟨?_,?_⟩
    ·refine gsc rfl (by rfl) (fun K hK=> ?_);refine z2p TS (.tmp 3) rfl g3 _ TS (by rfl) z0i h2.bs ?_;refine hK _ _ (Turn.refl _ _) ?_;simp only[Act.put,zs0,zs1,zs2];clear hK K;refine gsc rfl (by rfl) (fun K hK=> ?_);go_simp;refine(z47 _ _ _).mono ?_;rintro e v3 ⟨rfl,hb⟩;refine hK _ _ (q5w hb) ?_;clear hK K;have h3:=h2.ext hb;clear hb;refine gsc rfl (by rfl) (fun K hK=> ?_);go_simp;refine(z4q _ _ _).mono ?_;rintro e v4 ⟨rfl,hb⟩;refine hK _ _ (q5w hb) ?_;clear hK K;have h4:=h3.ext hb;clear hb;refine gsc rfl (by rfl) (fun K hK=> ?_);refine z1d TS (.tmp 3) (.tmp 19) rfl g3 _ _ TS (by rfl) (by rfl) z0i h4.bs ?_;intro v5 hk ht _;refine hK _ _ ht ?_;clear hK K;have hfin:Hid (LA w v5 w.heap.size g3 g4 p n (z1j f ts)):=h4.put ht (by rw[←y3f];exact hk);refine z0a ?_;go_wp2;go_meet;exact hfin
    ·refine gsc rfl (by rfl) (fun K hK=> ?_);go_simp;refine(z47 _ _ _).mono ?_;rintro e v3 ⟨rfl,hb⟩;refine hK _ _ (q5w hb) ?_;clear hK K;have h3:=h2.ext hb;clear hb;refine gsc rfl (by rfl) (fun K hK=> ?_);refine z2p TS (.tmp 3) rfl g3 _ TS (by rfl) z0i h3.bs ?_;refine hK _ _ (Turn.refl _ _) ?_;simp only[Act.put,zs0,zs1,zs2];clear hK K;refine gsc rfl (by rfl) (fun K hK=> ?_);go_simp;refine(z4q _ _ _).mono ?_;rintro e v4 ⟨rfl,hb⟩;refine hK _ _ (q5w hb) ?_;clear hK K;have h4:=h3.ext hb;clear hb;refine gsc rfl (by rfl) (fun K hK=> ?_);refine z1d TS (.tmp 3) (.tmp 19) rfl g3 _ _ TS (by rfl) (by rfl) z0i h4.bs ?_;intro v5 hk ht _;refine hK _ _ ht ?_;clear hK K;have hfin:Hid (LA w v5 w.heap.size g3 g4 p n (z1j f ts)):=h4.put ht (by rw[←y3f];exact hk);refine z0a ?_;go_wp2;go_meet;exact hfin
 case rest=>
  have hla:=hcut;clear hcut
  go_upto_region 2 with fail
  go_cut [7,8,9] (fun s7 s8 s9 wx=>∃(U:Value) (g8:Nat),s7=U∧s8=.pointer (some ⟨g8,0,none⟩)∧s9=ER∧Hid (LA w wx w.heap.size g3 g4 p n (z1j f ts)∧EV pgE wx U PS))
  case first=>
   obtain⟨u0,hu0,hM⟩:∃u,wc.drew=u∧LA w u w.heap.size g3 g4 p n (z1j f ts):=⟨_,rfl,hla.out.ext (zbr _ _).drew⟩
   have Hu0:=zh hu0;have hlt2:=hM.bt.lt;have hlt3:=hM.bs.lt;have q0:=fun w' (t:Turn (fun i=>u0.heap.size≤i) u0 w')=>(hM.bt.turn t (by omega)).c0
   have q1:=fun w' (t:Turn (fun i=>u0.heap.size≤i) u0 w')=>(hM.bt.turn t (by omega)).c1
   have q2:=fun w' (t:Turn (fun i=>u0.heap.size≤i) u0 w')=>hM.bs.turn t (by omega)
   have t0:=Turn.refl (fun i=>u0.heap.size≤i) u0;clear hla hu0 hlt2 hlt3;refine z0l (F:=fun i=>u0.heap.size≤i) (.rd 0 (.rd 1 (.two 2 (.two 3 (.rd 4 (.rd 5 (.rd 6 (.rd 7 (.call 8 (.rd 9 (.call 10 (.rd 11 .done)))))))) 8 (.call 3 (.rd 4 (.rd 5 (.rd 6 (.rd 7 (.rd 9 (.call 10 (.rd 11 .done))))))))) 8 (.call 2 (.call 3 (.rd 4 (.rd 5 (.rd 6 (.rd 7 (.rd 9 (.call 10 (.rd 11 .done)))))))))))) (by kernel_rfl) (by kernel_rfl) (by kernel_rfl) (by kernel_rfl) (fun _ _ _ _ _ h=>h) ?_;rw[Hu0.out];refine gsr (v:=.agg (sc (z1j f ts))) rfl (by rfl) (fun w' hw'=>z7f TS (.tmp 3) rfl g3 _ TS (by rfl) z0i (q2 w' hw')) ?_;simp only[Act.put,zs0,zs1,zs2]
   (refine gsr (v:= ?_) rfl (by rfl) ?_ ?_;rotate_left;(intro w' hw';go_simp;with_reducible rfl);simp only[Act.put,zs0,zs1,zs2])
   clear q0 q1 q2;refine⟨?_,?_⟩
   ·refine gsc rfl (by rfl) (fun K hK=> ?_);go_simp;refine(HN.out _ hM.bl).mono ?_;rintro e u1 ⟨rfl,hb⟩;refine hK _ _ (q5w hb) ?_;clear hK K;have h1:=hM.ext hb;have t1:=t0.trans (q5w (F:=fun i=>u0.heap.size≤i) hb);clear hb;refine⟨?_,?_⟩
    ·refine gsc rfl (by rfl) (fun K hK=> ?_);go_simp;refine(HT.out _ h1.bl).mono ?_;rintro e u2 ⟨U,S,rfl,hq,hb⟩;refine hK _ _ (q5w hb) ?_;clear hK K;have h2:=h1.ext hb;have t2:=t1.trans (q5w (F:=fun i=>u0.heap.size≤i) hb);clear hb
     (refine gsr (v:= ?_) rfl (by rfl) ?_ ?_;rotate_left;(intro w' hw';go_simp;with_reducible rfl);simp only[Act.put,zs0,zs1,zs2])
     (refine gsr (v:= ?_) rfl (by rfl) ?_ ?_;rotate_left;(intro w' hw';go_simp;with_reducible rfl);simp only[Act.put,zs0,zs1,zs2])
     (refine gsr (v:= ?_) rfl (by rfl) ?_ ?_;rotate_left;(intro w' hw';go_simp;with_reducible rfl);simp only[Act.put,zs0,zs1,zs2])
     (refine gsr (v:= ?_) rfl (by rfl) ?_ ?_;rotate_left;(intro w' hw';go_simp;with_reducible rfl);simp only[Act.put,zs0,zs1,zs2])
     refine gsc rfl (by rfl) (fun K hK=> ?_);refine z3a TS rfl z18 ?_;intro g8 u3 hg8 hk8 hb;refine hK _ _ (q5w hb) ?_;clear hK K;have h3:=h2.ext hb;have t3:=t2.trans (q5w (F:=fun i=>u0.heap.size≤i) hb);have hG:u0.heap.size≤g8:=znt t2.size hg8;replace hq:=hq.ext hb;simp only[Act.put,zs0,zs1,zs2];clear hb hg8
     (refine gsr (v:= ?_) rfl (by rfl) ?_ ?_;rotate_left;(intro w' hw';go_simp;with_reducible rfl);simp only[Act.put,zs0,zs1,zs2])
     refine gsc rfl (by rfl) (fun K hK=> ?_);refine z1d TS (.tmp 8) (.tmp 26) rfl g8 _ _ TS (by rfl) (by rfl) z0i hk8 ?_;intro u5 hk ht _;refine hK _ _ (ht.mono (fun i hi _=>by subst hi;exact hG)) ?_;clear hK K;simp only[Act.put]
     (refine gsr (v:= ?_) rfl (by rfl) ?_ ?_;rotate_left;(intro w' hw';go_simp;with_reducible rfl);simp only[Act.put,zs0,zs1,zs2])
     have hfin:Hid (LA w u5 w.heap.size g3 g4 p n (z1j f ts)∧EV pgE u5 U PS):=⟨h3.new hM hG ht,hq.turn z7o ht (TF.var hk8)⟩
     refine z0a ?_;go_wp2;go_meet;exact⟨U,_,rfl,rfl,rfl,hfin⟩
    ·refine gsc rfl (by rfl) (fun K hK=> ?_);refine z3a TS rfl z18 ?_;intro g8 u3 hg8 hk8 hb;refine hK _ _ (q5w hb) ?_;clear hK K;have h3:=h1.ext hb;have t3:=t1.trans (q5w (F:=fun i=>u0.heap.size≤i) hb);have hG:u0.heap.size≤g8:=znt t1.size hg8;simp only[Act.put,zs0,zs1,zs2];clear hb hg8;refine gsc rfl (by rfl) (fun K hK=> ?_);go_simp;refine(HT.out _ h3.bl).mono ?_;rintro e u2 ⟨U,S,rfl,hq,hb⟩;refine hK _ _ (q5w hb) ?_;clear hK K;have h2:=h3.ext hb;have t2:=t3.trans (q5w (F:=fun i=>u0.heap.size≤i) hb);replace hk8:=hk8.ext hb;clear hb
     (refine gsr (v:= ?_) rfl (by rfl) ?_ ?_;rotate_left;(intro w' hw';go_simp;with_reducible rfl);simp only[Act.put,zs0,zs1,zs2])
     (refine gsr (v:= ?_) rfl (by rfl) ?_ ?_;rotate_left;(intro w' hw';go_simp;with_reducible rfl);simp only[Act.put,zs0,zs1,zs2])
     (refine gsr (v:= ?_) rfl (by rfl) ?_ ?_;rotate_left;(intro w' hw';go_simp;with_reducible rfl);simp only[Act.put,zs0,zs1,zs2])
     (refine gsr (v:= ?_) rfl (by rfl) ?_ ?_;rotate_left;(intro w' hw';go_simp;with_reducible rfl);simp only[Act.put,zs0,zs1,zs2])
     (refine gsr (v:= ?_) rfl (by rfl) ?_ ?_;rotate_left;(intro w' hw';go_simp;with_reducible rfl);simp only[Act.put,zs0,zs1,zs2])
     refine gsc rfl (by rfl) (fun K hK=> ?_);refine z1d TS (.tmp 8) (.tmp 26) rfl g8 _ _ TS (by rfl) (by rfl) z0i hk8 ?_;intro u5 hk ht _;refine hK _ _ (ht.mono (fun i hi _=>by subst hi;exact hG)) ?_;clear hK K;simp only[Act.put]
     (refine gsr (v:= ?_) rfl (by rfl) ?_ ?_;rotate_left;(intro w' hw';go_simp;with_reducible rfl);simp only[Act.put,zs0,zs1,zs2])
     have hfin:Hid (LA w u5 w.heap.size g3 g4 p n (z1j f ts)∧EV pgE u5 U PS):=⟨h2.new hM hG ht,hq.turn z7o ht (TF.var hk8)⟩
     refine z0a ?_;go_wp2;go_meet;exact⟨U,_,rfl,rfl,rfl,hfin⟩
   ·refine gsc rfl (by rfl) (fun K hK=> ?_);refine z3a TS rfl z18 ?_;intro g8 u3 hg8 hk8 hb;refine hK _ _ (q5w hb) ?_;clear hK K;have h3:=hM.ext hb;have t3:=t0.trans (q5w (F:=fun i=>u0.heap.size≤i) hb);have hG:u0.heap.size≤g8:=znt t0.size hg8;simp only[Act.put,zs0,zs1,zs2];clear hb hg8;refine gsc rfl (by rfl) (fun K hK=> ?_);go_simp;refine(HN.out _ h3.bl).mono ?_;rintro e u1 ⟨rfl,hb⟩;refine hK _ _ (q5w hb) ?_;clear hK K;have h1:=h3.ext hb;have t1:=t3.trans (q5w (F:=fun i=>u0.heap.size≤i) hb);replace hk8:=hk8.ext hb;clear hb;refine gsc rfl (by rfl) (fun K hK=> ?_);go_simp;refine(HT.out _ h1.bl).mono ?_;rintro e u2 ⟨U,S,rfl,hq,hb⟩;refine hK _ _ (q5w hb) ?_;clear hK K;have h2:=h1.ext hb;have t2:=t1.trans (q5w (F:=fun i=>u0.heap.size≤i) hb);replace hk8:=hk8.ext hb;clear hb
    (refine gsr (v:= ?_) rfl (by rfl) ?_ ?_;rotate_left;(intro w' hw';go_simp;with_reducible rfl);simp only[Act.put,zs0,zs1,zs2])
    (refine gsr (v:= ?_) rfl (by rfl) ?_ ?_;rotate_left;(intro w' hw';go_simp;with_reducible rfl);simp only[Act.put,zs0,zs1,zs2])
    (refine gsr (v:= ?_) rfl (by rfl) ?_ ?_;rotate_left;(intro w' hw';go_simp;with_reducible rfl);simp only[Act.put,zs0,zs1,zs2])
    (refine gsr (v:= ?_) rfl (by rfl) ?_ ?_;rotate_left;(intro w' hw';go_simp;with_reducible rfl);simp only[Act.put,zs0,zs1,zs2])
    (refine gsr (v:= ?_) rfl (by rfl) ?_ ?_;rotate_left;(intro w' hw';go_simp;with_reducible rfl);simp only[Act.put,zs0,zs1,zs2])
    refine gsc rfl (by rfl) (fun K hK=> ?_);refine z1d TS (.tmp 8) (.tmp 26) rfl g8 _ _ TS (by rfl) (by rfl) z0i hk8 ?_;intro u5 hk ht _;refine hK _ _ (ht.mono (fun i hi _=>by subst hi;exact hG)) ?_;clear hK K;simp only[Act.put]
    (refine gsr (v:= ?_) rfl (by rfl) ?_ ?_;rotate_left;(intro w' hw';go_simp;with_reducible rfl);simp only[Act.put,zs0,zs1,zs2])
    have hfin:Hid (LA w u5 w.heap.size g3 g4 p n (z1j f ts)∧EV pgE u5 U PS):=⟨h2.new hM hG ht,hq.turn z7o ht (TF.var hk8)⟩
    refine z0a ?_;go_wp2;go_meet;exact⟨U,_,rfl,rfl,rfl,hfin⟩
  case rest=>
   obtain⟨U,g8,rfl,rfl,rfl,hlb⟩:=hcut;clear HU HN HT hla
   rcases HC.out with ⟨hE,hR⟩|⟨hE,hp,hR⟩|⟨hE,b,h,t,v,hp,hnp,hnv,hz,hz3,hne,hl,hce,hnd,hps,hone,hrg,hn5,hwo,hR⟩
   ·have HR:=zh hR;clear HC hR;rw[show errC 8=.iface 94 (.int .i64 8) from rfl] at hE HR;subst hE;have hbr:=hlb.out.1.br;have q0:=hbr.c0;have q1:=hbr.c1;have f0:=hbr.fz 0;have f1:=hbr.fz 1;have HP:=zh (hbr.put none 0);have d0:=HP.out.c0;have d1:=HP.out.c1;have Hb:=zh (z1m (b:=g4) (u:=.pointer none) (v:=.int .i64 0) hlb.out.1.bl hlb.out.1.lo.2.2.1);clear hbr;go_wp2_with fail;refine bodyPost_ret (v:=.tuple #[.agg #[.pointer none,.int .i64 0],.slice none 0 0,.iface 94 (.int .i64 8)]) (by rw[z15 rfl];go_simp) rfl (HR.out _ Hb.out)
   ·have HR:=zh hR;clear HC hR;subst hE hp;have Hroot:=zh (z8p n wc);have e0:=hlb.out.1.bt.c0;have e1:=hlb.out.1.bt.c1;go_wp2_with fail;refine Hroot.out.mono ?_;rintro e w6 ⟨rfl,hb6⟩;clear e0 e1;have hx:=hlb.out.1.ext hb6;have hba:Below w6.heap.size w6 (w6.alloc (.cells #[.int .i64 0,nilS,nilS,nilS] VT)):=(zbr _ _).alloc (zlr _) _;have hy:=hx.ext hba;have HB6:=zh hy.bl;have q0:=hy.br.c0;have q1:=hy.br.c1;have p0:=hy.bt.c0;have p1:=hy.bt.c1;have f0:=hy.br.fz 0;have f1:=hy.br.fz 1;have HP:=zh (hy.br.put none n);have d0:=HP.out.c0;have d1:=HP.out.c1;have Hb:=zh (z1m (b:=g4) (u:=.pointer none) (v:=.int .i64 n) hy.bl hy.lo.2.2.1);clear hx hba hy hb6 Hroot;go_wp2_with fail;refine bodyPost_ret (v:=.tuple #[.agg #[.pointer none,.int .i64 n],.slice none 0 0,.nilIface]) (by rw[z15 rfl];go_simp) rfl (HR.out _ Hb.out)
   ·have HR:=zh hR;have Hroot:=zh (z6x b n v wc (NP.ext hnp hlb.out.1.bl));clear HC hR;subst hE hp;have Hev:=zh hlb.out.2;obtain⟨ua,uc,rfl,_⟩:=hlb.out.2;generalize hPN:PS.length=PN at*;have e0:=hlb.out.1.bt.c0;have e1:=hlb.out.1.bt.c1;have Hy:=zh (zai hz (zai hz3 (zai hne (zai hl (zai hce (zai hnd (zai hps (zai hone (zai hrg (zai hn5 (zai hwo hnv)))))))))));clear hz hz3 hne hl hce hnd hps hone hrg hn5 hwo hnv hnp;obtain⟨pg,ca,cn,cc,ka,kn,kc,pa,pn,pc⟩:=v;dsimp only[NoV.c,NoV.k,NoV.p,NoV.v] at*;go_wp2_with fail;refine Hroot.out.mono ?_;rintro e w6 ⟨rfl,hb6⟩;clear e0 e1;have hx:=hlb.out.1.ext hb6;go_wp2_with fail;obtain⟨W8,hW8⟩:∃W,w6.alloc (.cells #[.int .i64 (pg:Nat),.slice ca cn cc,.slice ka kn kc,.slice pa pn pc] VT)=W:=⟨_,rfl⟩
    obtain⟨W9,hW9⟩:∃W,W8.alloc (.cells #[.slice ua PN uc,.slice none 0 0] LYT)=W:=⟨_,rfl⟩
    rw[hW8,hW9];have hs8:W8.heap.size=w6.heap.size+1:=by rw[←hW8];simp
    have hs9:W9.heap.size=w6.heap.size+2:=by rw[←hW9];simp[hs8]
    have hb8:Below w6.heap.size w6 W8:=by rw[←hW8];exact(zbr _ _).alloc (zlr _) _
    have hb9:Below W8.heap.size W8 W9:=by rw[←hW9];exact(zbr _ _).alloc (zlr _) _
    have hb69:=hb8.trans (hb9.mono hb8.size);have hgl9:W9.heap[w6.heap.size+1]? =some (.cells #[.slice ua PN uc,.slice none 0 0] LYT (0,0)):=by rw[←hW9,←hs8];exact z0h _ _ _
    have hx9:=hx.ext hb69;have hev6:=Hev.out.ext hb6;have hev9:=hev6.ext hb69;have hwo9:=Hy.out.2.2.2.2.2.2.2.2.2.2.1.below hx9.bl;have hlw:w.heap.size≤w6.heap.size:=hx.bl.size;have hwg:(2:Nat)<w6.heap.size+1:=by
     have h1:(2:Nat)<w.heap.size:=block_lt_of_cell (Hy.out.2.2.2.2.2.2.2.2.2.2.1 0 (by omega));omega
    have hly:LyI W9 (w6.heap.size+1) (w6.heap.size+2) PS []:=⟨⟨_,nilS,[],hgl9,⟨hev9,fun a n c e=>by have:=hev6.lo a n c e;omega⟩,World.ownsRow_nil _ _ _ _,trivial⟩,by omega,by omega,hwo9,hwg⟩
    have hold:OldT W9 (w6.heap.size+2) h none none ⟨pg,ca,cn,cc,ka,kn,kc,pa,pn,pc⟩ t:=⟨w,fun _=>False,Hy.out.2.2.2.2.2.2.2.2.2.2.2,by omega,q5w hx9.bl,fun i hi _=>hi.elim⟩
    have hg4:g4<w6.heap.size:=hx.br.lt;have Hsz:=zh (zai hs8 (zai hs9 (zai hlw hg4)));have Hx9:=zh hx9;have hcall:=z97 (w6.heap.size+1) (w6.heap.size+2) h ⟨pg,ca,cn,cc,ka,kn,kc,pa,pn,pc⟩ t PS [] W9 hly hold Hy.out.1 Hy.out.2.1 Hy.out.2.2.2.2.1 (by rw[hPN];exact Hy.out.2.2.2.2.2.1) Hy.out.2.2.2.2.2.2.1 Hy.out.2.2.2.2.2.2.2.1 Hy.out.2.2.2.2.2.2.2.2.1 (by have:=Hy.out.2.2.2.2.2.2.2.2.2.1;simpa using this);clear hW8 hW9 hs8 hs9 hb8 hb9 hb69 hgl9 hx9 hev6 hev9 hwo9 hlw hwg hly hold hg4 hx hb6 Hroot Hev hlb;refine hcall.mono ?_;clear hcall;rintro e w10 ⟨x,rfl,hn10,hly10,ht10⟩;have hlen:(layT t PS).es.length=t.es.length:=by
     have h1:=congrArg List.length (y4p t PS)
     rwa [z1p,z1p] at h1
    have hover:=y9g x (layT t PS) w10 hn10.now (by rw[y6t];exact Hy.out.1) (by rw[y6t];exact Hy.out.2.1) (fun e=>Hy.out.2.2.1 (List.eq_nil_of_length_eq_zero (by rw[←hlen,e];rfl))) (by rw[hlen];exact znt Hy.out.2.2.2.1 (by decide));rw[hlen] at hover;have Hov:=zh hover;have Hly10:=zh hly10;have Ht10:=zh ht10;clear hn10 hly10 ht10 hlen hover;go_wp2_with fail;refine Hov.out.mono ?_;rintro e w11 ⟨p2,rfl,ht11,hb11⟩;have hly11:=Hly10.out.ext hb11;obtain⟨vp,vw,gs,hgl,_,hown,hwr⟩:=hly11.ex;rw[List.nil_append] at hwr;obtain⟨u0,hu0,hb12,hn12⟩:∃u,(w11.alloc (.cells #[.pointer p2,.int .i64 (t.es.length:Nat)] TT)).drew=u∧Below w11.heap.size w11 u∧TB u w11.heap.size p2 (t.es.length:Nat):=⟨_,rfl,((zbr _ _).alloc (zlr _) _).drew,z0h _ _ _⟩
    have hsz1:=Hsz.out.2.1;have hsz2:=Hsz.out.2.2.1;have hsz3:=Hsz.out.2.2.2;have hsz4:=Ht10.out.size;have hsz5:=hb11.size;have hbr10:TB w10 g4 none 0:=Hx9.out.br.turn Ht10.out (fun hF=>by rcases hF with h1|⟨h1,_⟩<;>omega);have hbr:TB u0 g4 none 0:=(hbr10.ext hb11).ext hb12;have hgl12:u0.heap[w6.heap.size+1]? =some (.cells #[vp,vw] LYT (0,0)):=(hb12.block _ (by omega)).trans hgl;have hbl10:Below w.heap.size w w10:=Hx9.out.bl.trans (Ht10.out.below Hx9.out.bl.size (fun i hi=>by rcases hi with h1|⟨h1,_⟩<;>omega));have hbl:=(hbl10.trans (hb11.mono hbl10.size)).trans (hb12.mono (hbl10.trans (hb11.mono hbl10.size)).size);have q0:=fun w' (t:Turn (fun i=>i=g4) u0 w')=>(hn12.turn t (by omega)).c0
    have q1:=fun w' (t:Turn (fun i=>i=g4) u0 w')=>(hn12.turn t (by omega)).c1
    have q2:∀w',Turn (fun i=>i=g4) u0 w'→w'.cell? ⟨w6.heap.size+1,1,none⟩=some vw:=fun w' t=>by simp[World.cell?,t.hg hgl12 (by omega)]
    have r0:=hbr.c0;have r1:=hbr.c1;have f0:=hbr.fz 0;have f1:=hbr.fz 1;have HP:=zh (hbr.put p2 (t.es.length:Nat));have d0:=HP.out.c0;have d1:=HP.out.c1;have ht:=z0m u0 g4 (.pointer p2) (.int .i64 (t.es.length:Nat));have hb':w.heap.size≤w6.heap.size+2:=by omega
    have Hfin:=zh (HR.out _ p2 vw gs ((ht11.ext hb12).turn ht (TF.one hbr)) (z17 (z0p (z4z hown hb') hb12 (zlr _)) ht (TyF.one hbr) (by decide)) (hwr.mono (fun g l hr=>ht.hg (hr.below hb12 hr.lt) ((TyF.one hbr).not (hr.below hb12 hr.lt) (by decide)))) (z1m (b:=g4) hbl Hx9.out.lo.2.2.1));have Hu0:=zh hu0;have HT:=zh ht;clear hly11 hgl hown hwr hu0 hb12 hn12 hsz1 hsz2 hsz3 hsz4 hsz5 hbr10 hbr hgl12 hbl10 hbl ht hb' HR ht11 hb11 Hov Hly10 Ht10 Hx9 Hsz Hy;generalize (t.es.length:Nat)=TL at*
    go_upto_region 10 with fail
    refine z0l (F:=fun i=>i=g4) (.rd 0 (.rd 1 (.rd 2 (.rd 3 (.rd 4 (.call 5 (.rd 6 (.rd 7 .done)))))))) (by kernel_rfl) (by kernel_rfl) (by kernel_rfl) (by kernel_rfl) (fun _ _ _ _ _ h=>h) ?_;rw[Hu0.out];iterate 5 (refine gsr (v:= ?_) rfl (by rfl) ?_ ?_;rotate_left;(intro w' hw';go_simp;with_reducible rfl);simp only[Act.put,zs0,zs1,zs2])
    clear q0 q1 q2;refine gsc rfl (by rfl) (fun K hK=> ?_);go_simp;refine hK _ _ HT.out ?_;clear hK K;iterate 2 (refine gsr (v:= ?_) rfl (by rfl) ?_ ?_;rotate_left;(intro w' hw';go_simp;with_reducible rfl);simp only[Act.put,zs0,zs1,zs2])
    refine z0a ?_;go_wp2;refine bodyPost_ret (v:=.tuple #[.agg #[.pointer p2,.int .i64 (TL:Nat)],vw,.nilIface]) (by rw[z15 rfl];go_simp) rfl Hfin.out
theorem z0y.okE {w:World}{p:Option Addr}{ts:List Tr}{H:Nat}(ht:z0y w p ts H):srt (esL ts)∧∀e∈esL ts,okE e:=by
 rcases z14 ht with ⟨_,rfl,_⟩|⟨b,h,t,v,_,rfl,_,hnv,_⟩
 ·exact⟨by rw[esL];simp[srt],fun e he=>by rw[esL] at he;cases he⟩
 ·obtain⟨W,_,hn,_⟩:=hnv.nd;have hf:=(q50 h hn).facts;rw[z1s];exact⟨hf.2.1,fun e he=>(hf.2.2 e he).1⟩
theorem q5j {e:En}(h:okE e):e.v.size≤2048:=h.2
theorem q5k (P:Nat→List Nat)(f:Nat→Bool)(p:Option Addr)(ts:List Tr)(H:Nat)(w:World)(ht:z0y w p ts H)(hm:MixI P ts)(hl:(esL ts).length≤100000)(hc:z0f ts≤cnt (z1j f ts) 1024)(hwo:z0x w)(hT:z56 w):
  Calls Tryz.prog 6 #[.agg #[.pointer p,.int .i64 (esL ts).length],.agg (sc f)] w fun e w'=>∃p' vw gs,e=.returned (.tuple #[.agg #[.pointer p',.int .i64 (esL ts).length],vw,.nilIface])∧z0y w' p' (layL ts (takP f ts)) H∧
   w'.ownsRow w.heap.size WRT wrE0.sz vw gs.length (wrE0.row gs)∧WRo w' gs (wrL ts (takP f ts))∧Below w.heap.size w w':=by
 have hok:=ht.okE.2;have hcv:∀e∈esL ts,CeV e∧e.ch.length≤100000:=fun e he=>hm.cev he (q5j (hok e he))
 have h9:=y70 (z1j f ts) 1024;have hpl:=z4a hc;refine x9p f p _ ts H w .nilIface (takP f ts) (z0f ts) _ ht (fun e he=>(hcv e he).2) (by omega) rfl (fun w' hb=>(x8g (z1j f ts) (z0f ts) _ w' rfl hc h9 (hT.below hb)).mono (fun e w'' ⟨a,h1,h2,h3,h4⟩=>⟨_,_,h1,?_,h4⟩)) ?_
 ·refine PgT.ev (n:=z0f ts) (is:=takP f ts) ?_ hpl h3 (by unfold maxLen;omega);have e1:(takP f ts).map (fun n:Nat=>(n:Int))=(eI (z1j f ts) 1024).take (z0f ts):=by
   unfold takP eI;rw[List.map_take]
  rw[e1];exact h2
 ·rcases z14 ht with ⟨rfl,rfl,rfl⟩|⟨b,h,t,v,rfl,rfl,hnp,hnv,hz,hz3,hne,rfl⟩
  ·refine .inr (.inl ⟨rfl,rfl,fun w' hb=>⟨none,nilS,[],rfl,z0y.none w',World.ownsRow_nil _ _ _ _,?_,hb⟩⟩);rw[wrL];trivial
  ·have hlt:t.need≤(takP f [t]).length:=by rw[hpl,z40];exact zlr _
   rw[z1s] at hcv hl⊢
   have hcu:∀q,cU q (layT t (takP f [t]))=cUL q (layL [t] (takP f [t])):=fun q=>by
    rw[layL,layL,z2r,z5t];rfl
   refine .inr (.inr ⟨rfl,b,h,t,v,rfl,hnp,hnv,hz,hz3,hne,hl,hcv,hlt,fun x hx=>⟨(z1y hx).2.1,(z1y hx).2.2.1⟩,fun q=>by rw[hcu];exact x6c hc hm.one q,fun q hq=>by
    rw[hcu,←z23] at hq;exact q0u hc hm.rg q hq,by rw[z40] at hc;omega,hwo,fun w' p' vw gs h1 h2 h3 h4=>⟨p',vw,gs,rfl,?_,h2,?_,h4⟩⟩)
   ·rw[layL,layL];exact h1
   ·rw[wrL,wrL,List.append_nil];exact h3
structure GF (w0 w:World):Prop where
 b:Below w0.heap.size w0 w
 g:Hg w
 wo:z0x w
 ta:z56 w
theorem GF.ext {w0 w w':World}(h:GF w0 w)(hb:Below w.heap.size w w'):GF w0 w':=⟨h.b.trans (hb.mono h.b.size),h.g.below hb,h.wo.below hb,h.ta.below hb⟩
def WV (w:World)(vw:Value)(ws:List PgW):Prop:=∃gs,EV wrE0 w vw gs∧WRo w gs ws
theorem WV.nil (w:World):WV w nilS []:=⟨[],EV.none w,trivial⟩
theorem WV.ext {w w':World}{vw:Value}{ws:List PgW}(h:WV w vw ws)(hb:Below w.heap.size w w'):WV w' vw ws:=by
 obtain⟨gs,h1,h2⟩:=h;exact⟨gs,h1.ext hb,h2.mono fun _ _ hr=>hr.below hb hr.lt⟩
theorem WV.tur {w w':World}{F:Nat→Prop}{T:TypeId}{vw:Value}{ws:List PgW}(h:WV w vw ws)(ht:Turn F w w')(hF:TyF w F T)(hT:(T==WRT)=false:=by decide)(hT2:T≠5:=by decide):WV w' vw ws:=by
 obtain⟨gs,h1,h2⟩:=h;exact⟨gs,h1.tur ht hF hT,h2.mono fun g l hr=>ht.hg hr (hF.not hr hT2)⟩
def LayC (p:Option Addr)(n:Int)(f:Nat→Bool)(ER:Value)(n':Nat)(ts':List Tr)(H':Nat)(ws:List PgW)(w:World):Prop:=
 Calls Tryz.prog 6 #[.agg #[.pointer p,.int .i64 n],.agg (sc f)] w fun e w'=>∃p' vw,e=.returned (.tuple #[.agg #[.pointer p',.int .i64 n'],vw,ER])∧z0y w' p' ts' H'∧WV w' vw ws∧Below w.heap.size w w'
structure LR (W w:World) (g:Nat) (p:Option Addr) (n:Nat) (vw:Value) (ts:List Tr) (H:Nat) (ws:List PgW):Prop where
 t:TB w g p n
 lo:W.heap.size≤g
 tr:z0y w p ts H
 wv:WV w vw ws
 b:Below W.heap.size W w
theorem LR.ext {W w w':World}{g:Nat}{p:Option Addr}{n:Nat}{vw:Value}{ts:List Tr}{H:Nat}{ws:List PgW}(h:LR W w g p n vw ts H ws)(hb:Below w.heap.size w w'):LR W w' g p n vw ts H ws:=
 ⟨h.t.ext hb,h.lo,h.tr.ext hb,h.wv.ext hb,h.b.trans (hb.mono h.b.size)⟩
theorem LR.put {W w:World}{g:Nat}{p q:Option Addr}{n:Nat}{m:Int}{vw:Value}{ts:List Tr}{H:Nat}{ws:List PgW}(ht:TB w g q m)(hg:W.heap.size≤g)(htr:z0y w p ts H)(hw:WV w vw ws)(hb:Below W.heap.size W w):
  LR W ((w.setCell ⟨g,0,none⟩ (.pointer p)).setCell ⟨g,1,none⟩ (.int .i64 n)) g p n vw ts H ws:=
 ⟨ht.put p n,hg,htr.turn (z0m w g (.pointer p) (.int .i64 n)) (TF.one ht),hw.tur (z0m w g (.pointer p) (.int .i64 n)) (TyF.one ht),z1m hb hg⟩
theorem y3g (P:Nat→List Nat)(f:Nat→Bool)(p:Option Addr)(ts:List Tr)(H:Nat)(n:Nat)(w:World)(ht:z0y w p ts H)(hm:MixI P ts)(hn:(esL ts).length=n)(hl:n≤100000)(hc:z0f ts≤cnt (z1j f ts) 1024)(hwo:z0x w)(hT:z56 w):
  LayC p n f .nilIface n (layL ts (takP f ts)) H (wrL ts (takP f ts)) w:=by
 subst hn;refine(q5k P f p ts H w ht hm hl hc hwo hT).mono ?_;rintro e w' ⟨p',vw,gs,h1,h2,h3,h4,h5⟩;exact⟨p',vw,h1,h2,⟨gs,z1u h3,h4⟩,h5⟩
theorem z0y.new {w:World}{p:Option Addr}{ts:List Tr}{H:Nat}(ht:z0y w p ts H):nwL ts≤2*(esL ts).length∧(ts≠[]→nwL ts+1≤2*(esL ts).length):=by
 rcases z14 ht with ⟨_,rfl,_⟩|⟨b,h,t,v,_,rfl,_,hnv,_,hz3,hne,_⟩
 ·simp[nwL]
 ·obtain⟨W,_,hn,_⟩:=hnv.nd;have h1:=q0t h (q50 h hn) hz3 (fun _=>hne);rw[z1s,nwL,nwL];exact⟨by omega,fun _=>by omega⟩
theorem NewP.lay {w:World}{p:Option Addr}{es:List En}{H:Nat}(h:NewP w p es H):∃ts,z0y w p ts H∧esL ts=es∧uL ts=[]∧(∀P,MixI P ts)∧z0f ts≤3*es.length∧(es≠[]→∃t,ts=[t]∧t.pg=0∧1≤t.need∧t.need+1≤2*es.length+cNs es):=by
 obtain⟨ts,h1,rfl,h2,h3⟩:=h;have hch:=fun e he=>(h2 e he).1
 refine⟨ts,h1,rfl,x59 hch h3,fun P=>MixI.new hch h3,?_,fun hne=> ?_⟩
 ·have h4:=z5c ts;have h5:=h1.new.1;have h6:=x54 (esL ts) (fun e he=>by have:=(h2 e he).2;omega);omega
 ·rcases z14 h1 with ⟨_,rfl,_⟩|⟨b,h,t,v,_,rfl,_⟩
  ·exact absurd rfl hne
  ·have h4:t.pg=0:=by
    have h5:=h3 t.pg
    rcases Nat.eq_zero_or_pos t.pg with h6|h6
    ·exact h6
    ·rw[pgsL,pgsL,List.append_nil,t.pgs_eq,if_neg (by omega)] at h5;simp at h5
   have h8:=z5c [t];have h9:=h1.new.2 (by simp);rw[z40] at h8;refine⟨t,rfl,h4,?_,by omega⟩
   cases t with
   | leaf pg cs=>have h5:pg=0:=h4;rw[Tr.need,if_pos h5];omega
   | bran pg ks ts=>have h5:pg=0:=h4;rw[Tr.need,if_pos h5];omega
theorem y9x {ts:List Tr}(k:Nat)(h2:2≤k)(hk:k≤1024)(hu:uL ts=[]):cnt (z1j (z04 k) ts) 1024=k-2:=by
 have h1:=z55 (fun m=>decide (m<k)) (fun m=>decide (m<2)) 1024;have e1:cnt (fun m=>decide (m<k)&&decide (m<2)) 1024=2:=by
  rw[z2w (g:=fun m=>decide (m<2)) (fun m _=>by
   by_cases h:m<2
   ·have h':m<k:=by omega
    simp[h,h']
   ·simp[h]),z3l];omega
 have e2:cnt (fun m=>decide (m<k)) 1024=k:=by rw[z3l];omega
 have e3:cnt (z1j (z04 k) ts) 1024=cnt (fun m=>decide (m<k)&& !decide (m<2)) 1024:=z2w (fun m _=>by
  unfold z1j z04 addR;rw[hu];simp)
 rw[e3];omega
theorem z8r (P:Nat→List Nat)(p:Option Addr)(n:Int)(ts:List Tr)(H:Nat)(w:World)(ht:z0y w p ts H)(hm:MixI P ts):
  Calls Tryz.prog 23 #[.agg #[.pointer p,.int .i64 n]] w fun e w'=>e=.returned (.agg (sc (addR (fun _=>false) (uL ts))))∧Below w.heap.size w w':=
 y5v p n ts H w ht (fun e he=>(hm.cev he (q5j (ht.okE.2 e he))).2)
theorem WV.slice {w:World}{vw:Value}{ws:List PgW}(h:WV w vw ws):∃a c,vw=.slice a ws.length c∧(0<ws.length→∃g o,a=some ⟨g,o,none⟩)∧(a=none→c=0)∧ws.length≤c∧c≤maxLen:=by
 obtain⟨gs,⟨a,d,rfl,hs,h1⟩,hr⟩:=h;have hl:=hr.len;refine⟨a,d,by rw[hl],fun h0=> ?_,by rw[hl] at h1;exact h1⟩;obtain⟨g,o,e,_⟩:=hs.at (by omega);exact⟨g,o,e⟩
section
variable {f:Nat→Bool} {ts:List Tr}
theorem q5l (hc:z0f ts≤cnt (z1j f ts) 1024){PL:List (List Nat)}(hlen:PL.length=1024):∀x∈wrL ts (takP f ts),pgF (layP PL (wrL ts (takP f ts))) x.1=x.2:=
 y3a _ PL (by rw[z5d hc];exact z7s) (fun x hx=>by
  have h1:x.1∈takP f ts:=by rw[←z5d hc];exact List.mem_map_of_mem hx
  rw[hlen];exact(z1y h1).2.2.1)
theorem q3k (hc:z0f ts≤cnt (z1j f ts) 1024){PL:List (List Nat)}{p:Nat}(hp:p∉takP f ts):pgF (layP PL (wrL ts (takP f ts))) p=pgF PL p:=
 y29 p _ PL (by rw[z5d hc];exact hp)
theorem MixI.laid (hc:z0f ts≤cnt (z1j f ts) 1024){PL:List (List Nat)}(hlen:PL.length=1024)(hm:MixI (pgF PL) ts):LieI (pgF (layP PL (wrL ts (takP f ts)))) (layL ts (takP f ts)):=
 hm.lay hc (q5l hc hlen) (fun _ hp=>q3k hc (fun h=>(z1y h).2.2.2 hp))
end
end Go.Proofs.YtdnfhjfbanhhcaaGreatDoor
