/-
  Steps.
-/
import Derived.Test.YtdnfhjfbanhhcaaGreatDoorQLBk40
import Derived.Lib.MinMax
namespace Go.Proofs.YtdnfhjfbanhhcaaGreatDoor
open Go Go.RowKit
theorem x9q (v:Value)(b:List Nat)(w:World)(hv:Sl w v b)(h8:B8 b)(hl:b.length≤504):
  Calls Tryz.prog 190 #[v] w fun e w'=>e=.returned (.tuple #[.int .i64 (dcN b),.string (dcV b),errC (dcE b)])∧Below w.heap.size w w':=by
 rcases hv with ⟨rfl,rfl⟩|⟨g,o,c,rfl,hc,h1,h2⟩
 ·exact y4z none 0 0 [] w rfl (Src.nil _ _) (by omega) (by omega) (by unfold maxLen;omega) B8.nil
 ·exact y4z _ b.length c b w rfl hc.src h1 (by omega) h2 h8
theorem y1i {P:List (List Nat)}{o o1:RO}{i:Int}{k:Nat}{b:List Nat}(h:z3k P o i=some (o1,k,b))(hP:∀j,j<P.length→B8 (P.getD j [])):B8 b∧b.length≤504∧k<256:=by
 obtain⟨h1,h2,_,_,_,rfl,rfl⟩:=z2o P h;have:=q33 (hP i.toNat (by omega));exact⟨this.2.1,q2v _,this.1⟩
theorem PgA.b8 {w:World}{a:Option Addr}{P:List (List Nat)}(h:PgA w a P):∀j,j<P.length→B8 (P.getD j []):=fun j hj=>by
 obtain⟨_,_,_,_,_,hv⟩:=h j hj;exact hv.b8
theorem q5m {P:List (List Nat)}{f:Nat}{o o1:RO}{s:ByteArray}{ps:List Nat}{page long:Int}{k:Nat}{b:List Nat}(h:(s.size:Int)<long)(ho:z3k P o page=some (o1,k,b)):
  ldV P (f+1) o s ps page long=if k=3∧dcE b=0∧((dcV b).size:Int)=min 502 (long-s.size) then ldV P f o1 (s++dcV b) (ps++[page.toNat]) (dcN b) long else none:=by
 conv=>lhs;unfold ldV
 rw[if_pos h,ho]
def VaQ (w w':World)(gr:Nat)(pv:Value)(x:Option (RO×ByteArray×List Nat))(e:Ending):Prop:=match x with
 | none=>e=.panicked CP∧Turn (fun i=>i=gr) w w'
 | some (o1,v,qs)=>∃u,e=.returned (.tuple #[.string v,u])∧EV pgE w' u qs∧Blk w' gr RDG (rdv pv o1.u o1.d)∧Turn (fun i=>i=gr) w w'
theorem q3l (w:World)(k:Nat):ES pgE (w.alloc (.cells #[.int .i64 (k:Nat)] 3)) (some ⟨w.heap.size,0,none⟩) [k]:=ES.lit (z0h w 3 #[.int .i64 (k:Nat)]) (by simp[pgE])
set_option maxRecDepth 100000 in
set_option maxHeartbeats 2000000 in
theorem x1f (gr:Nat)(a:Option Addr)(n c:Nat)(P:List (List Nat))(f:Nat)(o:RO)(x long:Int)(w:World)(hn:P.length=n)(hn9:n≤1024)(hl:long≤100000)(hL:LdW w gr a P)(hB:Blk w gr RDG (rdv (.slice a n c) o.u o.d))(hf:z1f o.u n≤f):
  Calls Tryz.prog 172 #[.pointer (some ⟨gr,0,none⟩),.int .i64 x,.int .i64 long] w fun e w'=>VaQ w w' gr (.slice a n c) (ldV P f o ByteArray.empty [] x long) e:=by
 obtain⟨R,hR⟩:∃R,ldV P f o ByteArray.empty [] x long=R:=⟨_,rfl⟩
 rw[hR];have HR:=zh hR;have HF:=zh hf;have HL:=zh hL;have HB:=zh hB;have HN:=zh hn;have HT:=zh (Turn.refl (fun i=>i=gr) w);have HPg:=zh (fun(o:RO) (x:Int) (w:World) (hL:LdW w gr a P) (hB:Blk w gr RDG (rdv (.slice a n c) o.u o.d))=>y53 gr a n c P o x w HN.out hn9 hL hB);have HM0:=zh (fun w=>z4d w);have HM1:=zh (fun w=>z4c w);have Hb8:=zh hL.pg.b8;clear hR hf hL hB hn
 go_enter Tryz.func172,Tryz.ntmps172
 go_wp2_with fail
 go_loopg [1,8,9,10,11,12,13,14,19,28] f (fun gk pg sv uv _ _ _ _ _ _ _ wr=>∃(y:RO) (s:ByteArray) (ps:List Nat) (u:Value) (q:Int),pg=.int .i64 q∧sv=.string s∧u=uv∧s.size≤200000∧ps.length≤s.size∧Hid (ldV P gk y s ps q long=R)∧Hid (z1f y.u n≤gk)∧Hid (Blk wr gr RDG (rdv (.slice a n c) y.u y.d))∧Hid (wr.ownsRow w.heap.size 3 pgE.sz u ps.length (pgE.row ps))∧Hid (Turn (fun i=>i=gr) w wr))
 case atStart=>exact⟨o,ByteArray.empty,[],_,x,rfl,rfl,rfl,by decide,by decide,HR,HF,HB,World.ownsRow_nil _ _ _ _,HT⟩
 case round=>
  clear HR HF HB HT;obtain⟨y,s,ps,u,q,rfl,rfl,rfl,hs,hps,HR,HF,HB,HO,HT⟩:=hrel
  by_cases hlt:(s.size:Int)<long
  ·have e1:decide ((s.size:Int)<long)=true:=zdt hlt;have HL1:=zh (HL.out.turn HT.out (fun i hi=>by omega));have H1:=zh (HPg.out y q wr HL1.out HB.out)
   cases ho:z3k P y q with
   | none=>
    have HN1:Hid (R=none):=by
     show _=_;rw[←HR.out]
     cases gk<;>(unfold ldV;rw[if_pos hlt])
     rw[ho]
    rw[ho] at H1;clear HR hlt ho;go_wp2_with fail;refine H1.out.mono ?_;rintro e w3 ⟨rfl,ht⟩;have HT3:=zh (HT.out.trans ht);clear ht;go_wp2;rw[HN1.out];exact⟨rfl,rfl,HT3.out⟩
   | some z=>
    obtain⟨o1,kd,b⟩:=z;obtain⟨hb8,hbl,hkd⟩:=y1i ho Hb8.out;have hfr:=z45 P ho;rw[HN.out] at hfr;have g1:=(z2o P ho).1;obtain⟨m,rfl⟩:∃m:Nat,q=(m:Int):=⟨q.toNat,by omega⟩
    obtain⟨k,rfl⟩:∃k,gk=k+1:=⟨gk-1,by have:=HF.out;omega⟩
    have HF1:Hid (z1f o1.u n≤k):=by show _≤_;have:=HF.out;omega
    have hY:R=if kd=3∧dcE b=0∧((dcV b).size:Int)=min 502 (long-s.size) then ldV P k o1 (s++dcV b) (ps++[m]) (dcN b) long else none:=by
     rw[←HR.out,q5m hlt ho]
     rfl
    have HDe:=zh (fun vl w hv=>x9q vl b w hv hb8 hbl);have hdz:dcE b=0→(dcV b).size≤502:=fun h=>(y9c h).2
    rw[ho] at H1;clear HR HF ho hfr g1 hb8 hbl;go_wp2_with fail;refine H1.out.mono ?_;rintro e w3 ⟨vl,rfl,hv,hb3,ht3⟩;have HB3:=zh hb3;have HT3:=zh (HT.out.trans ht3);have HO3:Hid (w3.ownsRow w.heap.size 3 pgE.sz u ps.length (pgE.row ps)):=by
     show World.ownsRow _ _ _ _ _ _ _;exact z17 HO.out ht3 (TyF.one HB.out) (by decide)
    have HV:=zh hv;clear hv hb3 ht3 H1 HB HT HO
    by_cases h3:kd=3
    ·have e3:((kd:Int)==3)=true:=beq_iff_eq.2 (by omega);go_wp2_with fail;refine(HM1.out w3).mono ?_;rintro e w4 ⟨rfl,rfl⟩;go_wp2_with fail;refine(HDe.out vl w3 HV.out).mono ?_;rintro e w4 ⟨rfl,hb4⟩;have HB4:=zh (HB3.out.ext hb4);have HT4:=zh (HT3.out.step (G:=fun _=>False) (q5w hb4) (fun _ hf _=>hf.elim));have HO4:=zh (z0p HO3.out hb4 (zlr _));clear hb4 HB3 HT3 HO3 HV
     by_cases h0:dcE b=0
     ·rw[h0,show errC 0=.nilIface from rfl];have hd5:=hdz h0;obtain⟨L,hL⟩:∃L,long-(s.size:Int)=L:=⟨_,rfl⟩
      have i1:IntKind.i64.wrap (long-(s.size:Int))=L:=by rw[IntKind.wrap_i64];omega
      obtain⟨M,hM⟩:∃M,min (502:Int) L=M:=⟨_,rfl⟩
      rw[hL,hM] at hY;obtain⟨D,hD⟩:∃D,(((dcV b).size:Int)==M)=D:=⟨_,rfl⟩
      cases D with
      | false=>
       have HN1:Hid (R=none):=by
        rw[hY,if_neg (fun h=>by have:=beq_eq_false_iff_ne.1 hD;omega)];exact rfl
       clear hY hL;go_wp2_with fail;refine(HM0.out w4).mono ?_;rintro e w5 ⟨rfl,rfl⟩;go_wp2;rw[HN1.out];exact⟨rfl,rfl,HT4.out⟩
      | true=>
       have hsz:((dcV b).size:Int)=M:=beq_iff_eq.1 hD;have HY:Hid (ldV P k o1 (s++dcV b) (ps++[m]) (dcN b) long=R):=by
        rw[hY,if_pos ⟨h3,h0,hsz⟩];exact rfl
       have hs2:(s++dcV b).size=s.size+(dcV b).size:=ByteArray.size_append;have hs3:Hid ((s++dcV b).size≤200000∧(ps++[m]).length≤(s++dcV b).size):=by
        have hM1:1≤(dcV b).size:=(y9c h0).1;refine⟨by omega,?_⟩;rw[zla];simp only[List.length_singleton];omega
       have hno:¬(9223372036854775807<s.size+(dcV b).size):=by omega
       generalize dcV b=V at*;generalize dcN b=NX at*;generalize hSV:s++V=SV at*;obtain⟨v5,w5,hrun,hb5,ht5,ho5⟩:=z2a (P:=Tryz.prog) (E:=pgE) (w:=w4.alloc (.cells #[.int .i64 (m:Nat)] 3)) w.heap.size 76 76 3 Tryz.underlying76 y0y u ps.length ps (z0p HO4.out ((zbr _ _).alloc (zlr _) _) (zlr _)) (by have:=HT4.out.size;simp;omega) (some ⟨w4.heap.size,0,none⟩) 1 1 [m] rfl (by omega) (q3l w4 m) (by unfold maxLen;omega) (by show _*8≤_;omega);have hba:Below w4.heap.size w4 (w4.alloc (.cells #[.int .i64 (m:Nat)] 3)):=(zbr _ _).alloc (zlr _) _;have HB5:Hid (Blk w5 gr RDG (rdv (.slice a n c) o1.u o1.d)):=by
        have h1:=HB4.out.ext hba;refine h1.turn ht5 (fun hF=> ?_);exact(TyF.own (z0p HO4.out hba (zlr _))).not h1 (by decide) hF
       have HT5:Hid (Turn (fun i=>i=gr) w w5):=(HT4.out.step (G:=fun _=>False) (q5w hba) (fun _ hf _=>hf.elim)).step (G:=fun i=>Value.ownBlock u=some i) ht5 (fun i hi hlt=>by
        have:=(HO4.out.lt i hi).1;omega)
       have HO5:Hid (w5.ownsRow w.heap.size 3 pgE.sz v5 (ps++[m]).length (pgE.row (ps++[m]))):=by
        rw[zla];exact ho5
       clear hba hb5 ht5 ho5 HB4 HT4 HO4 hd5 hdz hY;go_wp2_with fail;refine(HM1.out w4).mono ?_;rintro e w6 ⟨rfl,rfl⟩
       go_wp2_with (at_builtin;refine Lib.wpList_append_run _ rfl (.tmp 50) (.tmp 52) _ _ rfl _ _ (by rfl) (by rfl) _ _ hrun ?_)
       go_roundg k
       case rel=>exact⟨o1,SV,ps++[m],v5,NX,rfl,rfl,rfl,hs3.out.1,hs3.out.2,HY,HF1,HB5,HO5,HT5⟩
       case measure=>omega
     ·have hne:errC (dcE b)=.iface 94 (.int .i64 (dcE b)):=by unfold errC;rw[if_neg h0]
      rw[hne];have HN1:Hid (R=none):=by
       rw[hY,if_neg (fun h=>h0 h.2.1)];exact rfl
      clear hY hdz;go_wp2_with fail;refine(HM0.out w4).mono ?_;rintro e w5 ⟨rfl,rfl⟩;go_wp2;rw[HN1.out];exact⟨rfl,rfl,HT4.out⟩
    ·have e3:((kd:Int)==3)=false:=beq_eq_false_iff_ne.2 (by omega);have HN1:Hid (R=none):=by
      rw[hY,if_neg (fun h=>h3 h.1)];exact rfl
     clear hY;go_wp2_with fail;refine(HM0.out w3).mono ?_;rintro e w4 ⟨rfl,rfl⟩;go_wp2;rw[HN1.out];exact⟨rfl,rfl,HT3.out⟩
  ·have e1:decide ((s.size:Int)<long)=false:=zdf hlt
   by_cases hq:q=0
   ·subst hq;have HN1:Hid (R=some (y,s,ps)):=by
     show _=_;rw[←HR.out]
     cases gk<;>(unfold ldV;rw[if_neg hlt,if_pos rfl])
    clear HR hlt;go_wp2_with fail;refine(HM1.out wr).mono ?_;rintro e w3 ⟨rfl,rfl⟩;go_wp2
    go_ret2
    rw[HN1.out];exact⟨_,rfl,z1u HO.out (by simp[pgE]),HB.out,HT.out⟩
   ·have e2:(q==0)=false:=beq_eq_false_iff_ne.2 hq;have HN1:Hid (R=none):=by
     show _=_;rw[←HR.out];exact x8v P gk y s ps hlt hq
    clear HR hlt hq;go_wp2_with fail;refine(HM0.out wr).mono ?_;rintro e w3 ⟨rfl,rfl⟩;go_wp2;rw[HN1.out];exact⟨rfl,rfl,HT.out⟩
abbrev LCT:TypeId:=170
def CeQ (w w':World)(gr:Nat)(pv:Value)(k:ByteArray)(x:Option (RO×ByteArray×List Nat))(e:Ending):Prop:=match x with
 | none=>e=.panicked CP∧Turn (fun i=>i=gr) w w'
 | some (o1,v,qs)=>∃a n c,e=.returned (.agg #[.string k,.string v,.slice a n c])∧EV pgE w' (.slice a n c) qs∧Blk w' gr RDG (rdv pv o1.u o1.d)∧Turn (fun i=>i=gr) w w'
theorem y7v (w:World)(yk yv:ByteArray)(yn yp:Int):∃W,((w.alloc (.cells #[.string yk,.string yv,.int .i64 yn,.int .i64 yp] LCT)).alloc (.cells #[.string ⟨#[]⟩,.string ⟨#[]⟩,.slice none 0 0] TCT)).alloc (.cells #[.string yk,.string yv,.slice none 0 0] TCT)=W∧Below w.heap.size w W∧
  W.heap[w.heap.size+1+1]? =some (.cells #[.string yk,.string yv,.slice none 0 0] TCT (0,0))∧W.heap[w.heap.size+1]? =some (.cells #[.string ⟨#[]⟩,.string ⟨#[]⟩,.slice none 0 0] TCT (0,0)):=by
 refine⟨_,rfl,(((zbr _ _).alloc (zlr _) _).alloc (by simp) _).alloc (by simp;omega) _,?_,?_⟩
 ·have:=z0h ((w.alloc (.cells #[.string yk,.string yv,.int .i64 yn,.int .i64 yp] LCT)).alloc (.cells #[.string ⟨#[]⟩,.string ⟨#[]⟩,.slice none 0 0] TCT)) TCT #[.string yk,.string yv,.slice none 0 0]
  rwa [World.size_alloc,World.size_alloc] at this
 ·refine(Below.heap_alloc _ _ _ (by simp)).trans ?_;have:=z0h (w.alloc (.cells #[.string yk,.string yv,.int .i64 yn,.int .i64 yp] LCT)) TCT #[.string ⟨#[]⟩,.string ⟨#[]⟩,.slice none 0 0]
  rwa [World.size_alloc] at this
set_option maxRecDepth 100000 in
theorem x6i (gr:Nat)(a:Option Addr)(n c:Nat)(P:List (List Nat))(f:Nat)(o:RO)(y:Ce)(w:World)(hn:P.length=n)(hn9:n≤1024)(hy:y.n≤100000)(hL:LdW w gr a P)(hB:Blk w gr RDG (rdv (.slice a n c) o.u o.d))(hf:z1f o.u n≤f):
  Calls Tryz.prog 133 #[.pointer (some ⟨gr,0,none⟩),.agg #[.string y.k,.string y.v,.int .i64 y.n,.int .i64 y.p]] w fun e w'=>CeQ w w' gr (.slice a n c) y.k (ldE P f y o) e:=by
 obtain⟨R,hR⟩:∃R,ldE P f y o=R:=⟨_,rfl⟩
 rw[hR];have HR:=zh hR;have HL:=zh hL;have HB:=zh hB;have HV:=zh (fun(w:World) (hL:LdW w gr a P) (hB:Blk w gr RDG (rdv (.slice a n c) o.u o.d))=>x1f gr a n c P f o y.p y.n w hn hn9 hy hL hB hf);clear hR hL hB hn hf;obtain⟨yk,yv,yn,yp⟩:=y;dsimp only at*
 by_cases h64:64<yn
 ·have e1:decide ((64:Int)<yn)=true:=zdt h64;unfold ldE at HR;rw[if_pos h64] at HR;clear h64
  go_enter Tryz.func133,Tryz.ntmps133
  obtain⟨W,hW,hb1,h5,h4⟩:=y7v w yk yv yn yp;have HW:=zh hW;have hB1:=HB.out.ext hb1;have HC:=zh (HV.out W (HL.out.ext hb1) hB1);rw[HR.out] at HC;have HB1:=zh hb1;have H4:=zh (show Blk W (w.heap.size+1) TCT #[.string ⟨#[]⟩,.string ⟨#[]⟩,.slice none 0 0] from h4);have H5:=zh (show Blk W (w.heap.size+1+1) TCT #[.string yk,.string yv,.slice none 0 0] from h5);have HBW:=zh hB1;have hg5:gr≠w.heap.size+1+1:=fun e=>by have:=HB.out.lt;omega
  have hg4:gr≠w.heap.size+1:=fun e=>by have:=HB.out.lt;omega
  clear hW hb1 h5 h4 hB1 HV HR HL HB;go_wp2_with fail;rw[HW.out];refine HC.out.mono ?_;intro e w3 hq
  cases R with
  | none=>
   obtain⟨rfl,ht⟩:=hq;have HT:=zh ((q5w HB1.out).step ht (fun i hi _=>hi):Turn (fun i=>i=gr) w w3);clear ht;go_wp2;exact⟨rfl,rfl,HT.out⟩
  | some z=>
   obtain⟨o1,v,qs⟩:=z;obtain⟨u,rfl,hu,hb3,ht⟩:=hq;obtain⟨ua,uc,rfl,hu'⟩:=hu;have HU:Hid (EV pgE w3 (.slice ua qs.length uc) qs):=⟨ua,uc,rfl,hu'⟩
   have HT:=zh ((q5w HB1.out).step ht (fun i hi _=>hi):Turn (fun i=>i=gr) w w3);have k5:=H5.out.turn ht (fun e=>hg5 e.symm);have k4:=H4.out.turn ht (fun e=>hg4 e.symm);have HB3:=zh hb3;have K5:=zh k5;have K4:=zh k4;have hs1:=HB1.out.size;have hl3:=k5.lt;obtain⟨B4,hB4⟩:∃B,w.heap.size+1=B:=⟨_,rfl⟩
   have hB4':w.heap.size≤B4:=by omega
   rw[hB4] at hg4 hg5 K4 K5 k4 k5 hl3;obtain⟨B5,hB5⟩:∃B,B4+1=B:=⟨_,rfl⟩
   have h45:¬B5=B4:=by omega
   have h54:¬B4=B5:=by omega
   have hB5':w.heap.size≤B5:=by omega
   rw[hB5] at hg5 K5 k5 hl3;have a0:w3.cell? ⟨B5,0,none⟩=some (.string yk):=by rw[k5.cell];rfl
   have a1:w3.cell? ⟨B5,1,none⟩=some (.string yv):=by rw[k5.cell];rfl
   have a2:w3.cell? ⟨B5,2,none⟩=some (.slice none 0 0):=by rw[k5.cell];rfl
   have b0:w3.cell? ⟨B4,0,none⟩=some (.string ⟨#[]⟩):=by rw[k4.cell];rfl
   have b1:w3.cell? ⟨B4,1,none⟩=some (.string ⟨#[]⟩):=by rw[k4.cell];rfl
   have b2:w3.cell? ⟨B4,2,none⟩=some (.slice none 0 0):=by rw[k4.cell];rfl
   have f0:=k5.fz 0;have f1:=k5.fz 1;have f2:=k5.fz 2;have g0:=k4.fz 0;have g1:=k4.fz 1;have g2:=k4.fz 2;rw[hB4];try rw[hB5]
   clear hu' ht k4 k5 hb3 hB4 hB5;go_wp2_with fail;refine bodyPost_ret (v:=.agg #[.string yk,.string v,.slice ua qs.length uc]) (by rw[z0c rfl];go_simp) rfl ?_;have hF:TyF w3 (fun i=>i=B5∨i=B4) TCT:=fun i hi=>by
    rcases hi with rfl|rfl
    ·exact⟨_,_,K5.out⟩
    ·exact⟨_,_,K4.out⟩
   have key:∀wF,Turn (fun i=>i=B5∨i=B4) w3 wF→CeQ w wF gr (.slice a n c) yk (some (o1,v,qs)) (.returned (.agg #[.string yk,.string v,.slice ua qs.length uc])):=fun wF t=>
    ⟨ua,qs.length,uc,rfl,HU.out.tur t hF (by decide),HB3.out.turn t (fun e=>by omega),HT.out.step t (fun i hi hl=>by omega)⟩
   refine key _ ?_
   repeat refine Turn.setCell ?_ _ (fun _=>by first|exact .inl rfl|exact .inr rfl)
   exact Turn.refl _ _
 ·have e1:decide ((64:Int)<yn)=false:=zdf h64;unfold ldE at HR;rw[if_neg h64] at HR;clear h64 HV
  go_enter Tryz.func133,Tryz.ntmps133
  have hb:Below w.heap.size w (((w.alloc (.cells #[.string yk,.string yv,.int .i64 yn,.int .i64 yp] LCT)).alloc (.cells #[.string yk,.string yv,.slice none 0 0] TCT)).alloc (.cells #[.string yk,.string yv,.slice none 0 0] TCT)):=(((zbr _ _).alloc (zlr _) _).alloc (by simp) _).alloc (by simp;omega) _;have HBb:=zh hb;clear hb;go_wp2_with fail;refine bodyPost_ret (v:=.agg #[.string yk,.string yv,.slice none 0 0]) (by rw[z0c rfl];go_simp) rfl ?_;rw[←HR.out];exact⟨none,0,0,rfl,EV.none _,HB.out.ext HBb.out,q5w HBb.out⟩
theorem x9r (v:Value)(b:List Nat)(w:World)(hv:Sl w v b)(h8:B8 b)(hl:b.length≤504):
  Calls Tryz.prog 131 #[v] w fun e w'=>∃u,e=.returned (.tuple #[u,errV (decE b)])∧Cl w' u (decC b)∧Below w.heap.size w w':=by
 obtain⟨a,c,rfl,hs,hz,h1,h2⟩:=hv.arg;exact x03 a _ c b w rfl hs hz (by omega) h8
section
variable {w w':World} {gr n c:Nat} {a:Option Addr} {u:Nat→Bool} {d:Int}
theorem y54 {pv:Value}(j:Nat)(x:Value)(h:(rdv pv u d)[j]? =some x):x=pv∨(∃b,x=.bool b)∨x=.int .i64 d:=by
 have hs:j<1026:=by
  have:=(zag.1 h).1
  rwa [z4b] at this
 by_cases h0:j=0
 ·subst h0;rw[x1d] at h;exact .inl (Option.some.inj h).symm
 ·by_cases h1:j=1025
  ·subst h1;rw[x9n] at h;exact .inr (.inr (Option.some.inj h).symm)
  ·obtain⟨k,rfl⟩:∃k,j=1+k:=⟨j-1,by omega⟩
   rw[x1e _ _ _ k (by omega)] at h;exact .inr (.inl ⟨u k,(Option.some.inj h).symm⟩)
theorem Blk.noStr (h:Blk w gr RDG (rdv (.slice a n c) u d))(j:Nat)(s:ByteArray):w.cell? ⟨gr,j,none⟩≠some (.string s):=fun e=>by
 rw[h.cell] at e
 rcases y54 j _ e with h|⟨b,h⟩|h<;>cases h
theorem Blk.noU8 (h:Blk w gr RDG (rdv (.slice a n c) u d)):z3t w gr:=fun j x e=>by
 rw[h.cell] at e
 rcases y54 j _ e with h|⟨b,h⟩|h<;>cases h
theorem q5n {v:Value}{cs:List Ce}(h:Cl w v cs)(hg:Blk w gr RDG (rdv (.slice a n c) u d))(ht:Turn (fun i=>i=gr) w w'):Cl w' v cs:=by
 obtain⟨ad,cc,rfl,hs,h1⟩:=h;refine⟨ad,cc,rfl,fun h0=> ?_,h1⟩;obtain⟨g,o,rfl,hc⟩:=hs h0;refine⟨g,o,rfl,fun i hi=> ?_⟩;have h2:=hc i hi;have hne:¬g=gr:=fun e=>by
  subst e;exact hg.noStr _ _ h2.c0
 have key:∀j x,w.cell? ⟨g,j,none⟩=some x→w'.cell? ⟨g,j,none⟩=some x:=fun j x hx=>(ht.cell (p:=⟨g,j,none⟩) (block_lt_of_cell hx) hne).trans hx
 exact⟨key _ _ h2.c0,key _ _ h2.c1,key _ _ h2.c2,key _ _ h2.c3⟩
end
theorem y1j {u u1:Nat→Bool}(h:∀p,u p=true→u1 p=true):∀n,z1f u1 n≤z1f u n
 | 0=>zlr _
 | n+1=>by
  have h1:=y1j h n;show z1f u1 n+(if u1 n then 0 else 1)≤z1f u n+if u n then 0 else 1
  have h2:=h n
  cases h3:u n
  ·cases u1 n<;>simp<;>omega
  ·rw[h2 h3];simp;omega
theorem Opn.free {P:List (List Nat)}{o o1:RO}{c:Nat→Nat}(h:Opn P o o1 c)(n:Nat):z1f o1.u n≤z1f o.u n:=y1j (fun p hp=>by rw[h.1 p,hp];rfl) n
noncomputable def ldL (P:List (List Nat)) (f:Nat) (b:List Nat) (s:Sp) (deep:Int) (o:RO):Option (RO×List En):=
 if z4g o.d deep≠deep then none else match decS b with
  | none=>none
  | some cs=>if cs=[] then none else ldC P f s cs ⟨o.l,o.u,deep⟩
def CsQ (w w':World)(gr:Nat)(pv:Value)(x:Option (RO×List En))(e:Ending):Prop:=match x with
 | none=>e=.panicked CP∧Turn (fun i=>i=gr) w w'
 | some (o1,es)=>∃u,e=.returned u∧OC w' w.heap.size u es∧Blk w' gr RDG (rdv pv o1.u o1.d)∧Turn (fun i=>i=gr) w w'
theorem x9s {P:List (List Nat)}{f:Nat}{s:Sp}{cs:List Ce}{k:Nat}(hk:k<cs.length)(o:RO):ldC P f s (cs.drop k) o=if hasS s (ca cs k).k=true then
   match ldE P f (ca cs k) o with
   | none=>none
   | some (o1,v,ps)=>match ldC P f s (cs.drop (k+1)) ⟨o1.l++[⟨(ca cs k).k,v,[]⟩],o1.u,o1.d⟩ with
    | none=>none
    | some (o2,es)=>some (o2,⟨(ca cs k).k,v,ps⟩::es)
  else none:=by
 rw[x21 cs k hk];rfl
def q5o (P:List (List Nat))(f:Nat)(s:Sp)(cs:List Ce)(R:Option (RO×List En))(k:Nat)(y:RO)(es:List En):Prop:=R=(ldC P f s (cs.drop k) y).map (fun z=>(z.1,es++z.2))∧es.length=k
theorem x6j {w:World}{x:Rw}{e:En}:∀{xs:List Rw} {es:List En},RW w xs es→ROk w x e→RW w (xs++[x]) (es++[e])
 | [],[],_,h=>⟨h,trivial⟩
 | _::_,_::_,h,h2=>⟨h.1,x6j h.2 h2⟩
 | [],_::_,h,_=>h.elim
 | _::_,[],h,_=>h.elim
theorem q5p {w:World}{B:Nat}{u:Value}{es:List En}{k v:ByteArray}{a:Option Addr}{n c:Nat}{qs:List Nat}(h:OC w B u es)(hB:B≤w.heap.size)(hl:es.length≤100000)(hp:EV pgE w (.slice a n c) qs):
  ∃v' w',(Builtin.append_ #[79,79] 79 #[u,.slice (some ⟨w.heap.size,0,none⟩) 1 1]).run Tryz.prog (w.alloc (.cells #[.string k,.string v,.slice a n c] TCT))=.ok v' w'∧OC w' B v' (es++[⟨k,v,qs⟩])∧
   ∃F,Turn F w w'∧(∀i,F i→B≤i)∧TyF w F TCT:=by
 obtain⟨xs,ho,hr⟩:=h;have hxl:=hr.len;have hba:Below w.heap.size w (w.alloc (.cells #[.string k,.string v,.slice a n c] TCT)):=(zbr _ _).alloc (zlr _) _;have ho1:=z0p ho hba (zlr _);have hlit:ES celE (w.alloc (.cells #[.string k,.string v,.slice a n c] TCT)) (some ⟨w.heap.size,0,none⟩) [⟨k,v,a,n,c⟩]:=ES.lit (z0h w TCT #[.string k,.string v,.slice a n c]) (by simp[celE]);obtain⟨v1,w4,hrun,hb4,ht4,ho4⟩:=z2a (P:=Tryz.prog) (E:=celE) (w:=w.alloc (.cells #[.string k,.string v,.slice a n c] TCT)) B 79 79 TCT Tryz.underlying79 y0x u xs.length xs ho1 (by simp;omega) (some ⟨w.heap.size,0,none⟩) 1 1 [⟨k,v,a,n,c⟩] rfl (by omega) hlit (by unfold maxLen;omega) (by show _*56≤_;omega);have hT:=TyF.own ho1;have hp1:EV pgE w4 (.slice a n c) qs:=(hp.ext hba).tur ht4 hT rfl;have hr1:RW w4 xs es:=(hr.below hba (zlr _)).tur ht4 hT rfl;refine⟨v1,w4,hrun,⟨xs++[⟨k,v,a,n,c⟩],by rw[zla];exact ho4,x6j (x:=⟨k,v,a,n,c⟩) (e:=⟨k,v,qs⟩) hr1 ⟨rfl,rfl,hp1⟩⟩,fun i=>u.ownBlock=some i,(q5w (F:=fun i=>u.ownBlock=some i) hba).step ht4 (fun i hi _=>hi),fun i hi=>(ho.lt i hi).1,TyF.own ho⟩
set_option maxRecDepth 100000 in
set_option maxHeartbeats 4000000 in
theorem x1g (gr:Nat)(a:Option Addr)(n c:Nat)(P:List (List Nat))(f:Nat)(o:RO)(v:Value)(b:List Nat)(s:Sp)(deep:Int)(w:World)(hn:P.length=n)(hn9:n≤1024)(hv:Sl w v b)(h8:B8 b)(hbl:b.length≤504)(hL:LdW w gr a P)(hB:Blk w gr RDG (rdv (.slice a n c) o.u o.d))(hf:z1f o.u n≤f):
  Calls Tryz.prog 97 #[.pointer (some ⟨gr,0,none⟩),v,s.v,.int .i64 deep] w fun e w'=>CsQ w w' gr (.slice a n c) (ldL P f b s deep o) e:=by
 obtain⟨R,hR⟩:∃R,ldL P f b s deep o=R:=⟨_,rfl⟩
 rw[hR];have HR:=zh hR;have hbx:Below w.heap.size w (w.alloc (.cells #[.string s.lo,.string s.hi,.bool s.op] SPT)):=(zbr _ _).alloc (zlr _) _;have hsp:=z0h w SPT #[.string s.lo,.string s.hi,.bool s.op];obtain⟨W,hW⟩:∃W,w.alloc (.cells #[.string s.lo,.string s.hi,.bool s.op] SPT)=W:=⟨_,rfl⟩
 rw[hW] at hbx hsp;have hB1:=hB.ext hbx;have hgw:gr<w.heap.size:=hB.lt;have HW:=zh hW;have HX:=zh hbx;have HS:=zh (show Blk W w.heap.size SPT #[.string s.lo,.string s.hi,.bool s.op] from hsp);have q0:=hB1.gd;have f0:=hB1.fz 1025;have HB:=zh hB1;have HL:=zh (hL.ext hbx);have HV:=zh (hv.below hbx (zlr _));have HF:=zh hf;have HN:=zh hn;have HM0:=zh (fun w=>z4d w);have HM1:=zh (fun w=>z4c w);have HD:=zh (fun v w hv=>x9r v b w hv h8 hbl);have Hcell:=zh (fun(o:RO) (y:Ce) (w:World) (hy:y.n≤100000) (hL:LdW w gr a P) (hB:Blk w gr RDG (rdv (.slice a n c) o.u o.d)) (hf:z1f o.u n≤f)=>x6i gr a n c P f o y w HN.out hn9 hy hL hB hf);have Hhas:=zh (fun k w=>x11 s k w);clear hR hv h8 hbl hL hB hf hn hbx hsp hB1;obtain⟨od,hod⟩:∃d,o.d=d:=⟨_,rfl⟩
 rw[hod] at q0 HB;have HOD:=zh hod;clear hod;clear hW;obtain⟨slo,shi,sop⟩:=s;dsimp only[Sp.v] at*
 go_enter Tryz.func97,Tryz.ntmps97
 go_upto_region 1 with fail
 rw[HW.out]
 go_upto_if 18 with fail
 go_cut [] (fun wx=>Hid (Turn (fun i=>i=gr) W wx)∧Hid (Blk wx gr RDG (rdv (.slice a n c) o.u (z4g od deep))))
 case first=>
  by_cases h0:od=0
  ·subst h0;have ht:Turn (fun i=>i=gr) W (W.setCell ⟨gr,1025,none⟩ (.int .i64 deep)):=(Turn.refl _ _).setCell _ (fun _=>rfl);have HT1:=zh ht;have HB1:Hid (Blk (W.setCell ⟨gr,1025,none⟩ (.int .i64 deep)) gr RDG (rdv (.slice a n c) o.u (z4g 0 deep))):=by
    have e:z4g 0 deep=deep:=by unfold z4g;rw[if_pos rfl]
    rw[e];exact HB.out.gdeep deep
   clear ht;go_wp2;go_meet;exact⟨HT1.out,HB1.out⟩
  ·have e1:(od==0)=false:=beq_eq_false_iff_ne.2 h0;have HB1:Hid (Blk W gr RDG (rdv (.slice a n c) o.u (z4g od deep))):=by
    have e:z4g od deep=od:=by unfold z4g;rw[if_neg h0]
    rw[e];exact HB.out
   clear h0;go_wp2;go_meet;exact⟨Turn.refl _ _,HB1.out⟩
 case rest=>
  obtain⟨HT1,HB1⟩:=hcut;have HTw:Hid (Turn (fun i=>i=gr) w wc):=(q5w HX.out).step HT1.out (fun i hi _=>hi);have q1:=HB1.out.gd;have HV1:=zh (HV.out.turn HT1.out HB.out.noU8);have HS1:=zh (HS.out.turn HT1.out (fun e=>by omega));clear q0 f0 HV HS HB
  by_cases hdp:¬z4g od deep=deep
  ·have e1:(deep==z4g od deep)=false:=beq_eq_false_iff_ne.2 (fun h=>hdp h.symm);have HN1:Hid (R=none):=by
    rw[←HR.out];unfold ldL;rw[HOD.out,if_pos hdp];exact rfl
   generalize z4g od deep=DD at*;clear hdp HR;go_wp2_with fail;refine(HM0.out wc).mono ?_;rintro e w4 ⟨rfl,rfl⟩;go_wp2;rw[HN1.out];exact⟨rfl,rfl,HTw.out⟩
  have hdp:z4g od deep=deep:=Decidable.not_not.1 hdp;rw[hdp] at q1 HB1;go_wp2_with fail;refine(HM1.out wc).mono ?_;rintro e w2 ⟨rfl,rfl⟩;have hR2:R=match decS b with|none=>none|some cs=>if cs=[] then none else ldC P f ⟨slo,shi,sop⟩ cs ⟨o.l,o.u,deep⟩:=by
   rw[←HR.out];unfold ldL;rw[HOD.out,if_neg (fun h=>h hdp)]
  clear HR q1;go_wp2_with fail;refine(HD.out v wc HV1.out).mono ?_;rintro e w3 ⟨u3,rfl,hcl,hb3⟩;have HT3:=zh (HTw.out.step (G:=fun _=>False) (q5w hb3) (fun _ hf _=>hf.elim));have HB3:=zh (HB1.out.ext hb3);have HS3:=zh (HS1.out.ext hb3);have HL3:=zh ((HL.out.turn HT1.out (fun i hi=>by omega)).ext hb3);clear hb3 HV1 HD HTw HB1 HS1 HT1 HL
  cases hcs:decS b with
  | none=>
   obtain⟨e1,e2⟩:=z6t hcs;rw[e2,show errV 3=.iface 94 (.int .i64 3) from rfl];have HN1:Hid (R=none):=by rw[hR2,hcs];exact rfl
   obtain⟨ca,cc,rfl,_⟩:=hcl;clear hR2 hcs e1 e2;generalize (decC b).length=L at*;go_wp2_with fail;refine(HM0.out w3).mono ?_;rintro e w4 ⟨rfl,rfl⟩;go_wp2;rw[HN1.out];exact⟨rfl,rfl,HT3.out⟩
  | some cs=>
   obtain⟨e1,e2⟩:=y86 hcs;rw[e2,show errV 0=.nilIface from rfl];rw[e1] at hcl;rw[hcs] at hR2;have hfacts:=z46 hcs;have hm5:=y2f hcs;clear e1 e2 hcs;obtain⟨ca',cc,rfl,hcs3,hz,hlc,hcm⟩:=hcl
   by_cases hnil:cs=[]
   ·subst hnil;have HN1:Hid (R=none):=by rw[hR2];exact rfl
    clear hR2 hfacts hcs3;go_wp2_with fail;refine(HM0.out w3).mono ?_;rintro e w4 ⟨rfl,rfl⟩;go_wp2;rw[HN1.out];exact⟨rfl,rfl,HT3.out⟩
   ·have hpos:0<cs.length:=List.length_pos_iff.2 hnil;have hpi:(0:Int)<(cs.length:Int):=by omega
    have HRc:Hid (R=ldC P f ⟨slo,shi,sop⟩ cs ⟨o.l,o.u,deep⟩):=by rw[hR2];simp only;rw[if_neg hnil];exact rfl
    have HCl:Hid (Cl w3 (.slice ca' cs.length cc) cs):=⟨ca',cc,rfl,hcs3,hz,hlc,hcm⟩
    have HMy:=zh hfacts.2.1;clear hR2 hfacts hcs3 hz hlc hcm hnil;obtain⟨N,hN⟩:∃N,cs.length=N:=⟨_,rfl⟩
    rw[hN] at hpos hpi hm5 HCl⊢
    have hpn:decide (0<N)=true:=zdt hpos;have HNc:=zh hN;clear hN;have hgr3:=HB3.out.lt;go_wp2_with fail;refine(HM1.out w3).mono ?_;rintro e w4 ⟨rfl,rfl⟩;go_wp2_with fail
    go_loopw [11,13,45] (fun uv _ i wr=>∃(k:Nat) (y:RO) (u0:Value) (es:List En),u0=uv∧i=.int .i64 k∧k≤N∧Hid (q5o P f ⟨slo,shi,sop⟩ cs R k y es)∧Hid (z1f y.u n≤f)∧Hid (OC wr w3.heap.size u0 es)∧Hid (Blk wr gr RDG (rdv (.slice a n c) y.u y.d))∧Hid (Turn (fun i=>i=gr) w wr)∧Hid (Turn (fun i=>i=gr) w3 wr)) (fun _ _ i _=>N-(intOf i).toNat)
    case atStart=>exact⟨0,⟨o.l,o.u,deep⟩,_,[],rfl,rfl,by omega,⟨by rw[HRc.out,List.drop_zero];cases ldC P f ⟨slo,shi,sop⟩ cs ⟨o.l,o.u,deep⟩<;>simp,rfl⟩,HF.out,⟨[],World.ownsRow_nil _ _ _ _,trivial⟩,HB3.out,HT3.out,Turn.refl _ _⟩
    case round=>
     obtain⟨k,y,u0,es,rfl,rfl,hk,HRest,HFy,HO,HBy,HTy,HT3y⟩:=hrel
     by_cases hlt:k<N
     ·have i1:(k:Int)<(N:Int):=by omega
      have hklt:k<cs.length:=by rw[HNc.out];exact hlt
      have hcly:=q5n (v:=.slice ca' N cc) HCl.out HB3.out HT3y.out;obtain⟨ad',cc',ee,hsC,_⟩:=hcly
      cases ee
      obtain⟨g0,o0,rfl,hcell⟩:=hsC (by omega);have hcy:=hcell k hklt;have hstep:=x9s (P:=P) (f:=f) (s:=⟨slo,shi,sop⟩) hklt y;have hmay:=y5h (HMy.out _ (x98 cs k hklt));have hEf:=fun o1 v ps h=> @z9u P f (ca cs k) y o1 v ps h (HMy.out _ (x98 cs k hklt))
      have hsy:=HS3.out.turn HT3y.out (fun e=>by omega);obtain⟨W1,hW1⟩:∃W1,wr.alloc (.cells #[.string (ca cs k).k,.string (ca cs k).v,.int .i64 (ca cs k).n,.int .i64 (ca cs k).p] LCT)=W1:=⟨_,rfl⟩
      have hb1:Below wr.heap.size wr W1:=by rw[←hW1];exact(zbr _ _).alloc (zlr _) _
      have hc1:Blk W1 wr.heap.size LCT #[.string (ca cs k).k,.string (ca cs k).v,.int .i64 (ca cs k).n,.int .i64 (ca cs k).p]:=by rw[←hW1];exact z0h wr LCT _
      have hs1:=hsy.ext hb1;obtain⟨Y,hY⟩:∃Y,ca cs k=Y:=⟨_,rfl⟩
      rw[hY] at hcy hstep hmay hEf hW1 hc1;obtain⟨yk,yv,yn,yp⟩:=Y;dsimp only at hcy hstep hmay hEf hW1 hc1;have y0:=hcy.c0;have y1:=hcy.c1;have y2:=hcy.c2;have y3:=hcy.c3;have s0:W1.cell? ⟨w.heap.size,0,none⟩=some (.string slo):=by rw[hs1.cell];rfl
      have s1:W1.cell? ⟨w.heap.size,1,none⟩=some (.string shi):=by rw[hs1.cell];rfl
      have s2:W1.cell? ⟨w.heap.size,2,none⟩=some (.bool sop):=by rw[hs1.cell];rfl
      have d0:W1.cell? ⟨wr.heap.size,0,none⟩=some (.string yk):=by rw[hc1.cell];rfl
      rw[←hW1] at s0 s1 s2 d0;have HW1:=zh hW1;have HC1:=zh hc1;have HBb:=zh hb1;have HB1y:=zh (HBy.out.ext hb1);have Hstep:=zh hstep;have Hmay:=zh hmay;have HEf:=zh hEf;have Hh:=Hhas.out yk W1;have HLy:=zh ((HL3.out.turn HT3y.out (fun i hi=>by omega)).ext hb1);have hwy:=HTy.out.size;clear hcy hcell hsC hsy hs1 hc1 hb1 hW1 hY hstep hmay hEf;obtain⟨D,hD⟩:∃D,hasS ⟨slo,shi,sop⟩ yk=D:=⟨_,rfl⟩
      rw[hD] at Hh;have HDd:=zh hD;have Hhh:=zh Hh;clear hD Hh;go_wp2_with fail;rw[HW1.out];refine Hhh.out.mono ?_;rintro e w5 ⟨rfl,hb5⟩
      cases D with
      | false=>
       have HN1:Hid (R=none):=by
        rw[HRest.out.1,Hstep.out,HDd.out];exact rfl
       have HT5:=zh ((HTy.out.step (G:=fun _=>False) (q5w HBb.out) (fun _ hf _=>hf.elim)).step (G:=fun _=>False) (q5w hb5) (fun _ hf _=>hf.elim));clear hb5 s0 s1 s2 d0 y0 y1 y2 y3;go_wp2_with fail;refine(HM0.out w5).mono ?_;rintro e w6 ⟨rfl,rfl⟩;go_wp2;rw[HN1.out];exact⟨rfl,rfl,HT5.out⟩
      | true=>
       have HT5:=zh ((HTy.out.step (G:=fun _=>False) (q5w HBb.out) (fun _ hf _=>hf.elim)).step (G:=fun _=>False) (q5w hb5) (fun _ hf _=>hf.elim));have HT35:=zh ((HT3y.out.step (G:=fun _=>False) (q5w HBb.out) (fun _ hf _=>hf.elim)).step (G:=fun _=>False) (q5w hb5) (fun _ hf _=>hf.elim));have hc5:=HC1.out.ext hb5;have HB5:=zh (HB1y.out.ext hb5);have HL5:=zh (HLy.out.ext hb5);have HO5:=zh ((HO.out.below HBb.out (zlr _)).below hb5 (zlr _));have Hce:=zh (Hcell.out y ⟨yk,yv,yn,yp⟩ w5 (by have:=Hmay.out.2.2.1;show yn≤_;omega) HL5.out HB5.out HFy.out);have d5:w5.cell? ⟨wr.heap.size,0,none⟩=some (.string yk):=by rw[hc5.cell];rfl
       have d6:w5.cell? ⟨wr.heap.size,1,none⟩=some (.string yv):=by rw[hc5.cell];rfl
       have d7:w5.cell? ⟨wr.heap.size,2,none⟩=some (.int .i64 yn):=by rw[hc5.cell];rfl
       have d8:w5.cell? ⟨wr.heap.size,3,none⟩=some (.int .i64 yp):=by rw[hc5.cell];rfl
       have hst2:R=((match ldE P f ⟨yk,yv,yn,yp⟩ y with
         | none=>none
         | some (o1,v,ps)=>match ldC P f ⟨slo,shi,sop⟩ (cs.drop (k+1)) ⟨o1.l++[⟨yk,v,[]⟩],o1.u,o1.d⟩ with
          | none=>none
          | some (o2,es)=>some (o2,(⟨yk,v,ps⟩:En)::es)):Option (RO×List En)).map (fun z=>(z.1,es++z.2)):=by
        rw[HRest.out.1,Hstep.out,HDd.out,if_pos rfl]
       clear hb5 hc5 s0 s1 s2 d0 y0 y1 y2 y3;go_wp2_with fail;refine(HM1.out w5).mono ?_;rintro e w6 ⟨rfl,rfl⟩;go_wp2_with fail;refine Hce.out.mono ?_;intro e w7 hq
       cases hle:ldE P f ⟨yk,yv,yn,yp⟩ y with
       | none=>
        rw[hle] at hq hst2;obtain⟨rfl,ht⟩:=hq;have HN1:Hid (R=none):=by rw[hst2];exact rfl
        have HT7:=zh (HT5.out.trans ht);clear ht hst2 d5 d6 d7 d8 hle;go_wp2;rw[HN1.out];exact⟨rfl,rfl,HT7.out⟩
       | some z=>
        obtain⟨o1,vv,qs⟩:=z;rw[hle] at hq hst2;obtain⟨cad,cn,ccp,rfl,hcev,hb7,ht7⟩:=hq;have hf1:=HEf.out o1 vv qs hle;have hel:=HRest.out.2;have hO7:=HO5.out.tur ht7 (TyF.one HB5.out) rfl (by decide);have HF7:Hid (z1f o1.u n≤f):=by have:=hf1.1.free n;exact znt this HFy.out
        have HT7:=zh (HT5.out.trans ht7);have HT37:=zh (HT35.out.trans ht7);obtain⟨v8,w8,hrun,hO8,F,hF1,hF2,hF3⟩:=q5p (k:=yk) (v:=vv) hO7 HT37.out.size (by omega) hcev;have HR8:Hid (q5o P f ⟨slo,shi,sop⟩ cs R (k+1) ⟨o1.l++[⟨yk,vv,[]⟩],o1.u,o1.d⟩ (es++[⟨yk,vv,qs⟩])):=by
         refine⟨?_,by rw[zla,hel];rfl⟩;rw[hst2];simp only
         cases ldC P f ⟨slo,shi,sop⟩ (cs.drop (k+1)) ⟨o1.l++[⟨yk,vv,[]⟩],o1.u,o1.d⟩ with
         | none=>rfl
         | some z=>simp
        have HB8:Hid (Blk w8 gr RDG (rdv (.slice a n c) o1.u o1.d)):=hb7.turn hF1 (fun hg=>hF3.not hb7 (by decide) hg);have HT8:Hid (Turn (fun i=>i=gr) w w8):=HT7.out.step hF1 (fun i hi hl=>by have:=hF2 i hi;have:=HT3.out.size;omega);have HT38:Hid (Turn (fun i=>i=gr) w3 w8):=HT37.out.step hF1 (fun i hi hl=>by have:=hF2 i hi;omega);have HO8:=zh hO8;clear hst2 hle hf1 hel hO7 hcev hb7 ht7 hO8 hF1 hF2 hF3 d5 d6 d7 d8
        go_wp2_with (at_builtin;refine Lib.wpList_append_run _ rfl (.tmp 54) (.tmp 58) _ _ rfl _ _ (by rfl) (by rfl) _ _ hrun ?_)
        go_roundw
        case rel=>exact⟨k+1,⟨o1.l++[⟨yk,vv,[]⟩],o1.u,o1.d⟩,v8,es++[(⟨yk,vv,qs⟩:En)],rfl,by go_num,by omega,HR8,HF7,HO8,HB8,HT8,HT38⟩
        case measure=>simp[intOf];omega
     ·obtain rfl:k=N:=by omega
      have HN1:Hid (R=some (y,es)):=by
       rw[HRest.out.1,←HNc.out,List.drop_length];unfold ldC;simp;exact trivial
      go_wp2;go_ret;rw[HN1.out];obtain⟨xs,hxo,hxr⟩:=HO.out;exact⟨_,rfl,⟨xs,z4z hxo HT3.out.size,hxr⟩,HBy.out,HTy.out⟩
end Go.Proofs.YtdnfhjfbanhhcaaGreatDoor
