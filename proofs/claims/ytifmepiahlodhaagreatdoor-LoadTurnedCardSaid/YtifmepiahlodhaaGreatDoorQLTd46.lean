/-
  Steps.
-/
import Derived.Test.YtifmepiahlodhaaGreatDoorQLTd45
import Derived.Defers
import Derived.Recover
namespace Go.Proofs.YtifmepiahlodhaaGreatDoor
open Go.RowKit
theorem x91 {PL:List (List Nat)}{h:Nat}{t:Tr}(hk:TOk h none none t)(hz:t.sz≤504)(hz3:0<h→3≤t.sz)(hne:t.es≠[])(hL:LieI (pgF PL) [t])(hlt:∀p∈uL [t],p<PL.length)(hlen:h+6≤PL.length):ldT PL ((t.pg:Nat):Int)=some ([t],h+1):=by
 have hpg:t.pg≠0:=hL.pg t (by simp);have hu:uL [t]=uT t:=by unfold uL uT;rw[z1r];simp[pgsL]
 have hon:=hL.on;rw[onL] at hon;have hes:=hL.ce;rw[z1r] at hes;obtain⟨o1,g1,g2⟩:=x6l PL h PL.length none none t RO0 Sp0 1 hk hz (fun h=>by omega) hz3 (fun _=>hne)
  ⟨hon.1,hpg,hes,fun p hp=>by have:=hL.rg p (by rw[hu];exact hp);exact⟨this.1,this.2,hlt p (by rw[hu];exact hp)⟩,fun p=>by have:=hL.one p;rw[z14,z3k] at this;omega,fun _ _=>rfl⟩ ⟨rfl,rfl⟩ hlen (by omega) (Int.le_refl _) (.inl rfl)
 unfold ldT;rw[if_neg (by omega),g1];simp only[Option.map_some,Option.some.injEq,Prod.mk.injEq,true_and];omega
theorem y1j {PL:List (List Nat)}{w:World}{p:Option Addr}{us:List Tr}{H:Nat}(ht:z0y w p us H)(hL:LieI (pgF PL) us)(hlt:∀p∈uL us,p<PL.length)(hlen:H+5≤PL.length):
  ldT PL (((us.headD (.leaf 0 [])).pg:Nat):Int)=some (us,H):=by
 rcases z13 ht with ⟨_,rfl,rfl⟩|⟨b,h,t,v,_,rfl,_,hnv,hz,hz3,hne,rfl⟩
 ·unfold ldT;rfl
 ·obtain⟨W,_,hn,_⟩:=hnv.nd;exact x91 (q6e h hn) hz hz3 hne hL hlt (by omega)
theorem x6w {w:World}{p:Option Addr}{us:List Tr}{H:Nat}(ht:z0y w p us H)(hl:(esL us).length≤100000):H≤18:=by
 rcases z13 ht with ⟨_,rfl,rfl⟩|⟨b,h,t,v,_,rfl,_,hnv,hz,hz3,hne,rfl⟩
 ·omega
 ·obtain⟨W,_,hn,_⟩:=hnv.nd;rw[z1r] at hl;have h1:=y7y h (q6e h hn) hz3 (fun _=>hne)
  rcases zng 17 h with h2|h2
  ·have:=Nat.pow_le_pow_right (n:=2) (by omega) (show 18≤h from h2);omega
  ·omega
theorem y52 {PL:List (List Nat)}(hlen:30≤PL.length){w:World}{p:Option Addr}{us:List Tr}{H:Nat}(ht:z0y w p us H)(hl:(esL us).length≤100000)(hL:LieI (pgF PL) us)(hlt:∀p∈uL us,p<PL.length):
  ldT PL (((us.headD (.leaf 0 [])).pg:Nat):Int)=some (us,H):=y1j ht hL hlt (by have:=x6w ht hl;omega)
section
variable {P Q:List (List Nat)} {i:Nat}
structure z30 (P Q:List (List Nat)) (i:Nat):Prop where
 len:Q.length=P.length
 bad:(opS (Q.getD i [])).2.2≠0
 same:∀j,j≠i→Q.getD j []=P.getD j []
theorem z30.open (h:z30 P Q i){o:RO}{x:Int}{z:RO×Nat×List Nat}(ho:z2x Q o x=some z):z2x P o x=some z∧x.toNat≠i:=by
 obtain⟨o1,k,b⟩:=z;obtain⟨h1,h2,h3,h4,h5,h6,h7⟩:=z1x Q ho;have hne:x.toNat≠i:=fun e=>h.bad (by rw[←e];exact h4)
 refine⟨?_,hne⟩;unfold z2x at ho⊢
 rw[h.len,h.same _ hne] at ho;exact ho
theorem z30.val (h:z30 P Q i):∀(f:Nat) (o:RO) (s:ByteArray) (ps:List Nat) (page long:Int) (z:RO×ByteArray×List Nat),ldV Q f o s ps page long=some z→¬i∈ps→ldV P f o s ps page long=some z∧¬i∈z.2.2
 | 0,o,s,ps,page,long,z,hz,hi=>by
  unfold ldV at hz⊢
  split at hz
  ·cases hz
  ·rename_i h1
   rw[if_neg h1];split at hz
   ·rename_i h2
    cases hz
    rw[if_pos h2];exact⟨rfl,hi⟩
   ·cases hz
 | f+1,o,s,ps,page,long,z,hz,hi=>by
  unfold ldV at hz⊢
  split at hz
  ·rename_i h1
   rw[if_pos h1];split at hz
   ·cases hz
   ·rename_i o1 k b ho
    obtain⟨ho',hne⟩:=h.open ho;rw[ho'];simp only;split at hz
    ·rename_i h2
     rw[if_pos h2];exact z30.val h f _ _ _ _ _ z hz (by simp only[List.mem_append,List.mem_singleton];rintro(h3|h3);exact hi h3;exact hne h3.symm)
    ·cases hz
  ·rename_i h1
   rw[if_neg h1];split at hz
   ·rename_i h2
    cases hz
    rw[if_pos h2];exact⟨rfl,hi⟩
   ·cases hz
theorem z30.cell (h:z30 P Q i){f:Nat}{c:Ce}{o:RO}{z:RO×ByteArray×List Nat}(hz:ldE Q f c o=some z):ldE P f c o=some z∧¬i∈z.2.2:=by
 unfold ldE at hz⊢
 split at hz
 ·rename_i h1
  rw[if_pos h1];exact h.val f _ _ _ _ _ z hz (by simp)
 ·rename_i h1
  rw[if_neg h1]
  cases hz
  exact⟨rfl,by simp⟩
theorem z30.cells (h:z30 P Q i)(f:Nat)(s:Sp):∀(cs:List Ce) (o:RO) (z:RO×List En),ldC Q f s cs o=some z→ldC P f s cs o=some z∧¬i∈chL z.2
 | [],o,z,hz=>by
  unfold ldC at hz⊢
  cases hz
  exact⟨rfl,by simp[chL]⟩
 | c::r,o,z,hz=>by
  unfold ldC at hz⊢
  split at hz
  ·rename_i h1
   rw[if_pos h1];split at hz
   ·cases hz
   ·rename_i o1 v ps he
    obtain⟨he',hi⟩:=h.cell he;rw[he'];simp only;split at hz
    ·cases hz
    ·rename_i o2 es hr
     obtain⟨hr',hi2⟩:=z30.cells h f s r _ _ hr;rw[hr']
     cases hz
     refine⟨rfl,?_⟩;rw[chL,List.mem_append];rintro(h3|h3)
     ·exact hi h3
     ·exact hi2 h3
  ·cases hz
theorem z30.kids (h:z30 P Q i){f:Nat}{ks:List ByteArray}{ps:List Int}{s:Sp}{deep:Int}(ih:∀o p s z,ldN Q f o p s (deep+1)=some z→ldN P f o p s (deep+1)=some z∧cU i z.2=0):
  ∀(t:Nat) (o:RO) (z:RO×List Tr),ldK (ldN Q f) ks ps s deep t o=some z→ldK (ldN P f) ks ps s deep t o=some z∧cUL i z.2=0
 | 0,o,z,hz=>by
  unfold ldK at hz⊢
  cases hz
  exact⟨rfl,z3k i⟩
 | t+1,o,z,hz=>by
  unfold ldK at hz⊢
  split at hz
  ·cases hz
  ·rename_i h1
   rw[if_neg h1];split at hz
   ·cases hz
   ·rename_i o1 tr hn
    obtain⟨hn',hi⟩:=ih _ _ _ _ hn;rw[hn'];simp only;split at hz
    ·cases hz
    ·rename_i h2
     rw[if_neg h2];split at hz
     ·cases hz
     ·rename_i o2 ts hr
      obtain⟨hr',hi2⟩:=z30.kids h ih t _ _ hr;rw[hr']
      cases hz
      refine⟨rfl,?_⟩;show cUL i (tr::ts)=0;rw[z14];have:cU i tr=0:=hi;have:cUL i ts=0:=hi2;omega
theorem z30.node (h:z30 P Q i):∀(f:Nat) (o:RO) (page:Int) (s:Sp) (deep:Int) (z:RO×Tr),ldN Q f o page s deep=some z→ldN P f o page s deep=some z∧cU i z.2=0
 | 0,o,page,s,deep,z,hz=>by unfold ldN at hz;cases hz
 | f+1,o,page,s,deep,z,hz=>by
  unfold ldN at hz⊢
  split at hz
  ·cases hz
  ·rename_i o1 k b ho
   obtain⟨ho',hne⟩:=h.open ho;obtain⟨g1,_⟩:=z1x Q ho;have hpz:¬page.toNat=0:=by omega
   have hcn: [page.toNat].count i=0:=List.count_eq_zero.2 (by simpa using fun e=>hne e.symm);rw[ho'];simp only;split at hz
   ·rename_i h1
    rw[if_pos h1];split at hz
    ·cases hz
    ·rename_i h2
     rw[if_neg h2];split at hz
     ·cases hz
     ·rename_i cs hcs
      split at hz
      ·cases hz
      ·rename_i h3
       split at hz
       ·cases hz
       ·rename_i o2 es hc
        obtain⟨hc',hi⟩:=h.cells f s cs _ _ hc
        cases hz
        simp only[if_neg h3,hc'];refine⟨trivial,?_⟩;rw[z9g,if_neg hpz,hcn,List.count_eq_zero.2 hi]
   ·rename_i h1
    rw[if_neg h1];split at hz
    ·rename_i h2
     rw[if_pos h2];split at hz
     ·cases hz
     ·rename_i ks ps hfs
      split at hz
      ·cases hz
      ·rename_i o2 ts hk
       obtain⟨hk',hi⟩:=h.kids (fun o p s z hz=>z30.node h f o p s (deep+1) z hz) _ _ _ hk
       cases hz
       simp only[hk'];refine⟨trivial,?_⟩;rw[z5p,if_neg hpz,hcn];have:cUL i ts=0:=hi;omega
    ·cases hz
theorem q6i (h:z30 P Q i){root:Int}{us:List Tr}{H:Nat}(hP:ldT P root=some (us,H))(hi:i∈uL us):ldT Q root=none:=by
 cases hQ:ldT Q root with
 | none=>rfl
 | some z=>
  exfalso
  unfold ldT at hP hQ;split at hQ
  ·rename_i h0
   rw[if_pos h0] at hP
   cases hP
   rw[z3e,z3k] at hi;omega
  ·rename_i h0
   rw[if_neg h0] at hP
   cases hn:ldN Q Q.length RO0 root Sp0 1 with
   | none=>rw[hn] at hQ;cases hQ
   | some y=>
    obtain⟨hn',h2⟩:=h.node _ _ _ _ _ y hn;rw[h.len] at hn';rw[hn'] at hP;simp only[Option.map_some,Option.some.injEq,Prod.mk.injEq] at hP;rw[←hP.1,z3e,z14,z3k] at hi;omega
end
end Go.Proofs.YtifmepiahlodhaaGreatDoor
namespace Go.Proofs.YtifmepiahlodhaaGreatDoor
open Go Go.RowKit
abbrev ERT:TypeId:=34
theorem q3v (p q:Addr)(w:World):
  CallsD Tryz.prog 39 #[.pointer (some p),.pointer (some q)] .returning w fun e u' w'=>e=.returned (.tuple #[])∧u'=.returning∧w'=w:=by
 refine callsD_of_wpS Tryz.func39 rfl fun c₀ cs hu=> ?_
 apply wpS_seq;apply wpS_region;simp[wpOpsS,go_sem,recoverD,hu,Tryz.ntmps39,Exit.thenS];apply wpS_seq;apply wpS_region;simp[wpOpsS,go_sem,Exit.thenS,Array.replicate];refine wpS_cond (t:=false) (by simp[Act.eval]) ?_;simp only[Bool.false_eq_true,if_false];refine wpS_of_wp (wp_skip ?_)
 cases c₀
 simp_all [bodyPostS,results,Tryz.results39]
theorem x92 (w:World):(Instr.typeAssert (.iface 96 (.int .i64 16)) 20 96 false).run Tryz.prog w=.ok (.int .i64 16) w:=by kernel_rfl
abbrev CPr:List PanicEntry:=[{v:=.iface 96 (.int .i64 16),recovered:=true}]
theorem y94 (b0 b1:Nat)(w:World)(h0:Blk w b0 TT #[.pointer none,.int .i64 0])(h1:Blk w b1 ERT #[.nilIface]):
  CallsD Tryz.prog 39 #[.pointer (some ⟨b0,0,none⟩),.pointer (some ⟨b1,0,none⟩)] (.panicking CP) w fun e u' w'=>e=.returned (.tuple #[])∧u'=.panicking CPr∧Blk w' b0 TT #[.pointer none,.int .i64 0]∧Blk w' b1 ERT #[.iface 96 (.int .i64 16)]∧Turn (fun i=>i=b0∨i=b1) w w':=by
 refine callsD_of_wpS Tryz.func39 rfl fun c₀ cs hu=> ?_
 apply wpS_seq;apply wpS_region;simp[wpOpsS,go_sem,recoverD,hu,Tryz.ntmps39,Exit.thenS];apply wpS_seq;apply wpS_region;simp[wpOpsS,go_sem,Exit.thenS,Array.replicate];refine wpS_cond (t:=true) (by simp[Act.eval]) ?_;simp only[if_true];refine wpS_of_wp ?_;refine z0k (F:=fun i=>i=b0∨i=b1) [(0,true),(1,true),(2,true),(3,true),(4,false),(5,false)] (by kernel_rfl) (by kernel_rfl) (by kernel_rfl) (by kernel_rfl) (fun _ _ _ _ _ h=>h) ?_;have hbd:Below w.heap.size w w.drew:=(zbr _ _).drew;have H0:=zh (h0.ext hbd);have H1:=zh (h1.ext hbd);have HT:=zh (q6a (F:=fun i=>i=b0∨i=b1) hbd);have hne:b1≠b0:=fun e=>by
  subst e;have h2:w.heap[b1]? =_:=h0;have h3:w.heap[b1]? =_:=h1;rw[h2] at h3;injection h3 with h3
  injection h3 with _ h3 _
  exact absurd h3 (by decide)
 have Hu:=zh hu;clear h0 h1 hbd hu;generalize w.drew=w2 at*;have c0:w2.cell? ⟨b0,0,none⟩=some (.pointer none):=by rw[H0.out.cell];rfl
 have c1:w2.cell? ⟨b0,1,none⟩=some (.int .i64 0):=by rw[H0.out.cell];rfl
 have f0:=H0.out.fz 0;have f1:=H0.out.fz 1;have tp:Turn (fun i=>i=b0) w2 ((w2.setCell ⟨b0,0,none⟩ (.pointer none)).setCell ⟨b0,1,none⟩ (.int .i64 0)):=((Turn.refl (fun i=>i=b0) w2).setCell _ (fun _=>rfl)).setCell _ (fun _=>rfl);have H2:=zh ((H0.out.set 0 (.pointer none)).set 1 (.int .i64 0));have H3:=zh (H1.out.turn tp hne);have Htp:=zh tp;clear tp;have hta:=x92;iterate 4 (refine gtr (v:= ?_) rfl (by rfl) ?_ ?_;rotate_left;(intro w' hw';go_simp;with_reducible rfl);simp only[Act.put,zs0,zs1,zs2])
 refine gtc rfl (by rfl) (fun K hK=> ?_);go_simp;refine hK _ _ (Htp.out.mono (fun i hi _=> .inl hi)) ?_;clear hK K c0 c1 f0 f1;have c2:((w2.setCell ⟨b0,0,none⟩ (.pointer none)).setCell ⟨b0,1,none⟩ (.int .i64 0)).cell? ⟨b1,0,none⟩=some .nilIface:=by rw[H3.out.cell];rfl
 have f2:=H3.out.fz 0;have tq:Turn (fun i=>i=b1) ((w2.setCell ⟨b0,0,none⟩ (.pointer none)).setCell ⟨b0,1,none⟩ (.int .i64 0)) (((w2.setCell ⟨b0,0,none⟩ (.pointer none)).setCell ⟨b0,1,none⟩ (.int .i64 0)).setCell ⟨b1,0,none⟩ (.iface 96 (.int .i64 16))):=(Turn.refl (fun i=>i=b1) _).setCell _ (fun _=>rfl);have H4:=zh (H3.out.set 0 (.iface 96 (.int .i64 16)));have H5:=zh (H2.out.turn tq (fun e=>hne e.symm));have Htq:=zh tq;clear tq;refine gtc rfl (by rfl) (fun K hK=> ?_);go_simp;refine hK _ _ (Htq.out.mono (fun i hi _=> .inr hi)) ?_;clear hK K c2 f2;refine z0z ?_;have hend:=zai H5.out (zai H4.out ((HT.out.step Htp.out (fun i hi _=> .inl hi)).step Htq.out (fun i hi _=> .inr hi)));simp[bodyPostS,results,Tryz.results39];exact hend
noncomputable def z7n (P:List (List Nat)) (root entries:Int):Option (List Tr×Nat):=match ldT P root with
 | none=>none
 | some (ts,H)=>if ((esL ts).length:Int)=entries then some (ts,H) else none
def LoQ (w w':World)(entries:Int)(x:Option (List Tr×Nat))(e:Ending):Prop:=match x with
 | none=>e=.returned (.tuple #[.agg #[.pointer none,.int .i64 0],.iface 96 (.int .i64 16)])∧Below w.heap.size w w'
 | some (ts,H)=>∃p,e=.returned (.tuple #[.agg #[.pointer p,.int .i64 entries],.nilIface])∧z0y w' p ts H∧Below w.heap.size w w'
theorem q55 (a:Option Addr)(n c:Nat):Tryz.zeroCells105.setIfInBounds 0 (.slice a n c)=rdv (.slice a n c) RO0.u RO0.d:=by kernel_rfl
theorem q56 (w:World):∃W,(w.alloc (.cells #[.pointer none,.int .i64 0] TT)).alloc (.cells #[.nilIface] ERT)=W∧Blk W w.heap.size TT #[.pointer none,.int .i64 0]∧Blk W (w.heap.size+1) ERT #[.nilIface]∧Below w.heap.size w W∧W.heap.size=w.heap.size+2:=by
 refine⟨_,rfl,?_,?_,((zbr w.heap.size w).alloc (zlr _) _).alloc (by simp) _,by simp⟩
 ·have h1:Blk (w.alloc (.cells #[.pointer none,.int .i64 0] TT)) w.heap.size TT #[.pointer none,.int .i64 0]:=z0j w TT _;exact h1.ext ((zbr _ _).alloc (zlr _) _)
 ·have h1:Blk ((w.alloc (.cells #[.pointer none,.int .i64 0] TT)).alloc (.cells #[.nilIface] ERT)) (w.alloc (.cells #[.pointer none,.int .i64 0] TT)).heap.size ERT #[.nilIface]:=z0j _ ERT _;rw[show(w.alloc (.cells #[.pointer none,.int .i64 0] TT)).heap.size=w.heap.size+1 by simp] at h1;exact h1
set_option maxHeartbeats 4000000 in
set_option maxRecDepth 100000 in
theorem x93 (a:Option Addr)(n c:Nat)(P:List (List Nat))(root entries:Int)(w:World)(hn:P.length=n)(hn9:n≤1024)(hP:PgA w a P)(hwo:z0x w)(he0:0≤entries)(he9:entries≤4096):
  Calls Tryz.prog 15 #[.slice a n c,.int .i64 root,.int .i64 entries] w fun e w'=>LoQ w w' entries (z7n P root entries) e:=by
 have hmf:∀(fn:Fn) (first cap:Array Value) (w:World),(Instr.makeFunc fn first cap).run Tryz.prog w=.ok (.func fn first cap) w:=fun _ _ _ _=>rfl
 obtain⟨W,hW,hT,hE,hb,hz⟩:=q56 w;have e1:decide ((1024:Int)<(n:Int))=false:=zdf (by omega);have e2:decide (1024<n)=false:=zdf (by omega);have e3:decide (entries<0)=false:=zdf (by omega);have e4:decide ((4096:Int)<entries)=false:=zdf (by omega);have HW:=zh hW;have HT:=zh hT;have HE:=zh hE;have HB:=zh hb;have HZ:=zh hz;have HP:=zh (zai hP hwo);have HN:=zh hn;clear hW hT hE hb hz hP hwo hn
 go_enter_defers Tryz.func15,Tryz.ntmps15
 go_upto_region 4 with fail
 rw[HW.out];go_wp2_with fail;rw[q55 a n c];obtain⟨W3,hW3⟩:∃W3,W.alloc (.cells (rdv (.slice a n c) RO0.u RO0.d) RDG)=W3:=⟨_,rfl⟩
 have hb3:Below W.heap.size W W3:=by rw[←hW3];exact(zbr _ _).alloc (zlr _) _
 have hg3:Blk W3 W.heap.size RDG (rdv (.slice a n c) RO0.u RO0.d):=by rw[←hW3];exact z0j W RDG _
 have hL3:LdW W3 W.heap.size a P:=⟨W,HP.out.1.below HB.out (zlr _),HP.out.2.below HB.out,hb3,zlr _⟩
 rw[hW3];have Htr:=zh (x6u W.heap.size a n c P root W3 HN.out hn9 hL3 hg3);have HT3:=zh (HT.out.ext hb3);have HE3:=zh (HE.out.ext hb3);have HB3:=zh (HB.out.trans (hb3.mono HB.out.size));have HZ3:Hid (W.heap.size=w.heap.size+2∧w.heap.size≤W3.heap.size):=⟨HZ.out,HB3.out.size⟩
 clear hW3 hb3 hg3 hL3 HT HE HW HP;generalize rdv (.slice a n c) RO0.u RO0.d=A at*;refine Htr.out.mono ?_;intro e w4 hq
 cases hl:ldT P root with
 | none=>
  rw[hl] at hq;obtain⟨rfl,ht⟩:=hq;have hN:z7n P root entries=none:=by unfold z7n;rw[hl]
  have HN1:=zh hN;have hT4:=HT3.out.turn ht (fun e=>by have:=HZ3.out.1;omega);have hE4:=HE3.out.turn ht (fun e=>by have:=HZ3.out.1;omega);have hB4:=zh (HB3.out.trans (ht.below HB3.out.size (fun i hi=>by have:=HZ3.out.1;omega)));have HC:=zh (y94 w.heap.size (w.heap.size+1) w4 hT4 hE4);clear hl ht hN hT4 hE4;go_wp2;refine leaves_cons (f:=39) (args:= #[.pointer (some ⟨w.heap.size,0,none⟩),.pointer (some ⟨w.heap.size+1,0,none⟩)]) (by simp) (by simp[go_sem]) ?_;refine HC.out.mono ?_;rintro e u' w5 ⟨rfl,rfl,h5,h6,t5⟩;have d0:w5.cell? ⟨w.heap.size,0,none⟩=some (.pointer none):=by rw[h5.cell];rfl
  have d1:w5.cell? ⟨w.heap.size,1,none⟩=some (.int .i64 0):=by rw[h5.cell];rfl
  have d2:w5.cell? ⟨w.heap.size+1,0,none⟩=some (.iface 96 (.int .i64 16)):=by rw[h6.cell];rfl
  have Hfin:=zh (hB4.out.trans (t5.below hB4.out.size (fun i hi=>by omega)));rw[HN1.out];clear h5 h6 t5 HC;simp[Leaves,settle,results,Tryz.results15,go_sem,d0,d1,d2];exact⟨rfl,Hfin.out⟩
 | some z=>
  obtain⟨ts,H⟩:=z;rw[hl] at hq;obtain⟨p,rfl,htr,ht⟩:=hq;obtain⟨L,hL⟩:∃L,(esL ts).length=L:=⟨_,rfl⟩
  have hN:z7n P root entries=if (L:Int)=entries then some (ts,H) else none:=by unfold z7n;rw[hl];simp only;rw[hL]
  have HN1:=zh hN;have HT4:=zh (HT3.out.turn ht (fun e=>by have:=HZ3.out.1;omega));have HE4:=zh (HE3.out.turn ht (fun e=>by have:=HZ3.out.1;omega));have HB4:=zh (HB3.out.trans (ht.below HB3.out.size (fun i hi=>by have:=HZ3.out.1;omega)));have Htr4:=zh htr;rw[hL];have hal:Below w4.heap.size w4 (w4.alloc (.cells #[.pointer p,.int .i64 (L:Nat)] TT)):=(zbr _ _).alloc (zlr _) _;have hlb:=z0j w4 TT #[.pointer p,.int .i64 (L:Nat)];obtain⟨W5,hW5⟩:∃W5,w4.alloc (.cells #[.pointer p,.int .i64 (L:Nat)] TT)=W5:=⟨_,rfl⟩
  rw[hW5] at hal hlb;have Hln:=zh (y2x p (L:Nat) W5);have HA:=zh hal;have HV:=zh (show Blk W5 w4.heap.size TT #[.pointer p,.int .i64 (L:Nat)] from hlb);have HW5:=zh hW5;clear hl htr ht hN hL hal hlb hW5;go_wp2_with fail;rw[HW5.out];refine Hln.out.mono ?_;rintro e w6 ⟨rfl,hb6⟩;have HV6:=zh (HV.out.ext hb6);have hb46:=HA.out.trans (hb6.mono HA.out.size);have HT6:=zh (HT4.out.ext hb46);have HE6:=zh (HE4.out.ext hb46);have HB6:=zh (HB4.out.trans (hb46.mono HB4.out.size));have Htr6:=zh (Htr4.out.ext hb46);clear hb6 hb46
  by_cases hE:(L:Int)=entries
  ·subst hE;rw[if_pos rfl] at HN1;have v0:w6.cell? ⟨w4.heap.size,0,none⟩=some (.pointer p):=by rw[HV6.out.cell];rfl
   have v1:w6.cell? ⟨w4.heap.size,1,none⟩=some (.int .i64 (L:Nat)):=by rw[HV6.out.cell];rfl
   have c0:w6.cell? ⟨w.heap.size,0,none⟩=some (.pointer none):=by rw[HT6.out.cell];rfl
   have c1:w6.cell? ⟨w.heap.size,1,none⟩=some (.int .i64 0):=by rw[HT6.out.cell];rfl
   have c2:w6.cell? ⟨w.heap.size+1,0,none⟩=some .nilIface:=by rw[HE6.out.cell];rfl
   have f0:=HT6.out.fz 0;have f1:=HT6.out.fz 1;have f2:=HE6.out.fz 0;have tp:Turn (fun i=>i=w.heap.size) w6 ((w6.setCell ⟨w.heap.size,0,none⟩ (.pointer p)).setCell ⟨w.heap.size,1,none⟩ (.int .i64 (L:Nat))):=((Turn.refl (fun i=>i=w.heap.size) w6).setCell _ (fun _=>rfl)).setCell _ (fun _=>rfl);have tq:Turn (fun i=>i=w.heap.size+1) ((w6.setCell ⟨w.heap.size,0,none⟩ (.pointer p)).setCell ⟨w.heap.size,1,none⟩ (.int .i64 (L:Nat))) (((w6.setCell ⟨w.heap.size,0,none⟩ (.pointer p)).setCell ⟨w.heap.size,1,none⟩ (.int .i64 (L:Nat))).setCell ⟨w.heap.size+1,0,none⟩ .nilIface):=(Turn.refl (fun i=>i=w.heap.size+1) _).setCell _ (fun _=>rfl);have h7:=(HT6.out.set 0 (.pointer p)).set 1 (.int .i64 (L:Nat));have h8:=HE6.out.turn tp (fun e=>by omega);have H7:=zh (Blk.turn h7 tq (fun e=>by omega));have H8:=zh (h8.set 0 .nilIface);have HtF:=zh ((Htr6.out.turn tp (TF.var HT6.out)).turn tq (TF.var h8));have HbF:=zh ((HB6.out.trans (tp.below HB6.out.size (fun i hi=>by omega))).trans (tq.below (znt HB6.out.size tp.size) (fun i hi=>by omega)));clear tp tq h7 h8;go_wp2_with fail;refine(z4a w6).mono ?_;rintro e w7 ⟨rfl,rfl⟩;go_wp2_with fail;refine leaves_cons (f:=39) (args:= #[.pointer (some ⟨w.heap.size,0,none⟩),.pointer (some ⟨w.heap.size+1,0,none⟩)]) (by simp) (by simp[go_sem]) ?_;refine(q3v ⟨w.heap.size,0,none⟩ ⟨w.heap.size+1,0,none⟩ _).mono ?_;rintro e u' w'' ⟨rfl,rfl,rfl⟩;have d0:(((w6.setCell ⟨w.heap.size,0,none⟩ (.pointer p)).setCell ⟨w.heap.size,1,none⟩ (.int .i64 (L:Nat))).setCell ⟨w.heap.size+1,0,none⟩ .nilIface).cell? ⟨w.heap.size,0,none⟩=some (.pointer p):=by rw[H7.out.cell];rfl
   have d1:(((w6.setCell ⟨w.heap.size,0,none⟩ (.pointer p)).setCell ⟨w.heap.size,1,none⟩ (.int .i64 (L:Nat))).setCell ⟨w.heap.size+1,0,none⟩ .nilIface).cell? ⟨w.heap.size,1,none⟩=some (.int .i64 (L:Nat)):=by rw[H7.out.cell];rfl
   have d2:(((w6.setCell ⟨w.heap.size,0,none⟩ (.pointer p)).setCell ⟨w.heap.size,1,none⟩ (.int .i64 (L:Nat))).setCell ⟨w.heap.size+1,0,none⟩ .nilIface).cell? ⟨w.heap.size+1,0,none⟩=some .nilIface:=by rw[H8.out.cell];rfl
   generalize ((w6.setCell ⟨w.heap.size,0,none⟩ (.pointer p)).setCell ⟨w.heap.size,1,none⟩ (.int .i64 (L:Nat))).setCell ⟨w.heap.size+1,0,none⟩ .nilIface=w9 at*;rw[HN1.out];clear H7 H8 v0 v1 c0 c1 c2 f0 f1 f2;simp[Leaves,settle,results,Tryz.results15,go_sem,d0,d1,d2];exact⟨p,rfl,HtF.out,HbF.out⟩
  ·have e5:((L:Int)==entries)=false:=beq_eq_false_iff_ne.2 hE;rw[if_neg hE] at HN1;have HC:=zh (y94 w.heap.size (w.heap.size+1) w6 HT6.out HE6.out);clear hE;go_wp2_with fail;refine(z4b w6).mono ?_;rintro e w7 ⟨rfl,rfl⟩;go_wp2;refine leaves_cons (f:=39) (args:= #[.pointer (some ⟨w.heap.size,0,none⟩),.pointer (some ⟨w.heap.size+1,0,none⟩)]) (by simp) (by simp[go_sem]) ?_;refine HC.out.mono ?_;rintro e u' w5 ⟨rfl,rfl,h5,h6,t5⟩;have d0:w5.cell? ⟨w.heap.size,0,none⟩=some (.pointer none):=by rw[h5.cell];rfl
   have d1:w5.cell? ⟨w.heap.size,1,none⟩=some (.int .i64 0):=by rw[h5.cell];rfl
   have d2:w5.cell? ⟨w.heap.size+1,0,none⟩=some (.iface 96 (.int .i64 16)):=by rw[h6.cell];rfl
   have Hfin:=zh (HB6.out.trans (t5.below HB6.out.size (fun i hi=>by omega)));rw[HN1.out];clear h5 h6 t5 HC;simp[Leaves,settle,results,Tryz.results15,go_sem,d0,d1,d2];exact⟨rfl,Hfin.out⟩
def PVA (w:World)(v:Value)(P:List (List Nat)):Prop:=∃a c,v=.slice a P.length c∧PgA w a P
theorem PV.pva {w:World}{v:Value}{P:List (List Nat)}(h:PV w v P):PVA w v P:=by
 obtain⟨a,c,rfl,h1,_⟩:=h.arg;exact⟨a,c,rfl,h1.pgw⟩
theorem PVA.ext {w w':World}{v:Value}{P:List (List Nat)}(h:PVA w v P)(hb:Below w.heap.size w w'):PVA w' v P:=by
 obtain⟨a,c,rfl,h1⟩:=h;exact⟨a,c,rfl,h1.below hb (zlr _)⟩
theorem q57 (u:Value)(P:List (List Nat))(root entries:Int)(w:World)(hP:PVA w u P)(hl:P.length≤1024)(hwo:z0x w)(he0:0≤entries)(he9:entries≤4096):
  Calls Tryz.prog 15 #[u,.int .i64 root,.int .i64 entries] w fun e w'=>LoQ w w' entries (z7n P root entries) e:=by
 obtain⟨a,c,rfl,h1⟩:=hP;exact x93 a P.length c P root entries w rfl hl h1 hwo he0 he9
theorem z96 (u:Value)(P:List (List Nat))(root:Int)(us:List Tr)(H L:Nat)(w:World)(hP:PVA w u P)(hl:P.length≤1024)(hwo:z0x w)(hL9:L≤4096)(hd:ldT P root=some (us,H))(hL:(esL us).length=L):
  Calls Tryz.prog 15 #[u,.int .i64 root,.int .i64 (L:Nat)] w fun e w'=>∃p,e=.returned (.tuple #[.agg #[.pointer p,.int .i64 (L:Nat)],.nilIface])∧z0y w' p us H∧Below w.heap.size w w':=by
 have h:=q57 u P root (L:Nat) w hP hl hwo (by omega) (by omega);rw[show z7n P root (L:Nat)=some (us,H) by unfold z7n;rw[hd];simp only;rw[if_pos (by omega)]] at h;exact h
theorem y95 (u:Value)(P:List (List Nat))(root entries:Int)(w:World)(hP:PVA w u P)(hl:P.length≤1024)(hwo:z0x w)(he0:0≤entries)(he9:entries≤4096)(hd:z7n P root entries=none):
  Calls Tryz.prog 15 #[u,.int .i64 root,.int .i64 entries] w fun e w'=>e=.returned (.tuple #[.agg #[.pointer none,.int .i64 0],.iface 96 (.int .i64 16)])∧Below w.heap.size w w':=by
 have h:=q57 u P root entries w hP hl hwo he0 he9;rw[hd] at h;exact h
theorem y96 {ts:List Tr}{k:Nat}(hk:k≤1024)(hm:∀P,MixI P ts)(hu:uL ts=[])(hc:z0f ts≤cnt (z1m (z07 k) ts) 1024)(Z:List Nat):
  LieI (pgF (layP (List.replicate k Z) (wrL ts (takP (z07 k) ts)))) (layL ts (takP (z07 k) ts))∧(∀p∈uL (layL ts (takP (z07 k) ts)),2≤p∧p<k)∧∀x∈wrL ts (takP (z07 k) ts),2≤x.1∧x.1<k:=by
 have ht:∀p∈takP (z07 k) ts,2≤p∧p<k:=fun p hp=>by
  have h1:=z2z hp;have h2:decide ((p:Int)<(k:Int))=true:=h1.1;have:=of_decide_eq_true h2;exact⟨h1.2.1,by omega⟩
 have hf:=z8n hc;have hw:∀x∈wrL ts (takP (z07 k) ts),2≤x.1∧x.1<k:=fun x hx=>ht _ (by rw[←hf];exact List.mem_map_of_mem hx)
 have hul:∀p∈uL (layL ts (takP (z07 k) ts)),p∈takP (z07 k) ts:=fun p hp=>by
  rcases (x6h hc p).1 hp with h|h
  ·rw[hu] at h;cases h
  ·exact h
 have hnd:((wrL ts (takP (z07 k) ts)).map Prod.fst).Nodup:=by rw[hf];exact z7m
 refine⟨((hm _).laid hc (PL:=List.replicate 1024 []) List.length_replicate).congr (fun p hp=> ?_),fun p hp=>ht p (hul p hp),hw⟩;have h1:=hul p hp;rw[←hf] at h1;obtain⟨x,hx,rfl⟩:=List.mem_map.1 h1;have a:=y28 _ (List.replicate 1024 []) hnd (fun x hx=>by rw[List.length_replicate];have:=hw x hx;omega) x hx;have b:=y28 _ (List.replicate k Z) hnd (fun x hx=>by rw[List.length_replicate];exact(hw x hx).2) x hx;show(layP _ _).getD _ _=(layP _ _).getD _ _;rw[a,b]
theorem q3w {P:List (List Nat)}{root:Int}{us:List Tr}{H i:Nat}(hP:ldT P root=some (us,H))(hi:i∈uL us):(opS (P.getD i [])).2.2=0:=
 Decidable.byContradiction fun h=>by
  have:=q6i (P:=P) (Q:=P) ⟨rfl,h,fun _ _=>rfl⟩ hP hi;rw[hP] at this;cases this
theorem x6x {b:List Nat}(h0:(opS b).2.2=0)(hb:B8 b)(i y:Nat)(hi:i<512)(hy:y<256)(hne:y≠b.getD i 0):(opS (b.set i y)).2.2≠0:=by
 have hl:b.length=512:=Decidable.byContradiction fun h=>by rw[x2j h] at h0;cases h0
 have hs:numL (b.drop 508)=(more 0#32 (b.take 508)).toNat:=Decidable.byContradiction fun h=>by rw[y6a hl h] at h0;cases h0
 have e0:b.take 508++b.drop 508=b:=List.take_append_drop 508 b;obtain⟨m',t',e,hm,ht,hd⟩:=q4a (b.take 508) (b.drop 508) i y (by simp[hl]) (by rw[e0];exact hb) hy (by simp[hl];omega) (by rw[e0];exact hne) hs;rw[e0] at e;have h1:=y6a (b:=b.set i y) (by rw[List.length_set,hl]) (by
  have h2:m'.length=508:=by rw[hm];simp[hl]
  rw[e,List.drop_append_of_le_length (by omega),List.take_append_of_le_length (by omega),List.drop_of_length_le (by omega),List.take_of_length_le (by omega),List.nil_append];exact of_decide_eq_false hd)
 rw[h1];decide
theorem y70 {P:List (List Nat)}{root:Int}{us:List Tr}{H i:Nat}(hP:ldT P root=some (us,H))(hi:i∈uL us)(hl:i<P.length)(hb:B8 (P.getD i []))(k y:Nat)(hk:k<512)(hy:y<256)(hne:y≠(P.getD i []).getD k 0)(entries:Int):z7n (P.set i ((P.getD i []).set k y)) root entries=none:=by
 have h1:ldT (P.set i ((P.getD i []).set k y)) root=none:=q6i (P:=P) (i:=i) ⟨by rw[List.length_set],by
  rw[List.getD_eq_getElem?_getD,List.getElem?_set_self hl];exact x6x (q3w hP hi) hb k y hk hy hne,fun j hj=>by
  rw[List.getD_eq_getElem?_getD,List.getElem?_set_ne (Ne.symm hj),List.getD_eq_getElem?_getD]⟩ hP hi
 unfold z7n;rw[h1]
theorem LieI.setP {PL:List (List Nat)}{us:List Tr}(h:LieI (pgF PL) us){i:Nat}(hi:i∉uL us)(b:List Nat):LieI (pgF (PL.set i b)) us:=
 h.congr (fun p hp=>by
  have hne:i≠p:=fun e=>hi (by rw[e];exact hp)
  show(PL.set i b).getD p []=PL.getD p [];rw[List.getD_eq_getElem?_getD,List.getElem?_set_ne hne,List.getD_eq_getElem?_getD])
abbrev keyA:ByteArray:=⟨#[97]⟩
structure OneL (V:ByteArray) (t:Tr):Prop where
 mi:∀P,MixI P [t]
 es:esL [t]=[⟨keyA,V,[]⟩]
 nd:z0f [t]=3
 u:uL [t]=[]
theorem OneL.c9 {V:ByteArray}{t:Tr}(h:OneL V t):z0f [t]≤cnt (z1m (z07 9) [t]) 1024:=by
 have:=x9w (ts:=[t]) 9 (by omega) (by omega) h.u;rw[h.nd];exact Nat.le_trans (by omega) (Nat.le_of_eq this.symm)
theorem x94 (V:ByteArray)(hV:V.size=700)(w:World):Calls Tryz.prog 26 #[.agg #[.pointer none,.int .i64 0],.string keyA,.string V] w fun e w'=>∃p t,e=.returned (.tuple #[.agg #[.pointer p,.int .i64 1],.nilIface])∧z0y w' p [t] 1∧OneL V t∧Below w.heap.size w w':=by
 have hk:okK keyA=true:=by decide
 obtain⟨h1,h2⟩:=q5l (es:=[]) (key:=keyA) (v:=V) hk (by omega) (by simp);refine(y9n none [] 0 keyA V w (z0y.none w) (by simp[esL])).mono ?_;rintro e w' ⟨p',ts',H',rfl,h4,h5,hb⟩;rw[show esL []=[] from rfl] at h5⊢
 rcases h5 with ⟨h5,_⟩|⟨_,h6⟩
 ·exact absurd h1 h5
 ·have e1:rep [] keyA [⟨keyA,V,[]⟩]=[(⟨keyA,V,[]⟩:En)]:=by simp[rep]
  have e2:esL ts'=[⟨keyA,V,[]⟩]:=by
   rcases h6 with ⟨h7,_⟩|⟨rfl,h7,_⟩
   ·rw[h7];exact e1
   ·cases h7
  have hch:∀e∈esL ts',e.ch=[]:=by rw[e2];simp
  have hpg:∀q,(pgsL ts').count q=0:=fun q=>by
   have h9:=h6.fr.pg q;rw[show pgsL []=[] from rfl,List.count_nil] at h9;omega
  rw[h1,e2]
  rcases z13 h4 with ⟨_,rfl,_⟩|⟨b,h,t,v,_,rfl,_,hnv,hz,hz3,hne,rfl⟩
  ·simp[esL] at e2
  ·obtain⟨W,_,hn,_⟩:=hnv.nd;have hk:=q6e h hn;have e3:t.es=[⟨keyA,V,[]⟩]:=by rw[←z1r];exact e2
   have h0:h=0:=by
    have h9:=y7y h hk hz3 (fun _=>hne);rw[e3] at h9
    rcases Nat.eq_zero_or_pos h with h8|h8
    ·exact h8
    ·have:=Nat.pow_le_pow_right (n:=2) (by omega) h8;simp only[List.length_singleton] at h9;omega
   subst h0;obtain⟨pg,es,rfl,_⟩:=hk;have hp0:pg=0:=Decidable.byContradiction fun hne=>by
    have h9:=hpg pg;simp[pgsL,Tr.pgs,hne] at h9
   have e4:es=[⟨keyA,V,[]⟩]:=e3;have hcn:cNs es=2:=by
    rw[e4];simp[cNs,cN,z4e,hV,nP]
   refine⟨p',.leaf pg es,rfl,h4,⟨fun P=>MixI.new hch hpg,e2,?_,x6g hch hpg⟩,hb⟩;rw[z4y,Tr.need,if_pos hp0,hcn]
theorem OneL.lay {V:ByteArray}{t:Tr}(h:OneL V t):∃u ws,layL [t] (takP (z07 9) [t])=[u]∧wrL [t] (takP (z07 9) [t])=ws∧ws.length=3∧(∀x∈ws,2≤x.1∧x.1<9)∧LieI (pgF (layP (List.replicate 9 (List.replicate 512 0)) ws)) [u]∧(∀p∈uL [u],p<9)∧bare (esL [u])=[⟨keyA,V,[]⟩]:=by
 obtain⟨h1,h2,h3⟩:=y96 (k:=9) (by omega) h.mi h.u h.c9 (List.replicate 512 0);rw[show((9:Nat):Int)=9 from rfl] at h1 h2 h3;have e1:layL [t] (takP (z07 9) [t])=[layT t (takP (z07 9) [t])]:=by rw[layL,layL]
 have h4:=z7l [t] (takP (z07 9) [t]);rw[h.nd] at h4;have h5:=z6g [t] (takP (z07 9) [t]);rw[e1] at h1 h2 h5;refine⟨_,_,e1,rfl,h4,h3,h1,fun p hp=>(h2 p hp).2,?_⟩;rw[h5,h.es];rfl
end Go.Proofs.YtifmepiahlodhaaGreatDoor
