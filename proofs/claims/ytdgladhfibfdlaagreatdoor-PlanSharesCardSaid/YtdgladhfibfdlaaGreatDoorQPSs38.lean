/-
  Steps.
-/
import Derived.Test.YtdgladhfibfdlaaGreatDoorQPSs37
namespace Go.Proofs.YtdgladhfibfdlaaGreatDoor
open Go Go.RowKit Go.Proofs.Tryz
theorem z7z (n:Nat):(madeCells (Value.bool false).cells (n*1))=yl n (fun _=>false):=by
 apply Array.ext';show(madeCells #[Value.bool false] (n*1)).toList=_;rw[toList_madeCells_one,Nat.mul_one];unfold yl;simp[List.map_const']
theorem D3 {P:Program}{w:World}{ops:Array Oper}{rest:List Oper}{o:Oper}{a:Act}{Q:Exit→Act→World→Prop}(hg:o.guard=none)(l c:Operand)(t:TypeId)(hop:o.op=Op.makeSlice t l c)
  (h1:P.underlying t=some (.slice BLT)) (h2:(P.info? BLT).map (fun i=>(i.zero,i.size,i.bytes))=some (some (.bool false),1,1))
  (n:Nat) (hl:a.eval l=.int .i64 (n:Nat)) (hc:a.eval c=.int .i64 (n:Nat)) (b:n≤100000)
  (hK:∀w',Blk w' w.heap.size BLT (yl n (fun _=>false))→zB w w'→wpList P ops Q rest (a.put o.dst (.slice (some ⟨w.heap.size,0,none⟩) n n)) w'):
  wpList P ops Q (o::rest) a w:=by
 obtain⟨i0,hi,hz0,hz1,hz2⟩:=info_parts h2;refine wpList_make_full w hg l c t hop w.heap.size BLT i0 (.bool false) 1 h1 hi hz0 hz1 .i64 .i64 (n:Int) (n:Int) n hl hc rfl rfl (by rw[hz2];omega) (by unfold maxLen;omega) (zlr _) ?_;intro w1 hown hgrow;refine hK w1 ?_ ((zbr w.heap.size w).grown hgrow (zlr _) (by intro k hk;cases hk));have h3:=L7 hown;show w1.heap[w.heap.size]? =_;rw[h3,←z7z]
theorem x2m:(prog.info? BLT).map (fun i=>(i.zero,i.size,i.bytes))=some (some (.bool false),1,1):=by kernel_rfl
set_option maxRecDepth 100000 in
theorem y6k (P:List (List Nat))(a:Option Addr)(c:Nat)(root:Int)(n:Nat)(w:World)(o:RO)(hP:x0r w a P)(hl:P.length≤1024)(hn:n≤4096)(hR:jR P root=some o)(hon:o.l.length=n):
  Calls prog 25 #[.slice a P.length c,.int .i64 root,.int .i64 n] w fun e w'=>∃(L:Value) (ua:Option Addr) (un uc:Nat),e=.returned (.tuple #[.agg #[L,.slice ua un uc,.int .i64 o.d,.bool false],.int .i64 0])∧EV Y9 w' L o.l∧zB w w':=by
 obtain⟨N,hN⟩:∃N,P.length=N:=⟨_,rfl⟩
 have HP:=zh hP;have HN:=zh hN;have HR:=zh hR;have Hon:=zh hon;rw[hN] at hl⊢
 clear hP hN hR hon
 go_enter func25,ntmps25
 go_upto_region 4 with (refine D3 rfl _ _ _ rfl underlying56 x2m N (by rfl) (by rfl) (by omega) ?_;intro w1 hu hb1)
 have hs0:(w.alloc (.cells #[Z0,Z0,.int .i64 0,.bool false] ROT)).heap.size=w.heap.size+1:=by simp
 change Below _ _ _ at hb1;rw[hs0] at hu hb1
 obtain⟨W2,hW2⟩:∃W,w1.alloc (.cells #[Z0,.slice (some ⟨w.heap.size+1,0,none⟩) N N,.int .i64 0,.bool false] ROT)=W:=⟨_,rfl⟩
 have hb2:zB w1 W2:=by rw[←hW2];exact(zbr _ _).alloc (zlr _) _
 have h8:W2.heap[w1.heap.size]? =some (.cells #[Z0,.slice (some ⟨w.heap.size+1,0,none⟩) N N,.int .i64 0,.bool false] ROT (0,0)):=by rw[←hW2];exact Y7 _ _ _
 have l6:w.heap.size<w1.heap.size:=by have:=hb1.size;rw[hs0] at this;omega
 have h6:W2.heap[w.heap.size]? =some (.cells #[Z0,Z0,.int .i64 0,.bool false] ROT (0,0)):=(hb2.block _ l6).trans ((hb1.block _ (by omega)).trans (Y7 w ROT _));have hB1:zB w w1:=((zbr w.heap.size w).alloc (zlr _) _).trans (hb1.mono (by omega));have hB2:zB w W2:=hB1.trans (hb2.mono hB1.size);have hu2:Blk W2 (w.heap.size+1) BLT (yl N (fun _=>false)):=(hb2.block _ hu.lt).trans hu;have H6:=zh h6;have H8:=zh h8;have HB2:=zh hB2;have HU:=zh hu2;rw[hW2];have lg8:w.heap.size≠w1.heap.size:=by omega
 have lu8:w.heap.size+1≠w1.heap.size:=by have:=hu.lt;omega
 have lW:w1.heap.size<W2.heap.size:=(zag.1 h8).1;have lw:w.heap.size≤w1.heap.size:=by omega
 generalize w1.heap.size=g8 at*;clear hu hb1 hW2 hb2 h8 h6 hB1 hB2 hu2 hs0
 by_cases hr:root=0
 ·have hro:o=⟨[],fun _=>false,0⟩:=by
   have h:=HR.out;unfold jR at h;rw[if_pos hr] at h;exact(Option.some.inj h).symm
  obtain rfl:n=0:=by rw[←Hon.out,hro];rfl
  subst hr;rw[show((0:Nat):Int)=0 from rfl];have c0:W2.cell? ⟨g8,0,none⟩=some Z0:=by have h:=H8.out;simp[World.cell?,h]
  have c1:W2.cell? ⟨g8,1,none⟩=some (.slice (some ⟨w.heap.size+1,0,none⟩) N N):=by have h:=H8.out;simp[World.cell?,h]
  have c2:W2.cell? ⟨g8,2,none⟩=some (.int .i64 0):=by have h:=H8.out;simp[World.cell?,h]
  have c3:W2.cell? ⟨g8,3,none⟩=some (.bool false):=by have h:=H8.out;simp[World.cell?,h]
  have d0:W2.cell? ⟨w.heap.size,0,none⟩=some Z0:=by have h:=H6.out;simp[World.cell?,h]
  have d1:W2.cell? ⟨w.heap.size,1,none⟩=some Z0:=by have h:=H6.out;simp[World.cell?,h]
  have d2:W2.cell? ⟨w.heap.size,2,none⟩=some (.int .i64 0):=by have h:=H6.out;simp[World.cell?,h]
  have d3:W2.cell? ⟨w.heap.size,3,none⟩=some (.bool false):=by have h:=H6.out;simp[World.cell?,h]
  have f0:∀i,W2.frozen? ⟨w.heap.size,i,none⟩=false:=fun i=>by have h:=H6.out;simp[World.frozen?,h]
  have F0:=f0 0;have F1:=f0 1;have F2:=f0 2;have F3:=f0 3;clear f0;go_wp2_with fail;have Hp:=zh (U6 (x0:=Z0) (x1:=.slice (some ⟨w.heap.size+1,0,none⟩) N N) (x2:=.int .i64 0) (x3:=.bool false) H6.out);have k0:(Uv W2 w.heap.size Z0 (.slice (some ⟨w.heap.size+1,0,none⟩) N N) (.int .i64 0) (.bool false)).cell? ⟨w.heap.size,0,none⟩=some Z0:=by simp[World.cell?,Hp.out]
  have k1:(Uv W2 w.heap.size Z0 (.slice (some ⟨w.heap.size+1,0,none⟩) N N) (.int .i64 0) (.bool false)).cell? ⟨w.heap.size,1,none⟩=some (.slice (some ⟨w.heap.size+1,0,none⟩) N N):=by simp[World.cell?,Hp.out]
  have k2:(Uv W2 w.heap.size Z0 (.slice (some ⟨w.heap.size+1,0,none⟩) N N) (.int .i64 0) (.bool false)).cell? ⟨w.heap.size,2,none⟩=some (.int .i64 0):=by simp[World.cell?,Hp.out]
  have k3:(Uv W2 w.heap.size Z0 (.slice (some ⟨w.heap.size+1,0,none⟩) N N) (.int .i64 0) (.bool false)).cell? ⟨w.heap.size,3,none⟩=some (.bool false):=by simp[World.cell?,Hp.out]
  have hend:=zh (Sj (x0:=Z0) (x1:=.slice (some ⟨w.heap.size+1,0,none⟩) N N) (x2:=.int .i64 0) (x3:=.bool false) HB2.out (zlr w.heap.size));unfold Uv at k0 k1 k2 k3 hend;refine bodyPost_ret (v:=.tuple #[.agg #[Z0,.slice (some ⟨w.heap.size+1,0,none⟩) N N,.int .i64 0,.bool false],.int .i64 0]) (by rw[results_cell_tmp rfl];go_simp) rfl ⟨Z0,_,_,_,by rw[hro],?_,hend.out⟩;rw[hro];exact EV.none _
 ·have hnd:=zh (y2q P a c W2.heap.size (w.heap.size+1) w (P.length+1) ⟨[],fun _=>false,0⟩ Z0 root ⟨ByteArray.empty,ByteArray.empty,true⟩ 1 W2
   ⟨HB2.out,HP.out,by rw[HN.out];exact HU.out,World.ownsRow_nil _ _ _ _,by omega,HB2.out.size,zlr _,by
    have:=zS (fun _=>false) P.length;rw[HN.out] at this⊢
    simp only[List.length_nil];omega⟩ (by have:=zS (fun _=>false) P.length;show Vj (fun _=>false) P.length≤P.length+1;omega) (by omega) (by rw[HN.out];omega))
  have hro:Xy P (P.length+1) ⟨[],fun _=>false,0⟩ root ⟨ByteArray.empty,ByteArray.empty,true⟩ 1=some o:=by
   have h:=HR.out;unfold jR at h;rw[if_neg hr] at h;exact h
  rw[hro,HN.out] at hnd;have Hro:=zh hro;have hrn:(root !=0)=true:=by simp[hr]
  have c0:W2.cell? ⟨g8,0,none⟩=some Z0:=by have h:=H8.out;simp[World.cell?,h]
  have c1:W2.cell? ⟨g8,1,none⟩=some (.slice (some ⟨w.heap.size+1,0,none⟩) N N):=by have h:=H8.out;simp[World.cell?,h]
  have c2:W2.cell? ⟨g8,2,none⟩=some (.int .i64 0):=by have h:=H8.out;simp[World.cell?,h]
  have c3:W2.cell? ⟨g8,3,none⟩=some (.bool false):=by have h:=H8.out;simp[World.cell?,h]
  clear hro;go_wp2_with fail;refine hnd.out.mono ?_;rintro e w3 ⟨hq,hkt⟩
  rcases hq with ⟨h,_⟩|⟨o1,L1,h1,rfl,hown,hblk⟩
  ·cases h
  ·obtain rfl:o=o1:=Option.some.inj h1;have hown':=hown;obtain⟨La,Lc,hL,hLs,_⟩:=U3 (E:=Y9) (T:=RET) hown;rw[Hon.out] at hL;subst hL;have h83:w3.heap[g8]? =some (.cells #[Z0,.slice (some ⟨w.heap.size+1,0,none⟩) N N,.int .i64 0,.bool false] ROT (0,0)):=hkt.blk H8.out (by decide) (fun e=>lu8 e.symm);have h63:w3.heap[w.heap.size]? =some (.cells #[Z0,Z0,.int .i64 0,.bool false] ROT (0,0)):=hkt.blk H6.out (by decide) (by omega);have hB3:zB w w3:=HB2.out.trans (hkt.below HB2.out.size HB2.out.size (by omega));have hp4:=U6 (x0:=.slice La n Lc) (x1:=.slice (some ⟨w.heap.size+1,0,none⟩) N N) (x2:=.int .i64 o.d) (x3:=.bool false) h83;have tp4:=U7 (w:=w3) (g:=g8) (x0:=.slice La n Lc) (x1:=.slice (some ⟨w.heap.size+1,0,none⟩) N N) (x2:=.int .i64 o.d) (x3:=.bool false);have hB4:=Sj (x0:=.slice La n Lc) (x1:=.slice (some ⟨w.heap.size+1,0,none⟩) N N) (x2:=.int .i64 o.d) (x3:=.bool false) hB3 (show w.heap.size≤g8 by omega);have hown4:=Sq hown tp4 (TyF.one h83) (by decide);have h64:=tp4.hg h63 lg8;obtain⟨W4,hW4⟩:∃W,Uv w3 g8 (.slice La n Lc) (.slice (some ⟨w.heap.size+1,0,none⟩) N N) (.int .i64 o.d) (.bool false)=W:=⟨_,rfl⟩
   have a0:w3.cell? ⟨g8,0,none⟩=some Z0:=by simp[World.cell?,h83]
   have a1:w3.cell? ⟨g8,1,none⟩=some (.slice (some ⟨w.heap.size+1,0,none⟩) N N):=by simp[World.cell?,h83]
   have a2:w3.cell? ⟨g8,2,none⟩=some (.int .i64 0):=by simp[World.cell?,h83]
   have a3:w3.cell? ⟨g8,3,none⟩=some (.bool false):=by simp[World.cell?,h83]
   have f8:∀i,w3.frozen? ⟨g8,i,none⟩=false:=fun i=>by simp[World.frozen?,h83]
   have F80:=f8 0;have F81:=f8 1;have F82:=f8 2;have F83:=f8 3;rw[hW4] at hp4 hB4 hown4 h64;have HW4:=zh hW4;unfold Uv at HW4;have H4:=zh (zai hp4 (zai hB4 (zai hown4 h64)));clear hown hown' hLs h83 h63 hB3 hp4 tp4 hB4 hown4 h64 hW4 f8 hkt hblk h1 c0 c1 c2 c3;rw[HN.out];dsimp only[ov,uv]
   go_upto_region 6 with fail
   rw[HW4.out];clear a0 a1 a2 a3 F80 F81 F82 F83;have c0:W4.cell? ⟨g8,0,none⟩=some (.slice La n Lc):=by have h:=H4.out.1;simp[World.cell?,h]
   have c1:W4.cell? ⟨g8,1,none⟩=some (.slice (some ⟨w.heap.size+1,0,none⟩) N N):=by have h:=H4.out.1;simp[World.cell?,h]
   have c2:W4.cell? ⟨g8,2,none⟩=some (.int .i64 o.d):=by have h:=H4.out.1;simp[World.cell?,h]
   have c3:W4.cell? ⟨g8,3,none⟩=some (.bool false):=by have h:=H4.out.1;simp[World.cell?,h]
   have d0:W4.cell? ⟨w.heap.size,0,none⟩=some Z0:=by have h:=H4.out.2.2.2;simp[World.cell?,h]
   have d1:W4.cell? ⟨w.heap.size,1,none⟩=some Z0:=by have h:=H4.out.2.2.2;simp[World.cell?,h]
   have d2:W4.cell? ⟨w.heap.size,2,none⟩=some (.int .i64 0):=by have h:=H4.out.2.2.2;simp[World.cell?,h]
   have d3:W4.cell? ⟨w.heap.size,3,none⟩=some (.bool false):=by have h:=H4.out.2.2.2;simp[World.cell?,h]
   have f0:∀i,W4.frozen? ⟨w.heap.size,i,none⟩=false:=fun i=>by have h:=H4.out.2.2.2;simp[World.frozen?,h]
   have F0:=f0 0;have F1:=f0 1;have F2:=f0 2;have F3:=f0 3;clear f0;go_wp2_with fail;have Hp:=zh (U6 (x0:=.slice La n Lc) (x1:=.slice (some ⟨w.heap.size+1,0,none⟩) N N) (x2:=.int .i64 o.d) (x3:=.bool false) H4.out.2.2.2);have k0:(Uv W4 w.heap.size (.slice La n Lc) (.slice (some ⟨w.heap.size+1,0,none⟩) N N) (.int .i64 o.d) (.bool false)).cell? ⟨w.heap.size,0,none⟩=some (.slice La n Lc):=by simp[World.cell?,Hp.out]
   have k1:(Uv W4 w.heap.size (.slice La n Lc) (.slice (some ⟨w.heap.size+1,0,none⟩) N N) (.int .i64 o.d) (.bool false)).cell? ⟨w.heap.size,1,none⟩=some (.slice (some ⟨w.heap.size+1,0,none⟩) N N):=by simp[World.cell?,Hp.out]
   have k2:(Uv W4 w.heap.size (.slice La n Lc) (.slice (some ⟨w.heap.size+1,0,none⟩) N N) (.int .i64 o.d) (.bool false)).cell? ⟨w.heap.size,2,none⟩=some (.int .i64 o.d):=by simp[World.cell?,Hp.out]
   have k3:(Uv W4 w.heap.size (.slice La n Lc) (.slice (some ⟨w.heap.size+1,0,none⟩) N N) (.int .i64 o.d) (.bool false)).cell? ⟨w.heap.size,3,none⟩=some (.bool false):=by simp[World.cell?,Hp.out]
   have hend:=zh (Sj (x0:=.slice La n Lc) (x1:=.slice (some ⟨w.heap.size+1,0,none⟩) N N) (x2:=.int .i64 o.d) (x3:=.bool false) H4.out.2.1 (zlr w.heap.size));have hfin:=zh (U3 (E:=Y9) (T:=RET) (Sq H4.out.2.2.1 (U7 (x0:=.slice La n Lc) (x1:=.slice (some ⟨w.heap.size+1,0,none⟩) N N) (x2:=.int .i64 o.d) (x3:=.bool false)) (TyF.one H4.out.2.2.2) (by decide)));unfold Uv at k0 k1 k2 k3 hend hfin;exact bodyPost_ret (v:=.tuple #[.agg #[.slice La n Lc,.slice (some ⟨w.heap.size+1,0,none⟩) N N,.int .i64 o.d,.bool false],.int .i64 0]) (by rw[results_cell_tmp rfl];go_simp) rfl ⟨_,_,_,_,rfl,hfin.out,hend.out⟩
end Go.Proofs.YtdgladhfibfdlaaGreatDoor
namespace Go.Proofs.YtdgladhfibfdlaaGreatDoor
open Go Go.RowKit Go.Shelf Go.Proofs.Tryz
attribute [local go_sem] Oper.semAt_some
def BK (W:World)(Bv:Nat)(v:Value)(ks:List ByteArray):Prop:=Boxed W Bv CSS v∧EV V5 W v ks
def I2 (n k:Nat):List Nat:=(List.range k).map (fun j=>n-1-j)
theorem JS (n k:Nat):I2 n (k+1)=I2 n k++[n-1-k]:=by simp[I2,List.range_succ]
set_option maxRecDepth 100000 in
set_option maxHeartbeats 2000000 in
theorem y6l (F:Fence)(n:Nat)(hfn:F.fn 165)(hro:F.round=none)(hn:1≤n)(l Bv:Nat)(v:Value)(ks:List ByteArray)(hks:ks.length≤100000)(J Jx:List (_root_.Fin ks.length)→World→Prop)
  (hY:∀pre (x:_root_.Fin ks.length) W,J pre W→pre.length<ks.length→YieldAt F (n-1) prog l #[.int .i64 (x.val:Nat),.string (sa ks x.val)] W fun e W'=>
   (e=.returned (.bool true)∧J (pre++[x]) W'∧(BK W Bv v ks→BK W' Bv v ks))∨(e=.returned (.bool false)∧Jx (pre++[x]) W'))
  (W:World) (hb:BK W Bv v ks) (h0:J [] W):
  CallsIn F n prog 165 #[.func (.yield l) #[] #[],.pointer (some ⟨Bv,0,none⟩)] W fun e W'=>(∃v,e=.returned v)∧
   ((∃xs:List (_root_.Fin ks.length),xs.map _root_.Fin.val=I2 ks.length ks.length∧J xs W')∨(∃pre:List (_root_.Fin ks.length),True∧Jx pre W')):=by
 have HY:=zh hY;have Hb:=zh hb;have H0:=zh h0;obtain⟨a,c,hv,hes,_⟩:=hb.2;subst hv;have hbx:=hb.1.cell;obtain⟨N,hN⟩:∃N,ks.length=N:=⟨_,rfl⟩
 have HN:=zh hN;have hN1:N≤100000:=by omega
 have hvN:(Value.slice a ks.length c)=.slice a N c:=by rw[hN]
 rw[hvN] at hbx;have HvN:=zh hvN;clear hY hb h0 hes hvN hN hks;refine callsIn_of_wp func165 rfl hfn ?_ hro;simp only[ntmps165,List.size_toArray,List.length_cons,List.length_nil,Nat.reduceAdd,Nat.reduceSub,Array.replicate_succ,Array.replicate_zero,List.push_toArray,List.append_toArray,List.nil_append,List.cons_append]
 gi_wp2
 gi_loopw [3] (fun i wr=>∃(k:Nat) (I:Int),i=.int .i64 I∧Hid (I=(N:Int)-1-k∧k≤N)∧Hid (∃pre:List (_root_.Fin ks.length),pre.map _root_.Fin.val=I2 ks.length k∧J pre wr)∧Hid (BK wr Bv (.slice a ks.length c) ks))
  (fun i _=>(intOf i+1).toNat)
 case atStart=>exact⟨0,_,rfl,⟨by go_num,Nat.zero_le _⟩,⟨[],rfl,H0.out⟩,Hb.out⟩
 case round=>
  obtain⟨k,I,rfl,hk,hJ,hB⟩:=hrel;have c0:=hB.out.1.cell;rw[HvN.out] at c0
  by_cases hlt:0≤I
  ·obtain⟨A,rfl⟩:∃A:Nat,I=A:=⟨I.toNat,by omega⟩
   have hA:A<N:=by have:=hk.out.1;omega
   obtain⟨a',c',hv',hes,_⟩:=hB.out.2;injection hv' with hv' _ hv2
   subst hv' hv2;obtain⟨g1,o1,rfl,hcs⟩:=hes.texts (by rw[HN.out];omega);have p0:=hcs A (by rw[HN.out];exact hA);obtain⟨pre,hpre,hj⟩:=hJ.out;obtain⟨fn,tmps,assign,Q6,hy,hR⟩:=HY.out pre ⟨A,by rw[HN.out];exact hA⟩ wr hj (by
    have:=congrArg List.length hpre;rw[List.length_map] at this;rw[this,I2,List.length_map,List.length_range,HN.out];have:=hk.out.1;omega)
   dsimp only at hy;have Hpre:=zh hpre;clear hes hcs hj hpre hJ
   gi_wp2
   refine hR.mono ?_;rintro e W3 (⟨rfl,hJ3,hk3⟩|⟨rfl,hJx3⟩)
   ·have HJ3:Hid (∃pre:List (_root_.Fin ks.length),pre.map _root_.Fin.val=I2 ks.length (k+1)∧J pre W3):=⟨_,by
     rw[List.map_append,Hpre.out,JS];simp only[List.map_cons,List.map_nil]
     congr 2
     have:=hk.out.1;have:=HN.out;omega,hJ3⟩
    have HB3:=zh (hk3 hB.out);have hm:Hid ((A:Int)-1=(N:Int)-1-((k+1:Nat):Int)∧k+1≤N):=by have:=hk.out;exact⟨by omega,by omega⟩
    clear hJ3 hk3
    gi_wp2
    go_roundw
    case rel=>exact⟨k+1,_,rfl,by first|exact hm|go_num,HJ3,HB3⟩
    case measure=>simp[intOf]<;>omega
   ·have HJx:=zh hJx3;clear hJx3
    gi_wp2
    refine bodyPost_ret (results_none rfl _ _ _) rfl ?_;exact⟨⟨_,rfl⟩,.inr ⟨_,trivial,HJx.out⟩⟩
  ·have hkk:k=N:=by have:=hk.out;omega
   gi_wp2
   go_end0
   obtain⟨pre,h1,h2⟩:=hJ.out;exact⟨⟨_,rfl⟩,.inl ⟨pre,by rw[h1,hkk,HN.out],h2⟩⟩
theorem x0e (F:Fence)(n:Nat)(hfn:F.fn 129)(hro:F.round=none)(a:Option Addr)(m c:Nat)(w:World):
  CallsIn F n prog 129 #[.slice a m c] w fun e w'=>e=.returned (.func (.func 165) #[] #[.pointer (some ⟨w.heap.size,0,none⟩)])∧w'=w.alloc (.cells #[.slice a m c] CSS):=by
 refine callsIn_of_wp func129 rfl hfn ?_ hro;simp only[ntmps129,List.size_toArray,List.length_cons,List.length_nil,Nat.reduceAdd,Nat.reduceSub,Array.replicate_succ,Array.replicate_zero,List.push_toArray,List.append_toArray,List.nil_append,List.cons_append]
 gi_wp2
 go_ret;exact⟨rfl,rfl⟩
theorem z70 (F:Fence)(n:Nat)(hfn:F.fn 165)(hro:F.round=none)(hn:1≤n)(Bv:Nat)(v:Value)(ks:List ByteArray)(hks:ks.length≤100000)(w:World)(hb:BK w Bv v ks):
  SeqStopsK F n prog 165 #[.pointer (some ⟨Bv,0,none⟩)] (fun x:_root_.Fin ks.length=> #[Value.int .i64 (x.val:Nat),Value.string (sa ks x.val)]) (fun A B=>BK A Bv v ks→BK B Bv v ks)
   (fun xs=>xs.map _root_.Fin.val=I2 ks.length ks.length) (fun _=>True) ks.length w:=fun l J Jx W hW _ _ hY h0=>
 y6l F n hfn hro hn l Bv v ks hks J Jx hY W ⟨(hW.block Bv hb.1.lt).trans hb.1,hb.2.below hW (zlr _)⟩ h0
end Go.Proofs.YtdgladhfibfdlaaGreatDoor
namespace Go.Proofs.YtdgladhfibfdlaaGreatDoor
open Go Go.RowKit Go.Shelf Go.Proofs.Tryz
attribute [local go_sem] Oper.semAt_some
abbrev PLT:TypeId:=104
abbrev SIT:TypeId:=101
abbrev IT:TypeId:=3
theorem y7r {a b:List Nat}{i:Nat}(h:i<a.length):na (a++b) i=na a i:=by
 unfold na;simp[List.getD,List.getElem?_append_left h]
theorem y2r (a:List Nat)(x:Nat):na (a++[x]) a.length=x:=by
 unfold na;simp[List.getD]
def wrB (V:ByteArray)(ps pre:List Nat):List PgW:=(List.range pre.length).map (fun i=>(na ps i,V7 3 (beL (if i=0 then 0 else na ps (i-1)) 2++bn (Iq V (na pre i)))))
def D4 (ps:List Nat)(n:Nat)(pre:List Nat):List Nat:=(List.range pre.length).foldl (fun L i=>L.set (na pre i) (na ps i)) (List.replicate n 0)
theorem y6m (V:ByteArray)(ps pre:List Nat)(x:Nat):wrB V ps (pre++[x])=wrB V ps pre++[(na ps pre.length,V7 3 (beL (if pre.length=0 then 0 else na ps (pre.length-1)) 2++bn (Iq V x)))]:=by
 unfold wrB;rw[zla,List.length_singleton,List.range_succ,List.map_append,List.map_cons,List.map_nil,y2r];have e:∀i∈List.range pre.length,(na ps i,V7 3 (beL (if i=0 then 0 else na ps (i-1)) 2++bn (Iq V (na (pre++[x]) i))))=(na ps i,V7 3 (beL (if i=0 then 0 else na ps (i-1)) 2++bn (Iq V (na pre i)))):=fun i hi=>by
  rw[y7r (List.mem_range.1 hi)]
 rw[List.map_congr_left e]
theorem x0f (V:ByteArray)(ps pre:List Nat):(wrB V ps pre).length=pre.length:=by simp[wrB]
theorem JV {α β:Type}{f g:β→α→β}:∀(l:List α) (b:β),(∀b,∀a∈l,f b a=g b a)→l.foldl f b=l.foldl g b
 | [],_,_=>rfl
 | a::r,b,h=>by
  rw[List.foldl_cons,List.foldl_cons,h b a (by simp)];exact JV r _ (fun b a ha=>h b a (by simp[ha]))
theorem JW (ps:List Nat)(n:Nat)(pre:List Nat)(x:Nat):D4 ps n (pre++[x])=(D4 ps n pre).set x (na ps pre.length):=by
 unfold D4;rw[zla,List.length_singleton,List.range_succ,List.foldl_append,List.foldl_cons,List.foldl_nil,y2r]
 congr 1
 refine JV _ _ fun b a ha=> ?_
 rw[y7r (List.mem_range.1 ha)]
theorem x2n (L:List Nat)(i x j:Nat)(h:i<L.length):na (L.set i x) j=if j=i then x else na L j:=by
 unfold na;simp only[List.getD_eq_getElem?_getD,List.getElem?_set]
 by_cases h1:i=j
 ·subst h1;simp[h]
 ·rw[if_neg h1,if_neg (by omega)]
theorem z5v (ps pre:List Nat):∀(r:List Nat) (L:List Nat),(r.foldl (fun L i=>L.set (na pre i) (na ps i)) L).length=L.length
 | [],_=>rfl
 | a::r,L=>by rw[List.foldl_cons,z5v ps pre r];simp
theorem F5 (ps:List Nat)(n:Nat)(pre:List Nat):(D4 ps n pre).length=n:=by
 unfold D4;rw[z5v];simp
theorem x2o (n j:Nat):na (List.replicate n 0) j=0:=by
 unfold na;simp only[List.getD_eq_getElem?_getD,List.getElem?_replicate];split<;>rfl
theorem XV (n k:Nat):(I2 n k).length=k:=by simp[I2]
theorem x0g {n k i:Nat}(h:i<k):na (I2 n k) i=n-1-i:=by
 unfold na I2;simp[List.getD,h]
theorem x2p {a b:List Nat}(h:a.length=b.length)(hn:∀i,i<a.length→na a i=na b i):a=b:=by
 refine List.ext_getElem h fun i h1 h2=> ?_
 have:=hn i h1;unfold na at this
 simpa [List.getD,h1,h2] using this
theorem JX (ps:List Nat)(n:Nat):∀k,k≤n→∀j,j<n→na (D4 ps n (I2 n k)) j=if n-1-j<k then na ps (n-1-j) else 0
 | 0,_,j,_=>by
  rw[if_neg (by omega)];show na (List.replicate n 0) j=0;exact x2o n j
 | k+1,hk,j,hj=>by
  rw[JS,JW,x2n _ _ _ _ (by rw[F5];omega),XV,JX ps n k (by omega) j hj]
  by_cases h1:j=n-1-k
  ·rw[if_pos h1,if_pos (by omega)]
   congr 1;omega
  ·rw[if_neg h1]
   by_cases h2:n-1-j<k
   ·rw[if_pos h2,if_pos (by omega)]
   ·rw[if_neg h2,if_neg (by omega)]
theorem y2s (ps:List Nat)(n:Nat)(h:n≤ps.length):D4 ps n (I2 n n)=(ps.take n).reverse:=by
 refine x2p (by rw[F5,List.length_reverse,zlk];omega) fun i hi=> ?_
 rw[F5] at hi;rw[JX ps n n (zlr _) i hi,if_pos (by omega),y05 h hi]
theorem x0h (V:ByteArray)(ps:List Nat)(n:Nat):wrB V ps (I2 n n)=(List.range n).map (pcW V ps n):=by
 unfold wrB;rw[XV];refine List.map_congr_left fun i hi=> ?_
 rw[x0g (List.mem_range.1 hi)];rfl
def pgv (L:List Nat):List Value:=L.map (fun p=>Value.int .i64 (p:Nat))
theorem y2t:∀(L:List Nat),pgE.row L=pgv L
 | []=>rfl
 | x::r=>by rw[Elt.row,y2t r];rfl
def z5w (w:World)(g:Nat)(L:List Nat):Prop:=w.heap[g]? =some (.cells (pgv L).toArray IT (0,0))
theorem z5w.set {w:World}{g:Nat}{L:List Nat}(h:z5w w g L)(i x:Nat):z5w (w.setCell ⟨g,i,none⟩ (.int .i64 (x:Nat))) g (L.set i x):=by
 have:=heap_setCell_same w g i (pgv L).toArray IT (.int .i64 (x:Nat)) h;unfold z5w pgv at*;rw[this];simp[List.map_set]
theorem z5w.ev {w:World}{g n:Nat}{L:List Nat}(h:z5w w g L)(hn:L.length=n)(hm:n≤maxLen):EV pgE w (.slice (some ⟨g,0,none⟩) n n) L:=by
 subst hn;refine x1n (T:=IT) (m:=(0,0)) ?_ hm rfl;rw[y2t];exact h
theorem y6n (n:Nat):(madeCells (Value.int .i64 0).cells (n*1)).toList=pgv (List.replicate n 0):=by
 rw[show pgv (List.replicate n 0)=List.replicate n (Value.int .i64 0) by simp[pgv]];show(madeCells #[Value.int .i64 0] (n*1)).toList=_;rw[toList_madeCells_one,Nat.mul_one]
theorem D5 {F:Fence}{n:Nat}{P:Program}{w:World}{ops:Array Oper}{rest:List Oper}{o:Oper}{a:Act}{Q:Exit→Act→World→Prop}
  (hg:o.guard=none) (l c:Operand) (t:TypeId) (hop:o.op=Op.makeSlice t l c)
  (h1:P.underlying t=some (.slice IT)) (h2:(P.info? IT).map (fun i=>(i.zero,i.size,i.bytes))=some (some (.int .i64 0),1,8))
  (m:Nat) (hl:a.eval l=.int .i64 (m:Nat)) (hc:a.eval c=.int .i64 (m:Nat)) (b:m*8≤140737488355328)
  (hK:∀w',z5w w' w.heap.size (List.replicate m 0)→zB w w'→wpListIn F n P ops Q rest (a.put o.dst (.slice (some ⟨w.heap.size,0,none⟩) m m)) w'):
  wpListIn F n P ops Q (o::rest) a w:=by
 refine wpListIn_plain hg fun K hK'=> ?_
 obtain⟨i0,hi,hz0,hz1,hz2⟩:=info_parts h2;obtain⟨w',hrun,hown,hgrow⟩:=run_make_full (P:=P) w w.heap.size t IT i0 (.int .i64 0) 1 h1 hi hz0 hz1 .i64 .i64 m (by rw[hz2];omega) (by unfold maxLen;omega) (zlr _);have hr:z5w w' w.heap.size (List.replicate m 0):=by
  show w'.heap[w.heap.size]? =_;rw[←y6n];exact L7 hown
 unfold Oper.wpIn;refine⟨?_,?_⟩
 ·simp[Oper.about,hop]
 ·rw[Oper.semAt_plain F _ _ (by rw[hop];intro c hc';cases hc')];simp[execOp,hop,hl,hc,hrun,Result.andThen];exact hK' _ _ (hK w' hr ((zbr w.heap.size w).grown hgrow (zlr _) (by intro k hk;cases hk)))
def NCF (w:World)(F:Nat→Prop):Prop:=∀i,F i→∃o,w.heap[i]? =some o∧o.isCells=false
section
variable {w w':World} {F:Nat→Prop}
theorem NCF.not (h:NCF w F){b:Nat}{A:Array Value}{T:TypeId}{fz:Nat×Nat}(hb:w.heap[b]? =some (.cells A T fz)):¬F b:=fun hF=>by
 obtain⟨o,h1,h2⟩:=h b hF;rw[hb] at h1;injection h1 with h1
 subst h1;cases h2
theorem ES.nc {α:Type}{E:Elt α}{a:Option Addr}{l:List α}(h:ES E w a l)(t:Zx F w w')(hF:NCF w F):ES E w' a l:=by
 rcases h with h|⟨g,o,rfl,⟨A,T,fz,ht,hT⟩,hc⟩
 ·exact .inl h
 ·have hg:¬F g:=hF.not ht;refine .inr ⟨g,o,rfl,⟨A,T,fz,t.hg ht hg,hT⟩,fun j u hu=> ?_⟩;have h1:=hc j u hu;rw[t.cell (p:=⟨g,o+j,none⟩) (block_lt_of_cell h1) hg];exact h1
theorem EV.nc {α:Type}{E:Elt α}{v:Value}{l:List α}(h:EV E w v l)(t:Zx F w w')(hF:NCF w F):EV E w' v l:=by
 obtain⟨a,c,rfl,hs,h1⟩:=h;exact⟨a,c,rfl,hs.nc t hF,h1⟩
theorem Vz.nc (h:Vz w)(t:Zx F w w')(hF:NCF w F):Vz w':=fun j hj=>by
 have h1:=h j hj;have h2:¬F 2:=by
  unfold World.cell? at h1
  cases hg:w.heap[2]? with
  | none=>simp only[hg] at h1;cases h1
  | some x=>
   simp only[hg] at h1
   cases x with
   | cells A T fz=>exact hF.not hg
   | _=>cases h1
 rw[t.cell (p:=⟨2,j,none⟩) (block_lt_of_cell h1) h2];exact h1
theorem LyI.nc {gl B:Nat}{ps:List Nat}{ws:List PgW}(h:LyI w gl B ps ws)(t:Zx F w w')(hF:NCF w F):LyI w' gl B ps ws:=by
 obtain⟨vp,vw,gs,h1,h2,h3,h4⟩:=h.ex;refine⟨⟨vp,vw,gs,t.hg h1 (hF.not h1),⟨h2.1.nc t hF,h2.2⟩,⟨h3.1,?_⟩,h4.mono fun g l hr=>t.hg hr (hF.not hr)⟩,h.lt,znt h.bz t.size,h.wo.nc t hF,h.wg⟩
 rcases h3.2 with h5|⟨b,cap,cur,rfl,hb,hgb,h5⟩
 ·exact .inl h5
 ·exact .inr ⟨b,cap,cur,rfl,hb,t.hg hgb (hF.not hgb),h5⟩
theorem LF.nc {w0:World}{gl B:Nat}(h:Zx (LF w0 gl B) w0 w)(t:Zx F w w')(hB:∀i,F i→w0.heap.size≤i):Zx (LF w0 gl B) w0 w':=h.step t (fun i hi hl=>by have:=hB i hi;omega)
end
structure ChI (w0 W:World) (s0 gl B b2 g6 g7 gp:Nat) (V:ByteArray) (ps pre:List Nat) (ws:List PgW):Prop where
 ly:LyI W gl B (ps.drop pre.length) (ws++wrB V ps pre)
 bl:Boxed W b2 PLT (pt gl)
 b6:Boxed W g6 SIT (.slice (some ⟨gp,0,none⟩) (nP V.size) (nP V.size))
 b7:Boxed W g7 IT (.int .i64 ((if pre.length=0 then 0 else na ps (pre.length-1):Nat):Int))
 row:z5w W gp (D4 ps (nP V.size) pre)
 lt:Zx (LF w0 gl B) w0 W
 sz:s0≤W.heap.size
theorem ChI.from (w0:World)(s0 gl B b2 g6 g7 gp:Nat)(V:ByteArray)(ps:List Nat)(ws:List PgW)(hs:w0.heap.size≤s0){β:Type}(f:β→List Nat):OwnFrom s0 (fun pre W=>ChI w0 W s0 gl B b2 g6 g7 gp V ps (f pre) ws):=fun pre W W' row h hg hr=>by
 have t:Zx (fun i=>row=some i) W W':=⟨hg.os,hg.tape,hg.output,hg.size,fun i hi hne=>hg.block i hi (fun e=>hne e.symm)⟩
 have hF:NCF W (fun i=>row=some i):=fun i hi=>(hr i hi).2
 exact⟨h.ly.nc t hF,t.hg h.bl (hF.not h.bl),t.hg h.b6 (hF.not h.b6),t.hg h.b7 (hF.not h.b7),t.hg h.row (hF.not h.row),LF.nc h.lt t (fun i hi=>znt hs (hr i hi).1),znt h.sz t.size⟩
theorem ChI.ext {w0 W W':World}{s0 gl B b2 g6 g7 gp:Nat}{V:ByteArray}{ps pre:List Nat}{ws:List PgW}(h:ChI w0 W s0 gl B b2 g6 g7 gp V ps pre ws)(hb:zB W W'):ChI w0 W' s0 gl B b2 g6 g7 gp V ps pre ws:=
 have t:Zx (fun _=>False) W W':=x3x hb;have hF:NCF W (fun _=>False):=fun _ hi=>hi.elim
 ⟨h.ly.nc t hF,t.hg h.bl (hF.not h.bl),t.hg h.b6 (hF.not h.b6),t.hg h.b7 (hF.not h.b7),t.hg h.row (hF.not h.row),LF.nc h.lt t (fun _ hi=>hi.elim),znt h.sz t.size⟩
end Go.Proofs.YtdgladhfibfdlaaGreatDoor
