/-
  Steps.
-/
import Derived.Test.YtdgladhfibfdlaaGreatDoorQPSs10
import Derived.Lib.MinMax
namespace Go.Proofs.YtdgladhfibfdlaaGreatDoor
open Go Go.RowKit Tryz
set_option maxRecDepth 100000
theorem y4v (k:Nat)(h:k≤64):IntKind.u64.wrap (IntKind.u64.wrap ((2:Int)^k)-1)=((2^k-1:Nat):Int):=by
 by_cases h1:k<64
 ·exact z8i k h1
 ·obtain rfl:k=64:=by omega
  decide
theorem z6y (m:Int)(w:World)(h1: -1024≤m)(h2:m≤9223372036854775807):Calls prog 42 #[.int .i64 m] w fun e w'=>e=.returned (.int .u64 (2^(min m.toNat 64)-1:Nat))∧w=w':=by
 obtain⟨M,hM⟩:∃M:Nat,max m 0=(M:Int):=⟨m.toNat,by omega⟩
 have hm:min m.toNat 64=min M 64:=by omega
 rw[hm];have HM:=zh (show M≤9223372036854775807 by omega);clear hm
 go_enter func42,ntmps42
 go_wp2;go_ret;exact⟨by rw[y4v _ (Nat.min_le_right M 64)];rfl,rfl⟩
def Tw (x:Int)(m:Nat):Bool:=decide ((m:Int)<x)
def YX (M k m:Nat):Bool:=decide (m<64*k)&&decide (m<M)
theorem y0v (M:Nat):YX M 0=fun _=>false:=by
 funext m;unfold YX;rw[zdf (by omega)];rfl
theorem y4w (x:Int)(M:Nat)(h:max x 0=(M:Int)):sc (YX M 16)=sc (Tw x):=ZV (fun m hm=>by
 unfold YX Tw;rw[zdt (show m<64*16 by omega),Bool.true_and,Bool.eq_iff_iff,decide_eq_true_iff,decide_eq_true_iff];omega)
theorem y0w (M k:Nat)(hk:k<16):(sc (YX M k)).setIfInBounds k (.int .u64 (2^(min (M-64*k) 64)-1:Nat))=sc (YX M (k+1)):=by
 refine z30 _ _ k _ hk ((x00 M k).trans (qD (fun i hi=> ?_))) (fun m hm hne=> ?_)
 ·unfold YX;rw[zdt (show 64*k+i<64*(k+1) by omega)];rfl
 ·unfold YX;rw[show decide (m<64*k)=decide (m<64*(k+1)) by rw[Bool.eq_iff_iff,decide_eq_true_iff,decide_eq_true_iff];omega]
theorem Ty (x:Int)(w:World)(hx:x≤9223372036854775807):Calls prog 11 #[.int .i64 x] w fun e w'=>e=.returned (.agg (sc (Tw x)))∧zB w w':=by
 obtain⟨M,hM⟩:∃M:Nat,max x 0=(M:Int):=⟨x.toNat,by omega⟩
 have hM2:M≤9223372036854775807:=by omega
 have H:=zh (y4w x M hM);clear hx
 go_enter func11,ntmps11
 go_wp2_with (first
  | (show wpList _ _ _ (⟨some 2,_,_,_,_,_⟩::_) _ _;refine Zv rfl TS rfl Tk ?_;intro g2 w2 hg2 hk2 hb2)
  | (show wpList _ _ _ (⟨some 3,_,_,_,_,_⟩::_) _ _;refine Zv rfl TS rfl Tk ?_;intro g3 w3 hg3 hk3 hb3))
 have Hg:Hid (w.heap.size≤g2∧w.heap.size≤g3∧g2≠g3):=⟨hg2,by have:=hb2.size;omega,by have:=hk2.lt;omega⟩
 have Hb:Hid (zB w w3):=hb2.trans (hb3.mono hb2.size);have Hk:Hid (Blk w3 g3 TS (sc (fun _=>false))∧Blk w3 g2 TS (sc (fun _=>false))):=⟨hk3,hk2.ext hb3⟩
 clear hg2 hg3 hk2 hk3 hb2 hb3
 go_loopw [4,7] (fun _ i wr=>∃k:Nat,i=.int .i64 k∧k≤16∧Hid (Blk wr g3 TS (sc (YX M k))∧Blk wr g2 TS (sc (fun _=>false)))∧Hid (zB w wr)) (fun _ i _=>16-(intOf i).toNat)
 case atStart=>exact⟨0,rfl,by omega,by rw[y0v];exact Hk,Hb⟩
 case round=>
  obtain⟨k,rfl,hk,HK,HB⟩:=hrel
  by_cases hlt:k<16
  ·have hlt2:(k:Int)<16:=by omega
   have k0:(0:Int)≤(k:Int):=by omega
   have qw:IntKind.i64.wrap (k:Int)=(k:Int):=by rw[IntKind.wrap_i64];omega
   have q1:IntKind.i64.wrap ((k:Int)*64)=(k:Int)*64:=by rw[IntKind.wrap_i64];omega
   have hl:=z6y ((M:Int)-(k:Int)*64) wr (by omega) (by omega);have hs:=y0w M k hlt;rw[show((M:Int)-(k:Int)*64).toNat=M-64*k by omega] at hl;obtain⟨D,hD⟩:∃D,(M:Int)-(k:Int)*64=D:=⟨_,rfl⟩
   have q2:IntKind.i64.wrap ((M:Int)-(k:Int)*64)=D:=by rw[←hD,IntKind.wrap_i64];omega
   rw[hD] at hl;generalize 2^(min (M-64*k) 64)-1=R at*;have c0:=HK.out.1.cell k;rw[qE _ k hlt] at c0;have f0:=HK.out.1.fz k;obtain⟨F2,hF2⟩:∃F2,YX M (k+1)=F2:=⟨_,rfl⟩
   rw[hF2] at hs;generalize YX M k=F1 at*;generalize wd F1 k=v1 at*;have HT:Hid (Zx (fun i=>i=g3) wr (wr.setCell ⟨g3,k,none⟩ (.int .u64 R))):=(Zx.refl _ _).setCell _ (fun _=>rfl);have HK3:Hid (Blk (wr.setCell ⟨g3,k,none⟩ (.int .u64 R)) g3 TS (sc F2)∧Blk (wr.setCell ⟨g3,k,none⟩ (.int .u64 R)) g2 TS (sc (fun _=>false))):=⟨by rw[←hs];exact HK.out.1.set k _,HK.out.2.turn HT.out Hg.out.2.2⟩
   have HB3:Hid (zB w (wr.setCell ⟨g3,k,none⟩ (.int .u64 R))):=HB.out.setCell Hg.out.2.1 _;have HF2:=zh hF2;have HL:=zh hl;clear HK HB hs hD hl H HT hF2;go_wp2_with fail;refine HL.out.mono ?_;rintro e w' ⟨rfl,rfl⟩;go_wp2
   go_roundw
   case rel=>exact⟨k+1,by go_num,by omega,by rw[HF2.out];exact HK3,HB3⟩
   case measure=>simp[intOf];omega
  ·obtain rfl:k=16:=by omega
   have HK2:=zh HK.out;rw[H.out] at HK2;clear HK
   go_wp2_with (first|(refine Z7 rfl TS (.tmp 3) rfl g3 _ TS (by rfl) Yz HK2.out.1 ?_)|(refine Yx rfl TS (.tmp 2) (.tmp 18) rfl g2 _ _ TS (by rfl) (by rfl) Yz HK2.out.2 ?_;intro w5 hk5 ht5 _))
   refine bodyPost_ret (v:=.agg (sc (Tw x))) ?_ rfl ?_
   ·exact Vw Yz rfl _ _ g2 _ (by rfl) hk5
   ·exact⟨rfl,HB.out.trans (ht5.below HB.out.size (fun i hi=>by subst hi;exact Hg.out.1))⟩
end Go.Proofs.YtdgladhfibfdlaaGreatDoor
