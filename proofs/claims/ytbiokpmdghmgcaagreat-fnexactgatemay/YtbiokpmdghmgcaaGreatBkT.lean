import Derived.Test.YtbiokpmdghmgcaaGreatBkI
namespace Go.Proofs.YtbiokpmdghmgcaaGreat
set_option maxRecDepth 8000
set_option maxHeartbeats 40000000
open Go.RowKit Go.Deep
def cF (f:Nat→Int) (q:Nat):Bool:=match q with
 |0=>true
 |m+1=>decide (f m<0)
theorem iG (f:Nat→Int):∀ n,aC (cF f) n=aC (fun i=>decide (f i<0)) (n - 1)
 |0=>rfl
 |1=>rfl
 |n+2=>by
  have:=iG f (n+1);show (aC (cF f) (n+1)&&cF f (n+1))=aC (fun i=>decide (f i<0)) (n+1);rw[this];rfl
theorem iq (p r:Nat→Bool):∀ n,aC (fun i=>p i&&r i) n=(aC p n&&aC r n)
 |0=>rfl
 |n+1=>by
  simp only[aC,iq p r n];cases aC p n<;>cases aC r n<;>cases p n<;>cases r n<;>rfl
theorem uT (a b:Int):decide (fq a b<0)=decide (a<b):=by
 unfold fq;by_cases h:a<b
 ·rw[if_pos h];simp[h]
 ·rw[if_neg h];split<;>simp[h]
theorem xm (K:Bk) (e0 e1 e2 e3:Nat) (w:World) (hK:fG w e0 e1 e2 e3 K):
  Calls Tryz.prog 27 #[.agg #[.int .i64 K.now,.int .i64 K.tick,.int .i64 K.given,.slice (some ⟨e0,0,none⟩) K.objects.length K.objects.length,.slice (some ⟨e1,0,none⟩) K.grants.length K.grants.length,.slice (some ⟨e2,0,none⟩) K.ledgers.length K.ledgers.length,.slice (some ⟨e3,0,none⟩) K.purses.length K.purses.length]] w fun e w'=>e=.returned (.bool (eH K))∧Bel w w':=by
 have HA:=hid hK;have hl:=hK.g.len;obtain⟨R,hR⟩:∃ R,R=eH K:=⟨_,rfl⟩
 have HR:Hid (R=(decide (K.grants.length≤24)&&aC (fun i=>cF (fun j=>fq (K.grants.getD j Gr.none).number (K.grants.getD (j+1) Gr.none).number) i&&bZ K i) K.grants.length)):=by
  show R=_;rw[hR,iq,iG];unfold eH oi;cases decide (K.grants.length≤24)<;>rfl
 rw[← hR];clear hK hR;obtain⟨w1,eb⟩:∃ w1,w1=w.alloc (.cells #[.int .i64 K.now,.int .i64 K.tick,.int .i64 K.given,.slice (some ⟨e0,0,none⟩) K.objects.length K.objects.length,.slice (some ⟨e1,0,none⟩) K.grants.length K.grants.length,.slice (some ⟨e2,0,none⟩) K.ledgers.length K.ledgers.length,.slice (some ⟨e3,0,none⟩) K.purses.length K.purses.length] 47):=⟨_,rfl⟩
 have cQ:Hid (Bel w w1):=by show Below _ _ _;rw[eb];exact ab br _
 have dE:Hid (∀ W,Bel w1 W→bd W w.heap.size (.int .i64 K.now) (.int .i64 K.tick) (.int .i64 K.given) (.slice (some ⟨e0,0,none⟩) K.objects.length K.objects.length) (.slice (some ⟨e1,0,none⟩) K.grants.length K.grants.length) (.slice (some ⟨e2,0,none⟩) K.ledgers.length K.ledgers.length) (.slice (some ⟨e3,0,none⟩) K.purses.length K.purses.length)):=by
  have q:bd w1 w.heap.size (.int .i64 K.now) (.int .i64 K.tick) (.int .i64 K.given) (.slice (some ⟨e0,0,none⟩) K.objects.length K.objects.length) (.slice (some ⟨e1,0,none⟩) K.grants.length K.grants.length) (.slice (some ⟨e2,0,none⟩) K.ledgers.length K.ledgers.length) (.slice (some ⟨e3,0,none⟩) K.purses.length K.purses.length):=by rw[eb];exact bd.bp w _ _ _ _ _ _ _ _ _ rfl
  intro W hW;exact q.later hW
 go_enter Tryz.func27,Tryz.ntmps27
 go_upto_region 1 with fail
 rw[← eb];clear eb;obtain⟨yz,y0,y1,y2,y3,y4,y5,y6⟩:=dE.out w1 br;by_cases hlen:K.grants.length≤24
 ·have mm:Hid (R=aC (fun i=>cF (fun j=>fq (K.grants.getD j Gr.none).number (K.grants.getD (j+1) Gr.none).number) i&&bZ K i) K.grants.length):=by show R=_;rw[HR.out];simp[hlen]
  go_wp2;clear yz y0 y1 y2 y3 y4 y5 y6 hlen;go_loopw [3] (fun i wr=>∃ q:Nat,q≤K.grants.length∧i=.int .i64 q∧aC (fun i=>cF (fun j=>fq (K.grants.getD j Gr.none).number (K.grants.getD (j+1) Gr.none).number) i&&bZ K i) q=true∧Bel w1 wr) (fun i _=>K.grants.length - (intOf i).toNat)
  case atStart=>exact⟨0,nz,rfl,rfl,br⟩
  case round=>
   obtain⟨q,hq,rfl,ha,hW⟩:=hrel;have HQ:=hid ha;have fw:=hid (aa cQ.out hW);clear ha;by_cases av:q<K.grants.length
   ·by_cases h0:q=0
    ·subst h0;obtain⟨x,hx⟩:∃ x,x=K.grants.getD (0) Gr.none:=⟨_,rfl⟩
     have bA:=(HA.out.later fw.out).g;have gJ:=bA.lt;have dO:=bA.at_ (0) av;rw[← hx]at dO;obtain⟨b1x,_,c0,c1,c2,c3,c4,c5,c6,tj⟩:=dO;obtain⟨w4,eo⟩:∃ w4,w4=wr.alloc (.cells #[.int .i64 x.number,.string x.too,.string x.by_,.slice (some ⟨b1x,0,none⟩) x.rule.verbs.length x.rule.verbs.length,.string x.rule.kind,.string x.rule.team,.string x.rule.pre] 126):=⟨_,rfl⟩
     obtain⟨E,hE⟩:∃ E,E=wr.heap.size:=⟨_,rfl⟩
     have dD:Bel wr w4:=by rw[eo];exact ab br _
     have js:=hid (aa hW dD);have aZ:=hid (aa fw.out dD);have aS:=dE.out w4 js.out;have ao:aM w4 E #[.int .i64 x.number,.string x.too,.string x.by_,.slice (some ⟨b1x,0,none⟩) x.rule.verbs.length x.rule.verbs.length,.string x.rule.kind,.string x.rule.team,.string x.rule.pre]:=by rw[eo];exact aM.bp _ _ _ _ hE
     obtain⟨b1,bl⟩:∃ b1,b1=(within x.number 1 K.given):=⟨_,rfl⟩
     have ey:Hid (∀ W,Bel w4 W→Calls Tryz.prog 25 #[.int .i64 x.number,.int .i64 1,.int .i64 K.given] W fun e w'=>e=.returned (.bool b1)∧W=w'):=fun W bG=>by
      rw[bl];have fu:=aa aZ.out bG;exact bc _ _ _ W
     obtain⟨b2,aA⟩:∃ b2,b2=(Pl.aq x.too):=⟨_,rfl⟩
     have gh:Hid (∀ W,Bel w4 W→Calls Tryz.prog 68 #[.string x.too] W fun e w'=>e=.returned (.bool b2)∧W=w'):=fun W bG=>by
      rw[aA];have fu:=aa aZ.out bG;exact aG x.too W tj.2.1
     obtain⟨b3,aO⟩:∃ b3,b3=(Pl.aq x.by_):=⟨_,rfl⟩
     have fc:Hid (∀ W,Bel w4 W→Calls Tryz.prog 68 #[.string x.by_] W fun e w'=>e=.returned (.bool b3)∧W=w'):=fun W bG=>by
      rw[aO];have fu:=aa aZ.out bG;exact aG x.by_ W tj.2.2.1
     obtain⟨b4,cA⟩:∃ b4,b4=(eO x.rule):=⟨_,rfl⟩
     have eY:Hid (∀ W,Bel w4 W→Calls Tryz.prog 69 #[.agg #[.slice (some ⟨b1x,0,none⟩) x.rule.verbs.length x.rule.verbs.length,.string x.rule.kind,.string x.rule.team,.string x.rule.pre]] W fun e w'=>e=.returned (.bool b4)∧Bel W w'):=fun W bG=>by
      rw[cA];have fu:=aa aZ.out bG;exact sK b1x x.rule W ((tj.1.later dD).later bG) tj.2.2.2.2
     have HP:Hid ((fun i=>cF (fun j=>fq (K.grants.getD j Gr.none).number (K.grants.getD (j+1) Gr.none).number) i&&bZ K i) (0)=(b1&&true&&b2&&(x.by_.toList.isEmpty||b3)&&b4)):=by
      show (cF _ (0)&&bZ K (0))=_;unfold bZ l8;rw[← hx,← bl,← aA,← aO,← cA];show (true&&_)=_;cases b1<;>simp
     have HF:Hid ((b1&&true&&b2&&(x.by_.toList.isEmpty||b3)&&b4)=false→R=false):=fun hh=>by rw[mm.out];exact ba av (HP.out.trans hh)
     have HT:Hid ((b1&&true&&b2&&(x.by_.toList.isEmpty||b3)&&b4)=true→aC (fun i=>cF (fun j=>fq (K.grants.getD j Gr.none).number (K.grants.getD (j+1) Gr.none).number) i&&bZ K i) (0+1)=true):=fun hh=>aV HQ.out (HP.out.trans hh);clear bl aA aO cA tj hx bA;obtain⟨yz,y0,y1,y2,y3,y4,y5,y6⟩:=dE.out wr hW;go_upto_region 7 with fail
     rw[← eo,← hE];clear eo hE yz y0 y1 y2 y3 y4 y5 y6 hW c0 c1 c2 c3 c4 c5 c6;obtain⟨yz,y0,y1,y2,y3,y4,y5,y6⟩:=aS;have tE:=dR w4;have ez:=ao.lt;have ny:∀ px:Pst w4,E<px.W.heap.size:=fun px=>px.size ez;have Gt:∀ px:Pst w4,w.heap.size<px.W.heap.size:=fun px=>px.size yz;have za:∀ px:Pst w4,e1<px.W.heap.size:=fun px=>px.size (lo gJ dD.size);have Y0:∀ px:Pst w4,px.W.cell? ⟨w.heap.size,0,none⟩=some (.int .i64 K.now):=fun px=>px.cell y0 yz;have Y1:∀ px:Pst w4,px.W.cell? ⟨w.heap.size,1,none⟩=some (.int .i64 K.tick):=fun px=>px.cell y1 yz;have Y2:∀ px:Pst w4,px.W.cell? ⟨w.heap.size,2,none⟩=some (.int .i64 K.given):=fun px=>px.cell y2 yz;have Y3:∀ px:Pst w4,px.W.cell? ⟨w.heap.size,3,none⟩=some (.slice (some ⟨e0,0,none⟩) K.objects.length K.objects.length):=fun px=>px.cell y3 yz;have Y4:∀ px:Pst w4,px.W.cell? ⟨w.heap.size,4,none⟩=some (.slice (some ⟨e1,0,none⟩) K.grants.length K.grants.length):=fun px=>px.cell y4 yz;have Y5:∀ px:Pst w4,px.W.cell? ⟨w.heap.size,5,none⟩=some (.slice (some ⟨e2,0,none⟩) K.ledgers.length K.ledgers.length):=fun px=>px.cell y5 yz;have Y6:∀ px:Pst w4,px.W.cell? ⟨w.heap.size,6,none⟩=some (.slice (some ⟨e3,0,none⟩) K.purses.length K.purses.length):=fun px=>px.cell y6 yz;have X0:∀ px:Pst w4,px.W.cell? ⟨E,0,none⟩=some (.int .i64 x.number):=fun px=>px.cell (ao.at_ 0) ez;have X1:∀ px:Pst w4,px.W.cell? ⟨E,1,none⟩=some (.string x.too):=fun px=>px.cell (ao.at_ 1) ez;have X2:∀ px:Pst w4,px.W.cell? ⟨E,2,none⟩=some (.string x.by_):=fun px=>px.cell (ao.at_ 2) ez;have X3:∀ px:Pst w4,px.W.cell? ⟨E,3,none⟩=some (.slice (some ⟨b1x,0,none⟩) x.rule.verbs.length x.rule.verbs.length):=fun px=>px.cell (ao.at_ 3) ez;have X4:∀ px:Pst w4,px.W.cell? ⟨E,4,none⟩=some (.string x.rule.kind):=fun px=>px.cell (ao.at_ 4) ez;have X5:∀ px:Pst w4,px.W.cell? ⟨E,5,none⟩=some (.string x.rule.team):=fun px=>px.cell (ao.at_ 5) ez;have X6:∀ px:Pst w4,px.W.cell? ⟨E,6,none⟩=some (.string x.rule.pre):=fun px=>px.cell (ao.at_ 6) ez;clear yz y0 y1 y2 y3 y4 y5 y6 ao ez dD;cases b1
     ·go_wp2_with fail
      refine au w4 br (by kernel_rfl) (by kernel_rfl) ?_;repeat(first
       |go_big_quiet_skip
       |(go_big_quiet_want;go_big_quiet_op;first|go_big_quiet_on|(apply Exists.intro;refine⟨fun px=> ?_, ?_⟩;(focus(first|(go_at_call 25;((with_reducible refine(ey.out _ px.ok).mono ?_));rintro e w' ⟨he,hb⟩;exact⟨he,px,hb.symm⟩)|(go_at_call 68;(first|(with_reducible refine(gh.out _ px.ok).mono ?_)|(with_reducible refine(fc.out _ px.ok).mono ?_));rintro e w' ⟨he,hb⟩;exact⟨he,px,hb.symm⟩)|(go_at_call 69;((with_reducible refine(eY.out _ px.ok).mono ?_));rintro e w' ⟨he,hb⟩;exact⟨he,⟨w',aa px.ok hb⟩,rfl⟩)));go_big_quiet_on)))
      refine wpQuiet_nil ?_;intro _ dN;obtain⟨x6,aX⟩:=dN;subst aX;go_wp2;go_ret;exact⟨Pl.ae (HF.out (by simp)).symm,aa aZ.out x6.ok⟩
     ·cases b2
      ·go_wp2_with fail
       refine au w4 br (by kernel_rfl) (by kernel_rfl) ?_;repeat(first
        |go_big_quiet_skip
        |(go_big_quiet_want;go_big_quiet_op;first|go_big_quiet_on|(apply Exists.intro;refine⟨fun px=> ?_, ?_⟩;(focus(first|(go_at_call 25;((with_reducible refine(ey.out _ px.ok).mono ?_));rintro e w' ⟨he,hb⟩;exact⟨he,px,hb.symm⟩)|(go_at_call 68;(first|(with_reducible refine(gh.out _ px.ok).mono ?_)|(with_reducible refine(fc.out _ px.ok).mono ?_));rintro e w' ⟨he,hb⟩;exact⟨he,px,hb.symm⟩)|(go_at_call 69;((with_reducible refine(eY.out _ px.ok).mono ?_));rintro e w' ⟨he,hb⟩;exact⟨he,⟨w',aa px.ok hb⟩,rfl⟩)));go_big_quiet_on)))
       refine wpQuiet_nil ?_;intro _ dN;obtain⟨x6,aX⟩:=dN;subst aX;go_wp2;go_ret;exact⟨Pl.ae (HF.out (by simp)).symm,aa aZ.out x6.ok⟩
      ·cases he:x.by_.toList.isEmpty
       ·have B7:=hid he;cases b3
        ·go_wp2_with fail
         refine au w4 br (by kernel_rfl) (by kernel_rfl) ?_;repeat(first
          |go_big_quiet_skip
          |(go_big_quiet_want;go_big_quiet_op;first|go_big_quiet_on|(apply Exists.intro;refine⟨fun px=> ?_, ?_⟩;(focus(first|(go_at_call 25;((with_reducible refine(ey.out _ px.ok).mono ?_));rintro e w' ⟨he,hb⟩;exact⟨he,px,hb.symm⟩)|(go_at_call 68;(first|(with_reducible refine(gh.out _ px.ok).mono ?_)|(with_reducible refine(fc.out _ px.ok).mono ?_));rintro e w' ⟨he,hb⟩;exact⟨he,px,hb.symm⟩)|(go_at_call 69;((with_reducible refine(eY.out _ px.ok).mono ?_));rintro e w' ⟨he,hb⟩;exact⟨he,⟨w',aa px.ok hb⟩,rfl⟩)));go_big_quiet_on)))
         refine wpQuiet_nil ?_;intro _ dN;obtain⟨x6,aX⟩:=dN;subst aX;go_wp2;go_ret;exact⟨Pl.ae (HF.out (by simp[B7.out])).symm,aa aZ.out x6.ok⟩
        ·cases b4
         ·go_wp2_with fail
          refine au w4 br (by kernel_rfl) (by kernel_rfl) ?_;repeat(first
           |go_big_quiet_skip
           |(go_big_quiet_want;go_big_quiet_op;first|go_big_quiet_on|(apply Exists.intro;refine⟨fun px=> ?_, ?_⟩;(focus(first|(go_at_call 25;((with_reducible refine(ey.out _ px.ok).mono ?_));rintro e w' ⟨he,hb⟩;exact⟨he,px,hb.symm⟩)|(go_at_call 68;(first|(with_reducible refine(gh.out _ px.ok).mono ?_)|(with_reducible refine(fc.out _ px.ok).mono ?_));rintro e w' ⟨he,hb⟩;exact⟨he,px,hb.symm⟩)|(go_at_call 69;((with_reducible refine(eY.out _ px.ok).mono ?_));rintro e w' ⟨he,hb⟩;exact⟨he,⟨w',aa px.ok hb⟩,rfl⟩)));go_big_quiet_on)))
          refine wpQuiet_nil ?_;intro _ dN;obtain⟨x6,aX⟩:=dN;subst aX;go_wp2;go_ret;exact⟨Pl.ae (HF.out (by simp)).symm,aa aZ.out x6.ok⟩
         ·go_wp2_with fail
          refine au w4 br (by kernel_rfl) (by kernel_rfl) ?_;repeat(first
           |go_big_quiet_skip
           |(go_big_quiet_want;go_big_quiet_op;first|go_big_quiet_on|(apply Exists.intro;refine⟨fun px=> ?_, ?_⟩;(focus(first|(go_at_call 25;((with_reducible refine(ey.out _ px.ok).mono ?_));rintro e w' ⟨he,hb⟩;exact⟨he,px,hb.symm⟩)|(go_at_call 68;(first|(with_reducible refine(gh.out _ px.ok).mono ?_)|(with_reducible refine(fc.out _ px.ok).mono ?_));rintro e w' ⟨he,hb⟩;exact⟨he,px,hb.symm⟩)|(go_at_call 69;((with_reducible refine(eY.out _ px.ok).mono ?_));rintro e w' ⟨he,hb⟩;exact⟨he,⟨w',aa px.ok hb⟩,rfl⟩)));go_big_quiet_on)))
          refine wpQuiet_nil ?_;intro _ dN;obtain⟨x6,aX⟩:=dN;subst aX;go_wp2;go_roundw
          case rel=>exact⟨0+1,by omega,by go_num,HT.out (by simp),aa js.out x6.ok⟩
          case measure=>simp[intOf];omega
       ·have B7:=hid he;cases b4
        ·go_wp2_with fail
         refine au w4 br (by kernel_rfl) (by kernel_rfl) ?_;repeat(first
          |go_big_quiet_skip
          |(go_big_quiet_want;go_big_quiet_op;first|go_big_quiet_on|(apply Exists.intro;refine⟨fun px=> ?_, ?_⟩;(focus(first|(go_at_call 25;((with_reducible refine(ey.out _ px.ok).mono ?_));rintro e w' ⟨he,hb⟩;exact⟨he,px,hb.symm⟩)|(go_at_call 68;(first|(with_reducible refine(gh.out _ px.ok).mono ?_)|(with_reducible refine(fc.out _ px.ok).mono ?_));rintro e w' ⟨he,hb⟩;exact⟨he,px,hb.symm⟩)|(go_at_call 69;((with_reducible refine(eY.out _ px.ok).mono ?_));rintro e w' ⟨he,hb⟩;exact⟨he,⟨w',aa px.ok hb⟩,rfl⟩)));go_big_quiet_on)))
         refine wpQuiet_nil ?_;intro _ dN;obtain⟨x6,aX⟩:=dN;subst aX;go_wp2;go_ret;exact⟨Pl.ae (HF.out (by simp)).symm,aa aZ.out x6.ok⟩
        ·go_wp2_with fail
         refine au w4 br (by kernel_rfl) (by kernel_rfl) ?_;repeat(first
          |go_big_quiet_skip
          |(go_big_quiet_want;go_big_quiet_op;first|go_big_quiet_on|(apply Exists.intro;refine⟨fun px=> ?_, ?_⟩;(focus(first|(go_at_call 25;((with_reducible refine(ey.out _ px.ok).mono ?_));rintro e w' ⟨he,hb⟩;exact⟨he,px,hb.symm⟩)|(go_at_call 68;(first|(with_reducible refine(gh.out _ px.ok).mono ?_)|(with_reducible refine(fc.out _ px.ok).mono ?_));rintro e w' ⟨he,hb⟩;exact⟨he,px,hb.symm⟩)|(go_at_call 69;((with_reducible refine(eY.out _ px.ok).mono ?_));rintro e w' ⟨he,hb⟩;exact⟨he,⟨w',aa px.ok hb⟩,rfl⟩)));go_big_quiet_on)))
         refine wpQuiet_nil ?_;intro _ dN;obtain⟨x6,aX⟩:=dN;subst aX;go_wp2;go_roundw
         case rel=>exact⟨0+1,by omega,by go_num,HT.out (by simp[B7.out]),aa js.out x6.ok⟩
         case measure=>simp[intOf];omega
    ·obtain⟨m,rfl⟩:∃ m,q=m+1:=⟨q - 1,by omega⟩
     clear h0;obtain⟨x,hx⟩:∃ x,x=K.grants.getD (m+1) Gr.none:=⟨_,rfl⟩
     have bA:=(HA.out.later fw.out).g;have gJ:=bA.lt;have dO:=bA.at_ (m+1) av;rw[← hx]at dO;obtain⟨b1x,_,c0,c1,c2,c3,c4,c5,c6,tj⟩:=dO;obtain⟨y,hy⟩:∃ y,y=K.grants.getD m Gr.none:=⟨_,rfl⟩
     have dO:=bA.at_ m (by omega);rw[← hy]at dO;obtain⟨_,_,d0,_⟩:=dO;obtain⟨w4,eo⟩:∃ w4,w4=wr.alloc (.cells #[.int .i64 x.number,.string x.too,.string x.by_,.slice (some ⟨b1x,0,none⟩) x.rule.verbs.length x.rule.verbs.length,.string x.rule.kind,.string x.rule.team,.string x.rule.pre] 126):=⟨_,rfl⟩
     obtain⟨E,hE⟩:∃ E,E=wr.heap.size:=⟨_,rfl⟩
     have dD:Bel wr w4:=by rw[eo];exact ab br _
     have js:=hid (aa hW dD);have aZ:=hid (aa fw.out dD);have aS:=dE.out w4 js.out;have ao:aM w4 E #[.int .i64 x.number,.string x.too,.string x.by_,.slice (some ⟨b1x,0,none⟩) x.rule.verbs.length x.rule.verbs.length,.string x.rule.kind,.string x.rule.team,.string x.rule.pre]:=by rw[eo];exact aM.bp _ _ _ _ hE
     obtain⟨b1,bl⟩:∃ b1,b1=(within x.number 1 K.given):=⟨_,rfl⟩
     have ey:Hid (∀ W,Bel w4 W→Calls Tryz.prog 25 #[.int .i64 x.number,.int .i64 1,.int .i64 K.given] W fun e w'=>e=.returned (.bool b1)∧W=w'):=fun W bG=>by
      rw[bl];have fu:=aa aZ.out bG;exact bc _ _ _ W
     obtain⟨b2,aA⟩:∃ b2,b2=(Pl.aq x.too):=⟨_,rfl⟩
     have gh:Hid (∀ W,Bel w4 W→Calls Tryz.prog 68 #[.string x.too] W fun e w'=>e=.returned (.bool b2)∧W=w'):=fun W bG=>by
      rw[aA];have fu:=aa aZ.out bG;exact aG x.too W tj.2.1
     obtain⟨b3,aO⟩:∃ b3,b3=(Pl.aq x.by_):=⟨_,rfl⟩
     have fc:Hid (∀ W,Bel w4 W→Calls Tryz.prog 68 #[.string x.by_] W fun e w'=>e=.returned (.bool b3)∧W=w'):=fun W bG=>by
      rw[aO];have fu:=aa aZ.out bG;exact aG x.by_ W tj.2.2.1
     obtain⟨b4,cA⟩:∃ b4,b4=(eO x.rule):=⟨_,rfl⟩
     have eY:Hid (∀ W,Bel w4 W→Calls Tryz.prog 69 #[.agg #[.slice (some ⟨b1x,0,none⟩) x.rule.verbs.length x.rule.verbs.length,.string x.rule.kind,.string x.rule.team,.string x.rule.pre]] W fun e w'=>e=.returned (.bool b4)∧Bel W w'):=fun W bG=>by
      rw[cA];have fu:=aa aZ.out bG;exact sK b1x x.rule W ((tj.1.later dD).later bG) tj.2.2.2.2
     have HP:Hid ((fun i=>cF (fun j=>fq (K.grants.getD j Gr.none).number (K.grants.getD (j+1) Gr.none).number) i&&bZ K i) (m+1)=(b1&&decide (y.number<x.number)&&b2&&(x.by_.toList.isEmpty||b3)&&b4)):=by
      show (cF _ (m+1)&&bZ K (m+1))=_;unfold bZ l8;rw[← hx,← bl,← aA,← aO,← cA];show (decide (fq _ _<0)&&_)=_;rw[uT,← hx,← hy];cases b1<;>cases decide (y.number<x.number)<;>simp
     have HF:Hid ((b1&&decide (y.number<x.number)&&b2&&(x.by_.toList.isEmpty||b3)&&b4)=false→R=false):=fun hh=>by rw[mm.out];exact ba av (HP.out.trans hh)
     have HT:Hid ((b1&&decide (y.number<x.number)&&b2&&(x.by_.toList.isEmpty||b3)&&b4)=true→aC (fun i=>cF (fun j=>fq (K.grants.getD j Gr.none).number (K.grants.getD (j+1) Gr.none).number) i&&bZ K i) (m+1+1)=true):=fun hh=>aV HQ.out (HP.out.trans hh);clear bl aA aO cA tj hx bA hy;obtain⟨yz,y0,y1,y2,y3,y4,y5,y6⟩:=dE.out wr hW;go_upto_region 7 with fail
     rw[← eo,← hE];clear eo hE yz y0 y1 y2 y3 y4 y5 y6 hW c0 c1 c2 c3 c4 c5 c6;obtain⟨yz,y0,y1,y2,y3,y4,y5,y6⟩:=aS;have tE:=dR w4;have ez:=ao.lt;have ny:∀ px:Pst w4,E<px.W.heap.size:=fun px=>px.size ez;have Gt:∀ px:Pst w4,w.heap.size<px.W.heap.size:=fun px=>px.size yz;have za:∀ px:Pst w4,e1<px.W.heap.size:=fun px=>px.size (lo gJ dD.size);have Y0:∀ px:Pst w4,px.W.cell? ⟨w.heap.size,0,none⟩=some (.int .i64 K.now):=fun px=>px.cell y0 yz;have Y1:∀ px:Pst w4,px.W.cell? ⟨w.heap.size,1,none⟩=some (.int .i64 K.tick):=fun px=>px.cell y1 yz;have Y2:∀ px:Pst w4,px.W.cell? ⟨w.heap.size,2,none⟩=some (.int .i64 K.given):=fun px=>px.cell y2 yz;have Y3:∀ px:Pst w4,px.W.cell? ⟨w.heap.size,3,none⟩=some (.slice (some ⟨e0,0,none⟩) K.objects.length K.objects.length):=fun px=>px.cell y3 yz;have Y4:∀ px:Pst w4,px.W.cell? ⟨w.heap.size,4,none⟩=some (.slice (some ⟨e1,0,none⟩) K.grants.length K.grants.length):=fun px=>px.cell y4 yz;have Y5:∀ px:Pst w4,px.W.cell? ⟨w.heap.size,5,none⟩=some (.slice (some ⟨e2,0,none⟩) K.ledgers.length K.ledgers.length):=fun px=>px.cell y5 yz;have Y6:∀ px:Pst w4,px.W.cell? ⟨w.heap.size,6,none⟩=some (.slice (some ⟨e3,0,none⟩) K.purses.length K.purses.length):=fun px=>px.cell y6 yz;have X0:∀ px:Pst w4,px.W.cell? ⟨E,0,none⟩=some (.int .i64 x.number):=fun px=>px.cell (ao.at_ 0) ez;have X1:∀ px:Pst w4,px.W.cell? ⟨E,1,none⟩=some (.string x.too):=fun px=>px.cell (ao.at_ 1) ez;have X2:∀ px:Pst w4,px.W.cell? ⟨E,2,none⟩=some (.string x.by_):=fun px=>px.cell (ao.at_ 2) ez;have X3:∀ px:Pst w4,px.W.cell? ⟨E,3,none⟩=some (.slice (some ⟨b1x,0,none⟩) x.rule.verbs.length x.rule.verbs.length):=fun px=>px.cell (ao.at_ 3) ez;have X4:∀ px:Pst w4,px.W.cell? ⟨E,4,none⟩=some (.string x.rule.kind):=fun px=>px.cell (ao.at_ 4) ez;have X5:∀ px:Pst w4,px.W.cell? ⟨E,5,none⟩=some (.string x.rule.team):=fun px=>px.cell (ao.at_ 5) ez;have X6:∀ px:Pst w4,px.W.cell? ⟨E,6,none⟩=some (.string x.rule.pre):=fun px=>px.cell (ao.at_ 6) ez;have D0:∀ px:Pst w4,px.W.cell? ⟨e1,m*7,none⟩=some (.int .i64 y.number):=fun px=>px.cell ((dD.cell (p:=⟨e1,m*7,none⟩) gJ).trans d0) (lo gJ dD.size);have BJ:(0:Int)≤(m:Int):=by omega
     have gB:(m:Int)<(K.grants.length:Int):=by omega
     have Kc:IntKind.i64.wrap (m:Int)=(m:Int):=j4 _ (by omega) (by omega);have hH:(0:Int)<(m:Int)+1:=by omega
     clear d0;clear yz y0 y1 y2 y3 y4 y5 y6 ao ez dD;cases b1
     ·go_wp2_with fail
      refine au w4 br (by kernel_rfl) (by kernel_rfl) ?_;repeat(first
       |go_big_quiet_skip
       |(go_big_quiet_want;go_big_quiet_op;first|go_big_quiet_on|(apply Exists.intro;refine⟨fun px=> ?_, ?_⟩;(focus(first|(go_at_call 25;((with_reducible refine(ey.out _ px.ok).mono ?_));rintro e w' ⟨he,hb⟩;exact⟨he,px,hb.symm⟩)|(go_at_call 68;(first|(with_reducible refine(gh.out _ px.ok).mono ?_)|(with_reducible refine(fc.out _ px.ok).mono ?_));rintro e w' ⟨he,hb⟩;exact⟨he,px,hb.symm⟩)|(go_at_call 69;((with_reducible refine(eY.out _ px.ok).mono ?_));rintro e w' ⟨he,hb⟩;exact⟨he,⟨w',aa px.ok hb⟩,rfl⟩)));go_big_quiet_on)))
      refine wpQuiet_nil ?_;intro _ dN;obtain⟨x6,aX⟩:=dN;subst aX;go_wp2;go_ret;exact⟨Pl.ae (HF.out (by simp)).symm,aa aZ.out x6.ok⟩
     ·by_cases hs:y.number<x.number
      ·have HS:=hid (decide_eq_true hs);have hs3:¬ x.number≤y.number:=by omega
       have hs4:decide (x.number≤y.number)=false:=decide_eq_false hs3;cases b2
       ·go_wp2_with fail
        refine au w4 br (by kernel_rfl) (by kernel_rfl) ?_;repeat(first
         |go_big_quiet_skip
         |(go_big_quiet_want;go_big_quiet_op;first|go_big_quiet_on|(apply Exists.intro;refine⟨fun px=> ?_, ?_⟩;(focus(first|(go_at_call 25;((with_reducible refine(ey.out _ px.ok).mono ?_));rintro e w' ⟨he,hb⟩;exact⟨he,px,hb.symm⟩)|(go_at_call 68;(first|(with_reducible refine(gh.out _ px.ok).mono ?_)|(with_reducible refine(fc.out _ px.ok).mono ?_));rintro e w' ⟨he,hb⟩;exact⟨he,px,hb.symm⟩)|(go_at_call 69;((with_reducible refine(eY.out _ px.ok).mono ?_));rintro e w' ⟨he,hb⟩;exact⟨he,⟨w',aa px.ok hb⟩,rfl⟩)));go_big_quiet_on)))
        refine wpQuiet_nil ?_;intro _ dN;obtain⟨x6,aX⟩:=dN;subst aX;go_wp2;go_ret;exact⟨Pl.ae (HF.out (by simp)).symm,aa aZ.out x6.ok⟩
       ·cases he:x.by_.toList.isEmpty
        ·have B7:=hid he;cases b3
         ·go_wp2_with fail
          refine au w4 br (by kernel_rfl) (by kernel_rfl) ?_;repeat(first
           |go_big_quiet_skip
           |(go_big_quiet_want;go_big_quiet_op;first|go_big_quiet_on|(apply Exists.intro;refine⟨fun px=> ?_, ?_⟩;(focus(first|(go_at_call 25;((with_reducible refine(ey.out _ px.ok).mono ?_));rintro e w' ⟨he,hb⟩;exact⟨he,px,hb.symm⟩)|(go_at_call 68;(first|(with_reducible refine(gh.out _ px.ok).mono ?_)|(with_reducible refine(fc.out _ px.ok).mono ?_));rintro e w' ⟨he,hb⟩;exact⟨he,px,hb.symm⟩)|(go_at_call 69;((with_reducible refine(eY.out _ px.ok).mono ?_));rintro e w' ⟨he,hb⟩;exact⟨he,⟨w',aa px.ok hb⟩,rfl⟩)));go_big_quiet_on)))
          refine wpQuiet_nil ?_;intro _ dN;obtain⟨x6,aX⟩:=dN;subst aX;go_wp2;go_ret;exact⟨Pl.ae (HF.out (by simp[B7.out])).symm,aa aZ.out x6.ok⟩
         ·cases b4
          ·go_wp2_with fail
           refine au w4 br (by kernel_rfl) (by kernel_rfl) ?_;repeat(first
            |go_big_quiet_skip
            |(go_big_quiet_want;go_big_quiet_op;first|go_big_quiet_on|(apply Exists.intro;refine⟨fun px=> ?_, ?_⟩;(focus(first|(go_at_call 25;((with_reducible refine(ey.out _ px.ok).mono ?_));rintro e w' ⟨he,hb⟩;exact⟨he,px,hb.symm⟩)|(go_at_call 68;(first|(with_reducible refine(gh.out _ px.ok).mono ?_)|(with_reducible refine(fc.out _ px.ok).mono ?_));rintro e w' ⟨he,hb⟩;exact⟨he,px,hb.symm⟩)|(go_at_call 69;((with_reducible refine(eY.out _ px.ok).mono ?_));rintro e w' ⟨he,hb⟩;exact⟨he,⟨w',aa px.ok hb⟩,rfl⟩)));go_big_quiet_on)))
           refine wpQuiet_nil ?_;intro _ dN;obtain⟨x6,aX⟩:=dN;subst aX;go_wp2;go_ret;exact⟨Pl.ae (HF.out (by simp)).symm,aa aZ.out x6.ok⟩
          ·go_wp2_with fail
           refine au w4 br (by kernel_rfl) (by kernel_rfl) ?_;repeat(first
            |go_big_quiet_skip
            |(go_big_quiet_want;go_big_quiet_op;first|go_big_quiet_on|(apply Exists.intro;refine⟨fun px=> ?_, ?_⟩;(focus(first|(go_at_call 25;((with_reducible refine(ey.out _ px.ok).mono ?_));rintro e w' ⟨he,hb⟩;exact⟨he,px,hb.symm⟩)|(go_at_call 68;(first|(with_reducible refine(gh.out _ px.ok).mono ?_)|(with_reducible refine(fc.out _ px.ok).mono ?_));rintro e w' ⟨he,hb⟩;exact⟨he,px,hb.symm⟩)|(go_at_call 69;((with_reducible refine(eY.out _ px.ok).mono ?_));rintro e w' ⟨he,hb⟩;exact⟨he,⟨w',aa px.ok hb⟩,rfl⟩)));go_big_quiet_on)))
           refine wpQuiet_nil ?_;intro _ dN;obtain⟨x6,aX⟩:=dN;subst aX;go_wp2;go_roundw
           case rel=>exact⟨m+1+1,by omega,by go_num,HT.out (by simp[HS.out]),aa js.out x6.ok⟩
           case measure=>simp[intOf];omega
        ·have B7:=hid he;cases b4
         ·go_wp2_with fail
          refine au w4 br (by kernel_rfl) (by kernel_rfl) ?_;repeat(first
           |go_big_quiet_skip
           |(go_big_quiet_want;go_big_quiet_op;first|go_big_quiet_on|(apply Exists.intro;refine⟨fun px=> ?_, ?_⟩;(focus(first|(go_at_call 25;((with_reducible refine(ey.out _ px.ok).mono ?_));rintro e w' ⟨he,hb⟩;exact⟨he,px,hb.symm⟩)|(go_at_call 68;(first|(with_reducible refine(gh.out _ px.ok).mono ?_)|(with_reducible refine(fc.out _ px.ok).mono ?_));rintro e w' ⟨he,hb⟩;exact⟨he,px,hb.symm⟩)|(go_at_call 69;((with_reducible refine(eY.out _ px.ok).mono ?_));rintro e w' ⟨he,hb⟩;exact⟨he,⟨w',aa px.ok hb⟩,rfl⟩)));go_big_quiet_on)))
          refine wpQuiet_nil ?_;intro _ dN;obtain⟨x6,aX⟩:=dN;subst aX;go_wp2;go_ret;exact⟨Pl.ae (HF.out (by simp)).symm,aa aZ.out x6.ok⟩
         ·go_wp2_with fail
          refine au w4 br (by kernel_rfl) (by kernel_rfl) ?_;repeat(first
           |go_big_quiet_skip
           |(go_big_quiet_want;go_big_quiet_op;first|go_big_quiet_on|(apply Exists.intro;refine⟨fun px=> ?_, ?_⟩;(focus(first|(go_at_call 25;((with_reducible refine(ey.out _ px.ok).mono ?_));rintro e w' ⟨he,hb⟩;exact⟨he,px,hb.symm⟩)|(go_at_call 68;(first|(with_reducible refine(gh.out _ px.ok).mono ?_)|(with_reducible refine(fc.out _ px.ok).mono ?_));rintro e w' ⟨he,hb⟩;exact⟨he,px,hb.symm⟩)|(go_at_call 69;((with_reducible refine(eY.out _ px.ok).mono ?_));rintro e w' ⟨he,hb⟩;exact⟨he,⟨w',aa px.ok hb⟩,rfl⟩)));go_big_quiet_on)))
          refine wpQuiet_nil ?_;intro _ dN;obtain⟨x6,aX⟩:=dN;subst aX;go_wp2;go_roundw
          case rel=>exact⟨m+1+1,by omega,by go_num,HT.out (by simp[B7.out,HS.out]),aa js.out x6.ok⟩
          case measure=>simp[intOf];omega
      ·have HS:=hid (decide_eq_false hs);have Nj:x.number≤y.number:=by omega
       go_wp2_with fail
       refine au w4 br (by kernel_rfl) (by kernel_rfl) ?_;repeat(first
        |go_big_quiet_skip
        |(go_big_quiet_want;go_big_quiet_op;first|go_big_quiet_on|(apply Exists.intro;refine⟨fun px=> ?_, ?_⟩;(focus(first|(go_at_call 25;((with_reducible refine(ey.out _ px.ok).mono ?_));rintro e w' ⟨he,hb⟩;exact⟨he,px,hb.symm⟩)|(go_at_call 68;(first|(with_reducible refine(gh.out _ px.ok).mono ?_)|(with_reducible refine(fc.out _ px.ok).mono ?_));rintro e w' ⟨he,hb⟩;exact⟨he,px,hb.symm⟩)|(go_at_call 69;((with_reducible refine(eY.out _ px.ok).mono ?_));rintro e w' ⟨he,hb⟩;exact⟨he,⟨w',aa px.ok hb⟩,rfl⟩)));go_big_quiet_on)))
       refine wpQuiet_nil ?_;intro _ dN;obtain⟨x6,aX⟩:=dN;subst aX;go_wp2;go_ret;exact⟨Pl.ae (HF.out (by simp[HS.out])).symm,aa aZ.out x6.ok⟩
   ·obtain rfl:q=K.grants.length:=by omega
    obtain⟨yz,y0,y1,y2,y3,y4,y5,y6⟩:=dE.out wr hW;go_wp2;go_ret;exact⟨Pl.ae (by rw[mm.out,HQ.out]),fw.out⟩
 ·have HE:Hid (R=false):=by show _=_;rw[HR.out];simp[hlen]
  go_wp2;go_ret;exact⟨Pl.ae HE.out.symm,cQ.out⟩
set_option maxRecDepth 8000
set_option maxHeartbeats 40000000
open Go.RowKit Go.Deep
theorem hZ (i n:Nat):decide (ej i n<0)= !decide (i<n):=by
 unfold ej;by_cases h:i<n
 ·rw[if_pos h];simp[h]
 ·rw[if_neg h];simp[h]
def kK (L:Lw) (x:Lg):Bool:=bB L.teams x.team&&Pl.aq x.res&&decide (0≤x.free)&&decide (x.free≤x.most)&&decide (x.most≤1000000)
theorem mX (L:Lw) (x:Lg):lQ L x=kK L x:=by
 unfold lQ kK within;rw[Bool.eq_iff_iff];simp only[Bool.and_eq_true,decide_eq_true_eq];constructor
 ·rintro⟨⟨⟨h1,h2⟩,h3,h4⟩,h5,h6⟩;exact⟨⟨⟨⟨h1,h2⟩,h5⟩,h6⟩,h4⟩
 ·rintro⟨⟨⟨⟨h1,h2⟩,h5⟩,h6⟩,h4⟩;exact⟨⟨⟨h1,h2⟩,by omega,h4⟩,h5,h6⟩
def gO (K:Bk) (i:Nat):Bool:=cF (fun j=>pY (K.purses.getD j Ps.none) (K.purses.getD (j+1) Ps.none)) i&&cL K i
def fi (L:Lw) (K:Bk) (i:Nat):Bool:=cF (fun j=>qe (K.ledgers.getD j Lg.none) (K.ledgers.getD (j+1) Lg.none)) i&&(cN L K i&&fD L K i)
theorem Cu (L:Lw) (K:Bk):(dM L K&&eG K&&iC L K)=(decide (K.ledgers.length≤10)&&decide (K.purses.length≤24)&&aC (gO K) K.purses.length&&aC (fi L K) K.ledgers.length):=by
 have e1:aC (gO K) K.purses.length=(m8 K.purses&&aC (cL K) K.purses.length):=by
  unfold gO;rw[iq,iG];rfl
 have e2:aC (fi L K) K.ledgers.length=(gA K.ledgers&&(aC (cN L K) K.ledgers.length&&aC (fD L K) K.ledgers.length)):=by
  unfold fi;rw[iq,iG,iq];rfl
 rw[e1,e2];unfold dM eG iC;cases decide (K.ledgers.length≤10)<;>cases decide (K.purses.length≤24)<;>cases m8 K.purses<;>cases gA K.ledgers<;>cases aC (cL K) K.purses.length<;>cases aC (cN L K) K.ledgers.length<;>rfl
theorem Dw (L:Lw) (K:Bk) (a0 a1 a2 e0 e1 e2 e3:Nat) (w:World) (hL:fT w a0 a1 a2 L) (hK:fG w e0 e1 e2 e3 K) (ht0:0≤K.tick) (yI:K.tick≤1000000):
  Calls Tryz.prog 28 #[.agg #[.slice (some ⟨a0,0,none⟩) L.shapes.length L.shapes.length,.slice (some ⟨a1,0,none⟩) L.mends.length L.mends.length,.slice (some ⟨a2,0,none⟩) L.teams.length L.teams.length],.agg #[.int .i64 K.now,.int .i64 K.tick,.int .i64 K.given,.slice (some ⟨e0,0,none⟩) K.objects.length K.objects.length,.slice (some ⟨e1,0,none⟩) K.grants.length K.grants.length,.slice (some ⟨e2,0,none⟩) K.ledgers.length K.ledgers.length,.slice (some ⟨e3,0,none⟩) K.purses.length K.purses.length]] w fun e w'=>e=.returned (.bool (dM L K&&eG K&&iC L K))∧Bel w w':=by
 have HA:=hid (And.intro hL hK);have hl:=hK.p.len;have ET:=hK.l.len;rw[Cu];obtain⟨R,hR⟩:∃ R,R=(decide (K.ledgers.length≤10)&&decide (K.purses.length≤24)&&aC (gO K) K.purses.length&&aC (fi L K) K.ledgers.length):=⟨_,rfl⟩
 have HR:=hid hR;rw[← hR];clear hK hL hR;obtain⟨w1,eb⟩:∃ w1,w1=(w.alloc (.cells #[.slice (some ⟨a0,0,none⟩) L.shapes.length L.shapes.length,.slice (some ⟨a1,0,none⟩) L.mends.length L.mends.length,.slice (some ⟨a2,0,none⟩) L.teams.length L.teams.length] 40)).alloc (.cells #[.int .i64 K.now,.int .i64 K.tick,.int .i64 K.given,.slice (some ⟨e0,0,none⟩) K.objects.length K.objects.length,.slice (some ⟨e1,0,none⟩) K.grants.length K.grants.length,.slice (some ⟨e2,0,none⟩) K.ledgers.length K.ledgers.length,.slice (some ⟨e3,0,none⟩) K.purses.length K.purses.length] 47):=⟨_,rfl⟩
 have cQ:Hid (Bel w w1):=by show Below _ _ _;rw[eb];exact ab (ab br _) _
 have dE:Hid (∀ W,Bel w1 W→bd W (w.heap.size+1) (.int .i64 K.now) (.int .i64 K.tick) (.int .i64 K.given) (.slice (some ⟨e0,0,none⟩) K.objects.length K.objects.length) (.slice (some ⟨e1,0,none⟩) K.grants.length K.grants.length) (.slice (some ⟨e2,0,none⟩) K.ledgers.length K.ledgers.length) (.slice (some ⟨e3,0,none⟩) K.purses.length K.purses.length)∧bC W w.heap.size (.slice (some ⟨a0,0,none⟩) L.shapes.length L.shapes.length) (.slice (some ⟨a1,0,none⟩) L.mends.length L.mends.length) (.slice (some ⟨a2,0,none⟩) L.teams.length L.teams.length)):=by
  have q:bd w1 (w.heap.size+1) (.int .i64 K.now) (.int .i64 K.tick) (.int .i64 K.given) (.slice (some ⟨e0,0,none⟩) K.objects.length K.objects.length) (.slice (some ⟨e1,0,none⟩) K.grants.length K.grants.length) (.slice (some ⟨e2,0,none⟩) K.ledgers.length K.ledgers.length) (.slice (some ⟨e3,0,none⟩) K.purses.length K.purses.length)∧bC w1 w.heap.size (.slice (some ⟨a0,0,none⟩) L.shapes.length L.shapes.length) (.slice (some ⟨a1,0,none⟩) L.mends.length L.mends.length) (.slice (some ⟨a2,0,none⟩) L.teams.length L.teams.length):=by rw[eb];exact⟨bd.bp _ _ _ _ _ _ _ _ _ _ (by simp),(bC.bp w _ _ _ _ _ rfl).cy _⟩
  intro W hW;exact⟨q.1.later hW,q.2.later hW⟩
 go_enter Tryz.func28,Tryz.ntmps28
 go_upto_region 1 with fail
 rw[← eb];clear eb;obtain⟨aS,_⟩:=dE.out w1 br;obtain⟨yz,y0,y1,y2,y3,y4,y5,y6⟩:=aS;by_cases EA:K.ledgers.length≤10
 ·by_cases Ih:K.purses.length≤24
  ·have mm:Hid (R=(aC (gO K) K.purses.length&&aC (fi L K) K.ledgers.length)):=by show R=_;rw[HR.out];simp[EA,Ih]
   have hF:Hid (Bel w1 w1):=br;go_wp2;clear yz y0 y1 y2 y3 y4 y5 y6 EA Ih;go_loopw [5] (fun i wr=>∃ q:Nat,q≤K.purses.length∧i=.int .i64 q∧aC (gO K) q=true∧Bel w1 wr) (fun i _=>K.purses.length - (intOf i).toNat)
   case atStart=>exact⟨0,nz,rfl,rfl,hF.out⟩
   case round=>
    obtain⟨q,hq,rfl,ha,hW⟩:=hrel;have HQ:=hid ha;have fw:=hid (aa cQ.out hW);clear ha;by_cases av:q<K.purses.length
    ·by_cases h0:q=0
     ·subst h0;obtain⟨x,hx⟩:∃ x,x=K.purses.getD (0) Ps.none:=⟨_,rfl⟩
      have bA:=(HA.out.2.later fw.out).p;have gJ:=bA.lt;have dO:=bA.at_ (0) av;rw[← hx]at dO;obtain⟨c0,c1,c2,c3,c4,eU⟩:=dO;obtain⟨w4,eo⟩:∃ w4,w4=wr.alloc (.cells #[.string x.door,.string x.team,.string x.res,.int .i64 x.amount,.int .i64 x.til] 129):=⟨_,rfl⟩
      obtain⟨E,hE⟩:∃ E,E=wr.heap.size:=⟨_,rfl⟩
      have dD:Bel wr w4:=by rw[eo];exact ab br _
      have js:=hid (aa hW dD);have aZ:=hid (aa fw.out dD);have aS:=dE.out w4 js.out;have ao:aM w4 E #[.string x.door,.string x.team,.string x.res,.int .i64 x.amount,.int .i64 x.til]:=by rw[eo];exact aM.bp _ _ _ _ hE
      obtain⟨b1,bl⟩:∃ b1,b1=(Pl.aq x.door):=⟨_,rfl⟩
      have ey:Hid (∀ W,Bel w4 W→Calls Tryz.prog 68 #[.string x.door] W fun e w'=>e=.returned (.bool b1)∧W=w'):=fun W bG=>by
       rw[bl];have fu:=aa aZ.out bG;exact aG x.door W eU.1
      obtain⟨pl,eI⟩:∃ pl,pl=(ej (ir K.ledgers x.team x.res) K.ledgers.length):=⟨_,rfl⟩
      have nu:Hid (∀ W,Bel w4 W→Calls Tryz.prog 70 #[.agg #[.int .i64 K.now,.int .i64 K.tick,.int .i64 K.given,.slice (some ⟨e0,0,none⟩) K.objects.length K.objects.length,.slice (some ⟨e1,0,none⟩) K.grants.length K.grants.length,.slice (some ⟨e2,0,none⟩) K.ledgers.length K.ledgers.length,.slice (some ⟨e3,0,none⟩) K.purses.length K.purses.length],.string x.team,.string x.res] W fun e w'=>e=.returned (.int .i64 pl)∧Bel W w'):=fun W bG=>by
       rw[eI];have fu:=aa aZ.out bG;exact Es K e0 e1 e2 e3 x.team x.res W (HA.out.2.later fu)
      obtain⟨b3,aO⟩:∃ b3,b3=(within x.amount 1 1000000):=⟨_,rfl⟩
      have fc:Hid (∀ W,Bel w4 W→Calls Tryz.prog 25 #[.int .i64 x.amount,.int .i64 1,.int .i64 1000000] W fun e w'=>e=.returned (.bool b3)∧W=w'):=fun W bG=>by
       rw[aO];have fu:=aa aZ.out bG;exact bc _ _ _ W
      obtain⟨b4,cA⟩:∃ b4,b4=(within x.til K.tick (K.tick+10)):=⟨_,rfl⟩
      have eY:Hid (∀ W,Bel w4 W→Calls Tryz.prog 25 #[.int .i64 x.til,.int .i64 K.tick,.int .i64 (K.tick+10)] W fun e w'=>e=.returned (.bool b4)∧W=w'):=fun W bG=>by
       rw[cA];have fu:=aa aZ.out bG;exact bc _ _ _ W
      have HP:Hid (gO K (0)=(true&&(!decide (pl<0)&&b1&&b3&&b4))):=by
       show (cF _ (0)&&cL K (0))=_;unfold cL lZ;rw[← hx,← bl,← aO,← cA,eI,hZ];show (true&&_)=_;simp
      have HF:Hid ((true&&(!decide (pl<0)&&b1&&b3&&b4))=false→R=false):=fun hh=>by rw[mm.out,ba av (HP.out.trans hh)];simp
      have HT:Hid ((true&&(!decide (pl<0)&&b1&&b3&&b4))=true→aC (gO K) (0+1)=true):=fun hh=>aV HQ.out (HP.out.trans hh);clear bl aO cA eI eU hx bA;obtain⟨pA,_⟩:=dE.out wr hW;obtain⟨yz,y0,y1,y2,y3,y4,y5,y6⟩:=pA;go_upto_region 7 with fail
      rw[← eo,← hE];clear eo hE yz y0 y1 y2 y3 y4 y5 y6 hW c0 c1 c2 c3 c4;obtain⟨aS,bD⟩:=aS;obtain⟨yz,y0,y1,y2,y3,y4,y5,y6⟩:=aS;obtain⟨lz,l0,l1,l2⟩:=bD;have tE:=dR w4;have ez:=ao.lt;have ny:∀ px:Pst w4,E<px.W.heap.size:=fun px=>px.size ez;have Gt:∀ px:Pst w4,w.heap.size+1<px.W.heap.size:=fun px=>px.size yz;have Nk:∀ px:Pst w4,w.heap.size<px.W.heap.size:=fun px=>px.size lz;have za:∀ px:Pst w4,e3<px.W.heap.size:=fun px=>px.size (lo gJ dD.size);have Y0:∀ px:Pst w4,px.W.cell? ⟨w.heap.size+1,0,none⟩=some (.int .i64 K.now):=fun px=>px.cell y0 yz;have Y1:∀ px:Pst w4,px.W.cell? ⟨w.heap.size+1,1,none⟩=some (.int .i64 K.tick):=fun px=>px.cell y1 yz;have Y2:∀ px:Pst w4,px.W.cell? ⟨w.heap.size+1,2,none⟩=some (.int .i64 K.given):=fun px=>px.cell y2 yz;have Y3:∀ px:Pst w4,px.W.cell? ⟨w.heap.size+1,3,none⟩=some (.slice (some ⟨e0,0,none⟩) K.objects.length K.objects.length):=fun px=>px.cell y3 yz;have Y4:∀ px:Pst w4,px.W.cell? ⟨w.heap.size+1,4,none⟩=some (.slice (some ⟨e1,0,none⟩) K.grants.length K.grants.length):=fun px=>px.cell y4 yz;have Y5:∀ px:Pst w4,px.W.cell? ⟨w.heap.size+1,5,none⟩=some (.slice (some ⟨e2,0,none⟩) K.ledgers.length K.ledgers.length):=fun px=>px.cell y5 yz;have Y6:∀ px:Pst w4,px.W.cell? ⟨w.heap.size+1,6,none⟩=some (.slice (some ⟨e3,0,none⟩) K.purses.length K.purses.length):=fun px=>px.cell y6 yz;have L0:∀ px:Pst w4,px.W.cell? ⟨w.heap.size,0,none⟩=some (.slice (some ⟨a0,0,none⟩) L.shapes.length L.shapes.length):=fun px=>px.cell l0 lz;have L1:∀ px:Pst w4,px.W.cell? ⟨w.heap.size,1,none⟩=some (.slice (some ⟨a1,0,none⟩) L.mends.length L.mends.length):=fun px=>px.cell l1 lz;have L2:∀ px:Pst w4,px.W.cell? ⟨w.heap.size,2,none⟩=some (.slice (some ⟨a2,0,none⟩) L.teams.length L.teams.length):=fun px=>px.cell l2 lz;have X0:∀ px:Pst w4,px.W.cell? ⟨E,0,none⟩=some (.string x.door):=fun px=>px.cell (ao.at_ 0) ez;have X1:∀ px:Pst w4,px.W.cell? ⟨E,1,none⟩=some (.string x.team):=fun px=>px.cell (ao.at_ 1) ez;have X2:∀ px:Pst w4,px.W.cell? ⟨E,2,none⟩=some (.string x.res):=fun px=>px.cell (ao.at_ 2) ez;have X3:∀ px:Pst w4,px.W.cell? ⟨E,3,none⟩=some (.int .i64 x.amount):=fun px=>px.cell (ao.at_ 3) ez;have X4:∀ px:Pst w4,px.W.cell? ⟨E,4,none⟩=some (.int .i64 x.til):=fun px=>px.cell (ao.at_ 4) ez;clear yz y0 y1 y2 y3 y4 y5 y6 lz l0 l1 l2 ao ez dD;cases b1
      ·go_wp2_with fail
       refine au w4 br (by kernel_rfl) (by kernel_rfl) ?_;repeat(first
        |go_big_quiet_skip
        |(go_big_quiet_want;go_big_quiet_op;first|go_big_quiet_on|(apply Exists.intro;refine⟨fun px=> ?_, ?_⟩;(focus(first|(go_at_call 68;((with_reducible refine(ey.out _ px.ok).mono ?_));rintro e w' ⟨he,hb⟩;exact⟨he,px,hb.symm⟩)|(go_at_call 70;((with_reducible refine(nu.out _ px.ok).mono ?_));rintro e w' ⟨he,hb⟩;exact⟨he,⟨w',aa px.ok hb⟩,rfl⟩)|(go_at_call 25;(first|(with_reducible refine(fc.out _ px.ok).mono ?_)|(with_reducible refine(eY.out _ px.ok).mono ?_));rintro e w' ⟨he,hb⟩;exact⟨he,px,hb.symm⟩)));go_big_quiet_on)))
       refine wpQuiet_nil ?_;intro _ dN;obtain⟨x6,aX⟩:=dN;subst aX;go_wp2;go_ret;exact⟨Pl.ae (HF.out (by simp)).symm,aa aZ.out x6.ok⟩
      ·by_cases hp:pl<0
       ·have qK:=hid (decide_eq_true hp);go_wp2_with fail
        refine au w4 br (by kernel_rfl) (by kernel_rfl) ?_;repeat(first
         |go_big_quiet_skip
         |(go_big_quiet_want;go_big_quiet_op;first|go_big_quiet_on|(apply Exists.intro;refine⟨fun px=> ?_, ?_⟩;(focus(first|(go_at_call 68;((with_reducible refine(ey.out _ px.ok).mono ?_));rintro e w' ⟨he,hb⟩;exact⟨he,px,hb.symm⟩)|(go_at_call 70;((with_reducible refine(nu.out _ px.ok).mono ?_));rintro e w' ⟨he,hb⟩;exact⟨he,⟨w',aa px.ok hb⟩,rfl⟩)|(go_at_call 25;(first|(with_reducible refine(fc.out _ px.ok).mono ?_)|(with_reducible refine(eY.out _ px.ok).mono ?_));rintro e w' ⟨he,hb⟩;exact⟨he,px,hb.symm⟩)));go_big_quiet_on)))
        refine wpQuiet_nil ?_;intro _ dN;obtain⟨x6,aX⟩:=dN;subst aX;go_wp2;go_ret;exact⟨Pl.ae (HF.out (by simp[qK.out])).symm,aa aZ.out x6.ok⟩
       ·have qK:=hid (decide_eq_false hp);have BV:decide (pl<0)=false:=decide_eq_false hp;have yR:0≤pl:=by omega
        cases b3
        ·go_wp2_with fail
         refine au w4 br (by kernel_rfl) (by kernel_rfl) ?_;repeat(first
          |go_big_quiet_skip
          |(go_big_quiet_want;go_big_quiet_op;first|go_big_quiet_on|(apply Exists.intro;refine⟨fun px=> ?_, ?_⟩;(focus(first|(go_at_call 68;((with_reducible refine(ey.out _ px.ok).mono ?_));rintro e w' ⟨he,hb⟩;exact⟨he,px,hb.symm⟩)|(go_at_call 70;((with_reducible refine(nu.out _ px.ok).mono ?_));rintro e w' ⟨he,hb⟩;exact⟨he,⟨w',aa px.ok hb⟩,rfl⟩)|(go_at_call 25;(first|(with_reducible refine(fc.out _ px.ok).mono ?_)|(with_reducible refine(eY.out _ px.ok).mono ?_));rintro e w' ⟨he,hb⟩;exact⟨he,px,hb.symm⟩)));go_big_quiet_on)))
         refine wpQuiet_nil ?_;intro _ dN;obtain⟨x6,aX⟩:=dN;subst aX;go_wp2;go_ret;exact⟨Pl.ae (HF.out (by simp)).symm,aa aZ.out x6.ok⟩
        ·cases b4
         ·go_wp2_with fail
          refine au w4 br (by kernel_rfl) (by kernel_rfl) ?_;repeat(first
           |go_big_quiet_skip
           |(go_big_quiet_want;go_big_quiet_op;first|go_big_quiet_on|(apply Exists.intro;refine⟨fun px=> ?_, ?_⟩;(focus(first|(go_at_call 68;((with_reducible refine(ey.out _ px.ok).mono ?_));rintro e w' ⟨he,hb⟩;exact⟨he,px,hb.symm⟩)|(go_at_call 70;((with_reducible refine(nu.out _ px.ok).mono ?_));rintro e w' ⟨he,hb⟩;exact⟨he,⟨w',aa px.ok hb⟩,rfl⟩)|(go_at_call 25;(first|(with_reducible refine(fc.out _ px.ok).mono ?_)|(with_reducible refine(eY.out _ px.ok).mono ?_));rintro e w' ⟨he,hb⟩;exact⟨he,px,hb.symm⟩)));go_big_quiet_on)))
          refine wpQuiet_nil ?_;intro _ dN;obtain⟨x6,aX⟩:=dN;subst aX;go_wp2;go_ret;exact⟨Pl.ae (HF.out (by simp)).symm,aa aZ.out x6.ok⟩
         ·go_wp2_with fail
          refine au w4 br (by kernel_rfl) (by kernel_rfl) ?_;repeat(first
           |go_big_quiet_skip
           |(go_big_quiet_want;go_big_quiet_op;first|go_big_quiet_on|(apply Exists.intro;refine⟨fun px=> ?_, ?_⟩;(focus(first|(go_at_call 68;((with_reducible refine(ey.out _ px.ok).mono ?_));rintro e w' ⟨he,hb⟩;exact⟨he,px,hb.symm⟩)|(go_at_call 70;((with_reducible refine(nu.out _ px.ok).mono ?_));rintro e w' ⟨he,hb⟩;exact⟨he,⟨w',aa px.ok hb⟩,rfl⟩)|(go_at_call 25;(first|(with_reducible refine(fc.out _ px.ok).mono ?_)|(with_reducible refine(eY.out _ px.ok).mono ?_));rintro e w' ⟨he,hb⟩;exact⟨he,px,hb.symm⟩)));go_big_quiet_on)))
          refine wpQuiet_nil ?_;intro _ dN;obtain⟨x6,aX⟩:=dN;subst aX;go_wp2;go_roundw
          case rel=>exact⟨0+1,by omega,by go_num,HT.out (by simp[qK.out]),aa js.out x6.ok⟩
          case measure=>simp[intOf];omega
     ·obtain⟨m,rfl⟩:∃ m,q=m+1:=⟨q - 1,by omega⟩
      clear h0;obtain⟨x,hx⟩:∃ x,x=K.purses.getD (m+1) Ps.none:=⟨_,rfl⟩
      have bA:=(HA.out.2.later fw.out).p;have gJ:=bA.lt;have dO:=bA.at_ (m+1) av;rw[← hx]at dO;obtain⟨c0,c1,c2,c3,c4,eU⟩:=dO;obtain⟨y,hy⟩:∃ y,y=K.purses.getD m Ps.none:=⟨_,rfl⟩
      have dO:=bA.at_ m (by omega);rw[← hy]at dO;obtain⟨d0,d1,d2,d3,d4,_⟩:=dO;obtain⟨w4,eo⟩:∃ w4,w4=wr.alloc (.cells #[.string x.door,.string x.team,.string x.res,.int .i64 x.amount,.int .i64 x.til] 129):=⟨_,rfl⟩
      obtain⟨E,hE⟩:∃ E,E=wr.heap.size:=⟨_,rfl⟩
      have dD:Bel wr w4:=by rw[eo];exact ab br _
      have js:=hid (aa hW dD);have aZ:=hid (aa fw.out dD);have aS:=dE.out w4 js.out;have ao:aM w4 E #[.string x.door,.string x.team,.string x.res,.int .i64 x.amount,.int .i64 x.til]:=by rw[eo];exact aM.bp _ _ _ _ hE
      obtain⟨b1,bl⟩:∃ b1,b1=(Pl.aq x.door):=⟨_,rfl⟩
      have ey:Hid (∀ W,Bel w4 W→Calls Tryz.prog 68 #[.string x.door] W fun e w'=>e=.returned (.bool b1)∧W=w'):=fun W bG=>by
       rw[bl];have fu:=aa aZ.out bG;exact aG x.door W eU.1
      obtain⟨pl,eI⟩:∃ pl,pl=(ej (ir K.ledgers x.team x.res) K.ledgers.length):=⟨_,rfl⟩
      have nu:Hid (∀ W,Bel w4 W→Calls Tryz.prog 70 #[.agg #[.int .i64 K.now,.int .i64 K.tick,.int .i64 K.given,.slice (some ⟨e0,0,none⟩) K.objects.length K.objects.length,.slice (some ⟨e1,0,none⟩) K.grants.length K.grants.length,.slice (some ⟨e2,0,none⟩) K.ledgers.length K.ledgers.length,.slice (some ⟨e3,0,none⟩) K.purses.length K.purses.length],.string x.team,.string x.res] W fun e w'=>e=.returned (.int .i64 pl)∧Bel W w'):=fun W bG=>by
       rw[eI];have fu:=aa aZ.out bG;exact Es K e0 e1 e2 e3 x.team x.res W (HA.out.2.later fu)
      obtain⟨b3,aO⟩:∃ b3,b3=(within x.amount 1 1000000):=⟨_,rfl⟩
      have fc:Hid (∀ W,Bel w4 W→Calls Tryz.prog 25 #[.int .i64 x.amount,.int .i64 1,.int .i64 1000000] W fun e w'=>e=.returned (.bool b3)∧W=w'):=fun W bG=>by
       rw[aO];have fu:=aa aZ.out bG;exact bc _ _ _ W
      obtain⟨b4,cA⟩:∃ b4,b4=(within x.til K.tick (K.tick+10)):=⟨_,rfl⟩
      have eY:Hid (∀ W,Bel w4 W→Calls Tryz.prog 25 #[.int .i64 x.til,.int .i64 K.tick,.int .i64 (K.tick+10)] W fun e w'=>e=.returned (.bool b4)∧W=w'):=fun W bG=>by
       rw[cA];have fu:=aa aZ.out bG;exact bc _ _ _ W
      obtain⟨kq,B8⟩:∃ kq,kq=(pY y x):=⟨_,rfl⟩
      have pk:Hid (∀ W,Bel w4 W→Calls Tryz.prog 71 #[.agg #[.string y.door,.string y.team,.string y.res,.int .i64 y.amount,.int .i64 y.til],.agg #[.string x.door,.string x.team,.string x.res,.int .i64 x.amount,.int .i64 x.til]] W fun e w'=>e=.returned (.int .i64 kq)∧Bel W w'):=fun W bG=>by
       rw[B8];have fu:=aa aZ.out bG;exact yq _ _ _ _ _ _ _ _ _ _ W
      have HP:Hid (gO K (m+1)=(decide (kq<0)&&(!decide (pl<0)&&b1&&b3&&b4))):=by
       show (cF _ (m+1)&&cL K (m+1))=_;unfold cL lZ;rw[← hx,← bl,← aO,← cA,eI,hZ];rw[B8,hx,hy];show (decide _&&_)=_;simp
      have HF:Hid ((decide (kq<0)&&(!decide (pl<0)&&b1&&b3&&b4))=false→R=false):=fun hh=>by rw[mm.out,ba av (HP.out.trans hh)];simp
      have HT:Hid ((decide (kq<0)&&(!decide (pl<0)&&b1&&b3&&b4))=true→aC (gO K) (m+1+1)=true):=fun hh=>aV HQ.out (HP.out.trans hh);clear bl aO cA eI eU hx bA hy B8;obtain⟨pA,_⟩:=dE.out wr hW;obtain⟨yz,y0,y1,y2,y3,y4,y5,y6⟩:=pA;go_upto_region 7 with fail
      rw[← eo,← hE];clear eo hE yz y0 y1 y2 y3 y4 y5 y6 hW c0 c1 c2 c3 c4;obtain⟨aS,bD⟩:=aS;obtain⟨yz,y0,y1,y2,y3,y4,y5,y6⟩:=aS;obtain⟨lz,l0,l1,l2⟩:=bD;have tE:=dR w4;have ez:=ao.lt;have ny:∀ px:Pst w4,E<px.W.heap.size:=fun px=>px.size ez;have Gt:∀ px:Pst w4,w.heap.size+1<px.W.heap.size:=fun px=>px.size yz;have Nk:∀ px:Pst w4,w.heap.size<px.W.heap.size:=fun px=>px.size lz;have za:∀ px:Pst w4,e3<px.W.heap.size:=fun px=>px.size (lo gJ dD.size);have Y0:∀ px:Pst w4,px.W.cell? ⟨w.heap.size+1,0,none⟩=some (.int .i64 K.now):=fun px=>px.cell y0 yz;have Y1:∀ px:Pst w4,px.W.cell? ⟨w.heap.size+1,1,none⟩=some (.int .i64 K.tick):=fun px=>px.cell y1 yz;have Y2:∀ px:Pst w4,px.W.cell? ⟨w.heap.size+1,2,none⟩=some (.int .i64 K.given):=fun px=>px.cell y2 yz;have Y3:∀ px:Pst w4,px.W.cell? ⟨w.heap.size+1,3,none⟩=some (.slice (some ⟨e0,0,none⟩) K.objects.length K.objects.length):=fun px=>px.cell y3 yz;have Y4:∀ px:Pst w4,px.W.cell? ⟨w.heap.size+1,4,none⟩=some (.slice (some ⟨e1,0,none⟩) K.grants.length K.grants.length):=fun px=>px.cell y4 yz;have Y5:∀ px:Pst w4,px.W.cell? ⟨w.heap.size+1,5,none⟩=some (.slice (some ⟨e2,0,none⟩) K.ledgers.length K.ledgers.length):=fun px=>px.cell y5 yz;have Y6:∀ px:Pst w4,px.W.cell? ⟨w.heap.size+1,6,none⟩=some (.slice (some ⟨e3,0,none⟩) K.purses.length K.purses.length):=fun px=>px.cell y6 yz;have L0:∀ px:Pst w4,px.W.cell? ⟨w.heap.size,0,none⟩=some (.slice (some ⟨a0,0,none⟩) L.shapes.length L.shapes.length):=fun px=>px.cell l0 lz;have L1:∀ px:Pst w4,px.W.cell? ⟨w.heap.size,1,none⟩=some (.slice (some ⟨a1,0,none⟩) L.mends.length L.mends.length):=fun px=>px.cell l1 lz;have L2:∀ px:Pst w4,px.W.cell? ⟨w.heap.size,2,none⟩=some (.slice (some ⟨a2,0,none⟩) L.teams.length L.teams.length):=fun px=>px.cell l2 lz;have X0:∀ px:Pst w4,px.W.cell? ⟨E,0,none⟩=some (.string x.door):=fun px=>px.cell (ao.at_ 0) ez;have X1:∀ px:Pst w4,px.W.cell? ⟨E,1,none⟩=some (.string x.team):=fun px=>px.cell (ao.at_ 1) ez;have X2:∀ px:Pst w4,px.W.cell? ⟨E,2,none⟩=some (.string x.res):=fun px=>px.cell (ao.at_ 2) ez;have X3:∀ px:Pst w4,px.W.cell? ⟨E,3,none⟩=some (.int .i64 x.amount):=fun px=>px.cell (ao.at_ 3) ez;have X4:∀ px:Pst w4,px.W.cell? ⟨E,4,none⟩=some (.int .i64 x.til):=fun px=>px.cell (ao.at_ 4) ez;have D0:∀ px:Pst w4,px.W.cell? ⟨e3,m*5,none⟩=some (.string y.door):=fun px=>px.cell ((dD.cell (p:=⟨e3,m*5,none⟩) gJ).trans d0) (lo gJ dD.size);have D1:∀ px:Pst w4,px.W.cell? ⟨e3,m*5+1,none⟩=some (.string y.team):=fun px=>px.cell ((dD.cell (p:=⟨e3,m*5+1,none⟩) gJ).trans d1) (lo gJ dD.size);have D2:∀ px:Pst w4,px.W.cell? ⟨e3,m*5+2,none⟩=some (.string y.res):=fun px=>px.cell ((dD.cell (p:=⟨e3,m*5+2,none⟩) gJ).trans d2) (lo gJ dD.size);have D3:∀ px:Pst w4,px.W.cell? ⟨e3,m*5+3,none⟩=some (.int .i64 y.amount):=fun px=>px.cell ((dD.cell (p:=⟨e3,m*5+3,none⟩) gJ).trans d3) (lo gJ dD.size);have D4:∀ px:Pst w4,px.W.cell? ⟨e3,m*5+4,none⟩=some (.int .i64 y.til):=fun px=>px.cell ((dD.cell (p:=⟨e3,m*5+4,none⟩) gJ).trans d4) (lo gJ dD.size);have BJ:(0:Int)≤(m:Int):=by omega
      have gB:(m:Int)<(K.purses.length:Int):=by omega
      have Kc:IntKind.i64.wrap (m:Int)=(m:Int):=j4 _ (by omega) (by omega);have hH:(0:Int)<(m:Int)+1:=by omega
      clear d0 d1 d2 d3 d4;clear yz y0 y1 y2 y3 y4 y5 y6 lz l0 l1 l2 ao ez dD;cases b1
      ·go_wp2_with fail
       refine au w4 br (by kernel_rfl) (by kernel_rfl) ?_;repeat(first
        |go_big_quiet_skip
        |(go_big_quiet_want;go_big_quiet_op;first|go_big_quiet_on|(apply Exists.intro;refine⟨fun px=> ?_, ?_⟩;(focus(first|(go_at_call 68;((with_reducible refine(ey.out _ px.ok).mono ?_));rintro e w' ⟨he,hb⟩;exact⟨he,px,hb.symm⟩)|(go_at_call 70;((with_reducible refine(nu.out _ px.ok).mono ?_));rintro e w' ⟨he,hb⟩;exact⟨he,⟨w',aa px.ok hb⟩,rfl⟩)|(go_at_call 25;(first|(with_reducible refine(fc.out _ px.ok).mono ?_)|(with_reducible refine(eY.out _ px.ok).mono ?_));rintro e w' ⟨he,hb⟩;exact⟨he,px,hb.symm⟩)|(go_at_call 71;((with_reducible refine(pk.out _ px.ok).mono ?_));rintro e w' ⟨he,hb⟩;exact⟨he,⟨w',aa px.ok hb⟩,rfl⟩)));go_big_quiet_on)))
       refine wpQuiet_nil ?_;intro _ dN;obtain⟨x6,aX⟩:=dN;subst aX;go_wp2;go_ret;exact⟨Pl.ae (HF.out (by simp)).symm,aa aZ.out x6.ok⟩
      ·by_cases hp:pl<0
       ·have qK:=hid (decide_eq_true hp);go_wp2_with fail
        refine au w4 br (by kernel_rfl) (by kernel_rfl) ?_;repeat(first
         |go_big_quiet_skip
         |(go_big_quiet_want;go_big_quiet_op;first|go_big_quiet_on|(apply Exists.intro;refine⟨fun px=> ?_, ?_⟩;(focus(first|(go_at_call 68;((with_reducible refine(ey.out _ px.ok).mono ?_));rintro e w' ⟨he,hb⟩;exact⟨he,px,hb.symm⟩)|(go_at_call 70;((with_reducible refine(nu.out _ px.ok).mono ?_));rintro e w' ⟨he,hb⟩;exact⟨he,⟨w',aa px.ok hb⟩,rfl⟩)|(go_at_call 25;(first|(with_reducible refine(fc.out _ px.ok).mono ?_)|(with_reducible refine(eY.out _ px.ok).mono ?_));rintro e w' ⟨he,hb⟩;exact⟨he,px,hb.symm⟩)|(go_at_call 71;((with_reducible refine(pk.out _ px.ok).mono ?_));rintro e w' ⟨he,hb⟩;exact⟨he,⟨w',aa px.ok hb⟩,rfl⟩)));go_big_quiet_on)))
        refine wpQuiet_nil ?_;intro _ dN;obtain⟨x6,aX⟩:=dN;subst aX;go_wp2;go_ret;exact⟨Pl.ae (HF.out (by simp[qK.out])).symm,aa aZ.out x6.ok⟩
       ·have qK:=hid (decide_eq_false hp);have BV:decide (pl<0)=false:=decide_eq_false hp;have yR:0≤pl:=by omega
        cases b3
        ·go_wp2_with fail
         refine au w4 br (by kernel_rfl) (by kernel_rfl) ?_;repeat(first
          |go_big_quiet_skip
          |(go_big_quiet_want;go_big_quiet_op;first|go_big_quiet_on|(apply Exists.intro;refine⟨fun px=> ?_, ?_⟩;(focus(first|(go_at_call 68;((with_reducible refine(ey.out _ px.ok).mono ?_));rintro e w' ⟨he,hb⟩;exact⟨he,px,hb.symm⟩)|(go_at_call 70;((with_reducible refine(nu.out _ px.ok).mono ?_));rintro e w' ⟨he,hb⟩;exact⟨he,⟨w',aa px.ok hb⟩,rfl⟩)|(go_at_call 25;(first|(with_reducible refine(fc.out _ px.ok).mono ?_)|(with_reducible refine(eY.out _ px.ok).mono ?_));rintro e w' ⟨he,hb⟩;exact⟨he,px,hb.symm⟩)|(go_at_call 71;((with_reducible refine(pk.out _ px.ok).mono ?_));rintro e w' ⟨he,hb⟩;exact⟨he,⟨w',aa px.ok hb⟩,rfl⟩)));go_big_quiet_on)))
         refine wpQuiet_nil ?_;intro _ dN;obtain⟨x6,aX⟩:=dN;subst aX;go_wp2;go_ret;exact⟨Pl.ae (HF.out (by simp)).symm,aa aZ.out x6.ok⟩
        ·cases b4
         ·go_wp2_with fail
          refine au w4 br (by kernel_rfl) (by kernel_rfl) ?_;repeat(first
           |go_big_quiet_skip
           |(go_big_quiet_want;go_big_quiet_op;first|go_big_quiet_on|(apply Exists.intro;refine⟨fun px=> ?_, ?_⟩;(focus(first|(go_at_call 68;((with_reducible refine(ey.out _ px.ok).mono ?_));rintro e w' ⟨he,hb⟩;exact⟨he,px,hb.symm⟩)|(go_at_call 70;((with_reducible refine(nu.out _ px.ok).mono ?_));rintro e w' ⟨he,hb⟩;exact⟨he,⟨w',aa px.ok hb⟩,rfl⟩)|(go_at_call 25;(first|(with_reducible refine(fc.out _ px.ok).mono ?_)|(with_reducible refine(eY.out _ px.ok).mono ?_));rintro e w' ⟨he,hb⟩;exact⟨he,px,hb.symm⟩)|(go_at_call 71;((with_reducible refine(pk.out _ px.ok).mono ?_));rintro e w' ⟨he,hb⟩;exact⟨he,⟨w',aa px.ok hb⟩,rfl⟩)));go_big_quiet_on)))
          refine wpQuiet_nil ?_;intro _ dN;obtain⟨x6,aX⟩:=dN;subst aX;go_wp2;go_ret;exact⟨Pl.ae (HF.out (by simp)).symm,aa aZ.out x6.ok⟩
         ·by_cases hk:kq<0
          ·have pv:=hid (decide_eq_true hk);have lO:¬ 0≤kq:=by omega
           have hk3:decide (0≤kq)=false:=decide_eq_false lO;go_wp2_with fail
           refine au w4 br (by kernel_rfl) (by kernel_rfl) ?_;repeat(first
            |go_big_quiet_skip
            |(go_big_quiet_want;go_big_quiet_op;first|go_big_quiet_on|(apply Exists.intro;refine⟨fun px=> ?_, ?_⟩;(focus(first|(go_at_call 68;((with_reducible refine(ey.out _ px.ok).mono ?_));rintro e w' ⟨he,hb⟩;exact⟨he,px,hb.symm⟩)|(go_at_call 70;((with_reducible refine(nu.out _ px.ok).mono ?_));rintro e w' ⟨he,hb⟩;exact⟨he,⟨w',aa px.ok hb⟩,rfl⟩)|(go_at_call 25;(first|(with_reducible refine(fc.out _ px.ok).mono ?_)|(with_reducible refine(eY.out _ px.ok).mono ?_));rintro e w' ⟨he,hb⟩;exact⟨he,px,hb.symm⟩)|(go_at_call 71;((with_reducible refine(pk.out _ px.ok).mono ?_));rintro e w' ⟨he,hb⟩;exact⟨he,⟨w',aa px.ok hb⟩,rfl⟩)));go_big_quiet_on)))
           refine wpQuiet_nil ?_;intro _ dN;obtain⟨x6,aX⟩:=dN;subst aX;go_wp2;go_roundw
           case rel=>exact⟨m+1+1,by omega,by go_num,HT.out (by simp[qK.out,pv.out]),aa js.out x6.ok⟩
           case measure=>simp[intOf];omega
          ·have pv:=hid (decide_eq_false hk);have lO:0≤kq:=by omega
           go_wp2_with fail
           refine au w4 br (by kernel_rfl) (by kernel_rfl) ?_;repeat(first
            |go_big_quiet_skip
            |(go_big_quiet_want;go_big_quiet_op;first|go_big_quiet_on|(apply Exists.intro;refine⟨fun px=> ?_, ?_⟩;(focus(first|(go_at_call 68;((with_reducible refine(ey.out _ px.ok).mono ?_));rintro e w' ⟨he,hb⟩;exact⟨he,px,hb.symm⟩)|(go_at_call 70;((with_reducible refine(nu.out _ px.ok).mono ?_));rintro e w' ⟨he,hb⟩;exact⟨he,⟨w',aa px.ok hb⟩,rfl⟩)|(go_at_call 25;(first|(with_reducible refine(fc.out _ px.ok).mono ?_)|(with_reducible refine(eY.out _ px.ok).mono ?_));rintro e w' ⟨he,hb⟩;exact⟨he,px,hb.symm⟩)|(go_at_call 71;((with_reducible refine(pk.out _ px.ok).mono ?_));rintro e w' ⟨he,hb⟩;exact⟨he,⟨w',aa px.ok hb⟩,rfl⟩)));go_big_quiet_on)))
           refine wpQuiet_nil ?_;intro _ dN;obtain⟨x6,aX⟩:=dN;subst aX;go_wp2;go_ret;exact⟨Pl.ae (HF.out (by simp[pv.out])).symm,aa aZ.out x6.ok⟩
    ·obtain rfl:q=K.purses.length:=by omega
     obtain⟨aS,_⟩:=dE.out wr hW;obtain⟨yz,y0,y1,y2,y3,y4,y5,y6⟩:=aS;have Mk:Hid (R=aC (fi L K) K.ledgers.length):=by show R=_;rw[mm.out,HQ.out];simp
     have hF:=hid hW;clear mm HQ fw av hq hW;go_wp2;clear yz y0 y1 y2 y3 y4 y5 y6;have mm:=hid Mk.out;go_loopw [7] (fun i wr=>∃ q:Nat,q≤K.ledgers.length∧i=.int .i64 q∧aC (fi L K) q=true∧Bel w1 wr) (fun i _=>K.ledgers.length - (intOf i).toNat)
     case atStart=>exact⟨0,nz,rfl,rfl,hF.out⟩
     case round=>
      obtain⟨q,hq,rfl,ha,hW⟩:=hrel;have HQ:=hid ha;have fw:=hid (aa cQ.out hW);clear ha;by_cases av:q<K.ledgers.length
      ·by_cases h0:q=0
       ·subst h0;obtain⟨x,hx⟩:∃ x,x=K.ledgers.getD (0) Lg.none:=⟨_,rfl⟩
        have bA:=(HA.out.2.later fw.out).l;have gJ:=bA.lt;have dO:=bA.at_ (0) av;rw[← hx]at dO;obtain⟨c0,c1,c2,c3,eU⟩:=dO;obtain⟨w4,eo⟩:∃ w4,w4=wr.alloc (.cells #[.string x.team,.string x.res,.int .i64 x.most,.int .i64 x.free] 131):=⟨_,rfl⟩
        obtain⟨E,hE⟩:∃ E,E=wr.heap.size:=⟨_,rfl⟩
        have dD:Bel wr w4:=by rw[eo];exact ab br _
        have js:=hid (aa hW dD);have aZ:=hid (aa fw.out dD);have aS:=dE.out w4 js.out;have ao:aM w4 E #[.string x.team,.string x.res,.int .i64 x.most,.int .i64 x.free]:=by rw[eo];exact aM.bp _ _ _ _ hE
        obtain⟨b1,bl⟩:∃ b1,b1=(bB L.teams x.team):=⟨_,rfl⟩
        have ey:Hid (∀ W,Bel w4 W→Calls Tryz.prog 62 #[.slice (some ⟨a2,0,none⟩) L.teams.length L.teams.length,.string x.team] W fun e w'=>e=.returned (.bool b1)∧W=w'):=fun W bG=>by
         rw[bl];have fu:=aa aZ.out bG;exact iF a2 L.teams x.team W (HA.out.1.later fu).t
        obtain⟨b2,aA⟩:∃ b2,b2=(Pl.aq x.res):=⟨_,rfl⟩
        have gh:Hid (∀ W,Bel w4 W→Calls Tryz.prog 68 #[.string x.res] W fun e w'=>e=.returned (.bool b2)∧W=w'):=fun W bG=>by
         rw[aA];have fu:=aa aZ.out bG;exact aG x.res W eU.2
        obtain⟨us,BK⟩:∃ us,us=(used L K x.team x.res):=⟨_,rfl⟩
        have BO:Hid (∀ W,Bel w4 W→Calls Tryz.prog 72 #[.agg #[.slice (some ⟨a0,0,none⟩) L.shapes.length L.shapes.length,.slice (some ⟨a1,0,none⟩) L.mends.length L.mends.length,.slice (some ⟨a2,0,none⟩) L.teams.length L.teams.length],.agg #[.int .i64 K.now,.int .i64 K.tick,.int .i64 K.given,.slice (some ⟨e0,0,none⟩) K.objects.length K.objects.length,.slice (some ⟨e1,0,none⟩) K.grants.length K.grants.length,.slice (some ⟨e2,0,none⟩) K.ledgers.length K.ledgers.length,.slice (some ⟨e3,0,none⟩) K.purses.length K.purses.length],.string x.team,.string x.res] W fun e w'=>e=.returned (.int .i64 us)∧Bel W w'):=fun W bG=>by
         rw[BK];have fu:=aa aZ.out bG;exact Ev L K a0 a1 a2 e0 e1 e2 e3 x.team x.res W (HA.out.1.later fu) (HA.out.2.later fu)
        obtain⟨ou,FZ⟩:∃ ou,ou=(wL K.purses x.team x.res):=⟨_,rfl⟩
        have B4:Hid (∀ W,Bel w4 W→Calls Tryz.prog 73 #[.agg #[.int .i64 K.now,.int .i64 K.tick,.int .i64 K.given,.slice (some ⟨e0,0,none⟩) K.objects.length K.objects.length,.slice (some ⟨e1,0,none⟩) K.grants.length K.grants.length,.slice (some ⟨e2,0,none⟩) K.ledgers.length K.ledgers.length,.slice (some ⟨e3,0,none⟩) K.purses.length K.purses.length],.string x.team,.string x.res] W fun e w'=>e=.returned (.int .i64 ou)∧Bel W w'):=fun W bG=>by
         rw[FZ];have fu:=aa aZ.out bG;exact zy K e0 e1 e2 e3 x.team x.res W (HA.out.2.later fu)
        have HP:Hid (fi L K (0)=(true&&(b1&&b2&&decide (0≤x.free)&&decide (x.free≤x.most)&&decide (x.most≤1000000)&&decide (wrap64 (wrap64 (us+ou)+x.free)=x.most)))):=by
         show (cF _ (0)&&(cN L K (0)&&fD L K (0)))=_;unfold cN fD wm;rw[mX];unfold kK;rw[← hx,← bl,← aA,← BK,← FZ];show (true&&_)=_;rfl
        have HF:Hid ((true&&(b1&&b2&&decide (0≤x.free)&&decide (x.free≤x.most)&&decide (x.most≤1000000)&&decide (wrap64 (wrap64 (us+ou)+x.free)=x.most)))=false→R=false):=fun hh=>by rw[mm.out];exact ba av (HP.out.trans hh)
        have HT:Hid ((true&&(b1&&b2&&decide (0≤x.free)&&decide (x.free≤x.most)&&decide (x.most≤1000000)&&decide (wrap64 (wrap64 (us+ou)+x.free)=x.most)))=true→aC (fi L K) (0+1)=true):=fun hh=>aV HQ.out (HP.out.trans hh);clear bl aA BK FZ eU hx bA;obtain⟨pA,_⟩:=dE.out wr hW;obtain⟨yz,y0,y1,y2,y3,y4,y5,y6⟩:=pA;go_upto_region 13 with fail
        rw[← eo,← hE];clear eo hE yz y0 y1 y2 y3 y4 y5 y6 hW c0 c1 c2 c3;obtain⟨aS,bD⟩:=aS;obtain⟨yz,y0,y1,y2,y3,y4,y5,y6⟩:=aS;obtain⟨lz,l0,l1,l2⟩:=bD;have tE:=dR w4;have ez:=ao.lt;have ny:∀ px:Pst w4,E<px.W.heap.size:=fun px=>px.size ez;have Gt:∀ px:Pst w4,w.heap.size+1<px.W.heap.size:=fun px=>px.size yz;have Nk:∀ px:Pst w4,w.heap.size<px.W.heap.size:=fun px=>px.size lz;have za:∀ px:Pst w4,e2<px.W.heap.size:=fun px=>px.size (lo gJ dD.size);have Y0:∀ px:Pst w4,px.W.cell? ⟨w.heap.size+1,0,none⟩=some (.int .i64 K.now):=fun px=>px.cell y0 yz;have Y1:∀ px:Pst w4,px.W.cell? ⟨w.heap.size+1,1,none⟩=some (.int .i64 K.tick):=fun px=>px.cell y1 yz;have Y2:∀ px:Pst w4,px.W.cell? ⟨w.heap.size+1,2,none⟩=some (.int .i64 K.given):=fun px=>px.cell y2 yz;have Y3:∀ px:Pst w4,px.W.cell? ⟨w.heap.size+1,3,none⟩=some (.slice (some ⟨e0,0,none⟩) K.objects.length K.objects.length):=fun px=>px.cell y3 yz;have Y4:∀ px:Pst w4,px.W.cell? ⟨w.heap.size+1,4,none⟩=some (.slice (some ⟨e1,0,none⟩) K.grants.length K.grants.length):=fun px=>px.cell y4 yz;have Y5:∀ px:Pst w4,px.W.cell? ⟨w.heap.size+1,5,none⟩=some (.slice (some ⟨e2,0,none⟩) K.ledgers.length K.ledgers.length):=fun px=>px.cell y5 yz;have Y6:∀ px:Pst w4,px.W.cell? ⟨w.heap.size+1,6,none⟩=some (.slice (some ⟨e3,0,none⟩) K.purses.length K.purses.length):=fun px=>px.cell y6 yz;have L0:∀ px:Pst w4,px.W.cell? ⟨w.heap.size,0,none⟩=some (.slice (some ⟨a0,0,none⟩) L.shapes.length L.shapes.length):=fun px=>px.cell l0 lz;have L1:∀ px:Pst w4,px.W.cell? ⟨w.heap.size,1,none⟩=some (.slice (some ⟨a1,0,none⟩) L.mends.length L.mends.length):=fun px=>px.cell l1 lz;have L2:∀ px:Pst w4,px.W.cell? ⟨w.heap.size,2,none⟩=some (.slice (some ⟨a2,0,none⟩) L.teams.length L.teams.length):=fun px=>px.cell l2 lz;have X0:∀ px:Pst w4,px.W.cell? ⟨E,0,none⟩=some (.string x.team):=fun px=>px.cell (ao.at_ 0) ez;have X1:∀ px:Pst w4,px.W.cell? ⟨E,1,none⟩=some (.string x.res):=fun px=>px.cell (ao.at_ 1) ez;have X2:∀ px:Pst w4,px.W.cell? ⟨E,2,none⟩=some (.int .i64 x.most):=fun px=>px.cell (ao.at_ 2) ez;have X3:∀ px:Pst w4,px.W.cell? ⟨E,3,none⟩=some (.int .i64 x.free):=fun px=>px.cell (ao.at_ 3) ez;have x0:w4.cell? ⟨E,0,none⟩=some (.string x.team):=ao.at_ 0;have x1:w4.cell? ⟨E,1,none⟩=some (.string x.res):=ao.at_ 1;have x2:w4.cell? ⟨E,2,none⟩=some (.int .i64 x.most):=ao.at_ 2;have x3:w4.cell? ⟨E,3,none⟩=some (.int .i64 x.free):=ao.at_ 3;clear ao dD;go_wp2_with fail
        refine(ey.out w4 br).mono ?_;rintro e w7 ⟨rfl,rfl⟩;cases b1
        ·go_wp2;go_ret;exact⟨Pl.ae (HF.out (by simp)).symm,aa aZ.out br⟩
        ·go_wp2_with fail
         refine(gh.out w4 br).mono ?_;rintro e w7 ⟨rfl,rfl⟩;cases b2
         ·go_wp2;go_ret;exact⟨Pl.ae (HF.out (by simp)).symm,aa aZ.out br⟩
         ·by_cases h1:0≤x.free
          ·have H1:=hid (decide_eq_true h1);by_cases h2:x.free≤x.most
           ·have H2:=hid (decide_eq_true h2);by_cases h3:x.most≤1000000
            ·have H3:=hid (decide_eq_true h3);go_wp2_with fail
             refine au w4 br (by kernel_rfl) (by kernel_rfl) ?_;repeat(first
              |go_big_quiet_skip
              |(go_big_quiet_want;go_big_quiet_op;first|go_big_quiet_on|fail))
             refine wpQuiet_nil ?_;intro _ dN;obtain⟨x5,aX⟩:=dN;subst aX;by_cases hs:wrap64 (wrap64 (us+ou)+x.free)=x.most
             ·have Gj:=hid (decide_eq_true hs);go_wp2_with fail
              refine au w4 x5.ok (by kernel_rfl) (by kernel_rfl) ?_;repeat(first
               |go_big_quiet_skip
               |(go_big_quiet_want;go_big_quiet_op;first|go_big_quiet_on|(apply Exists.intro;refine⟨fun px=> ?_, ?_⟩;(focus(first|(go_at_call 72;((with_reducible refine(BO.out _ px.ok).mono ?_));rintro e w' ⟨he,hb⟩;exact⟨he,⟨w',aa px.ok hb⟩,rfl⟩)|(go_at_call 73;((with_reducible refine(B4.out _ px.ok).mono ?_));rintro e w' ⟨he,hb⟩;exact⟨he,⟨w',aa px.ok hb⟩,rfl⟩)));go_big_quiet_on)))
              refine wpQuiet_nil ?_;intro _ dN;obtain⟨x6,aX⟩:=dN;subst aX;go_wp2;go_roundw
              case rel=>exact⟨0+1,by omega,by go_num,HT.out (by simp[H1.out,H2.out,H3.out,Gj.out]),aa js.out x6.ok⟩
              case measure=>simp[intOf];omega
             ·have Gj:=hid (decide_eq_false hs);go_wp2_with fail
              refine au w4 x5.ok (by kernel_rfl) (by kernel_rfl) ?_;repeat(first
               |go_big_quiet_skip
               |(go_big_quiet_want;go_big_quiet_op;first|go_big_quiet_on|(apply Exists.intro;refine⟨fun px=> ?_, ?_⟩;(focus(first|(go_at_call 72;((with_reducible refine(BO.out _ px.ok).mono ?_));rintro e w' ⟨he,hb⟩;exact⟨he,⟨w',aa px.ok hb⟩,rfl⟩)|(go_at_call 73;((with_reducible refine(B4.out _ px.ok).mono ?_));rintro e w' ⟨he,hb⟩;exact⟨he,⟨w',aa px.ok hb⟩,rfl⟩)));go_big_quiet_on)))
              refine wpQuiet_nil ?_;intro _ dN;obtain⟨x6,aX⟩:=dN;subst aX;go_wp2;go_ret;exact⟨Pl.ae (HF.out (by simp[Gj.out])).symm,aa aZ.out x6.ok⟩
            ·have H3:=hid (decide_eq_false h3);go_wp2;go_ret;exact⟨Pl.ae (HF.out (by simp[H3.out])).symm,aa aZ.out br⟩
           ·have H2:=hid (decide_eq_false h2);go_wp2;go_ret;exact⟨Pl.ae (HF.out (by simp[H2.out])).symm,aa aZ.out br⟩
          ·have H1:=hid (decide_eq_false h1);go_wp2;go_ret;exact⟨Pl.ae (HF.out (by simp[H1.out])).symm,aa aZ.out br⟩
       ·obtain⟨m,rfl⟩:∃ m,q=m+1:=⟨q - 1,by omega⟩
        clear h0;obtain⟨x,hx⟩:∃ x,x=K.ledgers.getD (m+1) Lg.none:=⟨_,rfl⟩
        have bA:=(HA.out.2.later fw.out).l;have gJ:=bA.lt;have dO:=bA.at_ (m+1) av;rw[← hx]at dO;obtain⟨c0,c1,c2,c3,eU⟩:=dO;obtain⟨y,hy⟩:∃ y,y=K.ledgers.getD m Lg.none:=⟨_,rfl⟩
        have dO:=bA.at_ m (by omega);rw[← hy]at dO;obtain⟨d0,d1,d2,d3,_⟩:=dO;obtain⟨w4,eo⟩:∃ w4,w4=wr.alloc (.cells #[.string x.team,.string x.res,.int .i64 x.most,.int .i64 x.free] 131):=⟨_,rfl⟩
        obtain⟨E,hE⟩:∃ E,E=wr.heap.size:=⟨_,rfl⟩
        have dD:Bel wr w4:=by rw[eo];exact ab br _
        have js:=hid (aa hW dD);have aZ:=hid (aa fw.out dD);have aS:=dE.out w4 js.out;have ao:aM w4 E #[.string x.team,.string x.res,.int .i64 x.most,.int .i64 x.free]:=by rw[eo];exact aM.bp _ _ _ _ hE
        obtain⟨b1,bl⟩:∃ b1,b1=(bB L.teams x.team):=⟨_,rfl⟩
        have ey:Hid (∀ W,Bel w4 W→Calls Tryz.prog 62 #[.slice (some ⟨a2,0,none⟩) L.teams.length L.teams.length,.string x.team] W fun e w'=>e=.returned (.bool b1)∧W=w'):=fun W bG=>by
         rw[bl];have fu:=aa aZ.out bG;exact iF a2 L.teams x.team W (HA.out.1.later fu).t
        obtain⟨b2,aA⟩:∃ b2,b2=(Pl.aq x.res):=⟨_,rfl⟩
        have gh:Hid (∀ W,Bel w4 W→Calls Tryz.prog 68 #[.string x.res] W fun e w'=>e=.returned (.bool b2)∧W=w'):=fun W bG=>by
         rw[aA];have fu:=aa aZ.out bG;exact aG x.res W eU.2
        obtain⟨kq,B8⟩:∃ kq,kq=qe y x:=⟨_,rfl⟩
        have pk:Hid (∀ W,Bel w4 W→Calls Tryz.prog 63 #[.string y.team,.string y.res,.string x.team,.string x.res] W fun e w'=>e=.returned (.int .i64 kq)∧W=w'):=fun W bG=>by
         rw[B8];exact Fk _ _ _ _ W
        obtain⟨us,BK⟩:∃ us,us=(used L K x.team x.res):=⟨_,rfl⟩
        have BO:Hid (∀ W,Bel w4 W→Calls Tryz.prog 72 #[.agg #[.slice (some ⟨a0,0,none⟩) L.shapes.length L.shapes.length,.slice (some ⟨a1,0,none⟩) L.mends.length L.mends.length,.slice (some ⟨a2,0,none⟩) L.teams.length L.teams.length],.agg #[.int .i64 K.now,.int .i64 K.tick,.int .i64 K.given,.slice (some ⟨e0,0,none⟩) K.objects.length K.objects.length,.slice (some ⟨e1,0,none⟩) K.grants.length K.grants.length,.slice (some ⟨e2,0,none⟩) K.ledgers.length K.ledgers.length,.slice (some ⟨e3,0,none⟩) K.purses.length K.purses.length],.string x.team,.string x.res] W fun e w'=>e=.returned (.int .i64 us)∧Bel W w'):=fun W bG=>by
         rw[BK];have fu:=aa aZ.out bG;exact Ev L K a0 a1 a2 e0 e1 e2 e3 x.team x.res W (HA.out.1.later fu) (HA.out.2.later fu)
        obtain⟨ou,FZ⟩:∃ ou,ou=(wL K.purses x.team x.res):=⟨_,rfl⟩
        have B4:Hid (∀ W,Bel w4 W→Calls Tryz.prog 73 #[.agg #[.int .i64 K.now,.int .i64 K.tick,.int .i64 K.given,.slice (some ⟨e0,0,none⟩) K.objects.length K.objects.length,.slice (some ⟨e1,0,none⟩) K.grants.length K.grants.length,.slice (some ⟨e2,0,none⟩) K.ledgers.length K.ledgers.length,.slice (some ⟨e3,0,none⟩) K.purses.length K.purses.length],.string x.team,.string x.res] W fun e w'=>e=.returned (.int .i64 ou)∧Bel W w'):=fun W bG=>by
         rw[FZ];have fu:=aa aZ.out bG;exact zy K e0 e1 e2 e3 x.team x.res W (HA.out.2.later fu)
        have HP:Hid (fi L K (m+1)=(decide (kq<0)&&(b1&&b2&&decide (0≤x.free)&&decide (x.free≤x.most)&&decide (x.most≤1000000)&&decide (wrap64 (wrap64 (us+ou)+x.free)=x.most)))):=by
         show (cF _ (m+1)&&(cN L K (m+1)&&fD L K (m+1)))=_;unfold cN fD wm;rw[mX];unfold kK;rw[← hx,← bl,← aA,← BK,← FZ];rw[B8,hx,hy];show (decide _&&_)=_;rfl
        have HF:Hid ((decide (kq<0)&&(b1&&b2&&decide (0≤x.free)&&decide (x.free≤x.most)&&decide (x.most≤1000000)&&decide (wrap64 (wrap64 (us+ou)+x.free)=x.most)))=false→R=false):=fun hh=>by rw[mm.out];exact ba av (HP.out.trans hh)
        have HT:Hid ((decide (kq<0)&&(b1&&b2&&decide (0≤x.free)&&decide (x.free≤x.most)&&decide (x.most≤1000000)&&decide (wrap64 (wrap64 (us+ou)+x.free)=x.most)))=true→aC (fi L K) (m+1+1)=true):=fun hh=>aV HQ.out (HP.out.trans hh);clear bl aA BK FZ eU hx bA hy B8;obtain⟨pA,_⟩:=dE.out wr hW;obtain⟨yz,y0,y1,y2,y3,y4,y5,y6⟩:=pA;go_upto_region 13 with fail
        rw[← eo,← hE];clear eo hE yz y0 y1 y2 y3 y4 y5 y6 hW c0 c1 c2 c3;obtain⟨aS,bD⟩:=aS;obtain⟨yz,y0,y1,y2,y3,y4,y5,y6⟩:=aS;obtain⟨lz,l0,l1,l2⟩:=bD;have tE:=dR w4;have ez:=ao.lt;have ny:∀ px:Pst w4,E<px.W.heap.size:=fun px=>px.size ez;have Gt:∀ px:Pst w4,w.heap.size+1<px.W.heap.size:=fun px=>px.size yz;have Nk:∀ px:Pst w4,w.heap.size<px.W.heap.size:=fun px=>px.size lz;have za:∀ px:Pst w4,e2<px.W.heap.size:=fun px=>px.size (lo gJ dD.size);have Y0:∀ px:Pst w4,px.W.cell? ⟨w.heap.size+1,0,none⟩=some (.int .i64 K.now):=fun px=>px.cell y0 yz;have Y1:∀ px:Pst w4,px.W.cell? ⟨w.heap.size+1,1,none⟩=some (.int .i64 K.tick):=fun px=>px.cell y1 yz;have Y2:∀ px:Pst w4,px.W.cell? ⟨w.heap.size+1,2,none⟩=some (.int .i64 K.given):=fun px=>px.cell y2 yz;have Y3:∀ px:Pst w4,px.W.cell? ⟨w.heap.size+1,3,none⟩=some (.slice (some ⟨e0,0,none⟩) K.objects.length K.objects.length):=fun px=>px.cell y3 yz;have Y4:∀ px:Pst w4,px.W.cell? ⟨w.heap.size+1,4,none⟩=some (.slice (some ⟨e1,0,none⟩) K.grants.length K.grants.length):=fun px=>px.cell y4 yz;have Y5:∀ px:Pst w4,px.W.cell? ⟨w.heap.size+1,5,none⟩=some (.slice (some ⟨e2,0,none⟩) K.ledgers.length K.ledgers.length):=fun px=>px.cell y5 yz;have Y6:∀ px:Pst w4,px.W.cell? ⟨w.heap.size+1,6,none⟩=some (.slice (some ⟨e3,0,none⟩) K.purses.length K.purses.length):=fun px=>px.cell y6 yz;have L0:∀ px:Pst w4,px.W.cell? ⟨w.heap.size,0,none⟩=some (.slice (some ⟨a0,0,none⟩) L.shapes.length L.shapes.length):=fun px=>px.cell l0 lz;have L1:∀ px:Pst w4,px.W.cell? ⟨w.heap.size,1,none⟩=some (.slice (some ⟨a1,0,none⟩) L.mends.length L.mends.length):=fun px=>px.cell l1 lz;have L2:∀ px:Pst w4,px.W.cell? ⟨w.heap.size,2,none⟩=some (.slice (some ⟨a2,0,none⟩) L.teams.length L.teams.length):=fun px=>px.cell l2 lz;have X0:∀ px:Pst w4,px.W.cell? ⟨E,0,none⟩=some (.string x.team):=fun px=>px.cell (ao.at_ 0) ez;have X1:∀ px:Pst w4,px.W.cell? ⟨E,1,none⟩=some (.string x.res):=fun px=>px.cell (ao.at_ 1) ez;have X2:∀ px:Pst w4,px.W.cell? ⟨E,2,none⟩=some (.int .i64 x.most):=fun px=>px.cell (ao.at_ 2) ez;have X3:∀ px:Pst w4,px.W.cell? ⟨E,3,none⟩=some (.int .i64 x.free):=fun px=>px.cell (ao.at_ 3) ez;have D0:∀ px:Pst w4,px.W.cell? ⟨e2,m*4,none⟩=some (.string y.team):=fun px=>px.cell ((dD.cell (p:=⟨e2,m*4,none⟩) gJ).trans d0) (lo gJ dD.size);have D1:∀ px:Pst w4,px.W.cell? ⟨e2,m*4+1,none⟩=some (.string y.res):=fun px=>px.cell ((dD.cell (p:=⟨e2,m*4+1,none⟩) gJ).trans d1) (lo gJ dD.size);have D2:∀ px:Pst w4,px.W.cell? ⟨e2,m*4+2,none⟩=some (.int .i64 y.most):=fun px=>px.cell ((dD.cell (p:=⟨e2,m*4+2,none⟩) gJ).trans d2) (lo gJ dD.size);have D3:∀ px:Pst w4,px.W.cell? ⟨e2,m*4+3,none⟩=some (.int .i64 y.free):=fun px=>px.cell ((dD.cell (p:=⟨e2,m*4+3,none⟩) gJ).trans d3) (lo gJ dD.size);have BJ:(0:Int)≤(m:Int):=by omega
        have gB:(m:Int)<(K.ledgers.length:Int):=by omega
        have Kc:IntKind.i64.wrap (m:Int)=(m:Int):=j4 _ (by omega) (by omega);have hH:(0:Int)<(m:Int)+1:=by omega
        clear d0 d1 d2 d3;have x0:w4.cell? ⟨E,0,none⟩=some (.string x.team):=ao.at_ 0;have x1:w4.cell? ⟨E,1,none⟩=some (.string x.res):=ao.at_ 1;have x2:w4.cell? ⟨E,2,none⟩=some (.int .i64 x.most):=ao.at_ 2;have x3:w4.cell? ⟨E,3,none⟩=some (.int .i64 x.free):=ao.at_ 3;clear ao dD;go_wp2_with fail
        refine(ey.out w4 br).mono ?_;rintro e w7 ⟨rfl,rfl⟩;cases b1
        ·go_wp2;go_ret;exact⟨Pl.ae (HF.out (by simp)).symm,aa aZ.out br⟩
        ·go_wp2_with fail
         refine(gh.out w4 br).mono ?_;rintro e w7 ⟨rfl,rfl⟩;cases b2
         ·go_wp2;go_ret;exact⟨Pl.ae (HF.out (by simp)).symm,aa aZ.out br⟩
         ·by_cases h1:0≤x.free
          ·have H1:=hid (decide_eq_true h1);by_cases h2:x.free≤x.most
           ·have H2:=hid (decide_eq_true h2);by_cases h3:x.most≤1000000
            ·have H3:=hid (decide_eq_true h3);by_cases hk:kq<0
             ·have pv:=hid (decide_eq_true hk);have lO:¬ 0≤kq:=by omega
              have hk3:decide (0≤kq)=false:=decide_eq_false lO;go_wp2_with fail
              refine au w4 br (by kernel_rfl) (by kernel_rfl) ?_;repeat(first
               |go_big_quiet_skip
               |(go_big_quiet_want;go_big_quiet_op;first|go_big_quiet_on|(apply Exists.intro;refine⟨fun px=> ?_, ?_⟩;(focus(first|(go_at_call 63;((with_reducible refine(pk.out _ px.ok).mono ?_));rintro e w' ⟨he,hb⟩;exact⟨he,px,hb.symm⟩)));go_big_quiet_on)))
              refine wpQuiet_nil ?_;intro _ dN;obtain⟨x5,aX⟩:=dN;subst aX;by_cases hs:wrap64 (wrap64 (us+ou)+x.free)=x.most
              ·have Gj:=hid (decide_eq_true hs);go_wp2_with fail
               refine au w4 x5.ok (by kernel_rfl) (by kernel_rfl) ?_;repeat(first
                |go_big_quiet_skip
                |(go_big_quiet_want;go_big_quiet_op;first|go_big_quiet_on|(apply Exists.intro;refine⟨fun px=> ?_, ?_⟩;(focus(first|(go_at_call 72;((with_reducible refine(BO.out _ px.ok).mono ?_));rintro e w' ⟨he,hb⟩;exact⟨he,⟨w',aa px.ok hb⟩,rfl⟩)|(go_at_call 73;((with_reducible refine(B4.out _ px.ok).mono ?_));rintro e w' ⟨he,hb⟩;exact⟨he,⟨w',aa px.ok hb⟩,rfl⟩)));go_big_quiet_on)))
               refine wpQuiet_nil ?_;intro _ dN;obtain⟨x6,aX⟩:=dN;subst aX;go_wp2;go_roundw
               case rel=>exact⟨m+1+1,by omega,by go_num,HT.out (by simp[H1.out,H2.out,H3.out,pv.out,Gj.out]),aa js.out x6.ok⟩
               case measure=>simp[intOf];omega
              ·have Gj:=hid (decide_eq_false hs);go_wp2_with fail
               refine au w4 x5.ok (by kernel_rfl) (by kernel_rfl) ?_;repeat(first
                |go_big_quiet_skip
                |(go_big_quiet_want;go_big_quiet_op;first|go_big_quiet_on|(apply Exists.intro;refine⟨fun px=> ?_, ?_⟩;(focus(first|(go_at_call 72;((with_reducible refine(BO.out _ px.ok).mono ?_));rintro e w' ⟨he,hb⟩;exact⟨he,⟨w',aa px.ok hb⟩,rfl⟩)|(go_at_call 73;((with_reducible refine(B4.out _ px.ok).mono ?_));rintro e w' ⟨he,hb⟩;exact⟨he,⟨w',aa px.ok hb⟩,rfl⟩)));go_big_quiet_on)))
               refine wpQuiet_nil ?_;intro _ dN;obtain⟨x6,aX⟩:=dN;subst aX;go_wp2;go_ret;exact⟨Pl.ae (HF.out (by simp[Gj.out])).symm,aa aZ.out x6.ok⟩
             ·have pv:=hid (decide_eq_false hk);have lO:0≤kq:=by omega
              go_wp2_with fail
              refine au w4 br (by kernel_rfl) (by kernel_rfl) ?_;repeat(first
               |go_big_quiet_skip
               |(go_big_quiet_want;go_big_quiet_op;first|go_big_quiet_on|(apply Exists.intro;refine⟨fun px=> ?_, ?_⟩;(focus(first|(go_at_call 63;((with_reducible refine(pk.out _ px.ok).mono ?_));rintro e w' ⟨he,hb⟩;exact⟨he,px,hb.symm⟩)));go_big_quiet_on)))
              refine wpQuiet_nil ?_;intro _ dN;obtain⟨x5,aX⟩:=dN;subst aX;go_wp2;go_ret;exact⟨Pl.ae (HF.out (by simp[pv.out])).symm,aa aZ.out x5.ok⟩
            ·have H3:=hid (decide_eq_false h3);go_wp2;go_ret;exact⟨Pl.ae (HF.out (by simp[H3.out])).symm,aa aZ.out br⟩
           ·have H2:=hid (decide_eq_false h2);go_wp2;go_ret;exact⟨Pl.ae (HF.out (by simp[H2.out])).symm,aa aZ.out br⟩
          ·have H1:=hid (decide_eq_false h1);go_wp2;go_ret;exact⟨Pl.ae (HF.out (by simp[H1.out])).symm,aa aZ.out br⟩
      ·obtain rfl:q=K.ledgers.length:=by omega
       obtain⟨aS,_⟩:=dE.out wr hW;obtain⟨yz,y0,y1,y2,y3,y4,y5,y6⟩:=aS;go_wp2;go_ret;exact⟨Pl.ae (by rw[mm.out,HQ.out]),fw.out⟩
  ·have HE:Hid (R=false):=by show _=_;rw[HR.out];simp[Ih]
   go_wp2;go_ret;exact⟨Pl.ae HE.out.symm,cQ.out⟩
 ·have HE:Hid (R=false):=by show _=_;rw[HR.out];simp[EA]
  go_wp2;go_ret;exact⟨Pl.ae HE.out.symm,cQ.out⟩
end Go.Proofs.YtbiokpmdghmgcaaGreat
