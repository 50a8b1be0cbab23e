import Derived.Test.YtbiokpmdghmgcaaGreatBkI
namespace Go.Proofs.YtbiokpmdghmgcaaGreat
set_option maxRecDepth 8000
set_option maxHeartbeats 40000000
open Go.RowKit Go.Deep
def cD (f:Nat→Int) (q:Nat):Bool:=match q with
 |0=>true
 |m+1=>decide (f m<0)
theorem iA (f:Nat→Int):∀ n,aD (cD f) n=aD (fun i=>decide (f i<0)) (n - 1)
 |0=>rfl
 |1=>rfl
 |n+2=>by
  have:=iA f (n+1);show (aD (cD f) (n+1)&&cD f (n+1))=aD (fun i=>decide (f i<0)) (n+1);rw[this];rfl
theorem hQ (p r:Nat→Bool):∀ n,aD (fun i=>p i&&r i) n=(aD p n&&aD r n)
 |0=>rfl
 |n+1=>by
  simp only[aD,hQ p r n];cases aD p n<;>cases aD r n<;>cases p n<;>cases r n<;>rfl
theorem tU (a b:Int):decide (fl a b<0)=decide (a<b):=by
 unfold fl;by_cases h:a<b
 ·rw[if_pos h];simp[h]
 ·rw[if_neg h];split<;>simp[h]
theorem xt (K:Bk) (e0 e1 e2 e3:Nat) (w:World) (hK:gp w e0 e1 e2 e3 K):
  Calls Tryz.prog 27 #[.agg #[.int .i64 K.now,.int .i64 K.tick,.int .i64 K.given,.slice (some ⟨e0,0,none⟩) K.objects.length K.objects.length,.slice (some ⟨e1,0,none⟩) K.grants.length K.grants.length,.slice (some ⟨e2,0,none⟩) K.ledgers.length K.ledgers.length,.slice (some ⟨e3,0,none⟩) K.purses.length K.purses.length]] w fun e w'=>e=.returned (.bool (eU K))∧Bel w w':=by
 have HA:=hid hK;have hl:=hK.g.len;obtain⟨R,hR⟩:∃ R,R=eU K:=⟨_,rfl⟩
 have HR:Hid (R=(decide (K.grants.length≤24)&&aD (fun i=>cD (fun j=>fl (K.grants.getD j Gr.none).number (K.grants.getD (j+1) Gr.none).number) i&&bZ K i) K.grants.length)):=by
  show R=_;rw[hR,hQ,iA];unfold eU nC;cases decide (K.grants.length≤24)<;>rfl
 rw[← hR];clear hK hR;obtain⟨w1,dW⟩:∃ w1,w1=w.alloc (.cells #[.int .i64 K.now,.int .i64 K.tick,.int .i64 K.given,.slice (some ⟨e0,0,none⟩) K.objects.length K.objects.length,.slice (some ⟨e1,0,none⟩) K.grants.length K.grants.length,.slice (some ⟨e2,0,none⟩) K.ledgers.length K.ledgers.length,.slice (some ⟨e3,0,none⟩) K.purses.length K.purses.length] 47):=⟨_,rfl⟩
 have cN:Hid (Bel w w1):=by show Below _ _ _;rw[dW];exact ab br _
 have dD:Hid (∀ W,Bel w1 W→bm W w.heap.size (.int .i64 K.now) (.int .i64 K.tick) (.int .i64 K.given) (.slice (some ⟨e0,0,none⟩) K.objects.length K.objects.length) (.slice (some ⟨e1,0,none⟩) K.grants.length K.grants.length) (.slice (some ⟨e2,0,none⟩) K.ledgers.length K.ledgers.length) (.slice (some ⟨e3,0,none⟩) K.purses.length K.purses.length)):=by
  have q:bm w1 w.heap.size (.int .i64 K.now) (.int .i64 K.tick) (.int .i64 K.given) (.slice (some ⟨e0,0,none⟩) K.objects.length K.objects.length) (.slice (some ⟨e1,0,none⟩) K.grants.length K.grants.length) (.slice (some ⟨e2,0,none⟩) K.ledgers.length K.ledgers.length) (.slice (some ⟨e3,0,none⟩) K.purses.length K.purses.length):=by rw[dW];exact bm.bV w _ _ _ _ _ _ _ _ _ rfl
  intro W hW;exact q.later hW
 go_enter Tryz.func27,Tryz.ntmps27
 go_upto_region 1 with fail
 rw[← dW];clear dW;obtain⟨yz,y0,y1,y2,y3,y4,y5,y6⟩:=dD.out w1 br;by_cases hlen:K.grants.length≤24
 ·have l3:Hid (R=aD (fun i=>cD (fun j=>fl (K.grants.getD j Gr.none).number (K.grants.getD (j+1) Gr.none).number) i&&bZ K i) K.grants.length):=by show R=_;rw[HR.out];simp[hlen]
  go_wp2;clear yz y0 y1 y2 y3 y4 y5 y6 hlen;go_loopw [3] (fun i wr=>∃ q:Nat,q≤K.grants.length∧i=.int .i64 q∧aD (fun i=>cD (fun j=>fl (K.grants.getD j Gr.none).number (K.grants.getD (j+1) Gr.none).number) i&&bZ K i) q=true∧Bel w1 wr) (fun i _=>K.grants.length - (intOf i).toNat)
  case atStart=>exact⟨0,nz,rfl,rfl,br⟩
  case round=>
   obtain⟨q,hq,rfl,ha,hW⟩:=hrel;have HQ:=hid ha;have fu:=hid (aa cN.out hW);clear ha;by_cases aw:q<K.grants.length
   ·by_cases h0:q=0
    ·subst h0;obtain⟨x,hx⟩:∃ x,x=K.grants.getD (0) Gr.none:=⟨_,rfl⟩
     have bC:=(HA.out.later fu.out).g;have gx:=bC.lt;have eb:=bC.at_ (0) aw;rw[← hx]at eb;obtain⟨b1x,_,c0,c1,c2,c3,c4,c5,c6,sQ⟩:=eb;obtain⟨w4,ej⟩:∃ w4,w4=wr.alloc (.cells #[.int .i64 x.number,.string x.too,.string x.by_,.slice (some ⟨b1x,0,none⟩) x.rule.verbs.length x.rule.verbs.length,.string x.rule.kind,.string x.rule.team,.string x.rule.pre] 126):=⟨_,rfl⟩
     obtain⟨E,hE⟩:∃ E,E=wr.heap.size:=⟨_,rfl⟩
     have dC:Bel wr w4:=by rw[ej];exact ab br _
     have je:=hid (aa hW dC);have aY:=hid (aa fu.out dC);have aR:=dD.out w4 je.out;have ao:aT w4 E #[.int .i64 x.number,.string x.too,.string x.by_,.slice (some ⟨b1x,0,none⟩) x.rule.verbs.length x.rule.verbs.length,.string x.rule.kind,.string x.rule.team,.string x.rule.pre]:=by rw[ej];exact aT.bV _ _ _ _ hE
     obtain⟨b1,bj⟩:∃ b1,b1=(within x.number 1 K.given):=⟨_,rfl⟩
     have eu:Hid (∀ W,Bel w4 W→Calls Tryz.prog 25 #[.int .i64 x.number,.int .i64 1,.int .i64 K.given] W fun e w'=>e=.returned (.bool b1)∧W=w'):=fun W bG=>by
      rw[bj];have ft:=aa aY.out bG;exact bb _ _ _ W
     obtain⟨b2,aA⟩:∃ b2,b2=(Pl.aq x.too):=⟨_,rfl⟩
     have fV:Hid (∀ W,Bel w4 W→Calls Tryz.prog 68 #[.string x.too] W fun e w'=>e=.returned (.bool b2)∧W=w'):=fun W bG=>by
      rw[aA];have ft:=aa aY.out bG;exact aH x.too W sQ.2.1
     obtain⟨b3,aQ⟩:∃ b3,b3=(Pl.aq x.by_):=⟨_,rfl⟩
     have fc:Hid (∀ W,Bel w4 W→Calls Tryz.prog 68 #[.string x.by_] W fun e w'=>e=.returned (.bool b3)∧W=w'):=fun W bG=>by
      rw[aQ];have ft:=aa aY.out bG;exact aH x.by_ W sQ.2.2.1
     obtain⟨b4,cq⟩:∃ b4,b4=(eo x.rule):=⟨_,rfl⟩
     have eX:Hid (∀ W,Bel w4 W→Calls Tryz.prog 69 #[.agg #[.slice (some ⟨b1x,0,none⟩) x.rule.verbs.length x.rule.verbs.length,.string x.rule.kind,.string x.rule.team,.string x.rule.pre]] W fun e w'=>e=.returned (.bool b4)∧Bel W w'):=fun W bG=>by
      rw[cq];have ft:=aa aY.out bG;exact sf b1x x.rule W ((sQ.1.later dC).later bG) sQ.2.2.2.2
     have HP:Hid ((fun i=>cD (fun j=>fl (K.grants.getD j Gr.none).number (K.grants.getD (j+1) Gr.none).number) i&&bZ K i) (0)=(b1&&true&&b2&&(x.by_.toList.isEmpty||b3)&&b4)):=by
      show (cD _ (0)&&bZ K (0))=_;unfold bZ m8;rw[← hx,← bj,← aA,← aQ,← cq];show (true&&_)=_;cases b1<;>simp
     have HF:Hid ((b1&&true&&b2&&(x.by_.toList.isEmpty||b3)&&b4)=false→R=false):=fun hh=>by rw[l3.out];exact ba aw (HP.out.trans hh)
     have HT:Hid ((b1&&true&&b2&&(x.by_.toList.isEmpty||b3)&&b4)=true→aD (fun i=>cD (fun j=>fl (K.grants.getD j Gr.none).number (K.grants.getD (j+1) Gr.none).number) i&&bZ K i) (0+1)=true):=fun hh=>aU HQ.out (HP.out.trans hh);clear bj aA aQ cq sQ hx bC;obtain⟨yz,y0,y1,y2,y3,y4,y5,y6⟩:=dD.out wr hW;go_upto_region 7 with fail
     rw[← ej,← hE];clear ej hE yz y0 y1 y2 y3 y4 y5 y6 hW c0 c1 c2 c3 c4 c5 c6;obtain⟨yz,y0,y1,y2,y3,y4,y5,y6⟩:=aR;have uV:=ei w4;have ez:=ao.lt;have mT:∀ px:Pst w4,E<px.W.heap.size:=fun px=>px.size ez;have FL:∀ px:Pst w4,w.heap.size<px.W.heap.size:=fun px=>px.size yz;have xQ:∀ px:Pst w4,e1<px.W.heap.size:=fun px=>px.size (lo gx dC.size);have Y0:∀ px:Pst w4,px.W.cell? ⟨w.heap.size,0,none⟩=some (.int .i64 K.now):=fun px=>px.cell y0 yz;have Y1:∀ px:Pst w4,px.W.cell? ⟨w.heap.size,1,none⟩=some (.int .i64 K.tick):=fun px=>px.cell y1 yz;have Y2:∀ px:Pst w4,px.W.cell? ⟨w.heap.size,2,none⟩=some (.int .i64 K.given):=fun px=>px.cell y2 yz;have Y3:∀ px:Pst w4,px.W.cell? ⟨w.heap.size,3,none⟩=some (.slice (some ⟨e0,0,none⟩) K.objects.length K.objects.length):=fun px=>px.cell y3 yz;have Y4:∀ px:Pst w4,px.W.cell? ⟨w.heap.size,4,none⟩=some (.slice (some ⟨e1,0,none⟩) K.grants.length K.grants.length):=fun px=>px.cell y4 yz;have Y5:∀ px:Pst w4,px.W.cell? ⟨w.heap.size,5,none⟩=some (.slice (some ⟨e2,0,none⟩) K.ledgers.length K.ledgers.length):=fun px=>px.cell y5 yz;have Y6:∀ px:Pst w4,px.W.cell? ⟨w.heap.size,6,none⟩=some (.slice (some ⟨e3,0,none⟩) K.purses.length K.purses.length):=fun px=>px.cell y6 yz;have X0:∀ px:Pst w4,px.W.cell? ⟨E,0,none⟩=some (.int .i64 x.number):=fun px=>px.cell (ao.at_ 0) ez;have X1:∀ px:Pst w4,px.W.cell? ⟨E,1,none⟩=some (.string x.too):=fun px=>px.cell (ao.at_ 1) ez;have X2:∀ px:Pst w4,px.W.cell? ⟨E,2,none⟩=some (.string x.by_):=fun px=>px.cell (ao.at_ 2) ez;have X3:∀ px:Pst w4,px.W.cell? ⟨E,3,none⟩=some (.slice (some ⟨b1x,0,none⟩) x.rule.verbs.length x.rule.verbs.length):=fun px=>px.cell (ao.at_ 3) ez;have X4:∀ px:Pst w4,px.W.cell? ⟨E,4,none⟩=some (.string x.rule.kind):=fun px=>px.cell (ao.at_ 4) ez;have X5:∀ px:Pst w4,px.W.cell? ⟨E,5,none⟩=some (.string x.rule.team):=fun px=>px.cell (ao.at_ 5) ez;have X6:∀ px:Pst w4,px.W.cell? ⟨E,6,none⟩=some (.string x.rule.pre):=fun px=>px.cell (ao.at_ 6) ez;clear yz y0 y1 y2 y3 y4 y5 y6 ao ez dC;cases b1
     ·go_wp2_with fail
      refine au w4 br (by kernel_rfl) (by kernel_rfl) ?_;repeat(first
       |go_big_quiet_skip
       |(go_big_quiet_want;go_big_quiet_op;first|go_big_quiet_on|(apply Exists.intro;refine⟨fun px=> ?_, ?_⟩;(focus(first|(go_at_call 25;(first|(with_reducible refine(eu.out _ px.ok).mono ?_));rintro e w' ⟨he,hb⟩;exact⟨he,px,hb.symm⟩)|(go_at_call 68;(first|(with_reducible refine(fV.out _ px.ok).mono ?_)|(with_reducible refine(fc.out _ px.ok).mono ?_));rintro e w' ⟨he,hb⟩;exact⟨he,px,hb.symm⟩)|(go_at_call 69;(first|(with_reducible refine(eX.out _ px.ok).mono ?_));rintro e w' ⟨he,hb⟩;exact⟨he,⟨w',aa px.ok hb⟩,rfl⟩)));go_big_quiet_on)))
      refine wpQuiet_nil ?_;intro _ dS;obtain⟨x6,aX⟩:=dS;subst aX;go_wp2;go_ret;exact⟨Pl.ae (HF.out (by simp)).symm,aa aY.out x6.ok⟩
     ·cases b2
      ·go_wp2_with fail
       refine au w4 br (by kernel_rfl) (by kernel_rfl) ?_;repeat(first
        |go_big_quiet_skip
        |(go_big_quiet_want;go_big_quiet_op;first|go_big_quiet_on|(apply Exists.intro;refine⟨fun px=> ?_, ?_⟩;(focus(first|(go_at_call 25;(first|(with_reducible refine(eu.out _ px.ok).mono ?_));rintro e w' ⟨he,hb⟩;exact⟨he,px,hb.symm⟩)|(go_at_call 68;(first|(with_reducible refine(fV.out _ px.ok).mono ?_)|(with_reducible refine(fc.out _ px.ok).mono ?_));rintro e w' ⟨he,hb⟩;exact⟨he,px,hb.symm⟩)|(go_at_call 69;(first|(with_reducible refine(eX.out _ px.ok).mono ?_));rintro e w' ⟨he,hb⟩;exact⟨he,⟨w',aa px.ok hb⟩,rfl⟩)));go_big_quiet_on)))
       refine wpQuiet_nil ?_;intro _ dS;obtain⟨x6,aX⟩:=dS;subst aX;go_wp2;go_ret;exact⟨Pl.ae (HF.out (by simp)).symm,aa aY.out x6.ok⟩
      ·cases he:x.by_.toList.isEmpty
       ·have ES:=hid he;cases b3
        ·go_wp2_with fail
         refine au w4 br (by kernel_rfl) (by kernel_rfl) ?_;repeat(first
          |go_big_quiet_skip
          |(go_big_quiet_want;go_big_quiet_op;first|go_big_quiet_on|(apply Exists.intro;refine⟨fun px=> ?_, ?_⟩;(focus(first|(go_at_call 25;(first|(with_reducible refine(eu.out _ px.ok).mono ?_));rintro e w' ⟨he,hb⟩;exact⟨he,px,hb.symm⟩)|(go_at_call 68;(first|(with_reducible refine(fV.out _ px.ok).mono ?_)|(with_reducible refine(fc.out _ px.ok).mono ?_));rintro e w' ⟨he,hb⟩;exact⟨he,px,hb.symm⟩)|(go_at_call 69;(first|(with_reducible refine(eX.out _ px.ok).mono ?_));rintro e w' ⟨he,hb⟩;exact⟨he,⟨w',aa px.ok hb⟩,rfl⟩)));go_big_quiet_on)))
         refine wpQuiet_nil ?_;intro _ dS;obtain⟨x6,aX⟩:=dS;subst aX;go_wp2;go_ret;exact⟨Pl.ae (HF.out (by simp[ES.out])).symm,aa aY.out x6.ok⟩
        ·cases b4
         ·go_wp2_with fail
          refine au w4 br (by kernel_rfl) (by kernel_rfl) ?_;repeat(first
           |go_big_quiet_skip
           |(go_big_quiet_want;go_big_quiet_op;first|go_big_quiet_on|(apply Exists.intro;refine⟨fun px=> ?_, ?_⟩;(focus(first|(go_at_call 25;(first|(with_reducible refine(eu.out _ px.ok).mono ?_));rintro e w' ⟨he,hb⟩;exact⟨he,px,hb.symm⟩)|(go_at_call 68;(first|(with_reducible refine(fV.out _ px.ok).mono ?_)|(with_reducible refine(fc.out _ px.ok).mono ?_));rintro e w' ⟨he,hb⟩;exact⟨he,px,hb.symm⟩)|(go_at_call 69;(first|(with_reducible refine(eX.out _ px.ok).mono ?_));rintro e w' ⟨he,hb⟩;exact⟨he,⟨w',aa px.ok hb⟩,rfl⟩)));go_big_quiet_on)))
          refine wpQuiet_nil ?_;intro _ dS;obtain⟨x6,aX⟩:=dS;subst aX;go_wp2;go_ret;exact⟨Pl.ae (HF.out (by simp)).symm,aa aY.out x6.ok⟩
         ·go_wp2_with fail
          refine au w4 br (by kernel_rfl) (by kernel_rfl) ?_;repeat(first
           |go_big_quiet_skip
           |(go_big_quiet_want;go_big_quiet_op;first|go_big_quiet_on|(apply Exists.intro;refine⟨fun px=> ?_, ?_⟩;(focus(first|(go_at_call 25;(first|(with_reducible refine(eu.out _ px.ok).mono ?_));rintro e w' ⟨he,hb⟩;exact⟨he,px,hb.symm⟩)|(go_at_call 68;(first|(with_reducible refine(fV.out _ px.ok).mono ?_)|(with_reducible refine(fc.out _ px.ok).mono ?_));rintro e w' ⟨he,hb⟩;exact⟨he,px,hb.symm⟩)|(go_at_call 69;(first|(with_reducible refine(eX.out _ px.ok).mono ?_));rintro e w' ⟨he,hb⟩;exact⟨he,⟨w',aa px.ok hb⟩,rfl⟩)));go_big_quiet_on)))
          refine wpQuiet_nil ?_;intro _ dS;obtain⟨x6,aX⟩:=dS;subst aX;go_wp2;go_roundw
          case rel=>exact⟨0+1,by omega,by go_num,HT.out (by simp),aa je.out x6.ok⟩
          case measure=>simp[intOf];omega
       ·have ES:=hid he;cases b4
        ·go_wp2_with fail
         refine au w4 br (by kernel_rfl) (by kernel_rfl) ?_;repeat(first
          |go_big_quiet_skip
          |(go_big_quiet_want;go_big_quiet_op;first|go_big_quiet_on|(apply Exists.intro;refine⟨fun px=> ?_, ?_⟩;(focus(first|(go_at_call 25;(first|(with_reducible refine(eu.out _ px.ok).mono ?_));rintro e w' ⟨he,hb⟩;exact⟨he,px,hb.symm⟩)|(go_at_call 68;(first|(with_reducible refine(fV.out _ px.ok).mono ?_)|(with_reducible refine(fc.out _ px.ok).mono ?_));rintro e w' ⟨he,hb⟩;exact⟨he,px,hb.symm⟩)|(go_at_call 69;(first|(with_reducible refine(eX.out _ px.ok).mono ?_));rintro e w' ⟨he,hb⟩;exact⟨he,⟨w',aa px.ok hb⟩,rfl⟩)));go_big_quiet_on)))
         refine wpQuiet_nil ?_;intro _ dS;obtain⟨x6,aX⟩:=dS;subst aX;go_wp2;go_ret;exact⟨Pl.ae (HF.out (by simp)).symm,aa aY.out x6.ok⟩
        ·go_wp2_with fail
         refine au w4 br (by kernel_rfl) (by kernel_rfl) ?_;repeat(first
          |go_big_quiet_skip
          |(go_big_quiet_want;go_big_quiet_op;first|go_big_quiet_on|(apply Exists.intro;refine⟨fun px=> ?_, ?_⟩;(focus(first|(go_at_call 25;(first|(with_reducible refine(eu.out _ px.ok).mono ?_));rintro e w' ⟨he,hb⟩;exact⟨he,px,hb.symm⟩)|(go_at_call 68;(first|(with_reducible refine(fV.out _ px.ok).mono ?_)|(with_reducible refine(fc.out _ px.ok).mono ?_));rintro e w' ⟨he,hb⟩;exact⟨he,px,hb.symm⟩)|(go_at_call 69;(first|(with_reducible refine(eX.out _ px.ok).mono ?_));rintro e w' ⟨he,hb⟩;exact⟨he,⟨w',aa px.ok hb⟩,rfl⟩)));go_big_quiet_on)))
         refine wpQuiet_nil ?_;intro _ dS;obtain⟨x6,aX⟩:=dS;subst aX;go_wp2;go_roundw
         case rel=>exact⟨0+1,by omega,by go_num,HT.out (by simp[ES.out]),aa je.out x6.ok⟩
         case measure=>simp[intOf];omega
    ·obtain⟨m,rfl⟩:∃ m,q=m+1:=⟨q - 1,by omega⟩
     clear h0;obtain⟨x,hx⟩:∃ x,x=K.grants.getD (m+1) Gr.none:=⟨_,rfl⟩
     have bC:=(HA.out.later fu.out).g;have gx:=bC.lt;have eb:=bC.at_ (m+1) aw;rw[← hx]at eb;obtain⟨b1x,_,c0,c1,c2,c3,c4,c5,c6,sQ⟩:=eb;obtain⟨y,hy⟩:∃ y,y=K.grants.getD m Gr.none:=⟨_,rfl⟩
     have eb:=bC.at_ m (by omega);rw[← hy]at eb;obtain⟨_,_,d0,_⟩:=eb;obtain⟨w4,ej⟩:∃ w4,w4=wr.alloc (.cells #[.int .i64 x.number,.string x.too,.string x.by_,.slice (some ⟨b1x,0,none⟩) x.rule.verbs.length x.rule.verbs.length,.string x.rule.kind,.string x.rule.team,.string x.rule.pre] 126):=⟨_,rfl⟩
     obtain⟨E,hE⟩:∃ E,E=wr.heap.size:=⟨_,rfl⟩
     have dC:Bel wr w4:=by rw[ej];exact ab br _
     have je:=hid (aa hW dC);have aY:=hid (aa fu.out dC);have aR:=dD.out w4 je.out;have ao:aT w4 E #[.int .i64 x.number,.string x.too,.string x.by_,.slice (some ⟨b1x,0,none⟩) x.rule.verbs.length x.rule.verbs.length,.string x.rule.kind,.string x.rule.team,.string x.rule.pre]:=by rw[ej];exact aT.bV _ _ _ _ hE
     obtain⟨b1,bj⟩:∃ b1,b1=(within x.number 1 K.given):=⟨_,rfl⟩
     have eu:Hid (∀ W,Bel w4 W→Calls Tryz.prog 25 #[.int .i64 x.number,.int .i64 1,.int .i64 K.given] W fun e w'=>e=.returned (.bool b1)∧W=w'):=fun W bG=>by
      rw[bj];have ft:=aa aY.out bG;exact bb _ _ _ W
     obtain⟨b2,aA⟩:∃ b2,b2=(Pl.aq x.too):=⟨_,rfl⟩
     have fV:Hid (∀ W,Bel w4 W→Calls Tryz.prog 68 #[.string x.too] W fun e w'=>e=.returned (.bool b2)∧W=w'):=fun W bG=>by
      rw[aA];have ft:=aa aY.out bG;exact aH x.too W sQ.2.1
     obtain⟨b3,aQ⟩:∃ b3,b3=(Pl.aq x.by_):=⟨_,rfl⟩
     have fc:Hid (∀ W,Bel w4 W→Calls Tryz.prog 68 #[.string x.by_] W fun e w'=>e=.returned (.bool b3)∧W=w'):=fun W bG=>by
      rw[aQ];have ft:=aa aY.out bG;exact aH x.by_ W sQ.2.2.1
     obtain⟨b4,cq⟩:∃ b4,b4=(eo x.rule):=⟨_,rfl⟩
     have eX:Hid (∀ W,Bel w4 W→Calls Tryz.prog 69 #[.agg #[.slice (some ⟨b1x,0,none⟩) x.rule.verbs.length x.rule.verbs.length,.string x.rule.kind,.string x.rule.team,.string x.rule.pre]] W fun e w'=>e=.returned (.bool b4)∧Bel W w'):=fun W bG=>by
      rw[cq];have ft:=aa aY.out bG;exact sf b1x x.rule W ((sQ.1.later dC).later bG) sQ.2.2.2.2
     have HP:Hid ((fun i=>cD (fun j=>fl (K.grants.getD j Gr.none).number (K.grants.getD (j+1) Gr.none).number) i&&bZ K i) (m+1)=(b1&&decide (y.number<x.number)&&b2&&(x.by_.toList.isEmpty||b3)&&b4)):=by
      show (cD _ (m+1)&&bZ K (m+1))=_;unfold bZ m8;rw[← hx,← bj,← aA,← aQ,← cq];show (decide (fl _ _<0)&&_)=_;rw[tU,← hx,← hy];cases b1<;>cases decide (y.number<x.number)<;>simp
     have HF:Hid ((b1&&decide (y.number<x.number)&&b2&&(x.by_.toList.isEmpty||b3)&&b4)=false→R=false):=fun hh=>by rw[l3.out];exact ba aw (HP.out.trans hh)
     have HT:Hid ((b1&&decide (y.number<x.number)&&b2&&(x.by_.toList.isEmpty||b3)&&b4)=true→aD (fun i=>cD (fun j=>fl (K.grants.getD j Gr.none).number (K.grants.getD (j+1) Gr.none).number) i&&bZ K i) (m+1+1)=true):=fun hh=>aU HQ.out (HP.out.trans hh);clear bj aA aQ cq sQ hx bC hy;obtain⟨yz,y0,y1,y2,y3,y4,y5,y6⟩:=dD.out wr hW;go_upto_region 7 with fail
     rw[← ej,← hE];clear ej hE yz y0 y1 y2 y3 y4 y5 y6 hW c0 c1 c2 c3 c4 c5 c6;obtain⟨yz,y0,y1,y2,y3,y4,y5,y6⟩:=aR;have uV:=ei w4;have ez:=ao.lt;have mT:∀ px:Pst w4,E<px.W.heap.size:=fun px=>px.size ez;have FL:∀ px:Pst w4,w.heap.size<px.W.heap.size:=fun px=>px.size yz;have xQ:∀ px:Pst w4,e1<px.W.heap.size:=fun px=>px.size (lo gx dC.size);have Y0:∀ px:Pst w4,px.W.cell? ⟨w.heap.size,0,none⟩=some (.int .i64 K.now):=fun px=>px.cell y0 yz;have Y1:∀ px:Pst w4,px.W.cell? ⟨w.heap.size,1,none⟩=some (.int .i64 K.tick):=fun px=>px.cell y1 yz;have Y2:∀ px:Pst w4,px.W.cell? ⟨w.heap.size,2,none⟩=some (.int .i64 K.given):=fun px=>px.cell y2 yz;have Y3:∀ px:Pst w4,px.W.cell? ⟨w.heap.size,3,none⟩=some (.slice (some ⟨e0,0,none⟩) K.objects.length K.objects.length):=fun px=>px.cell y3 yz;have Y4:∀ px:Pst w4,px.W.cell? ⟨w.heap.size,4,none⟩=some (.slice (some ⟨e1,0,none⟩) K.grants.length K.grants.length):=fun px=>px.cell y4 yz;have Y5:∀ px:Pst w4,px.W.cell? ⟨w.heap.size,5,none⟩=some (.slice (some ⟨e2,0,none⟩) K.ledgers.length K.ledgers.length):=fun px=>px.cell y5 yz;have Y6:∀ px:Pst w4,px.W.cell? ⟨w.heap.size,6,none⟩=some (.slice (some ⟨e3,0,none⟩) K.purses.length K.purses.length):=fun px=>px.cell y6 yz;have X0:∀ px:Pst w4,px.W.cell? ⟨E,0,none⟩=some (.int .i64 x.number):=fun px=>px.cell (ao.at_ 0) ez;have X1:∀ px:Pst w4,px.W.cell? ⟨E,1,none⟩=some (.string x.too):=fun px=>px.cell (ao.at_ 1) ez;have X2:∀ px:Pst w4,px.W.cell? ⟨E,2,none⟩=some (.string x.by_):=fun px=>px.cell (ao.at_ 2) ez;have X3:∀ px:Pst w4,px.W.cell? ⟨E,3,none⟩=some (.slice (some ⟨b1x,0,none⟩) x.rule.verbs.length x.rule.verbs.length):=fun px=>px.cell (ao.at_ 3) ez;have X4:∀ px:Pst w4,px.W.cell? ⟨E,4,none⟩=some (.string x.rule.kind):=fun px=>px.cell (ao.at_ 4) ez;have X5:∀ px:Pst w4,px.W.cell? ⟨E,5,none⟩=some (.string x.rule.team):=fun px=>px.cell (ao.at_ 5) ez;have X6:∀ px:Pst w4,px.W.cell? ⟨E,6,none⟩=some (.string x.rule.pre):=fun px=>px.cell (ao.at_ 6) ez;have D0:∀ px:Pst w4,px.W.cell? ⟨e1,m*7,none⟩=some (.int .i64 y.number):=fun px=>px.cell ((dC.cell (p:=⟨e1,m*7,none⟩) gx).trans d0) (lo gx dC.size);have AH:(0:Int)≤(m:Int):=by omega
     have gk:(m:Int)<(K.grants.length:Int):=by omega
     have Jc:IntKind.i64.wrap (m:Int)=(m:Int):=jM _ (by omega) (by omega);have gQ:(0:Int)<(m:Int)+1:=by omega
     clear d0;clear yz y0 y1 y2 y3 y4 y5 y6 ao ez dC;cases b1
     ·go_wp2_with fail
      refine au w4 br (by kernel_rfl) (by kernel_rfl) ?_;repeat(first
       |go_big_quiet_skip
       |(go_big_quiet_want;go_big_quiet_op;first|go_big_quiet_on|(apply Exists.intro;refine⟨fun px=> ?_, ?_⟩;(focus(first|(go_at_call 25;(first|(with_reducible refine(eu.out _ px.ok).mono ?_));rintro e w' ⟨he,hb⟩;exact⟨he,px,hb.symm⟩)|(go_at_call 68;(first|(with_reducible refine(fV.out _ px.ok).mono ?_)|(with_reducible refine(fc.out _ px.ok).mono ?_));rintro e w' ⟨he,hb⟩;exact⟨he,px,hb.symm⟩)|(go_at_call 69;(first|(with_reducible refine(eX.out _ px.ok).mono ?_));rintro e w' ⟨he,hb⟩;exact⟨he,⟨w',aa px.ok hb⟩,rfl⟩)));go_big_quiet_on)))
      refine wpQuiet_nil ?_;intro _ dS;obtain⟨x6,aX⟩:=dS;subst aX;go_wp2;go_ret;exact⟨Pl.ae (HF.out (by simp)).symm,aa aY.out x6.ok⟩
     ·by_cases hs:y.number<x.number
      ·have HS:=hid (decide_eq_true hs);have hs3:¬ x.number≤y.number:=by omega
       have hs4:decide (x.number≤y.number)=false:=decide_eq_false hs3;cases b2
       ·go_wp2_with fail
        refine au w4 br (by kernel_rfl) (by kernel_rfl) ?_;repeat(first
         |go_big_quiet_skip
         |(go_big_quiet_want;go_big_quiet_op;first|go_big_quiet_on|(apply Exists.intro;refine⟨fun px=> ?_, ?_⟩;(focus(first|(go_at_call 25;(first|(with_reducible refine(eu.out _ px.ok).mono ?_));rintro e w' ⟨he,hb⟩;exact⟨he,px,hb.symm⟩)|(go_at_call 68;(first|(with_reducible refine(fV.out _ px.ok).mono ?_)|(with_reducible refine(fc.out _ px.ok).mono ?_));rintro e w' ⟨he,hb⟩;exact⟨he,px,hb.symm⟩)|(go_at_call 69;(first|(with_reducible refine(eX.out _ px.ok).mono ?_));rintro e w' ⟨he,hb⟩;exact⟨he,⟨w',aa px.ok hb⟩,rfl⟩)));go_big_quiet_on)))
        refine wpQuiet_nil ?_;intro _ dS;obtain⟨x6,aX⟩:=dS;subst aX;go_wp2;go_ret;exact⟨Pl.ae (HF.out (by simp)).symm,aa aY.out x6.ok⟩
       ·cases he:x.by_.toList.isEmpty
        ·have ES:=hid he;cases b3
         ·go_wp2_with fail
          refine au w4 br (by kernel_rfl) (by kernel_rfl) ?_;repeat(first
           |go_big_quiet_skip
           |(go_big_quiet_want;go_big_quiet_op;first|go_big_quiet_on|(apply Exists.intro;refine⟨fun px=> ?_, ?_⟩;(focus(first|(go_at_call 25;(first|(with_reducible refine(eu.out _ px.ok).mono ?_));rintro e w' ⟨he,hb⟩;exact⟨he,px,hb.symm⟩)|(go_at_call 68;(first|(with_reducible refine(fV.out _ px.ok).mono ?_)|(with_reducible refine(fc.out _ px.ok).mono ?_));rintro e w' ⟨he,hb⟩;exact⟨he,px,hb.symm⟩)|(go_at_call 69;(first|(with_reducible refine(eX.out _ px.ok).mono ?_));rintro e w' ⟨he,hb⟩;exact⟨he,⟨w',aa px.ok hb⟩,rfl⟩)));go_big_quiet_on)))
          refine wpQuiet_nil ?_;intro _ dS;obtain⟨x6,aX⟩:=dS;subst aX;go_wp2;go_ret;exact⟨Pl.ae (HF.out (by simp[ES.out])).symm,aa aY.out x6.ok⟩
         ·cases b4
          ·go_wp2_with fail
           refine au w4 br (by kernel_rfl) (by kernel_rfl) ?_;repeat(first
            |go_big_quiet_skip
            |(go_big_quiet_want;go_big_quiet_op;first|go_big_quiet_on|(apply Exists.intro;refine⟨fun px=> ?_, ?_⟩;(focus(first|(go_at_call 25;(first|(with_reducible refine(eu.out _ px.ok).mono ?_));rintro e w' ⟨he,hb⟩;exact⟨he,px,hb.symm⟩)|(go_at_call 68;(first|(with_reducible refine(fV.out _ px.ok).mono ?_)|(with_reducible refine(fc.out _ px.ok).mono ?_));rintro e w' ⟨he,hb⟩;exact⟨he,px,hb.symm⟩)|(go_at_call 69;(first|(with_reducible refine(eX.out _ px.ok).mono ?_));rintro e w' ⟨he,hb⟩;exact⟨he,⟨w',aa px.ok hb⟩,rfl⟩)));go_big_quiet_on)))
           refine wpQuiet_nil ?_;intro _ dS;obtain⟨x6,aX⟩:=dS;subst aX;go_wp2;go_ret;exact⟨Pl.ae (HF.out (by simp)).symm,aa aY.out x6.ok⟩
          ·go_wp2_with fail
           refine au w4 br (by kernel_rfl) (by kernel_rfl) ?_;repeat(first
            |go_big_quiet_skip
            |(go_big_quiet_want;go_big_quiet_op;first|go_big_quiet_on|(apply Exists.intro;refine⟨fun px=> ?_, ?_⟩;(focus(first|(go_at_call 25;(first|(with_reducible refine(eu.out _ px.ok).mono ?_));rintro e w' ⟨he,hb⟩;exact⟨he,px,hb.symm⟩)|(go_at_call 68;(first|(with_reducible refine(fV.out _ px.ok).mono ?_)|(with_reducible refine(fc.out _ px.ok).mono ?_));rintro e w' ⟨he,hb⟩;exact⟨he,px,hb.symm⟩)|(go_at_call 69;(first|(with_reducible refine(eX.out _ px.ok).mono ?_));rintro e w' ⟨he,hb⟩;exact⟨he,⟨w',aa px.ok hb⟩,rfl⟩)));go_big_quiet_on)))
           refine wpQuiet_nil ?_;intro _ dS;obtain⟨x6,aX⟩:=dS;subst aX;go_wp2;go_roundw
           case rel=>exact⟨m+1+1,by omega,by go_num,HT.out (by simp[HS.out]),aa je.out x6.ok⟩
           case measure=>simp[intOf];omega
        ·have ES:=hid he;cases b4
         ·go_wp2_with fail
          refine au w4 br (by kernel_rfl) (by kernel_rfl) ?_;repeat(first
           |go_big_quiet_skip
           |(go_big_quiet_want;go_big_quiet_op;first|go_big_quiet_on|(apply Exists.intro;refine⟨fun px=> ?_, ?_⟩;(focus(first|(go_at_call 25;(first|(with_reducible refine(eu.out _ px.ok).mono ?_));rintro e w' ⟨he,hb⟩;exact⟨he,px,hb.symm⟩)|(go_at_call 68;(first|(with_reducible refine(fV.out _ px.ok).mono ?_)|(with_reducible refine(fc.out _ px.ok).mono ?_));rintro e w' ⟨he,hb⟩;exact⟨he,px,hb.symm⟩)|(go_at_call 69;(first|(with_reducible refine(eX.out _ px.ok).mono ?_));rintro e w' ⟨he,hb⟩;exact⟨he,⟨w',aa px.ok hb⟩,rfl⟩)));go_big_quiet_on)))
          refine wpQuiet_nil ?_;intro _ dS;obtain⟨x6,aX⟩:=dS;subst aX;go_wp2;go_ret;exact⟨Pl.ae (HF.out (by simp)).symm,aa aY.out x6.ok⟩
         ·go_wp2_with fail
          refine au w4 br (by kernel_rfl) (by kernel_rfl) ?_;repeat(first
           |go_big_quiet_skip
           |(go_big_quiet_want;go_big_quiet_op;first|go_big_quiet_on|(apply Exists.intro;refine⟨fun px=> ?_, ?_⟩;(focus(first|(go_at_call 25;(first|(with_reducible refine(eu.out _ px.ok).mono ?_));rintro e w' ⟨he,hb⟩;exact⟨he,px,hb.symm⟩)|(go_at_call 68;(first|(with_reducible refine(fV.out _ px.ok).mono ?_)|(with_reducible refine(fc.out _ px.ok).mono ?_));rintro e w' ⟨he,hb⟩;exact⟨he,px,hb.symm⟩)|(go_at_call 69;(first|(with_reducible refine(eX.out _ px.ok).mono ?_));rintro e w' ⟨he,hb⟩;exact⟨he,⟨w',aa px.ok hb⟩,rfl⟩)));go_big_quiet_on)))
          refine wpQuiet_nil ?_;intro _ dS;obtain⟨x6,aX⟩:=dS;subst aX;go_wp2;go_roundw
          case rel=>exact⟨m+1+1,by omega,by go_num,HT.out (by simp[ES.out,HS.out]),aa je.out x6.ok⟩
          case measure=>simp[intOf];omega
      ·have HS:=hid (decide_eq_false hs);have hs2:x.number≤y.number:=by omega
       go_wp2_with fail
       refine au w4 br (by kernel_rfl) (by kernel_rfl) ?_;repeat(first
        |go_big_quiet_skip
        |(go_big_quiet_want;go_big_quiet_op;first|go_big_quiet_on|(apply Exists.intro;refine⟨fun px=> ?_, ?_⟩;(focus(first|(go_at_call 25;(first|(with_reducible refine(eu.out _ px.ok).mono ?_));rintro e w' ⟨he,hb⟩;exact⟨he,px,hb.symm⟩)|(go_at_call 68;(first|(with_reducible refine(fV.out _ px.ok).mono ?_)|(with_reducible refine(fc.out _ px.ok).mono ?_));rintro e w' ⟨he,hb⟩;exact⟨he,px,hb.symm⟩)|(go_at_call 69;(first|(with_reducible refine(eX.out _ px.ok).mono ?_));rintro e w' ⟨he,hb⟩;exact⟨he,⟨w',aa px.ok hb⟩,rfl⟩)));go_big_quiet_on)))
       refine wpQuiet_nil ?_;intro _ dS;obtain⟨x6,aX⟩:=dS;subst aX;go_wp2;go_ret;exact⟨Pl.ae (HF.out (by simp[HS.out])).symm,aa aY.out x6.ok⟩
   ·obtain rfl:q=K.grants.length:=by omega
    obtain⟨yz,y0,y1,y2,y3,y4,y5,y6⟩:=dD.out wr hW;go_wp2;go_ret;exact⟨Pl.ae (by rw[l3.out,HQ.out]),fu.out⟩
 ·have HE:Hid (R=false):=by show R=false;rw[HR.out];simp[hlen]
  go_wp2;go_ret;exact⟨Pl.ae HE.out.symm,cN.out⟩
set_option maxRecDepth 8000
set_option maxHeartbeats 40000000
open Go.RowKit Go.Deep
theorem g9 (i n:Nat):decide (eg i n<0)= !decide (i<n):=by
 unfold eg;by_cases h:i<n
 ·rw[if_pos h];simp[h]
 ·rw[if_neg h];simp[h]
def ks (L:Lw) (x:Lg):Bool:=bA L.teams x.team&&Pl.aq x.res&&decide (0≤x.free)&&decide (x.free≤x.most)&&decide (x.most≤1000000)
theorem mN (L:Lw) (x:Lg):lJ L x=ks L x:=by
 unfold lJ ks within;rw[Bool.eq_iff_iff];simp only[Bool.and_eq_true,decide_eq_true_eq];constructor
 ·rintro⟨⟨⟨h1,h2⟩,h3,h4⟩,h5,h6⟩;exact⟨⟨⟨⟨h1,h2⟩,h5⟩,h6⟩,h4⟩
 ·rintro⟨⟨⟨⟨h1,h2⟩,h5⟩,h6⟩,h4⟩;exact⟨⟨⟨h1,h2⟩,by omega,h4⟩,h5,h6⟩
def gC (K:Bk) (i:Nat):Bool:=cD (fun j=>pN (K.purses.getD j Ps.none) (K.purses.getD (j+1) Ps.none)) i&&ct K i
def fm (L:Lw) (K:Bk) (i:Nat):Bool:=cD (fun j=>pV (K.ledgers.getD j Lg.none) (K.ledgers.getD (j+1) Lg.none)) i&&(cz L K i&&fF L K i)
theorem Ck (L:Lw) (K:Bk):(dM L K&&eF K&&ij L K)=(decide (K.ledgers.length≤10)&&decide (K.purses.length≤24)&&aD (gC K) K.purses.length&&aD (fm L K) K.ledgers.length):=by
 have e1:aD (gC K) K.purses.length=(mD K.purses&&aD (ct K) K.purses.length):=by
  unfold gC;rw[hQ,iA];rfl
 have e2:aD (fm L K) K.ledgers.length=(gj K.ledgers&&(aD (cz L K) K.ledgers.length&&aD (fF L K) K.ledgers.length)):=by
  unfold fm;rw[hQ,iA,hQ];rfl
 rw[e1,e2];unfold dM eF ij;cases decide (K.ledgers.length≤10)<;>cases decide (K.purses.length≤24)<;>cases mD K.purses<;>cases gj K.ledgers<;>cases aD (ct K) K.purses.length<;>cases aD (cz L K) K.ledgers.length<;>rfl
theorem BL (L:Lw) (K:Bk) (a0 a1 a2 e0 e1 e2 e3:Nat) (w:World) (hL:iy w a0 a1 a2 L) (hK:gp w e0 e1 e2 e3 K) (ht0:0≤K.tick) (xZ:K.tick≤1000000):
  Calls Tryz.prog 28 #[.agg #[.slice (some ⟨a0,0,none⟩) L.shapes.length L.shapes.length,.slice (some ⟨a1,0,none⟩) L.mends.length L.mends.length,.slice (some ⟨a2,0,none⟩) L.teams.length L.teams.length],.agg #[.int .i64 K.now,.int .i64 K.tick,.int .i64 K.given,.slice (some ⟨e0,0,none⟩) K.objects.length K.objects.length,.slice (some ⟨e1,0,none⟩) K.grants.length K.grants.length,.slice (some ⟨e2,0,none⟩) K.ledgers.length K.ledgers.length,.slice (some ⟨e3,0,none⟩) K.purses.length K.purses.length]] w fun e w'=>e=.returned (.bool (dM L K&&eF K&&ij L K))∧Bel w w':=by
 have HA:=hid (And.intro hL hK);have hl:=hK.p.len;have Dw:=hK.l.len;rw[Ck];obtain⟨R,hR⟩:∃ R,R=(decide (K.ledgers.length≤10)&&decide (K.purses.length≤24)&&aD (gC K) K.purses.length&&aD (fm L K) K.ledgers.length):=⟨_,rfl⟩
 have HR:=hid hR;rw[← hR];clear hK hL hR;obtain⟨w1,dW⟩:∃ w1,w1=(w.alloc (.cells #[.slice (some ⟨a0,0,none⟩) L.shapes.length L.shapes.length,.slice (some ⟨a1,0,none⟩) L.mends.length L.mends.length,.slice (some ⟨a2,0,none⟩) L.teams.length L.teams.length] 40)).alloc (.cells #[.int .i64 K.now,.int .i64 K.tick,.int .i64 K.given,.slice (some ⟨e0,0,none⟩) K.objects.length K.objects.length,.slice (some ⟨e1,0,none⟩) K.grants.length K.grants.length,.slice (some ⟨e2,0,none⟩) K.ledgers.length K.ledgers.length,.slice (some ⟨e3,0,none⟩) K.purses.length K.purses.length] 47):=⟨_,rfl⟩
 have cN:Hid (Bel w w1):=by show Below _ _ _;rw[dW];exact ab (ab br _) _
 have dD:Hid (∀ W,Bel w1 W→bm W (w.heap.size+1) (.int .i64 K.now) (.int .i64 K.tick) (.int .i64 K.given) (.slice (some ⟨e0,0,none⟩) K.objects.length K.objects.length) (.slice (some ⟨e1,0,none⟩) K.grants.length K.grants.length) (.slice (some ⟨e2,0,none⟩) K.ledgers.length K.ledgers.length) (.slice (some ⟨e3,0,none⟩) K.purses.length K.purses.length)∧ch W w.heap.size (.slice (some ⟨a0,0,none⟩) L.shapes.length L.shapes.length) (.slice (some ⟨a1,0,none⟩) L.mends.length L.mends.length) (.slice (some ⟨a2,0,none⟩) L.teams.length L.teams.length)):=by
  have q:bm w1 (w.heap.size+1) (.int .i64 K.now) (.int .i64 K.tick) (.int .i64 K.given) (.slice (some ⟨e0,0,none⟩) K.objects.length K.objects.length) (.slice (some ⟨e1,0,none⟩) K.grants.length K.grants.length) (.slice (some ⟨e2,0,none⟩) K.ledgers.length K.ledgers.length) (.slice (some ⟨e3,0,none⟩) K.purses.length K.purses.length)∧ch w1 w.heap.size (.slice (some ⟨a0,0,none⟩) L.shapes.length L.shapes.length) (.slice (some ⟨a1,0,none⟩) L.mends.length L.mends.length) (.slice (some ⟨a2,0,none⟩) L.teams.length L.teams.length):=by rw[dW];exact⟨bm.bV _ _ _ _ _ _ _ _ _ _ (by simp),(ch.bV w _ _ _ _ _ rfl).ek _⟩
  intro W hW;exact⟨q.1.later hW,q.2.later hW⟩
 go_enter Tryz.func28,Tryz.ntmps28
 go_upto_region 1 with fail
 rw[← dW];clear dW;obtain⟨aR,_⟩:=dD.out w1 br;obtain⟨yz,y0,y1,y2,y3,y4,y5,y6⟩:=aR;by_cases Dx:K.ledgers.length≤10
 ·by_cases Gn:K.purses.length≤24
  ·have l3:Hid (R=(aD (gC K) K.purses.length&&aD (fm L K) K.ledgers.length)):=by show R=_;rw[HR.out];simp[Dx,Gn]
   have gS:Hid (Bel w1 w1):=br;go_wp2;clear yz y0 y1 y2 y3 y4 y5 y6 Dx Gn;go_loopw [5] (fun i wr=>∃ q:Nat,q≤K.purses.length∧i=.int .i64 q∧aD (gC K) q=true∧Bel w1 wr) (fun i _=>K.purses.length - (intOf i).toNat)
   case atStart=>exact⟨0,nz,rfl,rfl,gS.out⟩
   case round=>
    obtain⟨q,hq,rfl,ha,hW⟩:=hrel;have HQ:=hid ha;have fu:=hid (aa cN.out hW);clear ha;by_cases aw:q<K.purses.length
    ·by_cases h0:q=0
     ·subst h0;obtain⟨x,hx⟩:∃ x,x=K.purses.getD (0) Ps.none:=⟨_,rfl⟩
      have bC:=(HA.out.2.later fu.out).p;have gx:=bC.lt;have eb:=bC.at_ (0) aw;rw[← hx]at eb;obtain⟨c0,c1,c2,c3,c4,eQ⟩:=eb;obtain⟨w4,ej⟩:∃ w4,w4=wr.alloc (.cells #[.string x.door,.string x.team,.string x.res,.int .i64 x.amount,.int .i64 x.til] 129):=⟨_,rfl⟩
      obtain⟨E,hE⟩:∃ E,E=wr.heap.size:=⟨_,rfl⟩
      have dC:Bel wr w4:=by rw[ej];exact ab br _
      have je:=hid (aa hW dC);have aY:=hid (aa fu.out dC);have aR:=dD.out w4 je.out;have ao:aT w4 E #[.string x.door,.string x.team,.string x.res,.int .i64 x.amount,.int .i64 x.til]:=by rw[ej];exact aT.bV _ _ _ _ hE
      obtain⟨b1,bj⟩:∃ b1,b1=(Pl.aq x.door):=⟨_,rfl⟩
      have eu:Hid (∀ W,Bel w4 W→Calls Tryz.prog 68 #[.string x.door] W fun e w'=>e=.returned (.bool b1)∧W=w'):=fun W bG=>by
       rw[bj];have ft:=aa aY.out bG;exact aH x.door W eQ.1
      obtain⟨pl,eI⟩:∃ pl,pl=(eg (il K.ledgers x.team x.res) K.ledgers.length):=⟨_,rfl⟩
      have mX:Hid (∀ W,Bel w4 W→Calls Tryz.prog 70 #[.agg #[.int .i64 K.now,.int .i64 K.tick,.int .i64 K.given,.slice (some ⟨e0,0,none⟩) K.objects.length K.objects.length,.slice (some ⟨e1,0,none⟩) K.grants.length K.grants.length,.slice (some ⟨e2,0,none⟩) K.ledgers.length K.ledgers.length,.slice (some ⟨e3,0,none⟩) K.purses.length K.purses.length],.string x.team,.string x.res] W fun e w'=>e=.returned (.int .i64 pl)∧Bel W w'):=fun W bG=>by
       rw[eI];have ft:=aa aY.out bG;exact Dg K e0 e1 e2 e3 x.team x.res W (HA.out.2.later ft)
      obtain⟨b3,aQ⟩:∃ b3,b3=(within x.amount 1 1000000):=⟨_,rfl⟩
      have fc:Hid (∀ W,Bel w4 W→Calls Tryz.prog 25 #[.int .i64 x.amount,.int .i64 1,.int .i64 1000000] W fun e w'=>e=.returned (.bool b3)∧W=w'):=fun W bG=>by
       rw[aQ];have ft:=aa aY.out bG;exact bb _ _ _ W
      obtain⟨b4,cq⟩:∃ b4,b4=(within x.til K.tick (K.tick+10)):=⟨_,rfl⟩
      have eX:Hid (∀ W,Bel w4 W→Calls Tryz.prog 25 #[.int .i64 x.til,.int .i64 K.tick,.int .i64 (K.tick+10)] W fun e w'=>e=.returned (.bool b4)∧W=w'):=fun W bG=>by
       rw[cq];have ft:=aa aY.out bG;exact bb _ _ _ W
      have HP:Hid (gC K (0)=(true&&(!decide (pl<0)&&b1&&b3&&b4))):=by
       show (cD _ (0)&&ct K (0))=_;unfold ct lP;rw[← hx,← bj,← aQ,← cq,eI,g9];show (true&&_)=_;simp
      have HF:Hid ((true&&(!decide (pl<0)&&b1&&b3&&b4))=false→R=false):=fun hh=>by rw[l3.out,ba aw (HP.out.trans hh)];simp
      have HT:Hid ((true&&(!decide (pl<0)&&b1&&b3&&b4))=true→aD (gC K) (0+1)=true):=fun hh=>aU HQ.out (HP.out.trans hh);clear bj aQ cq eI eQ hx bC;obtain⟨oM,_⟩:=dD.out wr hW;obtain⟨yz,y0,y1,y2,y3,y4,y5,y6⟩:=oM;go_upto_region 7 with fail
      rw[← ej,← hE];clear ej hE yz y0 y1 y2 y3 y4 y5 y6 hW c0 c1 c2 c3 c4;obtain⟨aR,bB⟩:=aR;obtain⟨yz,y0,y1,y2,y3,y4,y5,y6⟩:=aR;obtain⟨lz,l0,l1,l2⟩:=bB;have uV:=ei w4;have ez:=ao.lt;have mT:∀ px:Pst w4,E<px.W.heap.size:=fun px=>px.size ez;have FL:∀ px:Pst w4,w.heap.size+1<px.W.heap.size:=fun px=>px.size yz;have Lp:∀ px:Pst w4,w.heap.size<px.W.heap.size:=fun px=>px.size lz;have xQ:∀ px:Pst w4,e3<px.W.heap.size:=fun px=>px.size (lo gx dC.size);have Y0:∀ px:Pst w4,px.W.cell? ⟨w.heap.size+1,0,none⟩=some (.int .i64 K.now):=fun px=>px.cell y0 yz;have Y1:∀ px:Pst w4,px.W.cell? ⟨w.heap.size+1,1,none⟩=some (.int .i64 K.tick):=fun px=>px.cell y1 yz;have Y2:∀ px:Pst w4,px.W.cell? ⟨w.heap.size+1,2,none⟩=some (.int .i64 K.given):=fun px=>px.cell y2 yz;have Y3:∀ px:Pst w4,px.W.cell? ⟨w.heap.size+1,3,none⟩=some (.slice (some ⟨e0,0,none⟩) K.objects.length K.objects.length):=fun px=>px.cell y3 yz;have Y4:∀ px:Pst w4,px.W.cell? ⟨w.heap.size+1,4,none⟩=some (.slice (some ⟨e1,0,none⟩) K.grants.length K.grants.length):=fun px=>px.cell y4 yz;have Y5:∀ px:Pst w4,px.W.cell? ⟨w.heap.size+1,5,none⟩=some (.slice (some ⟨e2,0,none⟩) K.ledgers.length K.ledgers.length):=fun px=>px.cell y5 yz;have Y6:∀ px:Pst w4,px.W.cell? ⟨w.heap.size+1,6,none⟩=some (.slice (some ⟨e3,0,none⟩) K.purses.length K.purses.length):=fun px=>px.cell y6 yz;have L0:∀ px:Pst w4,px.W.cell? ⟨w.heap.size,0,none⟩=some (.slice (some ⟨a0,0,none⟩) L.shapes.length L.shapes.length):=fun px=>px.cell l0 lz;have L1:∀ px:Pst w4,px.W.cell? ⟨w.heap.size,1,none⟩=some (.slice (some ⟨a1,0,none⟩) L.mends.length L.mends.length):=fun px=>px.cell l1 lz;have L2:∀ px:Pst w4,px.W.cell? ⟨w.heap.size,2,none⟩=some (.slice (some ⟨a2,0,none⟩) L.teams.length L.teams.length):=fun px=>px.cell l2 lz;have X0:∀ px:Pst w4,px.W.cell? ⟨E,0,none⟩=some (.string x.door):=fun px=>px.cell (ao.at_ 0) ez;have X1:∀ px:Pst w4,px.W.cell? ⟨E,1,none⟩=some (.string x.team):=fun px=>px.cell (ao.at_ 1) ez;have X2:∀ px:Pst w4,px.W.cell? ⟨E,2,none⟩=some (.string x.res):=fun px=>px.cell (ao.at_ 2) ez;have X3:∀ px:Pst w4,px.W.cell? ⟨E,3,none⟩=some (.int .i64 x.amount):=fun px=>px.cell (ao.at_ 3) ez;have X4:∀ px:Pst w4,px.W.cell? ⟨E,4,none⟩=some (.int .i64 x.til):=fun px=>px.cell (ao.at_ 4) ez;clear yz y0 y1 y2 y3 y4 y5 y6 lz l0 l1 l2 ao ez dC;cases b1
      ·go_wp2_with fail
       refine au w4 br (by kernel_rfl) (by kernel_rfl) ?_;repeat(first
        |go_big_quiet_skip
        |(go_big_quiet_want;go_big_quiet_op;first|go_big_quiet_on|(apply Exists.intro;refine⟨fun px=> ?_, ?_⟩;(focus(first|(go_at_call 68;(first|(with_reducible refine(eu.out _ px.ok).mono ?_));rintro e w' ⟨he,hb⟩;exact⟨he,px,hb.symm⟩)|(go_at_call 70;(first|(with_reducible refine(mX.out _ px.ok).mono ?_));rintro e w' ⟨he,hb⟩;exact⟨he,⟨w',aa px.ok hb⟩,rfl⟩)|(go_at_call 25;(first|(with_reducible refine(fc.out _ px.ok).mono ?_)|(with_reducible refine(eX.out _ px.ok).mono ?_));rintro e w' ⟨he,hb⟩;exact⟨he,px,hb.symm⟩)));go_big_quiet_on)))
       refine wpQuiet_nil ?_;intro _ dS;obtain⟨x6,aX⟩:=dS;subst aX;go_wp2;go_ret;exact⟨Pl.ae (HF.out (by simp)).symm,aa aY.out x6.ok⟩
      ·by_cases hp:pl<0
       ·have qa:=hid (decide_eq_true hp);go_wp2_with fail
        refine au w4 br (by kernel_rfl) (by kernel_rfl) ?_;repeat(first
         |go_big_quiet_skip
         |(go_big_quiet_want;go_big_quiet_op;first|go_big_quiet_on|(apply Exists.intro;refine⟨fun px=> ?_, ?_⟩;(focus(first|(go_at_call 68;(first|(with_reducible refine(eu.out _ px.ok).mono ?_));rintro e w' ⟨he,hb⟩;exact⟨he,px,hb.symm⟩)|(go_at_call 70;(first|(with_reducible refine(mX.out _ px.ok).mono ?_));rintro e w' ⟨he,hb⟩;exact⟨he,⟨w',aa px.ok hb⟩,rfl⟩)|(go_at_call 25;(first|(with_reducible refine(fc.out _ px.ok).mono ?_)|(with_reducible refine(eX.out _ px.ok).mono ?_));rintro e w' ⟨he,hb⟩;exact⟨he,px,hb.symm⟩)));go_big_quiet_on)))
        refine wpQuiet_nil ?_;intro _ dS;obtain⟨x6,aX⟩:=dS;subst aX;go_wp2;go_ret;exact⟨Pl.ae (HF.out (by simp[qa.out])).symm,aa aY.out x6.ok⟩
       ·have qa:=hid (decide_eq_false hp);have AX:decide (pl<0)=false:=decide_eq_false hp;have xT:0≤pl:=by omega
        cases b3
        ·go_wp2_with fail
         refine au w4 br (by kernel_rfl) (by kernel_rfl) ?_;repeat(first
          |go_big_quiet_skip
          |(go_big_quiet_want;go_big_quiet_op;first|go_big_quiet_on|(apply Exists.intro;refine⟨fun px=> ?_, ?_⟩;(focus(first|(go_at_call 68;(first|(with_reducible refine(eu.out _ px.ok).mono ?_));rintro e w' ⟨he,hb⟩;exact⟨he,px,hb.symm⟩)|(go_at_call 70;(first|(with_reducible refine(mX.out _ px.ok).mono ?_));rintro e w' ⟨he,hb⟩;exact⟨he,⟨w',aa px.ok hb⟩,rfl⟩)|(go_at_call 25;(first|(with_reducible refine(fc.out _ px.ok).mono ?_)|(with_reducible refine(eX.out _ px.ok).mono ?_));rintro e w' ⟨he,hb⟩;exact⟨he,px,hb.symm⟩)));go_big_quiet_on)))
         refine wpQuiet_nil ?_;intro _ dS;obtain⟨x6,aX⟩:=dS;subst aX;go_wp2;go_ret;exact⟨Pl.ae (HF.out (by simp)).symm,aa aY.out x6.ok⟩
        ·cases b4
         ·go_wp2_with fail
          refine au w4 br (by kernel_rfl) (by kernel_rfl) ?_;repeat(first
           |go_big_quiet_skip
           |(go_big_quiet_want;go_big_quiet_op;first|go_big_quiet_on|(apply Exists.intro;refine⟨fun px=> ?_, ?_⟩;(focus(first|(go_at_call 68;(first|(with_reducible refine(eu.out _ px.ok).mono ?_));rintro e w' ⟨he,hb⟩;exact⟨he,px,hb.symm⟩)|(go_at_call 70;(first|(with_reducible refine(mX.out _ px.ok).mono ?_));rintro e w' ⟨he,hb⟩;exact⟨he,⟨w',aa px.ok hb⟩,rfl⟩)|(go_at_call 25;(first|(with_reducible refine(fc.out _ px.ok).mono ?_)|(with_reducible refine(eX.out _ px.ok).mono ?_));rintro e w' ⟨he,hb⟩;exact⟨he,px,hb.symm⟩)));go_big_quiet_on)))
          refine wpQuiet_nil ?_;intro _ dS;obtain⟨x6,aX⟩:=dS;subst aX;go_wp2;go_ret;exact⟨Pl.ae (HF.out (by simp)).symm,aa aY.out x6.ok⟩
         ·go_wp2_with fail
          refine au w4 br (by kernel_rfl) (by kernel_rfl) ?_;repeat(first
           |go_big_quiet_skip
           |(go_big_quiet_want;go_big_quiet_op;first|go_big_quiet_on|(apply Exists.intro;refine⟨fun px=> ?_, ?_⟩;(focus(first|(go_at_call 68;(first|(with_reducible refine(eu.out _ px.ok).mono ?_));rintro e w' ⟨he,hb⟩;exact⟨he,px,hb.symm⟩)|(go_at_call 70;(first|(with_reducible refine(mX.out _ px.ok).mono ?_));rintro e w' ⟨he,hb⟩;exact⟨he,⟨w',aa px.ok hb⟩,rfl⟩)|(go_at_call 25;(first|(with_reducible refine(fc.out _ px.ok).mono ?_)|(with_reducible refine(eX.out _ px.ok).mono ?_));rintro e w' ⟨he,hb⟩;exact⟨he,px,hb.symm⟩)));go_big_quiet_on)))
          refine wpQuiet_nil ?_;intro _ dS;obtain⟨x6,aX⟩:=dS;subst aX;go_wp2;go_roundw
          case rel=>exact⟨0+1,by omega,by go_num,HT.out (by simp[qa.out]),aa je.out x6.ok⟩
          case measure=>simp[intOf];omega
     ·obtain⟨m,rfl⟩:∃ m,q=m+1:=⟨q - 1,by omega⟩
      clear h0;obtain⟨x,hx⟩:∃ x,x=K.purses.getD (m+1) Ps.none:=⟨_,rfl⟩
      have bC:=(HA.out.2.later fu.out).p;have gx:=bC.lt;have eb:=bC.at_ (m+1) aw;rw[← hx]at eb;obtain⟨c0,c1,c2,c3,c4,eQ⟩:=eb;obtain⟨y,hy⟩:∃ y,y=K.purses.getD m Ps.none:=⟨_,rfl⟩
      have eb:=bC.at_ m (by omega);rw[← hy]at eb;obtain⟨d0,d1,d2,d3,d4,_⟩:=eb;obtain⟨w4,ej⟩:∃ w4,w4=wr.alloc (.cells #[.string x.door,.string x.team,.string x.res,.int .i64 x.amount,.int .i64 x.til] 129):=⟨_,rfl⟩
      obtain⟨E,hE⟩:∃ E,E=wr.heap.size:=⟨_,rfl⟩
      have dC:Bel wr w4:=by rw[ej];exact ab br _
      have je:=hid (aa hW dC);have aY:=hid (aa fu.out dC);have aR:=dD.out w4 je.out;have ao:aT w4 E #[.string x.door,.string x.team,.string x.res,.int .i64 x.amount,.int .i64 x.til]:=by rw[ej];exact aT.bV _ _ _ _ hE
      obtain⟨b1,bj⟩:∃ b1,b1=(Pl.aq x.door):=⟨_,rfl⟩
      have eu:Hid (∀ W,Bel w4 W→Calls Tryz.prog 68 #[.string x.door] W fun e w'=>e=.returned (.bool b1)∧W=w'):=fun W bG=>by
       rw[bj];have ft:=aa aY.out bG;exact aH x.door W eQ.1
      obtain⟨pl,eI⟩:∃ pl,pl=(eg (il K.ledgers x.team x.res) K.ledgers.length):=⟨_,rfl⟩
      have mX:Hid (∀ W,Bel w4 W→Calls Tryz.prog 70 #[.agg #[.int .i64 K.now,.int .i64 K.tick,.int .i64 K.given,.slice (some ⟨e0,0,none⟩) K.objects.length K.objects.length,.slice (some ⟨e1,0,none⟩) K.grants.length K.grants.length,.slice (some ⟨e2,0,none⟩) K.ledgers.length K.ledgers.length,.slice (some ⟨e3,0,none⟩) K.purses.length K.purses.length],.string x.team,.string x.res] W fun e w'=>e=.returned (.int .i64 pl)∧Bel W w'):=fun W bG=>by
       rw[eI];have ft:=aa aY.out bG;exact Dg K e0 e1 e2 e3 x.team x.res W (HA.out.2.later ft)
      obtain⟨b3,aQ⟩:∃ b3,b3=(within x.amount 1 1000000):=⟨_,rfl⟩
      have fc:Hid (∀ W,Bel w4 W→Calls Tryz.prog 25 #[.int .i64 x.amount,.int .i64 1,.int .i64 1000000] W fun e w'=>e=.returned (.bool b3)∧W=w'):=fun W bG=>by
       rw[aQ];have ft:=aa aY.out bG;exact bb _ _ _ W
      obtain⟨b4,cq⟩:∃ b4,b4=(within x.til K.tick (K.tick+10)):=⟨_,rfl⟩
      have eX:Hid (∀ W,Bel w4 W→Calls Tryz.prog 25 #[.int .i64 x.til,.int .i64 K.tick,.int .i64 (K.tick+10)] W fun e w'=>e=.returned (.bool b4)∧W=w'):=fun W bG=>by
       rw[cq];have ft:=aa aY.out bG;exact bb _ _ _ W
      obtain⟨kq,A0⟩:∃ kq,kq=(pN y x):=⟨_,rfl⟩
      have oX:Hid (∀ W,Bel w4 W→Calls Tryz.prog 71 #[.agg #[.string y.door,.string y.team,.string y.res,.int .i64 y.amount,.int .i64 y.til],.agg #[.string x.door,.string x.team,.string x.res,.int .i64 x.amount,.int .i64 x.til]] W fun e w'=>e=.returned (.int .i64 kq)∧Bel W w'):=fun W bG=>by
       rw[A0];have ft:=aa aY.out bG;exact wW _ _ _ _ _ _ _ _ _ _ W
      have HP:Hid (gC K (m+1)=(decide (kq<0)&&(!decide (pl<0)&&b1&&b3&&b4))):=by
       show (cD _ (m+1)&&ct K (m+1))=_;unfold ct lP;rw[← hx,← bj,← aQ,← cq,eI,g9];rw[A0,hx,hy];show (decide _&&_)=_;simp
      have HF:Hid ((decide (kq<0)&&(!decide (pl<0)&&b1&&b3&&b4))=false→R=false):=fun hh=>by rw[l3.out,ba aw (HP.out.trans hh)];simp
      have HT:Hid ((decide (kq<0)&&(!decide (pl<0)&&b1&&b3&&b4))=true→aD (gC K) (m+1+1)=true):=fun hh=>aU HQ.out (HP.out.trans hh);clear bj aQ cq eI eQ hx bC hy A0;obtain⟨oM,_⟩:=dD.out wr hW;obtain⟨yz,y0,y1,y2,y3,y4,y5,y6⟩:=oM;go_upto_region 7 with fail
      rw[← ej,← hE];clear ej hE yz y0 y1 y2 y3 y4 y5 y6 hW c0 c1 c2 c3 c4;obtain⟨aR,bB⟩:=aR;obtain⟨yz,y0,y1,y2,y3,y4,y5,y6⟩:=aR;obtain⟨lz,l0,l1,l2⟩:=bB;have uV:=ei w4;have ez:=ao.lt;have mT:∀ px:Pst w4,E<px.W.heap.size:=fun px=>px.size ez;have FL:∀ px:Pst w4,w.heap.size+1<px.W.heap.size:=fun px=>px.size yz;have Lp:∀ px:Pst w4,w.heap.size<px.W.heap.size:=fun px=>px.size lz;have xQ:∀ px:Pst w4,e3<px.W.heap.size:=fun px=>px.size (lo gx dC.size);have Y0:∀ px:Pst w4,px.W.cell? ⟨w.heap.size+1,0,none⟩=some (.int .i64 K.now):=fun px=>px.cell y0 yz;have Y1:∀ px:Pst w4,px.W.cell? ⟨w.heap.size+1,1,none⟩=some (.int .i64 K.tick):=fun px=>px.cell y1 yz;have Y2:∀ px:Pst w4,px.W.cell? ⟨w.heap.size+1,2,none⟩=some (.int .i64 K.given):=fun px=>px.cell y2 yz;have Y3:∀ px:Pst w4,px.W.cell? ⟨w.heap.size+1,3,none⟩=some (.slice (some ⟨e0,0,none⟩) K.objects.length K.objects.length):=fun px=>px.cell y3 yz;have Y4:∀ px:Pst w4,px.W.cell? ⟨w.heap.size+1,4,none⟩=some (.slice (some ⟨e1,0,none⟩) K.grants.length K.grants.length):=fun px=>px.cell y4 yz;have Y5:∀ px:Pst w4,px.W.cell? ⟨w.heap.size+1,5,none⟩=some (.slice (some ⟨e2,0,none⟩) K.ledgers.length K.ledgers.length):=fun px=>px.cell y5 yz;have Y6:∀ px:Pst w4,px.W.cell? ⟨w.heap.size+1,6,none⟩=some (.slice (some ⟨e3,0,none⟩) K.purses.length K.purses.length):=fun px=>px.cell y6 yz;have L0:∀ px:Pst w4,px.W.cell? ⟨w.heap.size,0,none⟩=some (.slice (some ⟨a0,0,none⟩) L.shapes.length L.shapes.length):=fun px=>px.cell l0 lz;have L1:∀ px:Pst w4,px.W.cell? ⟨w.heap.size,1,none⟩=some (.slice (some ⟨a1,0,none⟩) L.mends.length L.mends.length):=fun px=>px.cell l1 lz;have L2:∀ px:Pst w4,px.W.cell? ⟨w.heap.size,2,none⟩=some (.slice (some ⟨a2,0,none⟩) L.teams.length L.teams.length):=fun px=>px.cell l2 lz;have X0:∀ px:Pst w4,px.W.cell? ⟨E,0,none⟩=some (.string x.door):=fun px=>px.cell (ao.at_ 0) ez;have X1:∀ px:Pst w4,px.W.cell? ⟨E,1,none⟩=some (.string x.team):=fun px=>px.cell (ao.at_ 1) ez;have X2:∀ px:Pst w4,px.W.cell? ⟨E,2,none⟩=some (.string x.res):=fun px=>px.cell (ao.at_ 2) ez;have X3:∀ px:Pst w4,px.W.cell? ⟨E,3,none⟩=some (.int .i64 x.amount):=fun px=>px.cell (ao.at_ 3) ez;have X4:∀ px:Pst w4,px.W.cell? ⟨E,4,none⟩=some (.int .i64 x.til):=fun px=>px.cell (ao.at_ 4) ez;have D0:∀ px:Pst w4,px.W.cell? ⟨e3,m*5,none⟩=some (.string y.door):=fun px=>px.cell ((dC.cell (p:=⟨e3,m*5,none⟩) gx).trans d0) (lo gx dC.size);have D1:∀ px:Pst w4,px.W.cell? ⟨e3,m*5+1,none⟩=some (.string y.team):=fun px=>px.cell ((dC.cell (p:=⟨e3,m*5+1,none⟩) gx).trans d1) (lo gx dC.size);have D2:∀ px:Pst w4,px.W.cell? ⟨e3,m*5+2,none⟩=some (.string y.res):=fun px=>px.cell ((dC.cell (p:=⟨e3,m*5+2,none⟩) gx).trans d2) (lo gx dC.size);have D3:∀ px:Pst w4,px.W.cell? ⟨e3,m*5+3,none⟩=some (.int .i64 y.amount):=fun px=>px.cell ((dC.cell (p:=⟨e3,m*5+3,none⟩) gx).trans d3) (lo gx dC.size);have D4:∀ px:Pst w4,px.W.cell? ⟨e3,m*5+4,none⟩=some (.int .i64 y.til):=fun px=>px.cell ((dC.cell (p:=⟨e3,m*5+4,none⟩) gx).trans d4) (lo gx dC.size);have AH:(0:Int)≤(m:Int):=by omega
      have gk:(m:Int)<(K.purses.length:Int):=by omega
      have Jc:IntKind.i64.wrap (m:Int)=(m:Int):=jM _ (by omega) (by omega);have gQ:(0:Int)<(m:Int)+1:=by omega
      clear d0 d1 d2 d3 d4;clear yz y0 y1 y2 y3 y4 y5 y6 lz l0 l1 l2 ao ez dC;cases b1
      ·go_wp2_with fail
       refine au w4 br (by kernel_rfl) (by kernel_rfl) ?_;repeat(first
        |go_big_quiet_skip
        |(go_big_quiet_want;go_big_quiet_op;first|go_big_quiet_on|(apply Exists.intro;refine⟨fun px=> ?_, ?_⟩;(focus(first|(go_at_call 68;(first|(with_reducible refine(eu.out _ px.ok).mono ?_));rintro e w' ⟨he,hb⟩;exact⟨he,px,hb.symm⟩)|(go_at_call 70;(first|(with_reducible refine(mX.out _ px.ok).mono ?_));rintro e w' ⟨he,hb⟩;exact⟨he,⟨w',aa px.ok hb⟩,rfl⟩)|(go_at_call 25;(first|(with_reducible refine(fc.out _ px.ok).mono ?_)|(with_reducible refine(eX.out _ px.ok).mono ?_));rintro e w' ⟨he,hb⟩;exact⟨he,px,hb.symm⟩)|(go_at_call 71;(first|(with_reducible refine(oX.out _ px.ok).mono ?_));rintro e w' ⟨he,hb⟩;exact⟨he,⟨w',aa px.ok hb⟩,rfl⟩)));go_big_quiet_on)))
       refine wpQuiet_nil ?_;intro _ dS;obtain⟨x6,aX⟩:=dS;subst aX;go_wp2;go_ret;exact⟨Pl.ae (HF.out (by simp)).symm,aa aY.out x6.ok⟩
      ·by_cases hp:pl<0
       ·have qa:=hid (decide_eq_true hp);go_wp2_with fail
        refine au w4 br (by kernel_rfl) (by kernel_rfl) ?_;repeat(first
         |go_big_quiet_skip
         |(go_big_quiet_want;go_big_quiet_op;first|go_big_quiet_on|(apply Exists.intro;refine⟨fun px=> ?_, ?_⟩;(focus(first|(go_at_call 68;(first|(with_reducible refine(eu.out _ px.ok).mono ?_));rintro e w' ⟨he,hb⟩;exact⟨he,px,hb.symm⟩)|(go_at_call 70;(first|(with_reducible refine(mX.out _ px.ok).mono ?_));rintro e w' ⟨he,hb⟩;exact⟨he,⟨w',aa px.ok hb⟩,rfl⟩)|(go_at_call 25;(first|(with_reducible refine(fc.out _ px.ok).mono ?_)|(with_reducible refine(eX.out _ px.ok).mono ?_));rintro e w' ⟨he,hb⟩;exact⟨he,px,hb.symm⟩)|(go_at_call 71;(first|(with_reducible refine(oX.out _ px.ok).mono ?_));rintro e w' ⟨he,hb⟩;exact⟨he,⟨w',aa px.ok hb⟩,rfl⟩)));go_big_quiet_on)))
        refine wpQuiet_nil ?_;intro _ dS;obtain⟨x6,aX⟩:=dS;subst aX;go_wp2;go_ret;exact⟨Pl.ae (HF.out (by simp[qa.out])).symm,aa aY.out x6.ok⟩
       ·have qa:=hid (decide_eq_false hp);have AX:decide (pl<0)=false:=decide_eq_false hp;have xT:0≤pl:=by omega
        cases b3
        ·go_wp2_with fail
         refine au w4 br (by kernel_rfl) (by kernel_rfl) ?_;repeat(first
          |go_big_quiet_skip
          |(go_big_quiet_want;go_big_quiet_op;first|go_big_quiet_on|(apply Exists.intro;refine⟨fun px=> ?_, ?_⟩;(focus(first|(go_at_call 68;(first|(with_reducible refine(eu.out _ px.ok).mono ?_));rintro e w' ⟨he,hb⟩;exact⟨he,px,hb.symm⟩)|(go_at_call 70;(first|(with_reducible refine(mX.out _ px.ok).mono ?_));rintro e w' ⟨he,hb⟩;exact⟨he,⟨w',aa px.ok hb⟩,rfl⟩)|(go_at_call 25;(first|(with_reducible refine(fc.out _ px.ok).mono ?_)|(with_reducible refine(eX.out _ px.ok).mono ?_));rintro e w' ⟨he,hb⟩;exact⟨he,px,hb.symm⟩)|(go_at_call 71;(first|(with_reducible refine(oX.out _ px.ok).mono ?_));rintro e w' ⟨he,hb⟩;exact⟨he,⟨w',aa px.ok hb⟩,rfl⟩)));go_big_quiet_on)))
         refine wpQuiet_nil ?_;intro _ dS;obtain⟨x6,aX⟩:=dS;subst aX;go_wp2;go_ret;exact⟨Pl.ae (HF.out (by simp)).symm,aa aY.out x6.ok⟩
        ·cases b4
         ·go_wp2_with fail
          refine au w4 br (by kernel_rfl) (by kernel_rfl) ?_;repeat(first
           |go_big_quiet_skip
           |(go_big_quiet_want;go_big_quiet_op;first|go_big_quiet_on|(apply Exists.intro;refine⟨fun px=> ?_, ?_⟩;(focus(first|(go_at_call 68;(first|(with_reducible refine(eu.out _ px.ok).mono ?_));rintro e w' ⟨he,hb⟩;exact⟨he,px,hb.symm⟩)|(go_at_call 70;(first|(with_reducible refine(mX.out _ px.ok).mono ?_));rintro e w' ⟨he,hb⟩;exact⟨he,⟨w',aa px.ok hb⟩,rfl⟩)|(go_at_call 25;(first|(with_reducible refine(fc.out _ px.ok).mono ?_)|(with_reducible refine(eX.out _ px.ok).mono ?_));rintro e w' ⟨he,hb⟩;exact⟨he,px,hb.symm⟩)|(go_at_call 71;(first|(with_reducible refine(oX.out _ px.ok).mono ?_));rintro e w' ⟨he,hb⟩;exact⟨he,⟨w',aa px.ok hb⟩,rfl⟩)));go_big_quiet_on)))
          refine wpQuiet_nil ?_;intro _ dS;obtain⟨x6,aX⟩:=dS;subst aX;go_wp2;go_ret;exact⟨Pl.ae (HF.out (by simp)).symm,aa aY.out x6.ok⟩
         ·by_cases hk:kq<0
          ·have oU:=hid (decide_eq_true hk);have pq:¬ 0≤kq:=by omega
           have hk3:decide (0≤kq)=false:=decide_eq_false pq;go_wp2_with fail
           refine au w4 br (by kernel_rfl) (by kernel_rfl) ?_;repeat(first
            |go_big_quiet_skip
            |(go_big_quiet_want;go_big_quiet_op;first|go_big_quiet_on|(apply Exists.intro;refine⟨fun px=> ?_, ?_⟩;(focus(first|(go_at_call 68;(first|(with_reducible refine(eu.out _ px.ok).mono ?_));rintro e w' ⟨he,hb⟩;exact⟨he,px,hb.symm⟩)|(go_at_call 70;(first|(with_reducible refine(mX.out _ px.ok).mono ?_));rintro e w' ⟨he,hb⟩;exact⟨he,⟨w',aa px.ok hb⟩,rfl⟩)|(go_at_call 25;(first|(with_reducible refine(fc.out _ px.ok).mono ?_)|(with_reducible refine(eX.out _ px.ok).mono ?_));rintro e w' ⟨he,hb⟩;exact⟨he,px,hb.symm⟩)|(go_at_call 71;(first|(with_reducible refine(oX.out _ px.ok).mono ?_));rintro e w' ⟨he,hb⟩;exact⟨he,⟨w',aa px.ok hb⟩,rfl⟩)));go_big_quiet_on)))
           refine wpQuiet_nil ?_;intro _ dS;obtain⟨x6,aX⟩:=dS;subst aX;go_wp2;go_roundw
           case rel=>exact⟨m+1+1,by omega,by go_num,HT.out (by simp[qa.out,oU.out]),aa je.out x6.ok⟩
           case measure=>simp[intOf];omega
          ·have oU:=hid (decide_eq_false hk);have pq:0≤kq:=by omega
           go_wp2_with fail
           refine au w4 br (by kernel_rfl) (by kernel_rfl) ?_;repeat(first
            |go_big_quiet_skip
            |(go_big_quiet_want;go_big_quiet_op;first|go_big_quiet_on|(apply Exists.intro;refine⟨fun px=> ?_, ?_⟩;(focus(first|(go_at_call 68;(first|(with_reducible refine(eu.out _ px.ok).mono ?_));rintro e w' ⟨he,hb⟩;exact⟨he,px,hb.symm⟩)|(go_at_call 70;(first|(with_reducible refine(mX.out _ px.ok).mono ?_));rintro e w' ⟨he,hb⟩;exact⟨he,⟨w',aa px.ok hb⟩,rfl⟩)|(go_at_call 25;(first|(with_reducible refine(fc.out _ px.ok).mono ?_)|(with_reducible refine(eX.out _ px.ok).mono ?_));rintro e w' ⟨he,hb⟩;exact⟨he,px,hb.symm⟩)|(go_at_call 71;(first|(with_reducible refine(oX.out _ px.ok).mono ?_));rintro e w' ⟨he,hb⟩;exact⟨he,⟨w',aa px.ok hb⟩,rfl⟩)));go_big_quiet_on)))
           refine wpQuiet_nil ?_;intro _ dS;obtain⟨x6,aX⟩:=dS;subst aX;go_wp2;go_ret;exact⟨Pl.ae (HF.out (by simp[oU.out])).symm,aa aY.out x6.ok⟩
    ·obtain rfl:q=K.purses.length:=by omega
     obtain⟨aR,_⟩:=dD.out wr hW;obtain⟨yz,y0,y1,y2,y3,y4,y5,y6⟩:=aR;have Ll:Hid (R=aD (fm L K) K.ledgers.length):=by show R=_;rw[l3.out,HQ.out];simp
     have gS:=hid hW;clear l3 HQ fu aw hq hW;go_wp2;clear yz y0 y1 y2 y3 y4 y5 y6;have l3:=hid Ll.out;go_loopw [7] (fun i wr=>∃ q:Nat,q≤K.ledgers.length∧i=.int .i64 q∧aD (fm L K) q=true∧Bel w1 wr) (fun i _=>K.ledgers.length - (intOf i).toNat)
     case atStart=>exact⟨0,nz,rfl,rfl,gS.out⟩
     case round=>
      obtain⟨q,hq,rfl,ha,hW⟩:=hrel;have HQ:=hid ha;have fu:=hid (aa cN.out hW);clear ha;by_cases aw:q<K.ledgers.length
      ·by_cases h0:q=0
       ·subst h0;obtain⟨x,hx⟩:∃ x,x=K.ledgers.getD (0) Lg.none:=⟨_,rfl⟩
        have bC:=(HA.out.2.later fu.out).l;have gx:=bC.lt;have eb:=bC.at_ (0) aw;rw[← hx]at eb;obtain⟨c0,c1,c2,c3,eQ⟩:=eb;obtain⟨w4,ej⟩:∃ w4,w4=wr.alloc (.cells #[.string x.team,.string x.res,.int .i64 x.most,.int .i64 x.free] 131):=⟨_,rfl⟩
        obtain⟨E,hE⟩:∃ E,E=wr.heap.size:=⟨_,rfl⟩
        have dC:Bel wr w4:=by rw[ej];exact ab br _
        have je:=hid (aa hW dC);have aY:=hid (aa fu.out dC);have aR:=dD.out w4 je.out;have ao:aT w4 E #[.string x.team,.string x.res,.int .i64 x.most,.int .i64 x.free]:=by rw[ej];exact aT.bV _ _ _ _ hE
        obtain⟨b1,bj⟩:∃ b1,b1=(bA L.teams x.team):=⟨_,rfl⟩
        have eu:Hid (∀ W,Bel w4 W→Calls Tryz.prog 62 #[.slice (some ⟨a2,0,none⟩) L.teams.length L.teams.length,.string x.team] W fun e w'=>e=.returned (.bool b1)∧W=w'):=fun W bG=>by
         rw[bj];have ft:=aa aY.out bG;exact iu a2 L.teams x.team W (HA.out.1.later ft).t
        obtain⟨b2,aA⟩:∃ b2,b2=(Pl.aq x.res):=⟨_,rfl⟩
        have fV:Hid (∀ W,Bel w4 W→Calls Tryz.prog 68 #[.string x.res] W fun e w'=>e=.returned (.bool b2)∧W=w'):=fun W bG=>by
         rw[aA];have ft:=aa aY.out bG;exact aH x.res W eQ.2
        obtain⟨us,Ax⟩:∃ us,us=(used L K x.team x.res):=⟨_,rfl⟩
        have AW:Hid (∀ W,Bel w4 W→Calls Tryz.prog 72 #[.agg #[.slice (some ⟨a0,0,none⟩) L.shapes.length L.shapes.length,.slice (some ⟨a1,0,none⟩) L.mends.length L.mends.length,.slice (some ⟨a2,0,none⟩) L.teams.length L.teams.length],.agg #[.int .i64 K.now,.int .i64 K.tick,.int .i64 K.given,.slice (some ⟨e0,0,none⟩) K.objects.length K.objects.length,.slice (some ⟨e1,0,none⟩) K.grants.length K.grants.length,.slice (some ⟨e2,0,none⟩) K.ledgers.length K.ledgers.length,.slice (some ⟨e3,0,none⟩) K.purses.length K.purses.length],.string x.team,.string x.res] W fun e w'=>e=.returned (.int .i64 us)∧Bel W w'):=fun W bG=>by
         rw[Ax];have ft:=aa aY.out bG;exact C8 L K a0 a1 a2 e0 e1 e2 e3 x.team x.res W (HA.out.1.later ft) (HA.out.2.later ft)
        obtain⟨ou,EN⟩:∃ ou,ou=(vk K.purses x.team x.res):=⟨_,rfl⟩
        have A2:Hid (∀ W,Bel w4 W→Calls Tryz.prog 73 #[.agg #[.int .i64 K.now,.int .i64 K.tick,.int .i64 K.given,.slice (some ⟨e0,0,none⟩) K.objects.length K.objects.length,.slice (some ⟨e1,0,none⟩) K.grants.length K.grants.length,.slice (some ⟨e2,0,none⟩) K.ledgers.length K.ledgers.length,.slice (some ⟨e3,0,none⟩) K.purses.length K.purses.length],.string x.team,.string x.res] W fun e w'=>e=.returned (.int .i64 ou)∧Bel W w'):=fun W bG=>by
         rw[EN];have ft:=aa aY.out bG;exact yB K e0 e1 e2 e3 x.team x.res W (HA.out.2.later ft)
        have HP:Hid (fm L K (0)=(true&&(b1&&b2&&decide (0≤x.free)&&decide (x.free≤x.most)&&decide (x.most≤1000000)&&decide (wrap64 (wrap64 (us+ou)+x.free)=x.most)))):=by
         show (cD _ (0)&&(cz L K (0)&&fF L K (0)))=_;unfold cz fF vi;rw[mN];unfold ks;rw[← hx,← bj,← aA,← Ax,← EN];show (true&&_)=_;rfl
        have HF:Hid ((true&&(b1&&b2&&decide (0≤x.free)&&decide (x.free≤x.most)&&decide (x.most≤1000000)&&decide (wrap64 (wrap64 (us+ou)+x.free)=x.most)))=false→R=false):=fun hh=>by rw[l3.out];exact ba aw (HP.out.trans hh)
        have HT:Hid ((true&&(b1&&b2&&decide (0≤x.free)&&decide (x.free≤x.most)&&decide (x.most≤1000000)&&decide (wrap64 (wrap64 (us+ou)+x.free)=x.most)))=true→aD (fm L K) (0+1)=true):=fun hh=>aU HQ.out (HP.out.trans hh);clear bj aA Ax EN eQ hx bC;obtain⟨oM,_⟩:=dD.out wr hW;obtain⟨yz,y0,y1,y2,y3,y4,y5,y6⟩:=oM;go_upto_region 13 with fail
        rw[← ej,← hE];clear ej hE yz y0 y1 y2 y3 y4 y5 y6 hW c0 c1 c2 c3;obtain⟨aR,bB⟩:=aR;obtain⟨yz,y0,y1,y2,y3,y4,y5,y6⟩:=aR;obtain⟨lz,l0,l1,l2⟩:=bB;have uV:=ei w4;have ez:=ao.lt;have mT:∀ px:Pst w4,E<px.W.heap.size:=fun px=>px.size ez;have FL:∀ px:Pst w4,w.heap.size+1<px.W.heap.size:=fun px=>px.size yz;have Lp:∀ px:Pst w4,w.heap.size<px.W.heap.size:=fun px=>px.size lz;have xQ:∀ px:Pst w4,e2<px.W.heap.size:=fun px=>px.size (lo gx dC.size);have Y0:∀ px:Pst w4,px.W.cell? ⟨w.heap.size+1,0,none⟩=some (.int .i64 K.now):=fun px=>px.cell y0 yz;have Y1:∀ px:Pst w4,px.W.cell? ⟨w.heap.size+1,1,none⟩=some (.int .i64 K.tick):=fun px=>px.cell y1 yz;have Y2:∀ px:Pst w4,px.W.cell? ⟨w.heap.size+1,2,none⟩=some (.int .i64 K.given):=fun px=>px.cell y2 yz;have Y3:∀ px:Pst w4,px.W.cell? ⟨w.heap.size+1,3,none⟩=some (.slice (some ⟨e0,0,none⟩) K.objects.length K.objects.length):=fun px=>px.cell y3 yz;have Y4:∀ px:Pst w4,px.W.cell? ⟨w.heap.size+1,4,none⟩=some (.slice (some ⟨e1,0,none⟩) K.grants.length K.grants.length):=fun px=>px.cell y4 yz;have Y5:∀ px:Pst w4,px.W.cell? ⟨w.heap.size+1,5,none⟩=some (.slice (some ⟨e2,0,none⟩) K.ledgers.length K.ledgers.length):=fun px=>px.cell y5 yz;have Y6:∀ px:Pst w4,px.W.cell? ⟨w.heap.size+1,6,none⟩=some (.slice (some ⟨e3,0,none⟩) K.purses.length K.purses.length):=fun px=>px.cell y6 yz;have L0:∀ px:Pst w4,px.W.cell? ⟨w.heap.size,0,none⟩=some (.slice (some ⟨a0,0,none⟩) L.shapes.length L.shapes.length):=fun px=>px.cell l0 lz;have L1:∀ px:Pst w4,px.W.cell? ⟨w.heap.size,1,none⟩=some (.slice (some ⟨a1,0,none⟩) L.mends.length L.mends.length):=fun px=>px.cell l1 lz;have L2:∀ px:Pst w4,px.W.cell? ⟨w.heap.size,2,none⟩=some (.slice (some ⟨a2,0,none⟩) L.teams.length L.teams.length):=fun px=>px.cell l2 lz;have X0:∀ px:Pst w4,px.W.cell? ⟨E,0,none⟩=some (.string x.team):=fun px=>px.cell (ao.at_ 0) ez;have X1:∀ px:Pst w4,px.W.cell? ⟨E,1,none⟩=some (.string x.res):=fun px=>px.cell (ao.at_ 1) ez;have X2:∀ px:Pst w4,px.W.cell? ⟨E,2,none⟩=some (.int .i64 x.most):=fun px=>px.cell (ao.at_ 2) ez;have X3:∀ px:Pst w4,px.W.cell? ⟨E,3,none⟩=some (.int .i64 x.free):=fun px=>px.cell (ao.at_ 3) ez;have x0:w4.cell? ⟨E,0,none⟩=some (.string x.team):=ao.at_ 0;have x1:w4.cell? ⟨E,1,none⟩=some (.string x.res):=ao.at_ 1;have x2:w4.cell? ⟨E,2,none⟩=some (.int .i64 x.most):=ao.at_ 2;have x3:w4.cell? ⟨E,3,none⟩=some (.int .i64 x.free):=ao.at_ 3;clear ao dC;go_wp2_with fail
        refine(eu.out w4 br).mono ?_;rintro e w7 ⟨rfl,rfl⟩;cases b1
        ·go_wp2;go_ret;exact⟨Pl.ae (HF.out (by simp)).symm,aa aY.out br⟩
        ·go_wp2_with fail
         refine(fV.out w4 br).mono ?_;rintro e w7 ⟨rfl,rfl⟩;cases b2
         ·go_wp2;go_ret;exact⟨Pl.ae (HF.out (by simp)).symm,aa aY.out br⟩
         ·by_cases h1:0≤x.free
          ·have H1:=hid (decide_eq_true h1);by_cases h2:x.free≤x.most
           ·have H2:=hid (decide_eq_true h2);by_cases h3:x.most≤1000000
            ·have H3:=hid (decide_eq_true h3);go_wp2_with fail
             refine au w4 br (by kernel_rfl) (by kernel_rfl) ?_;repeat(first
              |go_big_quiet_skip
              |(go_big_quiet_want;go_big_quiet_op;first|go_big_quiet_on|fail))
             refine wpQuiet_nil ?_;intro _ dS;obtain⟨x5,aX⟩:=dS;subst aX;by_cases hs:wrap64 (wrap64 (us+ou)+x.free)=x.most
             ·have F7:=hid (decide_eq_true hs);go_wp2_with fail
              refine au w4 x5.ok (by kernel_rfl) (by kernel_rfl) ?_;repeat(first
               |go_big_quiet_skip
               |(go_big_quiet_want;go_big_quiet_op;first|go_big_quiet_on|(apply Exists.intro;refine⟨fun px=> ?_, ?_⟩;(focus(first|(go_at_call 72;(first|(with_reducible refine(AW.out _ px.ok).mono ?_));rintro e w' ⟨he,hb⟩;exact⟨he,⟨w',aa px.ok hb⟩,rfl⟩)|(go_at_call 73;(first|(with_reducible refine(A2.out _ px.ok).mono ?_));rintro e w' ⟨he,hb⟩;exact⟨he,⟨w',aa px.ok hb⟩,rfl⟩)));go_big_quiet_on)))
              refine wpQuiet_nil ?_;intro _ dS;obtain⟨x6,aX⟩:=dS;subst aX;go_wp2;go_roundw
              case rel=>exact⟨0+1,by omega,by go_num,HT.out (by simp[H1.out,H2.out,H3.out,F7.out]),aa je.out x6.ok⟩
              case measure=>simp[intOf];omega
             ·have F7:=hid (decide_eq_false hs);go_wp2_with fail
              refine au w4 x5.ok (by kernel_rfl) (by kernel_rfl) ?_;repeat(first
               |go_big_quiet_skip
               |(go_big_quiet_want;go_big_quiet_op;first|go_big_quiet_on|(apply Exists.intro;refine⟨fun px=> ?_, ?_⟩;(focus(first|(go_at_call 72;(first|(with_reducible refine(AW.out _ px.ok).mono ?_));rintro e w' ⟨he,hb⟩;exact⟨he,⟨w',aa px.ok hb⟩,rfl⟩)|(go_at_call 73;(first|(with_reducible refine(A2.out _ px.ok).mono ?_));rintro e w' ⟨he,hb⟩;exact⟨he,⟨w',aa px.ok hb⟩,rfl⟩)));go_big_quiet_on)))
              refine wpQuiet_nil ?_;intro _ dS;obtain⟨x6,aX⟩:=dS;subst aX;go_wp2;go_ret;exact⟨Pl.ae (HF.out (by simp[F7.out])).symm,aa aY.out x6.ok⟩
            ·have H3:=hid (decide_eq_false h3);go_wp2;go_ret;exact⟨Pl.ae (HF.out (by simp[H3.out])).symm,aa aY.out br⟩
           ·have H2:=hid (decide_eq_false h2);go_wp2;go_ret;exact⟨Pl.ae (HF.out (by simp[H2.out])).symm,aa aY.out br⟩
          ·have H1:=hid (decide_eq_false h1);go_wp2;go_ret;exact⟨Pl.ae (HF.out (by simp[H1.out])).symm,aa aY.out br⟩
       ·obtain⟨m,rfl⟩:∃ m,q=m+1:=⟨q - 1,by omega⟩
        clear h0;obtain⟨x,hx⟩:∃ x,x=K.ledgers.getD (m+1) Lg.none:=⟨_,rfl⟩
        have bC:=(HA.out.2.later fu.out).l;have gx:=bC.lt;have eb:=bC.at_ (m+1) aw;rw[← hx]at eb;obtain⟨c0,c1,c2,c3,eQ⟩:=eb;obtain⟨y,hy⟩:∃ y,y=K.ledgers.getD m Lg.none:=⟨_,rfl⟩
        have eb:=bC.at_ m (by omega);rw[← hy]at eb;obtain⟨d0,d1,d2,d3,_⟩:=eb;obtain⟨w4,ej⟩:∃ w4,w4=wr.alloc (.cells #[.string x.team,.string x.res,.int .i64 x.most,.int .i64 x.free] 131):=⟨_,rfl⟩
        obtain⟨E,hE⟩:∃ E,E=wr.heap.size:=⟨_,rfl⟩
        have dC:Bel wr w4:=by rw[ej];exact ab br _
        have je:=hid (aa hW dC);have aY:=hid (aa fu.out dC);have aR:=dD.out w4 je.out;have ao:aT w4 E #[.string x.team,.string x.res,.int .i64 x.most,.int .i64 x.free]:=by rw[ej];exact aT.bV _ _ _ _ hE
        obtain⟨b1,bj⟩:∃ b1,b1=(bA L.teams x.team):=⟨_,rfl⟩
        have eu:Hid (∀ W,Bel w4 W→Calls Tryz.prog 62 #[.slice (some ⟨a2,0,none⟩) L.teams.length L.teams.length,.string x.team] W fun e w'=>e=.returned (.bool b1)∧W=w'):=fun W bG=>by
         rw[bj];have ft:=aa aY.out bG;exact iu a2 L.teams x.team W (HA.out.1.later ft).t
        obtain⟨b2,aA⟩:∃ b2,b2=(Pl.aq x.res):=⟨_,rfl⟩
        have fV:Hid (∀ W,Bel w4 W→Calls Tryz.prog 68 #[.string x.res] W fun e w'=>e=.returned (.bool b2)∧W=w'):=fun W bG=>by
         rw[aA];have ft:=aa aY.out bG;exact aH x.res W eQ.2
        obtain⟨kq,A0⟩:∃ kq,kq=pV y x:=⟨_,rfl⟩
        have oX:Hid (∀ W,Bel w4 W→Calls Tryz.prog 63 #[.string y.team,.string y.res,.string x.team,.string x.res] W fun e w'=>e=.returned (.int .i64 kq)∧W=w'):=fun W bG=>by
         rw[A0];exact Es _ _ _ _ W
        obtain⟨us,Ax⟩:∃ us,us=(used L K x.team x.res):=⟨_,rfl⟩
        have AW:Hid (∀ W,Bel w4 W→Calls Tryz.prog 72 #[.agg #[.slice (some ⟨a0,0,none⟩) L.shapes.length L.shapes.length,.slice (some ⟨a1,0,none⟩) L.mends.length L.mends.length,.slice (some ⟨a2,0,none⟩) L.teams.length L.teams.length],.agg #[.int .i64 K.now,.int .i64 K.tick,.int .i64 K.given,.slice (some ⟨e0,0,none⟩) K.objects.length K.objects.length,.slice (some ⟨e1,0,none⟩) K.grants.length K.grants.length,.slice (some ⟨e2,0,none⟩) K.ledgers.length K.ledgers.length,.slice (some ⟨e3,0,none⟩) K.purses.length K.purses.length],.string x.team,.string x.res] W fun e w'=>e=.returned (.int .i64 us)∧Bel W w'):=fun W bG=>by
         rw[Ax];have ft:=aa aY.out bG;exact C8 L K a0 a1 a2 e0 e1 e2 e3 x.team x.res W (HA.out.1.later ft) (HA.out.2.later ft)
        obtain⟨ou,EN⟩:∃ ou,ou=(vk K.purses x.team x.res):=⟨_,rfl⟩
        have A2:Hid (∀ W,Bel w4 W→Calls Tryz.prog 73 #[.agg #[.int .i64 K.now,.int .i64 K.tick,.int .i64 K.given,.slice (some ⟨e0,0,none⟩) K.objects.length K.objects.length,.slice (some ⟨e1,0,none⟩) K.grants.length K.grants.length,.slice (some ⟨e2,0,none⟩) K.ledgers.length K.ledgers.length,.slice (some ⟨e3,0,none⟩) K.purses.length K.purses.length],.string x.team,.string x.res] W fun e w'=>e=.returned (.int .i64 ou)∧Bel W w'):=fun W bG=>by
         rw[EN];have ft:=aa aY.out bG;exact yB K e0 e1 e2 e3 x.team x.res W (HA.out.2.later ft)
        have HP:Hid (fm L K (m+1)=(decide (kq<0)&&(b1&&b2&&decide (0≤x.free)&&decide (x.free≤x.most)&&decide (x.most≤1000000)&&decide (wrap64 (wrap64 (us+ou)+x.free)=x.most)))):=by
         show (cD _ (m+1)&&(cz L K (m+1)&&fF L K (m+1)))=_;unfold cz fF vi;rw[mN];unfold ks;rw[← hx,← bj,← aA,← Ax,← EN];rw[A0,hx,hy];show (decide _&&_)=_;rfl
        have HF:Hid ((decide (kq<0)&&(b1&&b2&&decide (0≤x.free)&&decide (x.free≤x.most)&&decide (x.most≤1000000)&&decide (wrap64 (wrap64 (us+ou)+x.free)=x.most)))=false→R=false):=fun hh=>by rw[l3.out];exact ba aw (HP.out.trans hh)
        have HT:Hid ((decide (kq<0)&&(b1&&b2&&decide (0≤x.free)&&decide (x.free≤x.most)&&decide (x.most≤1000000)&&decide (wrap64 (wrap64 (us+ou)+x.free)=x.most)))=true→aD (fm L K) (m+1+1)=true):=fun hh=>aU HQ.out (HP.out.trans hh);clear bj aA Ax EN eQ hx bC hy A0;obtain⟨oM,_⟩:=dD.out wr hW;obtain⟨yz,y0,y1,y2,y3,y4,y5,y6⟩:=oM;go_upto_region 13 with fail
        rw[← ej,← hE];clear ej hE yz y0 y1 y2 y3 y4 y5 y6 hW c0 c1 c2 c3;obtain⟨aR,bB⟩:=aR;obtain⟨yz,y0,y1,y2,y3,y4,y5,y6⟩:=aR;obtain⟨lz,l0,l1,l2⟩:=bB;have uV:=ei w4;have ez:=ao.lt;have mT:∀ px:Pst w4,E<px.W.heap.size:=fun px=>px.size ez;have FL:∀ px:Pst w4,w.heap.size+1<px.W.heap.size:=fun px=>px.size yz;have Lp:∀ px:Pst w4,w.heap.size<px.W.heap.size:=fun px=>px.size lz;have xQ:∀ px:Pst w4,e2<px.W.heap.size:=fun px=>px.size (lo gx dC.size);have Y0:∀ px:Pst w4,px.W.cell? ⟨w.heap.size+1,0,none⟩=some (.int .i64 K.now):=fun px=>px.cell y0 yz;have Y1:∀ px:Pst w4,px.W.cell? ⟨w.heap.size+1,1,none⟩=some (.int .i64 K.tick):=fun px=>px.cell y1 yz;have Y2:∀ px:Pst w4,px.W.cell? ⟨w.heap.size+1,2,none⟩=some (.int .i64 K.given):=fun px=>px.cell y2 yz;have Y3:∀ px:Pst w4,px.W.cell? ⟨w.heap.size+1,3,none⟩=some (.slice (some ⟨e0,0,none⟩) K.objects.length K.objects.length):=fun px=>px.cell y3 yz;have Y4:∀ px:Pst w4,px.W.cell? ⟨w.heap.size+1,4,none⟩=some (.slice (some ⟨e1,0,none⟩) K.grants.length K.grants.length):=fun px=>px.cell y4 yz;have Y5:∀ px:Pst w4,px.W.cell? ⟨w.heap.size+1,5,none⟩=some (.slice (some ⟨e2,0,none⟩) K.ledgers.length K.ledgers.length):=fun px=>px.cell y5 yz;have Y6:∀ px:Pst w4,px.W.cell? ⟨w.heap.size+1,6,none⟩=some (.slice (some ⟨e3,0,none⟩) K.purses.length K.purses.length):=fun px=>px.cell y6 yz;have L0:∀ px:Pst w4,px.W.cell? ⟨w.heap.size,0,none⟩=some (.slice (some ⟨a0,0,none⟩) L.shapes.length L.shapes.length):=fun px=>px.cell l0 lz;have L1:∀ px:Pst w4,px.W.cell? ⟨w.heap.size,1,none⟩=some (.slice (some ⟨a1,0,none⟩) L.mends.length L.mends.length):=fun px=>px.cell l1 lz;have L2:∀ px:Pst w4,px.W.cell? ⟨w.heap.size,2,none⟩=some (.slice (some ⟨a2,0,none⟩) L.teams.length L.teams.length):=fun px=>px.cell l2 lz;have X0:∀ px:Pst w4,px.W.cell? ⟨E,0,none⟩=some (.string x.team):=fun px=>px.cell (ao.at_ 0) ez;have X1:∀ px:Pst w4,px.W.cell? ⟨E,1,none⟩=some (.string x.res):=fun px=>px.cell (ao.at_ 1) ez;have X2:∀ px:Pst w4,px.W.cell? ⟨E,2,none⟩=some (.int .i64 x.most):=fun px=>px.cell (ao.at_ 2) ez;have X3:∀ px:Pst w4,px.W.cell? ⟨E,3,none⟩=some (.int .i64 x.free):=fun px=>px.cell (ao.at_ 3) ez;have D0:∀ px:Pst w4,px.W.cell? ⟨e2,m*4,none⟩=some (.string y.team):=fun px=>px.cell ((dC.cell (p:=⟨e2,m*4,none⟩) gx).trans d0) (lo gx dC.size);have D1:∀ px:Pst w4,px.W.cell? ⟨e2,m*4+1,none⟩=some (.string y.res):=fun px=>px.cell ((dC.cell (p:=⟨e2,m*4+1,none⟩) gx).trans d1) (lo gx dC.size);have D2:∀ px:Pst w4,px.W.cell? ⟨e2,m*4+2,none⟩=some (.int .i64 y.most):=fun px=>px.cell ((dC.cell (p:=⟨e2,m*4+2,none⟩) gx).trans d2) (lo gx dC.size);have D3:∀ px:Pst w4,px.W.cell? ⟨e2,m*4+3,none⟩=some (.int .i64 y.free):=fun px=>px.cell ((dC.cell (p:=⟨e2,m*4+3,none⟩) gx).trans d3) (lo gx dC.size);have AH:(0:Int)≤(m:Int):=by omega
        have gk:(m:Int)<(K.ledgers.length:Int):=by omega
        have Jc:IntKind.i64.wrap (m:Int)=(m:Int):=jM _ (by omega) (by omega);have gQ:(0:Int)<(m:Int)+1:=by omega
        clear d0 d1 d2 d3;have x0:w4.cell? ⟨E,0,none⟩=some (.string x.team):=ao.at_ 0;have x1:w4.cell? ⟨E,1,none⟩=some (.string x.res):=ao.at_ 1;have x2:w4.cell? ⟨E,2,none⟩=some (.int .i64 x.most):=ao.at_ 2;have x3:w4.cell? ⟨E,3,none⟩=some (.int .i64 x.free):=ao.at_ 3;clear ao dC;go_wp2_with fail
        refine(eu.out w4 br).mono ?_;rintro e w7 ⟨rfl,rfl⟩;cases b1
        ·go_wp2;go_ret;exact⟨Pl.ae (HF.out (by simp)).symm,aa aY.out br⟩
        ·go_wp2_with fail
         refine(fV.out w4 br).mono ?_;rintro e w7 ⟨rfl,rfl⟩;cases b2
         ·go_wp2;go_ret;exact⟨Pl.ae (HF.out (by simp)).symm,aa aY.out br⟩
         ·by_cases h1:0≤x.free
          ·have H1:=hid (decide_eq_true h1);by_cases h2:x.free≤x.most
           ·have H2:=hid (decide_eq_true h2);by_cases h3:x.most≤1000000
            ·have H3:=hid (decide_eq_true h3);by_cases hk:kq<0
             ·have oU:=hid (decide_eq_true hk);have pq:¬ 0≤kq:=by omega
              have hk3:decide (0≤kq)=false:=decide_eq_false pq;go_wp2_with fail
              refine au w4 br (by kernel_rfl) (by kernel_rfl) ?_;repeat(first
               |go_big_quiet_skip
               |(go_big_quiet_want;go_big_quiet_op;first|go_big_quiet_on|(apply Exists.intro;refine⟨fun px=> ?_, ?_⟩;(focus(first|(go_at_call 63;(first|(with_reducible refine(oX.out _ px.ok).mono ?_));rintro e w' ⟨he,hb⟩;exact⟨he,px,hb.symm⟩)));go_big_quiet_on)))
              refine wpQuiet_nil ?_;intro _ dS;obtain⟨x5,aX⟩:=dS;subst aX;by_cases hs:wrap64 (wrap64 (us+ou)+x.free)=x.most
              ·have F7:=hid (decide_eq_true hs);go_wp2_with fail
               refine au w4 x5.ok (by kernel_rfl) (by kernel_rfl) ?_;repeat(first
                |go_big_quiet_skip
                |(go_big_quiet_want;go_big_quiet_op;first|go_big_quiet_on|(apply Exists.intro;refine⟨fun px=> ?_, ?_⟩;(focus(first|(go_at_call 72;(first|(with_reducible refine(AW.out _ px.ok).mono ?_));rintro e w' ⟨he,hb⟩;exact⟨he,⟨w',aa px.ok hb⟩,rfl⟩)|(go_at_call 73;(first|(with_reducible refine(A2.out _ px.ok).mono ?_));rintro e w' ⟨he,hb⟩;exact⟨he,⟨w',aa px.ok hb⟩,rfl⟩)));go_big_quiet_on)))
               refine wpQuiet_nil ?_;intro _ dS;obtain⟨x6,aX⟩:=dS;subst aX;go_wp2;go_roundw
               case rel=>exact⟨m+1+1,by omega,by go_num,HT.out (by simp[H1.out,H2.out,H3.out,oU.out,F7.out]),aa je.out x6.ok⟩
               case measure=>simp[intOf];omega
              ·have F7:=hid (decide_eq_false hs);go_wp2_with fail
               refine au w4 x5.ok (by kernel_rfl) (by kernel_rfl) ?_;repeat(first
                |go_big_quiet_skip
                |(go_big_quiet_want;go_big_quiet_op;first|go_big_quiet_on|(apply Exists.intro;refine⟨fun px=> ?_, ?_⟩;(focus(first|(go_at_call 72;(first|(with_reducible refine(AW.out _ px.ok).mono ?_));rintro e w' ⟨he,hb⟩;exact⟨he,⟨w',aa px.ok hb⟩,rfl⟩)|(go_at_call 73;(first|(with_reducible refine(A2.out _ px.ok).mono ?_));rintro e w' ⟨he,hb⟩;exact⟨he,⟨w',aa px.ok hb⟩,rfl⟩)));go_big_quiet_on)))
               refine wpQuiet_nil ?_;intro _ dS;obtain⟨x6,aX⟩:=dS;subst aX;go_wp2;go_ret;exact⟨Pl.ae (HF.out (by simp[F7.out])).symm,aa aY.out x6.ok⟩
             ·have oU:=hid (decide_eq_false hk);have pq:0≤kq:=by omega
              go_wp2_with fail
              refine au w4 br (by kernel_rfl) (by kernel_rfl) ?_;repeat(first
               |go_big_quiet_skip
               |(go_big_quiet_want;go_big_quiet_op;first|go_big_quiet_on|(apply Exists.intro;refine⟨fun px=> ?_, ?_⟩;(focus(first|(go_at_call 63;(first|(with_reducible refine(oX.out _ px.ok).mono ?_));rintro e w' ⟨he,hb⟩;exact⟨he,px,hb.symm⟩)));go_big_quiet_on)))
              refine wpQuiet_nil ?_;intro _ dS;obtain⟨x5,aX⟩:=dS;subst aX;go_wp2;go_ret;exact⟨Pl.ae (HF.out (by simp[oU.out])).symm,aa aY.out x5.ok⟩
            ·have H3:=hid (decide_eq_false h3);go_wp2;go_ret;exact⟨Pl.ae (HF.out (by simp[H3.out])).symm,aa aY.out br⟩
           ·have H2:=hid (decide_eq_false h2);go_wp2;go_ret;exact⟨Pl.ae (HF.out (by simp[H2.out])).symm,aa aY.out br⟩
          ·have H1:=hid (decide_eq_false h1);go_wp2;go_ret;exact⟨Pl.ae (HF.out (by simp[H1.out])).symm,aa aY.out br⟩
      ·obtain rfl:q=K.ledgers.length:=by omega
       obtain⟨aR,_⟩:=dD.out wr hW;obtain⟨yz,y0,y1,y2,y3,y4,y5,y6⟩:=aR;go_wp2;go_ret;exact⟨Pl.ae (by rw[l3.out,HQ.out]),fu.out⟩
  ·have HE:Hid (R=false):=by show R=false;rw[HR.out];simp[Gn]
   go_wp2;go_ret;exact⟨Pl.ae HE.out.symm,cN.out⟩
 ·have HE:Hid (R=false):=by show R=false;rw[HR.out];simp[Dx]
  go_wp2;go_ret;exact⟨Pl.ae HE.out.symm,cN.out⟩
end Go.Proofs.YtbiokpmdghmgcaaGreat
