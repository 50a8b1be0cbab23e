import Derived.Deep.DeepCutAuto
import Derived.Test.YtbiokpmdghmgcaaGreatBkO
import Derived.Test.YtbiokpmdghmgcaaGreatBkP
import Derived.Test.YtbiokpmdghmgcaaGreatMaI
namespace Go.Proofs.YtbiokpmdghmgcaaGreat
set_option maxRecDepth 8000
set_option maxHeartbeats 40000000
open Go.RowKit Go.Deep
theorem qv {L:Lw} (h:fZ L=true):aN L.shapes=true∧aU L.shapes L.mends=true:=by
 unfold fZ at h;have h1:=((Bool.and_eq_true _ _).mp h).1;refine⟨?_,h1⟩;unfold aU at h1;simp only[Bool.and_eq_true]at h1;exact h1.1.1.1
theorem l6 {x lo hi:Int} (h:within x lo hi=true):lo≤x∧x≤hi:=by
 unfold within at h;simpa using h
theorem DL (L:Lw) (K:Bk) (a0 a1 a2 e0 e1 e2 e3:Nat) (w:World) (hL:fT w a0 a1 a2 L) (hK:fG w e0 e1 e2 e3 K):
  Calls Tryz.prog 7 #[.agg #[.slice (some ⟨a0,0,none⟩) L.shapes.length L.shapes.length,.slice (some ⟨a1,0,none⟩) L.mends.length L.mends.length,.slice (some ⟨a2,0,none⟩) L.teams.length L.teams.length],.agg #[.int .i64 K.now,.int .i64 K.tick,.int .i64 K.given,.slice (some ⟨e0,0,none⟩) K.objects.length K.objects.length,.slice (some ⟨e1,0,none⟩) K.grants.length K.grants.length,.slice (some ⟨e2,0,none⟩) K.ledgers.length K.ledgers.length,.slice (some ⟨e3,0,none⟩) K.purses.length K.purses.length]] w fun e w'=>e=.returned (.bool (gE L K))∧Bel w w':=by
 have HA:=hid (And.intro hL hK);clear hK hL;obtain⟨w1,eb⟩:∃ w1,w1=(w.alloc (.cells #[.slice (some ⟨a0,0,none⟩) L.shapes.length L.shapes.length,.slice (some ⟨a1,0,none⟩) L.mends.length L.mends.length,.slice (some ⟨a2,0,none⟩) L.teams.length L.teams.length] 40)).alloc (.cells #[.int .i64 K.now,.int .i64 K.tick,.int .i64 K.given,.slice (some ⟨e0,0,none⟩) K.objects.length K.objects.length,.slice (some ⟨e1,0,none⟩) K.grants.length K.grants.length,.slice (some ⟨e2,0,none⟩) K.ledgers.length K.ledgers.length,.slice (some ⟨e3,0,none⟩) K.purses.length K.purses.length] 47):=⟨_,rfl⟩
 have cQ:Hid (Bel w w1):=by show Below _ _ _;rw[eb];exact ab (ab br _) _
 have dE:Hid (∀ W,Bel w1 W→bd W (w.heap.size+1) (.int .i64 K.now) (.int .i64 K.tick) (.int .i64 K.given) (.slice (some ⟨e0,0,none⟩) K.objects.length K.objects.length) (.slice (some ⟨e1,0,none⟩) K.grants.length K.grants.length) (.slice (some ⟨e2,0,none⟩) K.ledgers.length K.ledgers.length) (.slice (some ⟨e3,0,none⟩) K.purses.length K.purses.length)∧bC W w.heap.size (.slice (some ⟨a0,0,none⟩) L.shapes.length L.shapes.length) (.slice (some ⟨a1,0,none⟩) L.mends.length L.mends.length) (.slice (some ⟨a2,0,none⟩) L.teams.length L.teams.length)):=by
  have q:bd w1 (w.heap.size+1) (.int .i64 K.now) (.int .i64 K.tick) (.int .i64 K.given) (.slice (some ⟨e0,0,none⟩) K.objects.length K.objects.length) (.slice (some ⟨e1,0,none⟩) K.grants.length K.grants.length) (.slice (some ⟨e2,0,none⟩) K.ledgers.length K.ledgers.length) (.slice (some ⟨e3,0,none⟩) K.purses.length K.purses.length)∧bC w1 w.heap.size (.slice (some ⟨a0,0,none⟩) L.shapes.length L.shapes.length) (.slice (some ⟨a1,0,none⟩) L.mends.length L.mends.length) (.slice (some ⟨a2,0,none⟩) L.teams.length L.teams.length):=by rw[eb];exact⟨bd.bp _ _ _ _ _ _ _ _ _ _ (by simp),(bC.bp w _ _ _ _ _ rfl).cy _⟩
  intro W hW;exact⟨q.1.later hW,q.2.later hW⟩
 obtain⟨b1,bl⟩:∃ b1,b1=(fZ L):=⟨_,rfl⟩
 have ey:Hid (∀ W,Bel w1 W→Calls Tryz.prog 24 #[.agg #[.slice (some ⟨a0,0,none⟩) L.shapes.length L.shapes.length,.slice (some ⟨a1,0,none⟩) L.mends.length L.mends.length,.slice (some ⟨a2,0,none⟩) L.teams.length L.teams.length]] W fun e w'=>e=.returned (.bool b1)∧Bel W w'):=fun W hW=>by rw[bl];exact Fa L a0 a1 a2 W (HA.out.1.later (aa cQ.out hW))
 obtain⟨b2,aA⟩:∃ b2,b2=(within K.now 0 1000000):=⟨_,rfl⟩
 have gh:Hid (∀ W,Bel w1 W→Calls Tryz.prog 25 #[.int .i64 K.now,.int .i64 0,.int .i64 1000000] W fun e w'=>e=.returned (.bool b2)∧W=w'):=fun W hW=>by rw[aA];exact bc _ _ _ W
 obtain⟨b3,aO⟩:∃ b3,b3=(within K.tick 0 1000000):=⟨_,rfl⟩
 have fc:Hid (∀ W,Bel w1 W→Calls Tryz.prog 25 #[.int .i64 K.tick,.int .i64 0,.int .i64 1000000] W fun e w'=>e=.returned (.bool b3)∧W=w'):=fun W hW=>by rw[aO];exact bc _ _ _ W
 obtain⟨b4,cA⟩:∃ b4,b4=(within K.given 0 K.now):=⟨_,rfl⟩
 have eY:Hid (∀ W,Bel w1 W→Calls Tryz.prog 25 #[.int .i64 K.given,.int .i64 0,.int .i64 K.now] W fun e w'=>e=.returned (.bool b4)∧W=w'):=fun W hW=>by rw[cA];exact bc _ _ _ W
 obtain⟨b5,gI⟩:∃ b5,b5=(ef L K):=⟨_,rfl⟩
 have Nq:Hid (b1=true→∀ W,Bel w1 W→Calls Tryz.prog 26 #[.agg #[.slice (some ⟨a0,0,none⟩) L.shapes.length L.shapes.length,.slice (some ⟨a1,0,none⟩) L.mends.length L.mends.length,.slice (some ⟨a2,0,none⟩) L.teams.length L.teams.length],.agg #[.int .i64 K.now,.int .i64 K.tick,.int .i64 K.given,.slice (some ⟨e0,0,none⟩) K.objects.length K.objects.length,.slice (some ⟨e1,0,none⟩) K.grants.length K.grants.length,.slice (some ⟨e2,0,none⟩) K.ledgers.length K.ledgers.length,.slice (some ⟨e3,0,none⟩) K.purses.length K.purses.length]] W fun e w'=>e=.returned (.bool b5)∧Bel W w'):=fun hh W hW=>by rw[gI];exact tR L K a0 a1 a2 e0 e1 e2 e3 W (HA.out.1.later (aa cQ.out hW)) (HA.out.2.later (aa cQ.out hW)) (qv (bl.symm.trans hh)).1 (qv (bl.symm.trans hh)).2
 obtain⟨b6,yW⟩:∃ b6,b6=(eH K):=⟨_,rfl⟩
 have LM:Hid (∀ W,Bel w1 W→Calls Tryz.prog 27 #[.agg #[.int .i64 K.now,.int .i64 K.tick,.int .i64 K.given,.slice (some ⟨e0,0,none⟩) K.objects.length K.objects.length,.slice (some ⟨e1,0,none⟩) K.grants.length K.grants.length,.slice (some ⟨e2,0,none⟩) K.ledgers.length K.ledgers.length,.slice (some ⟨e3,0,none⟩) K.purses.length K.purses.length]] W fun e w'=>e=.returned (.bool b6)∧Bel W w'):=fun W hW=>by rw[yW];exact xm K e0 e1 e2 e3 W (HA.out.2.later (aa cQ.out hW))
 obtain⟨b7,Cl⟩:∃ b7,b7=(dM L K&&eG K&&iC L K):=⟨_,rfl⟩
 have Mq:Hid (b3=true→∀ W,Bel w1 W→Calls Tryz.prog 28 #[.agg #[.slice (some ⟨a0,0,none⟩) L.shapes.length L.shapes.length,.slice (some ⟨a1,0,none⟩) L.mends.length L.mends.length,.slice (some ⟨a2,0,none⟩) L.teams.length L.teams.length],.agg #[.int .i64 K.now,.int .i64 K.tick,.int .i64 K.given,.slice (some ⟨e0,0,none⟩) K.objects.length K.objects.length,.slice (some ⟨e1,0,none⟩) K.grants.length K.grants.length,.slice (some ⟨e2,0,none⟩) K.ledgers.length K.ledgers.length,.slice (some ⟨e3,0,none⟩) K.purses.length K.purses.length]] W fun e w'=>e=.returned (.bool b7)∧Bel W w'):=fun hh W hW=>by rw[Cl];exact Dw L K a0 a1 a2 e0 e1 e2 e3 W (HA.out.1.later (aa cQ.out hW)) (HA.out.2.later (aa cQ.out hW)) (l6 (aO.symm.trans hh)).1 (l6 (aO.symm.trans hh)).2
 have HP:Hid (gE L K=(b1&&b2&&b3&&b4&&b5&&b6&&b7)):=by
  show gE L K=_;unfold gE gP;rw[bl,aA,aO,cA,gI,yW,Cl];cases fZ L<;>cases within K.now 0 1000000<;>cases within K.tick 0 1000000<;>cases within K.given 0 K.now<;>cases ef L K<;>cases eH K<;>cases dM L K<;>cases eG K<;>rfl
 rw[HP.out];clear bl aA aO cA gI yW Cl HP;have HK:Hid (Bel w1 w1):=br;go_enter Tryz.func7,Tryz.ntmps7
 go_upto_region 1 with fail
 rw[← eb];clear eb;obtain⟨aS,bD⟩:=dE.out w1 HK.out;obtain⟨yz,y0,y1,y2,y3,y4,y5,y6⟩:=aS;obtain⟨lz,l0,l1,l2⟩:=bD;go_wp2_with fail
 refine(ey.out w1 HK.out).mono ?_;rintro e cV ⟨rfl,mO⟩;have iI:=aa HK.out mO;clear HK;have HK:=hid iI;clear iI mO;clear yz y0 y1 y2 y3 y4 y5 y6 lz l0 l1 l2;cases b1
 ·obtain⟨aS,bD⟩:=dE.out cV HK.out;obtain⟨yz,y0,y1,y2,y3,y4,y5,y6⟩:=aS;obtain⟨lz,l0,l1,l2⟩:=bD;go_wp2;go_ret;exact⟨Pl.ae (by simp),aa cQ.out HK.out⟩
 ·obtain⟨aS,bD⟩:=dE.out cV HK.out;obtain⟨yz,y0,y1,y2,y3,y4,y5,y6⟩:=aS;obtain⟨lz,l0,l1,l2⟩:=bD;go_wp2_with fail
  refine(gh.out cV HK.out).mono ?_;rintro e w7 ⟨rfl,rfl⟩;clear yz y0 y1 y2 y3 y4 y5 y6 lz l0 l1 l2;cases b2
  ·obtain⟨aS,bD⟩:=dE.out cV HK.out;obtain⟨yz,y0,y1,y2,y3,y4,y5,y6⟩:=aS;obtain⟨lz,l0,l1,l2⟩:=bD;go_wp2;go_ret;exact⟨Pl.ae (by simp),aa cQ.out HK.out⟩
  ·obtain⟨aS,bD⟩:=dE.out cV HK.out;obtain⟨yz,y0,y1,y2,y3,y4,y5,y6⟩:=aS;obtain⟨lz,l0,l1,l2⟩:=bD;go_wp2_with fail
   refine(fc.out cV HK.out).mono ?_;rintro e w7 ⟨rfl,rfl⟩;clear yz y0 y1 y2 y3 y4 y5 y6 lz l0 l1 l2;cases b3
   ·obtain⟨aS,bD⟩:=dE.out cV HK.out;obtain⟨yz,y0,y1,y2,y3,y4,y5,y6⟩:=aS;obtain⟨lz,l0,l1,l2⟩:=bD;go_wp2;go_ret;exact⟨Pl.ae (by simp),aa cQ.out HK.out⟩
   ·obtain⟨aS,bD⟩:=dE.out cV HK.out;obtain⟨yz,y0,y1,y2,y3,y4,y5,y6⟩:=aS;obtain⟨lz,l0,l1,l2⟩:=bD;go_wp2_with fail
    refine(eY.out cV HK.out).mono ?_;rintro e w7 ⟨rfl,rfl⟩;clear yz y0 y1 y2 y3 y4 y5 y6 lz l0 l1 l2;cases b4
    ·obtain⟨aS,bD⟩:=dE.out cV HK.out;obtain⟨yz,y0,y1,y2,y3,y4,y5,y6⟩:=aS;obtain⟨lz,l0,l1,l2⟩:=bD;go_wp2;go_ret;exact⟨Pl.ae (by simp),aa cQ.out HK.out⟩
    ·obtain⟨aS,bD⟩:=dE.out cV HK.out;obtain⟨yz,y0,y1,y2,y3,y4,y5,y6⟩:=aS;obtain⟨lz,l0,l1,l2⟩:=bD;go_wp2_with fail
     refine(Nq.out (by first|exact trivial|rfl) cV HK.out).mono ?_;rintro e MX ⟨rfl,mO⟩;have iI:=aa HK.out mO;clear HK;have HK:=hid iI;clear iI mO;clear yz y0 y1 y2 y3 y4 y5 y6 lz l0 l1 l2;cases b5
     ·obtain⟨aS,bD⟩:=dE.out MX HK.out;obtain⟨yz,y0,y1,y2,y3,y4,y5,y6⟩:=aS;obtain⟨lz,l0,l1,l2⟩:=bD;go_wp2;go_ret;exact⟨Pl.ae (by simp),aa cQ.out HK.out⟩
     ·obtain⟨aS,bD⟩:=dE.out MX HK.out;obtain⟨yz,y0,y1,y2,y3,y4,y5,y6⟩:=aS;obtain⟨lz,l0,l1,l2⟩:=bD;go_wp2_with fail
      refine(LM.out MX HK.out).mono ?_;rintro e Nz ⟨rfl,mO⟩;have iI:=aa HK.out mO;clear HK;have HK:=hid iI;clear iI mO;clear yz y0 y1 y2 y3 y4 y5 y6 lz l0 l1 l2;cases b6
      ·obtain⟨aS,bD⟩:=dE.out Nz HK.out;obtain⟨yz,y0,y1,y2,y3,y4,y5,y6⟩:=aS;obtain⟨lz,l0,l1,l2⟩:=bD;go_wp2;go_ret;exact⟨Pl.ae (by simp),aa cQ.out HK.out⟩
      ·obtain⟨aS,bD⟩:=dE.out Nz HK.out;obtain⟨yz,y0,y1,y2,y3,y4,y5,y6⟩:=aS;obtain⟨lz,l0,l1,l2⟩:=bD;go_wp2_with fail
       refine(Mq.out (by first|exact trivial|rfl) Nz HK.out).mono ?_;rintro e w26 ⟨rfl,mO⟩;have iI:=aa HK.out mO;clear HK;have HK:=hid iI;clear iI mO;clear yz y0 y1 y2 y3 y4 y5 y6 lz l0 l1 l2;obtain⟨aS,bD⟩:=dE.out w26 HK.out;obtain⟨yz,y0,y1,y2,y3,y4,y5,y6⟩:=aS;obtain⟨lz,l0,l1,l2⟩:=bD;go_wp2;go_ret;exact⟨Pl.ae (by simp),aa cQ.out HK.out⟩
set_option maxRecDepth 8000
set_option maxHeartbeats 40000000
open Go.RowKit Go.Deep
def tT (L:Lw) (K:Bk) (who:ByteArray) (d:g7):Bool:=gE L K&&iY L.teams K.grants who d
theorem uU {L:Lw} {K:Bk} (h:gE L K=true):∀ g∈K.grants,bO g.rule.verbs=true:=by
 intro g hg;simp only[gE,eH,Bool.and_eq_true]at h;obtain⟨i,hi,rfl⟩:=List.getElem_of_mem hg;have h2:=h.1.1.1.2.2;have:=(gG _ _).1 h2 i hi;simp only[bZ,l8,eO,Bool.and_eq_true]at this;have e:K.grants.getD i Gr.none=K.grants[i]:=by simp[hi]
 rw[e]at this;exact this.2.1.1.1
theorem Lx (L:Lw) (K:Bk) (who:ByteArray) (d:g7) (a0 a1 a2 e0 e1 e2 e3:Nat) (w:World) (hL:fT w a0 a1 a2 L) (h:fG w e0 e1 e2 e3 K):
  Calls Tryz.prog 14 #[.agg #[.slice (some ⟨a0,0,none⟩) L.shapes.length L.shapes.length,.slice (some ⟨a1,0,none⟩) L.mends.length L.mends.length,.slice (some ⟨a2,0,none⟩) L.teams.length L.teams.length],.agg #[.int .i64 K.now,.int .i64 K.tick,.int .i64 K.given,.slice (some ⟨e0,0,none⟩) K.objects.length K.objects.length,.slice (some ⟨e1,0,none⟩) K.grants.length K.grants.length,.slice (some ⟨e2,0,none⟩) K.ledgers.length K.ledgers.length,.slice (some ⟨e3,0,none⟩) K.purses.length K.purses.length],.string who,.agg #[.int .i64 d.verb,.string d.kind,.string d.team,.string d.name]] w fun e w'=>e=.returned (.bool (tT L K who d))∧Bel w w':=by
 obtain⟨wa,ch⟩:∃ wa,wa=((w.alloc (.cells #[.slice (some ⟨a0,0,none⟩) L.shapes.length L.shapes.length,.slice (some ⟨a1,0,none⟩) L.mends.length L.mends.length,.slice (some ⟨a2,0,none⟩) L.teams.length L.teams.length] 40)).alloc (.cells #[.int .i64 K.now,.int .i64 K.tick,.int .i64 K.given,.slice (some ⟨e0,0,none⟩) K.objects.length K.objects.length,.slice (some ⟨e1,0,none⟩) K.grants.length K.grants.length,.slice (some ⟨e2,0,none⟩) K.ledgers.length K.ledgers.length,.slice (some ⟨e3,0,none⟩) K.purses.length K.purses.length] 47)).alloc (.cells #[.int .i64 d.verb,.string d.kind,.string d.team,.string d.name] 56):=⟨_,rfl⟩
 have cz:Hid (Bel w wa):=by show Below _ _ _;rw[ch];exact ab (ab (ab br _) _) _
 have eZ:Hid ((bC wa w.heap.size (.slice (some ⟨a0,0,none⟩) L.shapes.length L.shapes.length) (.slice (some ⟨a1,0,none⟩) L.mends.length L.mends.length) (.slice (some ⟨a2,0,none⟩) L.teams.length L.teams.length))∧(bd wa (w.heap.size+1) (.int .i64 K.now) (.int .i64 K.tick) (.int .i64 K.given) (.slice (some ⟨e0,0,none⟩) K.objects.length K.objects.length) (.slice (some ⟨e1,0,none⟩) K.grants.length K.grants.length) (.slice (some ⟨e2,0,none⟩) K.ledgers.length K.ledgers.length) (.slice (some ⟨e3,0,none⟩) K.purses.length K.purses.length))∧aM wa (w.heap.size+1+1) #[.int .i64 d.verb,.string d.kind,.string d.team,.string d.name]):=by show _∧_∧_;rw[ch];exact⟨((bC.bp _ _ _ _ _ _ rfl).cy _).cy _,(bd.bp _ _ _ _ _ _ _ _ _ _ (by simp)).cy _,aM.bp _ _ _ _ (by simp)⟩
 have HH:=hid (And.intro hL h);obtain⟨R,hR⟩:∃ R,R=tT L K who d:=⟨_,rfl⟩
 have HR:Hid (R=(gE L K&&iY L.teams K.grants who d)):=hR;rw[← hR];clear hL h hR;go_enter Tryz.func14,Tryz.ntmps14
 go_upto_region 1 with fail
 rw[← ch];clear ch;obtain⟨xz,x0,x1,x2⟩:=eZ.out.1;obtain⟨yz,y0,y1,y2,y3,y4,y5,y6⟩:=eZ.out.2.1;go_wp2_with fail
 refine(DL L K a0 a1 a2 e0 e1 e2 e3 wa (HH.out.1.later cz.out) (HH.out.2.later cz.out)).mono ?_;rintro e wb ⟨rfl,hb⟩;have gv:=hid (aa cz.out hb);have ik:=hid (And.intro (eZ.out.1.later hb) (And.intro (eZ.out.2.1.later hb) (eZ.out.2.2.later hb)));clear hb eZ cz xz x0 x1 x2 yz y0 y1 y2 y3 y4 y5 y6;cases hk:gE L K
 ·have HE:Hid (R=false):=by show _=_;rw[HR.out,hk];rfl
  go_wp2;go_ret;exact⟨Pl.ae HE.out.symm,gv.out⟩
 have HE:Hid (R=iY L.teams K.grants who d):=by show R=_;rw[HR.out,hk];rfl
 obtain⟨xz,x0,x1,x2⟩:=ik.out.1;obtain⟨yz,y0,y1,y2,y3,y4,y5,y6⟩:=ik.out.2.1;obtain⟨vz,vat⟩:=ik.out.2.2;have v0:wb.cell? ⟨w.heap.size+1+1,0,none⟩=some (.int .i64 d.verb):=vat 0;have v1:wb.cell? ⟨w.heap.size+1+1,1,none⟩=some (.string d.kind):=vat 1;have v2:wb.cell? ⟨w.heap.size+1+1,2,none⟩=some (.string d.team):=vat 2;have v3:wb.cell? ⟨w.heap.size+1+1,3,none⟩=some (.string d.name):=vat 3;have HM:=hid (FT L a0 a1 a2 K e0 e1 e2 e3 who d wb (HH.out.1.later gv.out) (HH.out.2.later gv.out));clear vat hk HR HH;go_wp2_with fail
 refine HM.out.mono ?_;rintro e wc ⟨rfl,hb⟩;have jE:=hid (aa gv.out hb);clear hb xz x0 x1 x2 yz y0 y1 y2 y3 y4 y5 y6 vz v0 v1 v2 v3 ik gv HM;rw[← HE.out];go_wp2;go_ret;exact⟨rfl,jE.out⟩
theorem LB (L:Lw) (K:Bk) (who:ByteArray) (d:g7) (a0 a1 a2 e0 e1 e2 e3:Nat) (w:World) (hL:fT w a0 a1 a2 L) (h:fG w e0 e1 e2 e3 K):
  Calls Tryz.prog 16 #[.agg #[.slice (some ⟨a0,0,none⟩) L.shapes.length L.shapes.length,.slice (some ⟨a1,0,none⟩) L.mends.length L.mends.length,.slice (some ⟨a2,0,none⟩) L.teams.length L.teams.length],.agg #[.int .i64 K.now,.int .i64 K.tick,.int .i64 K.given,.slice (some ⟨e0,0,none⟩) K.objects.length K.objects.length,.slice (some ⟨e1,0,none⟩) K.grants.length K.grants.length,.slice (some ⟨e2,0,none⟩) K.ledgers.length K.ledgers.length,.slice (some ⟨e3,0,none⟩) K.purses.length K.purses.length],.string who,.agg #[.int .i64 d.verb,.string d.kind,.string d.team,.string d.name]] w fun e w'=>e=.returned (.bool (tT L K who d))∧Bel w w':=by
 obtain⟨wa,ch⟩:∃ wa,wa=((w.alloc (.cells #[.slice (some ⟨a0,0,none⟩) L.shapes.length L.shapes.length,.slice (some ⟨a1,0,none⟩) L.mends.length L.mends.length,.slice (some ⟨a2,0,none⟩) L.teams.length L.teams.length] 40)).alloc (.cells #[.int .i64 K.now,.int .i64 K.tick,.int .i64 K.given,.slice (some ⟨e0,0,none⟩) K.objects.length K.objects.length,.slice (some ⟨e1,0,none⟩) K.grants.length K.grants.length,.slice (some ⟨e2,0,none⟩) K.ledgers.length K.ledgers.length,.slice (some ⟨e3,0,none⟩) K.purses.length K.purses.length] 47)).alloc (.cells #[.int .i64 d.verb,.string d.kind,.string d.team,.string d.name] 56):=⟨_,rfl⟩
 have cz:Hid (Bel w wa):=by show Below _ _ _;rw[ch];exact ab (ab (ab br _) _) _
 have eZ:Hid ((bC wa w.heap.size (.slice (some ⟨a0,0,none⟩) L.shapes.length L.shapes.length) (.slice (some ⟨a1,0,none⟩) L.mends.length L.mends.length) (.slice (some ⟨a2,0,none⟩) L.teams.length L.teams.length))∧(bd wa (w.heap.size+1) (.int .i64 K.now) (.int .i64 K.tick) (.int .i64 K.given) (.slice (some ⟨e0,0,none⟩) K.objects.length K.objects.length) (.slice (some ⟨e1,0,none⟩) K.grants.length K.grants.length) (.slice (some ⟨e2,0,none⟩) K.ledgers.length K.ledgers.length) (.slice (some ⟨e3,0,none⟩) K.purses.length K.purses.length))∧aM wa (w.heap.size+1+1) #[.int .i64 d.verb,.string d.kind,.string d.team,.string d.name]):=by show _∧_∧_;rw[ch];exact⟨((bC.bp _ _ _ _ _ _ rfl).cy _).cy _,(bd.bp _ _ _ _ _ _ _ _ _ _ (by simp)).cy _,aM.bp _ _ _ _ (by simp)⟩
 have HH:=hid (And.intro hL h);obtain⟨R,hR⟩:∃ R,R=tT L K who d:=⟨_,rfl⟩
 have HR:Hid (R=(gE L K&&iY L.teams K.grants who d)):=hR;rw[← hR];clear hL h hR;go_enter Tryz.func16,Tryz.ntmps16
 go_upto_region 1 with fail
 rw[← ch];clear ch;obtain⟨xz,x0,x1,x2⟩:=eZ.out.1;obtain⟨yz,y0,y1,y2,y3,y4,y5,y6⟩:=eZ.out.2.1;go_wp2_with fail
 refine(DD L K a0 a1 a2 e0 e1 e2 e3 wa (HH.out.1.later cz.out) (HH.out.2.later cz.out)).mono ?_;rintro e wb ⟨rfl,hb⟩;have gv:=hid (aa cz.out hb);have ik:=hid (And.intro (eZ.out.1.later hb) (And.intro (eZ.out.2.1.later hb) (eZ.out.2.2.later hb)));clear hb eZ cz xz x0 x1 x2 yz y0 y1 y2 y3 y4 y5 y6;cases hk:gE L K
 ·have HE:Hid (R=false):=by show _=_;rw[HR.out,hk];rfl
  go_wp2;go_ret;exact⟨Pl.ae HE.out.symm,gv.out⟩
 have HE:Hid (R=iY L.teams K.grants who d):=by show R=_;rw[HR.out,hk];rfl
 obtain⟨xz,x0,x1,x2⟩:=ik.out.1;obtain⟨yz,y0,y1,y2,y3,y4,y5,y6⟩:=ik.out.2.1;obtain⟨vz,vat⟩:=ik.out.2.2;have v0:wb.cell? ⟨w.heap.size+1+1,0,none⟩=some (.int .i64 d.verb):=vat 0;have v1:wb.cell? ⟨w.heap.size+1+1,1,none⟩=some (.string d.kind):=vat 1;have v2:wb.cell? ⟨w.heap.size+1+1,2,none⟩=some (.string d.team):=vat 2;have v3:wb.cell? ⟨w.heap.size+1+1,3,none⟩=some (.string d.name):=vat 3;have HM:=hid (Bx L a0 a1 a2 K e0 e1 e2 e3 who d wb (HH.out.1.later gv.out) (HH.out.2.later gv.out) (uU hk));clear vat hk HR HH;go_wp2_with fail
 refine HM.out.mono ?_;rintro e wc ⟨rfl,hb⟩;have jE:=hid (aa gv.out hb);clear hb xz x0 x1 x2 yz y0 y1 y2 y3 y4 y5 y6 vz v0 v1 v2 v3 ik gv HM;rw[← HE.out];go_wp2;go_ret;exact⟨rfl,jE.out⟩
end Go.Proofs.YtbiokpmdghmgcaaGreat
namespace Go.Proofs.YtbiokpmdghmgcaaGreat
open Go.RowKit Go.Deep
structure oO (W:World) (p:Nat) (v0 v1 v2 v3:Value):Prop where
 lt:p<W.heap.size
 x0:W.cell? ⟨p,0,none⟩=some v0
 x1:W.cell? ⟨p,1,none⟩=some v1
 x2:W.cell? ⟨p,2,none⟩=some v2
 x3:W.cell? ⟨p,3,none⟩=some v3
theorem oO.later {W W':World} {p:Nat} {v0 v1 v2 v3:Value} (h:oO W p v0 v1 v2 v3) (hb:Bel W W'):oO W' p v0 v1 v2 v3:=by
 have c:∀ j,W'.cell? ⟨p,j,none⟩=W.cell? ⟨p,j,none⟩:=fun j=>hb.cell (p:=⟨p,j,none⟩) h.lt;exact⟨lo h.lt hb.size,(c 0).trans h.x0,(c 1).trans h.x1,(c 2).trans h.x2,(c 3).trans h.x3⟩
theorem oO.new (W:World) (v0 v1 v2 v3:Value) (t:TypeId):oO (W.alloc (.cells #[v0,v1,v2,v3] t)) W.heap.size v0 v1 v2 v3:=⟨by simp,by simp,by simp,by simp,by simp⟩
theorem oO.bp (W:World) (p:Nat) (v0 v1 v2 v3:Value) (t:TypeId) (hp:p=W.heap.size):oO (W.alloc (.cells #[v0,v1,v2,v3] t)) p v0 v1 v2 v3:=by
 subst hp;exact oO.new W v0 v1 v2 v3 t
structure pP (w:World) (d:g7):Prop where
 s:d.sized
 at_:w=w
structure Ix (d:g7):Prop where
 same:d=d
theorem pP.later {w w':World} {d:g7} (h:pP w d) (_:Bel w w'):pP w' d:=⟨h.s,rfl⟩
theorem Lj (d:g7) (left:Int) (w:World) (h0:0≤left) (h1:left≤1048576) (hs:pP w d):
  Calls Tryz.prog 13 #[.agg #[.int .i64 d.verb,.string d.kind,.string d.team,.string d.name],.int .i64 left] w fun e w'=>(∃ x:Int,e=.returned (.int .i64 x)∧ -1≤x∧x≤left∧(0≤x→Ix d))∧Bel w w':=by
 refine(E0 d left w h0 h1 hs.s).mono ?_;rintro e w' ⟨⟨x,rfl,hx1,KS⟩,hb⟩;exact⟨⟨x,rfl,hx1,KS,fun _=>⟨rfl⟩⟩,hb⟩
theorem Lq (d:g7) (w:World) (_:Ix d) (h:pP w d):
  Calls Tryz.prog 15 #[.agg #[.int .i64 d.verb,.string d.kind,.string d.team,.string d.name]] w fun e w'=>(e=.returned (.agg #[.int .i64 d.verb,.string d.kind,.string d.team,.string d.name])∧pP w' d)∧Bel w w':=by
 refine(Fg d w).mono ?_;rintro e w' ⟨rfl,hb⟩;exact⟨⟨rfl,h.later hb⟩,hb⟩
end Go.Proofs.YtbiokpmdghmgcaaGreat
namespace Go.Proofs.YtbiokpmdghmgcaaGreat
set_option maxRecDepth 8000
set_option maxHeartbeats 40000000
open Go.RowKit Go.Deep
theorem Fw (L:Lw) (lv0 lv1 lv2:Value) (K:Bk) (bv0 bv1 bv2 bv3:Value) (who:ByteArray) (d:g7) (w:World) (h0:uu3 w lv0 lv1 lv2 L) (h1:uJ w bv0 bv1 bv2 bv3 K) (h2:pP w d):
  Calls Tryz.prog 4 #[.agg #[lv0,lv1,lv2],.agg #[.int .i64 K.now,.int .i64 K.tick,.int .i64 K.given,bv0,bv1,bv2,bv3],.string who,.agg #[.int .i64 d.verb,.string d.kind,.string d.team,.string d.name]] w fun e w'=>e=.returned (.bool true)∧Bel w w':=by
 have HH:=hid (And.intro h0 (And.intro h1 h2));clear h0 h1 h2;obtain⟨wa,ch⟩:∃ wa,wa=((w.alloc (.cells #[lv0,lv1,lv2] 26)).alloc (.cells #[.int .i64 K.now,.int .i64 K.tick,.int .i64 K.given,bv0,bv1,bv2,bv3] 32)).alloc (.cells #[.int .i64 d.verb,.string d.kind,.string d.team,.string d.name] 53):=⟨_,rfl⟩
 have cz:Hid (Bel w wa):=by show Below _ _ _;rw[ch];exact(ab (ab (ab br _) _) _)
 have eZ:Hid (bC wa w.heap.size (lv0) (lv1) (lv2)∧bd wa (w.heap.size+1) (.int .i64 K.now) (.int .i64 K.tick) (.int .i64 K.given) (bv0) (bv1) (bv2) (bv3)∧oO wa (w.heap.size+1+1) (.int .i64 d.verb) (.string d.kind) (.string d.team) (.string d.name)):=by show _∧_∧_;rw[ch];exact⟨(((bC.bp _ _ _ _ _ _ (by simp)).cy _).cy _),((bd.bp _ _ _ _ _ _ _ _ _ _ (by simp)).cy _),(oO.bp _ _ _ _ _ _ _ (by simp))⟩
 go_enter Tryz.func4,Tryz.ntmps4
 go_upto_region 1 with fail
 rw[← ch];clear ch;by_cases ND:(1048576:Int)<(who.size:Int)
 ·go_wp2;go_ret;exact⟨rfl,cz.out⟩
 obtain⟨y0z,y0_0,y0_1,y0_2⟩:=eZ.out.1;obtain⟨y1z,y1_0,y1_1,y1_2,y1_3,y1_4,y1_5,y1_6⟩:=eZ.out.2.1;obtain⟨y2z,y2_0,y2_1,y2_2,y2_3⟩:=eZ.out.2.2;go_wp2_with fail
 refine(IS L lv0 lv1 lv2 1048576 wa (by omega) (by omega) (HH.out.1.later cz.out)).mono ?_;rintro e wb ⟨⟨r0,rfl,hr⟩,hb⟩;have rI:=hid hr.2.2;have q0: -1≤r0:=hr.1;have q0':r0≤1048576:=hr.2.1;have gv:=hid (aa cz.out hb);have ik:=hid (And.intro (eZ.out.1.later hb) (And.intro (eZ.out.2.1.later hb) (eZ.out.2.2.later hb)));clear hr hb y0z y0_0 y0_1 y0_2 y1z y1_0 y1_1 y1_2 y1_3 y1_4 y1_5 y1_6 y2z y2_0 y2_1 y2_2 y2_3 eZ cz;by_cases c0:r0<0
 ·go_wp2;go_ret;exact⟨rfl,gv.out⟩
 have HS0:=hid (rI.out (by omega));clear rI;obtain⟨y0z,y0_0,y0_1,y0_2⟩:=ik.out.1;obtain⟨y1z,y1_0,y1_1,y1_2,y1_3,y1_4,y1_5,y1_6⟩:=ik.out.2.1;obtain⟨y2z,y2_0,y2_1,y2_2,y2_3⟩:=ik.out.2.2;go_wp2_with fail
 refine(FP K bv0 bv1 bv2 bv3 r0 wb (by omega) (by omega) (HH.out.2.1.later gv.out)).mono ?_;rintro e wc ⟨⟨r1,rfl,hr⟩,hb⟩;have Cj:=hid hr.2.2;have q1: -1≤r1:=hr.1;have q1':r1≤r0:=hr.2.1;have jE:=hid (aa gv.out hb);have lN:=hid (And.intro (ik.out.1.later hb) (And.intro (ik.out.2.1.later hb) (ik.out.2.2.later hb)));clear hr hb y0z y0_0 y0_1 y0_2 y1z y1_0 y1_1 y1_2 y1_3 y1_4 y1_5 y1_6 y2z y2_0 y2_1 y2_2 y2_3 ik gv;by_cases c1:r1<0
 ·go_wp2;go_ret;exact⟨rfl,jE.out⟩
 have H5:=hid (Cj.out (by omega));clear Cj;obtain⟨y0z,y0_0,y0_1,y0_2⟩:=lN.out.1;obtain⟨y1z,y1_0,y1_1,y1_2,y1_3,y1_4,y1_5,y1_6⟩:=lN.out.2.1;obtain⟨y2z,y2_0,y2_1,y2_2,y2_3⟩:=lN.out.2.2;go_wp2_with fail
 refine(Lj d r1 wc (by omega) (by omega) (HH.out.2.2.later jE.out)).mono ?_;rintro e wd ⟨⟨r2,rfl,hr⟩,hb⟩;have mn:=hid hr.2.2;have q2: -1≤r2:=hr.1;have q2':r2≤r1:=hr.2.1;have lI:=hid (aa jE.out hb);have nk:=hid (And.intro (lN.out.1.later hb) (And.intro (lN.out.2.1.later hb) (lN.out.2.2.later hb)));clear hr hb y0z y0_0 y0_1 y0_2 y1z y1_0 y1_1 y1_2 y1_3 y1_4 y1_5 y1_6 y2z y2_0 y2_1 y2_2 y2_3 lN jE;by_cases c2:r2<0
 ·go_wp2;go_ret;exact⟨rfl,lI.out⟩
 have NC:=hid (mn.out (by omega));clear mn;have Mp:Hid (∀ W,Bel w W→Calls Tryz.prog 8 #[.agg #[lv0,lv1,lv2]] W fun e w'=>∃ a0x a1x a2x,(e=.returned (.agg #[.slice (some ⟨a0x,0,none⟩) L.shapes.length L.shapes.length,.slice (some ⟨a1x,0,none⟩) L.mends.length L.mends.length,.slice (some ⟨a2x,0,none⟩) L.teams.length L.teams.length])∧fT w' a0x a1x a2x L)∧Bel W w'):=by
  intro W hW;refine(II L lv0 lv1 lv2 W HS0.out (HH.out.1.later hW)).mono ?_;rintro e w' ⟨⟨a0x,a1x,a2x,rfl,hi,_⟩,hb⟩;exact⟨a0x,a1x,a2x,⟨rfl,hi⟩,hb⟩
 have Ht:Hid (∀ W,Bel w W→Calls Tryz.prog 9 #[.agg #[.int .i64 K.now,.int .i64 K.tick,.int .i64 K.given,bv0,bv1,bv2,bv3]] W fun e w'=>∃ e0x e1x e2x e3x,(e=.returned (.agg #[.int .i64 K.now,.int .i64 K.tick,.int .i64 K.given,.slice (some ⟨e0x,0,none⟩) K.objects.length K.objects.length,.slice (some ⟨e1x,0,none⟩) K.grants.length K.grants.length,.slice (some ⟨e2x,0,none⟩) K.ledgers.length K.ledgers.length,.slice (some ⟨e3x,0,none⟩) K.purses.length K.purses.length])∧fG w' e0x e1x e2x e3x K)∧Bel W w'):=by
  intro W hW;refine(FK K bv0 bv1 bv2 bv3 W H5.out (HH.out.2.1.later hW)).mono ?_;rintro e w' ⟨⟨e0x,e1x,e2x,e3x,rfl,hi,_⟩,hb⟩;exact⟨e0x,e1x,e2x,e3x,⟨rfl,hi⟩,hb⟩
 have nI:Hid (∀ W,Bel w W→Calls Tryz.prog 15 #[.agg #[.int .i64 d.verb,.string d.kind,.string d.team,.string d.name]] W fun e w'=>(e=.returned (.agg #[.int .i64 d.verb,.string d.kind,.string d.team,.string d.name])∧pP w' d)∧Bel W w'):=by
  intro W hW;refine(Lq d W NC.out (HH.out.2.2.later hW)).mono ?_;rintro e w' ⟨⟨rfl,hi⟩,hb⟩;exact⟨⟨rfl,hi⟩,hb⟩
 have Nd:Hid (∀ W a0x a1x a2x e0x e1x e2x e3x,fT W a0x a1x a2x L→fG W e0x e1x e2x e3x K→pP W d→Calls Tryz.prog 14 #[.agg #[.slice (some ⟨a0x,0,none⟩) L.shapes.length L.shapes.length,.slice (some ⟨a1x,0,none⟩) L.mends.length L.mends.length,.slice (some ⟨a2x,0,none⟩) L.teams.length L.teams.length],.agg #[.int .i64 K.now,.int .i64 K.tick,.int .i64 K.given,.slice (some ⟨e0x,0,none⟩) K.objects.length K.objects.length,.slice (some ⟨e1x,0,none⟩) K.grants.length K.grants.length,.slice (some ⟨e2x,0,none⟩) K.ledgers.length K.ledgers.length,.slice (some ⟨e3x,0,none⟩) K.purses.length K.purses.length],.string who,.agg #[.int .i64 d.verb,.string d.kind,.string d.team,.string d.name]] W fun e w'=>e=.returned (.bool (tT L K who d))∧Bel W w'):=fun W a0x a1x a2x e0x e1x e2x e3x  k0 k1 k2=>Lx L K who d _ _ _ _ _ _ _ W k0 k1;have My:Hid (∀ W a0x a1x a2x e0x e1x e2x e3x,fT W a0x a1x a2x L→fG W e0x e1x e2x e3x K→pP W d→Calls Tryz.prog 16 #[.agg #[.slice (some ⟨a0x,0,none⟩) L.shapes.length L.shapes.length,.slice (some ⟨a1x,0,none⟩) L.mends.length L.mends.length,.slice (some ⟨a2x,0,none⟩) L.teams.length L.teams.length],.agg #[.int .i64 K.now,.int .i64 K.tick,.int .i64 K.given,.slice (some ⟨e0x,0,none⟩) K.objects.length K.objects.length,.slice (some ⟨e1x,0,none⟩) K.grants.length K.grants.length,.slice (some ⟨e2x,0,none⟩) K.ledgers.length K.ledgers.length,.slice (some ⟨e3x,0,none⟩) K.purses.length K.purses.length],.string who,.agg #[.int .i64 d.verb,.string d.kind,.string d.team,.string d.name]] W fun e w'=>e=.returned (.bool (tT L K who d))∧Bel W w'):=fun W a0x a1x a2x e0x e1x e2x e3x  k0 k1 k2=>LB L K who d _ _ _ _ _ _ _ W k0 k1;obtain⟨an,han⟩:∃ an,an=tT L K who d:=⟨_,rfl⟩
 rw[← han]at Nd My;clear han;obtain⟨y0z,y0_0,y0_1,y0_2⟩:=nk.out.1;obtain⟨y1z,y1_0,y1_1,y1_2,y1_3,y1_4,y1_5,y1_6⟩:=nk.out.2.1;obtain⟨y2z,y2_0,y2_1,y2_2,y2_3⟩:=nk.out.2.2;go_upto_region 13 with fail
 go_cut [10] (fun sA wx=>sA=.bool an∧Bel wd wx)
 case first=>
  have D7:Hid (∀ W,Bel wd W→bC W w.heap.size (lv0) (lv1) (lv2)∧bd W (w.heap.size+1) (.int .i64 K.now) (.int .i64 K.tick) (.int .i64 K.given) (bv0) (bv1) (bv2) (bv3)∧oO W (w.heap.size+1+1) (.int .i64 d.verb) (.string d.kind) (.string d.team) (.string d.name)):=fun W hW=>⟨nk.out.1.later hW,nk.out.2.1.later hW,nk.out.2.2.later hW⟩
  go_region_with (first
   |(go_at_call 8;refine(Mp.out _ ?_).mono ?_;(repeat(first|exact lI.out|refine Below.drew ?_));rintro e wN0 ⟨a0x,a1x,a2x,⟨rfl,wX⟩,qA⟩;have MR:Bel wd wN0:=aa (by repeat(first|exact br|refine Below.drew ?_)) qA;clear qA;obtain⟨⟨g0z,g0_0,g0_1,g0_2⟩,⟨g1z,g1_0,g1_1,g1_2,g1_3,g1_4,g1_5,g1_6⟩,⟨g2z,g2_0,g2_1,g2_2,g2_3⟩⟩:=D7.out wN0 MR)
   |(go_at_call 9;refine(Ht.out _ ?_).mono ?_;(repeat(first|exact aa lI.out MR|refine Below.drew ?_));rintro e wN1 ⟨e0x,e1x,e2x,e3x,⟨rfl,zk⟩,qA⟩;have Mb:Bel wd wN1:=aa (by repeat(first|exact MR|refine Below.drew ?_)) qA;have wX:=wX.later (aa (by repeat(first|exact br|refine Below.drew ?_)) qA);clear qA;obtain⟨⟨g0z,g0_0,g0_1,g0_2⟩,⟨g1z,g1_0,g1_1,g1_2,g1_3,g1_4,g1_5,g1_6⟩,⟨g2z,g2_0,g2_1,g2_2,g2_3⟩⟩:=D7.out wN1 Mb)
   |(go_at_call 15;refine(nI.out _ ?_).mono ?_;(repeat(first|exact aa lI.out Mb|refine Below.drew ?_));rintro e wN2 ⟨⟨rfl,Ie⟩,qA⟩;have Ia:Bel wd wN2:=aa (by repeat(first|exact Mb|refine Below.drew ?_)) qA;have wX:=wX.later (aa (by repeat(first|exact br|refine Below.drew ?_)) qA);have zk:=zk.later (aa (by repeat(first|exact br|refine Below.drew ?_)) qA);clear qA;obtain⟨⟨g0z,g0_0,g0_1,g0_2⟩,⟨g1z,g1_0,g1_1,g1_2,g1_3,g1_4,g1_5,g1_6⟩,⟨g2z,g2_0,g2_1,g2_2,g2_3⟩⟩:=D7.out wN2 Ia)
   |(go_at_call 14;refine(Nd.out _ _ _ _ _ _ _ _ ?_ ?_ ?_).mono ?_;exact wX.later (by repeat(first|exact br|refine Below.drew ?_));exact zk.later (by repeat(first|exact br|refine Below.drew ?_));exact Ie.later (by repeat(first|exact br|refine Below.drew ?_));rintro e wC ⟨rfl,BN⟩;have kC:Bel wd wC:=aa (by repeat(first|exact Ia|refine Below.drew ?_)) BN;clear BN))
  all_goals
   go_wp2_with fail
   go_meet
   refine⟨rfl, ?_⟩;repeat(first|exact kC|refine Below.drew ?_)
 case rest=>
 obtain⟨rfl,hb⟩:=hcut;rename World=>we;have tz:=hid (aa lI.out hb);have xc:=hid (And.intro (nk.out.1.later hb) (And.intro (nk.out.2.1.later hb) (nk.out.2.2.later hb)));clear hb y0z y0_0 y0_1 y0_2 y1z y1_0 y1_1 y1_2 y1_3 y1_4 y1_5 y1_6 y2z y2_0 y2_1 y2_2 y2_3 nk lI Nd;obtain⟨y0z,y0_0,y0_1,y0_2⟩:=xc.out.1;go_wp2_with fail
 refine(Mp.out _ tz.out).mono ?_;rintro e wf ⟨a0p,a1p,a2p,⟨rfl,hi⟩,hb⟩;obtain⟨wg,DT⟩:∃ wg,wg=wf.alloc (.cells #[.slice (some ⟨a0p,0,none⟩) L.shapes.length L.shapes.length,.slice (some ⟨a1p,0,none⟩) L.mends.length L.mends.length,.slice (some ⟨a2p,0,none⟩) L.teams.length L.teams.length] 40):=⟨_,rfl⟩
 obtain⟨m0,BJ⟩:∃ m0,m0=wf.heap.size:=⟨_,rfl⟩
 have vA:Bel wf wg:=by rw[DT];exact ab br _
 have Kv:Hid (bC wg m0 (.slice (some ⟨a0p,0,none⟩) L.shapes.length L.shapes.length) (.slice (some ⟨a1p,0,none⟩) L.mends.length L.mends.length) (.slice (some ⟨a2p,0,none⟩) L.teams.length L.teams.length)):=by show bC _ _ _ _ _;rw[DT,BJ];exact bC.bp _ _ _ _ _ _ rfl
 have Jn:=hid (hi.later vA);have DW:=hid (aa (aa tz.out hb) vA);have B0:=hid (And.intro ((xc.out.1.later hb).later vA) (And.intro ((xc.out.2.1.later hb).later vA) ((xc.out.2.2.later hb).later vA)));go_upto_region 15 with fail
 rw[← DT,← BJ];clear DT BJ hi hb vA y0z y0_0 y0_1 y0_2 xc tz;obtain⟨y1z,y1_0,y1_1,y1_2,y1_3,y1_4,y1_5,y1_6⟩:=B0.out.2.1;go_wp2_with fail
 refine(Ht.out _ DW.out).mono ?_;rintro e wh ⟨e0p,e1p,e2p,e3p,⟨rfl,hi⟩,hb⟩;obtain⟨wi,DT⟩:∃ wi,wi=wh.alloc (.cells #[.int .i64 K.now,.int .i64 K.tick,.int .i64 K.given,.slice (some ⟨e0p,0,none⟩) K.objects.length K.objects.length,.slice (some ⟨e1p,0,none⟩) K.grants.length K.grants.length,.slice (some ⟨e2p,0,none⟩) K.ledgers.length K.ledgers.length,.slice (some ⟨e3p,0,none⟩) K.purses.length K.purses.length] 47):=⟨_,rfl⟩
 obtain⟨m1,gB⟩:∃ m1,m1=wh.heap.size:=⟨_,rfl⟩
 have vA:Bel wh wi:=by rw[DT];exact ab br _
 have Ee:Hid (bd wi m1 (.int .i64 K.now) (.int .i64 K.tick) (.int .i64 K.given) (.slice (some ⟨e0p,0,none⟩) K.objects.length K.objects.length) (.slice (some ⟨e1p,0,none⟩) K.grants.length K.grants.length) (.slice (some ⟨e2p,0,none⟩) K.ledgers.length K.ledgers.length) (.slice (some ⟨e3p,0,none⟩) K.purses.length K.purses.length)):=by show bd _ _ _ _ _ _ _ _ _;rw[DT,gB];exact bd.bp _ _ _ _ _ _ _ _ _ _ rfl
 have G7:=hid (hi.later vA);have Kh:=hid (aa (aa DW.out hb) vA);have Hz:=hid (And.intro ((B0.out.1.later hb).later vA) (And.intro ((B0.out.2.1.later hb).later vA) ((B0.out.2.2.later hb).later vA)));have Ed:=hid ((Kv.out.later hb).later vA);have Hg:=hid ((Jn.out.later hb).later vA);go_upto_region 16 with fail
 rw[← DT,← gB];clear DT gB hi hb vA y1z y1_0 y1_1 y1_2 y1_3 y1_4 y1_5 y1_6 B0 DW Kv Jn;obtain⟨x0z,x0_0,x0_1,x0_2⟩:=Ed.out;obtain⟨x1z,x1_0,x1_1,x1_2,x1_3,x1_4,x1_5,x1_6⟩:=Ee.out;obtain⟨y2z,y2_0,y2_1,y2_2,y2_3⟩:=Hz.out.2.2;have D7:Hid (∀ W,Bel wi W→(bC W m0 (.slice (some ⟨a0p,0,none⟩) L.shapes.length L.shapes.length) (.slice (some ⟨a1p,0,none⟩) L.mends.length L.mends.length) (.slice (some ⟨a2p,0,none⟩) L.teams.length L.teams.length)∧bd W m1 (.int .i64 K.now) (.int .i64 K.tick) (.int .i64 K.given) (.slice (some ⟨e0p,0,none⟩) K.objects.length K.objects.length) (.slice (some ⟨e1p,0,none⟩) K.grants.length K.grants.length) (.slice (some ⟨e2p,0,none⟩) K.ledgers.length K.ledgers.length) (.slice (some ⟨e3p,0,none⟩) K.purses.length K.purses.length))∧fT W a0p a1p a2p L∧fG W e0p e1p e2p e3p K):=fun W hW=>⟨⟨Ed.out.later hW,Ee.out.later hW⟩,Hg.out.later hW,G7.out.later hW⟩
 go_upto_region 16 with fail
 go_cut [13] (fun sA wx=>sA=.bool an∧Bel wi wx)
 case first=>
  go_region_with (first
   |(go_at_call 15;refine(nI.out _ ?_).mono ?_;(repeat(first|exact Kh.out|refine Below.drew ?_));rintro e wN ⟨⟨rfl,JT⟩,qA⟩;have kN:Bel wi wN:=aa (by repeat(first|exact br|refine Below.drew ?_)) qA;clear qA;obtain⟨⟨g0z,g0_0,g0_1,g0_2⟩,⟨g1z,g1_0,g1_1,g1_2,g1_3,g1_4,g1_5,g1_6⟩⟩:=(D7.out wN kN).1)
   |(go_at_call 16;refine(My.out _ _ _ _ _ _ _ _ ?_ ?_ ?_).mono ?_;exact(D7.out _ (by repeat(first|exact kN|refine Below.drew ?_))).2.1;exact(D7.out _ (by repeat(first|exact kN|refine Below.drew ?_))).2.2;exact JT.later (by repeat(first|exact br|refine Below.drew ?_));rintro e wC ⟨rfl,BN⟩;have kC:Bel wi wC:=aa (by repeat(first|exact kN|refine Below.drew ?_)) BN;clear BN))
  all_goals
   go_wp2_with fail
   go_meet
   refine⟨rfl, ?_⟩;repeat(first|exact kC|refine Below.drew ?_)
 case rest=>
 obtain⟨rfl,hb⟩:=hcut;rename World=>wj;have LZ:=hid (aa Kh.out hb);have I8:=hid (And.intro (Hz.out.1.later hb) (And.intro (Hz.out.2.1.later hb) (Hz.out.2.2.later hb)));have DV:=hid (Ed.out.later hb);have Hf:=hid (Hg.out.later hb);have Js:=hid (Ee.out.later hb);have I5:=hid (G7.out.later hb);have hneq:(an !=an)=false:=by cases an<;>rfl
 clear hb x0z x0_0 x0_1 x0_2 x1z x1_0 x1_1 x1_2 x1_3 x1_4 x1_5 x1_6 y2z y2_0 y2_1 y2_2 y2_3 Hz Kh My D7 Ed Hg Ee G7;obtain⟨y0z,y0_0,y0_1,y0_2⟩:=I8.out.1;obtain⟨x0z,x0_0,x0_1,x0_2⟩:=DV.out;have zb:=hid fun (W:World) a0x a1x a2x (hW:Bel wj W) (h2:fT W a0x a1x a2x L)=>IY L a0p a1p a2p a0x a1x a2x W (Hf.out.later hW) h2;have pv:Hid (∀ W,Bel wj W→bC W m0 (.slice (some ⟨a0p,0,none⟩) L.shapes.length L.shapes.length) (.slice (some ⟨a1p,0,none⟩) L.mends.length L.mends.length) (.slice (some ⟨a2p,0,none⟩) L.teams.length L.teams.length)):=fun W hW=>DV.out.later hW;go_upto_region 19 with fail
 go_cut [57] (fun sA wx=>sA=.bool false∧Bel wj wx)
 case first=>
  go_region_with (first
   |(go_at_call 8;refine(Mp.out _ ?_).mono ?_;(repeat(first|exact LZ.out|refine Below.drew ?_));rintro e wN ⟨a0x,a1x,a2x,⟨rfl,JT⟩,qA⟩;have kN:Bel wj wN:=aa (by repeat(first|exact br|refine Below.drew ?_)) qA;clear qA;obtain⟨jz,j_0,j_1,j_2⟩:=pv.out wN kN)
   |(go_at_call 11;refine(zb.out _ _ _ _ ?_ ?_).mono ?_;(repeat(first|exact kN|refine Below.drew ?_));exact JT.later (by repeat(first|exact br|refine Below.drew ?_));rintro e wC ⟨rfl,BN⟩;have kC:Bel wj wC:=aa (by repeat(first|exact kN|refine Below.drew ?_)) BN;clear BN))
  all_goals
   go_wp2_with fail
   go_meet
   refine⟨rfl, ?_⟩;repeat(first|exact kC|refine Below.drew ?_)
 case rest=>
 obtain⟨rfl,hb⟩:=hcut;rename World=>wk;have Mg:=hid (aa LZ.out hb);have KD:=hid (And.intro (I8.out.1.later hb) (And.intro (I8.out.2.1.later hb) (I8.out.2.2.later hb)));have Kf:=hid (DV.out.later hb);have J8:=hid (Hf.out.later hb);have Eh:=hid (Js.out.later hb);have Gf:=hid (I5.out.later hb);clear hb y0z y0_0 y0_1 y0_2 x0z x0_0 x0_1 x0_2 I8 LZ zb pv DV Hf Js I5;obtain⟨y1z,y1_0,y1_1,y1_2,y1_3,y1_4,y1_5,y1_6⟩:=KD.out.2.1;obtain⟨x1z,x1_0,x1_1,x1_2,x1_3,x1_4,x1_5,x1_6⟩:=Eh.out;have zb:=hid fun (W:World) e0x e1x e2x e3x (hW:Bel wk W) (h2:fG W e0x e1x e2x e3x K)=>FR K e0p e1p e2p e3p e0x e1x e2x e3x W (Gf.out.later hW) h2;have pv:Hid (∀ W,Bel wk W→bd W m1 (.int .i64 K.now) (.int .i64 K.tick) (.int .i64 K.given) (.slice (some ⟨e0p,0,none⟩) K.objects.length K.objects.length) (.slice (some ⟨e1p,0,none⟩) K.grants.length K.grants.length) (.slice (some ⟨e2p,0,none⟩) K.ledgers.length K.ledgers.length) (.slice (some ⟨e3p,0,none⟩) K.purses.length K.purses.length)):=fun W hW=>Eh.out.later hW;go_upto_region 21 with fail
 go_cut [62] (fun sA wx=>sA=.bool false∧Bel wk wx)
 case first=>
  go_region_with (first
   |(go_at_call 9;refine(Ht.out _ ?_).mono ?_;(repeat(first|exact Mg.out|refine Below.drew ?_));rintro e wN ⟨e0x,e1x,e2x,e3x,⟨rfl,JT⟩,qA⟩;have kN:Bel wk wN:=aa (by repeat(first|exact br|refine Below.drew ?_)) qA;clear qA;obtain⟨jz,j_0,j_1,j_2,j_3,j_4,j_5,j_6⟩:=pv.out wN kN)
   |(go_at_call 12;refine(zb.out _ _ _ _ _ ?_ ?_).mono ?_;(repeat(first|exact kN|refine Below.drew ?_));exact JT.later (by repeat(first|exact br|refine Below.drew ?_));rintro e wC ⟨rfl,BN⟩;have kC:Bel wk wC:=aa (by repeat(first|exact kN|refine Below.drew ?_)) BN;clear BN))
  all_goals
   go_wp2_with fail
   go_meet
   refine⟨rfl, ?_⟩;repeat(first|exact kC|refine Below.drew ?_)
 case rest=>
 obtain⟨rfl,hb⟩:=hcut;rename World=>wl;have F2:=hid (aa Mg.out hb);have D7:=hid (And.intro (KD.out.1.later hb) (And.intro (KD.out.2.1.later hb) (KD.out.2.2.later hb)));have HY0l:=hid (Kf.out.later hb);have HI0l:=hid (J8.out.later hb);have HY1l:=hid (Eh.out.later hb);have HI1l:=hid (Gf.out.later hb);clear hb y1z y1_0 y1_1 y1_2 y1_3 y1_4 y1_5 y1_6 x1z x1_0 x1_1 x1_2 x1_3 x1_4 x1_5 x1_6 KD Mg zb pv Kf J8 Eh Gf;go_wp2;go_ret;exact⟨rfl,F2.out⟩
end Go.Proofs.YtbiokpmdghmgcaaGreat
