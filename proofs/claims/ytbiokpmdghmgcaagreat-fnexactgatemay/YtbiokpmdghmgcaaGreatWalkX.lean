import Derived.Test.YtbiokpmdghmgcaaGreatWalkV
namespace Go.Proofs.YtbiokpmdghmgcaaGreat
set_option maxHeartbeats 40000000
open Go.RowKit Go.Deep
theorem gT (s:ByteArray) (w:World) (hs:s.size≤maxLen):
  Calls Tryz.prog 89 #[.string s] w fun e w'=>e=.returned (.bool (Pl.aq s))∧w'=w:=(aJ s w hs).mono fun _ _ h=>⟨h.1,h.2.symm⟩
theorem dT {ss:List Shp} {fs:List Fld} {k:Nat} (hk:k<fs.length) (h:fieldAt ss fs k=false):aH ss fs=false:=by
 unfold aH fp;rw[Pl.gl _ _ k hk h];simp
theorem jm {ss:List Shp} {fs:List Fld} {k:Nat} (h:fp ss fs k=true) (ha:fieldAt ss fs k=true):fp ss fs (k+1)=true:=by
 unfold fp at h ⊢;rw[Pl.ib,h,ha];rfl
theorem xt (B C:Nat) (ss:List Shp) (fs:List Fld) (w:World) (h:bh w B ss) (hf:bW w C fs):
  Calls Tryz.prog 171 #[.slice (some ⟨B,0,none⟩) ss.length ss.length,.slice (some ⟨C,0,none⟩) fs.length fs.length] w fun e w'=>e=.returned (.bool (aH ss fs))∧Bel w w':=by
 have HS:=hid h;have HF:=hid hf;have hl:=hf.len;clear h hf;by_cases h6:fs.length≤6
 case neg=>
  have HR:Hid (aH ss fs=false):=by show _=_;simp[aH,h6]
  go_enter Tryz.func171,Tryz.ntmps171
  go_wp2;go_ret;exact⟨Pl.ae HR.out.symm,br⟩
 go_enter Tryz.func171,Tryz.ntmps171
 go_wp2;go_loopw [12] (fun i wr=>∃ k:Nat,k≤fs.length∧i=.int .i64 k∧fp ss fs k=true∧Bel w wr) (fun i _=>fs.length - (intOf i).toNat)
 case atStart=>exact⟨0,nz,rfl,rfl,br⟩
 case round=>
  obtain⟨k,hk,rfl,aw,hW⟩:=hrel;have HA:=hid aw;clear aw;by_cases av:k<fs.length
  ·obtain⟨f,fH⟩:∃ f,f=fs.getD k Fld.none:=⟨_,rfl⟩
   obtain⟨b,pT,dP⟩:=(HF.out.later hW).arg av fH;have G2:=hid pT;obtain⟨c0,c1,c2,c3,c4,c5,c6,c7,c8,c9,c10,_,_⟩:=dP;have HN:=hid pT.sized.1;have HT:Hid (fieldAt ss fs k=(Pl.aq f.nm&&aD ss f&& !decide (nameAt fs f.nm<k))):=by
    show fieldAt ss fs k=_;rw[fieldAt,lW fs k av,← fH]
   have HLe:Hid (nameAt fs f.nm≤k):=by show nameAt fs f.nm≤k;rw[fH];exact qs fs k av
   have HP:Hid (∀ W,Bel wr W→Calls Tryz.prog 195 #[.slice (some ⟨C,0,none⟩) fs.length fs.length,.string f.nm] W fun e w'=>e=.returned (.int .i64 (nameAt fs f.nm:Int))∧Bel W w'):=by
    intro W h1;refine(fieldPlace C fs f.nm W ((HF.out.later hW).later h1)).mono ?_;rintro e w' ⟨⟨r,rfl,hr⟩,hb⟩;rw[if_pos (Nat.lt_of_le_of_lt HLe.out av)]at hr;rw[hr];exact⟨rfl,hb⟩
   have HK:Hid (∀ W,Bel wr W→Calls Tryz.prog 196 #[.slice (some ⟨B,0,none⟩) ss.length ss.length,.agg #[.string f.nm,.int .i64 f.kind,.int .i64 f.least,.int .i64 f.most,.slice (some ⟨b,0,none⟩) f.words.length f.words.length,.string f.to,.int .i64 f.role,.bool f.must,.bool f.fixed,.string f.de,.string f.we]] W fun e w'=>e=.returned (.bool (aD ss f))∧Bel W w'):=
    fun W h1=>Aw f b B ss W ((HS.out.later hW).later h1) (G2.out.later h1)
   clear fH pT;cases hnm:Pl.aq f.nm
   ·have HR:=hid (dT av (by rw[HT.out,hnm];rfl));go_wp2_with (go_at_call 89;refine(aJ _ _ HN.out).mono ?_;rintro e w' ⟨rfl,rfl⟩)
    go_ret;exact⟨Pl.ae HR.out.symm,ab hW _⟩
   ·have cC:Bel wr (wr.alloc (.cells #[.string f.nm,.int .i64 f.kind,.int .i64 f.least,.int .i64 f.most,.slice (some ⟨b,0,none⟩) f.words.length f.words.length,.string f.to,.int .i64 f.role,.bool f.must,.bool f.fixed,.string f.de,.string f.we] 122)):=ab br _;go_wp2_with (first|(go_at_call 89;refine(aJ _ _ HN.out).mono ?_;rintro e w' ⟨rfl,rfl⟩)|fail)
    refine(HP.out _ cC).mono ?_;rintro e w2 ⟨rfl,aA⟩;have bE:=aa cC aA;have k2:∀ o,w2.cell? ⟨wr.heap.size,o,none⟩=(wr.alloc (.cells #[.string f.nm,.int .i64 f.kind,.int .i64 f.least,.int .i64 f.most,.slice (some ⟨b,0,none⟩) f.words.length f.words.length,.string f.to,.int .i64 f.role,.bool f.must,.bool f.fixed,.string f.de,.string f.we] 122)).cell? ⟨wr.heap.size,o,none⟩:=fun o=>aA.cell (p:=⟨wr.heap.size,o,none⟩) (by simp);clear aA c0 c1 c2 c3 c4 c5 c6 c7 c8 c9 c10 HP cC;by_cases htw:nameAt fs f.nm<k
    ·have HR:=hid (dT av (by rw[HT.out];simp[htw]));go_wp2;go_ret;exact⟨Pl.ae HR.out.symm,aa hW bE⟩
    ·have hni:¬ (nameAt fs f.nm:Int)<(k:Int):=by omega
     have nI:Hid (fieldAt ss fs k=aD ss f):=by show _=_;rw[HT.out,hnm];simp[htw]
     go_wp2_with fail
     refine(HK.out _ bE).mono ?_;rintro e w3 ⟨rfl,aO⟩;have eX:=aa hW (aa bE aO);clear aO k2 bE HK htw;cases fN:aD ss f
     ·have HR:=hid (dT av (by rw[nI.out,fN]));go_wp2;go_ret;exact⟨Pl.ae HR.out.symm,eX⟩
     ·have HR:=hid (jm HA.out (by rw[nI.out,fN]));go_wp2;go_roundw
      case rel=>exact⟨k+1,by omega,by go_num,HR.out,eX⟩
      case measure=>simp[intOf];omega
  ·have HR:Hid (aH ss fs=true):=by
    obtain rfl:k=fs.length:=by omega
    show aH ss fs=true;rw[aH,HA.out];simp[h6]
   go_wp2;go_ret;exact⟨Pl.ae HR.out.symm,hW⟩
theorem bj {ss:List Shp} {k:Nat} (hk:k<ss.length) (h:eP ss k=false):aN ss=false:=by
 unfold aN fJ;rw[Pl.gl _ _ k hk h];simp
theorem gL {ss:List Shp} {k:Nat} (h:fJ ss k=true) (ha:eP ss k=true):fJ ss (k+1)=true:=by
 unfold fJ at h ⊢;rw[Pl.ib,h,ha];rfl
theorem bh.uV {w:World} {B:Nat} {ss:List Shp} (h:bh w B ss) {i:Nat} (hi:i<ss.length) {s:Shp} (hs:s=ss.getD i Shp.none):
  ∃ b,bW w b s.fields∧s.kind.size≤maxLen∧w.cell? ⟨B,i*2,none⟩=some (.string s.kind)∧w.cell? ⟨B,i*2+1,none⟩=some (.slice (some ⟨b,0,none⟩) s.fields.length s.fields.length):=by
 obtain⟨b,h1,h2,h3,h4,h5,h6,h7⟩:=h.at_ i hi;rw[← hs]at h3 h4 h5 h6 h7;have hm:s.small:=h.small s (by rw[hs];simp[hi]);exact⟨b,⟨h2,h3,hm.2,h7⟩,h4,h5,h6⟩
theorem yi (B:Nat) (ss:List Shp) (w:World) (h:bh w B ss):
  Calls Tryz.prog 131 #[.slice (some ⟨B,0,none⟩) ss.length ss.length] w fun e w'=>e=.returned (.bool (aN ss))∧Bel w w':=by
 have HS:=hid h;have hl:=h.len;clear h;by_cases h6:ss.length≤6
 case neg=>
  have HR:Hid (aN ss=false):=by show _=_;simp[aN,h6]
  go_enter Tryz.func131,Tryz.ntmps131
  go_wp2;go_ret;exact⟨Pl.ae HR.out.symm,br⟩
 go_enter Tryz.func131,Tryz.ntmps131
 go_wp2;go_loopw [10] (fun i wr=>∃ k:Nat,k≤ss.length∧i=.int .i64 k∧fJ ss k=true∧Bel w wr) (fun i _=>ss.length - (intOf i).toNat)
 case atStart=>exact⟨0,nz,rfl,rfl,br⟩
 case round=>
  obtain⟨k,hk,rfl,aw,hW⟩:=hrel;have HA:=hid aw;clear aw;by_cases av:k<ss.length
  ·obtain⟨s,j6⟩:∃ s,s=ss.getD k Shp.none:=⟨_,rfl⟩
   obtain⟨b,ea,Jv,c0,c1⟩:=(HS.out.later hW).uV av j6;have HN:=hid Jv;have Cm:Hid (∀ W,Bel wr W→Calls Tryz.prog 171 #[.slice (some ⟨B,0,none⟩) ss.length ss.length,.slice (some ⟨b,0,none⟩) s.fields.length s.fields.length] W fun e w'=>e=.returned (.bool (aH ss s.fields))∧Bel W w'):=
    fun W h1=>xt B b ss s.fields W ((HS.out.later hW).later h1) (ea.later h1)
   clear Jv ea;have cC:Bel wr (wr.alloc (.cells #[.string s.kind,.slice (some ⟨b,0,none⟩) s.fields.length s.fields.length] 134)):=ab br _;by_cases h0:k=0
   ·subst h0;have HT:Hid (eP ss 0=(Pl.aq s.kind&&aH ss s.fields)):=by show _=_;rw[j6];simp[eP]
    clear j6;cases hn:Pl.aq s.kind
    ·have HR:=hid (bj av (by rw[HT.out,hn];rfl));go_wp2_with fail
     go_quiet ((go_at_call 89;exact Calls.quiet_of_same (gT _ _ HN.out)))
     go_wp2;go_ret;exact⟨Pl.ae HR.out.symm,al (aa hW cC) _⟩
    ·go_wp2_with fail
     go_quiet ((go_at_call 89;exact Calls.quiet_of_same (gT _ _ HN.out)))
     go_wp2_with fail
     refine(Cm.out _ (al cC _)).mono ?_;rintro e w3 ⟨rfl,aO⟩;have eX:=aa hW (aa (al cC _) aO);clear aO cC Cm c0 c1;cases fN:aH ss s.fields
     ·have HR:=hid (bj av (by rw[HT.out,fN];simp));go_wp2;go_ret;exact⟨Pl.ae HR.out.symm,eX⟩
     ·have HR:=hid (gL HA.out (by rw[HT.out,hn,fN];rfl));go_wp2;go_roundw
      case rel=>exact⟨0+1,by omega,by go_num,HR.out,eX⟩
      case measure=>simp[intOf];omega
   ·obtain⟨m,rfl⟩:∃ m,k=m+1:=⟨k - 1,by omega⟩
    obtain⟨p,tD⟩:∃ p,p=ss.getD m Shp.none:=⟨_,rfl⟩
    obtain⟨b',_,_,d0,_⟩:=(HS.out.later hW).uV (by omega:m<ss.length) tD;have HT:Hid (eP ss (m+1)=(Pl.aq s.kind&&Op.bytesLess p.kind.toList s.kind.toList&&aH ss s.fields)):=by show _=_;rw[j6,tD];simp[eP,Pl.less]
    have F2:=hid (lo HS.out.lt hW.size);have GN:=F2.out;clear j6 tD h0;cases hn:Pl.aq s.kind
    ·have HR:=hid (bj av (by rw[HT.out,hn];rfl));go_wp2_with fail
     go_quiet ((go_at_call 89;exact Calls.quiet_of_same (gT _ _ HN.out)))
     go_wp2;go_ret;exact⟨Pl.ae HR.out.symm,al (aa hW cC) _⟩
    ·cases hq:Op.bytesLess p.kind.toList s.kind.toList
     ·have HR:=hid (bj av (by rw[HT.out,hn,hq];rfl));go_wp2_with fail
      go_quiet ((go_at_call 89;exact Calls.quiet_of_same (gT _ _ HN.out)))
      go_wp2;go_ret;exact⟨Pl.ae HR.out.symm,al (aa hW cC) _⟩
     ·go_wp2_with fail
      go_quiet ((go_at_call 89;exact Calls.quiet_of_same (gT _ _ HN.out)))
      go_wp2_with fail
      refine(Cm.out _ (al cC _)).mono ?_;rintro e w3 ⟨rfl,aO⟩;have eX:=aa hW (aa (al cC _) aO);clear aO cC Cm c0 c1 d0;cases fN:aH ss s.fields
      ·have HR:=hid (bj av (by rw[HT.out,fN];simp));go_wp2;go_ret;exact⟨Pl.ae HR.out.symm,eX⟩
      ·have HR:=hid (gL HA.out (by rw[HT.out,hn,hq,fN];rfl));go_wp2;go_roundw
       case rel=>exact⟨m+1+1,by omega,by go_num,HR.out,eX⟩
       case measure=>simp[intOf];omega
  ·have HR:Hid (aN ss=true):=by
    obtain rfl:k=ss.length:=by omega
    show aN ss=true;rw[aN,HA.out];simp[h6]
   go_wp2;go_ret;exact⟨Pl.ae HR.out.symm,hW⟩
end Go.Proofs.YtbiokpmdghmgcaaGreat
