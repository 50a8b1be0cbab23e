import Derived.BigQuiet
import Derived.Test.YtbiokpmdghmgcaaGreatWalkAI
namespace Go.Proofs.YtbiokpmdghmgcaaGreat
set_option maxHeartbeats 40000000
open Go.RowKit Go.Deep
def aT (ss:List Shp) (o:Ob):Bool:=aK ss o.kind&&decide (o.values.length=(ss.getD (aB ss o.kind) Shp.none).fields.length)
theorem jx (w0:World) (B:Nat) (ss:List Shp) (o:Ob) (b1:Option Addr) (c1:Nat) (b2:Option Addr) (c2:Nat) (w:World) (h:bh w0 B ss) (Cb:Bel w0 w):
  Calls Tryz.prog 66 #[.slice (some ⟨B,0,none⟩) ss.length ss.length,.agg #[.string o.kind,.string o.name,.string o.team,.slice b1 o.values.length c1,.bool o.ending,.slice b2 o.holds.length c2,.int .i64 o.version]] w fun e w'=>∃ a n c,e=.returned (.tuple #[.slice a n c,.bool (aT ss o)])∧(aT ss o=true→∃ b,Value.slice a n c=.slice (some ⟨b,0,none⟩) (ss.getD (aB ss o.kind) Shp.none).fields.length (ss.getD (aB ss o.kind) Shp.none).fields.length∧b<w0.heap.size∧∀ i,i<(ss.getD (aB ss o.kind) Shp.none).fields.length→bx w0 b (i*11) ((ss.getD (aB ss o.kind) Shp.none).fields.getD i Fld.none))∧Bel w w':=by
 have HS:=hid (And.intro h Cb);have hl:=h.len;clear h Cb;have gd:Hid (Bel w (w.alloc (.cells #[.string o.kind,.string o.name,.string o.team,.slice b1 o.values.length c1,.bool o.ending,.slice b2 o.holds.length c2,.int .i64 o.version] 111))):=ab br _;have MA:=hid (HS.out.1.later (aa HS.out.2 gd.out));by_cases hk:aB ss o.kind<ss.length
 case neg=>
  have HF:Hid (aT ss o=false):=by show _=_;simp[aT,aK,hk]
  have HC:Hid (Calls Tryz.prog 124 #[.slice (some ⟨B,0,none⟩) ss.length ss.length,.string o.kind] (w.alloc (.cells #[.string o.kind,.string o.name,.string o.team,.slice b1 o.values.length c1,.bool o.ending,.slice b2 o.holds.length c2,.int .i64 o.version] 111)) fun e w'=>e=.returned (.int .i64 (-1))∧(w.alloc (.cells #[.string o.kind,.string o.name,.string o.team,.slice b1 o.values.length c1,.bool o.ending,.slice b2 o.holds.length c2,.int .i64 o.version] 111))=w'):=by
   have:=fY B ss o.kind _ MA.out;rw[if_neg hk]at this;exact this
  clear hk;go_enter Tryz.func66,Tryz.ntmps66
  go_wp2_with fail
  refine HC.out.mono ?_;rintro e w1 ⟨rfl,rfl⟩;go_wp2_with fail
  go_quiet (fail)
  go_wp2;refine bodyPost_ret (v:=.tuple #[.slice (some ⟨w.heap.size+1,0,none⟩) 0 0,.bool false]) (by simp[results,Tryz.results66,go_sem]) rfl ?_;exact⟨_,_,_,by rw[HF.out],fun hh=>(by rw[HF.out]at hh;cases hh),by repeat(first|exact gd.out|refine ab ?_ _|refine al ?_ _)⟩
 have HC:Hid (Calls Tryz.prog 124 #[.slice (some ⟨B,0,none⟩) ss.length ss.length,.string o.kind] (w.alloc (.cells #[.string o.kind,.string o.name,.string o.team,.slice b1 o.values.length c1,.bool o.ending,.slice b2 o.holds.length c2,.int .i64 o.version] 111)) fun e w'=>e=.returned (.int .i64 (aB ss o.kind:Int))∧(w.alloc (.cells #[.string o.kind,.string o.name,.string o.team,.slice b1 o.values.length c1,.bool o.ending,.slice b2 o.holds.length c2,.int .i64 o.version] 111))=w'):=by
  have:=fY B ss o.kind _ MA.out;rw[if_pos hk]at this;exact this
 obtain⟨k,F9⟩:∃ k,k=aB ss o.kind:=⟨_,rfl⟩
 obtain⟨b,_,gW,jg,_,_,d1,hf⟩:=HS.out.1.at_ (aB ss o.kind) hk;have e1:w.cell? ⟨B,k*2+1,none⟩=some (.slice (some ⟨b,0,none⟩) (ss.getD (aB ss o.kind) Shp.none).fields.length (ss.getD (aB ss o.kind) Shp.none).fields.length):=by rw[F9];exact(HS.out.2.cell (p:=⟨B,_,none⟩) HS.out.1.lt).trans d1
 have hB:=lo HS.out.1.lt HS.out.2.size;obtain⟨fs,ea⟩:∃ fs,fs=(ss.getD (aB ss o.kind) Shp.none).fields:=⟨_,rfl⟩
 have HP:Hid (b<w0.heap.size∧(∀ i,i<fs.length→bx w0 b (i*11) (fs.getD i Fld.none))∧fs=(ss.getD (aB ss o.kind) Shp.none).fields):=⟨gW,by rw[ea];exact hf,ea⟩
 have HF:Hid (aT ss o=decide (o.values.length=fs.length)):=by show _=_;unfold aT aK;rw[ea];simp[hk]
 rw[← ea]at e1 jg;rw[← F9]at hk HC;clear F9 ea hf d1 gW MA;by_cases heq:o.values.length=fs.length
 case neg=>
  have fe:(((fs.length:Int)) !=(o.values.length:Int))=true:=by simp;omega
  have MF:decide ((k:Int)<0)=false:=by simp
  go_enter Tryz.func66,Tryz.ntmps66
  go_wp2_with fail
  refine HC.out.mono ?_;rintro e w1 ⟨rfl,rfl⟩;go_wp2_with fail
  go_quiet (fail)
  go_wp2;refine bodyPost_ret (v:=.tuple #[.slice (some ⟨w.heap.size+1,0,none⟩) 0 0,.bool false]) (by simp[results,Tryz.results66,go_sem]) rfl ?_;exact⟨_,_,_,by rw[HF.out,decide_eq_false heq],fun hh=>(by rw[HF.out]at hh;simp[heq]at hh),by repeat(first|exact gd.out|refine ab ?_ _|refine al ?_ _)⟩
 have fe:(((fs.length:Int)) !=(o.values.length:Int))=false:=by simp;omega
 have MF:decide ((k:Int)<0)=false:=by simp
 have HQ:=hid heq;clear heq;go_enter Tryz.func66,Tryz.ntmps66
 go_wp2_with fail
 refine HC.out.mono ?_;rintro e w1 ⟨rfl,rfl⟩;go_wp2_with fail
 go_quiet (fail)
 go_wp2;refine bodyPost_ret (v:=.tuple #[.slice (some ⟨b,0,none⟩) fs.length fs.length,.bool true]) (by simp[results,Tryz.results66,go_sem]) rfl ?_;exact⟨_,_,_,by rw[HF.out,decide_eq_true HQ.out],fun _=>⟨b,by rw[← HP.out.2.2],HP.out.1,by rw[← HP.out.2.2];exact HP.out.2.1⟩,by repeat(first|exact gd.out|refine ab ?_ _|refine al ?_ _)⟩
end Go.Proofs.YtbiokpmdghmgcaaGreat
