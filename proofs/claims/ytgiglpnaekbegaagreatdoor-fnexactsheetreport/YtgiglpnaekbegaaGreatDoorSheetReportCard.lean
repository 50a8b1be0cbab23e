import Derived.ChangeSame
import Derived.ChangeVars
import Derived.JoinedOf
import Derived.RowKitTokens
import Derived.LaidLaws
import Derived.LaidHandle
import Derived.Lib.LaidTab
import Derived.Stop.LaidErr
import Derived.Stop.Joined
import Derived.SevenTiedAt
import Derived.OpenShut
import Derived.ShutString
import Derived.ProofKit
import Derived.ChangeOld
import Derived.Test.YtgiglpnaekbegaaGreatDoorLawRp
import Derived.Test.YtgiglpnaekbegaaGreatDoorEVk
import Derived.Test.YtgiglpnaekbegaaGreatDoorEJo
import Derived.Test.YtgiglpnaekbegaaGreatDoorEJu
import Derived.Test.YtgiglpnaekbegaaGreatDoorTie
import Derived.Test.YtgiglpnaekbegaaGreatDoorCards
namespace Go.Proofs.YtgiglpnaekbegaaGreatDoor
set_option maxRecDepth 8000
open Go.ChangeShapes Go.WideShapes Go.ChangeAt Go.RowKit Go.Deep
theorem Qq:ownKnob Tryz.prog.godebug=none:=by kernel_rfl
theorem E5:laidOutB Tryz.prog=true:=by kernel_rfl
def EP:DataW Unit→Value
 |.lit (.int k z)=> .int k z
 |_=> .bool false
def Qv:DataW Unit→List Value
 |.agg l=>l.map EP
 |d=> [EP d]
def EZ:DataW Unit→Array Value
 |.agg l=>(l.flatMap Qv).toArray
 |_=> #[]
def ni (d:DataW Unit):Obj→Obj
 |.cells _ t frozen=> .cells (EZ d) t frozen
 |o=>o
theorem Tryz.et:Tryz.prog.globalNamed "errors.errorType" =some 0:=by kernel_rfl
theorem Tryz.rt:(Tryz.prog.cutTypes.find? (·.1== "internal/reflectlite.rtype")).map (·.2)=some 161:=by kernel_rfl
theorem Tryz.M8:((List.range 292).filter fun t=>Tryz.prog.rowNamed t [101,114,114,111,114])=[52]:=by kernel_rfl
theorem Tryz.Qo:Tryz.prog.types.size=292:=by kernel_rfl
theorem vp {W:World} (h:laidMetH Tryz.prog Rows.fnExactSheetReportRow.laid W):rS W:=by
 have h':laidMet Tryz.prog [("math/bits.deBruijn32tab",Rows.laid_math_bits_deBruijn32tab),("math/bits.deBruijn64tab",Rows.laid_math_bits_deBruijn64tab),("internal/strconv.uint64pow10",Rows.laid_internal_strconv_uint64pow10),("unicode/utf8.acceptRanges",Rows.laid_unicode_utf8_acceptRanges),("unicode/utf8.first",Rows.laid_unicode_utf8_first)] W∧handlesMet Tryz.prog [("errors.errorType",Rows.laid_errors_errorType)] W:=h;obtain⟨name,u,ty,e1,e2,e3,e4,e5⟩:=h'.2 _ (Yc.2 rfl);have en:name=[101,114,114,111,114]:=(Option.some.inj e1).symm;subst en;obtain rfl:=Option.some.inj (Tryz.rt.symm.trans e2);have hm:ty∈(List.range 292).filter fun t=>Tryz.prog.rowNamed t [101,114,114,111,114]:=YD.2 ⟨XV.2 (by rw[← Tryz.Qo];exact e3),e4⟩;rw[Tryz.M8]at hm;obtain rfl:=Yc.1 hm;have hh:typeHandle Tryz.prog 52=.pointer (some ⟨7,52,none⟩):=by kernel_rfl
 rw[hh]at e5;show W.cell? ⟨0,0,none⟩=some (.iface 161 (.agg #[.pointer (some ⟨7,52,none⟩)]));simpa using World.var?_cell Tryz.et e5 0
theorem xK {W:World} (h:laidMetH Tryz.prog Rows.fnExactSheetReportRow.laid W):Tab W:=by
 have h':laidMet Tryz.prog [("math/bits.deBruijn32tab",Rows.laid_math_bits_deBruijn32tab),("math/bits.deBruijn64tab",Rows.laid_math_bits_deBruijn64tab),("internal/strconv.uint64pow10",Lib.tabData .u64 Lib.pow10Tab),("unicode/utf8.acceptRanges",Rows.laid_unicode_utf8_acceptRanges),("unicode/utf8.first",Rows.laid_unicode_utf8_first)] W∧handlesMet Tryz.prog [("errors.errorType",Rows.laid_errors_errorType)] W:=h;exact Lib.tabIs_of_head (g:=1) (t:=228) (e:=203) (n:=20) (by kernel_rfl) (by kernel_rfl) (by kernel_rfl) (by kernel_rfl) (by kernel_rfl) (by kernel_rfl) h'.1.tail.tail
noncomputable def laidWorld (os:Os):World:=
 let w0:=World.holding Tryz.prog os ⟨#[],#[],[]⟩
 {w0 with heap:=(((((w0.heap.modify 0 fun
   |.cells _ t frozen=> .cells #[.iface 161 (.agg #[.pointer (some ⟨7,52,none⟩)])] t frozen
   |o=>o).modify 1 (ni Rows.laid_internal_strconv_uint64pow10)).modify 3 (ni Rows.laid_math_bits_deBruijn32tab)).modify 4 (ni Rows.laid_math_bits_deBruijn64tab)).modify 5 (ni Rows.laid_unicode_utf8_first)).modify 6 (ni Rows.laid_unicode_utf8_acceptRanges)}
theorem te (os:Os) (args:Array Value):laidMetH Tryz.prog Rows.fnExactSheetReportRow.laid ((laidWorld os).forCall (fun _ _=>0) ⟨#[],args,[]⟩).memory:=
 laidMetH_of_parts (laidMet_of_run' 8 (by kernel_rfl) (by kernel_rfl)) (by kernel_rfl)
theorem mj (os:Os) (started:os.Started) (H:Type) (enc:TypeId×Value→H):
  ReturnsInHanded {} Tryz.checked os 3 .any (fun w args=>(Rows.fnExactSheetReportSpec.pre enc Tryz.prog Tryz.f3 [] false w args∧laidMetH Tryz.prog Rows.fnExactSheetReportRow.laid w)∧sizedMet enc Tryz.prog Tryz.f3 (OpenSpec.ofChange Rows.fnExactSheetReportSpec) false w args)
   (Rows.fnExactSheetReportSpec.post enc Tryz.prog Tryz.f3 false true false false):=by
 refine returnsInHanded_of_change_and (C:=Tryz.checked) (X:=fun w _=>laidMetH Tryz.prog Rows.fnExactSheetReportRow.laid w) (fun _ _ _ hh h=>h.of_heap hh) Qq started (by kernel_rfl) Tryz.func3
  (ChangeSpec.witness_at (enc:=enc) (C:=Tryz.checked) (os:=os) (X:=fun w _=>laidMetH Tryz.prog Rows.fnExactSheetReportRow.laid w) false (laidWorld os) #[.string ByteArray.empty,.string ByteArray.empty] 8 rfl (by kernel_rfl) (by kernel_rfl) (by kernel_rfl) (by kernel_rfl) (by kernel_rfl) (te os _)) ?_
 intro W base args ds gs before Mp hW _ _ hL _;have hg:=vp hL;have hq:=xK hL;have On:∀ (j:Nat) t v,Tryz.f3.params[j]? =some t→args[j]? =some v→Value.okWide Tryz.prog W .any base t v:=Mp;have Ux:=hW;obtain⟨p,q,P6,hV0,rfl,_,_⟩:=hW;have hA:DataW.TrodAll enc Tryz.prog W 0 (fun _=>true) true Tryz.f3.params.toList args.toList ds p:=P6;rw[Tryz.params3]at hA On;obtain⟨v0,vs0,d0,ds0,p0,q0,hargs,rfl,rfl,h0,r0⟩:=trodAll_cons hA;obtain⟨v1,vs1,d1,ds1,p1,q1,rfl,rfl,rfl,h1,r1⟩:=trodAll_cons r0;obtain⟨rfl,rfl,rfl⟩:=trodAll_nil r1;obtain rfl:args=#[v0,v1]:=by cases args;simp_all
 have hV:DataW.TrodVars enc Tryz.prog W (fun _=>true) [] gs q:=hV0;obtain⟨rfl,rfl⟩:gs=[]∧q=[]:=by
  cases gs with
  |nil=>exact⟨rfl,hV⟩
  |cons g r=>exact absurd hV (by intro h;cases h)
 have k0:=h0;have lt0:∀ x∈p0,x.block<W.heap.size:=by obtain⟨m,hm⟩:=k0;exact DataW.trod_lt m _ _ _ hm
 have k1:=h1;have lt1:∀ x∈p1,x.block<W.heap.size:=by obtain⟨m,hm⟩:=k1;exact DataW.trod_lt m _ _ _ hm
 obtain⟨s0,rfl⟩:=okWide_string Tryz.underlying9 (On 0 9 v0 rfl rfl);obtain⟨s1,rfl⟩:=okWide_string Tryz.underlying9 (On 1 9 v1 rfl rfl);obtain⟨fuel0,MJ⟩:=h0;obtain⟨s0b,es0,_,sz0⟩:=DataW.trod_string Tryz.underlying9 MJ;have es0:s0=s0b:=by simpa [Value.cells]using es0
 subst es0;obtain⟨fuel1,DJ⟩:=h1;obtain⟨s1b,es1,_,sz1⟩:=DataW.trod_string Tryz.underlying9 DJ;have es1:s1=s1b:=by simpa [Value.cells]using es1
 subst es1;clear P6 Mp;refine(qA s0 s1 (Pl.fN s0 s1) W sz0 sz1 (fun h h' X=>vd s0 s1 X h h') (fun h h' X hX=>vz s0 s1 X h h' (hg.later hX) (fun line Y hl hY=>QM line hl Y (hq.later (ae hX hY))))).mono fun e W' ⟨he,bel⟩=> ?_;subst he;exact⟨_,rfl,_,_,_,[],_,[],Ux,trodAll_mk1 (shut_bool Tryz.underlying4 _),(trodAll_cons_mk (Below.trod E5 (by kernel_rfl) (of_decide_eq_true (by kernel_rfl)) k0 bel lt0) (trodAll_cons_mk (Below.trod E5 (by kernel_rfl) (of_decide_eq_true (by kernel_rfl)) k1 bel lt1) trodAll_mk0)),rfl,bel.frame _,fun h=>by cases h⟩
theorem pP:Rows.FnExactSheetReportSaid:=
 OpenClaim.holds_of_wide 3 Tryz.f3 rfl rfl rfl rfl rfl rfl rfl ⟨rfl,rfl,rfl,rfl,rfl⟩ rfl rfl rfl rfl rfl (by kernel_rfl) Tryz.func3 (by kernel_rfl)
  (of_decide_eq_true (by kernel_rfl)) (by unfold Func.isWrapper;first|(rw[if_pos (by decide+kernel)];kernel_rfl)|(rw[if_neg (by decide+kernel)];exact⟨rfl,rfl⟩))
  (fun os started H enc _=>mj os started H enc)
theorem sheetReport_holds:Rows.FnExactSheetReportCardSaid:=
 Claim7.holds_tied_plain_at .later [] [.data,.data,.data,.data,.handle,.pinned] true (true, "23a64db7535dd4335487a3fb8c71f3a22ae996d1179304c0b920c8a9c6636c13") true
  pP (fun _ h=>by cases h) (by kernel_rfl) (fun _ h=>by cases h) fnExactSheetReport_row_tie rfl ⟨rfl,rfl⟩ (by kernel_rfl) rfl
  (fun f fn hf OI=>by
   obtain rfl:f=3:=Option.some.inj ((show Tryz.prog.funcNamed "loop.example/wharfdesk/laws.FnExactSheetReport" =some 3 by kernel_rfl).symm.trans hf)|>.symm;obtain rfl:fn=Tryz.f3:=(Option.some.inj (Tryz.func3.symm.trans OI)).symm;exact⟨by kernel_rfl,fun j t ht=>by
    rw[Tryz.params3]at ht;rcases j with _|_|j
    ·obtain rfl:9=t:=by simpa using ht
     exact(show Tryz.prog.wantsStandIn 9=false by kernel_rfl)
    ·obtain rfl:9=t:=by simpa using ht
     exact(show Tryz.prog.wantsStandIn 9=false by kernel_rfl)
    ·simp at ht⟩)
  (by kernel_rfl)
end Go.Proofs.YtgiglpnaekbegaaGreatDoor
