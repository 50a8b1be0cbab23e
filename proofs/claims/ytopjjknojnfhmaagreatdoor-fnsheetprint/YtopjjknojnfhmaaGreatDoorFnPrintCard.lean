import Derived.ChangeSame
import Derived.ChangeVars
import Derived.JoinedOf
import Derived.RowKitTokens
import Derived.LaidLaws
import Derived.LaidHandle
import Derived.Lib.LaidTab
import Derived.Stop.LaidErr
import Derived.Stop.Joined
import Derived.SevenTiedAt
import Derived.OpenShut
import Derived.ShutString
import Derived.ProofKit
import Derived.ChangeOld
import Derived.SliceStrings
import Derived.Deep.Slices
import Derived.ChangeSlices
import Derived.Test.YtopjjknojnfhmaaGreatDoorLawPr
import Derived.Test.YtopjjknojnfhmaaGreatDoorTie
import Derived.Test.YtopjjknojnfhmaaGreatDoorCards
namespace Go.Proofs.YtopjjknojnfhmaaGreatDoor
set_option maxRecDepth 8000
open Go.ChangeShapes Go.WideShapes Go.ChangeAt Go.RowKit Go.Deep
theorem Ny:ownKnob Tryz.prog.godebug=none:=by kernel_rfl
theorem KQ:laidOutB Tryz.prog=true:=by kernel_rfl
section
variable {H:Type} {enc:TypeId×Value→H}
theorem Ad {W:World} {base:Nat} {v1:Value} {d1:DataW H} {p1:List MemPlace} (H6:Value.okWide Tryz.prog W .any base 22 v1) (h1:DataW.Trod enc Tryz.prog W 0 (fun _=>true) true 22 v1 d1 p1):jw W v1:=by
 obtain⟨a1,len,cap,rfl⟩:=okWide_slice Tryz.underlying22 H6;have lt:∀ x∈p1,x.block<W.heap.size:=by obtain⟨m,hm⟩:=h1;exact DataW.trod_lt m _ _ _ hm
 obtain⟨fuel,hf⟩:=h1;rcases open_ints Tryz.underlying22 Tryz.underlying5 Tryz.oN hf with⟨iE,hx⟩|⟨a,len',cap',zs,iE,_,hl,hm,hz,hx,gV,zH⟩
 ·simp[Value.cells]at iE;obtain⟨rfl,rfl,rfl⟩:=iE;exact Or.inl ⟨_,_,rfl⟩
 ·simp[Value.cells]at iE;obtain⟨rfl,rfl,rfl⟩:=iE;simp only[Prod.mk.injEq]at hx;obtain⟨rfl,rfl⟩:=hx;simp only[if_true]at hz;by_cases h0:len=0
  ·subst h0;exact Or.inl ⟨_,_,rfl⟩
  ·obtain⟨ab,ao,spot⟩:=a;have Pn:spot=none:=by simpa [Addr.add]using World.cell?_spot (gV 0 (by omega))
   subst Pn;have hb:=lt (.cell ab (ao+0)) (by simp only[MemPlace.row,List.mem_map,List.mem_range];exact⟨0,by omega,rfl⟩);refine Or.inr ⟨ab,ao,len,cap,rfl,hb,hl,hm,fun i hi=> ?_⟩;have hr:=range_u8 zH i;have M4:=gV i (by omega);rw[Addr.add_lit]at M4;exact⟨_,hr.1,by have:=hr.2;omega,M4⟩
end
def Eu:DataW Unit→Value
 |.lit (.int k z)=> .int k z
 |_=> .bool false
def NB:DataW Unit→List Value
 |.agg l=>l.map Eu
 |d=> [Eu d]
def De:DataW Unit→Array Value
 |.agg l=>(l.flatMap NB).toArray
 |_=> #[]
def yV (d:DataW Unit):Obj→Obj
 |.cells _ t frozen=> .cells (De d) t frozen
 |o=>o
theorem Tryz.et:Tryz.prog.globalNamed "errors.errorType" =some 0:=by kernel_rfl
theorem Tryz.rt:(Tryz.prog.cutTypes.find? (·.1== "internal/reflectlite.rtype")).map (·.2)=some 140:=by kernel_rfl
theorem Tryz.JX:((List.range 241).filter fun t=>Tryz.prog.rowNamed t [101,114,114,111,114])=[72]:=by kernel_rfl
theorem Tryz.ND:Tryz.prog.types.size=241:=by kernel_rfl
theorem sF {W:World} (h:laidMetH Tryz.prog Rows.fnSheetPrintRow.laid W):qE W:=by
 have h':laidMet Tryz.prog [("unicode/utf8.acceptRanges",Rows.laid_unicode_utf8_acceptRanges),("unicode/utf8.first",Rows.laid_unicode_utf8_first)] W∧handlesMet Tryz.prog [("errors.errorType",Rows.laid_errors_errorType)] W:=h;obtain⟨name,u,ty,e1,e2,e3,e4,e5⟩:=h'.2 _ (List.mem_singleton.2 rfl);have en:name=[101,114,114,111,114]:=(Option.some.inj e1).symm;subst en;obtain rfl:=Option.some.inj (Tryz.rt.symm.trans e2);have hm:ty∈(List.range 241).filter fun t=>Tryz.prog.rowNamed t [101,114,114,111,114]:=List.mem_filter.2 ⟨List.mem_range.2 (by rw[← Tryz.ND];exact e3),e4⟩;rw[Tryz.JX]at hm;obtain rfl:=List.mem_singleton.1 hm;have hh:typeHandle Tryz.prog 72=.pointer (some ⟨4,72,none⟩):=by kernel_rfl
 rw[hh]at e5;show W.cell? ⟨0,0,none⟩=some (.iface 140 (.agg #[.pointer (some ⟨4,72,none⟩)]));simpa using World.var?_cell Tryz.et e5 0
noncomputable def laidWorld (os:Os):World:=
 let w0:=World.holding Tryz.prog os ⟨#[],#[],[]⟩
 {w0 with heap:=(((w0.heap.modify 0 fun
   |.cells _ t frozen=> .cells #[.iface 140 (.agg #[.pointer (some ⟨4,72,none⟩)])] t frozen
   |o=>o).modify 2 (yV Rows.laid_unicode_utf8_first)).modify 3 (yV Rows.laid_unicode_utf8_acceptRanges))}
theorem qI (os:Os) (args:Array Value):laidMetH Tryz.prog Rows.fnSheetPrintRow.laid ((laidWorld os).forCall (fun _ _=>0) ⟨#[],args,[]⟩).memory:=
 laidMetH_of_parts (laidMet_of_run' 8 (by kernel_rfl) (by kernel_rfl)) (by kernel_rfl)
theorem tg (os:Os) (started:os.Started) (H:Type) (enc:TypeId×Value→H):
  ReturnsInHanded {} Tryz.checked os 3 .any (fun w args=>(Rows.fnSheetPrintSpec.pre enc Tryz.prog Tryz.f3 [] false w args∧laidMetH Tryz.prog Rows.fnSheetPrintRow.laid w)∧sizedMet enc Tryz.prog Tryz.f3 (OpenSpec.ofChange Rows.fnSheetPrintSpec) false w args)
   (Rows.fnSheetPrintSpec.post enc Tryz.prog Tryz.f3 false true false false):=by
 refine returnsInHanded_of_change_and (C:=Tryz.checked) (X:=fun w _=>laidMetH Tryz.prog Rows.fnSheetPrintRow.laid w) (fun _ _ _ hh h=>h.of_heap hh) Ny started (by kernel_rfl) Tryz.func3
  (ChangeSpec.witness_at (enc:=enc) (C:=Tryz.checked) (os:=os) (X:=fun w _=>laidMetH Tryz.prog Rows.fnSheetPrintRow.laid w) false (laidWorld os) #[.slice none 0 0] 8 rfl (by kernel_rfl) (by kernel_rfl) (by kernel_rfl) (by kernel_rfl) (by kernel_rfl) (qI os _)) ?_
 intro W base args ds gs before I4 hW _ _ hL _;have hg:=sF hL;have H6:∀ (j:Nat) t v,Tryz.f3.params[j]? =some t→args[j]? =some v→Value.okWide Tryz.prog W .any base t v:=I4;have SN:=hW;obtain⟨p,q,hA0,hV0,rfl,_,_⟩:=hW;have hA:DataW.TrodAll enc Tryz.prog W 0 (fun _=>true) true Tryz.f3.params.toList args.toList ds p:=hA0;rw[Tryz.params3]at hA H6;obtain⟨v0,vs0,d0,ds0,p0,q0,hargs,rfl,rfl,h0,r0⟩:=trodAll_cons hA;obtain⟨rfl,rfl,rfl⟩:=trodAll_nil r0;obtain rfl:args=#[v0]:=by cases args;simp_all
 have hV:DataW.TrodVars enc Tryz.prog W (fun _=>true) [] gs q:=hV0;obtain⟨rfl,rfl⟩:gs=[]∧q=[]:=by
  cases gs with
  |nil=>exact⟨rfl,hV⟩
  |cons g r=>exact absurd hV (by intro h;cases h)
 have k0:=h0;have lt0:∀ x∈p0,x.block<W.heap.size:=by obtain⟨m,hm⟩:=k0;exact DataW.trod_lt m _ _ _ hm
 have hc0:=Ad (H6 0 22 v0 rfl rfl) h0;clear hA0 I4;refine(Nd _ W hc0 hg).mono fun e W' ⟨he,bel⟩=> ?_;subst he;exact⟨_,rfl,_,_,_,[],_,[],SN,trodAll_mk1 (shut_bool Tryz.underlying4 _),(trodAll_cons_mk (Below.trod KQ (by kernel_rfl) (of_decide_eq_true (by kernel_rfl)) k0 bel lt0) trodAll_mk0),rfl,bel.frame _,fun h=>by cases h⟩
theorem Ax:Rows.FnSheetPrintSaid:=
 OpenClaim.holds_of_wide 3 Tryz.f3 rfl rfl rfl rfl rfl rfl rfl ⟨rfl,rfl,rfl,rfl,rfl⟩ rfl rfl rfl rfl rfl (by kernel_rfl) Tryz.func3 (by kernel_rfl)
  (of_decide_eq_true (by kernel_rfl)) (by unfold Func.isWrapper;first|(rw[if_pos (by decide+kernel)];kernel_rfl)|(rw[if_neg (by decide+kernel)];exact⟨rfl,rfl⟩))
  (fun os started H enc _=>tg os started H enc)
theorem print_holds:Rows.FnSheetPrintCardSaid:=
 Claim7.holds_tied_plain_at .later [] [.data,.handle,.pinned] true (true, "f1043b269814d678fa9e7812dfa9fafcb58f84d54e1ce876898b8fc0435a6ba9") true
  Ax (fun _ h=>by cases h) (by kernel_rfl) (fun _ h=>by cases h) fnSheetPrint_row_tie rfl ⟨rfl,rfl⟩ (by kernel_rfl) rfl
  (fun f fn hf Mp=>by
   obtain rfl:f=3:=Option.some.inj ((show Tryz.prog.funcNamed "loop.example/wharfdesk/laws.FnSheetPrint" =some 3 by kernel_rfl).symm.trans hf)|>.symm;obtain rfl:fn=Tryz.f3:=(Option.some.inj (Tryz.func3.symm.trans Mp)).symm;exact⟨by kernel_rfl,fun j t ht=>by
    rw[Tryz.params3]at ht;rcases j with _|j
    ·obtain rfl:22=t:=by simpa using ht
     exact(show Tryz.prog.wantsStandIn 22=false by kernel_rfl)
    ·simp at ht⟩)
  (by kernel_rfl)
end Go.Proofs.YtopjjknojnfhmaaGreatDoor
