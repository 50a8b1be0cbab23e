import Derived.Test.YtbiokpmdghmgcaaGreatBkFacts
import Derived.Test.YtbiokpmdghmgcaaGreatLawBk
import Derived.Test.YtbiokpmdghmgcaaGreatOpenL
import Derived.Test.YtbiokpmdghmgcaaGreatOpenB
namespace Go.Proofs.YtbiokpmdghmgcaaGreat
open Go.ChangeShapes Go.WideShapes Go.ChangeAt Go.RowKit Go.Deep
set_option maxRecDepth 100000 in
theorem pe (os:Os) (started:os.Started) (H:Type) (enc:TypeId×Value→H):
  ReturnsInHanded {} Tryz.checked os 3 .any (Rows.fnExactGateBookOkSpec.pre6 enc Tryz.prog Tryz.f3 Rows.fnExactGateBookOkRow.domain false) (Rows.fnExactGateBookOkSpec.post enc Tryz.prog Tryz.f3 false true false false):=by
 refine returnsInHanded_of_change (C:=Tryz.checked) J8 started (by kernel_rfl) Tryz.func3
  (ChangeSpec.witness6 (enc:=enc) (C:=Tryz.checked) false ⟨#[],#[.agg #[.slice none 0 0,.slice none 0 0,.slice none 0 0],.agg #[.int .i64 0,.int .i64 0,.int .i64 0,.slice none 0 0,.slice none 0 0,.slice none 0 0,.slice none 0 0]],[]⟩ 8 (by kernel_rfl) (by kernel_rfl) (by kernel_rfl) (by kernel_rfl)) ?_
 intro W base args ds gs before Dm hW _ _;have Fo:∀ (j:Nat) t v,Tryz.f3.params[j]? =some t→args[j]? =some v→Value.okWide Tryz.prog W .any base t v:=Dm;have lX:=hW;obtain⟨p,q,hA0,hV,rfl,_,_⟩:=hW;have hA:DataW.TrodAll enc Tryz.prog W 0 (fun _=>true) true Tryz.f3.params.toList args.toList ds p:=hA0;rw[Tryz.params3]at hA Fo;obtain⟨v0,vs0,d0,ds0,p0,q0,hargs,rfl,rfl,h0,r0⟩:=trodAll_cons hA;obtain⟨v1,vs1,d1,ds1,p1,q1,rfl,rfl,rfl,h1,r1⟩:=trodAll_cons r0;obtain⟨rfl,rfl,rfl⟩:=trodAll_nil r1;obtain rfl:args=#[v0,v1]:=by cases args;simp_all
 obtain⟨rfl,rfl⟩:=trodVars_none hV;have k0:=h0;have lt0:∀ x∈p0,x.block<W.heap.size:=by obtain⟨m,hm⟩:=k0;exact DataW.trod_lt m _ _ _ hm
 have k1:=h1;have lt1:∀ x∈p1,x.block<W.heap.size:=by obtain⟨m,hm⟩:=k1;exact DataW.trod_lt m _ _ _ hm
 obtain⟨cs0,rfl,_⟩:=okWide_struct Tryz.underlying26 (Fo 0 26 v0 rfl rfl);obtain⟨Jn,rfl,_⟩:=okWide_struct Tryz.underlying32 (Fo 1 32 v1 rfl rfl);obtain⟨fuel0,hf0⟩:=h0;obtain⟨L0,lv00,lv10,lv20,qO,Lt⟩:=yo hf0;obtain rfl:cs0=#[lv00,lv10,lv20]:=by
  cases cs0;simpa [Value.cells]using qO
 obtain⟨fuel1,hf1⟩:=h1;obtain⟨K1,bv01,bv11,bv21,bv31,CZ,LJ⟩:=wX hf1;obtain rfl:Jn=#[.int .i64 K1.now,.int .i64 K1.tick,.int .i64 K1.given,bv01,bv11,bv21,bv31]:=by
  cases Jn;simpa [Value.cells]using CZ
 clear hA0 Dm;refine(wv L0 lv00 lv10 lv20 K1 bv01 bv11 bv21 bv31 W Lt LJ).mono fun e W' ⟨he,bel⟩=> ?_;subst he;exact⟨_,rfl,_,_,_,[],_,[],lX,trodAll_mk1 (shut_bool Tryz.underlying4 _),(trodAll_cons_mk (Below.trod sg (by kernel_rfl) (of_decide_eq_true (by kernel_rfl)) k0 bel lt0) (trodAll_cons_mk (Below.trod sg (by kernel_rfl) (of_decide_eq_true (by kernel_rfl)) k1 bel lt1) trodAll_mk0)),rfl,bel.frame _,fun h=>by cases h⟩
theorem bookOk_holds:Rows.FnExactGateBookOkSaid:=
 OpenClaim.holds_of_wide 3 Tryz.f3 rfl rfl rfl rfl rfl rfl rfl ⟨rfl,rfl,rfl,rfl,rfl⟩ rfl rfl rfl rfl rfl qK Tryz.func3 pg rY rf
  (fun os started H enc _=>pe os started H enc)
end Go.Proofs.YtbiokpmdghmgcaaGreat
