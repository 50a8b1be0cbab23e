import Derived.Test.YtbiokpmdghmgcaaGreatMayFacts
import Derived.Test.YtbiokpmdghmgcaaGreatLawMa
import Derived.Test.YtbiokpmdghmgcaaGreatOpenL
import Derived.Test.YtbiokpmdghmgcaaGreatOpenB
namespace Go.Proofs.YtbiokpmdghmgcaaGreat
open Go.ChangeShapes Go.WideShapes Go.ChangeAt Go.RowKit Go.Deep
set_option maxRecDepth 100000 in
theorem uu5 (os:Os) (started:os.Started) (H:Type) (enc:TypeId×Value→H):
  ReturnsInHanded {} Tryz.checked os 4 .any (Rows.fnExactGateMaySpec.pre6 enc Tryz.prog Tryz.f4 Rows.fnExactGateMayRow.domain false) (Rows.fnExactGateMaySpec.post enc Tryz.prog Tryz.f4 false true false false):=by
 refine returnsInHanded_of_change (C:=Tryz.checked) LC started (by kernel_rfl) Tryz.func4
  (ChangeSpec.witness6 (enc:=enc) (C:=Tryz.checked) false ⟨#[],#[.agg #[.slice none 0 0,.slice none 0 0,.slice none 0 0],.agg #[.int .i64 0,.int .i64 0,.int .i64 0,.slice none 0 0,.slice none 0 0,.slice none 0 0,.slice none 0 0],.string ByteArray.empty,.agg #[.int .i64 0,.string ByteArray.empty,.string ByteArray.empty,.string ByteArray.empty]],[]⟩ 8 (by kernel_rfl) (by kernel_rfl) (by kernel_rfl) (by kernel_rfl)) ?_
 intro W base args ds gs before EO hW _ _;have BI:∀ (j:Nat) t v,Tryz.f4.params[j]? =some t→args[j]? =some v→Value.okWide Tryz.prog W .any base t v:=EO;have ml:=hW;obtain⟨p,q,hA0,hV,rfl,_,_⟩:=hW;have hA:DataW.TrodAll enc Tryz.prog W 0 (fun _=>true) true Tryz.f4.params.toList args.toList ds p:=hA0;rw[Tryz.params4]at hA BI;obtain⟨v0,vs0,d0,ds0,p0,q0,hargs,rfl,rfl,h0,r0⟩:=trodAll_cons hA;obtain⟨v1,vs1,d1,ds1,p1,q1,rfl,rfl,rfl,h1,r1⟩:=trodAll_cons r0;obtain⟨v2,vs2,d2,ds2,p2,q2,rfl,rfl,rfl,h2,r2⟩:=trodAll_cons r1;obtain⟨v3,vs3,d3,ds3,p3,q3,rfl,rfl,rfl,h3,r3⟩:=trodAll_cons r2;obtain⟨rfl,rfl,rfl⟩:=trodAll_nil r3;obtain rfl:args=#[v0,v1,v2,v3]:=by cases args;simp_all
 obtain⟨rfl,rfl⟩:=trodVars_none hV;have k0:=h0;have lt0:∀ x∈p0,x.block<W.heap.size:=by obtain⟨m,hm⟩:=k0;exact DataW.trod_lt m _ _ _ hm
 have k1:=h1;have lt1:∀ x∈p1,x.block<W.heap.size:=by obtain⟨m,hm⟩:=k1;exact DataW.trod_lt m _ _ _ hm
 have k2:=h2;have lt2:∀ x∈p2,x.block<W.heap.size:=by obtain⟨m,hm⟩:=k2;exact DataW.trod_lt m _ _ _ hm
 have k3:=h3;have lt3:∀ x∈p3,x.block<W.heap.size:=by obtain⟨m,hm⟩:=k3;exact DataW.trod_lt m _ _ _ hm
 obtain⟨ND,rfl,_⟩:=okWide_struct Tryz.underlying26 (BI 0 26 v0 rfl rfl);obtain⟨I6,rfl,_⟩:=okWide_struct Tryz.underlying32 (BI 1 32 v1 rfl rfl);obtain⟨s2,rfl⟩:=okWide_string Tryz.underlying9 (BI 2 9 v2 rfl rfl);obtain⟨cs3,rfl,_⟩:=okWide_struct Tryz.underlying53 (BI 3 53 v3 rfl rfl);obtain⟨fuel0,hf0⟩:=h0;obtain⟨L0,lv00,lv10,lv20,rB,LY⟩:=zL hf0;obtain rfl:ND=#[lv00,lv10,lv20]:=by
  cases ND;simpa [Value.cells]using rB
 obtain⟨fuel1,hf1⟩:=h1;obtain⟨K1,bv01,bv11,bv21,bv31,Ei,Me⟩:=xW hf1;obtain rfl:I6=#[.int .i64 K1.now,.int .i64 K1.tick,.int .i64 K1.given,bv01,bv11,bv21,bv31]:=by
  cases I6;simpa [Value.cells]using Ei
 obtain⟨fuel3,hf3⟩:=h3;obtain⟨d3x,MQ,NB⟩:=yr hf3;obtain rfl:cs3=#[.int .i64 d3x.verb,.string d3x.kind,.string d3x.team,.string d3x.name]:=by
  cases cs3;simpa [Value.cells]using MQ
 clear hA0 EO;refine(Fw L0 lv00 lv10 lv20 K1 bv01 bv11 bv21 bv31 s2 d3x W LY Me ⟨NB,rfl⟩).mono fun e W' ⟨he,bel⟩=> ?_;subst he;exact⟨_,rfl,_,_,_,[],_,[],ml,trodAll_mk1 (shut_bool Tryz.underlying4 _),(trodAll_cons_mk (Below.trod l9 (by kernel_rfl) (of_decide_eq_true (by kernel_rfl)) k0 bel lt0) (trodAll_cons_mk (Below.trod l9 (by kernel_rfl) (of_decide_eq_true (by kernel_rfl)) k1 bel lt1) (trodAll_cons_mk (Below.trod l9 (by kernel_rfl) (of_decide_eq_true (by kernel_rfl)) k2 bel lt2) (trodAll_cons_mk (Below.trod l9 (by kernel_rfl) (of_decide_eq_true (by kernel_rfl)) k3 bel lt3) trodAll_mk0)))),rfl,bel.frame _,fun h=>by cases h⟩
theorem may_holds:Rows.FnExactGateMaySaid:=
 OpenClaim.holds_of_wide 4 Tryz.f4 rfl rfl rfl rfl rfl rfl rfl ⟨rfl,rfl,rfl,rfl,rfl⟩ rfl rfl rfl rfl rfl xQ Tryz.func4 uX Af AD
  (fun os started H enc _=>uu5 os started H enc)
end Go.Proofs.YtbiokpmdghmgcaaGreat
