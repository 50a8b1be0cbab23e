import Derived.Test.YtopjjknojnfhmaaGreatDoorEBy
import Derived.Test.YtopjjknojnfhmaaGreatDoorEPw
namespace Go.Proofs.YtopjjknojnfhmaaGreatDoor
set_option maxRecDepth 8000
set_option maxHeartbeats 40000000
open Go.RowKit Go.Deep
theorem gX (c:UInt8) (w:World):
  Calls Tryz.prog 109 #[.int .u8 c.toNat] w fun e w'=>e=.returned (.bool (Pl.eC c))∧w=w':=by
 go_enter Tryz.func109,Tryz.ntmps109
 go_wp2
 all_goals go_ret
 all_goals exact⟨Pl.aq (by rw[Bool.eq_iff_iff];simp[Pl.eC]at*;omega),rfl⟩
theorem sY (c:UInt8) (w:World):
  Calls Tryz.prog 124 #[.int .u8 c.toNat] w fun e w'=>e=.returned (.bool (Pl.bx c))∧w=w':=by
 have HE:Hid (Pl.bx c=(Pl.eC c&&(c.toNat !=32)&&(c.toNat !=35))):=by
  show _=_;rw[Bool.eq_iff_iff];simp[Pl.bx,Pl.eC];omega
 obtain⟨B,hB⟩:∃ B,B=Pl.eC c:=⟨_,rfl⟩
 have HC:Hid (Calls Tryz.prog 109 #[.int .u8 c.toNat] w fun e w'=>e=.returned (.bool B)∧w=w'):=by
  rw[hB];exact gX c w
 rw[← hB]at HE;clear hB;go_enter Tryz.func124,Tryz.ntmps124
 cases B
 all_goals go_wp2_with (go_at_call 109;refine HC.out.mono ?_;rintro e w' ⟨rfl,rfl⟩)
 all_goals go_ret
 all_goals exact⟨Pl.aq (by rw[HE.out,Bool.eq_iff_iff];simp at*;try omega),rfl⟩
theorem rI (s:ByteArray) (w:World) (hs:s.size≤1048576):
  Calls Tryz.prog 108 #[.agg #[],.string s] w fun e w'=>∃ p,p≤s.size∧s.data.toList.takeWhile Pl.bx=s.data.toList.take p∧e=.returned (.tuple #[.string (s.extract 0 p),.string (s.extract p s.size),.bool (decide (0<p))])∧Bel w w':=by
 go_enter Tryz.func108,Tryz.ntmps108
 go_wp2;go_loop [7] (fun i=>∃ k:Nat,k≤s.size∧i=.int .i64 k∧Hid (∀ j (h:j<s.size),j<k→Pl.bx s[j]=true)) (fun i=>s.size - (intOf i).toNat)
 case atStart=>exact⟨0,zN,rfl,fun j _ h=>by omega⟩
 case round=>
  obtain⟨k,hk,rfl,HA⟩:=hrel;by_cases bd:k<s.size
  ·obtain⟨c,hc⟩:∃ c,c=Pl.bx s[k]:=⟨_,rfl⟩
   have HK:=uh hc;have HC:Hid (∀ w,Calls Tryz.prog 124 #[.int .u8 s[k].toNat] w fun e w'=>e=.returned (.bool c)∧w=w'):=by
    rw[hc];exact fun w=>sY _ w
   clear hc;cases c
   ·go_wp2_with (go_at_call 124;refine(HC.out _).mono ?_;rintro e w' ⟨rfl,rfl⟩)
    have HT:Hid (s.data.toList.takeWhile Pl.bx=s.data.toList.take k):=Pl.sM _ _ (by rw[Pl.aD];exact hk) (fun i hi LU=>HA.out i (by rw[Pl.aD]at hi;exact hi) LU) (fun hh=>HK.out.symm);clear HA HK HC;go_region
    all_goals go_wp2
    all_goals go_ret3
    all_goals refine⟨k,hk,HT.out,rfl, ?_⟩
    all_goals repeat(first|exact zR|refine ae ?_ _|refine Below.drew ?_)
   ·go_wp2_with (go_at_call 124;refine(HC.out _).mono ?_;rintro e w' ⟨rfl,rfl⟩)
    go_round
    case rel=>exact⟨k+1,by omega,by go_num,fun j h hj=>by rcases Nat.lt_succ_iff_lt_or_eq.1 hj with q|rfl;exact HA.out j h q;exact HK.out.symm⟩
    case measure=>simp[intOf];omega
  ·have HT:Hid (s.data.toList.takeWhile Pl.bx=s.data.toList.take k):=Pl.sM _ _ (by rw[Pl.aD];exact hk) (fun i hi LU=>HA.out i (by rw[Pl.aD]at hi;exact hi) LU) (fun hh=>absurd (show k<s.size by rw[Pl.aD]at hh;exact hh) bd);clear HA;go_wp2;go_region
   all_goals go_wp2
   all_goals go_ret3
   all_goals refine⟨k,hk,HT.out,rfl, ?_⟩
   all_goals repeat(first|exact zR|refine ae ?_ _|refine Below.drew ?_)
end Go.Proofs.YtopjjknojnfhmaaGreatDoor
