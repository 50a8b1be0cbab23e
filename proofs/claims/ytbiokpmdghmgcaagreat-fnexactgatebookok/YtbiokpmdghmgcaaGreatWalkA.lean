import Derived.Test.YtbiokpmdghmgcaaGreatProg
import Derived.RowKit
import Derived.WalkKit
import Derived.WalkSpells
import Derived.WalkLawsBesides
import Derived.Test.YtbiokpmdghmgcaaGreatPlain
namespace Go.Proofs.YtbiokpmdghmgcaaGreat
set_option maxHeartbeats 40000000
open Go.RowKit
theorem bb (n lo hi:Int) (w:World):
  Calls Tryz.prog 25 #[.int .i64 n,.int .i64 lo,.int .i64 hi] w fun e w'=>e=.returned (.bool (decide (lo≤n)&&decide (n≤hi)))∧w=w':=by
 by_cases h:lo≤n
 ·go_enter Tryz.func25,Tryz.ntmps25
  go_wp2;go_ret;exact⟨Pl.ae (by simp[h]),rfl⟩
 ·go_enter Tryz.func25,Tryz.ntmps25
  go_wp2;go_ret;exact⟨Pl.ae (by rw[Bool.eq_iff_iff];simp;omega),rfl⟩
theorem jJ (c:UInt8) (w:World):
  Calls Tryz.prog 125 #[.int .u8 c.toNat] w fun e w'=>e=.returned (.bool (Pl.cI c))∧w=w':=by
 go_enter Tryz.func125,Tryz.ntmps125
 go_wp2
 all_goals go_ret
 all_goals exact⟨Pl.ae (by rw[Bool.eq_iff_iff];simp[Pl.cI];omega),rfl⟩
theorem aH (s:ByteArray) (w:World) (hs:s.size≤maxLen):
  Calls Tryz.prog 68 #[.string s] w fun e w'=>e=.returned (.bool (Pl.aq s))∧w=w':=by
 unfold maxLen at hs;by_cases bC:1≤s.size∧s.size≤16
 ·obtain⟨h1,h2⟩:=bC;have hb:(decide ((1:Int)≤(s.size:Int))&&decide ((s.size:Int)≤16))=true:=by simp;omega
  go_enter Tryz.func68,Tryz.ntmps68
  go_wp2_with (go_at_call 25;refine(bb _ _ _ _).mono ?_;rintro e w' ⟨rfl,rfl⟩)
  go_loop [3] (fun i=>∃ k:Nat,k≤s.size∧i=.int .i64 k∧(s.data.toList.take k).all Pl.cI=true) (fun i=>s.size - (intOf i).toNat)
  case atStart=>exact⟨0,nz,rfl,rfl⟩
  case round=>
   obtain⟨k,hk,rfl,av⟩:=hrel;have HA:=hid av;clear av;by_cases aw:k<s.size
   ·by_cases hn:Pl.cI s[k]=true
    ·go_wp2_with (go_at_call 125;refine(jJ _ _).mono ?_;rintro e w' ⟨rfl,rfl⟩)
     go_round
     case rel=>exact⟨k+1,by omega,by go_num,by rw[Pl.gH _ _ _ aw,HA.out,hn];rfl⟩
     case measure=>simp[intOf];omega
    ·have yh:Pl.cI s[k]=false:=by simpa using hn
     have HF:Hid (Pl.aq s=false):=by show Pl.aq s=false;simp[Pl.aq,Pl.nameBytes,Pl.all_false _ s k aw yh]
     go_wp2_with (go_at_call 125;refine(jJ _ _).mono ?_;rintro e w' ⟨rfl,rfl⟩)
     go_ret;exact⟨Pl.ae HF.out.symm,rfl⟩
   ·have HF:Hid (Pl.aq s=true):=by
     show Pl.aq s=true;have:=Pl.jj Pl.cI s k (by omega);simp only[Pl.aq,Pl.nameBytes,← this,HA.out];simp;omega
    go_wp2;go_ret;exact⟨Pl.ae HF.out.symm,rfl⟩
 ·have HF:Hid (Pl.aq s=false):=by
   show Pl.aq s=false;have:(decide (1≤s.size)&&decide (s.size≤16))=false:=by
    rw[Bool.eq_false_iff];simp;omega
   simp[Pl.aq,this]
  have hb:(decide ((1:Int)≤(s.size:Int))&&decide ((s.size:Int)≤16))=false:=by
   rw[Bool.eq_false_iff];simp;omega
  clear bC;go_enter Tryz.func68,Tryz.ntmps68
  go_wp2_with (go_at_call 25;refine(bb _ _ _ _).mono ?_;rintro e w' ⟨rfl,rfl⟩)
  go_ret;exact⟨Pl.ae HF.out.symm,rfl⟩
theorem aV (s:ByteArray) (w:World) (hs:s.size≤maxLen):
  Calls Tryz.prog 145 #[.string s] w fun e w'=>e=.returned (.bool (Pl.nameBytes s))∧w=w':=by
 unfold maxLen at hs;go_enter Tryz.func145,Tryz.ntmps145
 go_wp2;go_loop [7] (fun i=>∃ k:Nat,k≤s.size∧i=.int .i64 k∧(s.data.toList.take k).all Pl.cI=true) (fun i=>s.size - (intOf i).toNat)
 case atStart=>exact⟨0,nz,rfl,rfl⟩
 case round=>
  obtain⟨k,hk,rfl,av⟩:=hrel;have HA:=hid av;clear av;by_cases aw:k<s.size
  ·go_wp2
   all_goals simp only[Bool.not_eq_eq_eq_not,Bool.not_true,Bool.not_false,beq_iff_eq,beq_eq_false_iff_ne,decide_eq_true_eq,decide_eq_false_iff_not]at*
   all_goals first
    |(go_ret
      have hn:Pl.cI s[k]=false:=by rw[Bool.eq_false_iff];simp[Pl.cI];omega
      exact⟨Pl.ae (Pl.all_false _ s k aw hn).symm,rfl⟩)
    |(have hn:Pl.cI s[k]=true:=by simp[Pl.cI];omega
      go_round
      case rel=>exact⟨k+1,by omega,by go_num,by rw[Pl.gH _ _ _ aw,HA.out,hn];rfl⟩
      case measure=>simp[intOf];omega)
  ·have HF:Hid (Pl.nameBytes s=true):=by
    show Pl.nameBytes s=true;have:=Pl.jj Pl.cI s k (by omega);simp only[Pl.nameBytes,← this,HA.out]
   go_wp2;go_ret;exact⟨Pl.ae HF.out.symm,rfl⟩
theorem aK (s:ByteArray) (w:World) (hs:s.size≤maxLen):
  Calls Tryz.prog 89 #[.string s] w fun e w'=>e=.returned (.bool (Pl.aq s))∧w=w':=by
 have xV:=hs;unfold maxLen at hs;by_cases h1:1≤s.size
 ·by_cases h2:s.size≤16
  ·have HF:Hid (Pl.aq s=Pl.nameBytes s):=by show Pl.aq s=Pl.nameBytes s;simp[Pl.aq,h1,h2]
   go_enter Tryz.func89,Tryz.ntmps89
   go_wp2_with (go_at_call 145;refine(aV _ _ xV).mono ?_;rintro e w' ⟨rfl,rfl⟩)
   go_ret;exact⟨Pl.ae HF.out.symm,rfl⟩
  ·have HF:Hid (Pl.aq s=false):=by show Pl.aq s=false;simp[Pl.aq,h2]
   go_enter Tryz.func89,Tryz.ntmps89
   go_wp2;go_ret;exact⟨Pl.ae HF.out.symm,rfl⟩
 ·have HF:Hid (Pl.aq s=false):=by show Pl.aq s=false;simp[Pl.aq,h1]
  go_enter Tryz.func89,Tryz.ntmps89
  go_wp2;go_ret;exact⟨Pl.ae HF.out.symm,rfl⟩
end Go.Proofs.YtbiokpmdghmgcaaGreat
